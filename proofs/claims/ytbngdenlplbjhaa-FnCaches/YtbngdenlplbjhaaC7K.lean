/-
  LearnEntry of the program.
-/
import Derived.Lib.MinMax
import Derived.Test.YtbngdenlplbjhaaC7L
import Derived.Test.YtbngdenlplbjhaaC7R
namespace Go.Proofs.Ytbngdenlplbjhaa
open Go.ChangeShapes Go.WideShapes Go.ChangeAt Go.RowKit
open Go.ChangeMaps (setBlock)

theorem Mp.dropAny {w : World} {b : Nat} {ns : List Nt} {es : Array MapEntry} {clock : Nat} (h : Mp w b ns es clock) {x : Int} (hx : okI x) :
    ∃ es', (∀ ty, (Builtin.delete_ #[80, 83] ty #[.map (some b), KN x]).run Try.prog w = .ok (.tuple #[]) (setBlock w b (.map es' clock))) ∧ Mp (setBlock w b (.map es' clock)) b (noN x ns) es' clock := by
  by_cases hex : ∃ q ∈ ns, q.i = x
  · obtain ⟨q, hq, rfl⟩ := hex
    obtain ⟨j, hj⟩ := List.getElem?_of_mem hq
    obtain ⟨es', h1, h2, _⟩ := h.drop hj
    rw [noN_erase h.apart hj rfl] at h2
    exact ⟨es', h1, h2⟩
  · have hne : ∀ q ∈ ns, q.i ≠ x := fun q hq e => hex ⟨q, hq, e⟩
    refine ⟨es, fun ty => (h.dropNone hx hne ty).1, ?_⟩
    rw [noN_self hne]
    exact (h.dropNone hx hne 0).2

set_option maxRecDepth 20000 in
set_option maxHeartbeats 4000000 in
theorem implLearnEntry (hO : OrdC) (hE : EntC) (a : Option Addr) (len cap : Nat) (es : List En) (x m t : Int) (w : World) (h : Le w a len cap es) :
    Calls Try.prog 7 #[.slice a len cap, .int .i64 x, .int .i64 m, .int .i64 t] w (CaOut w (lnC es x m t) (lnV es x m t)) := by
  have B0 := Lib.hid ((Below.refl w.heap.size w).alloc (Nat.le_refl _) (.cells #[.int .i64 0, .slice none 0 0] 28))
  have X0 := Lib.hid (Box.new w 28 #[.int .i64 0, .slice none 0 0])
  have K := Lib.hid (implCacheFault a len cap es _ (h.below B0.out))
  have KN' := Lib.hid (fun W (hW : Below w.heap.size w W) (hok : ∀ e ∈ es, okI e.i) => notesOf_any a len cap es W (h.below hW) hok)
  have HL := Lib.hid h.length
  have HO := Lib.hid hO
  have HE := Lib.hid hE
  have hlm : len ≤ maxLen := Nat.le_trans h.le h.max
  unfold maxLen at hlm
  clear h hO hE
  by_cases hc : cfC es = 0
  case neg =>
    have HF : Hid (lnC es x m t = cfC es ∧ lnV es x m t = []) := by
      have e : lnC es x m t = cfC es := if_neg hc
      exact ⟨e, if_neg (by rw [e]; exact hc)⟩
    rw [HF.out.1, HF.out.2]
    have hb : (cfC es != 0) = true := by simpa using hc
    clear hc KN' HF
    generalize cfC es = c at *
    go_enter Try.func7, Try.ntmps7
    go_wp2_with fail
    refine K.out.mono ?_
    rintro e w1 ⟨rfl, b1⟩
    have X1 := X0.out.below b1 X0.out.lt
    obtain ⟨_, x0, x1⟩ := X1.two
    have f0 := X1.frozen 0
    have f1 := X1.frozen 1
    have B1 := Lib.hid (B0.out.trans (b1.mono B0.out.size))
    clear b1 K B0 X0 X1
    go_wp2
    refine bodyPost_ret (v := .agg #[.int .i64 c, .slice none 0 0]) (by simp [results, Try.results7, go_sem, x0, x1]) rfl ⟨_, _, _, rfl, EO.nil0 _ _ _, (B1.out.setCell (Nat.le_refl _) _).setCell (Nat.le_refl _) _⟩
  rw [hc] at K
  have hz := Lib.hid (cfC_zero hc)
  obtain ⟨q, hq⟩ : ∃ q, q = (inB x 0 4294967295 && inB m 0 281474976710655 && inB t 0 100000000) := ⟨_, rfl⟩
  have HF : Hid (if q = true then lnC es x m t = 0 ∧ lnV es x m t = lnE x m t es else lnC es x m t = 3 ∧ lnV es x m t = []) := by
    simp only [Hid]
    split
    · have e : lnC es x m t = 0 := by unfold lnC; rw [if_pos hc, ← hq, if_pos (by assumption)]
      exact ⟨e, if_pos e⟩
    · have e : lnC es x m t = 3 := by unfold lnC; rw [if_pos hc, ← hq, if_neg (by assumption)]
      exact ⟨e, if_neg (by rw [e]; decide)⟩
  generalize lnC es x m t = C at *
  generalize lnV es x m t = V at *
  have HQ := Lib.hid hq
  clear hc hq
  go_enter Try.func7, Try.ntmps7
  go_wp2_with fail
  refine K.out.mono ?_
  rintro e w1 ⟨rfl, b1⟩
  have X1 := Lib.hid (X0.out.below b1 X0.out.lt)
  have B1 := Lib.hid (B0.out.trans (b1.mono B0.out.size))
  clear b1 K B0 X0
  go_wp2_with fail
  refine (ipBound_any x _).mono ?_
  rintro e w2 ⟨rfl, b2⟩
  have X2 := Lib.hid (X1.out.below b2 X1.out.lt)
  have B2 := Lib.hid (B1.out.trans (b2.mono B1.out.size))
  clear b2 B1 X1
  go_wp2_with fail
  refine (macBound_any m _).mono ?_
  rintro e w2' ⟨rfl, b2⟩
  have X1 := Lib.hid (X2.out.below b2 X2.out.lt)
  have B1 := Lib.hid (B2.out.trans (b2.mono B2.out.size))
  clear b2 B2 X2
  go_wp2_with fail
  refine (timeBound_any t _).mono ?_
  rintro e w3 ⟨rfl, b3⟩
  have X3 := Lib.hid ((X1.out.below b3 X1.out.lt).alloc (.cells #[.int .i64 x, .int .i64 0, .int .i64 4294967295, .int .i64 m, .int .i64 0, .int .i64 281474976710655, .int .i64 t, .int .i64 0, .int .i64 100000000] 77))
  have B3 := Lib.hid ((B1.out.trans (b3.mono B1.out.size)).alloc (B1.out.trans (b3.mono B1.out.size)).size (.cells #[.int .i64 x, .int .i64 0, .int .i64 4294967295, .int .i64 m, .int .i64 0, .int .i64 281474976710655, .int .i64 t, .int .i64 0, .int .i64 100000000] 77))
  have G3 := Lib.hid (Box.new w3 77 #[.int .i64 x, .int .i64 0, .int .i64 4294967295, .int .i64 m, .int .i64 0, .int .i64 281474976710655, .int .i64 t, .int .i64 0, .int .i64 100000000])
  clear b3 B1 X1
  go_wp2_with fail
  refine (within3 _ _ x 0 4294967295 m 0 281474976710655 t 0 100000000 _ G3.out).mono ?_
  rintro e w4 ⟨rfl, b4⟩
  have X4 := Lib.hid (X3.out.below b4 X3.out.lt)
  have B4 := Lib.hid (B3.out.trans (b4.mono B3.out.size))
  clear b4 B3 X3 G3
  rw [← HQ.out]
  cases q with
  | false =>
    obtain ⟨rfl, rfl⟩ : C = 3 ∧ V = [] := HF.out
    obtain ⟨_, x0, x1⟩ := X4.out.two
    have f0 := X4.out.frozen 0
    have f1 := X4.out.frozen 1
    clear KN' X4 HF
    go_wp2
    refine bodyPost_ret (v := .agg #[.int .i64 3, .slice none 0 0]) (by simp [results, Try.results7, go_sem, x0, x1]) rfl ⟨_, _, _, rfl, EO.nil0 _ _ _, (B4.out.setCell (Nat.le_refl _) _).setCell (Nat.le_refl _) _⟩
  | true =>
    obtain ⟨rfl, rfl⟩ : C = 0 ∧ V = lnE x m t es := HF.out
    have hbd : (0 ≤ x ∧ x ≤ 4294967295) ∧ 0 ≤ t ∧ t ≤ 100000000 := by
      have h2 := HQ.out.symm
      simp only [Bool.and_eq_true, inB, decide_eq_true_eq] at h2
      exact ⟨h2.1.1, h2.2⟩
    have hxo : okI x := hbd.1
    have hw : IntKind.i64.wrap (t + 60000) = t + 60000 := IntWalk.i64_in _ (by omega)
    clear HQ HF
    go_wp2_with fail
    refine (KN'.out _ B4.out (fun e he => okE_i (List.all_eq_true.1 hz.out.2.1 e he))).mono ?_
    rintro e w5 ⟨b5, ns, ms, clock, rfl, m5, hb5, hf, bb5⟩
    have X5 := Lib.hid (X4.out.below bb5 X4.out.lt)
    have B5 := Lib.hid (B4.out.trans (bb5.mono B4.out.size))
    have tk : es.take len = es := List.take_of_length_le (by rw [HL.out]; exact Nat.le_refl _)
    have hns : ns = ntsF 0 es := by have := hf.eq; rw [tk] at this; exact this hz.out.2.2
    have hx5 : w.heap.size < b5 := Nat.lt_of_lt_of_le X4.out.lt hb5
    have LR := Lib.hid (learnt x m t es hz.out.1 ⟨x, m, min (t + 60000) 100000000, (es.length : Int)⟩ rfl)
    rw [← hns] at LR
    rw [HL.out] at LR
    have NL : Hid (Up ns) := by rw [hns]; exact ntsF_up 0 es
    have X6 := Lib.hid (X5.out.alloc (.cells #[.int .i64 x] 83))
    have B6 := Lib.hid (B5.out.alloc B5.out.size (.cells #[.int .i64 x] 83))
    have N6 := Lib.hid (Box.new w5 83 #[.int .i64 x])
    obtain ⟨ms1, hdel, hm1⟩ := (m5.alloc (.cells #[.int .i64 x] 83)).dropAny hxo
    have hb5l : b5 < w5.heap.size := m5.lt
    clear bb5 B4 X4 KN' m5 hf tk hns B5 X5 hb5
    simp only [KN] at hdel
    have hg := setBlock_grown (w5.alloc (.cells #[.int .i64 x] 83)) b5 (.map ms1 clock)
    have X7 := Lib.hid (show Box (setBlock (w5.alloc (.cells #[.int .i64 x] 83)) b5 (.map ms1 clock)) w.heap.size 28 #[.int .i64 0, .slice none 0 0] from (hg.block _ X6.out.lt (by intro e; cases e; omega)).trans X6.out)
    have N7 := Lib.hid (show Box (setBlock (w5.alloc (.cells #[.int .i64 x] 83)) b5 (.map ms1 clock)) w5.heap.size 83 #[.int .i64 x] from (hg.block _ N6.out.lt (by intro e; cases e; omega)).trans N6.out)
    have B7 := Lib.hid (B6.out.grown hg B6.out.size (fun j e => by cases e; omega))
    have M7 := Lib.hid hm1
    have hlen := fun ty => hm1.len ty
    clear hg hm1 X6 N6 B6
    have hl4 : (noN x ns).length ≤ 4 := by
      have := LR.out.2.2
      rw [List.length_append] at this
      simp only [List.length_cons, List.length_nil] at this
      unfold roomL at this
      split at this
      · rw [List.length_drop] at this; omega
      · omega
    by_cases h4 : 4 ≤ (noN x ns).length
    · have hr : roomL (noN x ns) = (noN x ns).drop 1 := if_pos h4
      have hi4 : (4 : Int) ≤ ((noN x ns).length : Int) := by omega
      have KO := Lib.hid (HO.out _ b5 _ ms1 clock M7.out hl4 (List.Pairwise.sublist (List.filter_sublist ..) NL.out))
      go_wp2_with fail
      refine KO.out.mono ?_
      rintro e w8 ⟨a8, n8, c8, rfl, nb8, b8⟩
      have hn8 : n8 = (noN x ns).length := by have := nb8.length; rw [List.length_map] at this; exact this.symm
      obtain ⟨q0, hq0⟩ : ∃ q, (noN x ns)[0]? = some q := ⟨_, List.getElem?_eq_getElem (by omega)⟩
      obtain ⟨bb, off, y, rfl, hy, cy⟩ := nb8.at (show 0 < n8 by omega)
      rw [List.getElem?_map, hq0, Option.map_some] at hy
      cases hy
      have hn0 : (0 : Int) < (n8 : Int) := by omega
      obtain ⟨ms2, hdel2, hm2, _⟩ := (M7.out.below b8).drop hq0
      have hd1 : (noN x ns).eraseIdx 0 = roomL (noN x ns) := by rw [hr]; cases noN x ns <;> rfl
      rw [hd1] at hm2
      have X8 := X7.out.below b8 X7.out.lt
      have N8 := N7.out.below b8 N7.out.lt
      have B8 := B7.out.trans (b8.mono B7.out.size)
      have hbl := (M7.out.below b8).lt
      have hg2 := setBlock_grown w8 b5 (.map ms2 clock)
      have M9 := Lib.hid hm2
      have X9 := Lib.hid (show Box (setBlock w8 b5 (.map ms2 clock)) w.heap.size 28 #[.int .i64 0, .slice none 0 0] from (hg2.block _ X8.lt (by intro e; cases e; omega)).trans X8)
      have N9 := Lib.hid (show Box (setBlock w8 b5 (.map ms2 clock)) w5.heap.size 83 #[.int .i64 x] from (hg2.block _ N8.lt (by intro e; cases e; omega)).trans N8)
      have B9 := Lib.hid (B8.grown hg2 B8.size (fun j e => by cases e; omega))
      simp only [KN] at hdel2
      simp only [Nat.add_zero] at cy
      clear hm2 hg2 X8 N8 B8 nb8 b8 KO hq0 hd1 hr X7 N7 B7 M7 hbl
      have HN := Lib.hid LR.out
      obtain ⟨ms3, clk3, hpush, hm3⟩ := M9.out.push ⟨x, m, min (t + 60000) 100000000, (len : Int)⟩ hxo (fun q hq => noN_ne q ((roomL_sub _).subset hq))
      have hg3 := setBlock_grown (setBlock w8 b5 (.map ms2 clock)) b5 (.map ms3 clk3)
      have X10 := Lib.hid (show Box (setBlock (setBlock w8 b5 (.map ms2 clock)) b5 (.map ms3 clk3)) w.heap.size 28 #[.int .i64 0, .slice none 0 0] from (hg3.block _ X9.out.lt (by intro e; cases e; omega)).trans X9.out)
      have B10 := Lib.hid (B9.out.grown hg3 B9.out.size (fun j e => by cases e; omega))
      have KE := Lib.hid (HE.out _ b5 _ ms3 clk3 hm3 LR.out.2.2 LR.out.2.1)
      rw [LR.out.1] at KE
      have nc := N9.out.cell 0
      simp only [KN, NV] at hpush
      clear hg3 hm3 M9 X9 N9 B9 HN LR
      generalize hU : min (t + 60000) 100000000 = U at *
      go_wp2_with fail
      refine KE.out.mono ?_
      rintro e w11 ⟨a11, n11, c11, rfl, o11, b11⟩
      have X11 := X10.out.below b11 X10.out.lt
      have O11 := Lib.hid o11
      have hlt := Lib.hid X10.out.lt
      have B11 := Lib.hid (B10.out.trans (b11.mono B10.out.size))
      obtain ⟨zx, x0, x1⟩ := X11.two
      have f0 := X11.frozen 0
      have f1 := X11.frozen 1
      clear b11 o11 X11 X10 B10 KE
      go_wp2
      refine bodyPost_ret (v := .agg #[.int .i64 0, .slice a11 n11 c11]) (by simp [results, Try.results7, go_sem, x0, x1]) rfl ⟨_, _, _, rfl, ?_, ?_⟩
      · exact ((O11.out.setOff _ _ hlt.out).setOff _ _ hlt.out).mono (Nat.le_of_lt hlt.out) (by simp)
      · exact (B11.out.setCell (Nat.le_refl _) _).setCell (Nat.le_refl _) _
    · have hr : roomL (noN x ns) = noN x ns := if_neg h4
      have hi4 : ¬ (4 : Int) ≤ ((noN x ns).length : Int) := by omega
      have M9 : Hid (Mp (setBlock (w5.alloc (.cells #[.int .i64 x] 83)) b5 (.map ms1 clock)) b5 (roomL (noN x ns)) ms1 clock) := by rw [hr]; exact M7.out
      clear hr M7
      have HN := Lib.hid LR.out
      obtain ⟨ms3, clk3, hpush, hm3⟩ := M9.out.push ⟨x, m, min (t + 60000) 100000000, (len : Int)⟩ hxo (fun q hq => noN_ne q ((roomL_sub _).subset hq))
      have hg3 := setBlock_grown (setBlock (w5.alloc (.cells #[.int .i64 x] 83)) b5 (.map ms1 clock)) b5 (.map ms3 clk3)
      have X10 := Lib.hid (show Box (setBlock (setBlock (w5.alloc (.cells #[.int .i64 x] 83)) b5 (.map ms1 clock)) b5 (.map ms3 clk3)) w.heap.size 28 #[.int .i64 0, .slice none 0 0] from (hg3.block _ X7.out.lt (by intro e; cases e; omega)).trans X7.out)
      have B10 := Lib.hid (B7.out.grown hg3 B7.out.size (fun j e => by cases e; omega))
      have KE := Lib.hid (HE.out _ b5 _ ms3 clk3 hm3 LR.out.2.2 LR.out.2.1)
      rw [LR.out.1] at KE
      have nc := N7.out.cell 0
      simp only [KN, NV] at hpush
      clear hg3 hm3 M9 X7 N7 B7 HN LR
      generalize hU : min (t + 60000) 100000000 = U at *
      go_wp2_with fail
      refine KE.out.mono ?_
      rintro e w11 ⟨a11, n11, c11, rfl, o11, b11⟩
      have X11 := X10.out.below b11 X10.out.lt
      have O11 := Lib.hid o11
      have hlt := Lib.hid X10.out.lt
      have B11 := Lib.hid (B10.out.trans (b11.mono B10.out.size))
      obtain ⟨zx, x0, x1⟩ := X11.two
      have f0 := X11.frozen 0
      have f1 := X11.frozen 1
      clear b11 o11 X11 X10 B10 KE
      go_wp2
      refine bodyPost_ret (v := .agg #[.int .i64 0, .slice a11 n11 c11]) (by simp [results, Try.results7, go_sem, x0, x1]) rfl ⟨_, _, _, rfl, ?_, ?_⟩
      · exact ((O11.out.setOff _ _ hlt.out).setOff _ _ hlt.out).mono (Nat.le_of_lt hlt.out) (by simp)
      · exact (B11.out.setCell (Nat.le_refl _) _).setCell (Nat.le_refl _) _
end Go.Proofs.Ytbngdenlplbjhaa
