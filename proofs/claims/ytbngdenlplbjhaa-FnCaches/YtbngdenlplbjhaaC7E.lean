/-
  FindEntry of the program and of the model.
-/
import Derived.Test.YtbngdenlplbjhaaC7S
namespace Go.Proofs.Ytbngdenlplbjhaa
open Go.ChangeShapes Go.WideShapes Go.ChangeAt Go.RowKit

/-- what is found of x at the time t in a list without a fault -/
def FE (es : List En) (x t c v : Int) : Prop := (c = 4 ∧ v = 0 ∧ ∀ e ∈ es, e.i = x → e.u < t) ∨ (c = 0 ∧ ∃ e ∈ es, e.i = x ∧ t ≤ e.u ∧ v = e.m)
/-- what FindEntry answers -/
def FA (es : List En) (x t c v : Int) : Prop := (cfC es ≠ 0 ∧ c = cfC es ∧ v = 0) ∨ (cfC es = 0 ∧ (inB x 0 4294967295 && inB t 0 100000000) = false ∧ c = 3 ∧ v = 0) ∨ (cfC es = 0 ∧ (inB x 0 4294967295 && inB t 0 100000000) = true ∧ FE es x t c v)
theorem cfC_zero {es : List En} (h : cfC es = 0) : es.length ≤ 4 ∧ es.all okE = true ∧ (ips es).Nodup := by
  unfold cfC at h
  split at h
  · omega
  · split at h
    · split at h
      · exact ⟨by omega, by assumption, by assumption⟩
      · omega
    · omega
theorem nodup_one {es : List En} (hn : (ips es).Nodup) {e f : En} (he : e ∈ es) (hf : f ∈ es) (hi : e.i = f.i) : e = f := by
  induction es with
  | nil => cases he
  | cons q es ih =>
    have hn' : q.i ∉ ips es ∧ (ips es).Nodup := List.nodup_cons.1 hn
    rcases List.mem_cons.1 he with h1 | h1
    · rcases List.mem_cons.1 hf with h2 | h2
      · rw [h1, h2]
      · exact absurd (show q.i ∈ ips es from List.mem_map.2 ⟨f, h2, by rw [← hi, h1]⟩) hn'.1
    · rcases List.mem_cons.1 hf with h2 | h2
      · exact absurd (show q.i ∈ ips es from List.mem_map.2 ⟨e, h1, by rw [hi, h2]⟩) hn'.1
      · exact ih hn'.2 h1 h2
theorem FE_uniq {es : List En} (hn : (ips es).Nodup) {x t c v c' v' : Int} (h : FE es x t c v) (h' : FE es x t c' v') : c = c' ∧ v = v' := by
  rcases h with ⟨h1, h2, h3⟩ | ⟨h1, e, he, hi, hu, hv⟩ <;> rcases h' with ⟨k1, k2, k3⟩ | ⟨k1, f, hf, ki, ku, kv⟩
  · omega
  · have := h3 f hf ki; omega
  · have := k3 e he hi; omega
  · have := nodup_one hn he hf (hi.trans ki.symm)
    subst this
    omega
theorem FA_uniq {es : List En} {x t c v c' v' : Int} (h : FA es x t c v) (h' : FA es x t c' v') : c = c' ∧ v = v' := by
  rcases h with ⟨h0, h1, h2⟩ | ⟨h0, h1, h2, h3⟩ | ⟨h0, h1, h2⟩ <;> rcases h' with ⟨k0, k1, k2⟩ | ⟨k0, k1, k2, k3⟩ | ⟨k0, k1, k2⟩
  · omega
  · exact absurd k0 h0
  · exact absurd k0 h0
  · exact absurd h0 k0
  · omega
  · rw [h1] at k1; cases k1
  · exact absurd h0 k0
  · rw [h1] at k1; cases k1
  · exact FE_uniq (cfC_zero h0).2.2 h2 k2
theorem nts_mem {es : List En} {n : Nt} (k : Nat) (h : n ∈ ntsF k es) : ∃ e ∈ es, e.i = n.i ∧ e.m = n.m ∧ e.u = n.u := by
  induction es generalizing k with
  | nil => cases h
  | cons e es ih =>
    rcases List.mem_cons.1 h with rfl | h
    · exact ⟨e, List.mem_cons_self .., rfl, rfl, rfl⟩
    · obtain ⟨q, hq, h1⟩ := ih (k + 1) h
      exact ⟨q, List.mem_cons_of_mem _ hq, h1⟩

theorem countsAt_any (m u p t : Int) (w : World) : Calls Try.prog 45 #[.agg #[.int .i64 m, .int .i64 u, .int .i64 p], .int .i64 t] w fun e w' => e = .returned (.bool (decide (t ≤ u))) ∧ Below w.heap.size w w' := by
  by_cases h : t ≤ u
  · have H : Hid (decide (t ≤ u) = true) := decide_eq_true h
    go_enter Try.func45, Try.ntmps45
    go_wp2
    go_ret
    exact ⟨ret_b H.out.symm, (Below.refl _ _).alloc (Nat.le_refl _) _⟩
  · have H : Hid (decide (t ≤ u) = false) := decide_eq_false h
    go_enter Try.func45, Try.ntmps45
    go_wp2
    go_ret
    exact ⟨ret_b H.out.symm, (Below.refl _ _).alloc (Nat.le_refl _) _⟩

set_option maxHeartbeats 4000000 in
theorem implFindEntry (a : Option Addr) (len cap : Nat) (es : List En) (x t : Int) (w : World) (h : Le w a len cap es) :
    Calls Try.prog 9 #[.slice a len cap, .int .i64 x, .int .i64 t] w fun e w' => ∃ c v, e = .returned (.agg #[.int .i64 c, .int .i64 v]) ∧ FA es x t c v ∧ Below w.heap.size w w' := by
  have B0 := Lib.hid ((Below.refl w.heap.size w).alloc (Nat.le_refl _) (.cells #[.int .i64 0, .int .i64 0] 33))
  have X0 := Lib.hid (Box.new w 33 #[.int .i64 0, .int .i64 0])
  have K := Lib.hid (implCacheFault a len cap es _ (h.below B0.out))
  have KN := Lib.hid (fun W (hW : Below w.heap.size w W) (hok : ∀ e ∈ es, okI e.i) => notesOf_any a len cap es W (h.below hW) hok)
  have HL := Lib.hid h.length
  clear h
  by_cases hc : cfC es = 0
  case neg =>
    have HF : Hid (FA es x t (cfC es) 0) := .inl ⟨hc, rfl, rfl⟩
    have hb : (cfC es != 0) = true := by simpa using hc
    clear hc KN
    generalize cfC es = c at *
    go_enter Try.func9, Try.ntmps9
    go_wp2_with fail
    refine K.out.mono ?_
    rintro e w1 ⟨rfl, b1⟩
    have X1 := X0.out.below b1 X0.out.lt
    obtain ⟨_, x0, x1⟩ := X1.two
    have f0 := X1.frozen 0
    have f1 := X1.frozen 1
    have B1 := Lib.hid (B0.out.trans (b1.mono B0.out.size))
    clear b1 K B0 X0 X1
    go_wp2
    refine bodyPost_ret (v := .agg #[.int .i64 c, .int .i64 0]) (by simp [results, Try.results9, go_sem, x0, x1]) rfl ⟨_, _, rfl, HF.out, (B1.out.setCell (Nat.le_refl _) _).setCell (Nat.le_refl _) _⟩
  have HC := Lib.hid hc
  rw [hc] at K
  have hz := Lib.hid (cfC_zero hc)
  clear hc
  obtain ⟨q, hq⟩ : ∃ q, q = (inB x 0 4294967295 && inB t 0 100000000) := ⟨_, rfl⟩
  have HQ := Lib.hid hq
  clear hq
  go_enter Try.func9, Try.ntmps9
  go_wp2_with fail
  refine K.out.mono ?_
  rintro e w1 ⟨rfl, b1⟩
  have X1 := Lib.hid (X0.out.below b1 X0.out.lt)
  have B1 := Lib.hid (B0.out.trans (b1.mono B0.out.size))
  clear b1 K B0 X0
  go_wp2_with fail
  refine (ipBound_any x _).mono ?_
  rintro e w2 ⟨rfl, b2⟩
  have X2 := Lib.hid (X1.out.below b2 X1.out.lt)
  have B2 := Lib.hid (B1.out.trans (b2.mono B1.out.size))
  clear b2 B1 X1
  go_wp2_with fail
  refine (timeBound_any t _).mono ?_
  rintro e w3 ⟨rfl, b3⟩
  have X3 := Lib.hid ((X2.out.below b3 X2.out.lt).alloc (.cells #[.int .i64 x, .int .i64 0, .int .i64 4294967295, .int .i64 t, .int .i64 0, .int .i64 100000000] 77))
  have B3 := Lib.hid ((B2.out.trans (b3.mono B2.out.size)).alloc (B2.out.trans (b3.mono B2.out.size)).size (.cells #[.int .i64 x, .int .i64 0, .int .i64 4294967295, .int .i64 t, .int .i64 0, .int .i64 100000000] 77))
  have G3 := Lib.hid (Box.new w3 77 #[.int .i64 x, .int .i64 0, .int .i64 4294967295, .int .i64 t, .int .i64 0, .int .i64 100000000])
  clear b3 B2 X2
  go_wp2_with fail
  refine (within2 _ _ x 0 4294967295 t 0 100000000 _ G3.out).mono ?_
  rintro e w4 ⟨rfl, b4⟩
  have X4 := Lib.hid (X3.out.below b4 X3.out.lt)
  have B4 := Lib.hid (B3.out.trans (b4.mono B3.out.size))
  clear b4 B3 X3 G3
  rw [← HQ.out]
  cases q with
  | false =>
    have HF : Hid (FA es x t 3 0) := .inr (.inl ⟨HC.out, HQ.out.symm, rfl, rfl⟩)
    obtain ⟨_, x0, x1⟩ := X4.out.two
    have f0 := X4.out.frozen 0
    have f1 := X4.out.frozen 1
    clear KN X4
    go_wp2
    refine bodyPost_ret (v := .agg #[.int .i64 3, .int .i64 0]) (by simp [results, Try.results9, go_sem, x0, x1]) rfl ⟨_, _, rfl, HF.out, (B4.out.setCell (Nat.le_refl _) _).setCell (Nat.le_refl _) _⟩
  | true =>
    have hxo : okI x := by
      have := HQ.out
      have h2 := this.symm
      simp only [Bool.and_eq_true, inB, decide_eq_true_eq] at h2
      exact h2.1
    have HE := Lib.hid (fun c v (h : FE es x t c v) => show FA es x t c v from .inr (.inr ⟨HC.out, HQ.out.symm, h⟩))
    clear HQ HC
    go_wp2_with fail
    refine (KN.out _ B4.out (fun e he => okE_i (List.all_eq_true.1 hz.out.2.1 e he))).mono ?_
    rintro e w5 ⟨b5, ns, ms, clock, rfl, m5, hb5, hf, bb5⟩
    have X5 := Lib.hid (X4.out.below bb5 X4.out.lt)
    have B5 := Lib.hid (B4.out.trans (bb5.mono B4.out.size))
    have tk : es.take len = es := List.take_of_length_le (by rw [HL.out]; exact Nat.le_refl _)
    have hns : ns = ntsF 0 es := by have := hf.eq; rw [tk] at this; exact this hz.out.2.2
    have hlk := m5.look w5 m5.hb hxo
    have hmem := hf.mem x
    rw [tk] at hmem
    clear bb5 B4 X4 KN m5 hf tk
    rcases hlk with ⟨hl, hno⟩ | ⟨n, hn, hni, hl⟩
    · have HF : Hid (FA es x t 4 0) := HE.out _ _ (.inl ⟨rfl, rfl, fun e he hi => absurd (hmem.2 (List.mem_map.2 ⟨e, he, hi⟩)) (fun hh => by obtain ⟨n, hn, hni⟩ := List.mem_map.1 hh; exact hno n hn hni)⟩)
      simp only [KN] at hl
      have hx5 := X5.out.lt
      obtain ⟨_, x0, x1⟩ := X5.out.two
      have f0 := X5.out.frozen 0
      have f1 := X5.out.frozen 1
      have XB : Box (((w5.setCell ⟨w.heap.size, 0, none⟩ (.int .i64 4)).setCell ⟨w.heap.size, 1, none⟩ (.int .i64 0)).alloc (.cells #[.int .i64 0, .int .i64 0, .int .i64 0] 87)) w.heap.size 33 #[.int .i64 4, .int .i64 0] := Box.alloc (heap_setCell_same _ w.heap.size 1 _ _ _ (heap_setCell_same _ w.heap.size 0 _ _ _ X5.out)) _
      have y0 := XB.cell 0
      have y1 := XB.cell 1
      clear HE hmem hns hno X5 XB
      go_wp2
      refine bodyPost_ret (v := .agg #[.int .i64 4, .int .i64 0]) (by simp [results, Try.results9, go_sem, y0, y1]) rfl ⟨_, _, rfl, HF.out, ?_⟩
      have B7 := (B5.out.setCell (p := ⟨w.heap.size, 0, none⟩) (Nat.le_refl _) (.int .i64 4)).setCell (p := ⟨w.heap.size, 1, none⟩) (Nat.le_refl _) (.int .i64 0)
      exact B7.alloc B7.size _
    · obtain ⟨e, he, e1, e2, e3⟩ := nts_mem 0 (by rw [← hns]; exact hn)
      have HF : Hid (if t ≤ n.u then FA es x t 0 n.m else FA es x t 4 0) := by
        simp only [Hid]
        split
        · exact HE.out _ _ (.inr ⟨rfl, e, he, e1.trans hni, by omega, e2.symm⟩)
        · exact HE.out _ _ (.inl ⟨rfl, rfl, fun e' he' hi' => by
            have := nodup_one hz.out.2.2 he he' ((e1.trans hni).trans hi'.symm)
            subst this
            omega⟩)
      simp only [KN, NV] at hl
      have hx5 := X5.out.lt
      have BA := Lib.hid (B5.out.alloc B5.out.size (.cells #[.int .i64 n.m, .int .i64 n.u, .int .i64 n.p] 87))
      have XA := Lib.hid (X5.out.alloc (.cells #[.int .i64 n.m, .int .i64 n.u, .int .i64 n.p] 87))
      have NA := Lib.hid (Box.new w5 87 #[.int .i64 n.m, .int .i64 n.u, .int .i64 n.p])
      clear HE hmem hns he e1 e2 e3 hn hni X5 B5
      obtain ⟨ni, nm, nu, np⟩ := n
      simp only at hl HF BA XA NA
      have KA := Lib.hid (fun W => countsAt_any nm nu np t W)
      go_wp2_with fail
      generalize w5.alloc (.cells #[.int .i64 nm, .int .i64 nu, .int .i64 np] 87) = W5 at *
      refine (KA.out _).mono ?_
      rintro e w6 ⟨rfl, b6⟩
      have X6 := XA.out.below b6 XA.out.lt
      have N6 := NA.out.below b6 NA.out.lt
      have B6 := Lib.hid (BA.out.trans (b6.mono BA.out.size))
      obtain ⟨_, x0, x1⟩ := X6.two
      have f0 := X6.frozen 0
      have f1 := X6.frozen 1
      obtain ⟨_, n0, n1, n2⟩ := N6.r3
      clear b6 XA NA BA X6 N6 KA
      by_cases htu : t ≤ nu
      · have HV : Hid (FA es x t 0 nm) := by have := HF.out; rwa [if_pos htu] at this
        rw [decide_eq_true htu]
        clear HF
        go_wp2
        refine bodyPost_ret (v := .agg #[.int .i64 0, .int .i64 nm]) (by simp [results, Try.results9, go_sem, x0, x1]) rfl ⟨_, _, rfl, HV.out, (B6.out.setCell (Nat.le_refl _) _).setCell (Nat.le_refl _) _⟩
      · have HV : Hid (FA es x t 4 0) := by have := HF.out; rwa [if_neg htu] at this
        rw [decide_eq_false htu]
        clear HF
        go_wp2
        refine bodyPost_ret (v := .agg #[.int .i64 4, .int .i64 0]) (by simp [results, Try.results9, go_sem, x0, x1]) rfl ⟨_, _, rfl, HV.out, (B6.out.setCell (Nat.le_refl _) _).setCell (Nat.le_refl _) _⟩
end Go.Proofs.Ytbngdenlplbjhaa
