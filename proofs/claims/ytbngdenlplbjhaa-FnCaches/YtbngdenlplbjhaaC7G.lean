/-
  AgeCache of the program, out of the contract of entries.
-/
import Derived.Test.YtbngdenlplbjhaaC7A
import Derived.Test.YtbngdenlplbjhaaC7E
import Derived.Test.YtbngdenlplbjhaaM8
namespace Go.Proofs.Ytbngdenlplbjhaa
open Go.ChangeShapes Go.WideShapes Go.ChangeAt Go.RowKit
open Go.ChangeMaps (setBlock)

def Nt.en (n : Nt) : En := ⟨n.i, n.m, n.u⟩
def ents (ns : List Nt) : List En := ns.map Nt.en
def cnt (t : Int) (n : Nt) : Bool := decide (t ≤ n.u)
def Up (ns : List Nt) : Prop := ns.Pairwise fun p q => p.p < q.p
theorem ents_age (t : Int) (k : Nat) (es : List En) : ents ((ntsF k es).filter (cnt t)) = agE t es := by
  induction es generalizing k with
  | nil => rfl
  | cons e es ih =>
    by_cases h : t ≤ e.u
    · have h1 : cnt t ⟨e.i, e.m, e.u, (k : Int)⟩ = true := decide_eq_true h
      simp only [ntsF, List.filter_cons, h1, if_true, agE, decide_eq_true h]
      show _ :: ents ((ntsF (k + 1) es).filter (cnt t)) = _
      rw [ih]
      rfl
    · have h1 : cnt t ⟨e.i, e.m, e.u, (k : Int)⟩ = false := decide_eq_false h
      simp only [ntsF, List.filter_cons, h1, agE, decide_eq_false h]
      exact ih (k + 1)
theorem ntsF_ge (k : Nat) (es : List En) : ∀ n ∈ ntsF k es, (k : Int) ≤ n.p := by
  induction es generalizing k with
  | nil => intro n h; cases h
  | cons e es ih =>
    intro n h
    rcases List.mem_cons.1 h with rfl | h
    · exact Int.le_refl _
    · have := ih (k + 1) n h; omega
theorem ntsF_up (k : Nat) (es : List En) : Up (ntsF k es) := by
  induction es generalizing k with
  | nil => exact List.Pairwise.nil
  | cons e es ih => exact List.Pairwise.cons (fun n hn => by have := ntsF_ge (k + 1) es n hn; dsimp only; omega) (ih (k + 1))
theorem filter_erase {α : Type} (p : α → Bool) : ∀ (l : List α) (j : Nat) (x : α), l[j]? = some x → p x = false → (l.eraseIdx j).filter p = l.filter p
  | [], _, _, h, _ => by simp at h
  | y :: l, 0, x, h, hp => by
    simp at h
    subst h
    simp [hp]
  | y :: l, j + 1, x, h, hp => by
    simp only [List.eraseIdx_cons_succ, List.filter_cons, filter_erase p l j x (by simpa using h) hp]
/-- entries of the notes of a map, in the order of their places -/
def EntC : Prop := ∀ (W : World) (b : Nat) (ns : List Nt) (ms : Array MapEntry) (clock : Nat), Mp W b ns ms clock → ns.length ≤ 4 → Up ns →
  Calls Try.prog 43 #[.map (some b)] W (EsOut W (ents ns))

/-- what has been handed out counts -/
def SeenC (t : Int) (es : Array MapEntry) (seen : Array Nat) : Prop := ∀ x ∈ es.toList, seen.contains x.born = true → ∀ n, x.val = NV n → t ≤ n.u
theorem NV_u {n m : Nt} (h : NV n = NV m) : n.u = m.u := by
  unfold NV at h
  simp at h
  exact h.2.1
theorem SeenC.keep {t : Int} {es : Array MapEntry} {seen : Array Nat} {clock : Nat} (h : SeenC t es seen) (hst : MapKept.Stamped es clock) {e : MapEntry} (he : e ∈ es.toList) {n : Nt} (hv : e.val = NV n) (hc : t ≤ n.u) : SeenC t es (seen.push e.born) := by
  intro x hx hs m hm
  rw [contains_push] at hs
  rcases Bool.or_eq_true _ _ ▸ hs with h1 | h1
  · exact h x hx h1 m hm
  · have : x = e := born_inj ((MapKept.stamped_iff es clock).1 hst).2.1 hx he (beq_iff_eq.1 h1)
    subst this
    rw [NV_u (hm.symm.trans hv)]
    exact hc
theorem SeenC.drop {t : Int} {es es' : Array MapEntry} {seen : Array Nat} {clock : Nat} (h : SeenC t es seen) (hst : MapKept.Stamped es clock) {j : Nat} {e : MapEntry} (he : es.toList[j]? = some e) (hs' : es'.toList = es.toList.eraseIdx j) : SeenC t es' (seen.push e.born) := by
  intro x hx hs m hm
  rw [hs', List.mem_eraseIdx_iff_getElem?] at hx
  obtain ⟨i, hij, hi⟩ := hx
  rw [contains_push] at hs
  rcases Bool.or_eq_true _ _ ▸ hs with h1 | h1
  · exact h x (List.mem_of_getElem? hi) h1 m hm
  · exfalso
    have hn := ((MapKept.stamped_iff es clock).1 hst).2.1
    have e1 : (es.toList.map (·.born))[i]? = some x.born := by rw [List.getElem?_map, hi]; rfl
    have e2 : (es.toList.map (·.born))[j]? = some e.born := by rw [List.getElem?_map, he]; rfl
    have l1 := (List.getElem?_eq_some_iff.1 e1).1
    have l2 := (List.getElem?_eq_some_iff.1 e2).1
    have v1 := (List.getElem?_eq_some_iff.1 e1).2
    have v2 := (List.getElem?_eq_some_iff.1 e2).2
    have hp := List.pairwise_iff_getElem.1 hn
    have hb : x.born = e.born := beq_iff_eq.1 h1
    rcases Nat.lt_or_gt_of_ne hij with c | c
    · exact hp i j l1 l2 c (by rw [v1, v2, hb])
    · exact hp j i l2 l1 c (by rw [v1, v2, hb])

set_option maxHeartbeats 4000000 in
theorem implAgeCache (hE : EntC) (a : Option Addr) (len cap : Nat) (es : List En) (t : Int) (w : World) (h : Le w a len cap es) :
    Calls Try.prog 11 #[.slice a len cap, .int .i64 t] w (CaOut w (agC es t) (agV es t)) := by
  have B0 := Lib.hid ((Below.refl w.heap.size w).alloc (Nat.le_refl _) (.cells #[.int .i64 0, .slice none 0 0] 28))
  have X0 := Lib.hid (Box.new w 28 #[.int .i64 0, .slice none 0 0])
  have K := Lib.hid (implCacheFault a len cap es _ (h.below B0.out))
  have KN := Lib.hid (fun W (hW : Below w.heap.size w W) (hok : ∀ e ∈ es, okI e.i) => notesOf_any a len cap es W (h.below hW) hok)
  have HL := Lib.hid h.length
  have HE := Lib.hid hE
  clear h hE
  by_cases hc : cfC es = 0
  case neg =>
    have HF : Hid (agC es t = cfC es ∧ agV es t = []) := by
      have e : agC es t = cfC es := if_neg hc
      exact ⟨e, if_neg (by rw [e]; exact hc)⟩
    rw [HF.out.1, HF.out.2]
    have hb : (cfC es != 0) = true := by simpa using hc
    clear hc KN HF
    generalize cfC es = c at *
    go_enter Try.func11, Try.ntmps11
    go_wp2_with fail
    refine K.out.mono ?_
    rintro e w1 ⟨rfl, b1⟩
    have X1 := X0.out.below b1 X0.out.lt
    obtain ⟨_, x0, x1⟩ := X1.two
    have f0 := X1.frozen 0
    have f1 := X1.frozen 1
    have B1 := Lib.hid (B0.out.trans (b1.mono B0.out.size))
    clear b1 K B0 X0 X1
    go_wp2
    refine bodyPost_ret (v := .agg #[.int .i64 c, .slice none 0 0]) (by simp [results, Try.results11, go_sem, x0, x1]) rfl ⟨_, _, _, rfl, EO.nil0 _ _ _, (B1.out.setCell (Nat.le_refl _) _).setCell (Nat.le_refl _) _⟩
  rw [hc] at K
  have hz := Lib.hid (cfC_zero hc)
  obtain ⟨q, hq⟩ : ∃ q, q = inB t 0 100000000 := ⟨_, rfl⟩
  have HF : Hid (if q = true then agC es t = 0 ∧ agV es t = agE t es else agC es t = 3 ∧ agV es t = []) := by
    simp only [Hid]
    split
    · have e : agC es t = 0 := by unfold agC; rw [if_pos hc, ← hq, if_pos (by assumption)]
      exact ⟨e, if_pos e⟩
    · have e : agC es t = 3 := by unfold agC; rw [if_pos hc, ← hq, if_neg (by assumption)]
      exact ⟨e, if_neg (by rw [e]; decide)⟩
  generalize agC es t = C at *
  generalize agV es t = V at *
  have HQ := Lib.hid hq
  clear hc hq
  go_enter Try.func11, Try.ntmps11
  go_wp2_with fail
  refine K.out.mono ?_
  rintro e w1 ⟨rfl, b1⟩
  have X1 := Lib.hid (X0.out.below b1 X0.out.lt)
  have B1 := Lib.hid (B0.out.trans (b1.mono B0.out.size))
  clear b1 K B0 X0
  go_wp2_with fail
  refine (timeBound_any t _).mono ?_
  rintro e w3 ⟨rfl, b3⟩
  have X3 := Lib.hid ((X1.out.below b3 X1.out.lt).alloc (.cells #[.int .i64 t, .int .i64 0, .int .i64 100000000] 77))
  have B3 := Lib.hid ((B1.out.trans (b3.mono B1.out.size)).alloc (B1.out.trans (b3.mono B1.out.size)).size (.cells #[.int .i64 t, .int .i64 0, .int .i64 100000000] 77))
  have G3 := Lib.hid (Box.new w3 77 #[.int .i64 t, .int .i64 0, .int .i64 100000000])
  clear b3 B1 X1
  go_wp2_with fail
  refine (within1r _ _ t 0 100000000 _ G3.out).mono ?_
  rintro e w4 ⟨rfl, b4⟩
  have X4 := Lib.hid (X3.out.below b4 X3.out.lt)
  have B4 := Lib.hid (B3.out.trans (b4.mono B3.out.size))
  clear b4 B3 X3 G3
  rw [← HQ.out]
  cases q with
  | false =>
    obtain ⟨rfl, rfl⟩ : C = 3 ∧ V = [] := HF.out
    obtain ⟨_, x0, x1⟩ := X4.out.two
    have f0 := X4.out.frozen 0
    have f1 := X4.out.frozen 1
    clear KN X4 HF
    go_wp2
    refine bodyPost_ret (v := .agg #[.int .i64 3, .slice none 0 0]) (by simp [results, Try.results11, go_sem, x0, x1]) rfl ⟨_, _, _, rfl, EO.nil0 _ _ _, (B4.out.setCell (Nat.le_refl _) _).setCell (Nat.le_refl _) _⟩
  | true =>
    obtain ⟨rfl, rfl⟩ : C = 0 ∧ V = agE t es := HF.out
    clear HQ HF
    go_wp2_with fail
    refine (KN.out _ B4.out (fun e he => okE_i (List.all_eq_true.1 hz.out.2.1 e he))).mono ?_
    rintro e w5 ⟨b5, ns, ms, clock, rfl, m5, hb5, hf, bb5⟩
    have X5 := Lib.hid (X4.out.below bb5 X4.out.lt)
    have B5 := Lib.hid (B4.out.trans (bb5.mono B4.out.size))
    have tk : es.take len = es := List.take_of_length_le (by rw [HL.out]; exact Nat.le_refl _)
    have hns : ns = ntsF 0 es := by have := hf.eq; rw [tk] at this; exact this hz.out.2.2
    have HA : Hid (ents (ns.filter (cnt t)) = agE t es) := by rw [hns]; exact ents_age t 0 es
    have HU : Hid (Up ns) := by rw [hns]; exact ntsF_up 0 es
    have H4 : Hid (ns.length ≤ 4) := by rw [hns, ntsF_len]; exact hz.out.1
    have hrg := m5.range.1
    have R0 := Lib.hid m5.range.2
    have hx5 : w.heap.size < b5 := Nat.lt_of_lt_of_le X4.out.lt hb5
    have hrl : w.heap.size < w5.heap.size := X5.out.lt
    have BR := Lib.hid (B5.out.alloc B5.out.size (.mapIter (some b5) clock #[] clock))
    have XR := Lib.hid (X5.out.alloc (.mapIter (some b5) clock #[] clock))
    clear bb5 B4 X4 KN m5 hf tk hns B5 X5 hb5
    generalize hr : w5.heap.size = r at *
    generalize hN : ns = N0 at *
    obtain ⟨ns, hns⟩ : ∃ ns, ns = N0 := ⟨_, rfl⟩
    have SUB : Hid (List.Sublist ns N0) := by rw [hns]; exact List.Sublist.refl _
    have FIL : Hid (ns.filter (cnt t) = N0.filter (cnt t)) := by rw [hns]; rfl
    rw [← hns] at R0
    clear hN hns
    go_wp2_with fail
    go_loopw [] (fun wr => ∃ (ns : List Nt) (ms : Array MapEntry) (since c0 : Nat) (seen : Array Nat), Hid (Rg wr b5 r ns ms clock since c0 seen) ∧ Hid (SeenC t ms seen) ∧ Hid (List.Sublist ns N0) ∧ Hid (ns.filter (cnt t) = N0.filter (cnt t)) ∧ Hid (Box wr w.heap.size 28 #[.int .i64 0, .slice none 0 0]) ∧ Hid (Below w.heap.size w wr)) (fun wr => wr.rangeLeft b5 r)
    case atStart => exact ⟨ns, ms, clock, clock, #[], R0.out, fun x _ hx => by simp at hx, SUB.out, FIL.out, XR.out, BR.out⟩
    case round =>
      obtain ⟨ns, ms, since, c0, seen, hR, hS, hSub, hFil, hX, hB⟩ := hrel
      clear R0 SUB FIL XR BR hrg
      rcases hR.out.next 0 with ⟨hall, hrun⟩ | ⟨j, e, n, w6, he, hn, hk, hv, hse, hrun, hR6, hg6, hs6, hlt6, hent⟩
      · have hnx : ∀ ty, (Instr.next (.pointer (some ⟨r, 0, none⟩)) false ty).run Try.prog wr = _ := fun _ => hrun
        have HN : Hid (ents ns = agE t es) := by
          simp only [Hid]
          rw [← HA.out, ← hFil.out]
          congr 1
          symm
          rw [List.filter_eq_self]
          intro n hn
          obtain ⟨i, hi⟩ := List.getElem?_of_mem hn
          obtain ⟨e, he, hek, hev⟩ := hR.out.mp.at hi
          exact decide_eq_true (hS.out e (List.mem_of_getElem? he) (hall e (List.mem_of_getElem? he)) n hev)
        have KE := Lib.hid (HE.out wr b5 ns ms clock hR.out.mp (Nat.le_trans hSub.out.length_le H4.out) (List.Pairwise.sublist hSub.out HU.out))
        rw [HN.out] at KE
        clear hall hrun hR hS hSub hFil
        go_wp2_with fail
        refine KE.out.mono ?_
        rintro e w7 ⟨a7, n7, c7, rfl, o7, b7⟩
        have X7 := hX.out.below b7 hX.out.lt
        have O7 := Lib.hid o7
        have hlt := Lib.hid hX.out.lt
        have B7 := Lib.hid (hB.out.trans (b7.mono hB.out.size))
        obtain ⟨zx, x0, x1⟩ := X7.two
        have f0 := X7.frozen 0
        have f1 := X7.frozen 1
        clear b7 o7 X7 hX hB KE
        go_wp2
        refine bodyPost_ret (v := .agg #[.int .i64 0, .slice a7 n7 c7]) (by simp [results, Try.results11, go_sem, x0, x1]) rfl ⟨_, _, _, rfl, ?_, ?_⟩
        · exact ((O7.out.setOff _ _ hlt.out).setOff _ _ hlt.out).mono (Nat.le_of_lt hlt.out) (by simp)
        · exact (B7.out.setCell (Nat.le_refl _) _).setCell (Nat.le_refl _) _
      · have hnx : ∀ ty, (Instr.next (.pointer (some ⟨r, 0, none⟩)) false ty).run Try.prog wr = _ := fun _ => hrun
        obtain ⟨ni, nm, nu, np⟩ := n
        have hok := (hR.out.mp.ok _ (List.mem_of_getElem? hn))
        have R6 := Lib.hid hR6
        have X6 := Lib.hid (show Box w6 w.heap.size 28 #[.int .i64 0, .slice none 0 0] from (hg6.block _ hX.out.lt (by intro e; cases e; omega)).trans hX.out)
        have B6 := Lib.hid (hB.out.grown hg6 hB.out.size (fun j e => by cases e; omega))
        have NA := Lib.hid ((Box.new w6 83 #[.int .i64 ni]).alloc (.cells #[.int .i64 nm, .int .i64 nu, .int .i64 np] 87))
        have g := ((Below.refl _ w6).alloc (Nat.le_refl _) (.cells #[.int .i64 ni] 83)).alloc (by simp) (.cells #[.int .i64 nm, .int .i64 nu, .int .i64 np] 87)
        have RA := Lib.hid (R6.out.below g)
        have XA := Lib.hid (X6.out.below g X6.out.lt)
        have BA := Lib.hid (B6.out.trans (g.mono B6.out.size))
        have LT := Lib.hid (show (leftOf ms (seen.push e.born)).size < wr.rangeLeft b5 r by rw [hR.out.left]; exact hlt6)
        have ST := Lib.hid hR.out.mp.st
        have NE := Lib.hid (And.intro he (And.intro hn hv))
        have KA := Lib.hid (fun W => countsAt_any nm nu np t W)
        simp only [KN, NV] at hnx hent
        clear hrun hR hX hB hg6 hs6 hlt6 hk hse hR6 R6 X6 B6 g he hn hv
        go_wp2_with fail
        generalize w6.heap.size = g1 at *
        generalize (w6.alloc (.cells #[.int .i64 ni] 83)).alloc (.cells #[.int .i64 nm, .int .i64 nu, .int .i64 np] 87) = W7 at *
        refine (KA.out _).mono ?_
        rintro e w8 ⟨rfl, b8⟩
        have R8 := Lib.hid (RA.out.below b8)
        have X8 := Lib.hid (XA.out.below b8 XA.out.lt)
        have N8 := NA.out.below b8 NA.out.lt
        have B8 := Lib.hid (BA.out.trans (b8.mono BA.out.size))
        have n0 := N8.cell 0
        clear b8 RA XA NA BA KA N8 hnx hent
        by_cases htu : t ≤ nu
        · have HS : Hid (SeenC t ms (seen.push e.born)) := hS.out.keep ST.out (List.mem_of_getElem? NE.out.1) NE.out.2.2 htu
          rw [decide_eq_true htu]
          clear htu
          go_wp2
          go_roundw
          case rel => exact ⟨ns, ms, since, clock, seen.push e.born, R8.out, HS.out, hSub.out, hFil.out, X8.out, B8.out⟩
          case measure => rw [R8.out.left]; exact LT.out
        · obtain ⟨ms', hdel, hR', hl'⟩ := R8.out.drop NE.out.2.1
          have R9 := Lib.hid hR'
          have HS : Hid (SeenC t ms' (seen.push e.born)) := hS.out.drop ST.out NE.out.1 hl'
          have HB : Hid (List.Sublist (ns.eraseIdx j) N0) := (List.eraseIdx_sublist _ _).trans hSub.out
          have HF : Hid ((ns.eraseIdx j).filter (cnt t) = N0.filter (cnt t)) := (filter_erase _ _ _ _ NE.out.2.1 (decide_eq_false htu)).trans hFil.out
          have hg := setBlock_grown w8 b5 (.map ms' clock)
          have X9 := Lib.hid (show Box (setBlock w8 b5 (.map ms' clock)) w.heap.size 28 #[.int .i64 0, .slice none 0 0] from (hg.block _ X8.out.lt (by intro e; cases e; omega)).trans X8.out)
          have B9 := Lib.hid (B8.out.grown hg B8.out.size (fun j e => by cases e; omega))
          have LE : Hid ((leftOf ms' (seen.push e.born)).size ≤ (leftOf ms (seen.push e.born)).size) := by
            simp only [Hid]
            have e1 : ∀ (q : Array MapEntry) (p : MapEntry → Bool), (q.filter p).size = (q.toList.filter p).length := fun q p => by rw [← Array.toList_filter, Array.length_toList]
            unfold leftOf
            rw [e1, e1, hl']
            exact ((List.eraseIdx_sublist _ _).filter _).length_le
          simp only [KN] at hdel
          rw [decide_eq_false htu]
          clear htu hg hR' hl' hS hSub hFil R8 X8 B8
          go_wp2
          go_roundw
          case rel => exact ⟨_, ms', since, clock, seen.push e.born, R9.out, HS.out, HB.out, HF.out, X9.out, B9.out⟩
          case measure => rw [R9.out.left]; have := LE.out; have := LT.out; omega
end Go.Proofs.Ytbngdenlplbjhaa
