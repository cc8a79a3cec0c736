/-
  Draws of lists of pieces: l6Draw, l6Bent.
-/
import Derived.Test.YtimlobhlcmghfaaDr6
import Derived.Test.YtimlobhlcmghfaaP6LM
namespace Go.Proofs.Ytimlobhlcmghfaa
open Go.ChangeShapes Go.WideShapes Go.ChangeAt Go.RowKit

theorem DU.under6 {w W W' : World} {b t : Nat} {a : Option Addr} {len cap : Nat} {zs : List Int} (h : DU w W b t a len cap zs) (hb : Below W.heap.size W W') : DU w W' b t a len cap zs :=
  ⟨⟨h.src.box.below hb h.src.box.lt, h.src.rd.below hb, h.src.lt⟩, h.bel.trans (hb.mono h.bel.size), h.lo, h.rd⟩
theorem DU.put6 {w W : World} {b t : Nat} {a : Option Addr} {len cap : Nat} {zs : List Int} (h : DU w W b t a len cap zs) (g i : Nat) (v : Value) (hg : w.heap.size ≤ g) (hne : b ≠ g) : DU w (W.setCell ⟨g, i, none⟩ v) b t a len cap zs :=
  ⟨⟨h.src.box.grown (grown_setCell W ⟨g, i, none⟩ v) (by simpa using hne), h.rd.below (h.bel.setCell hg _), h.src.lt⟩, h.bel.setCell hg _, h.lo, h.rd⟩
theorem grown_far {w W : World} {row : Option Nat} (h : w.grownBy W row) (g i : Nat) (v : Value) (hg : w.heap.size ≤ g) : w.grownBy (W.setCell ⟨g, i, none⟩ v) row :=
  ⟨h.os, h.tape, h.output, by rw [World.size_setCell]; exact h.size, fun k hk hr => (heap_setCell_other W ⟨g, i, none⟩ k v (by show k ≠ g; omega)).trans (h.block k hk hr)⟩
theorem D_grown {w W W1 W2 : World} {b t : Nat} {a : Option Addr} {len cap : Nat} {zs : List Int} (h : DU w W1 b t a len cap zs) (hb : b < W.heap.size) (hw : w.heap.size ≤ W.heap.size) (hB : Below W.heap.size W1 W2) : DU w W2 b t a len cap zs :=
  ⟨⟨h.src.box.below hB hb, h.rd.below (h.bel.trans (hB.mono hw)), h.src.lt⟩, h.bel.trans (hB.mono hw), h.lo, h.rd⟩
theorem grown_trans_far {W W1 W2 : World} {row : Option Nat} (h : W.grownBy W1 row) (hB : Below W.heap.size W1 W2) : W.grownBy W2 row :=
  ⟨hB.os.trans h.os, hB.tape.trans h.tape, hB.output.trans h.output, Nat.le_trans h.size hB.size, fun k hk hr => (hB.block k hk).trans (h.block k hk hr)⟩
/-- a list in an array of its own, its bytes in arrays of their own, all blocks from lo on -/
structure LL (w : World) (lo : Nat) (a : Option Addr) (len cap : Nat) (ps : List Pm) : Prop where
  row : Lo w lo a len cap ps
  ds : Ds w lo w.heap.size ps
section
variable {w w' : World} {lo len cap : Nat} {a : Option Addr} {ps : List Pm}
theorem LL.off (h : LL w lo a len cap ps) {b : Nat} (hg : w.grownBy w' (some b)) (hb : b < lo) : LL w' lo a len cap ps := by
  refine ⟨h.row.same fun x hx => hg.block _ (h.row.lt x hx).2 (by have := (h.row.lt x hx).1; simp; omega), ?_⟩
  exact (h.ds.same fun q hq x hx => hg.block _ ((h.ds.own q hq).1.lt x hx).2 (by have := ((h.ds.own q hq).1.lt x hx).1; simp; omega)).mono hg.size
theorem LL.below (h : LL w lo a len cap ps) (hb : Below w.heap.size w w') : LL w' lo a len cap ps := ⟨h.row.below hb, (h.ds.below hb).mono hb.size⟩
theorem LL.pl (h : LL w lo a len cap ps) : Pl w a len cap ps := ⟨h.row.lb, fun p hp => (h.ds.own p hp).1.rd⟩
theorem LL.plO (h : LL w lo a len cap ps) : PlO w lo w.heap.size a len cap ps := h.row.plO h.ds (Nat.le_refl _) (fun x hx => (h.row.lt x hx).2)
end
theorem LL.of_clone {w w' : World} {lo len cap : Nat} {a : Option Addr} {ps : List Pm} (h : Lo w' w.heap.size a len cap ps) (hd : Ds w' w.heap.size w'.heap.size ps) (hl : lo ≤ w.heap.size) : LL w' lo a len cap ps := by
  refine ⟨⟨⟨h.row.1, ?_⟩⟩, ⟨fun q hq => ⟨(hd.own q hq).1.rebase hl, (hd.own q hq).2⟩, hd.sep⟩⟩
  rcases h.row.2 with h0 | ⟨g, c, cur, h1, h2, h3⟩
  · exact .inl h0
  · exact .inr ⟨g, c, cur, h1, Nat.le_trans hl h2, h3⟩

/-- a list without a fault, drawn from the source b -/
def ListDrawn (w W : World) (b t : Nat) (a : Option Addr) (len cap : Nat) (zs : List Int) (e : Ending) (w' : World) : Prop :=
  ∃ (a' : Option Addr) (n c' : Nat) (ps : List Pm) (t' : Nat), e = .returned (.slice a' n c') ∧ LL w' W.heap.size a' n c' ps ∧ pfV (vals ps) = 0 ∧ DU w w' b t' a len cap zs ∧ t' ≤ t + 36 ∧ W.grownBy w' (some b)

set_option maxHeartbeats 4000000 in
theorem l6Draw_any {w W : World} {b t : Nat} {a : Option Addr} {len cap : Nat} {zs : List Int} (h : DU w W b t a len cap zs) (ht : t ≤ 900000) (hl : len ≤ 1048576) :
    Calls Try.prog 99 #[.pointer (some ⟨b, 0, none⟩)] W (ListDrawn w W b t a len cap zs) := by
  have D0 := Lib.hid (h.alloc (.cells #[] 133))
  have hb := h.src.box.lt
  have L0 : Hid (LL (W.alloc (.cells #[] 133)) W.heap.size (some ⟨W.heap.size, 0, none⟩) 0 0 []) := ⟨lo_lit W W.heap.size (Nat.le_refl _), Ds.nil _ _ _⟩
  have G0 := Lib.hid (grown_alloc (w := W) (.cells #[] 133) (some b))
  clear h
  go_enter Try.func99, Try.ntmps99
  go_wp2_with fail
  refine (D0.out.next 6 (by omega) hl (by omega)).mono ?_
  rintro e w1 ⟨r, rfl, r0, r1, d1, g1⟩
  have D1 := Lib.hid d1
  have L1 := Lib.hid (L0.out.off g1 (by omega))
  have G1 := Lib.hid (grown_trans G0.out g1)
  obtain ⟨R, rfl⟩ : ∃ R : Nat, r = R := ⟨r.toNat, by omega⟩
  have hR : R ≤ 5 := by have := r1 (by omega); omega
  clear d1 g1 D0 L0 G0 r1 r0
  go_wp2
  go_loopw [3, 4] (fun o i wr => ∃ (k : Nat) (a1 : Option Addr) (n1 c1 : Nat) (ps : List Pm) (t1 : Nat), k ≤ R ∧ i = .int .i64 k ∧ o = .slice a1 n1 c1 ∧ Hid (LL wr W.heap.size a1 n1 c1 ps) ∧ Hid (pfV (vals ps) = 0) ∧ Hid (DU w wr b t1 a len cap zs) ∧ t1 + 7 * k ≤ t + 36 ∧ Hid (W.grownBy wr (some b))) (fun _ i _ => (intOf i).toNat)
  case atStart => exact ⟨R, _, 0, 0, [], _, Nat.le_refl _, rfl, rfl, L1.out, rfl, D1.out, by omega, G1.out⟩
  case round =>
    obtain ⟨k, a1, n1, c1, ps, t1, hk, rfl, rfl, hL, hP, hD, ht1, hG⟩ := hrel
    clear L1 D1 G1
    by_cases hk0 : k = 0
    · subst hk0
      go_wp2
      go_ret
      exact ⟨a1, n1, c1, ps, t1, rfl, hL.out, hP.out, hD.out, by omega, hG.out⟩
    · have hkp : (0 : Int) < (k : Int) := by omega
      go_wp2_with fail
      refine (hD.out.next 30 (by omega) hl (by omega)).mono ?_
      rintro e w2 ⟨x, rfl, x0, x1, d2, g2⟩
      have D2 := Lib.hid d2
      have L2 := Lib.hid (hL.out.off g2 (by omega))
      have G2 := Lib.hid (grown_trans hG.out g2)
      have hx := x1 (by omega)
      clear d2 g2 hL hD hG x1
      go_wp2_with fail
      refine (D2.out.next 5 (by omega) hl (by omega)).mono ?_
      rintro e w3 ⟨y, rfl, y0, y1, d3, g3⟩
      have D3 := Lib.hid d3
      have L3 := Lib.hid (L2.out.off g3 (by omega))
      have G3 := Lib.hid (grown_trans G2.out g3)
      have hy := y1 (by omega)
      obtain ⟨Y, hY⟩ : ∃ Y : Nat, 1 + y = (Y : Int) := ⟨(1 + y).toNat, by omega⟩
      have hYb : 1 ≤ Y ∧ Y ≤ 5 := by omega
      obtain rfl : y = (Y : Int) - 1 := by omega
      have hYe : 1 + ((Y : Int) - 1) = (Y : Int) := by omega
      clear d3 g3 L2 D2 G2 y1 hY y0 hy
      go_wp2_with fail
      refine (D3.out.bytes Y (by omega) hl).mono ?_
      rintro e w4 ⟨a4, c4, ys, rfl, o4, d4, g4⟩
      have D4 := Lib.hid d4
      have L4 := Lib.hid (L3.out.off g4 (by omega))
      have G4 := Lib.hid (grown_trans G3.out g4)
      have R4 := Lib.hid o4.rd
      have hys : ys.length = Y := o4.length
      obtain ⟨X, rfl⟩ : ∃ X : Nat, x = X := ⟨x.toNat, by omega⟩
      have KP := Lib.hid (l6Put_all a1 n1 c1 ps (X : Int) a4 Y c4 ys w4 L4.out.pl R4.out hP.out (span_t (by omega)))
      have PO := Lib.hid (fun hh => putV_ok (X := X) (zs := ys) hP.out (by omega) hh)
      clear d4 g4 o4 L3 D3 G3
      go_wp2_with fail
      refine KP.out.mono ?_
      rintro e w5 ⟨a5, c5, qs, rfl, l5, d5, v5, b5⟩
      have hql : qs.length = (putV (vals ps) (X : Int) ys).length := l5.length
      have L5 := Lib.hid (LL.of_clone (lo := W.heap.size) l5 d5 G4.out.size)
      have V5 := Lib.hid v5
      have D5 := Lib.hid (D4.out.under6 b5)
      have G5 := Lib.hid (grown_trans G4.out (grown_of_below b5 (some b)))
      have K5 := Lib.hid (L4.out.below b5)
      generalize (putV (vals ps) (X : Int) ys).length = m at *
      clear l5 d5 v5 b5 KP R4 L4 D4 G4
      by_cases hm : m ≤ 4
      · have P5 : Hid (pfV (vals qs) = 0) := by rw [V5.out]; exact PO.out hm
        clear PO
        go_wp2
        go_roundw
        case rel => exact ⟨k - 1, a5, m, c5, qs, _, by omega, by go_num, rfl, L5.out, P5.out, D5.out, by omega, G5.out⟩
        case measure => simp [intOf]; omega
      · clear PO
        go_wp2
        go_roundw
        case rel => exact ⟨k - 1, a1, n1, c1, ps, _, by omega, by go_num, rfl, K5.out, hP.out, D5.out, by omega, G5.out⟩
        case measure => simp [intOf]; omega

/-- a list, bent or not, drawn from the source b -/
def ListBent (w W : World) (b t : Nat) (a : Option Addr) (len cap : Nat) (zs : List Int) (e : Ending) (w' : World) : Prop :=
  ∃ (a' : Option Addr) (n c' : Nat) (ps : List Pm) (t' : Nat), e = .returned (.slice a' n c') ∧ Pl w' a' n c' ps ∧ (∀ x, a' = some x → W.heap.size ≤ x.block ∧ x.block < w'.heap.size) ∧ (∀ p ∈ ps, ∀ x, p.a = some x → W.heap.size ≤ x.block ∧ x.block < w'.heap.size) ∧ n ≤ 5 ∧ (∀ p ∈ ps, p.l ≤ 2000) ∧ DU w w' b t' a len cap zs ∧ t' ≤ t + 60 ∧ W.grownBy w' (some b)
theorem LL.bent {w : World} {lo len cap : Nat} {a : Option Addr} {ps : List Pm} (h : LL w lo a len cap ps) : (∀ x, a = some x → lo ≤ x.block ∧ x.block < w.heap.size) ∧ (∀ p ∈ ps, ∀ x, p.a = some x → lo ≤ x.block ∧ x.block < w.heap.size) :=
  ⟨h.row.lt, fun p hp => (h.ds.own p hp).1.lt⟩
theorem nil_rd (w : World) : Rd w none 0 0 [] := (Own.nil w 0).rd
theorem mem_set_or {ps : List Pm} {k : Nat} {q p : Pm} (h : p ∈ ps.set k q) : p = q ∨ p ∈ ps := by
  rcases List.mem_or_eq_of_mem_set h with h | h
  · exact .inr h
  · exact .inl h

set_option maxHeartbeats 8000000 in
theorem l6Bent_any {w W : World} {b t : Nat} {a : Option Addr} {len cap : Nat} {zs : List Int} (h : DU w W b t a len cap zs) (ht : t ≤ 800000) (hl : len ≤ 1048576) :
    Calls Try.prog 91 #[.pointer (some ⟨b, 0, none⟩)] W (ListBent w W b t a len cap zs) := by
  have K := Lib.hid (l6Draw_any h (by omega) hl)
  have hb := h.src.box.lt
  have hw0 := h.bel.size
  clear h
  go_enter Try.func91, Try.ntmps91
  go_wp2_with fail
  refine K.out.mono ?_
  rintro e w1 ⟨a1, n1, c1, ps, t1, rfl, l1, p1, d1, ht1, g1⟩
  have L1 := Lib.hid l1
  have D1 := Lib.hid d1
  have G1 := Lib.hid g1
  have hp1 := ok_parts l1.pl p1
  have hn1 := hp1.1
  have HP := Lib.hid hp1.2
  clear l1 d1 g1 hp1 K p1
  by_cases hn0 : n1 = 0
  · subst hn0
    have hbt := L1.out.bent
    go_wp2
    go_ret
    exact ⟨a1, 0, c1, ps, t1, rfl, L1.out.pl, hbt.1, hbt.2, by omega, fun p hp => by have := HP.out p hp; omega, D1.out, by omega, G1.out⟩
  have e0 : ((n1 : Int) == 0) = false := by simp; omega
  have hk1 : (1 : Int) ≤ (n1 : Int) := by omega
  go_wp2_with fail
  refine (D1.out.next n1 (by omega) hl (by omega)).mono ?_
  rintro e w2 ⟨r, rfl, r0, r1, d2, g2⟩
  have D2 := Lib.hid d2
  have L2 := Lib.hid (L1.out.off g2 (by omega))
  have G2 := Lib.hid (grown_trans G1.out g2)
  have hr := r1 hk1
  obtain ⟨R, rfl⟩ : ∃ R : Nat, r = R := ⟨r.toNat, by omega⟩
  have hR : R < n1 := by omega
  clear d2 g2 D1 L1 G1 r1 r0 hr
  go_wp2_with fail
  refine (D2.out.next 12 (by omega) hl (by omega)).mono ?_
  rintro e w3 ⟨s, rfl, s0, s1, d3, g3⟩
  have D3 := Lib.hid d3
  have L3 := Lib.hid (L2.out.off g3 (by omega))
  have G3 := Lib.hid (grown_trans G2.out g3)
  clear d3 g3 D2 L2 G2 s1
  obtain ⟨g, rfl⟩ : ∃ g, a1 = some ⟨g, 0, none⟩ := by
    rcases L3.out.row.shape with ⟨_, h0, _⟩ | h0
    · omega
    · exact h0
  have hgb : W.heap.size ≤ g ∧ g < w3.heap.size := L3.out.row.lt _ rfl
  by_cases hs0 : s = 0
  · subst hs0
    go_wp2_with fail
    refine (D3.out.pick [-1, 1999, 2000, 3] (-1) 2000 rfl rfl (by simp) (by decide) (by decide) (by omega) hl).mono ?_
    rintro e w4 ⟨y, rfl, y0, y1, d4, g4⟩
    have D4 := Lib.hid d4
    have L4 := Lib.hid (L3.out.off g4 (by omega))
    have G4 := Lib.hid (grown_trans G3.out g4)
    obtain ⟨b', off', p, e, hp, q0, q1⟩ := L4.out.row.lb.at hR
    cases e
    have f0 := L4.out.row.fz.at (0 + R * 2)
    have PP := Lib.hid (L4.out.plO.putK R p hp y)
    have HM := Lib.hid (fun p' (h : p' ∈ ps.set R { p with k := y }) => show p'.l ≤ 2000 ∧ (∀ x, p'.a = some x → W.heap.size ≤ x.block ∧ x.block < w4.heap.size) from by
      have hpp : p ∈ ps := List.mem_of_getElem? hp
      have hb2 := L4.out.bent.2
      rcases mem_set_or h with rfl | hq
      · exact ⟨by have := HP.out p hpp; show p.l ≤ 2000; omega, hb2 p hpp⟩
      · exact ⟨by have := HP.out p' hq; omega, hb2 p' hq⟩)
    have hg4 : g < w4.heap.size := by have := g4.size; omega
    have hmx := L4.out.row.max
    unfold maxLen at hmx
    have D5 := Lib.hid (D4.out.put6 g (0 + R * 2) (.int .i64 y) (by omega) (by omega))
    have G5 := Lib.hid (grown_far G4.out g (0 + R * 2) (.int .i64 y) hgb.1)
    simp only [Nat.zero_add] at q0 q1 f0 PP D5 G5
    clear d4 hp L3 D3 G3
    go_wp2
    refine bodyPost_ret (v := .slice (some ⟨g, 0, none⟩) n1 c1) (by simp [results, Try.results91, go_sem]) rfl ⟨_, _, _, _, _, rfl, PP.out.pl, ?_, ?_, by omega, fun p' h => (HM.out p' h).1, D5.out, by omega, G5.out⟩
    · rintro x hx
      cases hx
      rw [World.size_setCell]
      exact ⟨hgb.1, hg4⟩
    · intro p' h x hx
      rw [World.size_setCell]
      exact (HM.out p' h).2 x hx
  by_cases hs1 : s = 1
  · subst hs1
    obtain ⟨b', off', p, e, hp, q0, q1⟩ := L3.out.row.lb.at hR
    cases e
    have f1 := L3.out.row.fz.at (0 + R * 2 + 1)
    have hmx := L3.out.row.max
    unfold maxLen at hmx
    have PL : Hid (Pl (w3.setCell ⟨g, 0 + R * 2 + 1, none⟩ (.slice none 0 0)) (some ⟨g, 0, none⟩) n1 c1 (ps.set R ⟨p.k, none, 0, 0, []⟩)) := by
      refine ⟨L3.out.row.lb.putD R p hp none 0 0 [], fun p' h => ?_⟩
      rcases mem_set_or h with rfl | hq
      · exact nil_rd _
      · exact ((L3.out.ds.own p' hq).1.setOther ⟨g, 0 + R * 2 + 1, none⟩ (.slice none 0 0) (fun x hx e => own_lo_ne (y := ⟨g, 0, none⟩) (L3.out.ds.own p' hq).1 L3.out.row hx rfl e)).rd
    have HM := Lib.hid (fun p' (h : p' ∈ ps.set R ⟨p.k, none, 0, 0, []⟩) => show p'.l ≤ 2000 ∧ (∀ x, p'.a = some x → W.heap.size ≤ x.block ∧ x.block < w3.heap.size) from by
      rcases mem_set_or h with rfl | hq
      · exact ⟨Nat.zero_le _, fun x hx => by cases hx⟩
      · exact ⟨by have := HP.out p' hq; omega, L3.out.bent.2 p' hq⟩)
    have D5 := Lib.hid (D3.out.put6 g (0 + R * 2 + 1) (.slice none 0 0) (by omega) (by omega))
    have G5 := Lib.hid (grown_far G3.out g (0 + R * 2 + 1) (.slice none 0 0) hgb.1)
    simp only [Nat.zero_add] at q0 q1 f1 PL D5 G5
    clear hp L3 D3 G3
    go_wp2
    refine bodyPost_ret (v := .slice (some ⟨g, 0, none⟩) n1 c1) (by simp [results, Try.results91, go_sem]) rfl ⟨_, _, _, _, _, rfl, PL.out, ?_, ?_, by omega, fun p' h => (HM.out p' h).1, D5.out, by omega, G5.out⟩
    · rintro x hx
      cases hx
      rw [World.size_setCell]
      exact hgb
    · intro p' h x hx
      rw [World.size_setCell]
      exact (HM.out p' h).2 x hx
  by_cases hs2 : s = 2
  · subst hs2
    obtain ⟨b', off', p, e, hp, q0, q1⟩ := L3.out.row.lb.at hR
    cases e
    have hmx := L3.out.row.max
    unfold maxLen at hmx
    have hpp : p ∈ ps := List.mem_of_getElem? hp
    have bA : Below w3.heap.size w3 (w3.alloc (.cells #[.int .i64 p.k, .slice p.a p.l p.c] 133)) := (Below.refl _ _).alloc (Nat.le_refl _) _
    have LA := Lib.hid (L3.out.below bA)
    have XA := Lib.hid (lb_box (Box.new w3 133 #[.int .i64 p.k, .slice p.a p.l p.c]) p.z)
    have DA := Lib.hid (D3.out.under6 bA)
    have GA := Lib.hid (grown_trans G3.out (grown_of_below bA (some b)))
    have hwA := Lib.hid (show W.heap.size ≤ (w3.alloc (.cells #[.int .i64 p.k, .slice p.a p.l p.c] 133)).heap.size by have := G3.out.size; simp; omega)
    simp only [Nat.zero_add] at q0 q1
    clear hp L3 D3 G3 bA
    go_wp2_with (at_builtin; refine append_pieces _ rfl (.tmp 35) (.tmp 40) rfl W.heap.size _ _ _ _ rfl LA.out.row _ _ _ _ rfl XA.out hwA.out (by omega) ?_; intro a3 c3 w5 l5 g5; have L5 := Lib.hid l5; have G5 := Lib.hid g5; clear l5 g5)
    have B5 := Lib.hid (below_of_grown G5.out hwA.out (fun k e => own_of_lo_blk LA.out.row k e))
    have DS5 := Lib.hid (LA.out.ds.grown LA.out.row G5.out)
    have ep : (Pm.mk p.k p.a p.l p.c p.z) = p := rfl
    have PL : Hid (Pl w5 a3 (n1 + 1) c3 (ps ++ [p])) := ⟨L5.out.lb, fun p' h => by
      rcases List.mem_append.1 h with h | h
      · exact (DS5.out.own p' h).1.rd
      · obtain rfl := List.mem_singleton.1 h
        exact (DS5.out.own _ hpp).1.rd⟩
    have HM := Lib.hid (fun p' (h : p' ∈ ps ++ [p]) => show p'.l ≤ 2000 ∧ (∀ x, p'.a = some x → W.heap.size ≤ x.block ∧ x.block < w5.heap.size) from by
      have hh : p' ∈ ps := by
        rcases List.mem_append.1 h with h | h
        · exact h
        · obtain rfl := List.mem_singleton.1 h
          exact hpp
      exact ⟨by have := HP.out p' hh; omega, fun x hx => (DS5.out.own p' hh).1.lt x hx⟩)
    have D5 := Lib.hid (D_grown DA.out hb hw0 B5.out)
    have G6 := Lib.hid (grown_trans_far GA.out B5.out)
    clear DS5 LA XA DA GA
    go_wp2
    exact bodyPost_ret (v := .slice a3 (n1 + 1) c3) (by simp [results, Try.results91, go_sem]) rfl ⟨_, _, _, _, _, rfl, PL.out, L5.out.lt, fun p' h => (HM.out p' h).2, by omega, fun p' h => (HM.out p' h).1, D5.out, by omega, G6.out⟩
  by_cases hs3 : s = 3
  · subst hs3
    go_wp2_with fail
    refine (D3.out.pick [10, 11] 10 11 rfl rfl (by simp) (by decide) (by decide) (by omega) hl).mono ?_
    rintro e w4 ⟨y, rfl, y0, y1, d4, g4⟩
    have D4 := Lib.hid d4
    have L4 := Lib.hid (L3.out.off g4 (by omega))
    have G4 := Lib.hid (grown_trans G3.out g4)
    obtain ⟨Y, rfl⟩ : ∃ Y : Nat, y = Y := ⟨y.toNat, by omega⟩
    have hY : Y ≤ 11 := by omega
    clear d4 g4 L3 D3 G3
    go_wp2_with fail
    refine (D4.out.bytes Y (by omega) hl).mono ?_
    rintro e w5 ⟨a5, c5, ys, rfl, o5, d5, g5⟩
    have L5 := Lib.hid (L4.out.off g5 (by omega))
    have G5 := Lib.hid (grown_trans G4.out g5)
    have bA : Below w5.heap.size w5 (w5.alloc (.cells #[.int .i64 1990, .slice a5 Y c5] 133)) := (Below.refl _ _).alloc (Nat.le_refl _) _
    have LA := Lib.hid (L5.out.below bA)
    have XA := Lib.hid (lb_box (Box.new w5 133 #[.int .i64 1990, .slice a5 Y c5]) ys)
    have OA := Lib.hid ((o5.rebase G4.out.size).below bA)
    have DA := Lib.hid (DU.under6 d5 bA)
    have GA := Lib.hid (grown_trans G5.out (grown_of_below bA (some b)))
    have hwA := Lib.hid (show W.heap.size ≤ (w5.alloc (.cells #[.int .i64 1990, .slice a5 Y c5] 133)).heap.size by have := G5.out.size; simp; omega)
    have hmx := LA.out.row.max
    unfold maxLen at hmx
    clear d5 g5 o5 L4 D4 G4 L5 G5 bA
    go_wp2_with (at_builtin; refine append_pieces _ rfl (.tmp 44) (.tmp 51) rfl W.heap.size _ _ _ _ rfl LA.out.row _ _ _ _ rfl XA.out hwA.out (by omega) ?_; intro a3 c3 w6 l6 g6; have L6 := Lib.hid l6; have G6 := Lib.hid g6; clear l6 g6)
    have B6 := Lib.hid (below_of_grown G6.out hwA.out (fun k e => own_of_lo_blk LA.out.row k e))
    have DS6 := Lib.hid (LA.out.ds.grown LA.out.row G6.out)
    have O6 := Lib.hid (OA.out.grown G6.out (fun x hx e => by
      cases hx
      exact own_lo_ne OA.out LA.out.row rfl rfl (by simpa [Value.ownBlock] using e)))
    have PL : Hid (Pl w6 a3 (n1 + 1) c3 (ps ++ [⟨1990, a5, Y, c5, ys⟩])) := ⟨L6.out.lb, fun p' h => by
      rcases List.mem_append.1 h with h | h
      · exact (DS6.out.own p' h).1.rd
      · obtain rfl := List.mem_singleton.1 h
        exact O6.out.rd⟩
    have HM := Lib.hid (fun p' (h : p' ∈ ps ++ [Pm.mk 1990 a5 Y c5 ys]) => show p'.l ≤ 2000 ∧ (∀ x, p'.a = some x → W.heap.size ≤ x.block ∧ x.block < w6.heap.size) from by
      rcases List.mem_append.1 h with h | h
      · exact ⟨by have := HP.out p' h; omega, fun x hx => (DS6.out.own p' h).1.lt x hx⟩
      · obtain rfl := List.mem_singleton.1 h
        exact ⟨by show Y ≤ 2000; omega, O6.out.lt⟩)
    have D6 := Lib.hid (D_grown DA.out hb hw0 B6.out)
    have G7 := Lib.hid (grown_trans_far GA.out B6.out)
    clear DS6 LA XA DA GA OA
    go_wp2
    exact bodyPost_ret (v := .slice a3 (n1 + 1) c3) (by simp [results, Try.results91, go_sem]) rfl ⟨_, _, _, _, _, rfl, PL.out, L6.out.lt, fun p' h => (HM.out p' h).2, by omega, fun p' h => (HM.out p' h).1, D6.out, by omega, G7.out⟩
  have b0 : (s == 0) = false := by simpa using hs0
  have b1 : (s == 1) = false := by simpa using hs1
  have b2 : (s == 2) = false := by simpa using hs2
  have b3 : (s == 3) = false := by simpa using hs3
  clear hs0 hs1 hs2 hs3
  have hbt := L3.out.bent
  go_wp2
  exact bodyPost_ret (v := .slice (some ⟨g, 0, none⟩) n1 c1) (by simp [results, Try.results91, go_sem]) rfl ⟨_, n1, c1, ps, _, rfl, L3.out.pl, hbt.1, hbt.2, by omega, fun p hp => by have := HP.out p hp; omega, D3.out, by omega, G3.out⟩
end Go.Proofs.Ytimlobhlcmghfaa
