/-
  partOf and CutPiece of the program.
-/
import Derived.Test.YtlmglepphjpohaaP6V
import Derived.Lib.MinMax
namespace Go.Proofs.Ytlmglepphjpohaa
open Go.ChangeShapes Go.WideShapes Go.ChangeAt Go.RowKit

theorem keepFz {W w1 : World} (hb : Below W.heap.size W w1) {p : Addr} {u : Value} (hc : W.cell? p = some u) (h : W.frozen? p = false) : w1.frozen? p = false := (hb.frozen (World.block_lt_of_cell? _ _ hc)).trans h
/-- a place and bytes that can be read -/
def PartOut (w : World) (v : Int × List Int) (e : Ending) (w' : World) : Prop :=
  ∃ a' l' c', e = .returned (.agg #[.int .i64 v.1, .slice a' l' c']) ∧ Rd w' a' l' c' v.2 ∧ Below w.heap.size w w'
set_option maxHeartbeats 2000000 in
theorem partOf_any (k : Int) (a : Option Addr) (len cap : Nat) (zs : List Int) (lo hi : Int) (w : World) (h : Rd w a len cap zs) (hl : len ≤ 1048576) (hk : -2000 ≤ k ∧ k ≤ 2000) (hlo : 0 ≤ lo ∧ lo ≤ 1100000) (hhi : -2000 ≤ hi ∧ hi ≤ 1100000) :
    Calls Try.prog 63 #[.agg #[.int .i64 k, .slice a len cap], .int .i64 lo, .int .i64 hi] w (PartOut w (partV k zs lo hi)) := by
  have hz := h.length
  have B0 := Lib.hid (((Below.refl w.heap.size w).alloc (Nat.le_refl _) (.cells #[.int .i64 k, .slice a len cap] 44)).alloc (by simp) (.cells #[.int .i64 0, .slice none 0 0] 44))
  have X0 := Lib.hid ((Box.new w 44 #[.int .i64 k, .slice a len cap]).alloc (.cells #[.int .i64 0, .slice none 0 0] 44))
  have Y0 := Lib.hid (Box.new (w.alloc (.cells #[.int .i64 k, .slice a len cap] 44)) 44 #[.int .i64 0, .slice none 0 0])
  have K := Lib.hid (fun W => endOf_any k a len cap W hl hk.1 hk.2)
  have eM : max k lo = mx k lo := by unfold mx; split <;> omega
  have eN : min (k + (len : Int)) hi = mn (k + len) hi := by unfold mn; split <;> omega
  have b1 : -2000 ≤ mx k lo ∧ mx k lo ≤ 1100000 := by unfold mx; split <;> omega
  have b2 : -2000 ≤ mn (k + len) hi ∧ mn (k + len) hi ≤ 1100000 := by unfold mn; split <;> omega
  by_cases hc : mn (k + len) hi ≤ mx k lo
  · have hV : Hid (partV k zs lo hi = (0, [])) := partV_none (by rw [hz]; exact hc)
    rw [hV.out]
    clear h hz hV
    generalize mx k lo = F at *
    generalize mn (k + len) hi = E at *
    go_enter Try.func63, Try.ntmps63
    go_wp2_with fail
    obtain ⟨_, x0, x1⟩ := X0.out.two
    obtain ⟨_, y0, y1⟩ := Y0.out.two
    have g0 := Y0.out.frozen 0
    have g1 := Y0.out.frozen 1
    simp only [World.size_alloc] at y0 y1 g0 g1
    generalize hW : (w.alloc (.cells #[.int .i64 k, .slice a len cap] 44)).alloc (.cells #[.int .i64 0, .slice none 0 0] 44) = W at *
    go_region_held3 (fun W => W.cell? ⟨w.heap.size, 0, none⟩ = some (.int .i64 k) ∧ W.cell? ⟨w.heap.size, 1, none⟩ = some (.slice a len cap) ∧ W.cell? ⟨w.heap.size + 1, 0, none⟩ = some (.int .i64 0) ∧ W.cell? ⟨w.heap.size + 1, 1, none⟩ = some (.slice none 0 0) ∧ W.frozen? ⟨w.heap.size + 1, 0, none⟩ = false ∧ W.frozen? ⟨w.heap.size + 1, 1, none⟩ = false)
      (first | go_keep | (go_split_ands; exact ⟨keepK hb (by assumption), keepK hb (by assumption), keepK hb (by assumption), keepK hb (by assumption), keepFz hb (by assumption) (by assumption), keepFz hb (by assumption) (by assumption)⟩))
      (first | (go_at_call 72; refine (K.out _).mono ?_; rintro e w10 ⟨rfl, b10⟩; have hb := b10))
    all_goals (
      have Y0' := Y0.out
      rw [World.size_alloc] at Y0'
      have Y1 := (show Box W.drew (w.heap.size + 1) 44 #[.int .i64 0, .slice none 0 0] from Y0').below b10 Y0'.lt
      have B1 := Lib.hid (B0.out.drew.trans (b10.mono B0.out.drew.size))
      obtain ⟨zz, z0, z1⟩ := Y1.two
      have f0 := Y1.frozen 0
      have f1 := Y1.frozen 1
      clear hb b10 x0 x1 y0 y1 Y1 Y0'
      go_wp2
      exact bodyPost_ret (v := .agg #[.int .i64 0, .slice none 0 0]) (by simp [results, Try.results63, go_sem, z0, z1]) rfl ⟨_, _, _, rfl, (Own.nil _ 0).rd, (B1.out.setCell (by simp) _).setCell (by simp) _⟩)
  · obtain ⟨A, N, hN, hAN, eA, eE⟩ := part_nums hc
    have hV : Hid (partV k zs lo hi = (mx k lo, (zs.drop A).take N)) := partV_some (by rw [hz]; exact hc) eA (by rw [hz]; exact eE)
    have hcap : len ≤ cap := h.le
    have hmx := h.max
    obtain ⟨b, off, rfl, hr⟩ := h.part A N N hAN hN (Nat.le_refl _) (by omega)
    have R := Lib.hid hr
    have hA : ¬ A + N = A := by omega
    have w1 : IntKind.i64.wrap (mx k lo - k) = (A : Int) := (IntWalk.i64_in _ (by omega)).trans eA
    have w2 : IntKind.i64.wrap (mn (k + len) hi - k) = ((A + N : Nat) : Int) := (IntWalk.i64_in _ (by omega)).trans eE
    rw [hV.out]
    clear h hz hr hV
    generalize mx k lo = F at *
    generalize mn (k + len) hi = E at *
    go_enter Try.func63, Try.ntmps63
    go_wp2_with fail
    obtain ⟨_, x0, x1⟩ := X0.out.two
    obtain ⟨_, y0, y1⟩ := Y0.out.two
    have g0 := Y0.out.frozen 0
    have g1 := Y0.out.frozen 1
    simp only [World.size_alloc] at y0 y1 g0 g1
    generalize hW : (w.alloc (.cells #[.int .i64 k, .slice (some ⟨b, off, none⟩) len cap] 44)).alloc (.cells #[.int .i64 0, .slice none 0 0] 44) = W at *
    go_region_held3 (fun W => W.cell? ⟨w.heap.size, 0, none⟩ = some (.int .i64 k) ∧ W.cell? ⟨w.heap.size, 1, none⟩ = some (.slice (some ⟨b, off, none⟩) len cap) ∧ W.cell? ⟨w.heap.size + 1, 0, none⟩ = some (.int .i64 0) ∧ W.cell? ⟨w.heap.size + 1, 1, none⟩ = some (.slice none 0 0) ∧ W.frozen? ⟨w.heap.size + 1, 0, none⟩ = false ∧ W.frozen? ⟨w.heap.size + 1, 1, none⟩ = false)
      (first | go_keep | (go_split_ands; exact ⟨keepK hb (by assumption), keepK hb (by assumption), keepK hb (by assumption), keepK hb (by assumption), keepFz hb (by assumption) (by assumption), keepFz hb (by assumption) (by assumption)⟩))
      (first | (go_at_call 72; refine (K.out _).mono ?_; rintro e w10 ⟨rfl, b10⟩; have hb := b10))
    all_goals (
      have Y0' := Y0.out
      rw [World.size_alloc] at Y0'
      have Y1 := (show Box W.drew (w.heap.size + 1) 44 #[.int .i64 0, .slice none 0 0] from Y0').below b10 Y0'.lt
      have x0' := keepK b10 (show W.drew.cell? _ = _ from x0)
      have x1' := keepK b10 (show W.drew.cell? _ = _ from x1)
      have B1 := Lib.hid (B0.out.drew.trans (b10.mono B0.out.drew.size))
      obtain ⟨zz, z0, z1⟩ := Y1.two
      have f0 := Y1.frozen 0
      have f1 := Y1.frozen 1
      clear hb b10 x0 x1 y0 y1 Y1 Y0'
      go_wp2
      exact bodyPost_ret (v := .agg #[.int .i64 F, .slice (some ⟨b, off + A, none⟩) N N]) (by simp [results, Try.results63, go_sem, z0, z1]) rfl ⟨_, _, _, rfl, R.out.below ((B1.out.setCell (by simp) _).setCell (by simp) _), (B1.out.setCell (by simp) _).setCell (by simp) _⟩)

set_option maxHeartbeats 2000000 in
theorem implCutPiece (x : Int) (a : Option Addr) (len cap : Nat) (zs : List Int) (y : Int) (w : World) (h : Rd w a len cap zs) (hl : len ≤ 1048576) :
    Calls Try.prog 27 #[.int .i64 x, .slice a len cap, .int .i64 y] w (PrOut w (cuC x zs y) (cuL x zs y) []) := by
  have hz := h.length
  obtain ⟨W0, hW0⟩ : ∃ W0, W0 = (((w.alloc (.cells #[.int .i64 0, .slice none 0 0, .slice none 0 0] 28)).alloc (.cells #[.int .i64 x, .int .i64 (-2000), .int .i64 2000] 81)).alloc (.cells #[.int .i64 y, .int .i64 0, .int .i64 2000] 81)).alloc (.cells #[.int .i64 x, .int .i64 (-2000), .int .i64 2000, .int .i64 y, .int .i64 0, .int .i64 2000] 81) := ⟨_, rfl⟩
  have HW := Lib.hid hW0
  have B0 : Hid (Below w.heap.size w W0) := by
    rw [hW0]
    exact ((((Below.refl w.heap.size w).alloc (Nat.le_refl _) _).alloc (by simp) _).alloc (by simp; omega) _).alloc (by simp; omega) _
  have X0 : Hid (Box W0 w.heap.size 28 #[.int .i64 0, .slice none 0 0, .slice none 0 0]) := by
    rw [hW0]
    exact (((Box.new w 28 #[.int .i64 0, .slice none 0 0, .slice none 0 0]).alloc _).alloc _).alloc _
  have Y0 : Box W0 (w.heap.size + 1 + 1 + 1) 81 #[.int .i64 x, .int .i64 (-2000), .int .i64 2000, .int .i64 y, .int .i64 0, .int .i64 2000] := by
    rw [hW0]
    have := Box.new (((w.alloc (.cells #[.int .i64 0, .slice none 0 0, .slice none 0 0] 28)).alloc (.cells #[.int .i64 x, .int .i64 (-2000), .int .i64 2000] 81)).alloc (.cells #[.int .i64 y, .int .i64 0, .int .i64 2000] 81)) 81 #[.int .i64 x, .int .i64 (-2000), .int .i64 2000, .int .i64 y, .int .i64 0, .int .i64 2000]
    simpa using this
  have K := Lib.hid (within2 _ _ x (-2000) 2000 y 0 2000 W0 Y0)
  clear Y0 hW0
  by_cases h12 : (-2000 ≤ x ∧ x ≤ 2000) ∧ (0 ≤ y ∧ y ≤ 2000)
  · obtain ⟨h1, h2⟩ := h12
    rw [in_t h1, in_t h2, Bool.true_and] at K
    by_cases h3 : len ≤ 700
    · have hC : cuC x zs y = 0 := by unfold cuC; rw [if_pos ⟨in_t h1, in_t h2⟩, if_pos (by omega)]
      have T := Lib.hid (fun W (hW : Below w.heap.size w W) => partOf_any x a len cap zs 0 y W (h.below hW) hl h1 (by omega) (by omega))
      have hL : cuL x zs y = if (partV x zs 0 y).2.length = 0 then [] else [partV x zs 0 y] := if_pos hC
      have E0 : Hid ((partV x zs 0 y).2.length = 0 → cuL x zs y = []) := fun q => by rw [hL, if_pos q]
      have E1 : Hid (¬ (partV x zs 0 y).2.length = 0 → cuL x zs y = [partV x zs 0 y]) := fun q => by rw [hL, if_neg q]
      have hPl : Hid ((partV x zs 0 y).2.length ≤ zs.length) := by
        unfold partV
        simp only [Hid]
        split
        · simp
        · simp; omega
      rw [hC]
      generalize cuL x zs y = V at *
      have hn : ¬ (700 : Int) < (len : Int) := by omega
      generalize partV x zs 0 y = P at *
      obtain ⟨pk, pz⟩ := P
      have hPz : Hid (pz.length ≤ 700) := by have := hPl.out; simp only [Hid] at *; omega
      clear h hC hL hz h3 hPl
      go_enter Try.func27, Try.ntmps27
      go_wp2_with fail
      rw [← HW.out]
      clear HW
      refine K.out.mono ?_
      rintro e w1 ⟨rfl, b1⟩
      have X1 := Lib.hid (X0.out.below b1 X0.out.lt)
      have B1 := Lib.hid (B0.out.trans (b1.mono B0.out.size))
      clear K b1 X0 B0
      go_wp2_with fail
      refine (T.out _ B1.out).mono ?_
      rintro e w2 ⟨a2, l2, c2, rfl, o2, b2⟩
      have X2 := Lib.hid (X1.out.below b2 X1.out.lt)
      have B2 := Lib.hid (B1.out.trans (b2.mono B1.out.size))
      have hl2 := o2.length
      simp only at hl2 o2
      have O2 := Lib.hid o2
      clear T b2 o2 X1 B1
      by_cases hz : l2 = 0
      · subst hz
        obtain ⟨zz, x0, x1, x2⟩ := X2.out.three
        have f0 := X2.out.frozen 0
        have f1 := X2.out.frozen 1
        have f2 := X2.out.frozen 2
        have EV : Hid (V = []) := E0.out hl2
        clear hl2 E0 E1
        go_wp2
        exact bodyPost_ret (v := .agg #[.int .i64 0, .slice none 0 0, .slice none 0 0]) (by simp [results, Try.results27, go_sem, x0, x1, x2, zz]) rfl ⟨_, _, _, [], _, _, _, rfl, PrO.zero _ _ _, EV.out.symm, (((B2.out.setCell (Nat.le_refl _) _).setCell (Nat.le_refl _) _).setCell (Nat.le_refl _) _).alloc (by simpa using B2.out.size) _⟩
      · have EV : Hid (V = [(pk, pz)]) := E1.out (by show ¬ pz.length = 0; omega)
        clear E0 E1
        have hb3 : Below w2.heap.size w2 ((w2.alloc (.cells #[.int .i64 pk, .slice a2 l2 c2] 44)).alloc (.cells #[.int .i64 pk, .slice a2 l2 c2] 44)) := ((Below.refl _ _).alloc (Nat.le_refl _) _).alloc (by simp) _
        have hx3 : Box ((w2.alloc (.cells #[.int .i64 pk, .slice a2 l2 c2] 44)).alloc (.cells #[.int .i64 pk, .slice a2 l2 c2] 44)) (w2.heap.size + 1) 44 #[.int .i64 pk, .slice a2 l2 c2] := by
          have := Box.new (w2.alloc (.cells #[.int .i64 pk, .slice a2 l2 c2] 44)) 44 #[.int .i64 pk, .slice a2 l2 c2]
          simpa using this
        have C := Lib.hid (clonePieces_any (some ⟨w2.heap.size + 1, 0, none⟩) 1 1 [⟨pk, a2, l2, c2, pz⟩] _ ⟨lb_box hx3 pz, fun q hq => by
          obtain rfl := List.mem_singleton.1 hq
          exact O2.out.below hb3⟩ (by omega) (fun q hq => by
          obtain rfl := List.mem_singleton.1 hq
          have := hPz.out
          show l2 ≤ 1048576
          omega))
        have X3 := Lib.hid (X2.out.below hb3 X2.out.lt)
        have B3 := Lib.hid (B2.out.trans (hb3.mono B2.out.size))
        clear hb3 hx3 X2 B2 hl2 hPz
        go_wp2_with fail
        refine C.out.mono ?_
        rintro e w4 ⟨a4, c4, qs, rfl, l4, d4, v4, b4⟩
        have X4 := X3.out.below b4 X3.out.lt
        have hx3 := X3.out.lt
        have B4 := Lib.hid (B3.out.trans (b4.mono B3.out.size))
        obtain ⟨zz, x0, x1, x2⟩ := X4.three
        have f0 := X4.frozen 0
        have f1 := X4.frozen 1
        have f2 := X4.frozen 2
        have R4 := Lib.hid ((PrO.noReady (l4.plO d4 (Nat.le_refl _) (fun x hx => (l4.lt x hx).2))).mono (lo' := w.heap.size + 1) hx3 (Nat.le_refl _))
        have EV' : Hid (vals qs = V) := by rw [v4]; exact EV.out.symm
        clear l4 d4 v4 b4 X4 X3 B3 C hx3
        go_wp2
        exact bodyPost_ret (v := .agg #[.int .i64 0, .slice a4 1 c4, .slice none 0 0]) (by simp [results, Try.results27, go_sem, x0, x1, x2]) rfl ⟨_, _, _, qs, _, _, _, rfl, (((R4.out.setOther _ _ (.inl (Nat.lt_succ_self _))).setOther _ _ (.inl (Nat.lt_succ_self _))).setOther _ _ (.inl (Nat.lt_succ_self _))).mono (Nat.le_succ _) (by simp), EV'.out, ((B4.out.setCell (Nat.le_refl _) _).setCell (Nat.le_refl _) _).setCell (Nat.le_refl _) _⟩
    · have hC : cuC x zs y = 2 := by unfold cuC; rw [if_pos ⟨in_t h1, in_t h2⟩, if_neg (by omega)]
      have hL : cuL x zs y = [] := by unfold cuL; rw [hC]; rfl
      rw [hC, hL]
      have hn : (700 : Int) < (len : Int) := by omega
      clear h hC hL hz h3
      go_enter Try.func27, Try.ntmps27
      go_wp2_with fail
      rw [← HW.out]
      clear HW
      refine K.out.mono ?_
      rintro e w1 ⟨rfl, b1⟩
      have X1 := X0.out.below b1 X0.out.lt
      have B1 := Lib.hid (B0.out.trans (b1.mono B0.out.size))
      obtain ⟨zz, x0, x1, x2⟩ := X1.three
      have f0 := X1.frozen 0
      have f1 := X1.frozen 1
      have f2 := X1.frozen 2
      clear K b1 X0 B0 X1
      go_wp2
      exact bodyPost_ret (v := .agg #[.int .i64 2, .slice none 0 0, .slice none 0 0]) (by simp [results, Try.results27, go_sem, x0, x1, x2]) rfl ⟨_, _, _, [], _, _, _, rfl, PrO.zero _ _ _, rfl, ((B1.out.setCell (Nat.le_refl _) _).setCell (Nat.le_refl _) _).setCell (Nat.le_refl _) _⟩
  · have hin : (inB x (-2000) 2000 && inB y 0 2000) = false := by
      by_cases h1 : -2000 ≤ x ∧ x ≤ 2000
      · rw [in_f (v := y) (fun h2 => h12 ⟨h1, h2⟩), Bool.and_false]
      · rw [in_f h1, Bool.false_and]
    have hC : cuC x zs y = 3 := by
      unfold cuC
      rw [if_neg]
      rintro ⟨q1, q2⟩
      rw [q1, q2] at hin
      cases hin
    have hL : cuL x zs y = [] := by unfold cuL; rw [hC]; rfl
    rw [hC, hL]
    rw [hin] at K
    clear h hC hL hz h12 hin
    go_enter Try.func27, Try.ntmps27
    go_wp2_with fail
    rw [← HW.out]
    clear HW
    refine K.out.mono ?_
    rintro e w1 ⟨rfl, b1⟩
    have X1 := X0.out.below b1 X0.out.lt
    have B1 := Lib.hid (B0.out.trans (b1.mono B0.out.size))
    obtain ⟨zz, x0, x1, x2⟩ := X1.three
    have f0 := X1.frozen 0
    have f1 := X1.frozen 1
    have f2 := X1.frozen 2
    clear K b1 X0 B0 X1
    go_wp2
    exact bodyPost_ret (v := .agg #[.int .i64 3, .slice none 0 0, .slice none 0 0]) (by simp [results, Try.results27, go_sem, x0, x1, x2]) rfl ⟨_, _, _, [], _, _, _, rfl, PrO.zero _ _ _, rfl, ((B1.out.setCell (Nat.le_refl _) _).setCell (Nat.le_refl _) _).setCell (Nat.le_refl _) _⟩
end Go.Proofs.Ytlmglepphjpohaa
