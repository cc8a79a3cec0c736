/-
  CutPiece of the model and of the program.
-/
import Derived.Test.YtlmglepphjpohaaP6L
namespace Go.Proofs.Ytlmglepphjpohaa
open Go.ChangeShapes Go.WideShapes Go.ChangeAt Go.RowKit

def mx (x y : Int) : Int := if y < x then x else y
def mn (x y : Int) : Int := if x < y then x else y
theorem l1Max_any (x y : Int) (w : World) : Calls Try.prog 78 #[.int .i64 x, .int .i64 y] w fun e w' => e = .returned (.int .i64 (mx x y)) ∧ w = w' := by
  by_cases h : y < x
  · have H : Hid (mx x y = x) := if_pos h
    go_enter Try.func78, Try.ntmps78
    go_wp2
    go_ret
    exact ⟨ret_i H.out.symm, rfl⟩
  · have H : Hid (mx x y = y) := if_neg h
    go_enter Try.func78, Try.ntmps78
    go_wp2
    go_ret
    exact ⟨ret_i H.out.symm, rfl⟩
theorem l1Min_any (x y : Int) (w : World) : Calls Try.prog 79 #[.int .i64 x, .int .i64 y] w fun e w' => e = .returned (.int .i64 (mn x y)) ∧ w = w' := by
  by_cases h : x < y
  · have H : Hid (mn x y = x) := if_pos h
    go_enter Try.func79, Try.ntmps79
    go_wp2
    go_ret
    exact ⟨ret_i H.out.symm, rfl⟩
  · have H : Hid (mn x y = y) := if_neg h
    go_enter Try.func79, Try.ntmps79
    go_wp2
    go_ret
    exact ⟨ret_i H.out.symm, rfl⟩
/-- a part of a slice of bytes, of one byte or more -/
theorem Rd.part {w : World} {a : Option Addr} {len cap : Nat} {zs : List Int} (h : Rd w a len cap zs) (A K c' : Nat) (hk : A + K ≤ len) (hp : 0 < K) (hc : K ≤ c') (hm : c' ≤ maxLen) : ∃ b off, a = some ⟨b, off, none⟩ ∧ Rd w (some ⟨b, off + A, none⟩) K c' ((zs.drop A).take K) := by
  have hl := h.length
  rcases h.cells with h0 | ⟨b, off, rfl, hcs⟩
  · omega
  · refine ⟨b, off, rfl, ⟨by simp; omega, hc, hm, b8_take (b8_drop h.b8 A) K, by simp, .inr ⟨b, off + A, rfl, fun i hi => ?_⟩⟩⟩
    have := hcs (A + i) (by omega)
    rw [show off + A + i = off + (A + i) by omega, this]
    rw [List.getD_eq_getElem?_getD, List.getD_eq_getElem?_getD, List.getElem?_take, if_pos hi, List.getElem?_drop]
/-- what of p (from x on, the bytes zs) is at the places from lo to just below hi -/
def partV (x : Int) (zs : List Int) (lo hi : Int) : Int × List Int :=
  if mn (x + zs.length) hi ≤ mx x lo then (0, []) else (mx x lo, (zs.drop (mx x lo - x).toNat).take (mn (x + zs.length) hi - mx x lo).toNat)
theorem partV_none {x : Int} {zs : List Int} {lo hi : Int} (h : mn (x + zs.length) hi ≤ mx x lo) : partV x zs lo hi = (0, []) := if_pos h
theorem part_nums {x : Int} {n : Nat} {lo hi : Int} (h : ¬ mn (x + n) hi ≤ mx x lo) : ∃ A N : Nat, 0 < N ∧ A + N ≤ n ∧ mx x lo - x = A ∧ mn (x + n) hi - x = (A + N : Nat) := by
  have h1 : x ≤ mx x lo := by unfold mx; split <;> omega
  have h2 : mn (x + n) hi ≤ x + n := by unfold mn; split <;> omega
  exact ⟨(mx x lo - x).toNat, (mn (x + n) hi - mx x lo).toNat, by omega, by omega, by omega, by omega⟩
theorem partV_some {x : Int} {zs : List Int} {lo hi : Int} {A N : Nat} (h : ¬ mn (x + zs.length) hi ≤ mx x lo) (hA : mx x lo - x = A) (hN : mn (x + zs.length) hi - x = (A + N : Nat)) : partV x zs lo hi = (mx x lo, (zs.drop A).take N) := by
  unfold partV
  rw [if_neg h, hA]
  have : (mn (x + zs.length) hi - mx x lo).toNat = N := by omega
  rw [this]; rfl

/-- a place and bytes of this call's own, or none -/
def CutOut (w : World) (v : Int × List Int) (e : Ending) (w' : World) : Prop :=
  ∃ a' l' c', e = .returned (.tuple #[.int .i64 v.1, .slice a' l' c']) ∧ Own w' w.heap.size a' l' c' v.2 ∧ Below w.heap.size w w'
set_option maxHeartbeats 1000000 in
theorem l6Cut_any (x : Int) (a : Option Addr) (len cap : Nat) (zs : List Int) (y : Int) (w : World) (h : Rd w a len cap zs) (hl : len ≤ 1048576) (hx : -2000 ≤ x ∧ x ≤ 2000) (hy : 0 ≤ y ∧ y ≤ 2000) :
    Calls Try.prog 64 #[.int .i64 x, .slice a len cap, .int .i64 y] w (CutOut w (partV x zs 0 y)) := by
  have hz := h.length
  have KM := Lib.hid (fun W => l1Max_any x 0 W)
  have KN := Lib.hid (fun W => l1Min_any (x + len) y W)
  have b1 : -2000 ≤ mx x 0 ∧ mx x 0 ≤ 2000 := by unfold mx; split <;> omega
  have b2 : -2000 ≤ mn (x + len) y ∧ mn (x + len) y ≤ 2000 := by unfold mn; split <;> omega
  by_cases hc : mn (x + len) y ≤ mx x 0
  · have hV : Hid (partV x zs 0 y = (0, [])) := partV_none (by rw [hz]; exact hc)
    rw [hV.out]
    clear h hz hV
    generalize mx x 0 = F at *
    generalize mn (x + len) y = E at *
    go_enter Try.func64, Try.ntmps64
    go_wp2_with fail
    refine (KM.out _).mono ?_
    rintro e w1 ⟨rfl, rfl⟩
    go_wp2_with fail
    refine (KN.out _).mono ?_
    rintro e w1 ⟨rfl, rfl⟩
    go_wp2
    exact bodyPost_ret (v := .tuple #[.int .i64 0, .slice none 0 0]) (by simp [results, Try.results64, go_sem]) rfl ⟨_, _, _, rfl, Own.nil _ _, Below.refl _ _⟩
  · obtain ⟨A, N, hN, hAN, eA, eN⟩ := part_nums hc
    have hV : Hid (partV x zs 0 y = (mx x 0, (zs.drop A).take N)) := partV_some (by rw [hz]; exact hc) eA (by rw [hz]; exact eN)
    have hcap : len ≤ cap := h.le
    have hmx := h.max
    obtain ⟨b, off, rfl, hr⟩ := h.part A N (cap - A) hAN hN (by omega) (by omega)
    have R := Lib.hid hr
    have hA : ¬ cap = A := by omega
    rw [hV.out]
    have w1 : IntKind.i64.wrap (mx x 0 - x) = (A : Int) := (IntWalk.i64_in _ (by omega)).trans eA
    have w2 : IntKind.i64.wrap (mn (x + len) y - x) = ((A + N : Nat) : Int) := (IntWalk.i64_in _ (by omega)).trans eN
    have K := Lib.hid (l1Copy_any _ _ _ _ w R.out (by omega))
    clear h hz hr hV
    generalize mx x 0 = F at *
    generalize mn (x + len) y = E at *
    go_enter Try.func64, Try.ntmps64
    go_wp2_with fail
    refine (KM.out _).mono ?_
    rintro e w1 ⟨rfl, rfl⟩
    go_wp2_with fail
    refine (KN.out _).mono ?_
    rintro e w1 ⟨rfl, rfl⟩
    go_wp2_with fail
    refine K.out.mono ?_
    rintro e w3 ⟨a3, c3, rfl, o3, b3⟩
    go_wp2
    exact bodyPost_ret (v := .tuple #[.int .i64 F, .slice a3 N c3]) (by simp [results, Try.results64, go_sem]) rfl ⟨_, _, _, rfl, o3, b3⟩

def cuC (x : Int) (zs : List Int) (y : Int) : Int := if inB x (-2000) 2000 = true ∧ inB y 0 2000 = true then (if zs.length ≤ 700 then 0 else 2) else 3
def cuL (x : Int) (zs : List Int) (y : Int) : List (Int × List Int) := if cuC x zs y = 0 then (if (partV x zs 0 y).2.length = 0 then [] else [partV x zs 0 y]) else []
theorem cu_bound (x : Int) (zs : List Int) (y : Int) (h : zs.length ≤ 1048576) : szV (cuL x zs y) ≤ 2097152 ∧ ([] : List Int).length ≤ 2097152 := by
  refine ⟨?_, by simp⟩
  have hp : (partV x zs 0 y).2.length ≤ zs.length := by
    unfold partV
    split
    · simp
    · simp; omega
  unfold cuL
  split
  · split
    · simp [szV, sumV]
    · simp [szV, sumV]; omega
  · simp [szV, sumV]
/-- a list of one piece, made of bytes that are owned -/
theorem PrO.one {w : World} {lo : Nat} {a : Option Addr} {l c : Nat} {z : List Int} (k : Int) (h : Own w lo a l c z) (hl : lo ≤ w.heap.size) (n : Nat) (hn : n = w.heap.size) : PrO (w.alloc (.cells #[.int .i64 k, .slice a l c] 44)) lo (w.alloc (.cells #[.int .i64 k, .slice a l c] 44)).heap.size (some ⟨n, 0, none⟩) 1 1 [⟨k, a, l, c, z⟩] none 0 0 [] := by
  subst hn
  have hL : Lo (w.alloc (.cells #[.int .i64 k, .slice a l c] 44)) lo (some ⟨w.heap.size, 0, none⟩) 1 1 [⟨k, a, l, c, z⟩] := ⟨World.ownsRow_lit w #[.int .i64 k, .slice a l c] 1 hl (by unfold maxLen; omega) rfl⟩
  have hD : Ds (w.alloc (.cells #[.int .i64 k, .slice a l c] 44)) lo (w.alloc (.cells #[.int .i64 k, .slice a l c] 44)).heap.size [⟨k, a, l, c, z⟩] :=
    ⟨fun q hq => by
      obtain rfl := List.mem_singleton.1 hq
      exact ⟨h.alloc _, fun y hy => ((h.alloc (.cells #[.int .i64 k, .slice a l c] 44)).lt y hy).2⟩, List.pairwise_singleton _ _⟩
  exact PrO.noReady (hL.plO hD (Nat.le_refl _) (fun x hx => (hL.lt x hx).2))

set_option maxHeartbeats 2000000 in
theorem specCutPiece (x : Int) (a : Option Addr) (len cap : Nat) (zs : List Int) (y : Int) (w : World) (h : Rd w a len cap zs) (hl : len ≤ 1048576) :
    Calls Try.prog 28 #[.int .i64 x, .slice a len cap, .int .i64 y] w (PrOut w (cuC x zs y) (cuL x zs y) []) := by
  have B0 := Lib.hid ((Below.refl w.heap.size w).alloc (Nat.le_refl _) (.cells #[.int .i64 0, .slice none 0 0, .slice none 0 0] 28))
  have X0 := Lib.hid (Box.new w 28 #[.int .i64 0, .slice none 0 0, .slice none 0 0])
  have K1 := Lib.hid (fun W => l1In_any x (-2000) 2000 W)
  have K2 := Lib.hid (fun W => l1In_any y 0 2000 W)
  have hz := h.length
  by_cases h1 : -2000 ≤ x ∧ x ≤ 2000
  · rw [in_t h1] at K1
    by_cases h2 : 0 ≤ y ∧ y ≤ 2000
    · rw [in_t h2] at K2
      by_cases h3 : len ≤ 700
      · have hC : cuC x zs y = 0 := by unfold cuC; rw [if_pos ⟨in_t h1, in_t h2⟩, if_pos (by omega)]
        have T := Lib.hid (l6Cut_any x a len cap zs y _ (h.below B0.out) hl h1 h2)
        have hL : cuL x zs y = if (partV x zs 0 y).2.length = 0 then [] else [partV x zs 0 y] := if_pos hC
        have E0 : Hid ((partV x zs 0 y).2.length = 0 → cuL x zs y = []) := fun q => by rw [hL, if_pos q]
        have E1 : Hid (¬ (partV x zs 0 y).2.length = 0 → cuL x zs y = [partV x zs 0 y]) := fun q => by rw [hL, if_neg q]
        rw [hC]
        generalize cuL x zs y = V at *
        have hn : ¬ (700 : Int) < (len : Int) := by omega
        generalize partV x zs 0 y = P at *
        obtain ⟨pk, pz⟩ := P
        clear h hC hL hz h3
        go_enter Try.func28, Try.ntmps28
        go_wp2_with fail
        refine (K1.out _).mono ?_
        rintro e w1 ⟨rfl, rfl⟩
        go_wp2_with fail
        refine (K2.out _).mono ?_
        rintro e w1 ⟨rfl, rfl⟩
        go_wp2_with fail
        refine T.out.mono ?_
        rintro e w1 ⟨a1, l1, c1, rfl, o1, b1⟩
        have X1 := Lib.hid (X0.out.below b1 X0.out.lt)
        have B1 := Lib.hid (B0.out.trans (b1.mono B0.out.size))
        have hl1 := o1.length
        simp only at hl1
        have O1 := Lib.hid o1
        have HW := Lib.hid X0.out.lt
        clear T b1 o1 X0 B0 K1 K2
        by_cases hz : l1 = 0
        · subst hz
          obtain ⟨zz, x0, x1, x2⟩ := X1.out.three
          have f0 := X1.out.frozen 0
          have f1 := X1.out.frozen 1
          have f2 := X1.out.frozen 2
          have EV : Hid (V = []) := E0.out hl1
          clear hl1 E0 E1
          go_wp2
          exact bodyPost_ret (v := .agg #[.int .i64 0, .slice none 0 0, .slice none 0 0]) (by simp [results, Try.results28, go_sem, x0, x1, x2]) rfl ⟨_, _, _, [], _, _, _, rfl, PrO.zero _ _ _, EV.out.symm, ((B1.out.setCell (Nat.le_refl _) _).setCell (Nat.le_refl _) _).setCell (Nat.le_refl _) _⟩
        · have EV : Hid (V = [(pk, pz)]) := E1.out (by show ¬ pz.length = 0; omega)
          clear E0 E1
          obtain ⟨zz, x0, x1, x2⟩ := X1.out.three
          have f0 := X1.out.frozen 0
          have f1 := X1.out.frozen 1
          have f2 := X1.out.frozen 2
          clear hl1
          go_wp2
          refine bodyPost_ret (v := .agg #[.int .i64 0, .slice (some ⟨w1.heap.size, 0, none⟩) 1 1, .slice none 0 0]) (by simp [results, Try.results28, go_sem, x0, x1, x2, zz]) rfl ⟨_, _, _, [Pm.mk pk a1 l1 c1 pz], _, _, _, rfl, ?_, EV.out.symm, (((B1.out.setCell (Nat.le_refl _) _).setCell (Nat.le_refl _) _).setCell (Nat.le_refl _) _).alloc (by simpa using B1.out.size) _⟩
          have hb : w.heap.size + 1 ≤ w1.heap.size := zz
          refine PrO.mono (lo := w.heap.size + 1) (PrO.one pk ((((O1.out.rebase (by simp)).setOther _ _ (fun x hx e => ?_)).setOther _ _ (fun x hx e => ?_)).setOther _ _ (fun x hx e => ?_)) (by simpa using hb) _ (by simp)) (Nat.le_succ _) (Nat.le_refl _)
          all_goals (have := (O1.out.lt x hx).1; simp only [World.size_alloc] at this; dsimp only at e; omega)
      · have hC : cuC x zs y = 2 := by unfold cuC; rw [if_pos ⟨in_t h1, in_t h2⟩, if_neg (by omega)]
        have hL : cuL x zs y = [] := by unfold cuL; rw [hC]; rfl
        rw [hC, hL]
        have hn : (700 : Int) < (len : Int) := by omega
        clear h hC hL hz h3
        obtain ⟨zz, x0, x1, x2⟩ := X0.out.three
        have f0 := X0.out.frozen 0
        have f1 := X0.out.frozen 1
        have f2 := X0.out.frozen 2
        go_enter Try.func28, Try.ntmps28
        go_wp2_with fail
        refine (K1.out _).mono ?_
        rintro e w1 ⟨rfl, rfl⟩
        go_wp2_with fail
        refine (K2.out _).mono ?_
        rintro e w1 ⟨rfl, rfl⟩
        go_wp2
        exact bodyPost_ret (v := .agg #[.int .i64 2, .slice none 0 0, .slice none 0 0]) (by simp [results, Try.results28, go_sem]) rfl ⟨_, _, _, [], _, _, _, rfl, PrO.zero _ _ _, rfl, (Below.refl _ _).alloc (Nat.le_refl _) _⟩
    · have hC : cuC x zs y = 3 := by unfold cuC; rw [if_neg (by rw [in_f h2]; simp)]
      have hL : cuL x zs y = [] := by unfold cuL; rw [hC]; rfl
      rw [hC, hL]
      rw [in_f h2] at K2
      clear h hC hL hz h2
      go_enter Try.func28, Try.ntmps28
      go_wp2_with fail
      refine (K1.out _).mono ?_
      rintro e w1 ⟨rfl, rfl⟩
      go_wp2_with fail
      refine (K2.out _).mono ?_
      rintro e w1 ⟨rfl, rfl⟩
      go_wp2
      exact bodyPost_ret (v := .agg #[.int .i64 3, .slice none 0 0, .slice none 0 0]) (by simp [results, Try.results28, go_sem]) rfl ⟨_, _, _, [], _, _, _, rfl, PrO.zero _ _ _, rfl, (Below.refl _ _).alloc (Nat.le_refl _) _⟩
  · have hC : cuC x zs y = 3 := by unfold cuC; rw [if_neg (by rw [in_f h1]; simp)]
    have hL : cuL x zs y = [] := by unfold cuL; rw [hC]; rfl
    rw [hC, hL]
    rw [in_f h1] at K1
    clear h hC hL hz h1
    go_enter Try.func28, Try.ntmps28
    go_wp2_with fail
    refine (K1.out _).mono ?_
    rintro e w1 ⟨rfl, rfl⟩
    go_wp2
    exact bodyPost_ret (v := .agg #[.int .i64 3, .slice none 0 0, .slice none 0 0]) (by simp [results, Try.results28, go_sem]) rfl ⟨_, _, _, [], _, _, _, rfl, PrO.zero _ _ _, rfl, (Below.refl _ _).alloc (Nat.le_refl _) _⟩
end Go.Proofs.Ytlmglepphjpohaa
