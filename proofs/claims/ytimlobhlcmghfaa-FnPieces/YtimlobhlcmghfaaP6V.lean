/-
  CutPiece of the model and of the program.
-/
import Derived.Test.YtimlobhlcmghfaaP6L
namespace Go.Proofs.Ytimlobhlcmghfaa
open Go.ChangeShapes Go.WideShapes Go.ChangeAt Go.RowKit

def mx (x y : Int) : Int := if y < x then x else y
def mn (x y : Int) : Int := if x < y then x else y
theorem l1Min_any (x y : Int) (w : World) : Calls Try.prog 178 #[.int .i64 x, .int .i64 y] w fun e w' => e = .returned (.int .i64 (mn x y)) ∧ w = w' := by
  by_cases h : x < y
  · have H : Hid (mn x y = x) := if_pos h
    go_enter Try.func178, Try.ntmps178
    go_wp2
    go_ret
    exact ⟨ret_i H.out.symm, rfl⟩
  · have H : Hid (mn x y = y) := if_neg h
    go_enter Try.func178, Try.ntmps178
    go_wp2
    go_ret
    exact ⟨ret_i H.out.symm, rfl⟩
/-- a part of a slice of bytes, of one byte or more -/
theorem Rd.part {w : World} {a : Option Addr} {len cap : Nat} {zs : List Int} (h : Rd w a len cap zs) (A K c' : Nat) (hk : A + K ≤ len) (hp : 0 < K) (hc : K ≤ c') (hm : c' ≤ maxLen) : ∃ b off, a = some ⟨b, off, none⟩ ∧ Rd w (some ⟨b, off + A, none⟩) K c' ((zs.drop A).take K) := by
  have hl := h.length
  rcases h.cells with h0 | ⟨b, off, rfl, hcs⟩
  · omega
  · refine ⟨b, off, rfl, ⟨by simp; omega, hc, hm, b8_take (b8_drop h.b8 A) K, by simp, .inr ⟨b, off + A, rfl, fun i hi => ?_⟩⟩⟩
    have := hcs (A + i) (by omega)
    rw [show off + A + i = off + (A + i) by omega, this]
    rw [List.getD_eq_getElem?_getD, List.getD_eq_getElem?_getD, List.getElem?_take, if_pos hi, List.getElem?_drop]
/-- what of p (from x on, the bytes zs) is at the places from lo to just below hi -/
def partV (x : Int) (zs : List Int) (lo hi : Int) : Int × List Int :=
  if mn (x + zs.length) hi ≤ mx x lo then (0, []) else (mx x lo, (zs.drop (mx x lo - x).toNat).take (mn (x + zs.length) hi - mx x lo).toNat)
theorem partV_none {x : Int} {zs : List Int} {lo hi : Int} (h : mn (x + zs.length) hi ≤ mx x lo) : partV x zs lo hi = (0, []) := if_pos h
theorem part_nums {x : Int} {n : Nat} {lo hi : Int} (h : ¬ mn (x + n) hi ≤ mx x lo) : ∃ A N : Nat, 0 < N ∧ A + N ≤ n ∧ mx x lo - x = A ∧ mn (x + n) hi - x = (A + N : Nat) := by
  have h1 : x ≤ mx x lo := by unfold mx; split <;> omega
  have h2 : mn (x + n) hi ≤ x + n := by unfold mn; split <;> omega
  exact ⟨(mx x lo - x).toNat, (mn (x + n) hi - mx x lo).toNat, by omega, by omega, by omega, by omega⟩
theorem partV_some {x : Int} {zs : List Int} {lo hi : Int} {A N : Nat} (h : ¬ mn (x + zs.length) hi ≤ mx x lo) (hA : mx x lo - x = A) (hN : mn (x + zs.length) hi - x = (A + N : Nat)) : partV x zs lo hi = (mx x lo, (zs.drop A).take N) := by
  unfold partV
  rw [if_neg h, hA]
  have : (mn (x + zs.length) hi - mx x lo).toNat = N := by omega
  rw [this]; rfl

/-- a place and bytes of this call's own, or none -/
def CutOut (w : World) (v : Int × List Int) (e : Ending) (w' : World) : Prop :=
  ∃ a' l' c', e = .returned (.tuple #[.int .i64 v.1, .slice a' l' c']) ∧ Own w' w.heap.size a' l' c' v.2 ∧ Below w.heap.size w w'
def cuC (x : Int) (zs : List Int) (y : Int) : Int := if inB x (-2000) 2000 = true ∧ inB y 0 2000 = true then (if zs.length ≤ 700 then 0 else 2) else 3
def cuL (x : Int) (zs : List Int) (y : Int) : List (Int × List Int) := if cuC x zs y = 0 then (if (partV x zs 0 y).2.length = 0 then [] else [partV x zs 0 y]) else []
theorem cu_bound (x : Int) (zs : List Int) (y : Int) (h : zs.length ≤ 1048576) : szV (cuL x zs y) ≤ 2097152 ∧ ([] : List Int).length ≤ 2097152 := by
  refine ⟨?_, by simp⟩
  have hp : (partV x zs 0 y).2.length ≤ zs.length := by
    unfold partV
    split
    · simp
    · simp; omega
  unfold cuL
  split
  · split
    · simp [szV, sumV]
    · simp [szV, sumV]; omega
  · simp [szV, sumV]
/-- a list of one piece, made of bytes that are owned -/
theorem PrO.one {w : World} {lo : Nat} {a : Option Addr} {l c : Nat} {z : List Int} (k : Int) (h : Own w lo a l c z) (hl : lo ≤ w.heap.size) (n : Nat) (hn : n = w.heap.size) : PrO (w.alloc (.cells #[.int .i64 k, .slice a l c] 133)) lo (w.alloc (.cells #[.int .i64 k, .slice a l c] 133)).heap.size (some ⟨n, 0, none⟩) 1 1 [⟨k, a, l, c, z⟩] none 0 0 [] := by
  subst hn
  have hL : Lo (w.alloc (.cells #[.int .i64 k, .slice a l c] 133)) lo (some ⟨w.heap.size, 0, none⟩) 1 1 [⟨k, a, l, c, z⟩] := ⟨World.ownsRow_lit w #[.int .i64 k, .slice a l c] 1 hl (by unfold maxLen; omega) rfl⟩
  have hD : Ds (w.alloc (.cells #[.int .i64 k, .slice a l c] 133)) lo (w.alloc (.cells #[.int .i64 k, .slice a l c] 133)).heap.size [⟨k, a, l, c, z⟩] :=
    ⟨fun q hq => by
      obtain rfl := List.mem_singleton.1 hq
      exact ⟨h.alloc _, fun y hy => ((h.alloc (.cells #[.int .i64 k, .slice a l c] 133)).lt y hy).2⟩, List.pairwise_singleton _ _⟩
  exact PrO.noReady (hL.plO hD (Nat.le_refl _) (fun x hx => (hL.lt x hx).2))

end Go.Proofs.Ytimlobhlcmghfaa
