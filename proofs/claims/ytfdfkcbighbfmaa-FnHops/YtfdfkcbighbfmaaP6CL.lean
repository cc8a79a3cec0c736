/-
  The law FnCuts.
-/
import Derived.Test.YtfdfkcbighbfmaaDr6
import Derived.Test.YtfdfkcbighbfmaaP6S
import Derived.Deep.RegionHeld3
namespace Go.Proofs.Ytfdfkcbighbfmaa
open Go.ChangeShapes Go.WideShapes Go.ChangeAt Go.RowKit

theorem lwBig6_f (a : Option Addr) (len cap : Nat) (w : World) (hl : len ≤ 1048576) : Calls Try.prog 14 #[.slice a len cap] w fun e w' => e = .returned (.bool false) ∧ w = w' := by
  have e1 : decide ((1048576 : Int) < len) = false := decide_eq_false (by omega)
  go_enter Try.func14, Try.ntmps14
  go_wp2
  go_ret
  exact ⟨rfl, rfl⟩
theorem lwBig6_t (a : Option Addr) (len cap : Nat) (w : World) (hl : ¬ len ≤ 1048576) : Calls Try.prog 14 #[.slice a len cap] w fun e w' => e = .returned (.bool true) ∧ w = w' := by
  have e1 : decide ((1048576 : Int) < len) = true := decide_eq_true (by omega)
  go_enter Try.func14, Try.ntmps14
  go_wp2
  go_ret
  exact ⟨rfl, rfl⟩
theorem field_pr0 (w : World) (c : Int) (a : Option Addr) (l k : Nat) (b : Option Addr) (m j : Nat) : (Instr.field 28 (.agg #[.int .i64 c, .slice a l k, .slice b m j]) 0).run Try.prog w = .ok (.int .i64 c) w := by
  simp [Instr.field, asAgg, go_sem]
theorem field_pr1 (w : World) (c : Int) (a : Option Addr) (l k : Nat) (b : Option Addr) (m j : Nat) : (Instr.field 28 (.agg #[.int .i64 c, .slice a l k, .slice b m j]) 1).run Try.prog w = .ok (.slice a l k) w := by
  simp [Instr.field, asAgg, go_sem]
def cnt6 (x y : Int) : Nat → Nat
  | 0 => 0
  | k + 1 => cnt6 x y k + (if 0 ≤ x + k ∧ x + k < y then 1 else 0)
theorem cnt6_eq (x y : Int) (hy : 0 ≤ y) (n : Nat) : cnt6 x y n = (mn (x + n) y - mx x 0).toNat := by
  induction n with
  | zero =>
    simp only [cnt6, mn, mx]
    split <;> split <;> omega
  | succ n ih =>
    rw [cnt6, ih]
    simp only [mn, mx]
    split <;> split <;> split <;> split <;> omega
theorem partV_len (x : Int) (zs : List Int) (y : Int) (hy : 0 ≤ y) : (partV x zs 0 y).2.length = cnt6 x y zs.length := by
  rw [cnt6_eq x y hy]
  by_cases hc : mn (x + zs.length) y ≤ mx x 0
  · rw [partV_none hc]
    simp only [List.length_nil]
    omega
  · obtain ⟨A, N, hN, hAN, eA, eE⟩ := part_nums hc
    rw [partV_some hc eA eE]
    simp only [List.length_take, List.length_drop]
    omega
theorem partV_place (x : Int) (zs : List Int) (y : Int) (hy : 0 ≤ y) (h : (partV x zs 0 y).2.length ≠ 0) : 0 ≤ (partV x zs 0 y).1 ∧ (partV x zs 0 y).1 + (partV x zs 0 y).2.length ≤ y := by
  by_cases hc : mn (x + zs.length) y ≤ mx x 0
  · rw [partV_none hc] at h
    exact absurd rfl h
  · have hl := partV_len x zs y hy
    rw [cnt6_eq x y hy] at hl
    have h1 : (partV x zs 0 y).1 = mx x 0 := by unfold partV; rw [if_neg hc]
    rw [hl, h1]
    have h2 : 0 ≤ mx x 0 := by unfold mx; split <;> omega
    have h3 : mn (x + zs.length) y ≤ y := by unfold mn; split <;> omega
    omega

end Go.Proofs.Ytfdfkcbighbfmaa
