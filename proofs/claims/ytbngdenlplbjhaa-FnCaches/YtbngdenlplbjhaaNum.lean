/-
  Contracts of the functions of sequence numbers: SeqAdd, SeqDist, InWindow of the program and of the model answer by one and the same function of numbers.
-/
import Derived.Test.YtbngdenlplbjhaaRows
import Derived.WalkKit
import Derived.ProofKit
import Derived.Below
import Derived.Lib.Hide
namespace Go.Proofs.Ytbngdenlplbjhaa
open Go.ChangeShapes Go.WideShapes Go.ChangeAt Go.RowKit

/-- a sequence number -/
def sqB (s : Int) : Bool := decide (0 ≤ s ∧ s < 4294967296)
def inB (v a b : Int) : Bool := decide (a ≤ v ∧ v ≤ b)
def ir (c v : Int) : Value := .agg #[.int .i64 c, .int .i64 v]
def addC (s n : Int) : Int := if sqB s && inB n (-4294967296) 4294967296 then 0 else 3
def addV (s n : Int) : Int := if sqB s && inB n (-4294967296) 4294967296 then (s + n) % 4294967296 else 0

theorem sq_t {s : Int} (h : 0 ≤ s ∧ s < 4294967296) : sqB s = true := by simp only [sqB, h, and_self, decide_true]
theorem sq_f {s : Int} (h : ¬ (0 ≤ s ∧ s < 4294967296)) : sqB s = false := by simp only [sqB, h, decide_false]
theorem in_t {v a b : Int} (h : a ≤ v ∧ v ≤ b) : inB v a b = true := by simp only [inB, h, and_self, decide_true]
theorem in_f {v a b : Int} (h : ¬ (a ≤ v ∧ v ≤ b)) : inB v a b = false := by simp only [inB, h, decide_false]
theorem ret_b {a b : Bool} (h : a = b) : Ending.returned (.bool a) = .returned (.bool b) := by rw [h]
theorem ret_i {a b : Int} (h : a = b) : Ending.returned (.int .i64 a) = .returned (.int .i64 b) := by rw [h]
theorem ret_ir {a b c d : Int} (h : a = c) (k : b = d) : Ending.returned (.agg #[.int .i64 a, .int .i64 b]) = .returned (ir c d) := by rw [h, k]; rfl

theorem l1In_any (v a b : Int) (w : World) : Calls Try.prog 59 #[.int .i64 v, .int .i64 a, .int .i64 b] w fun e w' => e = .returned (.bool (inB v a b)) ∧ w = w' := by
  by_cases h1 : a ≤ v
  · by_cases h2 : v ≤ b
    · have H := Lib.hid (in_t ⟨h1, h2⟩)
      go_enter Try.func59, Try.ntmps59
      go_wp2
      go_ret
      exact ⟨ret_b H.out.symm, rfl⟩
    · have H := Lib.hid (in_f (v := v) (a := a) (b := b) (by omega))
      go_enter Try.func59, Try.ntmps59
      go_wp2
      go_ret
      exact ⟨ret_b H.out.symm, rfl⟩
  · have H := Lib.hid (in_f (v := v) (a := a) (b := b) (by omega))
    go_enter Try.func59, Try.ntmps59
    go_wp2
    go_ret
    exact ⟨ret_b H.out.symm, rfl⟩

theorem sq_in (s : Int) : inB s 0 4294967295 = sqB s := by
  unfold inB sqB; exact decide_eq_decide.2 (by omega)

/-! The way from one number to another. -/
def dist (f t : Int) : Int := if 2147483648 ≤ (t - f) % 4294967296 then (t - f) % 4294967296 - 4294967296 else (t - f) % 4294967296
def distC (f t : Int) : Int := if sqB f && sqB t then 0 else 3
def distV (f t : Int) : Int := if sqB f && sqB t then dist f t else 0
theorem dist_hi {f t : Int} (h : 2147483648 ≤ (t - f) % 4294967296) : dist f t = (t - f) % 4294967296 - 4294967296 := by unfold dist; rw [if_pos h]
theorem dist_lo {f t : Int} (h : ¬ 2147483648 ≤ (t - f) % 4294967296) : dist f t = (t - f) % 4294967296 := by unfold dist; rw [if_neg h]

theorem bcell {W w1 : World} (hb : Below W.heap.size W w1) : (∀ b o, b < W.heap.size → w1.cell? ⟨b, o, none⟩ = W.cell? ⟨b, o, none⟩) ∧ (∀ b o, b < W.heap.size → w1.frozen? ⟨b, o, none⟩ = W.frozen? ⟨b, o, none⟩) :=
  ⟨fun b o h => hb.cell (p := ⟨b, o, none⟩) h, fun b o h => hb.frozen (p := ⟨b, o, none⟩) h⟩

/-- what a struct of two cells, made ahead of a call, holds behind it -/
theorem two_cells {w1 w2 : World} {x y : Value} {t : TypeId} (hb : Below (w1.alloc (.cells #[x, y] t)).heap.size (w1.alloc (.cells #[x, y] t)) w2) :
    w1.heap.size < w2.heap.size ∧ w2.cell? ⟨w1.heap.size, 0, none⟩ = some x ∧ w2.cell? ⟨w1.heap.size, 1, none⟩ = some y := by
  have hz := hb.size
  simp only [World.size_alloc] at hz
  refine ⟨by omega, (hb.cell (p := ⟨w1.heap.size, 0, none⟩) (by simp)).trans (by simp), (hb.cell (p := ⟨w1.heap.size, 1, none⟩) (by simp)).trans (by simp)⟩

end Go.Proofs.Ytbngdenlplbjhaa
