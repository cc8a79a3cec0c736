/-
  The law FnExactPackWord returns true at every pair of int64.
-/
import Derived.Test.YtbngdenlplbjhaaPack
namespace Go.Proofs.Ytbngdenlplbjhaa
open Go.ChangeShapes Go.WideShapes Go.ChangeAt Go.RowKit

theorem pwB_len (n s : Int) : (pwB n s).length ≤ 6 := by
  unfold pwB
  split
  · rename_i h
    obtain ⟨S, rfl, h1, h2, _⟩ := pwOk_parts h
    rw [be_len]; simpa using h2
  · simp

theorem ne_of_lt_own {w w' : World} {b b' : Nat} {a a' : Option Addr} {l c l' c' : Nat} {z z' : List Int} (h : Own w b a l c z) (h' : Own w' b' a' l' c' z') (hle : w.heap.size ≤ b') :
    ∀ x, a = some x → some x.block ≠ (Value.slice a' l' c').ownBlock := by
  intro x hx e
  have h1 := h.lt x hx
  cases a' with
  | none => simp [Value.ownBlock] at e
  | some y =>
    have h2 := h'.lt y rfl
    simp [Value.ownBlock] at e
    omega

/-- another block than the one of a slice that lies between two bounds -/
theorem ne_block {w : World} {b : Nat} {a : Option Addr} {l c : Nat} {z : List Int} (h : Own w b a l c z) (k : Nat) (hk : k < b ∨ w.heap.size ≤ k) : some k ≠ (Value.slice a l c).ownBlock := by
  intro e
  cases a with
  | none => simp [Value.ownBlock] at e
  | some y =>
    have h2 := h.lt y rfl
    simp [Value.ownBlock] at e
    omega

end Go.Proofs.Ytbngdenlplbjhaa
