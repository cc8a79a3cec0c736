/-
  The law FnExactPackFrame returns true, where the program's PackFrame answers as the model's does.
-/
import Derived.Test.YtimlobhlcmghfaaFrmP
namespace Go.Proofs.Ytimlobhlcmghfaa
open Go.ChangeShapes Go.WideShapes Go.ChangeAt Go.RowKit

theorem own_rows {w : World} {b : Nat} {a : Option Addr} {l c : Nat} {z : List Int} (h : Own w b a l c z) (B : Nat) (hB : B ≤ b) : ∀ k, (Value.slice a l c).ownBlock = some k → B ≤ k := by
  intro k e
  cases a with
  | none => simp [Value.ownBlock] at e
  | some y => simp [Value.ownBlock] at e; have := h.lt y rfl; omega
theorem ne_of_gt_own {w w' : World} {b b' : Nat} {a a' : Option Addr} {l c l' c' : Nat} {z z' : List Int} (h : Own w b a l c z) (h' : Own w' b' a' l' c' z') (hle : w'.heap.size ≤ b) :
    ∀ x, a = some x → some x.block ≠ (Value.slice a' l' c').ownBlock := fun x hx => ne_block h' _ (.inr (Nat.le_trans hle (h.lt x hx).1))

theorem Box.drewB {w : World} {b : Nat} {t : TypeId} {vs : Array Value} (h : Box w b t vs) : Box w.drew b t vs := h

end Go.Proofs.Ytimlobhlcmghfaa
