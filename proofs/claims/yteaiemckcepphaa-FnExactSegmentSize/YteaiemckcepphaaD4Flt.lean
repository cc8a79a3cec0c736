/-
  DatagramFault and SameDatagrams of the program, and their laws.
-/
import Derived.Test.YteaiemckcepphaaFlow
import Derived.Test.YteaiemckcepphaaD4Bd
import Derived.Test.YteaiemckcepphaaDgS
import Derived.Test.YteaiemckcepphaaImSame
import Derived.Test.YteaiemckcepphaaStDatagram
namespace Go.Proofs.Yteaiemckcepphaa
open Go.ChangeShapes Go.WideShapes Go.ChangeAt Go.RowKit

/-- a row of n bounds, of these cells, in a block of its own -/
def BdV (W : World) (v : Value) (n : Nat) (cs : Array Value) : Prop := ∃ g, v = .slice (some ⟨g, 0, none⟩) n n ∧ Box W g 73 cs
theorem BdV.below {W W' : World} {n : Nat} {v : Value} {cs : Array Value} (hb : Below W.heap.size W W') (h : BdV W v n cs) : BdV W' v n cs := by
  obtain ⟨g, e, x⟩ := h
  exact ⟨g, e, x.below hb x.lt⟩
theorem BdV.new (W : World) (n : Nat) (cs : Array Value) : BdV (W.alloc (.cells cs 73)) (.slice (some ⟨W.heap.size, 0, none⟩) n n) n cs := ⟨_, rfl, Box.new _ _ _⟩

end Go.Proofs.Yteaiemckcepphaa
