/-
  PackArp of the program.
-/
import Derived.Test.YtgjkbaplfbiomaaPty
import Derived.Test.YtgjkbaplfbiomaaImPkF
import Derived.Test.YtgjkbaplfbiomaaExArpP
namespace Go.Proofs.Ytgjkbaplfbiomaa
open Go.ChangeShapes Go.WideShapes Go.ChangeAt Go.RowKit

/-- these blocks hold just these cells -/
def Bs (l : List (Nat × TypeId × Array Value)) (W : World) : Prop := ∀ x ∈ l, Box W x.1 x.2.1 x.2.2
theorem bsCall {l : List (Nat × TypeId × Array Value)} {W w' : World} (hb : Below W.heap.size W w') (h : Hid (Bs l W)) : Hid (Bs l w') := fun x hx => (h.out x hx).below hb (h.out x hx).lt
theorem bsAlloc {l : List (Nat × TypeId × Array Value)} {W : World} {o : Obj} (h : Hid (Bs l W)) : Hid (Bs l (W.alloc o)) := fun x hx => (h.out x hx).alloc o
theorem bsDrew {l : List (Nat × TypeId × Array Value)} {W : World} (h : Hid (Bs l W)) : Hid (Bs l W.drew) := fun x hx => h.out x hx
theorem bsSet {l : List (Nat × TypeId × Array Value)} {W : World} {p : Addr} {u : Value} (hp : ∀ x ∈ l, x.1 ≠ p.block) (h : Hid (Bs l W)) : Hid (Bs l (W.setCell p u)) := fun x hx => (h.out x hx).grown (grown_setCell W p u) (by have := hp x hx; simpa using this)
theorem be4 (n : Int) : ∃ y0 y1 y2 y3, be n 4 = [y0, y1, y2, y3] := ⟨_, _, _, _, rfl⟩
theorem b8_4 {y0 y1 y2 y3 : Int} {n : Int} {k : Nat} (h : be n k = [y0, y1, y2, y3]) : B8 [y0, y1, y2, y3] := by rw [← h]; exact b8_be k n
theorem arpB_ip {op fm fi tm ti : Int} (h : arpB op fm fi tm ti = true) : (0 ≤ op ∧ op < 65536) ∧ (0 ≤ fi ∧ fi < 4294967296) ∧ (0 ≤ ti ∧ ti < 4294967296) := by
  simp only [arpB, macB, ipB, inB, Bool.and_eq_true, decide_eq_true_eq] at h
  omega

end Go.Proofs.Ytgjkbaplfbiomaa
