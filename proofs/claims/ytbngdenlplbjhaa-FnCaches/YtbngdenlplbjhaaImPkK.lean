/-
  How 'all below is as it was' is carried, hidden, over calls, allocations, draws and stores.
-/
import Derived.Test.YtbngdenlplbjhaaMem
namespace Go.Proofs.Ytbngdenlplbjhaa
open Go.ChangeShapes Go.WideShapes Go.ChangeAt Go.RowKit

theorem kCall {w0 W w' : World} {n : Nat} (hb : Below W.heap.size W w') (hn : n ≤ W.heap.size) (h : Hid (Below n w0 W)) : Hid (Below n w0 w') := h.out.trans (hb.mono hn)
theorem kAlloc {w0 W : World} {n : Nat} {o : Obj} (hn : n ≤ W.heap.size) (h : Hid (Below n w0 W)) : Hid (Below n w0 (W.alloc o)) := h.out.alloc hn o
theorem kDrew {w0 W : World} {n : Nat} (h : Hid (Below n w0 W)) : Hid (Below n w0 W.drew) := h.out.drew
theorem kSet {w0 W : World} {n : Nat} {p : Addr} {u : Value} (hp : n ≤ p.block) (h : Hid (Below n w0 W)) : Hid (Below n w0 (W.setCell p u)) := h.out.setCell hp u
theorem kGrown {w0 W w' : World} {b : Nat} (hg : W.grownBy w' (some b)) (h : Hid (Below w0.heap.size w0 W)) (hb : w0.heap.size ≤ b) : Hid (Below w0.heap.size w0 w') := h.out.grown hg h.out.size (fun k e => by cases e; exact hb)
theorem kSize {w0 W : World} (h : Hid (Below w0.heap.size w0 W)) : w0.heap.size ≤ W.heap.size := h.out.size

theorem want_none {o : Oper} {y : Nat → Option Bool} {A B : Prop} (h : o.guard = none) (hA : A) : if Region.wanted o y = true then A else B := by
  rw [if_pos (by simp [Region.wanted, h])]
  exact hA
end Go.Proofs.Ytbngdenlplbjhaa
