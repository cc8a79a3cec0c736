/-
  PackFrame of the program.
-/
import Derived.Test.YtgjkbaplfbiomaaArrR
import Derived.Test.YtgjkbaplfbiomaaImPkK
import Derived.Test.YtgjkbaplfbiomaaImFlt
import Derived.Test.YtgjkbaplfbiomaaExFrmP
import Derived.Deep.DeepCutAuto
namespace Go.Proofs.Ytgjkbaplfbiomaa
open Go.ChangeShapes Go.WideShapes Go.ChangeAt Go.RowKit

theorem box_after {W w' : World} {vs : Array Value} {t : TypeId} (hb : Below (W.alloc (.cells vs t)).heap.size (W.alloc (.cells vs t)) w') : Box w' W.heap.size t vs := (Box.new W t vs).below hb (Box.new W t vs).lt

theorem Box.c14 {w : World} {b : Nat} {t : TypeId} {x0 x1 x2 x3 x4 x5 x6 x7 x8 x9 x10 x11 x12 x13 : Value} (h : Box w b t #[x0, x1, x2, x3, x4, x5, x6, x7, x8, x9, x10, x11, x12, x13]) : w.cell? ⟨b, 0, none⟩ = some x0 ∧ w.cell? ⟨b, 1, none⟩ = some x1 ∧ w.cell? ⟨b, 2, none⟩ = some x2 ∧ w.cell? ⟨b, 3, none⟩ = some x3 ∧ w.cell? ⟨b, 4, none⟩ = some x4 ∧ w.cell? ⟨b, 5, none⟩ = some x5 ∧ w.cell? ⟨b, 6, none⟩ = some x6 ∧ w.cell? ⟨b, 7, none⟩ = some x7 ∧ w.cell? ⟨b, 8, none⟩ = some x8 ∧ w.cell? ⟨b, 9, none⟩ = some x9 ∧ w.cell? ⟨b, 10, none⟩ = some x10 ∧ w.cell? ⟨b, 11, none⟩ = some x11 ∧ w.cell? ⟨b, 12, none⟩ = some x12 ∧ w.cell? ⟨b, 13, none⟩ = some x13 := ⟨h.cell 0, h.cell 1, h.cell 2, h.cell 3, h.cell 4, h.cell 5, h.cell 6, h.cell 7, h.cell 8, h.cell 9, h.cell 10, h.cell 11, h.cell 12, h.cell 13⟩
theorem be6 (n : Int) : ∃ y0 y1 y2 y3 y4 y5, be n 6 = [y0, y1, y2, y3, y4, y5] := ⟨_, _, _, _, _, _, rfl⟩

theorem frameC_kd {tq fr kd : Int} {n : Nat} (h : frameC tq fr kd n = 0) : 0 ≤ kd ∧ kd < 65536 := by
  unfold frameC at h
  split at h
  · rename_i hk
    simp only [frameB, inB, Bool.and_eq_true, decide_eq_true_eq] at hk
    omega
  · omega

end Go.Proofs.Ytgjkbaplfbiomaa
