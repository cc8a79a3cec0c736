/-
  Flight: what comes in is opened.
-/
import Derived.Test.YtbngdenlplbjhaaKSFlight
import Derived.Test.YtbngdenlplbjhaaKOSegment
namespace Go.Proofs.Ytbngdenlplbjhaa
open Go.ChangeShapes Go.WideShapes Go.ChangeAt Go.RowKit

set_option maxHeartbeats 1000000 in
theorem opens_Flight : Opens FlightR.md 139 := by
  intro H enc w base spare held fuel cs x hsp h
  obtain ⟨xs, k, hk, hxy, hlen, hxl, hf⟩ := DataW.trod_struct Try.underlying139 h
  have ce : Try.prog.cellsOf 139 = 9 := by kernel_rfl
  rw [ce] at hlen
  have hxl : xs.length = 2 := hxl
  obtain ⟨y0, hy0⟩ : ∃ y, xs[0]? = some y := ⟨_, List.getElem?_eq_getElem (by omega)⟩
  have g0 : DataW.trod enc Try.prog w base spare held k 2 ((cs.drop 0).take (Try.prog.cellsOf 2)) = some y0 := (hf 0 _ rfl).trans hy0
  rw [show Try.prog.cellsOf 2 = 1 from by kernel_rfl] at g0
  obtain ⟨f0, e0, _, _⟩ := DataW.trod_int Try.underlying2 g0
  obtain ⟨y1, hy1⟩ : ∃ y, xs[1]? = some y := ⟨_, List.getElem?_eq_getElem (by omega)⟩
  have g1 : DataW.trod enc Try.prog w base spare held k 137 ((cs.drop 1).take (Try.prog.cellsOf 137)) = some y1 := (hf 1 _ rfl).trans hy1
  rw [show Try.prog.cellsOf 137 = 8 from by kernel_rfl] at g1
  obtain ⟨f1, e1, o1⟩ := opens_Segment hsp g1
  refine ⟨⟨f0, f1⟩, ?_, o1⟩
  apply List.ext_getElem?
  intro i
  match i with
  | 0 => exact td e0 (by decide : 0 < 1)
  | 1 => exact td e1 (by decide : 0 < 8)
  | 2 => exact td e1 (by decide : 1 < 8)
  | 3 => exact td e1 (by decide : 2 < 8)
  | 4 => exact td e1 (by decide : 3 < 8)
  | 5 => exact td e1 (by decide : 4 < 8)
  | 6 => exact td e1 (by decide : 5 < 8)
  | 7 => exact td e1 (by decide : 6 < 8)
  | 8 => exact td e1 (by decide : 7 < 8)
  | i + 9 => rw [List.getElem?_eq_none (by omega)]; rfl

end Go.Proofs.Ytbngdenlplbjhaa
