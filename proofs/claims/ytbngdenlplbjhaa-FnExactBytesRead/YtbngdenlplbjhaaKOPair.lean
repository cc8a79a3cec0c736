/-
  Pair: what comes in is opened.
-/
import Derived.Test.YtbngdenlplbjhaaKSPair
import Derived.Test.YtbngdenlplbjhaaKOEnd
import Derived.Test.YtbngdenlplbjhaaKOFlight
import Derived.Test.YtbngdenlplbjhaaKOReply
namespace Go.Proofs.Ytbngdenlplbjhaa
open Go.ChangeShapes Go.WideShapes Go.ChangeAt Go.RowKit

set_option maxHeartbeats 1000000 in
theorem opens_Pair : Opens PairR.md 48 := by
  intro H enc w base spare held fuel cs x hsp h
  obtain ⟨xs, k, hk, hxy, hlen, hxl, hf⟩ := DataW.trod_struct Try.underlying48 h
  have ce : Try.prog.cellsOf 48 = 4 := by kernel_rfl
  rw [ce] at hlen
  have hxl : xs.length = 4 := hxl
  obtain ⟨y0, hy0⟩ : ∃ y, xs[0]? = some y := ⟨_, List.getElem?_eq_getElem (by omega)⟩
  have g0 : DataW.trod enc Try.prog w base spare held k 2 ((cs.drop 0).take (Try.prog.cellsOf 2)) = some y0 := (hf 0 _ rfl).trans hy0
  rw [show Try.prog.cellsOf 2 = 1 from by kernel_rfl] at g0
  obtain ⟨f0, e0, _, _⟩ := DataW.trod_int Try.underlying2 g0
  obtain ⟨y1, hy1⟩ : ∃ y, xs[1]? = some y := ⟨_, List.getElem?_eq_getElem (by omega)⟩
  have g1 : DataW.trod enc Try.prog w base spare held k 44 ((cs.drop 1).take (Try.prog.cellsOf 44)) = some y1 := (hf 1 _ rfl).trans hy1
  rw [show Try.prog.cellsOf 44 = 1 from by kernel_rfl] at g1
  obtain ⟨f1, e1, o1⟩ := opens_list opens_End (by decide) (by kernel_rfl) Try.underlying44 hsp g1
  obtain ⟨y2, hy2⟩ : ∃ y, xs[2]? = some y := ⟨_, List.getElem?_eq_getElem (by omega)⟩
  have g2 : DataW.trod enc Try.prog w base spare held k 45 ((cs.drop 2).take (Try.prog.cellsOf 45)) = some y2 := (hf 2 _ rfl).trans hy2
  rw [show Try.prog.cellsOf 45 = 1 from by kernel_rfl] at g2
  obtain ⟨f2, e2, o2⟩ := opens_list opens_Flight (by decide) (by kernel_rfl) Try.underlying45 hsp g2
  obtain ⟨y3, hy3⟩ : ∃ y, xs[3]? = some y := ⟨_, List.getElem?_eq_getElem (by omega)⟩
  have g3 : DataW.trod enc Try.prog w base spare held k 46 ((cs.drop 3).take (Try.prog.cellsOf 46)) = some y3 := (hf 3 _ rfl).trans hy3
  rw [show Try.prog.cellsOf 46 = 1 from by kernel_rfl] at g3
  obtain ⟨f3, e3, o3⟩ := opens_list opens_Reply (by decide) (by kernel_rfl) Try.underlying46 hsp g3
  refine ⟨⟨f0, f1, f2, f3⟩, ?_, ⟨⟨o1, o2⟩, o3⟩⟩
  apply List.ext_getElem?
  intro i
  match i with
  | 0 => exact td e0 (by decide : 0 < 1)
  | 1 => exact td e1 (by decide : 0 < 1)
  | 2 => exact td e2 (by decide : 0 < 1)
  | 3 => exact td e3 (by decide : 0 < 1)
  | i + 4 => rw [List.getElem?_eq_none (by omega)]; rfl

end Go.Proofs.Ytbngdenlplbjhaa
