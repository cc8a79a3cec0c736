/-
  Reply: what comes in is opened.
-/
import Derived.Test.YtbngdenlplbjhaaKSReply
import Derived.Test.YtbngdenlplbjhaaKO
namespace Go.Proofs.Ytbngdenlplbjhaa
open Go.ChangeShapes Go.WideShapes Go.ChangeAt Go.RowKit

set_option maxHeartbeats 1000000 in
theorem opens_Reply : Opens ReplyR.md 141 := by
  intro H enc w base spare held fuel cs x hsp h
  obtain ⟨xs, k, hk, hxy, hlen, hxl, hf⟩ := DataW.trod_struct Try.underlying141 h
  have ce : Try.prog.cellsOf 141 = 3 := by kernel_rfl
  rw [ce] at hlen
  have hxl : xs.length = 3 := hxl
  obtain ⟨y0, hy0⟩ : ∃ y, xs[0]? = some y := ⟨_, List.getElem?_eq_getElem (by omega)⟩
  have g0 : DataW.trod enc Try.prog w base spare held k 2 ((cs.drop 0).take (Try.prog.cellsOf 2)) = some y0 := (hf 0 _ rfl).trans hy0
  rw [show Try.prog.cellsOf 2 = 1 from by kernel_rfl] at g0
  obtain ⟨f0, e0, _, _⟩ := DataW.trod_int Try.underlying2 g0
  obtain ⟨y1, hy1⟩ : ∃ y, xs[1]? = some y := ⟨_, List.getElem?_eq_getElem (by omega)⟩
  have g1 : DataW.trod enc Try.prog w base spare held k 2 ((cs.drop 1).take (Try.prog.cellsOf 2)) = some y1 := (hf 1 _ rfl).trans hy1
  rw [show Try.prog.cellsOf 2 = 1 from by kernel_rfl] at g1
  obtain ⟨f1, e1, _, _⟩ := DataW.trod_int Try.underlying2 g1
  obtain ⟨y2, hy2⟩ : ∃ y, xs[2]? = some y := ⟨_, List.getElem?_eq_getElem (by omega)⟩
  have g2 : DataW.trod enc Try.prog w base spare held k 22 ((cs.drop 2).take (Try.prog.cellsOf 22)) = some y2 := (hf 2 _ rfl).trans hy2
  rw [show Try.prog.cellsOf 22 = 1 from by kernel_rfl] at g2
  obtain ⟨f2, e2, o2⟩ := opens_bytes Try.underlying22 hsp g2
  refine ⟨⟨f0, f1, f2⟩, ?_, o2⟩
  apply List.ext_getElem?
  intro i
  match i with
  | 0 => exact td e0 (by decide : 0 < 1)
  | 1 => exact td e1 (by decide : 0 < 1)
  | 2 => exact td e2 (by decide : 0 < 1)
  | i + 3 => rw [List.getElem?_eq_none (by omega)]; rfl

end Go.Proofs.Ytbngdenlplbjhaa
