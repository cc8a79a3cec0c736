/-
  End: what comes in is opened.
-/
import Derived.Test.YtbngdenlplbjhaaKSEnd
import Derived.Test.YtbngdenlplbjhaaKOPiece
namespace Go.Proofs.Ytbngdenlplbjhaa
open Go.ChangeShapes Go.WideShapes Go.ChangeAt Go.RowKit

set_option maxHeartbeats 1000000 in
theorem opens_End : Opens EndR.md 134 := by
  intro H enc w base spare held fuel cs x hsp h
  obtain ⟨xs, k, hk, hxy, hlen, hxl, hf⟩ := DataW.trod_struct Try.underlying134 h
  have ce : Try.prog.cellsOf 134 = 14 := by kernel_rfl
  rw [ce] at hlen
  have hxl : xs.length = 14 := hxl
  obtain ⟨y0, hy0⟩ : ∃ y, xs[0]? = some y := ⟨_, List.getElem?_eq_getElem (by omega)⟩
  have g0 : DataW.trod enc Try.prog w base spare held k 2 ((cs.drop 0).take (Try.prog.cellsOf 2)) = some y0 := (hf 0 _ rfl).trans hy0
  rw [show Try.prog.cellsOf 2 = 1 from by kernel_rfl] at g0
  obtain ⟨f0, e0, _, _⟩ := DataW.trod_int Try.underlying2 g0
  obtain ⟨y1, hy1⟩ : ∃ y, xs[1]? = some y := ⟨_, List.getElem?_eq_getElem (by omega)⟩
  have g1 : DataW.trod enc Try.prog w base spare held k 2 ((cs.drop 1).take (Try.prog.cellsOf 2)) = some y1 := (hf 1 _ rfl).trans hy1
  rw [show Try.prog.cellsOf 2 = 1 from by kernel_rfl] at g1
  obtain ⟨f1, e1, _, _⟩ := DataW.trod_int Try.underlying2 g1
  obtain ⟨y2, hy2⟩ : ∃ y, xs[2]? = some y := ⟨_, List.getElem?_eq_getElem (by omega)⟩
  have g2 : DataW.trod enc Try.prog w base spare held k 2 ((cs.drop 2).take (Try.prog.cellsOf 2)) = some y2 := (hf 2 _ rfl).trans hy2
  rw [show Try.prog.cellsOf 2 = 1 from by kernel_rfl] at g2
  obtain ⟨f2, e2, _, _⟩ := DataW.trod_int Try.underlying2 g2
  obtain ⟨y3, hy3⟩ : ∃ y, xs[3]? = some y := ⟨_, List.getElem?_eq_getElem (by omega)⟩
  have g3 : DataW.trod enc Try.prog w base spare held k 2 ((cs.drop 3).take (Try.prog.cellsOf 2)) = some y3 := (hf 3 _ rfl).trans hy3
  rw [show Try.prog.cellsOf 2 = 1 from by kernel_rfl] at g3
  obtain ⟨f3, e3, _, _⟩ := DataW.trod_int Try.underlying2 g3
  obtain ⟨y4, hy4⟩ : ∃ y, xs[4]? = some y := ⟨_, List.getElem?_eq_getElem (by omega)⟩
  have g4 : DataW.trod enc Try.prog w base spare held k 2 ((cs.drop 4).take (Try.prog.cellsOf 2)) = some y4 := (hf 4 _ rfl).trans hy4
  rw [show Try.prog.cellsOf 2 = 1 from by kernel_rfl] at g4
  obtain ⟨f4, e4, _, _⟩ := DataW.trod_int Try.underlying2 g4
  obtain ⟨y5, hy5⟩ : ∃ y, xs[5]? = some y := ⟨_, List.getElem?_eq_getElem (by omega)⟩
  have g5 : DataW.trod enc Try.prog w base spare held k 2 ((cs.drop 5).take (Try.prog.cellsOf 2)) = some y5 := (hf 5 _ rfl).trans hy5
  rw [show Try.prog.cellsOf 2 = 1 from by kernel_rfl] at g5
  obtain ⟨f5, e5, _, _⟩ := DataW.trod_int Try.underlying2 g5
  obtain ⟨y6, hy6⟩ : ∃ y, xs[6]? = some y := ⟨_, List.getElem?_eq_getElem (by omega)⟩
  have g6 : DataW.trod enc Try.prog w base spare held k 22 ((cs.drop 6).take (Try.prog.cellsOf 22)) = some y6 := (hf 6 _ rfl).trans hy6
  rw [show Try.prog.cellsOf 22 = 1 from by kernel_rfl] at g6
  obtain ⟨f6, e6, o6⟩ := opens_bytes Try.underlying22 hsp g6
  obtain ⟨y7, hy7⟩ : ∃ y, xs[7]? = some y := ⟨_, List.getElem?_eq_getElem (by omega)⟩
  have g7 : DataW.trod enc Try.prog w base spare held k 4 ((cs.drop 7).take (Try.prog.cellsOf 4)) = some y7 := (hf 7 _ rfl).trans hy7
  rw [show Try.prog.cellsOf 4 = 1 from by kernel_rfl] at g7
  obtain ⟨f7, e7, _⟩ := DataW.trod_bool Try.underlying4 g7
  obtain ⟨y8, hy8⟩ : ∃ y, xs[8]? = some y := ⟨_, List.getElem?_eq_getElem (by omega)⟩
  have g8 : DataW.trod enc Try.prog w base spare held k 2 ((cs.drop 8).take (Try.prog.cellsOf 2)) = some y8 := (hf 8 _ rfl).trans hy8
  rw [show Try.prog.cellsOf 2 = 1 from by kernel_rfl] at g8
  obtain ⟨f8, e8, _, _⟩ := DataW.trod_int Try.underlying2 g8
  obtain ⟨y9, hy9⟩ : ∃ y, xs[9]? = some y := ⟨_, List.getElem?_eq_getElem (by omega)⟩
  have g9 : DataW.trod enc Try.prog w base spare held k 2 ((cs.drop 9).take (Try.prog.cellsOf 2)) = some y9 := (hf 9 _ rfl).trans hy9
  rw [show Try.prog.cellsOf 2 = 1 from by kernel_rfl] at g9
  obtain ⟨f9, e9, _, _⟩ := DataW.trod_int Try.underlying2 g9
  obtain ⟨y10, hy10⟩ : ∃ y, xs[10]? = some y := ⟨_, List.getElem?_eq_getElem (by omega)⟩
  have g10 : DataW.trod enc Try.prog w base spare held k 132 ((cs.drop 10).take (Try.prog.cellsOf 132)) = some y10 := (hf 10 _ rfl).trans hy10
  rw [show Try.prog.cellsOf 132 = 1 from by kernel_rfl] at g10
  obtain ⟨f10, e10, o10⟩ := opens_list opens_Piece (by decide) (by kernel_rfl) Try.underlying132 hsp g10
  obtain ⟨y11, hy11⟩ : ∃ y, xs[11]? = some y := ⟨_, List.getElem?_eq_getElem (by omega)⟩
  have g11 : DataW.trod enc Try.prog w base spare held k 2 ((cs.drop 11).take (Try.prog.cellsOf 2)) = some y11 := (hf 11 _ rfl).trans hy11
  rw [show Try.prog.cellsOf 2 = 1 from by kernel_rfl] at g11
  obtain ⟨f11, e11, _, _⟩ := DataW.trod_int Try.underlying2 g11
  obtain ⟨y12, hy12⟩ : ∃ y, xs[12]? = some y := ⟨_, List.getElem?_eq_getElem (by omega)⟩
  have g12 : DataW.trod enc Try.prog w base spare held k 2 ((cs.drop 12).take (Try.prog.cellsOf 2)) = some y12 := (hf 12 _ rfl).trans hy12
  rw [show Try.prog.cellsOf 2 = 1 from by kernel_rfl] at g12
  obtain ⟨f12, e12, _, _⟩ := DataW.trod_int Try.underlying2 g12
  obtain ⟨y13, hy13⟩ : ∃ y, xs[13]? = some y := ⟨_, List.getElem?_eq_getElem (by omega)⟩
  have g13 : DataW.trod enc Try.prog w base spare held k 2 ((cs.drop 13).take (Try.prog.cellsOf 2)) = some y13 := (hf 13 _ rfl).trans hy13
  rw [show Try.prog.cellsOf 2 = 1 from by kernel_rfl] at g13
  obtain ⟨f13, e13, _, _⟩ := DataW.trod_int Try.underlying2 g13
  refine ⟨⟨f0, f1, f2, f3, f4, f5, f6, f7, f8, f9, f10, f11, f12, f13⟩, ?_, ⟨o6, o10⟩⟩
  apply List.ext_getElem?
  intro i
  match i with
  | 0 => exact td e0 (by decide : 0 < 1)
  | 1 => exact td e1 (by decide : 0 < 1)
  | 2 => exact td e2 (by decide : 0 < 1)
  | 3 => exact td e3 (by decide : 0 < 1)
  | 4 => exact td e4 (by decide : 0 < 1)
  | 5 => exact td e5 (by decide : 0 < 1)
  | 6 => exact td e6 (by decide : 0 < 1)
  | 7 => exact td e7 (by decide : 0 < 1)
  | 8 => exact td e8 (by decide : 0 < 1)
  | 9 => exact td e9 (by decide : 0 < 1)
  | 10 => exact td e10 (by decide : 0 < 1)
  | 11 => exact td e11 (by decide : 0 < 1)
  | 12 => exact td e12 (by decide : 0 < 1)
  | 13 => exact td e13 (by decide : 0 < 1)
  | i + 14 => rw [List.getElem?_eq_none (by omega)]; rfl

end Go.Proofs.Ytbngdenlplbjhaa
