/-
  The helpers of the laws over Datagram, and the exact laws of its functions, where model and program answer the same.
-/
import Derived.Test.YteaiemckcepphaaExFrmS
import Derived.Test.YteaiemckcepphaaExFrmR
import Derived.Test.YteaiemckcepphaaArr
namespace Go.Proofs.Yteaiemckcepphaa
open Go.ChangeShapes Go.WideShapes Go.ChangeAt Go.RowKit

theorem Box.three {w : World} {b : Nat} {t : TypeId} {x0 x1 x2 : Value} (h : Box w b t #[x0, x1, x2]) : b < w.heap.size ∧ w.cell? ⟨b, 0, none⟩ = some x0 ∧ w.cell? ⟨b, 1, none⟩ = some x1 ∧ w.cell? ⟨b, 2, none⟩ = some x2 := ⟨h.lt, h.cell 0, h.cell 1, h.cell 2⟩
/-- a frame of these numbers and bytes whose body is of this call's own -/
def DatagramOut (w : World) (df dt : Int) (zs : List Int) (e : Ending) (w' : World) : Prop :=
  ∃ a' l' c', e = .returned (.agg #[.int .i64 df, .int .i64 dt, .slice a' l' c']) ∧ Own w' w.heap.size a' l' c' zs ∧ Below w.heap.size w w'

/-- a frame's result: the code, the numbers, the body of its own -/
def DatagramRes (w : World) (c : Int) (df dt : Int) (zs : List Int) (e : Ending) (w' : World) : Prop :=
  ∃ a' l' c', e = .returned (.agg #[.int .i64 c, .int .i64 df, .int .i64 dt, .slice a' l' c']) ∧ Own w' w.heap.size a' l' c' zs ∧ Below w.heap.size w w'

end Go.Proofs.Yteaiemckcepphaa
