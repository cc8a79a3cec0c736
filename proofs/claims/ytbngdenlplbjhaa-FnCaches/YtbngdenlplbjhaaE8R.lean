/-
  Contracts of the helpers of the laws that compare, mark and look at results with lists of entries; what a function of lists of entries answers (CaOut).
-/
import Derived.Test.YtbngdenlplbjhaaE8M
namespace Go.Proofs.Ytbngdenlplbjhaa
open Go.ChangeShapes Go.WideShapes Go.ChangeAt Go.RowKit

/-- a code, and a list of these entries in new memory -/
def CaOut (w : World) (code : Int) (es : List En) (e : Ending) (w' : World) : Prop :=
  ∃ a len cap, e = .returned (.agg #[.int .i64 code, .slice a len cap]) ∧ EO w' w.heap.size w'.heap.size a len cap es ∧ Below w.heap.size w w'
/-- a list of these entries in new memory -/
def EsOut (w : World) (es : List En) (e : Ending) (w' : World) : Prop :=
  ∃ a len cap, e = .returned (.slice a len cap) ∧ EO w' w.heap.size w'.heap.size a len cap es ∧ Below w.heap.size w w'
theorem Box.pair {w : World} {b : Nat} {t : TypeId} {x y : Value} (h : Box w b t #[x, y]) : b < w.heap.size ∧ w.cell? ⟨b, 0, none⟩ = some x ∧ w.cell? ⟨b, 1, none⟩ = some y := ⟨h.lt, h.cell 0, h.cell 1⟩
end Go.Proofs.Ytbngdenlplbjhaa
