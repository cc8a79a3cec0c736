/-
  The law FnSegments, at the landed program.
-/
import Derived.Test.YteaiemckcepphaaSgLaw
import Derived.Test.YteaiemckcepphaaG5Rd
import Derived.Test.YteaiemckcepphaaG5Sz
namespace Go.Proofs.Yteaiemckcepphaa
open Go.ChangeShapes Go.WideShapes Go.ChangeAt Go.RowKit
theorem segments_holds (a : Option Addr) (len cap : Nat) (zs : List Int) (w : World) (hr : Rd w a len cap zs) :
    Calls Try.prog 3 #[.slice a len cap] w fun e w' => e = .returned (.bool true) ∧ Below w.heap.size w w' :=
  segments_law a len cap zs w hr implPackSegment implReadSegment implSegmentFault implSameSegments
end Go.Proofs.Yteaiemckcepphaa
