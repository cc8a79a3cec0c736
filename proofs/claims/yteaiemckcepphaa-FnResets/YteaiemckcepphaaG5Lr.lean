/-
  The law FnResets, at the landed program.
-/
import Derived.Test.YteaiemckcepphaaSgRs
import Derived.Test.YteaiemckcepphaaG5Rs
namespace Go.Proofs.Yteaiemckcepphaa
open Go.ChangeShapes Go.WideShapes Go.ChangeAt Go.RowKit
theorem resets_holds (a : Option Addr) (len cap : Nat) (zs : List Int) (w : World) (hr : Rd w a len cap zs) :
    Calls Try.prog 4 #[.slice a len cap] w fun e w' => e = .returned (.bool true) ∧ Below w.heap.size w w' :=
  resets_law a len cap zs w hr implResetFor implSegmentSize implHasFlag implSegmentFault seqAdd_ok
end Go.Proofs.Yteaiemckcepphaa
