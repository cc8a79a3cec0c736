/-
  SameFrames of the model.
-/
import Derived.Test.YtfdfkcbighbfmaaFrm
import Derived.Test.YtfdfkcbighbfmaaStr
namespace Go.Proofs.Ytfdfkcbighbfmaa
open Go.ChangeShapes Go.WideShapes Go.ChangeAt Go.RowKit

def sameB (to fr kd : Int) (zs : List Int) (to' fr' kd' : Int) (zs' : List Int) : Bool := decide (to = to') && decide (fr = fr') && decide (kd = kd') && eqL zs zs'

end Go.Proofs.Ytfdfkcbighbfmaa
