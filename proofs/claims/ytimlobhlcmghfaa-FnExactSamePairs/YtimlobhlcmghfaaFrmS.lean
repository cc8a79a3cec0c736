/-
  SameFrames of the model.
-/
import Derived.Test.YtimlobhlcmghfaaFrm
import Derived.Test.YtimlobhlcmghfaaStr
namespace Go.Proofs.Ytimlobhlcmghfaa
open Go.ChangeShapes Go.WideShapes Go.ChangeAt Go.RowKit

def sameB (to fr kd : Int) (zs : List Int) (to' fr' kd' : Int) (zs' : List Int) : Bool := decide (to = to') && decide (fr = fr') && decide (kd = kd') && eqL zs zs'

end Go.Proofs.Ytimlobhlcmghfaa
