/-
  SameFrames of the model.
-/
import Derived.Test.YtlmglepphjpohaaFrm
import Derived.Test.YtlmglepphjpohaaStr
namespace Go.Proofs.Ytlmglepphjpohaa
open Go.ChangeShapes Go.WideShapes Go.ChangeAt Go.RowKit

def sameB (to fr kd : Int) (zs : List Int) (to' fr' kd' : Int) (zs' : List Int) : Bool := decide (to = to') && decide (fr = fr') && decide (kd = kd') && eqL zs zs'

end Go.Proofs.Ytlmglepphjpohaa
