/-
  The law FnExactReadFrame returns true, where the program's ReadFrame answers as the model's does.
-/
import Derived.Test.YtmcllaefjgdbeaaFrmR
import Derived.Test.YtmcllaefjgdbeaaExFrmP
namespace Go.Proofs.Ytmcllaefjgdbeaa
open Go.ChangeShapes Go.WideShapes Go.ChangeAt Go.RowKit

end Go.Proofs.Ytmcllaefjgdbeaa
