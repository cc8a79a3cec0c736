/-
  The law FnExactPackArp returns true, where the program's PackArp answers as the model's does.
-/
import Derived.Test.YtgjkbaplfbiomaaArpP
import Derived.Test.YtgjkbaplfbiomaaExPack
namespace Go.Proofs.Ytgjkbaplfbiomaa
open Go.ChangeShapes Go.WideShapes Go.ChangeAt Go.RowKit

end Go.Proofs.Ytgjkbaplfbiomaa
