/-
  The law FnExactSameFrames returns true, where the program's SameFrames answers as the model's does.
-/
import Derived.Test.YtgjkbaplfbiomaaFrmS
import Derived.Test.YtgjkbaplfbiomaaExFrmP
namespace Go.Proofs.Ytgjkbaplfbiomaa
open Go.ChangeShapes Go.WideShapes Go.ChangeAt Go.RowKit

end Go.Proofs.Ytgjkbaplfbiomaa
