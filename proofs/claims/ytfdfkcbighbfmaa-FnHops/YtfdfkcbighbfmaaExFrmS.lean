/-
  The law FnExactSameFrames returns true, where the program's SameFrames answers as the model's does.
-/
import Derived.Test.YtfdfkcbighbfmaaFrmS
import Derived.Test.YtfdfkcbighbfmaaExFrmP
namespace Go.Proofs.Ytfdfkcbighbfmaa
open Go.ChangeShapes Go.WideShapes Go.ChangeAt Go.RowKit

end Go.Proofs.Ytfdfkcbighbfmaa
