/-
  The exact laws of LearnEntry and AgeCache, out of the contracts of both sides.
-/
import Derived.Test.YtbngdenlplbjhaaE8R
namespace Go.Proofs.Ytbngdenlplbjhaa
open Go.ChangeShapes Go.WideShapes Go.ChangeAt Go.RowKit

end Go.Proofs.Ytbngdenlplbjhaa
