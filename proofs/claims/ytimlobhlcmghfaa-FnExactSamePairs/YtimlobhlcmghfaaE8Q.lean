/-
  SameEnds by values.
-/
import Derived.Test.YtimlobhlcmghfaaKSEnd
namespace Go.Proofs.Ytimlobhlcmghfaa
open Go.ChangeShapes Go.WideShapes Go.ChangeAt Go.RowKit

/-- all fields are the same -/
def seR (p q : EndR) : Bool := ((p.f0 == q.f0) && ((p.f1 == q.f1) && ((p.f2 == q.f2) && ((p.f3 == q.f3) && ((p.f4 == q.f4) && ((p.f5 == q.f5) && (eqL p.f6.z q.f6.z && ((p.f7 == q.f7) && ((p.f8 == q.f8) && ((p.f9 == q.f9) && (decide (p.f10.rs.map PieceR.val = q.f10.rs.map PieceR.val) && ((p.f11 == q.f11) && ((p.f12 == q.f12) && (p.f13 == q.f13))))))))))))))
end Go.Proofs.Ytimlobhlcmghfaa
