/-
  SameEnds: the exact law.
-/
import Derived.Test.YtimlobhlcmghfaaE8S
import Derived.Test.YtimlobhlcmghfaaE8T
import Derived.Test.YtimlobhlcmghfaaXSameEnds
import Derived.Test.YtimlobhlcmghfaaKOEnd
namespace Go.Proofs.Ytimlobhlcmghfaa
open Go.ChangeShapes Go.WideShapes Go.ChangeAt Go.RowKit

theorem seR_val {p q a b : EndR} (h : a.val = p.val) (h' : b.val = q.val) : seR a b = seR p q := by
  unfold seR
  rw [show a.f0 = p.f0 from congrArg EndV.f0 h, show a.f1 = p.f1 from congrArg EndV.f1 h, show a.f2 = p.f2 from congrArg EndV.f2 h, show a.f3 = p.f3 from congrArg EndV.f3 h, show a.f4 = p.f4 from congrArg EndV.f4 h, show a.f5 = p.f5 from congrArg EndV.f5 h, show a.f6.z = p.f6.z from congrArg EndV.f6 h, show a.f7 = p.f7 from congrArg EndV.f7 h, show a.f8 = p.f8 from congrArg EndV.f8 h, show a.f9 = p.f9 from congrArg EndV.f9 h, show a.f10.rs.map PieceR.val = p.f10.rs.map PieceR.val from congrArg EndV.f10 h, show a.f11 = p.f11 from congrArg EndV.f11 h, show a.f12 = p.f12 from congrArg EndV.f12 h, show a.f13 = p.f13 from congrArg EndV.f13 h]
  rw [show b.f0 = q.f0 from congrArg EndV.f0 h', show b.f1 = q.f1 from congrArg EndV.f1 h', show b.f2 = q.f2 from congrArg EndV.f2 h', show b.f3 = q.f3 from congrArg EndV.f3 h', show b.f4 = q.f4 from congrArg EndV.f4 h', show b.f5 = q.f5 from congrArg EndV.f5 h', show b.f6.z = q.f6.z from congrArg EndV.f6 h', show b.f7 = q.f7 from congrArg EndV.f7 h', show b.f8 = q.f8 from congrArg EndV.f8 h', show b.f9 = q.f9 from congrArg EndV.f9 h', show b.f10.rs.map PieceR.val = q.f10.rs.map PieceR.val from congrArg EndV.f10 h', show b.f11 = q.f11 from congrArg EndV.f11 h', show b.f12 = q.f12 from congrArg EndV.f12 h', show b.f13 = q.f13 from congrArg EndV.f13 h']
theorem exactSameEnds (p q : EndR) (w : World) (h : EndR.ok w p) (h' : EndR.ok w q) :
    Calls Try.prog 12 #[.agg (EndR.cells p).toArray, .agg (EndR.cells q).toArray] w fun e w' => e = .returned (.bool true) ∧ Below w.heap.size w w' :=
  exactSameEnds_of p q (seR p q) w h h'
    (fun W a b ha hv hb hv' => by
      rw [← seR_val hv hv']
      exact specSameEnds a b W ha hb)
    (fun W a b ha hv hb hv' => by
      rw [← seR_val hv hv']
      exact implSameEnds a b W ha hb)
end Go.Proofs.Ytimlobhlcmghfaa
