/-
  SamePairs: the exact law.
-/
import Derived.Test.YtimlobhlcmghfaaE8P
import Derived.Test.YtimlobhlcmghfaaXSamePairs
import Derived.Test.YtimlobhlcmghfaaKOPair
namespace Go.Proofs.Ytimlobhlcmghfaa
open Go.ChangeShapes Go.WideShapes Go.ChangeAt Go.RowKit

theorem spB_val {p q a b : PairR} (h : a.val = p.val) (h' : b.val = q.val) : spB a b = spB p q := by
  unfold spB
  rw [show a.f0 = p.f0 from congrArg PairV.f0 h, show a.f1.rs.map EndR.val = p.f1.rs.map EndR.val from congrArg PairV.f1 h, show a.f2.rs.map FlightR.val = p.f2.rs.map FlightR.val from congrArg PairV.f2 h, show a.f3.rs.map ReplyR.val = p.f3.rs.map ReplyR.val from congrArg PairV.f3 h]
  rw [show b.f0 = q.f0 from congrArg PairV.f0 h', show b.f1.rs.map EndR.val = q.f1.rs.map EndR.val from congrArg PairV.f1 h', show b.f2.rs.map FlightR.val = q.f2.rs.map FlightR.val from congrArg PairV.f2 h', show b.f3.rs.map ReplyR.val = q.f3.rs.map ReplyR.val from congrArg PairV.f3 h']
theorem exactSamePairs (p q : PairR) (w : World) (h : PairR.ok w p) (h' : PairR.ok w q) :
    Calls Try.prog 13 #[.agg (PairR.cells p).toArray, .agg (PairR.cells q).toArray] w fun e w' => e = .returned (.bool true) ∧ Below w.heap.size w w' :=
  exactSamePairs_of p q (spB p q) w h h'
    (fun W a b ha hv hb hv' => by
      rw [← spB_val hv hv']
      exact specSamePairs a b W ha hb)
    (fun W a b ha hv hb hv' => by
      rw [← spB_val hv hv']
      exact implSamePairs a b W ha hb)
end Go.Proofs.Ytimlobhlcmghfaa
