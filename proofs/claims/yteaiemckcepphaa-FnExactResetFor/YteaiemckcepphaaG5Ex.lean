/-
  The exact laws of SegmentFault, SegmentSize, HasFlag, ResetFor, SameSegments, at the landed program.
-/
import Derived.Test.YteaiemckcepphaaG5Rs
import Derived.Test.YteaiemckcepphaaStSeg2
namespace Go.Proofs.Yteaiemckcepphaa
open Go.ChangeShapes Go.WideShapes Go.ChangeAt Go.RowKit
theorem segmentFault_law (x : Sg) (a : Option Addr) (len cap : Nat) (zs : List Int) (w : World) (hr : Rd w a len cap zs) :
    Calls Try.prog 5 #[.agg #[.int .i64 x.f, .int .i64 x.t, .int .i64 x.s, .int .i64 x.a, .int .i64 x.g, .int .i64 x.w, .int .i64 x.m, .slice a len cap]] w fun e w' => e = .returned (.bool true) ∧ Below w.heap.size w w' :=
  exactSegmentFault x.f x.t x.s x.a x.g x.w x.m a len cap zs w hr (sgC x zs.length) (fun a' l' c' W h => by rw [h.length]; exact specSegmentFault x a' l' c' W) (fun a' l' c' W h => by rw [h.length]; exact implSegmentFault x a' l' c' W)
theorem segmentSize_law (x : Sg) (a : Option Addr) (len cap : Nat) (zs : List Int) (w : World) (hr : Rd w a len cap zs) :
    Calls Try.prog 6 #[.agg #[.int .i64 x.f, .int .i64 x.t, .int .i64 x.s, .int .i64 x.a, .int .i64 x.g, .int .i64 x.w, .int .i64 x.m, .slice a len cap]] w fun e w' => e = .returned (.bool true) ∧ Below w.heap.size w w' :=
  exactSegmentSize x.f x.t x.s x.a x.g x.w x.m a len cap zs w hr (sgC x zs.length) (if sgC x zs.length = 0 then sgZ x.g zs.length else 0) (fun a' l' c' W h => by rw [h.length]; exact specSegmentSize x a' l' c' W) (fun a' l' c' W h => by rw [h.length]; exact implSegmentSize x a' l' c' W)
theorem hasFlag_law (x : Sg) (a : Option Addr) (len cap : Nat) (zs : List Int) (k : Int) (w : World) (hr : Rd w a len cap zs) :
    Calls Try.prog 7 #[.agg #[.int .i64 x.f, .int .i64 x.t, .int .i64 x.s, .int .i64 x.a, .int .i64 x.g, .int .i64 x.w, .int .i64 x.m, .slice a len cap], .int .i64 k] w fun e w' => e = .returned (.bool true) ∧ Below w.heap.size w w' :=
  exactHasFlag k x.f x.t x.s x.a x.g x.w x.m a len cap zs w hr (hfB x.g k) (fun a' l' c' W _ => specHasFlag x a' l' c' k W) (fun a' l' c' W _ => implHasFlag x a' l' c' k W)
theorem resetFor_law (x : Sg) (a : Option Addr) (len cap : Nat) (zs : List Int) (w : World) (hr : Rd w a len cap zs) :
    Calls Try.prog 10 #[.agg #[.int .i64 x.f, .int .i64 x.t, .int .i64 x.s, .int .i64 x.a, .int .i64 x.g, .int .i64 x.w, .int .i64 x.m, .slice a len cap]] w fun e w' => e = .returned (.bool true) ∧ Below w.heap.size w w' :=
  exactResetFor x.f x.t x.s x.a x.g x.w x.m a len cap zs w hr (rfAns x zs.length).c (rfAns x zs.length).x.f (rfAns x zs.length).x.t (rfAns x zs.length).x.s (rfAns x zs.length).x.a (rfAns x zs.length).x.g (rfAns x zs.length).x.w (rfAns x zs.length).x.m (rfAns x zs.length).rs (by rw [rfAns_rs]; exact Nat.zero_le _) (fun a' l' c' W h => by rw [h.length]; exact specResetFor x a' l' c' W) (fun a' l' c' W h => by rw [h.length]; exact implResetFor x a' l' c' W)
theorem sameSegments_law (x : Sg) (a : Option Addr) (len cap : Nat) (zs : List Int) (y : Sg) (a' : Option Addr) (len' cap' : Nat) (zs' : List Int) (w : World) (hr : Rd w a len cap zs) (hr' : Rd w a' len' cap' zs') :
    Calls Try.prog 11 #[.agg #[.int .i64 x.f, .int .i64 x.t, .int .i64 x.s, .int .i64 x.a, .int .i64 x.g, .int .i64 x.w, .int .i64 x.m, .slice a len cap], .agg #[.int .i64 y.f, .int .i64 y.t, .int .i64 y.s, .int .i64 y.a, .int .i64 y.g, .int .i64 y.w, .int .i64 y.m, .slice a' len' cap']] w fun e w' => e = .returned (.bool true) ∧ Below w.heap.size w w' :=
  exactSameSegments x.f x.t x.s x.a x.g x.w x.m a len cap zs y.f y.t y.s y.a y.g y.w y.m a' len' cap' zs' w hr hr' (sameG x zs y zs') (fun b l c b' l' c' W h h' => specSameSegments x b l c zs y b' l' c' zs' W h h') (fun b l c b' l' c' W h h' => implSameSegments x b l c zs y b' l' c' zs' W h h')
end Go.Proofs.Yteaiemckcepphaa
