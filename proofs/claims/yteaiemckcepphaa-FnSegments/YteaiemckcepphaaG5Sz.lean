/-
  SegmentSize and HasFlag of the program.
-/
import Derived.Test.YteaiemckcepphaaG5Flt
import Derived.Test.YteaiemckcepphaaMB
import Derived.Test.YteaiemckcepphaaStSeg2
namespace Go.Proofs.Yteaiemckcepphaa
open Go.ChangeShapes Go.WideShapes Go.ChangeAt Go.RowKit

set_option maxRecDepth 20000 in
set_option maxHeartbeats 1000000 in
theorem implSegmentSize (x : Sg) (a : Option Addr) (len cap : Nat) (w : World) :
    Calls Try.prog 28 #[.agg #[.int .i64 x.f, .int .i64 x.t, .int .i64 x.s, .int .i64 x.a, .int .i64 x.g, .int .i64 x.w, .int .i64 x.m, .slice a len cap]] w fun e w' => e = .returned (.agg #[.int .i64 (sgC x len), .int .i64 (if sgC x len = 0 then sgZ x.g len else 0)]) ∧ Below w.heap.size w w' := by
  have KF := Lib.hid (fun W => implSegmentFault x a len cap W)
  have B0 := Lib.hid (((Below.refl w.heap.size w).alloc (Nat.le_refl _) (.cells #[.int .i64 x.f, .int .i64 x.t, .int .i64 x.s, .int .i64 x.a, .int .i64 x.g, .int .i64 x.w, .int .i64 x.m, .slice a len cap] 25)).alloc (by simp) (.cells #[.int .i64 0, .int .i64 0] 46))
  have X0 := Lib.hid ((Box.new w 25 #[.int .i64 x.f, .int .i64 x.t, .int .i64 x.s, .int .i64 x.a, .int .i64 x.g, .int .i64 x.w, .int .i64 x.m, .slice a len cap]).alloc (.cells #[.int .i64 0, .int .i64 0] 46))
  have R0 := Lib.hid (Box.new (w.alloc (.cells #[.int .i64 x.f, .int .i64 x.t, .int .i64 x.s, .int .i64 x.a, .int .i64 x.g, .int .i64 x.w, .int .i64 x.m, .slice a len cap] 25)) 46 #[.int .i64 0, .int .i64 0])
  simp only [World.size_alloc] at R0
  have HP := Lib.hid (fun h : sgC x len = 0 => sgC_parts h)
  obtain ⟨c, hc⟩ : ∃ c, c = sgC x len := ⟨_, rfl⟩
  obtain ⟨z, hz⟩ : ∃ z, z = sgZ x.g len := ⟨_, rfl⟩
  rw [← hc] at KF HP
  rw [← hc, ← hz]
  have HZ := Lib.hid hz
  clear hc hz
  go_enter Try.func28, Try.ntmps28
  go_wp2_with fail
  refine (KF.out _).mono ?_
  rintro e w1 ⟨rfl, b1⟩
  have X1 := Lib.hid (X0.out.below b1 X0.out.lt)
  have R1 := Lib.hid (R0.out.below b1 R0.out.lt)
  have B1 := Lib.hid (B0.out.trans (b1.mono B0.out.size))
  clear b1 X0 R0 B0 KF
  by_cases h0 : c = 0
  · subst h0
    obtain ⟨hn, _, _, hl⟩ := HP.out rfl
    have hg := (sgN_parts hn).2.2.2.2.1
    obtain ⟨y, hy⟩ : ∃ y : Int, y = (if flB x.g 2 then 1 else 0) + (if flB x.g 1 then 1 else 0) := ⟨_, rfl⟩
    have hyb : 0 ≤ y ∧ y ≤ 2 := by rw [hy]; split <;> split <;> omega
    have KZ := Lib.hid (fun W => flagSize_any x.g W hg)
    rw [← hy] at KZ
    have HY : Hid (z = len + y) := by rw [HZ.out, hy, sgZ, Int.add_assoc]; exact rfl
    have hwr : IntKind.i64.wrap ((len : Int) + y) = len + y := IntWalk.i64_in _ (by omega)
    obtain ⟨_, _, _, _, _, x4, _, _, x7⟩ := X1.out.eight
    clear HP hn hg hy HZ
    go_wp2_with fail
    go_region_law (first
      | (go_simp; go_at_call 83; refine (KZ.out _).mono ?_; rintro e w2 ⟨rfl, b2⟩; have B2 := Lib.hid (B1.out.drew.trans (b2.mono B1.out.drew.size)); have R2 := Lib.hid ((show Box w1.drew _ _ _ from R1.out).below b2 R1.out.lt); obtain ⟨_, _, _, _, _, y4, _, _, y7⟩ := ((show Box w1.drew _ _ _ from X1.out).below b2 X1.out.lt).eight; obtain ⟨_, r0, r1⟩ := R2.out.two; have f0 := R2.out.frozen 0; have f1 := R2.out.frozen 1))
    all_goals
      go_wp2
      exact bodyPost_ret (v := .agg #[.int .i64 0, .int .i64 z]) (by simp [results, Try.results28, go_sem, r0, r1, HY.out]) rfl ⟨by simp, (B2.out.setCell (by simp) _).setCell (by simp) _⟩
  · have hne : (c != 0) = true := by simpa using h0
    obtain ⟨_, r0, r1⟩ := R1.out.two
    have f0 := R1.out.frozen 0
    have f1 := R1.out.frozen 1
    go_wp2
    exact bodyPost_ret (v := .agg #[.int .i64 c, .int .i64 0]) (by simp [results, Try.results28, go_sem, r0, r1]) rfl ⟨by simp, (B1.out.setCell (by simp) _).setCell (by simp) _⟩
set_option maxRecDepth 20000 in
set_option maxHeartbeats 1000000 in
theorem implHasFlag (x : Sg) (a : Option Addr) (len cap : Nat) (k : Int) (w : World) :
    Calls Try.prog 32 #[.agg #[.int .i64 x.f, .int .i64 x.t, .int .i64 x.s, .int .i64 x.a, .int .i64 x.g, .int .i64 x.w, .int .i64 x.m, .slice a len cap], .int .i64 k] w fun e w' => e = .returned (.bool (hfB x.g k)) ∧ Below w.heap.size w w' := by
  have KW := Lib.hid (fun W => isWithin_any x.g W)
  have KO := Lib.hid (fun W => isOne_any k W)
  have KH := Lib.hid (fun W (hg : inB x.g 0 31 = true) (hk : oneB k = true) => has_any x.g k W (of_decide_eq_true hg) hk)
  have H : Hid (hfB x.g k = (inB x.g 0 31 && oneB k && flB x.g k)) := rfl
  generalize hfB x.g k = v at *
  generalize flB x.g k = u at *
  cases m0 : inB x.g 0 31
  case' true => cases m1 : oneB k
  all_goals
    rw [m0] at KW H
  case' true.false => rw [m1] at KO H
  case' true.true => rw [m1] at KO H; have KI := Lib.hid (fun W => KH.out W m0 m1)
  all_goals
    clear KH
    go_enter Try.func32, Try.ntmps32
    go_wp2_with (first | (go_at_call 79; refine (KW.out _).mono ?_; rintro e w' ⟨rfl, rfl⟩) | (go_at_call 86; refine (KO.out _).mono ?_; rintro e w' ⟨rfl, rfl⟩) | (go_at_call 80; refine (KI.out _).mono ?_; rintro e w' ⟨rfl, rfl⟩))
    go_ret
    exact ⟨ret_b (by rw [H.out]; simp), (Below.refl _ _).alloc (Nat.le_refl _) _⟩
set_option maxRecDepth 20000 in
set_option maxHeartbeats 1000000 in
theorem implSameSegments (x : Sg) (a : Option Addr) (len cap : Nat) (zs : List Int) (y : Sg) (a' : Option Addr) (len' cap' : Nat) (zs' : List Int) (w : World) (hr : Rd w a len cap zs) (hr' : Rd w a' len' cap' zs') :
    Calls Try.prog 20 #[.agg #[.int .i64 x.f, .int .i64 x.t, .int .i64 x.s, .int .i64 x.a, .int .i64 x.g, .int .i64 x.w, .int .i64 x.m, .slice a len cap], .agg #[.int .i64 y.f, .int .i64 y.t, .int .i64 y.s, .int .i64 y.a, .int .i64 y.g, .int .i64 y.w, .int .i64 y.m, .slice a' len' cap']] w fun e w' => e = .returned (.bool (sameG x zs y zs')) ∧ Below w.heap.size w w' := by
  have B0 := Lib.hid (((Below.refl w.heap.size w).alloc (Nat.le_refl _) (.cells #[.int .i64 x.f, .int .i64 x.t, .int .i64 x.s, .int .i64 x.a, .int .i64 x.g, .int .i64 x.w, .int .i64 x.m, .slice a len cap] 25)).alloc (by simp) (.cells #[.int .i64 y.f, .int .i64 y.t, .int .i64 y.s, .int .i64 y.a, .int .i64 y.g, .int .i64 y.w, .int .i64 y.m, .slice a' len' cap'] 25))
  have K := Lib.hid (fun W (hW : Below w.heap.size w W) => equal_any a len cap zs a' len' cap' zs' W (hr.below hW) (hr'.below hW))
  have H : Hid (sameG x zs y zs' = ((x.f == y.f) && (x.t == y.t) && (x.s == y.s) && (x.a == y.a) && (x.g == y.g) && (x.w == y.w) && (x.m == y.m) && eqL zs zs')) := rfl
  clear hr hr'
  generalize sameG x zs y zs' = v at *
  generalize eqL zs zs' = q at *
  cases m0 : (x.f == y.f)
  case' true => cases m1 : (x.t == y.t)
  all_goals cases m2 : (x.s == y.s)
  case' false.true => cases m3 : (x.a == y.a)
  case' true.false.true => cases m3 : (x.a == y.a)
  case' true.true.true => cases m3 : (x.a == y.a)
  case' false.true.true => cases m5 : (x.w == y.w)
  case' true.false.true.true => cases m5 : (x.w == y.w)
  case' true.true.true.true => cases m5 : (x.w == y.w)
  case' false.true.true.true => cases m6 : (x.m == y.m)
  case' true.false.true.true.true => cases m6 : (x.m == y.m)
  case' true.true.true.true.true => cases m6 : (x.m == y.m)
  case' true.true.true.true.true.true => cases m4 : (x.g == y.g)
  all_goals
    go_enter Try.func20, Try.ntmps20
    go_wp2_with (go_at_call 76; refine (K.out _ B0.out).mono ?_; rintro e w' ⟨rfl, rfl⟩)
    go_ret
    exact ⟨ret_b (by rw [H.out]; simp [*]), B0.out⟩
end Go.Proofs.Yteaiemckcepphaa
