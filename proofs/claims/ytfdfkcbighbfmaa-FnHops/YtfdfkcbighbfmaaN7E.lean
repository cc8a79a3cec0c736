/-
  The exact laws of RouteFault and NextHop.
-/
import Derived.Test.YtfdfkcbighbfmaaN7S
namespace Go.Proofs.Ytfdfkcbighbfmaa
open Go.ChangeShapes Go.WideShapes Go.ChangeAt Go.RowKit

set_option maxHeartbeats 1000000 in
theorem toRoute_any (r bits gw : Int) (w : World) :
    Calls Try.prog 66 #[.agg #[.int .i64 r, .int .i64 bits, .int .i64 gw]] w fun e w' => e = .returned (.agg #[.int .i64 r, .int .i64 bits, .int .i64 gw]) ∧ Below w.heap.size w w' := by
  go_enter Try.func66, Try.ntmps66
  go_wp2
  refine bodyPost_ret (v := .agg #[.int .i64 r, .int .i64 bits, .int .i64 gw]) (by simp [results, Try.results66, go_sem]) rfl ⟨rfl, ?_⟩
  have B0 := (((Below.refl w.heap.size w).alloc (Nat.le_refl _) (.cells #[.int .i64 r, .int .i64 bits, .int .i64 gw] 84)).alloc (by simp) (.cells #[.int .i64 r, .int .i64 bits, .int .i64 gw] 59)).alloc (by simp; omega) (.cells #[.int .i64 r, .int .i64 bits, .int .i64 gw] 59)
  exact B0

set_option maxHeartbeats 1000000 in
theorem routeFault_law (r bits gw : Int) (w : World) :
    Calls Try.prog 11 #[.agg #[.int .i64 r, .int .i64 bits, .int .i64 gw]] w fun e w' => e = .returned (.bool true) ∧ Below w.heap.size w w' := by
  have B0 := Lib.hid ((Below.refl w.heap.size w).alloc (Nat.le_refl _) (.cells #[.int .i64 r, .int .i64 bits, .int .i64 gw] 84))
  have X0 := Lib.hid (Box.new w 84 #[.int .i64 r, .int .i64 bits, .int .i64 gw])
  have T := Lib.hid (fun W => toRoute_any r bits gw W)
  have K1 := Lib.hid (fun W => specRouteFault r bits gw W)
  have K2 := Lib.hid (fun W => implRouteFault r bits gw W)
  generalize rtC r bits gw = c at *
  have hne : (c != c) = false := by simp
  go_enter Try.func11, Try.ntmps11
  go_wp2_with fail
  refine (T.out _).mono ?_
  rintro e w1 ⟨rfl, b1⟩
  have X1 := Lib.hid (X0.out.below b1 X0.out.lt)
  have B1 := Lib.hid (B0.out.trans (b1.mono B0.out.size))
  clear b1 B0 X0
  go_wp2_with fail
  refine (K1.out _).mono ?_
  rintro e w2 ⟨rfl, b2⟩
  have X2 := X1.out.below b2 X1.out.lt
  obtain ⟨_, x0, x1, x2⟩ := X2.r3
  have B2 := Lib.hid (B1.out.trans (b2.mono B1.out.size))
  clear b2 B1 X1 X2
  go_wp2_with fail
  refine (T.out _).mono ?_
  rintro e w3 ⟨rfl, b3⟩
  have B3 := Lib.hid (B2.out.trans (b3.mono B2.out.size))
  clear b3 B2 x0 x1 x2
  go_wp2_with fail
  refine (K2.out _).mono ?_
  rintro e w4 ⟨rfl, b4⟩
  have B4 := Lib.hid (B3.out.trans (b4.mono B3.out.size))
  clear b4 B3
  go_wp2
  go_ret
  exact ⟨rfl, B4.out⟩

set_option maxHeartbeats 1000000 in
theorem nextHop_law (r bits gw ip : Int) (w : World) :
    Calls Try.prog 12 #[.agg #[.int .i64 r, .int .i64 bits, .int .i64 gw], .int .i64 ip] w fun e w' => e = .returned (.bool true) ∧ Below w.heap.size w w' := by
  have B0 := Lib.hid ((Below.refl w.heap.size w).alloc (Nat.le_refl _) (.cells #[.int .i64 r, .int .i64 bits, .int .i64 gw] 84))
  have X0 := Lib.hid (Box.new w 84 #[.int .i64 r, .int .i64 bits, .int .i64 gw])
  have T := Lib.hid (fun W => toRoute_any r bits gw W)
  have K1 := Lib.hid (fun W => specNextHop r bits gw ip W)
  have K2 := Lib.hid (fun W => implNextHop r bits gw ip W)
  generalize hopC r bits gw ip = c at *
  generalize hopV r bits gw ip = v at *
  have KE := Lib.hid (fun W => eqInt_t c v W)
  go_enter Try.func12, Try.ntmps12
  go_wp2_with fail
  refine (T.out _).mono ?_
  rintro e w1 ⟨rfl, b1⟩
  have X1 := Lib.hid (X0.out.below b1 X0.out.lt)
  have B1 := Lib.hid (B0.out.trans (b1.mono B0.out.size))
  clear b1 B0 X0
  go_wp2_with fail
  refine (K1.out _).mono ?_
  rintro e w2 ⟨rfl, b2⟩
  have X2 := X1.out.below b2 X1.out.lt
  have hl2 := X2.lt
  obtain ⟨_, x0, x1, x2⟩ := X2.r3
  have B2 := Lib.hid ((B1.out.trans (b2.mono B1.out.size)).alloc (B1.out.trans (b2.mono B1.out.size)).size (.cells #[.int .i64 c, .int .i64 v] 37))
  have Y2 := Lib.hid (Box.new w2 37 #[.int .i64 c, .int .i64 v])
  clear b2 B1 X1 X2
  go_wp2_with fail
  refine (T.out _).mono ?_
  rintro e w3 ⟨rfl, b3⟩
  have Y3 := Lib.hid (Y2.out.below b3 Y2.out.lt)
  have B3 := Lib.hid (B2.out.trans (b3.mono B2.out.size))
  clear b3 B2 x0 x1 x2 Y2
  go_wp2_with fail
  refine (K2.out _).mono ?_
  rintro e w4 ⟨rfl, b4⟩
  have Y4 := Y3.out.below b4 Y3.out.lt
  obtain ⟨_, y0, y1⟩ := Y4.two
  have B4 := Lib.hid ((B3.out.trans (b4.mono B3.out.size)).alloc (B3.out.trans (b4.mono B3.out.size)).size (.cells #[.int .i64 c, .int .i64 v] 37))
  clear b4 B3 Y3 Y4
  go_wp2_with fail
  refine (KE.out _).mono ?_
  rintro e w5 ⟨rfl, b5⟩
  have B5 := Lib.hid (B4.out.trans (b5.mono B4.out.size))
  clear b5 B4
  go_wp2
  go_ret
  exact ⟨rfl, B5.out⟩
end Go.Proofs.Ytfdfkcbighbfmaa
