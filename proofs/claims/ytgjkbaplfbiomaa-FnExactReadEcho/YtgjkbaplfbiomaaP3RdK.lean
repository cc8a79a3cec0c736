/-
  Contracts of isPacketLength and isCut, and of ReadWord and IsSummed at numbers.
-/
import Derived.Test.YtgjkbaplfbiomaaP3Rec
import Derived.Test.YtgjkbaplfbiomaaPkRP
import Derived.Test.YtgjkbaplfbiomaaPkRE
import Derived.Test.YtgjkbaplfbiomaaExSum
import Derived.Test.YtgjkbaplfbiomaaImPkK
import Derived.Test.YtgjkbaplfbiomaaImRdF
namespace Go.Proofs.Ytgjkbaplfbiomaa
open Go.ChangeShapes Go.WideShapes Go.ChangeAt Go.RowKit

def plB (n : Int) (len : Nat) : Bool := decide (20 ≤ n) && (decide (n ≤ len) && decide (n ≤ 580))
theorem packetLength_any (n : Int) (a : Option Addr) (len cap : Nat) (w : World) :
    Calls Try.prog 94 #[.int .i64 n, .slice a len cap] w fun e w' => e = .returned (.bool (plB n len)) ∧ w = w' := by
  have H : Hid (plB n len = (decide (20 ≤ n) && (decide (n ≤ len) && decide (n ≤ 580)))) := rfl
  generalize plB n len = b at *
  cases m0 : decide (20 ≤ n)
  case' true => cases m1 : decide (n ≤ (len : Int))
  case' true.true => cases m2 : decide (n ≤ 580)
  all_goals
    go_enter Try.func94, Try.ntmps94
    go_wp2
    go_ret
    exact ⟨ret_b (by rw [H.out]; simp [*]), rfl⟩

def cutB (ct : Int) : Bool := (ct != 0) && (ct != 16384)
theorem readWord_lit (a : Option Addr) (len cap A S : Nat) (x y v : Int) (zs : List Int) (w : World) (h : Rd w a len cap zs) (hx : (A : Int) = x) (hy : (S : Int) = y) (hS1 : 1 ≤ S) (hS2 : S ≤ 6) (hA : A + S ≤ len) (hv : rdTo zs A S = v) :
    Calls Try.prog 93 #[.slice a len cap, .int .i64 x, .int .i64 y] w fun e w' => e = .returned (.agg #[.int .i64 0, .int .i64 v]) ∧ Below w.heap.size w w' := by
  subst hx hy hv
  exact implRead_ok a len cap A S zs w h hS1 hS2 hA
theorem isCut_any (a : Option Addr) (len cap : Nat) (zs : List Int) (ct : Int) (w : World) (h : Rd w a len cap zs) (hl : 8 ≤ len) (hc : rdTo zs 6 2 = ct) :
    Calls Try.prog 95 #[.slice a len cap] w fun e w' => e = .returned (.bool (cutB ct)) ∧ Below w.heap.size w w' := by
  have K := Lib.hid (readWord_lit a len cap 6 2 6 2 ct zs w h rfl rfl (by omega) (by omega) (by omega) hc)
  have H : Hid (cutB ct = ((ct != 0) && (ct != 16384))) := rfl
  have hfi := fld_ir
  clear h hc
  generalize cutB ct = b at *
  cases m0 : (ct != 0)
  case' true => cases m1 : (ct != 16384)
  all_goals
    go_enter Try.func95, Try.ntmps95
    go_wp2_with fail
    refine K.out.mono ?_
    rintro e w1 ⟨rfl, b1⟩
    have B1 := Lib.hid b1
    clear b1
    go_wp2
    go_ret
    exact ⟨ret_b (by rw [H.out]; simp [*]), B1.out⟩
theorem isSummed_is (a : Option Addr) (len cap : Nat) (zs : List Int) (b : Bool) (w : World) (h : Rd w a len cap zs) (hl : len ≤ 700) (hb : decide (sumV zs = 0) = b) :
    Calls Try.prog 96 #[.slice a len cap] w fun e w' => e = .returned (.bool b) ∧ Below w.heap.size w w' := by
  have := implIs a len cap zs w h
  rw [isS, h.length, decide_eq_true hl, Bool.true_and, hb] at this
  exact this
end Go.Proofs.Ytgjkbaplfbiomaa
