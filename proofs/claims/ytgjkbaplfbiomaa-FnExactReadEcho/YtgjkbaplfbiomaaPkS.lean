/-
  The model's PacketFault, EchoFault and SamePackets.
-/
import Derived.Test.YtgjkbaplfbiomaaFrm
import Derived.Test.YtgjkbaplfbiomaaStr
namespace Go.Proofs.Ytgjkbaplfbiomaa
open Go.ChangeShapes Go.WideShapes Go.ChangeAt Go.RowKit

def packB (kf kt kp kl : Int) : Bool := ipB kf && ipB kt && inB kp 0 255 && inB kl 1 255
def packC (kf kt kp kl : Int) (n : Nat) : Int := if packB kf kt kp kl then (if n ≤ 560 then 0 else 2) else 3

set_option maxHeartbeats 2000000 in
theorem specPacketFault (kf kt kp kl : Int) (a : Option Addr) (len cap : Nat) (w : World) :
    Calls Try.prog 32 #[.agg #[.int .i64 kf, .int .i64 kt, .int .i64 kp, .int .i64 kl, .slice a len cap]] w fun e w' => e = .returned (.int .i64 (packC kf kt kp kl len)) ∧ Below w.heap.size w w' := by
  have H : Hid (packC kf kt kp kl len = if ipB kf && ipB kt && inB kp 0 255 && inB kl 1 255 then (if len ≤ 560 then 0 else 2) else 3) := rfl
  generalize packC kf kt kp kl len = c at *
  cases m0 : ipB kf
  case' true => cases m1 : ipB kt
  case' true.true => cases m2 : inB kp 0 255
  case' true.true.true => cases m3 : inB kl 1 255
  case' true.true.true.true => rcases Nat.lt_or_ge 560 len with hl | hl
  case' true.true.true.true.inl => have hl' : ¬ len ≤ 560 := Nat.not_le.2 hl
  case' true.true.true.true.inr => have hl' : len ≤ 560 := hl
  all_goals
    go_enter Try.func32, Try.ntmps32
    go_wp2_with (first | (go_at_call 83; refine (l1In_any _ _ _ _).mono ?_; rintro e w' ⟨rfl, rfl⟩) | (go_at_call 82; refine (l2Ip_any _ _).mono ?_; rintro e w' ⟨rfl, rfl⟩))
    go_ret
    exact ⟨ret_i (by rw [H.out]; simp [*]), (Below.refl _ _).alloc (Nat.le_refl _) _⟩

def echoB (ei es : Int) : Bool := inB ei 0 65535 && inB es 0 65535
def echoC (ei es : Int) (n : Nat) : Int := if echoB ei es then (if n ≤ 552 then 0 else 2) else 3

set_option maxHeartbeats 2000000 in
theorem specEchoFault (er : Bool) (ei es : Int) (a : Option Addr) (len cap : Nat) (w : World) :
    Calls Try.prog 46 #[.agg #[.bool er, .int .i64 ei, .int .i64 es, .slice a len cap]] w fun e w' => e = .returned (.int .i64 (echoC ei es len)) ∧ Below w.heap.size w w' := by
  have H : Hid (echoC ei es len = if inB ei 0 65535 && inB es 0 65535 then (if len ≤ 552 then 0 else 2) else 3) := rfl
  generalize echoC ei es len = c at *
  cases m0 : inB ei 0 65535
  case' true => cases m1 : inB es 0 65535
  case' true.true => rcases Nat.lt_or_ge 552 len with hl | hl
  case' true.true.inl => have hl' : ¬ len ≤ 552 := Nat.not_le.2 hl
  case' true.true.inr => have hl' : len ≤ 552 := hl
  all_goals
    go_enter Try.func46, Try.ntmps46
    go_wp2_with (go_at_call 83; refine (l1In_any _ _ _ _).mono ?_; rintro e w' ⟨rfl, rfl⟩)
    go_ret
    exact ⟨ret_i (by rw [H.out]; simp [*]), (Below.refl _ _).alloc (Nat.le_refl _) _⟩

def sameP (kf kt kp kl : Int) (zs : List Int) (kf' kt' kp' kl' : Int) (zs' : List Int) : Bool := decide (kf = kf') && decide (kt = kt') && decide (kp = kp') && decide (kl = kl') && eqL zs zs'

set_option maxHeartbeats 1000000 in
theorem specSamePackets (kf kt kp kl : Int) (a : Option Addr) (len cap : Nat) (zs : List Int) (kf' kt' kp' kl' : Int) (a' : Option Addr) (len' cap' : Nat) (zs' : List Int) (w : World) (hr : Rd w a len cap zs) (hr' : Rd w a' len' cap' zs') :
    Calls Try.prog 28 #[.agg #[.int .i64 kf, .int .i64 kt, .int .i64 kp, .int .i64 kl, .slice a len cap], .agg #[.int .i64 kf', .int .i64 kt', .int .i64 kp', .int .i64 kl', .slice a' len' cap']] w fun e w' => e = .returned (.bool (sameP kf kt kp kl zs kf' kt' kp' kl' zs')) ∧ Below w.heap.size w w' := by
  have B0 := Lib.hid (((Below.refl w.heap.size w).alloc (Nat.le_refl _) (.cells #[.int .i64 kf, .int .i64 kt, .int .i64 kp, .int .i64 kl, .slice a len cap] 25)).alloc (by simp) (.cells #[.int .i64 kf', .int .i64 kt', .int .i64 kp', .int .i64 kl', .slice a' len' cap'] 25))
  have c1 := conv_rd (hr.below B0.out)
  have c2 := conv_rd (hr'.below B0.out)
  have H : Hid (sameP kf kt kp kl zs kf' kt' kp' kl' zs' = ((kf == kf') && (kt == kt') && (kp == kp') && (kl == kl') && eqL zs zs')) := rfl
  have hs : ((strOfNums zs).toList == (strOfNums zs').toList) = eqL zs zs' := by
    unfold eqL
    by_cases h3 : zs = zs'
    · subst h3; simp
    · rw [str_ne hr.b8 hr'.b8 h3]; simp [h3]
  clear hr hr'
  generalize sameP kf kt kp kl zs kf' kt' kp' kl' zs' = v at *
  generalize strOfNums zs = s at *
  generalize strOfNums zs' = s' at *
  generalize eqL zs zs' = q at *
  cases m0 : (kf == kf')
  case' true => cases m1 : (kt == kt')
  case' true.true => cases m2 : (kp == kp')
  case' true.true.true => cases m3 : (kl == kl')
  all_goals
    go_enter Try.func28, Try.ntmps28
    go_wp2
    go_ret
    exact ⟨ret_b (by rw [H.out]; simp [*]), B0.out⟩
end Go.Proofs.Ytgjkbaplfbiomaa
