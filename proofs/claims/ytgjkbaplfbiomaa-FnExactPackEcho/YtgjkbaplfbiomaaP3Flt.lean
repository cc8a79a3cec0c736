/-
  Contracts of the program's PacketFault, EchoFault and SamePackets, and their laws.
-/
import Derived.Test.YtgjkbaplfbiomaaPkS
import Derived.Test.YtgjkbaplfbiomaaImFlt
import Derived.Test.YtgjkbaplfbiomaaImSame
import Derived.Test.YtgjkbaplfbiomaaStPacket
import Derived.Test.YtgjkbaplfbiomaaStEcho
namespace Go.Proofs.Ytgjkbaplfbiomaa
open Go.ChangeShapes Go.WideShapes Go.ChangeAt Go.RowKit

/-- a number is below its bounds, above them, or in them -/
theorem in_cases (k a b : Int) : (inB k a b = false ∧ k < a) ∨ (inB k a b = false ∧ ¬ k < a ∧ b < k) ∨ (inB k a b = true ∧ ¬ k < a ∧ ¬ b < k) := by
  by_cases h1 : k < a
  · exact .inl ⟨in_f (by omega), h1⟩
  · by_cases h2 : b < k
    · exact .inr (.inl ⟨in_f (by omega), h1, h2⟩)
    · exact .inr (.inr ⟨in_t (by omega), h1, h2⟩)

set_option maxHeartbeats 2000000 in
theorem implPacketFault (kf kt kp kl : Int) (a : Option Addr) (len cap : Nat) (w : World) :
    Calls Try.prog 26 #[.agg #[.int .i64 kf, .int .i64 kt, .int .i64 kp, .int .i64 kl, .slice a len cap]] w fun e w' => e = .returned (.int .i64 (packC kf kt kp kl len)) ∧ Below w.heap.size w w' := by
  have H : Hid (packC kf kt kp kl len = if ipB kf && ipB kt && inB kp 0 255 && inB kl 1 255 then (if len ≤ 560 then 0 else 2) else 3) := rfl
  generalize packC kf kt kp kl len = c at *
  cases m0 : ipB kf
  case' true => cases m1 : ipB kt
  case' true.true => rcases in_cases kp 0 255 with ⟨m2, q2⟩ | ⟨m2, q2, r2⟩ | ⟨m2, q2, r2⟩
  case' true.true.inr.inr => rcases in_cases kl 1 255 with ⟨m3, q3⟩ | ⟨m3, q3, r3⟩ | ⟨m3, q3, r3⟩
  case' true.true.inr.inr.inr.inr => rcases Nat.lt_or_ge 560 len with hl | hl
  case' true.true.inr.inr.inr.inr.inl => have hl' : ¬ len ≤ 560 := Nat.not_le.2 hl
  case' true.true.inr.inr.inr.inr.inr => have hl' : len ≤ 560 := hl
  all_goals
    have HC := Lib.hid (show c = _ from H.out)
    simp only [*, Bool.and_true, Bool.and_false, Bool.false_and, if_true, if_false, Bool.false_eq_true] at HC
    try clear m2
    try clear m3
    clear H
    go_enter Try.func26, Try.ntmps26
    go_wp2_with (go_at_call 80; refine (isIp_any _ _).mono ?_; rintro e w' ⟨rfl, rfl⟩)
    go_ret
    exact ⟨ret_i HC.out.symm, (Below.refl _ _).alloc (Nat.le_refl _) _⟩

theorem packetFault_law (kf kt kp kl : Int) (a : Option Addr) (len cap : Nat) (zs : List Int) (w : World) (hr : Rd w a len cap zs) :
    Calls Try.prog 4 #[.agg #[.int .i64 kf, .int .i64 kt, .int .i64 kp, .int .i64 kl, .slice a len cap]] w fun e w' => e = .returned (.bool true) ∧ Below w.heap.size w w' :=
  exactPacketFault kf kt kp kl a len cap zs w hr (packC kf kt kp kl zs.length) (fun a' l' c' W h => by rw [h.length]; exact specPacketFault kf kt kp kl a' l' c' W) (fun a' l' c' W h => by rw [h.length]; exact implPacketFault kf kt kp kl a' l' c' W)

set_option maxHeartbeats 2000000 in
theorem implEchoFault (er : Bool) (ei es : Int) (a : Option Addr) (len cap : Nat) (w : World) :
    Calls Try.prog 27 #[.agg #[.bool er, .int .i64 ei, .int .i64 es, .slice a len cap]] w fun e w' => e = .returned (.int .i64 (echoC ei es len)) ∧ Below w.heap.size w w' := by
  have H : Hid (echoC ei es len = if inB ei 0 65535 && inB es 0 65535 then (if len ≤ 552 then 0 else 2) else 3) := rfl
  generalize echoC ei es len = c at *
  rcases in_cases ei 0 65535 with ⟨m2, q2⟩ | ⟨m2, q2, r2⟩ | ⟨m2, q2, r2⟩
  case' inr.inr => rcases in_cases es 0 65535 with ⟨m3, q3⟩ | ⟨m3, q3, r3⟩ | ⟨m3, q3, r3⟩
  case' inr.inr.inr.inr => rcases Nat.lt_or_ge 552 len with hl | hl
  case' inr.inr.inr.inr.inl => have hl' : ¬ len ≤ 552 := Nat.not_le.2 hl
  case' inr.inr.inr.inr.inr => have hl' : len ≤ 552 := hl
  all_goals
    have HC := Lib.hid (show c = _ from H.out)
    simp only [*, Bool.and_true, Bool.and_false, Bool.false_and, if_true, if_false, Bool.false_eq_true] at HC
    clear m2
    try clear m3
    clear H
    go_enter Try.func27, Try.ntmps27
    go_wp2
    go_ret
    exact ⟨ret_i HC.out.symm, (Below.refl _ _).alloc (Nat.le_refl _) _⟩

theorem echoFault_law (er : Bool) (ei es : Int) (a : Option Addr) (len cap : Nat) (zs : List Int) (w : World) (hr : Rd w a len cap zs) :
    Calls Try.prog 7 #[.agg #[.bool er, .int .i64 ei, .int .i64 es, .slice a len cap]] w fun e w' => e = .returned (.bool true) ∧ Below w.heap.size w w' :=
  exactEchoFault er ei es a len cap zs w hr (echoC ei es zs.length) (fun a' l' c' W h => by rw [h.length]; exact specEchoFault er ei es a' l' c' W) (fun a' l' c' W h => by rw [h.length]; exact implEchoFault er ei es a' l' c' W)

set_option maxHeartbeats 1000000 in
theorem implSamePackets (kf kt kp kl : Int) (a : Option Addr) (len cap : Nat) (zs : List Int) (kf' kt' kp' kl' : Int) (a' : Option Addr) (len' cap' : Nat) (zs' : List Int) (w : World) (hr : Rd w a len cap zs) (hr' : Rd w a' len' cap' zs') :
    Calls Try.prog 23 #[.agg #[.int .i64 kf, .int .i64 kt, .int .i64 kp, .int .i64 kl, .slice a len cap], .agg #[.int .i64 kf', .int .i64 kt', .int .i64 kp', .int .i64 kl', .slice a' len' cap']] w fun e w' => e = .returned (.bool (sameP kf kt kp kl zs kf' kt' kp' kl' zs')) ∧ Below w.heap.size w w' := by
  have B0 := Lib.hid (((Below.refl w.heap.size w).alloc (Nat.le_refl _) (.cells #[.int .i64 kf, .int .i64 kt, .int .i64 kp, .int .i64 kl, .slice a len cap] 25)).alloc (by simp) (.cells #[.int .i64 kf', .int .i64 kt', .int .i64 kp', .int .i64 kl', .slice a' len' cap'] 25))
  have K := Lib.hid (fun W (hW : Below w.heap.size w W) => equal_any a len cap zs a' len' cap' zs' W (hr.below hW) (hr'.below hW))
  have H : Hid (sameP kf kt kp kl zs kf' kt' kp' kl' zs' = ((kf == kf') && (kt == kt') && (kp == kp') && (kl == kl') && eqL zs zs')) := rfl
  clear hr hr'
  generalize sameP kf kt kp kl zs kf' kt' kp' kl' zs' = v at *
  generalize eqL zs zs' = q at *
  cases m0 : (kf == kf')
  case' true => cases m1 : (kt == kt')
  case' true.true => cases m2 : (kp == kp')
  case' true.true.true => cases m3 : (kl == kl')
  all_goals
    go_enter Try.func23, Try.ntmps23
    go_wp2_with (go_at_call 79; refine (K.out _ B0.out).mono ?_; rintro e w' ⟨rfl, rfl⟩)
    go_ret
    exact ⟨ret_b (by rw [H.out]; simp [*]), B0.out⟩

theorem samePackets_law (kf kt kp kl : Int) (a : Option Addr) (len cap : Nat) (zs : List Int) (kf' kt' kp' kl' : Int) (a' : Option Addr) (len' cap' : Nat) (zs' : List Int) (w : World) (hr : Rd w a len cap zs) (hr' : Rd w a' len' cap' zs') :
    Calls Try.prog 10 #[.agg #[.int .i64 kf, .int .i64 kt, .int .i64 kp, .int .i64 kl, .slice a len cap], .agg #[.int .i64 kf', .int .i64 kt', .int .i64 kp', .int .i64 kl', .slice a' len' cap']] w fun e w' => e = .returned (.bool true) ∧ Below w.heap.size w w' :=
  exactSamePackets kf kt kp kl a len cap zs kf' kt' kp' kl' a' len' cap' zs' w hr hr' (sameP kf kt kp kl zs kf' kt' kp' kl' zs') (fun b l c b' l' c' W h h' => specSamePackets kf kt kp kl b l c zs kf' kt' kp' kl' b' l' c' zs' W h h') (fun b l c b' l' c' W h h' => implSamePackets kf kt kp kl b l c zs kf' kt' kp' kl' b' l' c' zs' W h h')
end Go.Proofs.Ytgjkbaplfbiomaa
