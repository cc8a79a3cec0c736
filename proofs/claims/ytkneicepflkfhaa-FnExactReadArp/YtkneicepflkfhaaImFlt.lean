/-
  Contracts of the program's FrameFault and ArpFault.
-/
import Derived.Test.YtkneicepflkfhaaFrm
namespace Go.Proofs.Ytkneicepflkfhaa
open Go.ChangeShapes Go.WideShapes Go.ChangeAt Go.RowKit

theorem isMac_any (n : Int) (w : World) : Calls Try.prog 42 #[.int .i64 n] w fun e w' => e = .returned (.bool (macB n)) ∧ w = w' := by
  by_cases h1 : 0 ≤ n
  · by_cases h2 : n ≤ 281474976710655
    · have H : Hid (macB n = true) := in_t ⟨h1, h2⟩
      go_enter Try.func42, Try.ntmps42
      go_wp2
      go_ret
      exact ⟨ret_b H.out.symm, rfl⟩
    · have H : Hid (macB n = false) := in_f (by omega)
      go_enter Try.func42, Try.ntmps42
      go_wp2
      go_ret
      exact ⟨ret_b H.out.symm, rfl⟩
  · have H : Hid (macB n = false) := in_f (by omega)
    go_enter Try.func42, Try.ntmps42
    go_wp2
    go_ret
    exact ⟨ret_b H.out.symm, rfl⟩
theorem isIp_any (n : Int) (w : World) : Calls Try.prog 55 #[.int .i64 n] w fun e w' => e = .returned (.bool (ipB n)) ∧ w = w' := by
  by_cases h1 : 0 ≤ n
  · by_cases h2 : n ≤ 4294967295
    · have H : Hid (ipB n = true) := in_t ⟨h1, h2⟩
      go_enter Try.func55, Try.ntmps55
      go_wp2
      go_ret
      exact ⟨ret_b H.out.symm, rfl⟩
    · have H : Hid (ipB n = false) := in_f (by omega)
      go_enter Try.func55, Try.ntmps55
      go_wp2
      go_ret
      exact ⟨ret_b H.out.symm, rfl⟩
  · have H : Hid (ipB n = false) := in_f (by omega)
    go_enter Try.func55, Try.ntmps55
    go_wp2
    go_ret
    exact ⟨ret_b H.out.symm, rfl⟩

set_option maxHeartbeats 1000000 in
theorem implFrameFault (to fr kd : Int) (a : Option Addr) (len cap : Nat) (w : World) :
    Calls Try.prog 13 #[.agg #[.int .i64 to, .int .i64 fr, .int .i64 kd, .slice a len cap]] w fun e w' => e = .returned (.int .i64 (frameC to fr kd len)) ∧ Below w.heap.size w w' := by
  have H : Hid (frameC to fr kd len = if macB to && macB fr && inB kd 0 65535 then (if len ≤ 600 then 0 else 2) else 3) := rfl
  generalize frameC to fr kd len = c at *
  cases m0 : macB to with
  | false =>
    rw [m0] at H
    go_enter Try.func13, Try.ntmps13
    go_wp2_with (go_at_call 42; refine (isMac_any _ _).mono ?_; rintro e w' ⟨rfl, rfl⟩)
    go_ret
    exact ⟨ret_i (by rw [H.out]; rfl), (Below.refl _ _).alloc (Nat.le_refl _) _⟩
  | true =>
    cases m1 : macB fr with
    | false =>
      rw [m0, m1] at H
      go_enter Try.func13, Try.ntmps13
      go_wp2_with (go_at_call 42; refine (isMac_any _ _).mono ?_; rintro e w' ⟨rfl, rfl⟩)
      go_ret
      exact ⟨ret_i (by rw [H.out]; rfl), (Below.refl _ _).alloc (Nat.le_refl _) _⟩
    | true =>
      rw [m0, m1] at H
      by_cases h1 : 0 ≤ kd
      · by_cases h2 : kd ≤ 65535
        · have hk : Hid (inB kd 0 65535 = true) := in_t ⟨h1, h2⟩
          rw [hk.out] at H
          clear hk
          by_cases hl : len ≤ 600
          all_goals
            go_enter Try.func13, Try.ntmps13
            go_wp2_with (go_at_call 42; refine (isMac_any _ _).mono ?_; rintro e w' ⟨rfl, rfl⟩)
            go_ret
            exact ⟨ret_i (by rw [H.out]; simp [hl]), (Below.refl _ _).alloc (Nat.le_refl _) _⟩
        · have hk : Hid (inB kd 0 65535 = false) := in_f (by omega)
          rw [hk.out] at H
          clear hk
          go_enter Try.func13, Try.ntmps13
          go_wp2_with (go_at_call 42; refine (isMac_any _ _).mono ?_; rintro e w' ⟨rfl, rfl⟩)
          go_ret
          exact ⟨ret_i (by rw [H.out]; rfl), (Below.refl _ _).alloc (Nat.le_refl _) _⟩
      · have hk : Hid (inB kd 0 65535 = false) := in_f (by omega)
        rw [hk.out] at H
        clear hk
        go_enter Try.func13, Try.ntmps13
        go_wp2_with (go_at_call 42; refine (isMac_any _ _).mono ?_; rintro e w' ⟨rfl, rfl⟩)
        go_ret
        exact ⟨ret_i (by rw [H.out]; rfl), (Below.refl _ _).alloc (Nat.le_refl _) _⟩

theorem frameFault_law (to fr kd : Int) (a : Option Addr) (len cap : Nat) (zs : List Int) (w : World) (hr : Rd w a len cap zs) :
    Calls Try.prog 3 #[.agg #[.int .i64 to, .int .i64 fr, .int .i64 kd, .slice a len cap]] w fun e w' => e = .returned (.bool true) ∧ Below w.heap.size w w' :=
  exactFrameFault to fr kd a len cap zs w hr (fun a' l' c' W hr' => by rw [hr'.length]; exact implFrameFault to fr kd a' l' c' W)

set_option maxHeartbeats 2000000 in
theorem implArpFault_op (op fm fi tm ti : Int) (w : World) (b : Bool) (ho : inB op 1 2 = b) (hq : (b = true ∧ op = 1) ∨ (b = true ∧ op = 2) ∨ (b = false ∧ (op == 1) = false ∧ (op == 2) = false)) :
    Calls Try.prog 31 #[.agg #[.int .i64 op, .int .i64 fm, .int .i64 fi, .int .i64 tm, .int .i64 ti]] w fun e w' => e = .returned (.int .i64 (arpC op fm fi tm ti)) ∧ Below w.heap.size w w' := by
  have H : Hid (arpC op fm fi tm ti = if b && macB fm && macB tm && ipB fi && ipB ti then 0 else 3) := by rw [← ho]; rfl
  generalize arpC op fm fi tm ti = c at *
  clear ho
  rcases hq with ⟨rfl, rfl⟩ | ⟨rfl, rfl⟩ | ⟨rfl, q1, q2⟩
  case' inr.inr => have H' := H.out
  case' inl => cases m1 : macB fm
  case' inl.true => cases m3 : ipB fi
  case' inl.true.true => cases m2 : macB tm
  case' inl.true.true.true => cases m4 : ipB ti
  case' inr.inl => cases m1 : macB fm
  case' inr.inl.true => cases m3 : ipB fi
  case' inr.inl.true.true => cases m2 : macB tm
  case' inr.inl.true.true.true => cases m4 : ipB ti
  all_goals
    go_enter Try.func31, Try.ntmps31
    go_wp2_with (first | (go_at_call 42; refine (isMac_any _ _).mono ?_; rintro e w' ⟨rfl, rfl⟩) | (go_at_call 55; refine (isIp_any _ _).mono ?_; rintro e w' ⟨rfl, rfl⟩))
    go_ret
    exact ⟨ret_i (by rw [H.out]; simp [*]), (Below.refl _ _).alloc (Nat.le_refl _) _⟩
theorem implArpFault (op fm fi tm ti : Int) (w : World) :
    Calls Try.prog 31 #[.agg #[.int .i64 op, .int .i64 fm, .int .i64 fi, .int .i64 tm, .int .i64 ti]] w fun e w' => e = .returned (.int .i64 (arpC op fm fi tm ti)) ∧ Below w.heap.size w w' := by
  by_cases h1 : op = 1
  · exact implArpFault_op op fm fi tm ti w true (in_t (by omega)) (.inl ⟨rfl, h1⟩)
  · by_cases h2 : op = 2
    · exact implArpFault_op op fm fi tm ti w true (in_t (by omega)) (.inr (.inl ⟨rfl, h2⟩))
    · exact implArpFault_op op fm fi tm ti w false (in_f (by omega)) (.inr (.inr ⟨rfl, by simpa using h1, by simpa using h2⟩))

theorem arpFault_law (op fm fi tm ti : Int) (w : World) :
    Calls Try.prog 6 #[.agg #[.int .i64 op, .int .i64 fm, .int .i64 fi, .int .i64 tm, .int .i64 ti]] w fun e w' => e = .returned (.bool true) ∧ Below w.heap.size w w' :=
  exactArpFault op fm fi tm ti w (fun W => implArpFault op fm fi tm ti W)
end Go.Proofs.Ytkneicepflkfhaa
