/-
  EventFault of the program, and its exact law.
-/
import Derived.Test.YtimlobhlcmghfaaE8F
namespace Go.Proofs.Ytimlobhlcmghfaa
open Go.ChangeShapes Go.WideShapes Go.ChangeAt Go.RowKit

def ndA (k : Int) : Bool := match ndK k with | some (a, _, _) => a | none => false
def ndB (k : Int) : Bool := match ndK k with | some (_, b, _) => b | none => false
def ndH (k : Int) : Int := match ndK k with | some (_, _, h) => h | none => 0
def ndF (k : Int) : Bool := match ndK k with | some _ => true | none => false
/-- something that is not needed is there -/
def moB (a b : Bool) (h s n : Int) (l : Nat) : Bool := (!a && decide (s ≠ 0)) || (!b && decide (0 < l)) || (decide (h = 0) && decide (n ≠ 0))
theorem evC_nd (k s n : Int) (l : Nat) : evC k s n l = if (!ndF k || moB (ndA k) (ndB k) (ndH k) s n l) = true then 1 else if (inB s 0 1 && inB n 0 (ndH k)) = true then (if 100 < l then 2 else 0) else 3 := by
  have hm : fmB k s n l = !(!ndF k || moB (ndA k) (ndB k) (ndH k) s n l) := by
    unfold fmB ndF ndA ndB ndH moB
    cases hk : ndK k with
    | none => simp
    | some v =>
      obtain ⟨a, b, h⟩ := v
      simp only [ne_eq, decide_not, Bool.not_true, Bool.false_or, Bool.not_or, Bool.not_and, Bool.not_not]
      by_cases hs : s = 0 <;> by_cases hn : n = 0 <;> by_cases hh : h = 0 <;> rcases Nat.eq_zero_or_pos l with hl | hl <;> simp [hs, hn, hh, hl] <;> (try (have : l ≠ 0 := by omega)) <;> simp [*] <;> cases a <;> cases b <;> simp
  unfold evC
  rw [hm]
  cases hx : (!ndF k || moB (ndA k) (ndB k) (ndH k) s n l)
  · simp only [Bool.not_false, if_true, Bool.false_eq_true, if_false]
    have hf : ndF k = true := by
      cases h : ndF k with
      | true => rfl
      | false => rw [h] at hx; cases hx
    have hH : ndH k = 0 → inB n 0 (mstK k) = inB n 0 (ndH k) := by
      intro h0
      have hmo : moB (ndA k) (ndB k) (ndH k) s n l = false := by rw [hf] at hx; simpa using hx
      have hn : n = 0 := by
        unfold moB at hmo
        rw [h0] at hmo
        simp at hmo
        exact hmo.2
      subst hn
      have hm0 : 0 ≤ mstK k := by
        rcases kd_cases k with rfl | rfl | rfl | rfl | rfl | rfl | rfl | rfl | rfl | rfl | ⟨hk, _⟩
        all_goals first
          | (simp [mstK, ndK]; done)
          | (unfold mstK; rw [hk]; simp)
      rw [h0, in_t ⟨Int.le_refl _, hm0⟩, in_t ⟨Int.le_refl _, Int.le_refl _⟩]
    by_cases h0 : ndH k = 0
    · rw [hH h0]
    · have : mstK k = ndH k := by
        unfold mstK ndH at *
        cases hk : ndK k with
        | none => rw [hk] at h0; exact absurd rfl h0
        | some v =>
          obtain ⟨a, b, h⟩ := v
          rw [hk] at h0
          exact if_neg h0
      rw [this]
  · simp

set_option maxHeartbeats 4000000 in
theorem needOf_any (k : Int) (w : World) : Calls Try.prog 143 #[.int .i64 k] w fun e w' => e = .returned (.tuple #[.agg #[.bool (ndA k), .bool (ndB k), .int .i64 (ndH k)], .bool (ndF k)]) ∧ Below w.heap.size w w' := by
  rcases kd_cases k with rfl | rfl | rfl | rfl | rfl | rfl | rfl | rfl | rfl | rfl | ⟨hk, h1, h2, h3, h4, h5, h6, h7, h8, h9, h10⟩
  all_goals try
    (go_enter Try.func143, Try.ntmps143
     go_wp2
     exact bodyPost_ret (v := .tuple #[.agg #[_, _, _], _]) (by simp [results, Try.results143, go_sem]; exact ⟨⟨rfl, rfl, rfl⟩, rfl⟩) rfl ⟨rfl, (Below.refl _ _).alloc (Nat.le_refl _) _⟩)
  have e1 : ndA k = false := by unfold ndA; rw [hk]
  have e2 : ndB k = false := by unfold ndB; rw [hk]
  have e3 : ndH k = 0 := by unfold ndH; rw [hk]
  have e4 : ndF k = false := by unfold ndF; rw [hk]
  rw [e1, e2, e3, e4]
  clear hk e1 e2 e3 e4
  go_enter Try.func143, Try.ntmps143
  go_wp2
  exact bodyPost_ret (v := .tuple #[.agg #[.bool false, .bool false, .int .i64 0], .bool false]) (by simp [results, Try.results143, go_sem]) rfl ⟨rfl, (Below.refl _ _).alloc (Nat.le_refl _) _⟩

set_option maxHeartbeats 4000000 in
theorem hasMore_any (A B : Bool) (h k s n : Int) (a : Option Addr) (l c : Nat) (w : World) :
    Calls Try.prog 144 #[.agg #[.bool A, .bool B, .int .i64 h], .agg #[.int .i64 k, .int .i64 s, .int .i64 n, .slice a l c]] w fun e w' => e = .returned (.bool (moB A B h s n l)) ∧ Below w.heap.size w w' := by
  obtain ⟨x, hx⟩ : ∃ x, x = decide (s ≠ 0) := ⟨_, rfl⟩
  obtain ⟨y, hy⟩ : ∃ y, y = decide (n ≠ 0) := ⟨_, rfl⟩
  obtain ⟨v, hv⟩ : ∃ v, v = decide (h = 0) := ⟨_, rfl⟩
  have HV : Hid (moB A B h s n l = ((!A && x) || (!B && decide (0 < l)) || (v && y))) := by rw [hx, hy, hv]; rfl
  have ex : (s != 0) = x := by rw [hx]; by_cases h : s = 0 <;> simp [h]
  have ey : (n != 0) = y := by rw [hy]; by_cases h : n = 0 <;> simp [h]
  have ev : (h == 0) = v := by rw [hv]; by_cases h : h = 0 <;> simp [h]
  rw [HV.out]
  clear hx hy hv HV
  rcases Nat.eq_zero_or_pos l with rfl | hp
  · have B0 := Lib.hid (((Below.refl w.heap.size w).alloc (Nat.le_refl _) (.cells #[.bool A, .bool B, .int .i64 h] 179)).alloc (by simp) (.cells #[.int .i64 k, .int .i64 s, .int .i64 n, .slice a 0 c] 85))
    cases A <;> cases B <;> cases x <;> cases y <;> cases v <;>
      (go_enter Try.func144, Try.ntmps144
       go_wp2
       go_ret
       exact ⟨rfl, B0.out⟩)
  · have B0 := Lib.hid (((Below.refl w.heap.size w).alloc (Nat.le_refl _) (.cells #[.bool A, .bool B, .int .i64 h] 179)).alloc (by simp) (.cells #[.int .i64 k, .int .i64 s, .int .i64 n, .slice a l c] 85))
    have ez : (0 : Int) < (l : Int) := by omega
    rw [show decide (0 < l) = true from decide_eq_true hp]
    clear hp
    cases A <;> cases B <;> cases x <;> cases y <;> cases v <;>
      (go_enter Try.func144, Try.ntmps144
       go_wp2
       go_ret
       exact ⟨rfl, B0.out⟩)
theorem sideBound_any (n : Int) (w : World) : Calls Try.prog 145 #[.int .i64 n] w fun e w' => e = .returned (.agg #[.int .i64 n, .int .i64 0, .int .i64 1]) ∧ Below w.heap.size w w' := by
  go_enter Try.func145, Try.ntmps145
  go_wp2
  exact bodyPost_ret (v := .agg #[.int .i64 n, .int .i64 0, .int .i64 1]) (by simp [results, Try.results145, go_sem]) rfl ⟨rfl, (Below.refl _ _).alloc (Nat.le_refl _) _⟩
end Go.Proofs.Ytimlobhlcmghfaa
