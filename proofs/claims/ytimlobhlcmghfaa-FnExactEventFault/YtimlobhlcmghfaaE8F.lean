/-
  EventFault of the model and of the program, and its exact law.
-/
import Derived.Test.YtimlobhlcmghfaaXEventFault
import Derived.Test.YtimlobhlcmghfaaKOEvent
import Derived.Test.YtimlobhlcmghfaaD4Bd
namespace Go.Proofs.Ytimlobhlcmghfaa
open Go.ChangeShapes Go.WideShapes Go.ChangeAt Go.RowKit

/-- what a kind of event needs: a side, data, and the greatest N (0: none) -/
def ndK (k : Int) : Option (Bool × Bool × Int) :=
  if k = 1 ∨ k = 4 ∨ k = 5 ∨ k = 6 then some (true, false, 0) else if k = 2 then some (true, true, 0) else if k = 3 then some (true, false, 200) else if k = 7 then some (false, false, 60000) else if k = 8 ∨ k = 9 ∨ k = 10 then some (false, false, 29) else none
def fmB (k s n : Int) (l : Nat) : Bool := match ndK k with
  | none => false
  | some (a, b, h) => (a || decide (s = 0)) && (decide (h ≠ 0) || decide (n = 0)) && (b || decide (l = 0))
def mstK (k : Int) : Int := match ndK k with
  | none => 29
  | some (_, _, h) => if h = 0 then 29 else h
/-- EventFault -/
def evC (k s n : Int) (l : Nat) : Int := if fmB k s n l = true then (if (inB s 0 1 && inB n 0 (mstK k)) = true then (if 100 < l then 2 else 0) else 3) else 1
theorem kd_cases (k : Int) : k = 1 ∨ k = 2 ∨ k = 3 ∨ k = 4 ∨ k = 5 ∨ k = 6 ∨ k = 7 ∨ k = 8 ∨ k = 9 ∨ k = 10 ∨ (ndK k = none ∧ (k == 1) = false ∧ (k == 2) = false ∧ (k == 3) = false ∧ (k == 4) = false ∧ (k == 5) = false ∧ (k == 6) = false ∧ (k == 7) = false ∧ (k == 8) = false ∧ (k == 9) = false ∧ (k == 10) = false) := by
  by_cases h : k = 1 ∨ k = 2 ∨ k = 3 ∨ k = 4 ∨ k = 5 ∨ k = 6 ∨ k = 7 ∨ k = 8 ∨ k = 9 ∨ k = 10
  · rcases h with h | h | h | h | h | h | h | h | h | h <;> simp [h]
  · simp only [not_or] at h
    obtain ⟨h1, h2, h3, h4, h5, h6, h7, h8, h9, h10⟩ := h
    simp [ndK, h1, h2, h3, h4, h5, h6, h7, h8, h9, h10]

set_option maxHeartbeats 4000000 in
theorem l8Needs_any (g : Nat) (k s n : Int) (a : Option Addr) (l c : Nat) (b1 b2 b3 : Bool) (w : World) (h : Box w g 85 #[.int .i64 k, .int .i64 s, .int .i64 n, .slice a l c]) :
    Calls Try.prog 179 #[.pointer (some ⟨g, 0, none⟩), .bool b1, .bool b2, .bool b3] w fun e w' => e = .returned (.bool ((b1 || decide (s = 0)) && (b2 || decide (n = 0)) && (b3 || decide (l = 0)))) ∧ w = w' := by
  have c1 : w.cell? ⟨g, 1, none⟩ = some (.int .i64 s) := h.cell 1
  have c2 : w.cell? ⟨g, 2, none⟩ = some (.int .i64 n) := h.cell 2
  have c3 : w.cell? ⟨g, 3, none⟩ = some (.slice a l c) := h.cell 3
  clear h
  obtain ⟨x, hx⟩ : ∃ x, x = decide (s = 0) := ⟨_, rfl⟩
  obtain ⟨y, hy⟩ : ∃ y, y = decide (n = 0) := ⟨_, rfl⟩
  obtain ⟨z, hz⟩ : ∃ z, z = decide (l = 0) := ⟨_, rfl⟩
  have ex : (s == 0) = x := by rw [hx]; by_cases h : s = 0 <;> simp [h]
  have ey : (n == 0) = y := by rw [hy]; by_cases h : n = 0 <;> simp [h]
  have ez : ((l : Int) == 0) = z := by rw [hz]; by_cases h : l = 0 <;> simp [h]
  rw [← hx, ← hy, ← hz]
  clear hx hy hz
  cases b1 <;> cases b2 <;> cases b3 <;> cases x <;> cases y <;> cases z <;>
    (go_enter Try.func179, Try.ntmps179
     go_wp2
     go_ret
     exact ⟨rfl, rfl⟩)

set_option maxHeartbeats 4000000 in
theorem l8Form_any (g : Nat) (k s n : Int) (a : Option Addr) (l c : Nat) (w : World) (h : Box w g 85 #[.int .i64 k, .int .i64 s, .int .i64 n, .slice a l c]) :
    Calls Try.prog 142 #[.pointer (some ⟨g, 0, none⟩)] w fun e w' => e = .returned (.bool (fmB k s n l)) ∧ w = w' := by
  have c0 : w.cell? ⟨g, 0, none⟩ = some (.int .i64 k) := h.cell 0
  have KN := Lib.hid (fun b1 b2 b3 => l8Needs_any g k s n a l c b1 b2 b3 w h)
  clear h
  rcases kd_cases k with rfl | rfl | rfl | rfl | rfl | rfl | rfl | rfl | rfl | rfl | ⟨hk, h1, h2, h3, h4, h5, h6, h7, h8, h9, h10⟩
  all_goals try
    (go_enter Try.func142, Try.ntmps142
     go_wp2_with fail
     refine (KN.out _ _ _).mono ?_
     rintro e w1 ⟨rfl, rfl⟩
     clear KN
     go_wp2
     go_ret
     exact ⟨ret_b (by simp [fmB, ndK]), rfl⟩)
  have HV : Hid (fmB k s n l = false) := by unfold fmB; rw [hk]; rfl
  clear hk KN
  go_enter Try.func142, Try.ntmps142
  go_wp2
  go_ret
  exact ⟨ret_b HV.out.symm, rfl⟩

set_option maxHeartbeats 4000000 in
theorem specEventFault (q : EventR) (w : World) (h : EventR.ok w q) :
    Calls Try.prog 64 #[.agg (EventR.cells q).toArray] w fun e w' => e = .returned (.int .i64 (evC q.f0 q.f1 q.f2 q.f3.z.length)) ∧ Below w.heap.size w w' := by
  obtain ⟨k, s, n, a, l, c, zs⟩ := q
  have hl : zs.length = l := h.length
  have hlm : l ≤ maxLen := Nat.le_trans h.le h.max
  unfold maxLen at hlm
  show Calls Try.prog 64 #[.agg #[.int .i64 k, .int .i64 s, .int .i64 n, .slice a l c]] w fun e w' => e = .returned (.int .i64 (evC k s n zs.length)) ∧ Below w.heap.size w w'
  rw [hl]
  have X0 := Lib.hid (Box.new w 85 #[.int .i64 k, .int .i64 s, .int .i64 n, .slice a l c])
  have B0 := Lib.hid ((Below.refl w.heap.size w).alloc (Nat.le_refl _) (.cells #[.int .i64 k, .int .i64 s, .int .i64 n, .slice a l c] 85))
  have KF := Lib.hid (l8Form_any _ k s n a l c _ X0.out)
  have K1 := Lib.hid (fun x y z W => l1In_any x y z W)
  clear h hl
  cases hf : fmB k s n l
  · have HV : Hid (evC k s n l = 1) := by unfold evC; rw [hf]; rfl
    rw [hf] at KF
    clear hf
    go_enter Try.func64, Try.ntmps64
    go_wp2_with fail
    refine KF.out.mono ?_
    rintro e w1 ⟨rfl, rfl⟩
    clear KF
    go_wp2
    go_ret
    exact ⟨ret_i HV.out.symm, B0.out⟩
  · obtain ⟨m, hm⟩ : ∃ m, m = mstK k := ⟨_, rfl⟩
    have HV : Hid (evC k s n l = if (inB s 0 1 && inB n 0 m) = true then (if 100 < l then 2 else 0) else 3) := by unfold evC; rw [hf, hm]; rfl
    rw [hf] at KF
    have hmk : (k = 3 ∧ m = 200) ∨ (k = 7 ∧ m = 60000) ∨ ((k == 3) = false ∧ (k == 7) = false ∧ m = 29) := by
      rcases kd_cases k with rfl | rfl | rfl | rfl | rfl | rfl | rfl | rfl | rfl | rfl | ⟨hk, h1, h2, h3, h4, h5, h6, h7, h8, h9, h10⟩
      all_goals first
        | (subst hm; simp [mstK, ndK]; done)
        | (refine .inr (.inr ⟨h3, h7, ?_⟩); rw [hm]; unfold mstK; rw [hk])
    clear hf hm
    generalize evC k s n l = E at *
    cases m1 : inB s 0 1
    case' true => cases m2 : inB n 0 m
    case' true.true => by_cases h100 : 100 < l
    all_goals
      rcases hmk with ⟨rfl, rfl⟩ | ⟨rfl, rfl⟩ | ⟨h3, h7, rfl⟩
      all_goals
        go_enter Try.func64, Try.ntmps64
        go_wp2_with fail
        refine KF.out.mono ?_
        rintro e w1 ⟨rfl, rfl⟩
        go_wp2_with (first | (go_at_call 102; refine (l1In_any _ _ _ _).mono ?_; rintro e w' ⟨rfl, rfl⟩))
        go_ret
        exact ⟨ret_i (by rw [HV.out]; simp [*]), B0.out⟩
end Go.Proofs.Ytimlobhlcmghfaa
