/-
  IsOver of both sides, and its exact law.
-/
import Derived.Test.YtimlobhlcmghfaaXIsOver
import Derived.Test.YtimlobhlcmghfaaKOEnd
namespace Go.Proofs.Ytimlobhlcmghfaa
open Go.ChangeShapes Go.WideShapes Go.ChangeAt Go.RowKit

def ovB (s y : Int) : Bool := (s == 0 || s == 10) && y == 0
theorem ov_parts (s : Int) : (s = 0) ∨ (s = 10) ∨ ((s == 0) = false ∧ (s == 10) = false) := by
  by_cases h0 : s = 0
  · exact .inl h0
  · by_cases h1 : s = 10
    · exact .inr (.inl h1)
    · exact .inr (.inr ⟨by simpa using h0, by simpa using h1⟩)
set_option maxHeartbeats 2000000 in
theorem specIsOver (q : EndR) (w : World) :
    Calls Try.prog 82 #[.agg (EndR.cells q).toArray] w fun e w' => e = .returned (.bool (ovB q.f0 q.f13)) ∧ Below w.heap.size w w' := by
  obtain ⟨f0, f1, f2, f3, f4, f5, f6, f7, f8, f9, f10, f11, f12, f13⟩ := q
  show Calls Try.prog 82 #[.agg #[.int .i64 f0, .int .i64 f1, .int .i64 f2, .int .i64 f3, .int .i64 f4, .int .i64 f5, .slice f6.a f6.l f6.c, .bool f7, .int .i64 f8, .int .i64 f9, .slice f10.a f10.l f10.c, .int .i64 f11, .int .i64 f12, .int .i64 f13]] w fun e w' => e = .returned (.bool (ovB f0 f13)) ∧ Below w.heap.size w w'
  have B0 := fun o => Lib.hid ((Below.refl w.heap.size w).alloc (Nat.le_refl _) o)
  rcases ov_parts f0 with rfl | rfl | ⟨h0, h1⟩ <;> rcases Decidable.em (f13 = 0) with rfl | h2
  all_goals
    (try have h3 : (f13 == 0) = false := by simpa using h2)
    (try clear h2)
    go_enter Try.func82, Try.ntmps82
    go_wp2
    go_ret
    exact ⟨ret_b (by simp [ovB, *]), (B0 _).out⟩
set_option maxHeartbeats 2000000 in
theorem implIsOver (q : EndR) (w : World) :
    Calls Try.prog 84 #[.agg (EndR.cells q).toArray] w fun e w' => e = .returned (.bool (ovB q.f0 q.f13)) ∧ Below w.heap.size w w' := by
  obtain ⟨f0, f1, f2, f3, f4, f5, f6, f7, f8, f9, f10, f11, f12, f13⟩ := q
  show Calls Try.prog 84 #[.agg #[.int .i64 f0, .int .i64 f1, .int .i64 f2, .int .i64 f3, .int .i64 f4, .int .i64 f5, .slice f6.a f6.l f6.c, .bool f7, .int .i64 f8, .int .i64 f9, .slice f10.a f10.l f10.c, .int .i64 f11, .int .i64 f12, .int .i64 f13]] w fun e w' => e = .returned (.bool (ovB f0 f13)) ∧ Below w.heap.size w w'
  have B0 := fun o => Lib.hid ((Below.refl w.heap.size w).alloc (Nat.le_refl _) o)
  rcases ov_parts f0 with rfl | rfl | ⟨h0, h1⟩ <;> rcases Decidable.em (f13 = 0) with rfl | h2
  all_goals
    (try have h3 : (f13 == 0) = false := by simpa using h2)
    (try clear h2)
    go_enter Try.func84, Try.ntmps84
    go_wp2
    go_ret
    exact ⟨ret_b (by simp [ovB, *]), (B0 _).out⟩
theorem exactIsOver (p : EndR) (w : World) (h : EndR.ok w p) :
    Calls Try.prog 11 #[.agg (EndR.cells p).toArray] w fun e w' => e = .returned (.bool true) ∧ Below w.heap.size w w' :=
  exactIsOver_of p (ovB p.f0 p.f13) w h
    (fun W q _ hv => by
      have e0 : q.f0 = p.f0 := congrArg EndV.f0 hv
      have e1 : q.f13 = p.f13 := congrArg EndV.f13 hv
      rw [← e0, ← e1]
      exact specIsOver q W)
    (fun W q _ hv => by
      have e0 : q.f0 = p.f0 := congrArg EndV.f0 hv
      have e1 : q.f13 = p.f13 := congrArg EndV.f13 hv
      rw [← e0, ← e1]
      exact implIsOver q W)
end Go.Proofs.Ytimlobhlcmghfaa
