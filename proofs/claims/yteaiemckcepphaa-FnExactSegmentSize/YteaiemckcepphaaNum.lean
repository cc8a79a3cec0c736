/-
  Contracts of the functions of sequence numbers: SeqAdd, SeqDist, InWindow of the program and of the model answer by one and the same function of numbers.
-/
import Derived.Test.YteaiemckcepphaaRows
import Derived.WalkKit
import Derived.ProofKit
import Derived.Below
import Derived.Lib.Hide
namespace Go.Proofs.Yteaiemckcepphaa
open Go.ChangeShapes Go.WideShapes Go.ChangeAt Go.RowKit

/-- a sequence number -/
def sqB (s : Int) : Bool := decide (0 ≤ s ∧ s < 4294967296)
def inB (v a b : Int) : Bool := decide (a ≤ v ∧ v ≤ b)
def ir (c v : Int) : Value := .agg #[.int .i64 c, .int .i64 v]
def addC (s n : Int) : Int := if sqB s && inB n (-4294967296) 4294967296 then 0 else 3
def addV (s n : Int) : Int := if sqB s && inB n (-4294967296) 4294967296 then (s + n) % 4294967296 else 0

theorem sq_t {s : Int} (h : 0 ≤ s ∧ s < 4294967296) : sqB s = true := by simp only [sqB, h, and_self, decide_true]
theorem sq_f {s : Int} (h : ¬ (0 ≤ s ∧ s < 4294967296)) : sqB s = false := by simp only [sqB, h, decide_false]
theorem in_t {v a b : Int} (h : a ≤ v ∧ v ≤ b) : inB v a b = true := by simp only [inB, h, and_self, decide_true]
theorem in_f {v a b : Int} (h : ¬ (a ≤ v ∧ v ≤ b)) : inB v a b = false := by simp only [inB, h, decide_false]
theorem ret_b {a b : Bool} (h : a = b) : Ending.returned (.bool a) = .returned (.bool b) := by rw [h]
theorem ret_i {a b : Int} (h : a = b) : Ending.returned (.int .i64 a) = .returned (.int .i64 b) := by rw [h]
theorem ret_ir {a b c d : Int} (h : a = c) (k : b = d) : Ending.returned (.agg #[.int .i64 a, .int .i64 b]) = .returned (ir c d) := by rw [h, k]; rfl

theorem isSeq_any (s : Int) (w : World) : Calls Try.prog 88 #[.int .i64 s] w fun e w' => e = .returned (.bool (sqB s)) ∧ w = w' := by
  by_cases h1 : 0 ≤ s
  · by_cases h2 : s < 4294967296
    · have H := Lib.hid (sq_t ⟨h1, h2⟩)
      go_enter Try.func88, Try.ntmps88
      go_wp2
      go_ret
      exact ⟨ret_b H.out.symm, rfl⟩
    · have H := Lib.hid (sq_f (s := s) (by omega))
      go_enter Try.func88, Try.ntmps88
      go_wp2
      go_ret
      exact ⟨ret_b H.out.symm, rfl⟩
  · have H := Lib.hid (sq_f (s := s) (by omega))
    go_enter Try.func88, Try.ntmps88
    go_wp2
    go_ret
    exact ⟨ret_b H.out.symm, rfl⟩

theorem l1In_any (v a b : Int) (w : World) : Calls Try.prog 87 #[.int .i64 v, .int .i64 a, .int .i64 b] w fun e w' => e = .returned (.bool (inB v a b)) ∧ w = w' := by
  by_cases h1 : a ≤ v
  · by_cases h2 : v ≤ b
    · have H := Lib.hid (in_t ⟨h1, h2⟩)
      go_enter Try.func87, Try.ntmps87
      go_wp2
      go_ret
      exact ⟨ret_b H.out.symm, rfl⟩
    · have H := Lib.hid (in_f (v := v) (a := a) (b := b) (by omega))
      go_enter Try.func87, Try.ntmps87
      go_wp2
      go_ret
      exact ⟨ret_b H.out.symm, rfl⟩
  · have H := Lib.hid (in_f (v := v) (a := a) (b := b) (by omega))
    go_enter Try.func87, Try.ntmps87
    go_wp2
    go_ret
    exact ⟨ret_b H.out.symm, rfl⟩

theorem sq_in (s : Int) : inB s 0 4294967295 = sqB s := by
  unfold inB sqB; exact decide_eq_decide.2 (by omega)

theorem l1Seq_any (s : Int) (w : World) : Calls Try.prog 108 #[.int .i64 s] w fun e w' => e = .returned (.bool (sqB s)) ∧ w = w' := by
  have H := Lib.hid (sq_in s)
  go_enter Try.func108, Try.ntmps108
  go_wp2_with (go_at_call 87; refine (l1In_any _ _ _ _).mono ?_; rintro e w' ⟨rfl, rfl⟩)
  go_ret
  exact ⟨ret_b H.out, rfl⟩

theorem implAdd (s n : Int) (w : World) : Calls Try.prog 34 #[.int .i64 s, .int .i64 n] w fun e w' => e = .returned (ir (addC s n) (addV s n)) ∧ Below w.heap.size w w' := by
  by_cases h1 : 0 ≤ s ∧ s < 4294967296
  · have ha := sq_t h1
    obtain ⟨a1, a2⟩ := h1
    by_cases h2 : -4294967296 ≤ n ∧ n ≤ 4294967296
    · have H1 := Lib.hid (show addC s n = 0 by simp only [addC, ha, in_t h2, Bool.and_self, if_true])
      have H2 := Lib.hid (show addV s n = (s + n) % 4294967296 by simp only [addV, ha, in_t h2, Bool.and_self, if_true])
      obtain ⟨b1, b2⟩ := h2
      go_enter Try.func34, Try.ntmps34
      go_wp2_with (go_at_call 88; refine (isSeq_any _ _).mono ?_; rintro e w' ⟨rfl, rfl⟩)
      exact bodyPost_ret (v := .agg #[.int .i64 0, .int .i64 ((s + n) % 4294967296)]) (by simp [results, Try.results34, go_sem]) rfl ⟨ret_ir H1.out.symm H2.out.symm, ((Below.refl _ _).alloc (Nat.le_refl _) _)⟩
    · have H1 := Lib.hid (show addC s n = 3 by simp only [addC, ha, in_f h2, Bool.and_false, Bool.false_eq_true, if_false])
      have H2 := Lib.hid (show addV s n = 0 by simp only [addV, ha, in_f h2, Bool.and_false, Bool.false_eq_true, if_false])
      go_enter Try.func34, Try.ntmps34
      go_wp2_with (go_at_call 88; refine (isSeq_any _ _).mono ?_; rintro e w' ⟨rfl, rfl⟩)
      all_goals exact bodyPost_ret (v := .agg #[.int .i64 3, .int .i64 0]) (by simp [results, Try.results34, go_sem]) rfl ⟨ret_ir H1.out.symm H2.out.symm, ((Below.refl _ _).alloc (Nat.le_refl _) _)⟩
  · have ha := sq_f h1
    have H1 := Lib.hid (show addC s n = 3 by simp only [addC, ha, Bool.false_and, Bool.false_eq_true, if_false])
    have H2 := Lib.hid (show addV s n = 0 by simp only [addV, ha, Bool.false_and, Bool.false_eq_true, if_false])
    clear h1
    go_enter Try.func34, Try.ntmps34
    go_wp2_with (go_at_call 88; refine (isSeq_any _ _).mono ?_; rintro e w' ⟨rfl, rfl⟩)
    all_goals exact bodyPost_ret (v := .agg #[.int .i64 3, .int .i64 0]) (by simp [results, Try.results34, go_sem]) rfl ⟨ret_ir H1.out.symm H2.out.symm, ((Below.refl _ _).alloc (Nat.le_refl _) _)⟩

theorem l1Add_any (s n : Int) (w : World) (a1 : 0 ≤ s) (a2 : s < 4294967296) (b1 : -4294967296 ≤ n) (b2 : n ≤ 4294967296) : Calls Try.prog 109 #[.int .i64 s, .int .i64 n] w fun e w' => e = .returned (.int .i64 ((s + n) % 4294967296)) ∧ w = w' := by
  go_enter Try.func109, Try.ntmps109
  go_wp2
  go_ret
  exact ⟨ret_i (by omega), rfl⟩

/-! The way from one number to another. -/
def dist (f t : Int) : Int := if 2147483648 ≤ (t - f) % 4294967296 then (t - f) % 4294967296 - 4294967296 else (t - f) % 4294967296
def distC (f t : Int) : Int := if sqB f && sqB t then 0 else 3
def distV (f t : Int) : Int := if sqB f && sqB t then dist f t else 0
theorem dist_hi {f t : Int} (h : 2147483648 ≤ (t - f) % 4294967296) : dist f t = (t - f) % 4294967296 - 4294967296 := by unfold dist; rw [if_pos h]
theorem dist_lo {f t : Int} (h : ¬ 2147483648 ≤ (t - f) % 4294967296) : dist f t = (t - f) % 4294967296 := by unfold dist; rw [if_neg h]

theorem eqInt_t (c v : Int) (w : World) : Calls Try.prog 38 #[.agg #[.int .i64 c, .int .i64 v], .agg #[.int .i64 c, .int .i64 v]] w fun e w' => e = .returned (.bool true) ∧ Below w.heap.size w w' := by
  go_enter Try.func38, Try.ntmps38
  go_wp2
  go_ret
  exact ⟨rfl, ((Below.refl _ _).alloc (Nat.le_refl _) _).alloc (by simp) _⟩

theorem bcell {W w1 : World} (hb : Below W.heap.size W w1) : (∀ b o, b < W.heap.size → w1.cell? ⟨b, o, none⟩ = W.cell? ⟨b, o, none⟩) ∧ (∀ b o, b < W.heap.size → w1.frozen? ⟨b, o, none⟩ = W.frozen? ⟨b, o, none⟩) :=
  ⟨fun b o h => hb.cell (p := ⟨b, o, none⟩) h, fun b o h => hb.frozen (p := ⟨b, o, none⟩) h⟩

/-- what a struct of two cells, made ahead of a call, holds behind it -/
theorem two_cells {w1 w2 : World} {x y : Value} {t : TypeId} (hb : Below (w1.alloc (.cells #[x, y] t)).heap.size (w1.alloc (.cells #[x, y] t)) w2) :
    w1.heap.size < w2.heap.size ∧ w2.cell? ⟨w1.heap.size, 0, none⟩ = some x ∧ w2.cell? ⟨w1.heap.size, 1, none⟩ = some y := by
  have hz := hb.size
  simp only [World.size_alloc] at hz
  refine ⟨by omega, (hb.cell (p := ⟨w1.heap.size, 0, none⟩) (by simp)).trans (by simp), (hb.cell (p := ⟨w1.heap.size, 1, none⟩) (by simp)).trans (by simp)⟩

end Go.Proofs.Yteaiemckcepphaa
