/-
  Contracts of the functions of sequence numbers: SeqAdd, SeqDist, InWindow of the program and of the model answer by one and the same function of numbers.
-/
import Derived.Test.YtgdjklbneeemfaaRows
import Derived.WalkKit
import Derived.ProofKit
import Derived.Below
import Derived.Lib.Hide
namespace Go.Proofs.Ytgdjklbneeemfaa
open Go.ChangeShapes Go.WideShapes Go.ChangeAt Go.RowKit

/-- a sequence number -/
def sqB (s : Int) : Bool := decide (0 ≤ s ∧ s < 4294967296)
def inB (v a b : Int) : Bool := decide (a ≤ v ∧ v ≤ b)
def ir (c v : Int) : Value := .agg #[.int .i64 c, .int .i64 v]
def addC (s n : Int) : Int := if sqB s && inB n (-4294967296) 4294967296 then 0 else 3
def addV (s n : Int) : Int := if sqB s && inB n (-4294967296) 4294967296 then (s + n) % 4294967296 else 0

theorem sq_t {s : Int} (h : 0 ≤ s ∧ s < 4294967296) : sqB s = true := by simp only [sqB, h, and_self, decide_true]
theorem sq_f {s : Int} (h : ¬ (0 ≤ s ∧ s < 4294967296)) : sqB s = false := by simp only [sqB, h, decide_false]
theorem in_t {v a b : Int} (h : a ≤ v ∧ v ≤ b) : inB v a b = true := by simp only [inB, h, and_self, decide_true]
theorem in_f {v a b : Int} (h : ¬ (a ≤ v ∧ v ≤ b)) : inB v a b = false := by simp only [inB, h, decide_false]
theorem ret_b {a b : Bool} (h : a = b) : Ending.returned (.bool a) = .returned (.bool b) := by rw [h]
theorem ret_i {a b : Int} (h : a = b) : Ending.returned (.int .i64 a) = .returned (.int .i64 b) := by rw [h]
theorem ret_ir {a b c d : Int} (h : a = c) (k : b = d) : Ending.returned (.agg #[.int .i64 a, .int .i64 b]) = .returned (ir c d) := by rw [h, k]; rfl

theorem isSeq_any (s : Int) (w : World) : Calls Try.prog 64 #[.int .i64 s] w fun e w' => e = .returned (.bool (sqB s)) ∧ w = w' := by
  by_cases h1 : 0 ≤ s
  · by_cases h2 : s < 4294967296
    · have H := Lib.hid (sq_t ⟨h1, h2⟩)
      go_enter Try.func64, Try.ntmps64
      go_wp2
      go_ret
      exact ⟨ret_b H.out.symm, rfl⟩
    · have H := Lib.hid (sq_f (s := s) (by omega))
      go_enter Try.func64, Try.ntmps64
      go_wp2
      go_ret
      exact ⟨ret_b H.out.symm, rfl⟩
  · have H := Lib.hid (sq_f (s := s) (by omega))
    go_enter Try.func64, Try.ntmps64
    go_wp2
    go_ret
    exact ⟨ret_b H.out.symm, rfl⟩

theorem l1In_any (v a b : Int) (w : World) : Calls Try.prog 52 #[.int .i64 v, .int .i64 a, .int .i64 b] w fun e w' => e = .returned (.bool (inB v a b)) ∧ w = w' := by
  by_cases h1 : a ≤ v
  · by_cases h2 : v ≤ b
    · have H := Lib.hid (in_t ⟨h1, h2⟩)
      go_enter Try.func52, Try.ntmps52
      go_wp2
      go_ret
      exact ⟨ret_b H.out.symm, rfl⟩
    · have H := Lib.hid (in_f (v := v) (a := a) (b := b) (by omega))
      go_enter Try.func52, Try.ntmps52
      go_wp2
      go_ret
      exact ⟨ret_b H.out.symm, rfl⟩
  · have H := Lib.hid (in_f (v := v) (a := a) (b := b) (by omega))
    go_enter Try.func52, Try.ntmps52
    go_wp2
    go_ret
    exact ⟨ret_b H.out.symm, rfl⟩

theorem sq_in (s : Int) : inB s 0 4294967295 = sqB s := by
  unfold inB sqB; exact decide_eq_decide.2 (by omega)

theorem l1Seq_any (s : Int) (w : World) : Calls Try.prog 66 #[.int .i64 s] w fun e w' => e = .returned (.bool (sqB s)) ∧ w = w' := by
  have H := Lib.hid (sq_in s)
  go_enter Try.func66, Try.ntmps66
  go_wp2_with (go_at_call 52; refine (l1In_any _ _ _ _).mono ?_; rintro e w' ⟨rfl, rfl⟩)
  go_ret
  exact ⟨ret_b H.out, rfl⟩

theorem implAdd (s n : Int) (w : World) : Calls Try.prog 32 #[.int .i64 s, .int .i64 n] w fun e w' => e = .returned (ir (addC s n) (addV s n)) ∧ Below w.heap.size w w' := by
  by_cases h1 : 0 ≤ s ∧ s < 4294967296
  · have ha := sq_t h1
    obtain ⟨a1, a2⟩ := h1
    by_cases h2 : -4294967296 ≤ n ∧ n ≤ 4294967296
    · have H1 := Lib.hid (show addC s n = 0 by simp only [addC, ha, in_t h2, Bool.and_self, if_true])
      have H2 := Lib.hid (show addV s n = (s + n) % 4294967296 by simp only [addV, ha, in_t h2, Bool.and_self, if_true])
      obtain ⟨b1, b2⟩ := h2
      go_enter Try.func32, Try.ntmps32
      go_wp2_with (go_at_call 64; refine (isSeq_any _ _).mono ?_; rintro e w' ⟨rfl, rfl⟩)
      exact bodyPost_ret (v := .agg #[.int .i64 0, .int .i64 ((s + n) % 4294967296)]) (by simp [results, Try.results32, go_sem]) rfl ⟨ret_ir H1.out.symm H2.out.symm, ((Below.refl _ _).alloc (Nat.le_refl _) _)⟩
    · have H1 := Lib.hid (show addC s n = 3 by simp only [addC, ha, in_f h2, Bool.and_false, Bool.false_eq_true, if_false])
      have H2 := Lib.hid (show addV s n = 0 by simp only [addV, ha, in_f h2, Bool.and_false, Bool.false_eq_true, if_false])
      go_enter Try.func32, Try.ntmps32
      go_wp2_with (go_at_call 64; refine (isSeq_any _ _).mono ?_; rintro e w' ⟨rfl, rfl⟩)
      all_goals exact bodyPost_ret (v := .agg #[.int .i64 3, .int .i64 0]) (by simp [results, Try.results32, go_sem]) rfl ⟨ret_ir H1.out.symm H2.out.symm, ((Below.refl _ _).alloc (Nat.le_refl _) _)⟩
  · have ha := sq_f h1
    have H1 := Lib.hid (show addC s n = 3 by simp only [addC, ha, Bool.false_and, Bool.false_eq_true, if_false])
    have H2 := Lib.hid (show addV s n = 0 by simp only [addV, ha, Bool.false_and, Bool.false_eq_true, if_false])
    clear h1
    go_enter Try.func32, Try.ntmps32
    go_wp2_with (go_at_call 64; refine (isSeq_any _ _).mono ?_; rintro e w' ⟨rfl, rfl⟩)
    all_goals exact bodyPost_ret (v := .agg #[.int .i64 3, .int .i64 0]) (by simp [results, Try.results32, go_sem]) rfl ⟨ret_ir H1.out.symm H2.out.symm, ((Below.refl _ _).alloc (Nat.le_refl _) _)⟩

theorem l1Add_any (s n : Int) (w : World) (a1 : 0 ≤ s) (a2 : s < 4294967296) (b1 : -4294967296 ≤ n) (b2 : n ≤ 4294967296) : Calls Try.prog 65 #[.int .i64 s, .int .i64 n] w fun e w' => e = .returned (.int .i64 ((s + n) % 4294967296)) ∧ w = w' := by
  go_enter Try.func65, Try.ntmps65
  go_wp2
  go_ret
  exact ⟨ret_i (by omega), rfl⟩

theorem specAdd (s n : Int) (w : World) : Calls Try.prog 37 #[.int .i64 s, .int .i64 n] w fun e w' => e = .returned (ir (addC s n) (addV s n)) ∧ Below w.heap.size w w' := by
  by_cases h1 : 0 ≤ s ∧ s < 4294967296
  · have ha := sq_t h1
    obtain ⟨a1, a2⟩ := h1
    by_cases h2 : -4294967296 ≤ n ∧ n ≤ 4294967296
    · have hi := in_t h2
      have H1 := Lib.hid (show addC s n = 0 by simp only [addC, ha, in_t h2, Bool.and_self, if_true])
      have H2 := Lib.hid (show addV s n = (s + n) % 4294967296 by simp only [addV, ha, in_t h2, Bool.and_self, if_true])
      obtain ⟨b1, b2⟩ := h2
      go_enter Try.func37, Try.ntmps37
      go_wp2_with (first | (go_at_call 66; refine (l1Seq_any _ _).mono ?_; rintro e w' ⟨rfl, rfl⟩) | (go_at_call 52; refine (l1In_any _ _ _ _).mono ?_; rintro e w' ⟨rfl, rfl⟩) | (go_at_call 65; refine (l1Add_any _ _ _ a1 a2 b1 b2).mono ?_; rintro e w' ⟨rfl, rfl⟩))
      exact bodyPost_ret (v := .agg #[.int .i64 0, .int .i64 ((s + n) % 4294967296)]) (by simp [results, Try.results37, go_sem]) rfl ⟨ret_ir H1.out.symm H2.out.symm, ((Below.refl _ _).alloc (Nat.le_refl _) _)⟩
    · have hi := in_f h2
      have H1 := Lib.hid (show addC s n = 3 by simp only [addC, ha, in_f h2, Bool.and_false, Bool.false_eq_true, if_false])
      have H2 := Lib.hid (show addV s n = 0 by simp only [addV, ha, in_f h2, Bool.and_false, Bool.false_eq_true, if_false])
      clear h2
      go_enter Try.func37, Try.ntmps37
      go_wp2_with (first | (go_at_call 66; refine (l1Seq_any _ _).mono ?_; rintro e w' ⟨rfl, rfl⟩) | (go_at_call 52; refine (l1In_any _ _ _ _).mono ?_; rintro e w' ⟨rfl, rfl⟩))
      all_goals exact bodyPost_ret (v := .agg #[.int .i64 3, .int .i64 0]) (by simp [results, Try.results37, go_sem]) rfl ⟨ret_ir H1.out.symm H2.out.symm, ((Below.refl _ _).alloc (Nat.le_refl _) _)⟩
  · have ha := sq_f h1
    have H1 := Lib.hid (show addC s n = 3 by simp only [addC, ha, Bool.false_and, Bool.false_eq_true, if_false])
    have H2 := Lib.hid (show addV s n = 0 by simp only [addV, ha, Bool.false_and, Bool.false_eq_true, if_false])
    clear h1
    go_enter Try.func37, Try.ntmps37
    go_wp2_with (go_at_call 66; refine (l1Seq_any _ _).mono ?_; rintro e w' ⟨rfl, rfl⟩)
    all_goals exact bodyPost_ret (v := .agg #[.int .i64 3, .int .i64 0]) (by simp [results, Try.results37, go_sem]) rfl ⟨ret_ir H1.out.symm H2.out.symm, ((Below.refl _ _).alloc (Nat.le_refl _) _)⟩

/-! The way from one number to another. -/
def dist (f t : Int) : Int := if 2147483648 ≤ (t - f) % 4294967296 then (t - f) % 4294967296 - 4294967296 else (t - f) % 4294967296
def distC (f t : Int) : Int := if sqB f && sqB t then 0 else 3
def distV (f t : Int) : Int := if sqB f && sqB t then dist f t else 0
theorem dist_hi {f t : Int} (h : 2147483648 ≤ (t - f) % 4294967296) : dist f t = (t - f) % 4294967296 - 4294967296 := by unfold dist; rw [if_pos h]
theorem dist_lo {f t : Int} (h : ¬ 2147483648 ≤ (t - f) % 4294967296) : dist f t = (t - f) % 4294967296 := by unfold dist; rw [if_neg h]

theorem l1Dist_any (f t : Int) (w : World) (a1 : 0 ≤ f) (a2 : f < 4294967296) (b1 : 0 ≤ t) (b2 : t < 4294967296) : Calls Try.prog 67 #[.int .i64 f, .int .i64 t] w fun e w' => e = .returned (.int .i64 (dist f t)) ∧ w = w' := by
  by_cases h : 2147483648 ≤ (t - f) % 4294967296
  · have H := Lib.hid (dist_hi h)
    go_enter Try.func67, Try.ntmps67
    go_wp2
    go_ret
    exact ⟨ret_i (by rw [H.out]), rfl⟩
  · have H := Lib.hid (dist_lo h)
    go_enter Try.func67, Try.ntmps67
    go_wp2
    go_ret
    exact ⟨ret_i (by rw [H.out]), rfl⟩

theorem specDist (f t : Int) (w : World) : Calls Try.prog 38 #[.int .i64 f, .int .i64 t] w fun e w' => e = .returned (ir (distC f t) (distV f t)) ∧ Below w.heap.size w w' := by
  by_cases h1 : 0 ≤ f ∧ f < 4294967296
  · have ha := sq_t h1
    obtain ⟨a1, a2⟩ := h1
    by_cases h2 : 0 ≤ t ∧ t < 4294967296
    · have hb := sq_t h2
      obtain ⟨b1, b2⟩ := h2
      have H1 := Lib.hid (show distC f t = 0 by simp only [distC, ha, hb, Bool.and_self, if_true])
      have H2 := Lib.hid (show distV f t = dist f t by simp only [distV, ha, hb, Bool.and_self, if_true])
      go_enter Try.func38, Try.ntmps38
      go_wp2_with (first | (go_at_call 66; refine (l1Seq_any _ _).mono ?_; rintro e w' ⟨rfl, rfl⟩) | (go_at_call 67; refine (l1Dist_any _ _ _ a1 a2 b1 b2).mono ?_; rintro e w' ⟨rfl, rfl⟩))
      exact bodyPost_ret (v := .agg #[.int .i64 0, .int .i64 (dist f t)]) (by simp [results, Try.results38, go_sem]) rfl ⟨ret_ir H1.out.symm H2.out.symm, ((Below.refl _ _).alloc (Nat.le_refl _) _)⟩
    · have hb := sq_f h2
      clear h2
      have H1 := Lib.hid (show distC f t = 3 by simp only [distC, ha, hb, Bool.and_false, Bool.false_eq_true, if_false])
      have H2 := Lib.hid (show distV f t = 0 by simp only [distV, ha, hb, Bool.and_false, Bool.false_eq_true, if_false])
      go_enter Try.func38, Try.ntmps38
      go_wp2_with (go_at_call 66; refine (l1Seq_any _ _).mono ?_; rintro e w' ⟨rfl, rfl⟩)
      all_goals exact bodyPost_ret (v := .agg #[.int .i64 3, .int .i64 0]) (by simp [results, Try.results38, go_sem]) rfl ⟨ret_ir H1.out.symm H2.out.symm, ((Below.refl _ _).alloc (Nat.le_refl _) _)⟩
  · have ha := sq_f h1
    clear h1
    have H1 := Lib.hid (show distC f t = 3 by simp only [distC, ha, Bool.false_and, Bool.false_eq_true, if_false])
    have H2 := Lib.hid (show distV f t = 0 by simp only [distV, ha, Bool.false_and, Bool.false_eq_true, if_false])
    go_enter Try.func38, Try.ntmps38
    go_wp2_with (go_at_call 66; refine (l1Seq_any _ _).mono ?_; rintro e w' ⟨rfl, rfl⟩)
    all_goals exact bodyPost_ret (v := .agg #[.int .i64 3, .int .i64 0]) (by simp [results, Try.results38, go_sem]) rfl ⟨ret_ir H1.out.symm H2.out.symm, ((Below.refl _ _).alloc (Nat.le_refl _) _)⟩

theorem implDist (f t : Int) (w : World) : Calls Try.prog 34 #[.int .i64 f, .int .i64 t] w fun e w' => e = .returned (ir (distC f t) (distV f t)) ∧ Below w.heap.size w w' := by
  by_cases h1 : 0 ≤ f ∧ f < 4294967296
  · have ha := sq_t h1
    obtain ⟨a1, a2⟩ := h1
    by_cases h2 : 0 ≤ t ∧ t < 4294967296
    · have hb := sq_t h2
      obtain ⟨b1, b2⟩ := h2
      have H1 := Lib.hid (show distC f t = 0 by simp only [distC, ha, hb, Bool.and_self, if_true])
      have H2 := Lib.hid (show distV f t = dist f t by simp only [distV, ha, hb, Bool.and_self, if_true])
      by_cases h : 2147483648 ≤ (t - f) % 4294967296
      · have H := Lib.hid (dist_hi h)
        go_enter Try.func34, Try.ntmps34
        go_wp2_with (go_at_call 64; refine (isSeq_any _ _).mono ?_; rintro e w' ⟨rfl, rfl⟩)
        exact bodyPost_ret (v := .agg #[.int .i64 0, .int .i64 ((t - f) % 4294967296 - 4294967296)]) (by simp [results, Try.results34, go_sem]) rfl ⟨ret_ir H1.out.symm (H2.out.trans H.out).symm, ((Below.refl _ _).alloc (Nat.le_refl _) _)⟩
      · have H := Lib.hid (dist_lo h)
        go_enter Try.func34, Try.ntmps34
        go_wp2_with (go_at_call 64; refine (isSeq_any _ _).mono ?_; rintro e w' ⟨rfl, rfl⟩)
        exact bodyPost_ret (v := .agg #[.int .i64 0, .int .i64 ((t - f) % 4294967296)]) (by simp [results, Try.results34, go_sem]) rfl ⟨ret_ir H1.out.symm (H2.out.trans H.out).symm, ((Below.refl _ _).alloc (Nat.le_refl _) _)⟩
    · have hb := sq_f h2
      clear h2
      have H1 := Lib.hid (show distC f t = 3 by simp only [distC, ha, hb, Bool.and_false, Bool.false_eq_true, if_false])
      have H2 := Lib.hid (show distV f t = 0 by simp only [distV, ha, hb, Bool.and_false, Bool.false_eq_true, if_false])
      go_enter Try.func34, Try.ntmps34
      go_wp2_with (go_at_call 64; refine (isSeq_any _ _).mono ?_; rintro e w' ⟨rfl, rfl⟩)
      all_goals exact bodyPost_ret (v := .agg #[.int .i64 3, .int .i64 0]) (by simp [results, Try.results34, go_sem]) rfl ⟨ret_ir H1.out.symm H2.out.symm, ((Below.refl _ _).alloc (Nat.le_refl _) _)⟩
  · have ha := sq_f h1
    clear h1
    have H1 := Lib.hid (show distC f t = 3 by simp only [distC, ha, Bool.false_and, Bool.false_eq_true, if_false])
    have H2 := Lib.hid (show distV f t = 0 by simp only [distV, ha, Bool.false_and, Bool.false_eq_true, if_false])
    go_enter Try.func34, Try.ntmps34
    go_wp2_with (go_at_call 64; refine (isSeq_any _ _).mono ?_; rintro e w' ⟨rfl, rfl⟩)
    all_goals exact bodyPost_ret (v := .agg #[.int .i64 3, .int .i64 0]) (by simp [results, Try.results34, go_sem]) rfl ⟨ret_ir H1.out.symm H2.out.symm, ((Below.refl _ _).alloc (Nat.le_refl _) _)⟩

theorem eqInt_t (c v : Int) (w : World) : Calls Try.prog 44 #[.agg #[.int .i64 c, .int .i64 v], .agg #[.int .i64 c, .int .i64 v]] w fun e w' => e = .returned (.bool true) ∧ Below w.heap.size w w' := by
  go_enter Try.func44, Try.ntmps44
  go_wp2
  go_ret
  exact ⟨rfl, ((Below.refl _ _).alloc (Nat.le_refl _) _).alloc (by simp) _⟩

theorem bcell {W w1 : World} (hb : Below W.heap.size W w1) : (∀ b o, b < W.heap.size → w1.cell? ⟨b, o, none⟩ = W.cell? ⟨b, o, none⟩) ∧ (∀ b o, b < W.heap.size → w1.frozen? ⟨b, o, none⟩ = W.frozen? ⟨b, o, none⟩) :=
  ⟨fun b o h => hb.cell (p := ⟨b, o, none⟩) h, fun b o h => hb.frozen (p := ⟨b, o, none⟩) h⟩

/-- what a struct of two cells, made ahead of a call, holds behind it -/
theorem two_cells {w1 w2 : World} {x y : Value} {t : TypeId} (hb : Below (w1.alloc (.cells #[x, y] t)).heap.size (w1.alloc (.cells #[x, y] t)) w2) :
    w1.heap.size < w2.heap.size ∧ w2.cell? ⟨w1.heap.size, 0, none⟩ = some x ∧ w2.cell? ⟨w1.heap.size, 1, none⟩ = some y := by
  have hz := hb.size
  simp only [World.size_alloc] at hz
  refine ⟨by omega, (hb.cell (p := ⟨w1.heap.size, 0, none⟩) (by simp)).trans (by simp), (hb.cell (p := ⟨w1.heap.size, 1, none⟩) (by simp)).trans (by simp)⟩

theorem exactAdd (s n : Int) (w : World) : Calls Try.prog 11 #[.int .i64 s, .int .i64 n] w fun e w' => e = .returned (.bool true) ∧ Below w.heap.size w w' := by
  obtain ⟨c, hc⟩ : ∃ c, c = addC s n := ⟨_, rfl⟩
  obtain ⟨v, hv⟩ : ∃ v, v = addV s n := ⟨_, rfl⟩
  have K1 := Lib.hid (show ∀ W, Calls Try.prog 37 #[.int .i64 s, .int .i64 n] W fun e w' => e = .returned (.agg #[.int .i64 c, .int .i64 v]) ∧ Below W.heap.size W w' by
    subst hc; subst hv; exact fun W => specAdd s n W)
  have K2 := Lib.hid (show ∀ W, Calls Try.prog 32 #[.int .i64 s, .int .i64 n] W fun e w' => e = .returned (.agg #[.int .i64 c, .int .i64 v]) ∧ Below W.heap.size W w' by
    subst hc; subst hv; exact fun W => implAdd s n W)
  clear hc hv
  go_enter Try.func11, Try.ntmps11
  go_wp2_with fail
  refine (K1.out _).mono ?_
  rintro e w1 ⟨rfl, hb1⟩
  go_wp2_with fail
  refine (K2.out _).mono ?_
  rintro e w2 ⟨rfl, hb2⟩
  obtain ⟨hz2, c20, c21⟩ := two_cells hb2
  go_wp2_with fail
  refine (eqInt_t _ _ _).mono ?_
  rintro e w3 ⟨rfl, hb3⟩
  go_wp2
  go_ret
  refine ⟨rfl, ?_⟩
  have z1 := hb1.size
  exact ((hb1.trans (((Below.refl _ _).alloc z1 _).trans (hb2.mono (by simp; omega)))).alloc (by omega) _).trans (hb3.mono (by simp; omega))
end Go.Proofs.Ytgdjklbneeemfaa
