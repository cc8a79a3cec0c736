/-
  Contracts of PackWord of the program and of the model: both answer by one and the same function of numbers, in an array of their own.
-/
import Derived.Test.YteaiemckcepphaaRes
import Derived.OpenShut
namespace Go.Proofs.Yteaiemckcepphaa
open Go.ChangeShapes Go.WideShapes Go.ChangeAt Go.RowKit

/-- a number in k bytes, the highest one first -/
def be (n : Int) : Nat → List Int
  | 0 => []
  | k + 1 => be (n / 256) k ++ [n % 256]
theorem be_len : ∀ (k : Nat) (n : Int), (be n k).length = k
  | 0, _ => rfl
  | k + 1, n => by simp [be, be_len k]
theorem b8_be : ∀ (k : Nat) (n : Int), B8 (be n k)
  | 0, _ => b8_nil
  | k + 1, n => by
    unfold be
    refine b8_app (b8_be k _) ?_
    intro x hx
    simp only [List.mem_singleton] at hx
    subst hx
    omega
def pwOk (n size : Int) : Bool := inB size 1 6 && decide (0 ≤ n) && decide (n < 256 ^ size.toNat)
def pwC (n size : Int) : Int := if pwOk n size then 0 else 3
def pwB (n size : Int) : List Int := if pwOk n size then be n size.toNat else []

theorem isWord_any (s : Int) (w : World) : Calls Try.prog 97 #[.int .i64 s] w fun e w' => e = .returned (.bool (inB s 1 6)) ∧ w = w' := by
  by_cases h1 : 1 ≤ s
  · by_cases h2 : s ≤ 6
    · have H := Lib.hid (in_t ⟨h1, h2⟩)
      go_enter Try.func97, Try.ntmps97
      go_wp2
      go_ret
      exact ⟨ret_b H.out.symm, rfl⟩
    · have H := Lib.hid (in_f (v := s) (a := 1) (b := 6) (by omega))
      go_enter Try.func97, Try.ntmps97
      go_wp2
      go_ret
      exact ⟨ret_b H.out.symm, rfl⟩
  · have H := Lib.hid (in_f (v := s) (a := 1) (b := 6) (by omega))
    go_enter Try.func97, Try.ntmps97
    go_wp2
    go_ret
    exact ⟨ret_b H.out.symm, rfl⟩

/-- what PackWord leaves: the code, the bytes in an array of its own -/
def Packed (w : World) (c : Int) (zs : List Int) (e : Ending) (w' : World) : Prop :=
  ∃ a len cap, e = .returned (.agg #[.int .i64 c, .slice a len cap]) ∧ Own w' w.heap.size a len cap zs ∧ Below w.heap.size w w'

theorem be_step (m : Int) (r : Nat) (tail : List Int) : be m (r + 1) ++ tail = be (m / 256) r ++ (m % 256 :: tail) := by simp [be]
theorem rep_set (r : Nat) (x : Int) (tail : List Int) : (List.replicate (r + 1) 0 ++ tail).set r x = List.replicate r 0 ++ (x :: tail) := by
  rw [List.replicate_succ', List.append_assoc, List.set_append_right _ _ (by simp)]
  simp

/-- the struct of the result, made first, behind what was done to another block -/
theorem res_cells {w W0 wr : World} {x y : Value} {t : TypeId} {row : Option Nat} (H0 : W0 = w.alloc (.cells #[x, y] t)) (hg : W0.grownBy wr row) (hne : row ≠ some w.heap.size) :
    w.heap.size < wr.heap.size ∧ wr.cell? ⟨w.heap.size, 0, none⟩ = some x ∧ wr.cell? ⟨w.heap.size, 1, none⟩ = some y ∧ wr.frozen? ⟨w.heap.size, 0, none⟩ = false ∧ wr.frozen? ⟨w.heap.size, 1, none⟩ = false := by
  subst H0
  have hz := hg.size
  simp only [World.size_alloc] at hz
  have hb := hg.block w.heap.size (by simp) (fun e => hne e.symm)
  exact ⟨by omega, (World.cell?_of_block (a := ⟨w.heap.size, 0, none⟩) hb).trans (by simp), (World.cell?_of_block (a := ⟨w.heap.size, 1, none⟩) hb).trans (by simp),
    (World.frozen?_of_block (a := ⟨w.heap.size, 0, none⟩) hb).trans (by simp), (World.frozen?_of_block (a := ⟨w.heap.size, 1, none⟩) hb).trans (by simp)⟩
theorem below_res {w W0 wr : World} {o : Obj} {row : Option Nat} (H0 : W0 = w.alloc o) (hg : W0.grownBy wr row) (hr : ∀ k, row = some k → w.heap.size ≤ k) : Below w.heap.size w wr := by
  subst H0
  exact ((Below.refl _ _).alloc (Nat.le_refl _) _).grown hg (by simp) hr

theorem grown_setCell (w : World) (a : Addr) (u : Value) : w.grownBy (w.setCell a u) (some a.block) :=
  ⟨rfl, rfl, rfl, by simp, fun k _ hk => heap_setCell_other w a k u (fun e => hk (by simp [e]))⟩
theorem Own.setOther {w : World} {base : Nat} {a : Option Addr} {len cap : Nat} {zs : List Int} (h : Own w base a len cap zs) (p : Addr) (u : Value) (hne : ∀ x, a = some x → x.block ≠ p.block) : Own (w.setCell p u) base a len cap zs :=
  h.grown (grown_setCell w p u) (fun x hx e => hne x hx (by simpa using e))
theorem pow_le6 (S : Nat) (h1 : 1 ≤ S) (h2 : S ≤ 6) : (256 : Int) ^ S ≤ 281474976710656 := by
  obtain rfl | rfl | rfl | rfl | rfl | rfl : S = 1 ∨ S = 2 ∨ S = 3 ∨ S = 4 ∨ S = 5 ∨ S = 6 := by omega
  all_goals decide +kernel

theorem pow_wrap (S : Nat) (h1 : 1 ≤ S) (h2 : S ≤ 6) : wrap64 (2 ^ (8 * S)) = (256 : Int) ^ S := by
  obtain rfl | rfl | rfl | rfl | rfl | rfl : S = 1 ∨ S = 2 ∨ S = 3 ∨ S = 4 ∨ S = 5 ∨ S = 6 := by omega
  all_goals decide +kernel

set_option maxHeartbeats 1000000 in
theorem implPack_ok (n : Int) (S : Nat) (w : World) (h0 : 0 ≤ n) (hS : 1 ≤ S ∧ S ≤ 6) (hn : n < 256 ^ S) :
    Calls Try.prog 59 #[.int .i64 n, .int .i64 S] w (Packed w 0 (be n S)) := by
  obtain ⟨i0, hi, hz0, hz1, hz2⟩ := info_parts Try.infoU8
  have hin : inB S 1 6 = true := in_t (by omega)
  have e1 : decide (n < 0) = false := decide_eq_false (by omega)
  obtain ⟨hS1, hS2⟩ := hS
  have e2 : decide (wrap64 (2 ^ (8 * S)) ≤ n) = false := decide_eq_false (by rw [pow_wrap S hS1 hS2]; omega)
  have hn6 : n < 281474976710656 := by have := pow_le6 S hS1 hS2; omega
  clear hn
  obtain ⟨W0, hW0⟩ : ∃ W0, W0 = w.alloc (.cells #[.int .i64 0, .slice none 0 0] 29) := ⟨_, rfl⟩
  have H0 := Lib.hid hW0
  clear hW0
  go_enter Try.func59, Try.ntmps59
  go_wp2_with (first | (go_at_call 97; refine (isWord_any _ _).mono ?_; rintro e w' ⟨rfl, rfl⟩) | (at_make; refine wpList_make_full _ rfl (.tmp 22) (.tmp 22) 22 rfl w.heap.size 5 i0 (.int .u8 0) 1 Try.underlying22 hi hz0 hz1 .i64 .i64 S S S rfl rfl rfl rfl (by rw [hz2]; omega) (by unfold maxLen; omega) (by simp) ?_; intro w1 hown hgrow))
  rw [← H0.out] at hgrow hown
  have hsz : W0.heap.size = w.heap.size + 1 := by rw [H0.out]; simp
  rw [hsz] at hown
  have hO : Own w1 w.heap.size (some ⟨w.heap.size + 1, 0, none⟩) S S (List.replicate S 0 ++ []) := ⟨by have := hown; simp only [Nat.mul_one, Value.cells, toList_madeCells_one] at this; simpa using this, b8_app (b8_rep _) b8_nil⟩
  have hg := Lib.hid hgrow
  have HS := Lib.hid hsz
  clear hown hgrow hsz
  go_loopw [0, 6] (fun nn at' wr => ∃ (r : Nat) (m : Int) (tail : List Int), r ≤ S ∧ at' = .int .i64 (r - 1 : Int) ∧ nn = .int .i64 m ∧ 0 ≤ m ∧ m ≤ n ∧ Hid (be n S = be m r ++ tail) ∧ B8 tail ∧ Own wr w.heap.size (some ⟨w.heap.size + 1, 0, none⟩) S S (List.replicate r 0 ++ tail) ∧ W0.grownBy wr (some (w.heap.size + 1))) (fun _ at' _ => (intOf at' + 1).toNat)
  case atStart => exact ⟨S, n, [], Nat.le_refl _, rfl, rfl, h0, Int.le_refl _, (List.append_nil _).symm, b8_nil, hO, grown_none hg.out⟩
  case round =>
    obtain ⟨r, m, tail, hr, rfl, rfl, hm0, hmn, hbe, htl, hown, hgr⟩ := hrel
    cases r with
    | zero =>
      obtain ⟨hz, c0, c1, f0, f1⟩ := res_cells H0.out hgr (by simp)
      have hB := below_res H0.out hgr (fun k e => by cases e; omega)
      have HB := Lib.hid hbe.out
      clear hO hbe
      go_wp2
      refine bodyPost_ret (v := .agg #[.int .i64 0, .slice (some ⟨w.heap.size + 1, 0, none⟩) S S]) (by simp [results, Try.results59, go_sem, c0, c1]) rfl ⟨_, _, _, rfl, ?_, (hB.setCell (Nat.le_refl _) _).setCell (Nat.le_refl _) _⟩
      have hz : be n S = List.replicate 0 0 ++ tail := HB.out
      rw [hz]
      exact (hown.setOther _ _ (by rintro x hx; cases hx; simp)).setOther _ _ (by rintro x hx; cases hx; simp)
    | succ r =>
      have hc := hown.cellAt r (by omega)
      have hf := hown.frozenAt r
      have R := Lib.hid (hown.set r (m % 256) (by omega))
      clear hown hO
      go_wp2
      go_roundw
      case rel => exact ⟨r, m / 256, m % 256 :: tail, by omega, by go_num, by go_num, by omega, by omega, by rw [hbe.out]; exact be_step m r tail, b8_app (a := [m % 256]) (by intro x hx; simp only [List.mem_singleton] at hx; subst hx; omega) htl, by rw [← rep_set]; exact R.out.1, grown_trans hgr R.out.2⟩
      case measure => simp [intOf]

theorem packed_no {w : World} {o : Obj} {e : Ending} (he : e = .returned (.agg #[.int .i64 3, .slice none 0 0])) : Packed w 3 [] e (w.alloc o) :=
  ⟨none, 0, 0, he, Own.nil _ _, (Below.refl _ _).alloc (Nat.le_refl _) _⟩

set_option maxHeartbeats 1000000 in
theorem implPack_no (n s : Int) (w : World) (h : pwOk n s = false) :
    Calls Try.prog 59 #[.int .i64 n, .int .i64 s] w (Packed w 3 []) := by
  by_cases h1 : 1 ≤ s ∧ s ≤ 6
  · have hi := in_t h1
    obtain ⟨S, rfl⟩ := Int.eq_ofNat_of_zero_le (show 0 ≤ s by omega)
    by_cases h2 : 0 ≤ n
    · have h3 : ¬ n < 256 ^ S := by
        intro h3
        simp [pwOk, hi, h2, h3] at h
      have e1 : decide (n < 0) = false := decide_eq_false (by omega)
      have e2 : decide (wrap64 (2 ^ (8 * S)) ≤ n) = true := decide_eq_true (by rw [pow_wrap S (by omega) (by omega)]; omega)
      obtain ⟨hS1, hS2⟩ := h1
      clear h h3
      go_enter Try.func59, Try.ntmps59
      go_wp2_with (first | (go_at_call 97; refine (isWord_any _ _).mono ?_; rintro e w' ⟨rfl, rfl⟩))
      all_goals exact bodyPost_ret (v := .agg #[.int .i64 3, .slice none 0 0]) (by simp [results, Try.results59, go_sem]) rfl (packed_no rfl)
    · have e1 : decide (n < 0) = true := decide_eq_true (by omega)
      clear h h1 h2
      go_enter Try.func59, Try.ntmps59
      go_wp2_with (first | (go_at_call 97; refine (isWord_any _ _).mono ?_; rintro e w' ⟨rfl, rfl⟩))
      all_goals exact bodyPost_ret (v := .agg #[.int .i64 3, .slice none 0 0]) (by simp [results, Try.results59, go_sem]) rfl (packed_no rfl)
  · have hi := in_f h1
    clear h h1
    go_enter Try.func59, Try.ntmps59
    go_wp2_with (first | (go_at_call 97; refine (isWord_any _ _).mono ?_; rintro e w' ⟨rfl, rfl⟩))
    all_goals exact bodyPost_ret (v := .agg #[.int .i64 3, .slice none 0 0]) (by simp [results, Try.results59, go_sem]) rfl (packed_no rfl)

theorem pwOk_parts {n s : Int} (h : pwOk n s = true) : ∃ S : Nat, s = S ∧ 1 ≤ S ∧ S ≤ 6 ∧ 0 ≤ n ∧ n < 256 ^ S := by
  simp only [pwOk, inB, Bool.and_eq_true, decide_eq_true_eq] at h
  obtain ⟨S, rfl⟩ := Int.eq_ofNat_of_zero_le (show 0 ≤ s by omega)
  exact ⟨S, rfl, by omega, by omega, h.1.2, by simpa using h.2⟩

theorem implPack (n s : Int) (w : World) : Calls Try.prog 59 #[.int .i64 n, .int .i64 s] w (Packed w (pwC n s) (pwB n s)) := by
  cases h : pwOk n s with
  | true =>
    simp only [pwC, pwB, h, if_true]
    obtain ⟨S, rfl, h1, h2, h3, h4⟩ := pwOk_parts h
    exact implPack_ok n S w h3 ⟨h1, h2⟩ h4
  | false =>
    simp only [pwC, pwB, h, Bool.false_eq_true, if_false]
    exact implPack_no n s w h

set_option maxHeartbeats 1000000 in
theorem l1Pack_any (n : Int) (S : Nat) (w : World) (h0 : 0 ≤ n) (hS2 : S ≤ 1000) (hn6 : n < 281474976710656) :
    Calls Try.prog 99 #[.int .i64 n, .int .i64 S] w fun e w' => e = .returned (.slice (some ⟨w.heap.size, 0, none⟩) S S) ∧ Own w' w.heap.size (some ⟨w.heap.size, 0, none⟩) S S (be n S) ∧ Below w.heap.size w w' := by
  obtain ⟨i0, hi, hz0, hz1, hz2⟩ := info_parts Try.infoU8
  go_enter Try.func99, Try.ntmps99
  go_wp2_with (at_make; refine wpList_make_full _ rfl (.tmp 7) (.tmp 7) 22 rfl w.heap.size 5 i0 (.int .u8 0) 1 Try.underlying22 hi hz0 hz1 .i64 .i64 S S S rfl rfl rfl rfl (by rw [hz2]; omega) (by unfold maxLen; omega) (Nat.le_refl _) ?_; intro w1 hown hgrow)
  have hO : Own w1 w.heap.size (some ⟨w.heap.size, 0, none⟩) S S (List.replicate S 0 ++ []) := ⟨by have := hown; simp only [Nat.mul_one, Value.cells, toList_madeCells_one] at this; simpa using this, b8_app (b8_rep _) b8_nil⟩
  have hg := Lib.hid hgrow
  clear hown hgrow
  go_loopw [0, 6] (fun nn at' wr => ∃ (r : Nat) (m : Int) (tail : List Int), r ≤ S ∧ at' = .int .i64 (r - 1 : Int) ∧ nn = .int .i64 m ∧ 0 ≤ m ∧ m ≤ n ∧ Hid (be n S = be m r ++ tail) ∧ B8 tail ∧ Own wr w.heap.size (some ⟨w.heap.size, 0, none⟩) S S (List.replicate r 0 ++ tail) ∧ w.grownBy wr (some w.heap.size)) (fun _ at' _ => (intOf at' + 1).toNat)
  case atStart => exact ⟨S, n, [], Nat.le_refl _, rfl, rfl, h0, Int.le_refl _, (List.append_nil _).symm, b8_nil, hO, grown_none hg.out⟩
  case round =>
    obtain ⟨r, m, tail, hr, rfl, rfl, hm0, hmn, hbe, htl, hown, hgr⟩ := hrel
    cases r with
    | zero =>
      have HB := Lib.hid hbe.out
      clear hO hbe
      go_wp2
      go_ret
      have hz : be n S = List.replicate 0 0 ++ tail := HB.out
      refine ⟨rfl, ?_, below_of_grown hgr (Nat.le_refl _) (fun k e => by cases e; exact Nat.le_refl _)⟩
      rw [hz]
      exact hown
    | succ r =>
      have hc := hown.cellAt r (by omega)
      have hf := hown.frozenAt r
      have R := Lib.hid (hown.set r (m % 256) (by omega))
      clear hown hO
      go_wp2
      go_roundw
      case rel => exact ⟨r, m / 256, m % 256 :: tail, by omega, by go_num, by go_num, by omega, by omega, by rw [hbe.out]; exact be_step m r tail, b8_app (a := [m % 256]) (by intro x hx; simp only [List.mem_singleton] at hx; subst hx; omega) htl, by rw [← rep_set]; exact R.out.1, grown_trans hgr R.out.2⟩
      case measure => simp [intOf]

theorem div_pow (n : Int) (k : Nat) : n / 256 ^ k / 256 = n / 256 ^ (k + 1) := by
  rw [Int.ediv_ediv_of_nonneg (by exact Int.pow_nonneg (by omega)), Int.pow_succ]
theorem div_zero_iff (n : Int) (k : Nat) (h : 0 ≤ n) : n / 256 ^ k = 0 ↔ n < 256 ^ k := by
  have hp : (0 : Int) < 256 ^ k := Int.pow_pos (by omega)
  constructor
  · intro e
    have := Int.lt_ediv_add_one_mul_self n hp
    rw [e] at this
    omega
  · intro e
    exact Int.ediv_eq_zero_of_lt h e
theorem div_le (n : Int) (k : Nat) (h : 0 ≤ n) : 0 ≤ n / 256 ^ k ∧ n / 256 ^ k ≤ n := by
  have hp : (0 : Int) < 256 ^ k := Int.pow_pos (by omega)
  exact ⟨Int.ediv_nonneg h (by omega), Int.ediv_le_self _ h⟩

theorem i64_hi {n : Int} (h : (Lit.int .i64 n).wf = true) : n ≤ 9223372036854775807 := (bounds_i64 h).2
theorem wrap_div (m : Int) (h0 : 0 ≤ m) (h1 : m ≤ 9223372036854775807) : wrap64 (m.tdiv 256) = m / 256 := by
  rw [Int.tdiv_eq_ediv_of_nonneg h0]
  exact IntWalk.wrap64_in (m / 256) (by omega)
theorem Own.rebase {w : World} {base base' : Nat} {a : Option Addr} {len cap : Nat} {zs : List Int} (h : Own w base a len cap zs) (hb : base' ≤ base) : Own w base' a len cap zs := by
  refine ⟨⟨h.row.1, ?_⟩, h.b8⟩
  rcases h.row.2 with h' | ⟨g, c, cur, h1, h2, h3⟩
  · exact .inl h'
  · exact .inr ⟨g, c, cur, h1, Nat.le_trans hb h2, h3⟩

end Go.Proofs.Yteaiemckcepphaa
