/-
  InWindow of the program and of the model answer by one and the same function of numbers; the laws FnExactSeqDist and FnExactInWindow return true.
-/
import Derived.Test.YtgdjklbneeemfaaNum
namespace Go.Proofs.Ytgdjklbneeemfaa
open Go.ChangeShapes Go.WideShapes Go.ChangeAt Go.RowKit

theorem exactDist (s n : Int) (w : World) : Calls Try.prog 12 #[.int .i64 s, .int .i64 n] w fun e w' => e = .returned (.bool true) ∧ Below w.heap.size w w' := by
  obtain ⟨c, hc⟩ : ∃ c, c = distC s n := ⟨_, rfl⟩
  obtain ⟨v, hv⟩ : ∃ v, v = distV s n := ⟨_, rfl⟩
  have K1 := Lib.hid (show ∀ W, Calls Try.prog 38 #[.int .i64 s, .int .i64 n] W fun e w' => e = .returned (.agg #[.int .i64 c, .int .i64 v]) ∧ Below W.heap.size W w' by
    subst hc; subst hv; exact fun W => specDist s n W)
  have K2 := Lib.hid (show ∀ W, Calls Try.prog 34 #[.int .i64 s, .int .i64 n] W fun e w' => e = .returned (.agg #[.int .i64 c, .int .i64 v]) ∧ Below W.heap.size W w' by
    subst hc; subst hv; exact fun W => implDist s n W)
  clear hc hv
  go_enter Try.func12, Try.ntmps12
  go_wp2_with fail
  refine (K1.out _).mono ?_
  rintro e w1 ⟨rfl, hb1⟩
  go_wp2_with fail
  refine (K2.out _).mono ?_
  rintro e w2 ⟨rfl, hb2⟩
  obtain ⟨hz2, c20, c21⟩ := two_cells hb2
  go_wp2_with fail
  refine (eqInt_t _ _ _).mono ?_
  rintro e w3 ⟨rfl, hb3⟩
  go_wp2
  go_ret
  refine ⟨rfl, ?_⟩
  have z1 := hb1.size
  exact ((hb1.trans (((Below.refl _ _).alloc z1 _).trans (hb2.mono (by simp; omega)))).alloc (by omega) _).trans (hb3.mono (by simp; omega))

def winB (seq frm size : Int) : Bool := sqB seq && sqB frm && inB size 0 65535 && inB (dist frm seq) 0 (size - 1)
theorem dist_bd (f t : Int) : -2147483648 ≤ dist f t ∧ dist f t ≤ 2147483647 := by
  unfold dist; split <;> omega

theorem specWin (seq frm size : Int) (w : World) : Calls Try.prog 39 #[.int .i64 seq, .int .i64 frm, .int .i64 size] w fun e w' => e = .returned (.bool (winB seq frm size)) ∧ w = w' := by
  by_cases h1 : 0 ≤ seq ∧ seq < 4294967296
  · have ha := sq_t h1
    by_cases h2 : 0 ≤ frm ∧ frm < 4294967296
    · have hb := sq_t h2
      by_cases h3 : 0 ≤ size ∧ size ≤ 65535
      · have hc := in_t h3
        obtain ⟨a1, a2⟩ := h1
        obtain ⟨b1, b2⟩ := h2
        obtain ⟨c1, c2⟩ := h3
        have H := Lib.hid (show winB seq frm size = inB (dist frm seq) 0 (size - 1) by simp only [winB, ha, hb, hc, Bool.true_and])
        go_enter Try.func39, Try.ntmps39
        go_wp2_with (first | (go_at_call 66; refine (l1Seq_any _ _).mono ?_; rintro e w' ⟨rfl, rfl⟩) | (go_at_call 67; refine (l1Dist_any _ _ _ b1 b2 a1 a2).mono ?_; rintro e w' ⟨rfl, rfl⟩) | (go_at_call 52; refine (l1In_any _ _ _ _).mono ?_; rintro e w' ⟨rfl, rfl⟩))
        go_ret
        exact ⟨ret_b H.out.symm, rfl⟩
      · have hc := in_f h3
        have H := Lib.hid (show winB seq frm size = false by simp only [winB, ha, hb, hc, Bool.true_and, Bool.false_and])
        clear h1 h2 h3
        go_enter Try.func39, Try.ntmps39
        go_wp2_with (first | (go_at_call 66; refine (l1Seq_any _ _).mono ?_; rintro e w' ⟨rfl, rfl⟩) | (go_at_call 52; refine (l1In_any _ _ _ _).mono ?_; rintro e w' ⟨rfl, rfl⟩))
        go_ret
        exact ⟨ret_b H.out.symm, rfl⟩
    · have hb := sq_f h2
      have H := Lib.hid (show winB seq frm size = false by simp only [winB, ha, hb, Bool.true_and, Bool.false_and])
      clear h1 h2
      go_enter Try.func39, Try.ntmps39
      go_wp2_with (go_at_call 66; refine (l1Seq_any _ _).mono ?_; rintro e w' ⟨rfl, rfl⟩)
      go_ret
      exact ⟨ret_b H.out.symm, rfl⟩
  · have ha := sq_f h1
    have H := Lib.hid (show winB seq frm size = false by simp only [winB, ha, Bool.false_and])
    clear h1
    go_enter Try.func39, Try.ntmps39
    go_wp2_with (go_at_call 66; refine (l1Seq_any _ _).mono ?_; rintro e w' ⟨rfl, rfl⟩)
    go_ret
    exact ⟨ret_b H.out.symm, rfl⟩

theorem win_yes {seq frm size : Int} (ha : (sqB frm && sqB seq) = true) (h : 0 ≤ size ∧ size ≤ 65535 ∧ 0 ≤ dist frm seq ∧ dist frm seq < size) : winB seq frm size = true := by
  rw [Bool.and_eq_true] at ha
  simp only [winB, ha.1, ha.2, in_t (v := size) (a := 0) (b := 65535) (by omega), in_t (v := dist frm seq) (a := 0) (b := size - 1) (by omega), Bool.and_self]
theorem win_no {seq frm size : Int} (h : ¬ (0 ≤ size ∧ size ≤ 65535 ∧ 0 ≤ dist frm seq ∧ dist frm seq < size)) : winB seq frm size = false := by
  by_cases k : 0 ≤ size ∧ size ≤ 65535
  · simp only [winB, in_f (v := dist frm seq) (a := 0) (b := size - 1) (by omega), Bool.and_false]
  · simp only [winB, in_f k, Bool.and_false, Bool.false_and]

theorem implWin (seq frm size : Int) (w : World) : Calls Try.prog 36 #[.int .i64 seq, .int .i64 frm, .int .i64 size] w fun e w' => e = .returned (.bool (winB seq frm size)) ∧ Below w.heap.size w w' := by
  by_cases ha : (sqB frm && sqB seq) = true
  · have K := Lib.hid (show ∀ W, Calls Try.prog 34 #[.int .i64 frm, .int .i64 seq] W fun e w' => e = .returned (.agg #[.int .i64 0, .int .i64 (dist frm seq)]) ∧ Below W.heap.size W w' from fun W => by
      have := implDist frm seq W
      simp only [distC, distV, ha, if_true] at this
      exact this)
    have P : Hid ((0 ≤ size ∧ size ≤ 65535 ∧ 0 ≤ dist frm seq ∧ dist frm seq < size) → winB seq frm size = true) := win_yes ha
    have N : Hid (¬ (0 ≤ size ∧ size ≤ 65535 ∧ 0 ≤ dist frm seq ∧ dist frm seq < size) → winB seq frm size = false) := win_no
    generalize dist frm seq = d at *
    generalize winB seq frm size = b at *
    clear ha
    by_cases h1 : 0 ≤ size
    · by_cases h2 : size ≤ 65535
      · by_cases h3 : 0 ≤ d
        · by_cases h4 : d < size
          · obtain rfl := P.out (by omega)
            go_enter Try.func36, Try.ntmps36
            go_wp2_with fail
            refine (K.out _).mono ?_
            rintro e w1 ⟨rfl, hb1⟩
            go_wp2
            go_ret
            exact ⟨rfl, hb1.alloc hb1.size _⟩
          · obtain rfl := N.out (by omega)
            go_enter Try.func36, Try.ntmps36
            go_wp2_with fail
            refine (K.out _).mono ?_
            rintro e w1 ⟨rfl, hb1⟩
            go_wp2
            go_ret
            exact ⟨ret_b (a := decide (d < size)) (by simp; omega), hb1.alloc hb1.size _⟩
        · obtain rfl := N.out (by omega)
          go_enter Try.func36, Try.ntmps36
          go_wp2_with fail
          refine (K.out _).mono ?_
          rintro e w1 ⟨rfl, hb1⟩
          go_wp2
          go_ret
          exact ⟨rfl, hb1.alloc hb1.size _⟩
      · obtain rfl := N.out (by omega)
        go_enter Try.func36, Try.ntmps36
        go_wp2_with fail
        refine (K.out _).mono ?_
        rintro e w1 ⟨rfl, hb1⟩
        go_wp2
        go_ret
        exact ⟨rfl, hb1.alloc hb1.size _⟩
    · obtain rfl := N.out (by omega)
      go_enter Try.func36, Try.ntmps36
      go_wp2_with fail
      refine (K.out _).mono ?_
      rintro e w1 ⟨rfl, hb1⟩
      go_wp2
      go_ret
      exact ⟨rfl, hb1.alloc hb1.size _⟩
  · have hf : (sqB frm && sqB seq) = false := by simpa using ha
    have K := Lib.hid (show ∀ W, Calls Try.prog 34 #[.int .i64 frm, .int .i64 seq] W fun e w' => e = .returned (.agg #[.int .i64 3, .int .i64 0]) ∧ Below W.heap.size W w' from fun W => by
      have := implDist frm seq W
      simp only [distC, distV, hf, Bool.false_eq_true, if_false] at this
      exact this)
    have H : winB seq frm size = false := by
      unfold winB
      cases e1 : sqB seq <;> cases e2 : sqB frm <;> simp_all
    generalize winB seq frm size = b at *
    subst H
    clear ha hf
    go_enter Try.func36, Try.ntmps36
    go_wp2_with fail
    refine (K.out _).mono ?_
    rintro e w1 ⟨rfl, hb1⟩
    go_wp2
    go_ret
    exact ⟨rfl, hb1.alloc hb1.size _⟩

theorem exactWin (seq frm size : Int) (w : World) : Calls Try.prog 13 #[.int .i64 seq, .int .i64 frm, .int .i64 size] w fun e w' => e = .returned (.bool true) ∧ Below w.heap.size w w' := by
  obtain ⟨b, hc⟩ : ∃ b, b = winB seq frm size := ⟨_, rfl⟩
  have K1 := Lib.hid (show ∀ W, Calls Try.prog 39 #[.int .i64 seq, .int .i64 frm, .int .i64 size] W fun e w' => e = .returned (.bool b) ∧ W = w' by
    subst hc; exact fun W => specWin seq frm size W)
  have K2 := Lib.hid (show ∀ W, Calls Try.prog 36 #[.int .i64 seq, .int .i64 frm, .int .i64 size] W fun e w' => e = .returned (.bool b) ∧ Below W.heap.size W w' by
    subst hc; exact fun W => implWin seq frm size W)
  clear hc
  cases b
  all_goals
    go_enter Try.func13, Try.ntmps13
    go_wp2_with fail
    refine (K1.out _).mono ?_
    rintro e w1 ⟨rfl, rfl⟩
    go_wp2_with fail
    refine (K2.out _).mono ?_
    rintro e w2 ⟨rfl, hb2⟩
    go_wp2
    go_ret
    exact ⟨rfl, hb2⟩
end Go.Proofs.Ytgdjklbneeemfaa
