/-
  LearnEntry of the model, and its exact law.
-/
import Derived.Test.YtbngdenlplbjhaaC7Y
import Derived.Test.YtbngdenlplbjhaaC7K
import Derived.Test.YtbngdenlplbjhaaC7W
import Derived.Test.YtbngdenlplbjhaaE8L
namespace Go.Proofs.Ytbngdenlplbjhaa
open Go.ChangeShapes Go.WideShapes Go.ChangeAt Go.RowKit

set_option maxHeartbeats 2000000 in
theorem specLearnEntry (a : Option Addr) (len cap : Nat) (es : List En) (x m t : Int) (w : World) (h : Le w a len cap es) :
    Calls Try.prog 13 #[.slice a len cap, .int .i64 x, .int .i64 m, .int .i64 t] w (CaOut w (lnC es x m t) (lnV es x m t)) := by
  have B0 := Lib.hid ((Below.refl w.heap.size w).alloc (Nat.le_refl _) (.cells #[.int .i64 0, .slice none 0 0] 28))
  have X0 := Lib.hid (Box.new w 28 #[.int .i64 0, .slice none 0 0])
  have K := Lib.hid (specCacheFault a len cap es _ (h.below B0.out))
  have HLE := h.length
  have KA := Lib.hid (fun (h1 : len ≤ 4) (h2 : 0 ≤ t ∧ t ≤ 100000000) => l7Learn_any a len cap es x m t _ (h.below B0.out) h1 h2)
  clear h
  by_cases hc : cfC es = 0
  case neg =>
    have HF : Hid (lnC es x m t = cfC es ∧ lnV es x m t = []) := by
      have e : lnC es x m t = cfC es := if_neg hc
      exact ⟨e, if_neg (by rw [e]; exact hc)⟩
    rw [HF.out.1, HF.out.2]
    have hb : (cfC es != 0) = true := by simpa using hc
    clear hc KA HF HLE
    generalize cfC es = c at *
    obtain ⟨_, x0, x1⟩ := X0.out.two
    have f0 := X0.out.frozen 0
    have f1 := X0.out.frozen 1
    go_enter Try.func13, Try.ntmps13
    go_wp2_with fail
    refine K.out.mono ?_
    rintro e w1 ⟨rfl, rfl⟩
    clear K X0
    go_wp2
    refine bodyPost_ret (v := .agg #[.int .i64 c, .slice none 0 0]) (by simp [results, Try.results13, go_sem]) rfl ⟨_, _, _, rfl, EO.nil0 _ _ _, ?_⟩
    exact (Below.refl w.heap.size w).alloc (Nat.le_refl _) _
  have h4 : len ≤ 4 := by have := (cfC_zero hc).1; omega
  rw [hc] at K
  cases hB : (inB x 0 4294967295 && inB m 0 281474976710655 && inB t 0 100000000)
  · have HF : Hid (lnC es x m t = 3 ∧ lnV es x m t = []) := by
      have e : lnC es x m t = 3 := by unfold lnC; rw [if_pos hc, hB]; rfl
      exact ⟨e, if_neg (by rw [e]; decide)⟩
    rw [HF.out.1, HF.out.2]
    clear hc KA HF HLE h4
    have goal : ∀ (w2 : World), w2 = w.alloc (.cells #[.int .i64 0, .slice none 0 0] 28) → True := fun _ _ => trivial
    clear goal
    cases m0 : inB x 0 4294967295
    case' true => cases m1 : inB m 0 281474976710655
    case' true.true => cases m2 : inB t 0 100000000
    case true.true.true => rw [m0, m1, m2] at hB; cases hB
    all_goals
      clear hB
      have e0 := m0
      rw [show inB x 0 4294967295 = ipB x from rfl] at e0
      try rw [show inB m 0 281474976710655 = macB m from rfl] at m1
      clear m0
      go_enter Try.func13, Try.ntmps13
      go_wp2_with fail
      refine K.out.mono ?_
      rintro e w1 ⟨rfl, rfl⟩
      clear K
      go_wp2_with (first | (go_at_call 47; refine (l2Ip_any _ _).mono ?_; rintro e w' ⟨rfl, rfl⟩) | (go_at_call 48; refine (l2Mac_any _ _).mono ?_; rintro e w' ⟨rfl, rfl⟩) | (go_at_call 49; refine (l7Time_any _ _).mono ?_; rintro e w' ⟨rfl, rfl⟩))
      refine bodyPost_ret (v := .agg #[.int .i64 3, .slice none 0 0]) (by simp [results, Try.results13, go_sem]) rfl ⟨_, _, _, rfl, EO.nil0 _ _ _, ?_⟩
      exact (Below.refl w.heap.size w).alloc (Nat.le_refl _) _
  · have HF : Hid (lnC es x m t = 0 ∧ lnV es x m t = lnE x m t es) := by
      have e : lnC es x m t = 0 := by unfold lnC; rw [if_pos hc, hB]; rfl
      exact ⟨e, if_pos e⟩
    rw [HF.out.1, HF.out.2]
    simp only [Bool.and_eq_true] at hB
    obtain ⟨⟨m0, m1⟩, m2⟩ := hB
    have ht : 0 ≤ t ∧ t ≤ 100000000 := by unfold inB at m2; simpa using m2
    have KB := Lib.hid (KA.out h4 ht)
    have e0 : ipB x = true := m0
    have e1 : macB m = true := m1
    clear hc HF KA HLE h4 ht m0 m1
    go_enter Try.func13, Try.ntmps13
    go_wp2_with fail
    refine K.out.mono ?_
    rintro e w1 ⟨rfl, rfl⟩
    clear K
    go_wp2_with (first | (go_at_call 47; refine (l2Ip_any _ _).mono ?_; rintro e w' ⟨rfl, rfl⟩) | (go_at_call 48; refine (l2Mac_any _ _).mono ?_; rintro e w' ⟨rfl, rfl⟩) | (go_at_call 49; refine (l7Time_any _ _).mono ?_; rintro e w' ⟨rfl, rfl⟩))
    refine KB.out.mono ?_
    rintro e w2 ⟨a2, n2, c2, rfl, o2, b2⟩
    have X2 := X0.out.below b2 X0.out.lt
    obtain ⟨zx, x0, x1⟩ := X2.two
    have f0 := X2.frozen 0
    have f1 := X2.frozen 1
    have B2 := Lib.hid (B0.out.trans (b2.mono B0.out.size))
    have O2 := Lib.hid o2
    clear b2 o2 X2 X0 KB B0
    go_wp2
    refine bodyPost_ret (v := .agg #[.int .i64 0, .slice a2 n2 c2]) (by simp [results, Try.results13, go_sem, x0, x1]) rfl ⟨_, _, _, rfl, ?_, ?_⟩
    · refine ((O2.out.setOff _ _ (by simp)).setOff _ _ (by simp)).mono (by simp) (by simp)
    · exact (B2.out.setCell (Nat.le_refl _) _).setCell (Nat.le_refl _) _

theorem lnV_len (es : List En) (x m t : Int) : (lnV es x m t).length ≤ 5 := by
  unfold lnV
  split
  · next h =>
    have hc : cfC es = 0 := by
      unfold lnC at h
      split at h
      · assumption
      · exact absurd h (by assumption)
    have h4 := (cfC_zero hc).1
    have hl : (noE x es).length ≤ 4 := Nat.le_trans (List.length_filter_le _ _) h4
    have := roomL_len hl
    unfold lnE
    rw [List.length_append]
    simp only [List.length_cons, List.length_nil]
    omega
  · simp
end Go.Proofs.Ytbngdenlplbjhaa
