/-
  FindEntry of the model, and its exact law.
-/
import Derived.Test.YtbngdenlplbjhaaC7E
namespace Go.Proofs.Ytbngdenlplbjhaa
open Go.ChangeShapes Go.WideShapes Go.ChangeAt Go.RowKit

/-- the mac of x at the time t, or -1 -/
def MC (es : List En) (x t m : Int) : Prop := (m = -1 ∧ ∀ e ∈ es, e.i = x → e.u < t) ∨ ∃ e ∈ es, e.i = x ∧ t ≤ e.u ∧ m = e.m
set_option maxHeartbeats 1000000 in
theorem l7Mac_any (a : Option Addr) (len cap : Nat) (es : List En) (x t : Int) (w : World) (h : Le w a len cap es) (hn : (ips es).Nodup) :
    Calls Try.prog 51 #[.slice a len cap, .int .i64 x, .int .i64 t] w fun e w' => ∃ m, e = .returned (.int .i64 m) ∧ MC es x t m ∧ w = w' := by
  have K := Lib.hid (l7Find_any a len cap es x w h)
  rcases fdF_cases x es 0 with ⟨h1, h2⟩ | ⟨j, e, h1, h2, h3, _⟩
  · have HM : Hid (MC es x t (-1)) := .inl ⟨rfl, fun e he hi => absurd hi (h2 e he)⟩
    rw [h1] at K
    clear h h1 h2 hn
    go_enter Try.func51, Try.ntmps51
    go_wp2_with fail
    refine K.out.mono ?_
    rintro e w' ⟨rfl, rfl⟩
    go_wp2
    go_ret
    exact ⟨_, rfl, HM.out, rfl⟩
  · have hj : j < len := by have := (List.getElem?_eq_some_iff.1 h1).1; rw [h.length] at this; exact this
    obtain ⟨b, off, e', rfl, h1', c0, c1, c2⟩ := h.at hj
    rw [h1] at h1'
    cases h1'
    have he := List.mem_of_getElem? h1
    have HM : Hid (if t ≤ e.u then MC es x t e.m else MC es x t (-1)) := by
      simp only [Hid]
      split
      · exact .inr ⟨e, he, h2, by assumption, rfl⟩
      · exact .inl ⟨rfl, fun q hq hi => by
          have := nodup_one hn he hq (h2.trans hi.symm)
          subst this
          omega⟩
    have hlm : len ≤ maxLen := Nat.le_trans h.le h.max
    unfold maxLen at hlm
    rw [h3, Nat.zero_add] at K
    obtain ⟨qi, qm, qu⟩ := e
    simp only at c0 c1 c2 HM
    clear h h1 h2 h3 hn he
    have e0 : ¬ (j : Int) < 0 := by omega
    by_cases htu : t ≤ qu
    · have HV : Hid (MC es x t qm) := by have := HM.out; rwa [if_pos htu] at this
      have e1 : ¬ qu < t := by omega
      clear HM
      go_enter Try.func51, Try.ntmps51
      go_wp2_with fail
      refine K.out.mono ?_
      rintro e w' ⟨rfl, rfl⟩
      go_wp2
      go_ret
      exact ⟨_, rfl, HV.out, rfl⟩
    · have HV : Hid (MC es x t (-1)) := by have := HM.out; rwa [if_neg htu] at this
      have e1 : qu < t := by omega
      clear HM
      go_enter Try.func51, Try.ntmps51
      go_wp2_with fail
      refine K.out.mono ?_
      rintro e w' ⟨rfl, rfl⟩
      go_wp2
      go_ret
      exact ⟨_, rfl, HV.out, rfl⟩

set_option maxHeartbeats 2000000 in
theorem specFindEntry (a : Option Addr) (len cap : Nat) (es : List En) (x t : Int) (w : World) (h : Le w a len cap es) :
    Calls Try.prog 14 #[.slice a len cap, .int .i64 x, .int .i64 t] w fun e w' => ∃ c v, e = .returned (.agg #[.int .i64 c, .int .i64 v]) ∧ FA es x t c v ∧ Below w.heap.size w w' := by
  have B0 := Lib.hid ((Below.refl w.heap.size w).alloc (Nat.le_refl _) (.cells #[.int .i64 0, .int .i64 0] 33))
  have X0 := Lib.hid (Box.new w 33 #[.int .i64 0, .int .i64 0])
  have K := Lib.hid (specCacheFault a len cap es _ (h.below B0.out))
  have KM := Lib.hid (fun (hn : (ips es).Nodup) => l7Mac_any a len cap es x t _ (h.below B0.out) hn)
  clear h
  by_cases hc : cfC es = 0
  case neg =>
    have HF : Hid (FA es x t (cfC es) 0) := .inl ⟨hc, rfl, rfl⟩
    have hb : (cfC es != 0) = true := by simpa using hc
    clear hc KM
    generalize cfC es = c at *
    obtain ⟨_, x0, x1⟩ := X0.out.two
    have f0 := X0.out.frozen 0
    have f1 := X0.out.frozen 1
    go_enter Try.func14, Try.ntmps14
    go_wp2_with fail
    refine K.out.mono ?_
    rintro e w1 ⟨rfl, rfl⟩
    clear K X0
    go_wp2
    refine bodyPost_ret (v := .agg #[.int .i64 c, .int .i64 0]) (by simp [results, Try.results14, go_sem]) rfl ⟨_, _, rfl, HF.out, ?_⟩
    exact (Below.refl w.heap.size w).alloc (Nat.le_refl _) _
  have HC := Lib.hid hc
  rw [hc] at K
  have hz := cfC_zero hc
  have KM0 := Lib.hid (KM.out hz.2.2)
  have hok : Hid (∀ e ∈ es, 0 ≤ e.m) := fun e he => by
    have := List.all_eq_true.1 hz.2.1 e he
    unfold okE at this
    simp only [Bool.and_eq_true, inB, decide_eq_true_eq] at this
    exact this.1.2.1
  clear hc KM hz
  cases m0 : ipB x
  case' true => cases m1 : inB t 0 100000000
  case true.true =>
    have HE := Lib.hid (fun c v (h : FE es x t c v) => show FA es x t c v from .inr (.inr ⟨HC.out, by unfold ipB at m0; rw [m0, m1]; rfl, h⟩))
    go_enter Try.func14, Try.ntmps14
    go_wp2_with fail
    refine K.out.mono ?_
    rintro e w1 ⟨rfl, rfl⟩
    clear K
    go_wp2_with (first | (go_at_call 47; refine (l2Ip_any _ _).mono ?_; rintro e w' ⟨rfl, rfl⟩) | (go_at_call 49; refine (l7Time_any _ _).mono ?_; rintro e w' ⟨rfl, rfl⟩))
    refine KM0.out.mono ?_
    rintro e w' ⟨m, rfl, hm, rfl⟩
    rcases hm with ⟨rfl, hm⟩ | ⟨q, hq, hqi, hqu, rfl⟩
    · have HF := Lib.hid (HE.out 4 0 (.inl ⟨rfl, rfl, hm⟩))
      clear hm HE KM0
      go_wp2
      refine bodyPost_ret (v := .agg #[.int .i64 4, .int .i64 0]) (by simp [results, Try.results14, go_sem]) rfl ⟨_, _, rfl, HF.out, ?_⟩
      exact (Below.refl w.heap.size w).alloc (Nat.le_refl _) _
    · have HF := Lib.hid (HE.out 0 q.m (.inr ⟨rfl, q, hq, hqi, hqu, rfl⟩))
      have hge := hok.out q hq
      have hnl : ¬ q.m < 0 := by omega
      clear hq hqi hqu HE KM0
      generalize q.m = m at *
      go_wp2
      refine bodyPost_ret (v := .agg #[.int .i64 0, .int .i64 m]) (by simp [results, Try.results14, go_sem]) rfl ⟨_, _, rfl, HF.out, ?_⟩
      exact (Below.refl w.heap.size w).alloc (Nat.le_refl _) _
  all_goals
    have HF : Hid (FA es x t 3 0) := .inr (.inl ⟨HC.out, by unfold ipB at m0; simp [*], rfl, rfl⟩)
    go_enter Try.func14, Try.ntmps14
    go_wp2_with fail
    refine K.out.mono ?_
    rintro e w1 ⟨rfl, rfl⟩
    clear K
    go_wp2_with (first | (go_at_call 47; refine (l2Ip_any _ _).mono ?_; rintro e w' ⟨rfl, rfl⟩) | (go_at_call 49; refine (l7Time_any _ _).mono ?_; rintro e w' ⟨rfl, rfl⟩))
    refine bodyPost_ret (v := .agg #[.int .i64 3, .int .i64 0]) (by simp [results, Try.results14, go_sem]) rfl ⟨_, _, rfl, HF.out, ?_⟩
    exact (Below.refl w.heap.size w).alloc (Nat.le_refl _) _

end Go.Proofs.Ytbngdenlplbjhaa
