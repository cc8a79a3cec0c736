/-
  FindEntry of the model, and its exact law.
-/
import Derived.Test.YtfdfkcbighbfmaaC7E
namespace Go.Proofs.Ytfdfkcbighbfmaa
open Go.ChangeShapes Go.WideShapes Go.ChangeAt Go.RowKit

/-- the mac of x at the time t, or -1 -/
def MC (es : List En) (x t m : Int) : Prop := (m = -1 ∧ ∀ e ∈ es, e.i = x → e.u < t) ∨ ∃ e ∈ es, e.i = x ∧ t ≤ e.u ∧ m = e.m
set_option maxHeartbeats 1000000 in
theorem l7Mac_any (a : Option Addr) (len cap : Nat) (es : List En) (x t : Int) (w : World) (h : Le w a len cap es) (hn : (ips es).Nodup) :
    Calls Try.prog 104 #[.slice a len cap, .int .i64 x, .int .i64 t] w fun e w' => ∃ m, e = .returned (.int .i64 m) ∧ MC es x t m ∧ w = w' := by
  have K := Lib.hid (l7Find_any a len cap es x w h)
  rcases fdF_cases x es 0 with ⟨h1, h2⟩ | ⟨j, e, h1, h2, h3, _⟩
  · have HM : Hid (MC es x t (-1)) := .inl ⟨rfl, fun e he hi => absurd hi (h2 e he)⟩
    rw [h1] at K
    clear h h1 h2 hn
    go_enter Try.func104, Try.ntmps104
    go_wp2_with fail
    refine K.out.mono ?_
    rintro e w' ⟨rfl, rfl⟩
    go_wp2
    go_ret
    exact ⟨_, rfl, HM.out, rfl⟩
  · have hj : j < len := by have := (List.getElem?_eq_some_iff.1 h1).1; rw [h.length] at this; exact this
    obtain ⟨b, off, e', rfl, h1', c0, c1, c2⟩ := h.at hj
    rw [h1] at h1'
    cases h1'
    have he := List.mem_of_getElem? h1
    have HM : Hid (if t ≤ e.u then MC es x t e.m else MC es x t (-1)) := by
      simp only [Hid]
      split
      · exact .inr ⟨e, he, h2, by assumption, rfl⟩
      · exact .inl ⟨rfl, fun q hq hi => by
          have := nodup_one hn he hq (h2.trans hi.symm)
          subst this
          omega⟩
    have hlm : len ≤ maxLen := Nat.le_trans h.le h.max
    unfold maxLen at hlm
    rw [h3, Nat.zero_add] at K
    obtain ⟨qi, qm, qu⟩ := e
    simp only at c0 c1 c2 HM
    clear h h1 h2 h3 hn he
    have e0 : ¬ (j : Int) < 0 := by omega
    by_cases htu : t ≤ qu
    · have HV : Hid (MC es x t qm) := by have := HM.out; rwa [if_pos htu] at this
      have e1 : ¬ qu < t := by omega
      clear HM
      go_enter Try.func104, Try.ntmps104
      go_wp2_with fail
      refine K.out.mono ?_
      rintro e w' ⟨rfl, rfl⟩
      go_wp2
      go_ret
      exact ⟨_, rfl, HV.out, rfl⟩
    · have HV : Hid (MC es x t (-1)) := by have := HM.out; rwa [if_neg htu] at this
      have e1 : qu < t := by omega
      clear HM
      go_enter Try.func104, Try.ntmps104
      go_wp2_with fail
      refine K.out.mono ?_
      rintro e w' ⟨rfl, rfl⟩
      go_wp2
      go_ret
      exact ⟨_, rfl, HV.out, rfl⟩

set_option maxHeartbeats 2000000 in
theorem specFindEntry (a : Option Addr) (len cap : Nat) (es : List En) (x t : Int) (w : World) (h : Le w a len cap es) :
    Calls Try.prog 37 #[.slice a len cap, .int .i64 x, .int .i64 t] w fun e w' => ∃ c v, e = .returned (.agg #[.int .i64 c, .int .i64 v]) ∧ FA es x t c v ∧ Below w.heap.size w w' := by
  have B0 := Lib.hid ((Below.refl w.heap.size w).alloc (Nat.le_refl _) (.cells #[.int .i64 0, .int .i64 0] 37))
  have X0 := Lib.hid (Box.new w 37 #[.int .i64 0, .int .i64 0])
  have K := Lib.hid (specCacheFault a len cap es _ (h.below B0.out))
  have KM := Lib.hid (fun (hn : (ips es).Nodup) => l7Mac_any a len cap es x t _ (h.below B0.out) hn)
  clear h
  by_cases hc : cfC es = 0
  case neg =>
    have HF : Hid (FA es x t (cfC es) 0) := .inl ⟨hc, rfl, rfl⟩
    have hb : (cfC es != 0) = true := by simpa using hc
    clear hc KM
    generalize cfC es = c at *
    obtain ⟨_, x0, x1⟩ := X0.out.two
    have f0 := X0.out.frozen 0
    have f1 := X0.out.frozen 1
    go_enter Try.func37, Try.ntmps37
    go_wp2_with fail
    refine K.out.mono ?_
    rintro e w1 ⟨rfl, rfl⟩
    clear K X0
    go_wp2
    refine bodyPost_ret (v := .agg #[.int .i64 c, .int .i64 0]) (by simp [results, Try.results37, go_sem]) rfl ⟨_, _, rfl, HF.out, ?_⟩
    exact (Below.refl w.heap.size w).alloc (Nat.le_refl _) _
  have HC := Lib.hid hc
  rw [hc] at K
  have hz := cfC_zero hc
  have KM0 := Lib.hid (KM.out hz.2.2)
  have hok : Hid (∀ e ∈ es, 0 ≤ e.m) := fun e he => by
    have := List.all_eq_true.1 hz.2.1 e he
    unfold okE at this
    simp only [Bool.and_eq_true, inB, decide_eq_true_eq] at this
    exact this.1.2.1
  clear hc KM hz
  cases m0 : ipB x
  case' true => cases m1 : inB t 0 100000000
  case true.true =>
    have HE := Lib.hid (fun c v (h : FE es x t c v) => show FA es x t c v from .inr (.inr ⟨HC.out, by unfold ipB at m0; rw [m0, m1]; rfl, h⟩))
    go_enter Try.func37, Try.ntmps37
    go_wp2_with fail
    refine K.out.mono ?_
    rintro e w1 ⟨rfl, rfl⟩
    clear K
    go_wp2_with (first | (go_at_call 100; refine (l2Ip_any _ _).mono ?_; rintro e w' ⟨rfl, rfl⟩) | (go_at_call 102; refine (l7Time_any _ _).mono ?_; rintro e w' ⟨rfl, rfl⟩))
    refine KM0.out.mono ?_
    rintro e w' ⟨m, rfl, hm, rfl⟩
    rcases hm with ⟨rfl, hm⟩ | ⟨q, hq, hqi, hqu, rfl⟩
    · have HF := Lib.hid (HE.out 4 0 (.inl ⟨rfl, rfl, hm⟩))
      clear hm HE KM0
      go_wp2
      refine bodyPost_ret (v := .agg #[.int .i64 4, .int .i64 0]) (by simp [results, Try.results37, go_sem]) rfl ⟨_, _, rfl, HF.out, ?_⟩
      exact (Below.refl w.heap.size w).alloc (Nat.le_refl _) _
    · have HF := Lib.hid (HE.out 0 q.m (.inr ⟨rfl, q, hq, hqi, hqu, rfl⟩))
      have hge := hok.out q hq
      have hnl : ¬ q.m < 0 := by omega
      clear hq hqi hqu HE KM0
      generalize q.m = m at *
      go_wp2
      refine bodyPost_ret (v := .agg #[.int .i64 0, .int .i64 m]) (by simp [results, Try.results37, go_sem]) rfl ⟨_, _, rfl, HF.out, ?_⟩
      exact (Below.refl w.heap.size w).alloc (Nat.le_refl _) _
  all_goals
    have HF : Hid (FA es x t 3 0) := .inr (.inl ⟨HC.out, by unfold ipB at m0; simp [*], rfl, rfl⟩)
    go_enter Try.func37, Try.ntmps37
    go_wp2_with fail
    refine K.out.mono ?_
    rintro e w1 ⟨rfl, rfl⟩
    clear K
    go_wp2_with (first | (go_at_call 100; refine (l2Ip_any _ _).mono ?_; rintro e w' ⟨rfl, rfl⟩) | (go_at_call 102; refine (l7Time_any _ _).mono ?_; rintro e w' ⟨rfl, rfl⟩))
    refine bodyPost_ret (v := .agg #[.int .i64 3, .int .i64 0]) (by simp [results, Try.results37, go_sem]) rfl ⟨_, _, rfl, HF.out, ?_⟩
    exact (Below.refl w.heap.size w).alloc (Nat.le_refl _) _

set_option maxHeartbeats 2000000 in
theorem exactFindEntry (a : Option Addr) (len cap : Nat) (es : List En) (x t : Int) (w : World) (h : Le w a len cap es) :
    Calls Try.prog 9 #[.slice a len cap, .int .i64 x, .int .i64 t] w fun e w' => e = .returned (.bool true) ∧ Below w.heap.size w w' := by
  by_cases hs : len ≤ 1048576
  case neg =>
    have Z := Lib.hid (fun W => szEntryS_f a len cap 1048576 W hs (by omega) (Nat.le_trans h.le h.max))
    clear h
    go_enter Try.func9, Try.ntmps9
    go_wp2_with fail
    refine (Z.out _).mono ?_
    rintro e w1 ⟨rfl, rfl⟩
    go_wp2
    go_ret
    exact ⟨rfl, Below.refl _ _⟩
  have Z := Lib.hid (fun W => szEntryS_t a len cap 1048576 W hs (by omega))
  have hn : ¬ ((1048576 - len : Nat) : Int) < 0 := by omega
  have T := Lib.hid (fun W (hW : Below w.heap.size w W) => toEntryS_any a len cap es W (h.below hW) (by omega))
  have K1 := Lib.hid (fun W a la ca (ha : Le W a la ca es) => specFindEntry a la ca es x t W ha)
  have K2 := Lib.hid (fun W a la ca (ha : Le W a la ca es) => implFindEntry a la ca es x t W ha)
  have E1 := Lib.hid (fun W a la ca b lb cb (ha : Le W a la ca es) (hb : Le W b lb cb es) => by have := eqEntryS_any a b la ca lb cb es es W ha hb; rw [eqE_refl] at this; exact this)
  clear h hs
  generalize 1048576 - len = r at *
  go_enter Try.func9, Try.ntmps9
  go_wp2_with fail
  refine (Z.out _).mono ?_
  rintro e w1 ⟨rfl, rfl⟩
  clear Z
  go_wp2_with fail
  refine (T.out _ (Below.refl _ _)).mono ?_
  rintro e w2 ⟨a2, c2, rfl, l2, b2⟩
  have B2 := Lib.hid b2
  have KK := Lib.hid (K1.out w2 _ _ _ l2.le)
  clear b2 l2 K1
  go_wp2_with fail
  refine KK.out.mono ?_
  rintro e w4 ⟨c, v, rfl, hfa, b4⟩
  have HFA := Lib.hid hfa
  have B4 := Lib.hid ((B2.out.trans (b4.mono B2.out.size)).alloc (B2.out.trans (b4.mono B2.out.size)).size (.cells #[.int .i64 c, .int .i64 v] 37))
  have Y4 := Lib.hid (Box.new w4 37 #[.int .i64 c, .int .i64 v])
  clear KK hfa b4 B2
  go_wp2_with fail
  refine (T.out _ B4.out).mono ?_
  rintro e w5 ⟨a5, c5, rfl, l5, b5⟩
  have B5 := Lib.hid (B4.out.trans (b5.mono B4.out.size))
  have Y5 := Lib.hid (Y4.out.below b5 Y4.out.lt)
  have L5 := Lib.hid l5
  have KK := Lib.hid (K2.out w5 _ _ _ l5.le)
  clear b5 l5 B4 K2 Y4
  go_wp2_with fail
  refine KK.out.mono ?_
  rintro e w7 ⟨c', v', rfl, hfa, b7⟩
  obtain ⟨rfl, rfl⟩ := FA_uniq HFA.out hfa
  have B7 := Lib.hid ((B5.out.trans (b7.mono B5.out.size)).alloc (B5.out.trans (b7.mono B5.out.size)).size (.cells #[.int .i64 c, .int .i64 v] 37))
  have Y7 := Lib.hid ((Y5.out.below b7 Y5.out.lt).alloc (.cells #[.int .i64 c, .int .i64 v] 37))
  have L7 := Lib.hid ((L5.out.below b7).alloc (.cells #[.int .i64 c, .int .i64 v] 37))
  have Z7 := Lib.hid (Box.new w7 37 #[.int .i64 c, .int .i64 v])
  obtain ⟨_, y0, y1⟩ := (Y5.out.below b7 Y5.out.lt).two
  clear b7 B5 L5 KK hfa HFA Y5
  go_wp2_with fail
  refine (eqInt_t c v _).mono ?_
  rintro e w8 ⟨rfl, b8⟩
  have B8 := Lib.hid (B7.out.trans (b8.mono B7.out.size))
  have L8 := Lib.hid (L7.out.below b8)
  clear b8 B7 L7 Y7 Z7 y0 y1
  go_wp2_with fail
  refine (T.out _ B8.out).mono ?_
  rintro e w9 ⟨a9, c9, rfl, l9, b9⟩
  have B9 := Lib.hid (B8.out.trans (b9.mono B8.out.size))
  have KK := Lib.hid (E1.out w9 _ _ _ _ _ _ (L8.out.below b9).le l9.le)
  clear b9 l9 B8 L8 E1
  go_wp2_with fail
  refine KK.out.mono ?_
  rintro e w10 ⟨rfl, b10⟩
  have B10 := Lib.hid (B9.out.trans (b10.mono B9.out.size))
  clear b10 B9 KK
  go_wp2
  go_ret
  exact ⟨rfl, B10.out⟩
end Go.Proofs.Ytfdfkcbighbfmaa
