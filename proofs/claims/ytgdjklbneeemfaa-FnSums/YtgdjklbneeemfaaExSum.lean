/-
  IsSummed of the program answers as the model does; the laws FnExactSumOf and FnExactIsSummed return true.
-/
import Derived.Test.YtgdjklbneeemfaaSumJ
namespace Go.Proofs.Ytgdjklbneeemfaa
open Go.ChangeShapes Go.WideShapes Go.ChangeAt Go.RowKit

set_option maxHeartbeats 1000000 in
theorem exactSum (a : Option Addr) (len cap : Nat) (zs : List Int) (w : World) (h : Rd w a len cap zs) :
    Calls Try.prog 8 #[.slice a len cap] w fun e w' => e = .returned (.bool true) ∧ Below w.heap.size w w' := by
  by_cases hbig : len ≤ 1048576
  · obtain ⟨c, hc⟩ : ∃ c, c = smC zs := ⟨_, rfl⟩
    obtain ⟨v, hv⟩ : ∃ v, v = smV zs := ⟨_, rfl⟩
    have K1 := Lib.hid (show ∀ (a' : Option Addr) (l' c' : Nat) (W : World), Rd W a' l' c' zs → Calls Try.prog 28 #[.slice a' l' c'] W fun e w' => e = .returned (.agg #[.int .i64 c, .int .i64 v]) ∧ Below W.heap.size W w' by
      subst hc; subst hv; exact fun a' l' c' W h => specSum a' l' c' zs W h)
    have K2 := Lib.hid (show ∀ (a' : Option Addr) (l' c' : Nat) (W : World), Rd W a' l' c' zs → Calls Try.prog 25 #[.slice a' l' c'] W fun e w' => e = .returned (.agg #[.int .i64 c, .int .i64 v]) ∧ Below W.heap.size W w' by
      subst hc; subst hv; exact fun a' l' c' W h => implSum a' l' c' zs W h)
    have T := Lib.hid (fun W (hW : Below w.heap.size w W) => toByteS_any a len cap zs W (h.below hW) hbig)
    clear hc hv
    go_enter Try.func8, Try.ntmps8
    go_wp2_with fail
    refine (T.out _ (Below.refl _ _)).mono ?_
    rintro e w1 ⟨rfl, o1, b1⟩
    have B1 := Lib.hid b1
    clear b1
    go_wp2_with fail
    refine (K1.out _ _ _ _ o1.rd).mono ?_
    rintro e w2 ⟨rfl, b2⟩
    have B2 : Hid (Below w.heap.size w (w2.alloc (.cells #[.int .i64 c, .int .i64 v] 32))) := (B1.out.trans (b2.mono B1.out.size)).alloc (Nat.le_trans B1.out.size b2.size) _
    clear b2
    have x1 := Box.new w2 32 #[.int .i64 c, .int .i64 v]
    generalize hW2 : w2.alloc (.cells #[.int .i64 c, .int .i64 v] 32) = W2 at *
    go_wp2_with fail
    refine (T.out _ B2.out).mono ?_
    rintro e w3 ⟨rfl, o3, b3⟩
    have B3 : Hid (Below w.heap.size w w3) := B2.out.trans (b3.mono B2.out.size)
    have x1 := x1.below b3 x1.lt
    clear b3 hW2
    go_wp2_with fail
    refine (K2.out _ _ _ _ o3.rd).mono ?_
    rintro e w4 ⟨rfl, b4⟩
    have B4 : Hid (Below w.heap.size w (w4.alloc (.cells #[.int .i64 c, .int .i64 v] 32))) := (B3.out.trans (b4.mono B3.out.size)).alloc (Nat.le_trans B3.out.size b4.size) _
    have o4 := (o3.below b4).alloc (.cells #[.int .i64 c, .int .i64 v] 32)
    obtain ⟨hz, c0, c1⟩ := (x1.below b4 x1.lt).two
    clear b4
    go_wp2_with fail
    refine (eqInt_t _ _ _).mono ?_
    rintro e w5 ⟨rfl, b5⟩
    have B5 : Hid (Below w.heap.size w w5) := B4.out.trans (b5.mono B4.out.size)
    have o5 := o4.below b5
    clear b5 hz c0 c1
    go_wp2_with fail
    refine (T.out _ B5.out).mono ?_
    rintro e w6 ⟨rfl, o6, b6⟩
    have B6 : Hid (Below w.heap.size w w6) := B5.out.trans (b6.mono B5.out.size)
    have o7 := o5.below b6
    have hq : eqL zs zs = true := decide_eq_true rfl
    clear b6
    go_wp2_with fail
    refine (eqByteS_any _ _ _ _ _ _ zs zs _ o7.rd o6.rd).mono ?_
    rintro e w7 ⟨rfl, b7⟩
    have B7 : Hid (Below w.heap.size w w7) := B6.out.trans (b7.mono B6.out.size)
    clear b7
    go_wp2
    go_ret
    exact ⟨rfl, B7.out⟩
  · go_enter Try.func8, Try.ntmps8
    go_wp2
    go_ret
    exact ⟨rfl, Below.refl _ _⟩

def isS (zs : List Int) : Bool := decide (zs.length ≤ 700) && decide (sumV zs = 0)
theorem implIs (a : Option Addr) (len cap : Nat) (zs : List Int) (w : World) (h : Rd w a len cap zs) :
    Calls Try.prog 29 #[.slice a len cap] w fun e w' => e = .returned (.bool (isS zs)) ∧ Below w.heap.size w w' := by
  by_cases hl : zs.length ≤ 700
  · have K := Lib.hid (show Calls Try.prog 25 #[.slice a len cap] w fun e w' => e = .returned (.agg #[.int .i64 0, .int .i64 (sumV zs)]) ∧ Below w.heap.size w w' by
      have := implSum a len cap zs w h
      simp only [smC, smV, hl, if_true] at this
      exact this)
    have H : Hid (isS zs = (sumV zs == 0)) := by unfold Hid isS; rw [decide_eq_true hl, Bool.true_and]; rfl
    generalize isS zs = b at *
    generalize sumV zs = v at *
    clear h
    go_enter Try.func29, Try.ntmps29
    go_wp2_with fail
    refine (K.out).mono ?_
    rintro e w1 ⟨rfl, hb1⟩
    go_wp2
    go_ret
    exact ⟨ret_b (a := v == 0) H.out.symm, hb1.alloc hb1.size _⟩
  · have K := Lib.hid (show Calls Try.prog 25 #[.slice a len cap] w fun e w' => e = .returned (.agg #[.int .i64 2, .int .i64 0]) ∧ Below w.heap.size w w' by
      have := implSum a len cap zs w h
      simp only [smC, smV, hl, if_false] at this
      exact this)
    have H : Hid (isS zs = false) := by unfold Hid isS; rw [decide_eq_false hl, Bool.false_and]
    generalize isS zs = b at *
    clear h
    go_enter Try.func29, Try.ntmps29
    go_wp2_with fail
    refine (K.out).mono ?_
    rintro e w1 ⟨rfl, hb1⟩
    go_wp2
    go_ret
    exact ⟨ret_b H.out.symm, hb1.alloc hb1.size _⟩

set_option maxHeartbeats 1000000 in
theorem exactIs (a : Option Addr) (len cap : Nat) (zs : List Int) (w : World) (h : Rd w a len cap zs) :
    Calls Try.prog 10 #[.slice a len cap] w fun e w' => e = .returned (.bool true) ∧ Below w.heap.size w w' := by
  by_cases hbig : len ≤ 1048576
  · have T := Lib.hid (fun W (hW : Below w.heap.size w W) => toByteS_any a len cap zs W (h.below hW) hbig)
    obtain ⟨v, hv⟩ : ∃ v, v = isS zs := ⟨_, rfl⟩
    have K1 := Lib.hid (show ∀ (a' : Option Addr) (l' c' : Nat) (W : World), Rd W a' l' c' zs → Calls Try.prog 30 #[.slice a' l' c'] W fun e w' => e = .returned (.bool v) ∧ W = w' by
      subst hv; exact fun a' l' c' W h => specIs a' l' c' zs W h)
    have K2 := Lib.hid (show ∀ (a' : Option Addr) (l' c' : Nat) (W : World), Rd W a' l' c' zs → Calls Try.prog 29 #[.slice a' l' c'] W fun e w' => e = .returned (.bool v) ∧ Below W.heap.size W w' by
      subst hv; exact fun a' l' c' W h => implIs a' l' c' zs W h)
    clear hv
    have hq : eqL zs zs = true := decide_eq_true rfl
    cases v
    all_goals
      go_enter Try.func10, Try.ntmps10
      go_wp2_with fail
      refine (T.out _ (Below.refl _ _)).mono ?_
      rintro e w1 ⟨rfl, o1, b1⟩
      have B1 := Lib.hid b1
      clear b1
      go_wp2_with fail
      refine (K1.out _ _ _ _ o1.rd).mono ?_
      rintro e w2 ⟨rfl, rfl⟩
      go_wp2_with fail
      refine (T.out _ B1.out).mono ?_
      rintro e w3 ⟨rfl, o3, b3⟩
      have B3 : Hid (Below w.heap.size w w3) := B1.out.trans (b3.mono B1.out.size)
      clear b3
      go_wp2_with fail
      refine (K2.out _ _ _ _ o3.rd).mono ?_
      rintro e w4 ⟨rfl, b4⟩
      have B4 : Hid (Below w.heap.size w w4) := B3.out.trans (b4.mono B3.out.size)
      have o4 := o3.below b4
      clear b4
      go_wp2_with fail
      refine (T.out _ B4.out).mono ?_
      rintro e w6 ⟨rfl, o6, b6⟩
      have B6 : Hid (Below w.heap.size w w6) := B4.out.trans (b6.mono B4.out.size)
      have o7 := o4.below b6
      clear b6
      go_wp2_with fail
      refine (eqByteS_any _ _ _ _ _ _ zs zs _ o7.rd o6.rd).mono ?_
      rintro e w7 ⟨rfl, b7⟩
      have B7 : Hid (Below w.heap.size w w7) := B6.out.trans (b7.mono B6.out.size)
      clear b7
      go_wp2
      go_ret
      exact ⟨rfl, B7.out⟩
  · go_enter Try.func10, Try.ntmps10
    go_wp2
    go_ret
    exact ⟨rfl, Below.refl _ _⟩
end Go.Proofs.Ytgdjklbneeemfaa
