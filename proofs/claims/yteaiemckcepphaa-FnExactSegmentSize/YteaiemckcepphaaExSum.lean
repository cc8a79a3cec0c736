/-
  IsSummed of the program answers as the model does; the laws FnExactSumOf and FnExactIsSummed return true.
-/
import Derived.Test.YteaiemckcepphaaSumJ
namespace Go.Proofs.Yteaiemckcepphaa
open Go.ChangeShapes Go.WideShapes Go.ChangeAt Go.RowKit

def isS (zs : List Int) : Bool := decide (zs.length ≤ 700) && decide (sumV zs = 0)
theorem implIs (a : Option Addr) (len cap : Nat) (zs : List Int) (w : World) (h : Rd w a len cap zs) :
    Calls Try.prog 69 #[.slice a len cap] w fun e w' => e = .returned (.bool (isS zs)) ∧ Below w.heap.size w w' := by
  by_cases hl : zs.length ≤ 700
  · have K := Lib.hid (show Calls Try.prog 57 #[.slice a len cap] w fun e w' => e = .returned (.agg #[.int .i64 0, .int .i64 (sumV zs)]) ∧ Below w.heap.size w w' by
      have := implSum a len cap zs w h
      simp only [smC, smV, hl, if_true] at this
      exact this)
    have H : Hid (isS zs = (sumV zs == 0)) := by unfold Hid isS; rw [decide_eq_true hl, Bool.true_and]; rfl
    generalize isS zs = b at *
    generalize sumV zs = v at *
    clear h
    go_enter Try.func69, Try.ntmps69
    go_wp2_with fail
    refine (K.out).mono ?_
    rintro e w1 ⟨rfl, hb1⟩
    go_wp2
    go_ret
    exact ⟨ret_b (a := v == 0) H.out.symm, hb1.alloc hb1.size _⟩
  · have K := Lib.hid (show Calls Try.prog 57 #[.slice a len cap] w fun e w' => e = .returned (.agg #[.int .i64 2, .int .i64 0]) ∧ Below w.heap.size w w' by
      have := implSum a len cap zs w h
      simp only [smC, smV, hl, if_false] at this
      exact this)
    have H : Hid (isS zs = false) := by unfold Hid isS; rw [decide_eq_false hl, Bool.false_and]
    generalize isS zs = b at *
    clear h
    go_enter Try.func69, Try.ntmps69
    go_wp2_with fail
    refine (K.out).mono ?_
    rintro e w1 ⟨rfl, hb1⟩
    go_wp2
    go_ret
    exact ⟨ret_b H.out.symm, hb1.alloc hb1.size _⟩

end Go.Proofs.Yteaiemckcepphaa
