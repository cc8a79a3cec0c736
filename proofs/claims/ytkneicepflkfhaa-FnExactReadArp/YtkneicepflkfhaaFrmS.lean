/-
  SameFrames of the model.
-/
import Derived.Test.YtkneicepflkfhaaFrm
import Derived.Test.YtkneicepflkfhaaStr
namespace Go.Proofs.Ytkneicepflkfhaa
open Go.ChangeShapes Go.WideShapes Go.ChangeAt Go.RowKit

def sameB (to fr kd : Int) (zs : List Int) (to' fr' kd' : Int) (zs' : List Int) : Bool := decide (to = to') && decide (fr = fr') && decide (kd = kd') && eqL zs zs'

set_option maxHeartbeats 1000000 in
theorem specSame (to fr kd : Int) (a : Option Addr) (len cap : Nat) (zs : List Int) (to' fr' kd' : Int) (a' : Option Addr) (len' cap' : Nat) (zs' : List Int) (w : World) (hr : Rd w a len cap zs) (hr' : Rd w a' len' cap' zs') :
    Calls Try.prog 37 #[.agg #[.int .i64 to, .int .i64 fr, .int .i64 kd, .slice a len cap], .agg #[.int .i64 to', .int .i64 fr', .int .i64 kd', .slice a' len' cap']] w fun e w' => e = .returned (.bool (sameB to fr kd zs to' fr' kd' zs')) ∧ Below w.heap.size w w' := by
  have B0 := Lib.hid (((Below.refl w.heap.size w).alloc (Nat.le_refl _) (.cells #[.int .i64 to, .int .i64 fr, .int .i64 kd, .slice a len cap] 27)).alloc (by simp) (.cells #[.int .i64 to', .int .i64 fr', .int .i64 kd', .slice a' len' cap'] 27))
  by_cases h0 : to = to'
  · subst h0
    by_cases h1 : fr = fr'
    · subst h1
      by_cases h2 : kd = kd'
      · subst h2
        have c1 := conv_rd ((hr.alloc (.cells #[.int .i64 to, .int .i64 fr, .int .i64 kd, .slice a len cap] 27)).alloc (.cells #[.int .i64 to, .int .i64 fr, .int .i64 kd, .slice a' len' cap'] 27))
        have c2 := conv_rd ((hr'.alloc (.cells #[.int .i64 to, .int .i64 fr, .int .i64 kd, .slice a len cap] 27)).alloc (.cells #[.int .i64 to, .int .i64 fr, .int .i64 kd, .slice a' len' cap'] 27))
        by_cases h3 : zs = zs'
        · subst h3
          have H : Hid (sameB to fr kd zs to fr kd zs = true) := by simp [sameB, Hid, eqL]
          clear hr hr'
          generalize strOfNums zs = s at *
          go_enter Try.func37, Try.ntmps37
          go_wp2
          go_ret
          exact ⟨ret_b H.out.symm, B0.out⟩
        · have H : Hid (sameB to fr kd zs to fr kd zs' = false) := by simp [sameB, Hid, eqL, h3]
          have h5 := str_ne hr.b8 hr'.b8 h3
          clear hr hr' h3
          generalize strOfNums zs = s at *
          generalize strOfNums zs' = s' at *
          go_enter Try.func37, Try.ntmps37
          go_wp2
          go_ret
          exact ⟨ret_b H.out.symm, B0.out⟩
      · have H : Hid (sameB to fr kd zs to fr kd' zs' = false) := by simp [sameB, Hid, h2]
        have e2 : (kd == kd') = false := by simpa using h2
        clear hr hr' h2
        go_enter Try.func37, Try.ntmps37
        go_wp2
        go_ret
        exact ⟨ret_b H.out.symm, B0.out⟩
    · have H : Hid (sameB to fr kd zs to fr' kd' zs' = false) := by simp [sameB, Hid, h1]
      have e1 : (fr == fr') = false := by simpa using h1
      clear hr hr' h1
      go_enter Try.func37, Try.ntmps37
      go_wp2
      go_ret
      exact ⟨ret_b H.out.symm, B0.out⟩
  · have H : Hid (sameB to fr kd zs to' fr' kd' zs' = false) := by simp [sameB, Hid, h0]
    have e0 : (to == to') = false := by simpa using h0
    clear hr hr' h0
    go_enter Try.func37, Try.ntmps37
    go_wp2
    go_ret
    exact ⟨ret_b H.out.symm, B0.out⟩
end Go.Proofs.Ytkneicepflkfhaa
