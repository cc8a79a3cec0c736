/-
  bytes.Equal, and SameFrames of the program.
-/
import Derived.Test.YtkneicepflkfhaaFrmS
import Derived.Test.YtkneicepflkfhaaExFrmS
namespace Go.Proofs.Ytkneicepflkfhaa
open Go.ChangeShapes Go.WideShapes Go.ChangeAt Go.RowKit

theorem equal_any (a : Option Addr) (len cap : Nat) (zs : List Int) (a' : Option Addr) (len' cap' : Nat) (zs' : List Int) (w : World) (hr : Rd w a len cap zs) (hr' : Rd w a' len' cap' zs') :
    Calls Try.prog 61 #[.slice a len cap, .slice a' len' cap'] w fun e w' => e = .returned (.bool (eqL zs zs')) ∧ w = w' := by
  have c1 := conv_rd hr
  have c2 := conv_rd hr'
  by_cases h3 : zs = zs'
  · subst h3
    have H : Hid (eqL zs zs = true) := by simp [Hid, eqL]
    clear hr hr'
    generalize strOfNums zs = s at *
    go_enter Try.func61, Try.ntmps61
    go_wp2
    go_ret
    exact ⟨ret_b H.out.symm, rfl⟩
  · have H : Hid (eqL zs zs' = false) := by simp [Hid, eqL, h3]
    have h5 := str_ne hr.b8 hr'.b8 h3
    clear hr hr' h3
    generalize strOfNums zs = s at *
    generalize strOfNums zs' = s' at *
    go_enter Try.func61, Try.ntmps61
    go_wp2
    go_ret
    exact ⟨ret_b H.out.symm, rfl⟩

set_option maxHeartbeats 1000000 in
theorem implSame (to fr kd : Int) (a : Option Addr) (len cap : Nat) (zs : List Int) (to' fr' kd' : Int) (a' : Option Addr) (len' cap' : Nat) (zs' : List Int) (w : World) (hr : Rd w a len cap zs) (hr' : Rd w a' len' cap' zs') :
    Calls Try.prog 38 #[.agg #[.int .i64 to, .int .i64 fr, .int .i64 kd, .slice a len cap], .agg #[.int .i64 to', .int .i64 fr', .int .i64 kd', .slice a' len' cap']] w fun e w' => e = .returned (.bool (sameB to fr kd zs to' fr' kd' zs')) ∧ Below w.heap.size w w' := by
  have B0 := Lib.hid (((Below.refl w.heap.size w).alloc (Nat.le_refl _) (.cells #[.int .i64 to, .int .i64 fr, .int .i64 kd, .slice a len cap] 27)).alloc (by simp) (.cells #[.int .i64 to', .int .i64 fr', .int .i64 kd', .slice a' len' cap'] 27))
  have K := Lib.hid (fun W (hW : Below w.heap.size w W) => equal_any a len cap zs a' len' cap' zs' W (hr.below hW) (hr'.below hW))
  clear hr hr'
  by_cases h0 : to = to'
  · subst h0
    by_cases h1 : fr = fr'
    · subst h1
      by_cases h2 : kd = kd'
      · subst h2
        have H : Hid (sameB to fr kd zs to fr kd zs' = eqL zs zs') := by simp [sameB, Hid]
        generalize eqL zs zs' = q at *
        go_enter Try.func38, Try.ntmps38
        go_wp2_with (go_at_call 61; refine (K.out _ B0.out).mono ?_; rintro e w' ⟨rfl, rfl⟩)
        go_ret
        exact ⟨ret_b H.out.symm, B0.out⟩
      · have H : Hid (sameB to fr kd zs to fr kd' zs' = false) := by simp [sameB, Hid, h2]
        have e2 : (kd == kd') = false := by simpa using h2
        clear h2
        go_enter Try.func38, Try.ntmps38
        go_wp2
        go_ret
        exact ⟨ret_b H.out.symm, B0.out⟩
    · have H : Hid (sameB to fr kd zs to fr' kd' zs' = false) := by simp [sameB, Hid, h1]
      have e1 : (fr == fr') = false := by simpa using h1
      clear h1
      go_enter Try.func38, Try.ntmps38
      go_wp2
      go_ret
      exact ⟨ret_b H.out.symm, B0.out⟩
  · have H : Hid (sameB to fr kd zs to' fr' kd' zs' = false) := by simp [sameB, Hid, h0]
    have e0 : (to == to') = false := by simpa using h0
    clear h0
    go_enter Try.func38, Try.ntmps38
    go_wp2
    go_ret
    exact ⟨ret_b H.out.symm, B0.out⟩

theorem same_law (to fr kd : Int) (a : Option Addr) (len cap : Nat) (zs : List Int) (to' fr' kd' : Int) (a' : Option Addr) (len' cap' : Nat) (zs' : List Int) (w : World) (hr : Rd w a len cap zs) (hr' : Rd w a' len' cap' zs') :
    Calls Try.prog 9 #[.agg #[.int .i64 to, .int .i64 fr, .int .i64 kd, .slice a len cap], .agg #[.int .i64 to', .int .i64 fr', .int .i64 kd', .slice a' len' cap']] w fun e w' => e = .returned (.bool true) ∧ Below w.heap.size w w' :=
  exactSame to fr kd a len cap zs to' fr' kd' a' len' cap' zs' w hr hr' (fun b l c b' l' c' W h h' => implSame to fr kd b l c zs to' fr' kd' b' l' c' zs' W h h')
end Go.Proofs.Ytkneicepflkfhaa
