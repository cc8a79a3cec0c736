/-
  bytes.Equal, and SameFrames of the program.
-/
import Derived.Test.YtimlobhlcmghfaaFrmS
import Derived.Test.YtimlobhlcmghfaaExFrmS
namespace Go.Proofs.Ytimlobhlcmghfaa
open Go.ChangeShapes Go.WideShapes Go.ChangeAt Go.RowKit

theorem equal_any (a : Option Addr) (len cap : Nat) (zs : List Int) (a' : Option Addr) (len' cap' : Nat) (zs' : List Int) (w : World) (hr : Rd w a len cap zs) (hr' : Rd w a' len' cap' zs') :
    Calls Try.prog 158 #[.slice a len cap, .slice a' len' cap'] w fun e w' => e = .returned (.bool (eqL zs zs')) ∧ w = w' := by
  have c1 := conv_rd hr
  have c2 := conv_rd hr'
  by_cases h3 : zs = zs'
  · subst h3
    have H : Hid (eqL zs zs = true) := by simp [Hid, eqL]
    clear hr hr'
    generalize strOfNums zs = s at *
    go_enter Try.func158, Try.ntmps158
    go_wp2
    go_ret
    exact ⟨ret_b H.out.symm, rfl⟩
  · have H : Hid (eqL zs zs' = false) := by simp [Hid, eqL, h3]
    have h5 := str_ne hr.b8 hr'.b8 h3
    clear hr hr' h3
    generalize strOfNums zs = s at *
    generalize strOfNums zs' = s' at *
    go_enter Try.func158, Try.ntmps158
    go_wp2
    go_ret
    exact ⟨ret_b H.out.symm, rfl⟩

end Go.Proofs.Ytimlobhlcmghfaa
