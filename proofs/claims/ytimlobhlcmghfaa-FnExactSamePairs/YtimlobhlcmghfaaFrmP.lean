/-
  PackFrame of the model, and the law FnExactPackFrame where the program's PackFrame answers so.
-/
import Derived.Test.YtimlobhlcmghfaaFrm
namespace Go.Proofs.Ytimlobhlcmghfaa
open Go.ChangeShapes Go.WideShapes Go.ChangeAt Go.RowKit

def frameL (to fr kd : Int) (zs : List Int) : List Int := be to 6 ++ be fr 6 ++ be kd 2 ++ zs
def FreshAny (w : World) (zs : List Int) (e : Ending) (w' : World) : Prop :=
  ∃ a' l' c', e = .returned (.slice a' l' c') ∧ Own w' w.heap.size a' l' c' zs ∧ Below w.heap.size w w'

def frameP (to fr kd : Int) (zs : List Int) : List Int := if frameC to fr kd zs.length = 0 then frameL to fr kd zs else []
theorem frameC_parts {to fr kd : Int} {n : Nat} (h : frameC to fr kd n = 0) : (0 ≤ to ∧ to < 281474976710656) ∧ (0 ≤ fr ∧ fr < 281474976710656) ∧ (0 ≤ kd ∧ kd < 281474976710656) ∧ n ≤ 600 := by
  unfold frameC at h
  split at h
  · rename_i hk
    split at h
    · simp only [frameB, macB, inB, Bool.and_eq_true, decide_eq_true_eq] at hk
      omega
    · omega
  · omega
theorem frameP_len (to fr kd : Int) (zs : List Int) : (frameP to fr kd zs).length ≤ 614 := by
  unfold frameP
  split
  · rename_i h
    have := (frameC_parts h).2.2.2
    simp [frameL, be_len]
    omega
  · simp

end Go.Proofs.Ytimlobhlcmghfaa
