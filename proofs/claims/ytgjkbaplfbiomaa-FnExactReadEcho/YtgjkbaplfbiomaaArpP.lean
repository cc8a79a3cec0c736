/-
  PackArp of the model, and the law FnExactPackArp where the program's PackArp answers so.
-/
import Derived.Test.YtgjkbaplfbiomaaAppR
namespace Go.Proofs.Ytgjkbaplfbiomaa
open Go.ChangeShapes Go.WideShapes Go.ChangeAt Go.RowKit

def arpP (op fm fi tm ti : Int) : List Int := if arpB op fm fi tm ti then arpL op fm fi tm ti else []
theorem arpL_len (op fm fi tm ti : Int) : (arpL op fm fi tm ti).length = 28 := by simp [arpL, be_len]
theorem arpP_len (op fm fi tm ti : Int) : (arpP op fm fi tm ti).length ≤ 28 := by
  unfold arpP
  split
  · rw [arpL_len]; exact Nat.le_refl _
  · simp
theorem arpB_parts {op fm fi tm ti : Int} (h : arpB op fm fi tm ti = true) : (0 ≤ op ∧ op < 281474976710656) ∧ (0 ≤ fm ∧ fm < 281474976710656) ∧ (0 ≤ fi ∧ fi < 281474976710656) ∧ (0 ≤ tm ∧ tm < 281474976710656) ∧ (0 ≤ ti ∧ ti < 281474976710656) := by
  simp only [arpB, macB, ipB, inB, Bool.and_eq_true, decide_eq_true_eq] at h
  omega

end Go.Proofs.Ytgjkbaplfbiomaa
