/-
  Contracts of ReadWord of the program and of the model; the law FnExactReadWord returns true.
-/
import Derived.Test.YtbngdenlplbjhaaPack
namespace Go.Proofs.Ytbngdenlplbjhaa
open Go.ChangeShapes Go.WideShapes Go.ChangeAt Go.RowKit

/-- the number of k bytes from a place on -/
def rdTo (zs : List Int) (at' : Nat) : Nat → Int
  | 0 => 0
  | k + 1 => rdTo zs at' k * 256 + zs.getD (at' + k) 0
theorem rdTo_bd (zs : List Int) (at' : Nat) (h : B8 zs) : ∀ k, 0 ≤ rdTo zs at' k ∧ rdTo zs at' k < 256 ^ k
  | 0 => by simp [rdTo]
  | k + 1 => by
    have ih := rdTo_bd zs at' h k
    have hb := b8_getD h (at' + k)
    simp only [rdTo, Int.pow_succ]
    omega
theorem rdTo_5 (zs : List Int) (at' : Nat) (h : B8 zs) (k : Nat) (hk : k ≤ 5) : 0 ≤ rdTo zs at' k ∧ rdTo zs at' k < 1099511627776 := by
  have := rdTo_bd zs at' h k
  obtain rfl | rfl | rfl | rfl | rfl | rfl : k = 0 ∨ k = 1 ∨ k = 2 ∨ k = 3 ∨ k = 4 ∨ k = 5 := by omega
  all_goals (simp only [Int.reducePow] at this; omega)
def rwOk (len at' size : Int) : Bool := inB size 1 6 && decide (0 ≤ at' ∧ at' ≤ len - size)
def rwC (zs : List Int) (at' size : Int) : Int := if rwOk zs.length at' size then 0 else 3
def rwV (zs : List Int) (at' size : Int) : Int := if rwOk zs.length at' size then rdTo zs at'.toNat size.toNat else 0

def hasB (len at' size : Int) : Bool := decide (0 ≤ at' ∧ at' ≤ len - size)
theorem has_t {len at' size : Int} (h : 0 ≤ at' ∧ at' ≤ len - size) : hasB len at' size = true := decide_eq_true h
theorem has_f {len at' size : Int} (h : ¬ (0 ≤ at' ∧ at' ≤ len - size)) : hasB len at' size = false := decide_eq_false h

end Go.Proofs.Ytbngdenlplbjhaa
