/-
  Contracts of SealSum of the model: the sum of bytes is laid at its place.
-/
import Derived.Test.YteaiemckcepphaaExSum
import Derived.Test.YteaiemckcepphaaApp
namespace Go.Proofs.Yteaiemckcepphaa
open Go.ChangeShapes Go.WideShapes Go.ChangeAt Go.RowKit

def seal0 (zs : List Int) (A : Nat) : List Int := (zs.set A 0).set (A + 1) 0
def sealB (zs : List Int) (A : Nat) : List Int := ((seal0 zs A).set A (sumV (seal0 zs A) / 256)).set (A + 1) (sumV (seal0 zs A) % 256)
theorem sumV_bd (zs : List Int) : 0 ≤ sumV zs ∧ sumV zs ≤ 65535 := by
  have := foldN_bd (sumTo zs zs.length)
  unfold sumV; omega
def slOk (len at' : Int) : Bool := decide (0 ≤ at' ∧ at' ≤ len - 2 ∧ at' % 2 = 0)
def slC (zs : List Int) (at' : Int) : Int := if zs.length ≤ 700 then (if slOk zs.length at' then 0 else 3) else 2
def slB (zs : List Int) (at' : Int) : List Int := if zs.length ≤ 700 then (if slOk zs.length at' then sealB zs at'.toNat else []) else []
theorem sealB_len (zs : List Int) (A : Nat) : (sealB zs A).length = zs.length := by simp [sealB, seal0]
theorem slB_len (zs : List Int) (at' : Int) : (slB zs at').length ≤ 700 := by
  unfold slB
  split
  · split
    · rw [sealB_len]; assumption
    · simp
  · simp

end Go.Proofs.Yteaiemckcepphaa
