/-
  PackDatagram of the model.
-/
import Derived.Test.YteaiemckcepphaaDgS
import Derived.Test.YteaiemckcepphaaAppR
import Derived.Test.YteaiemckcepphaaStDatagram
namespace Go.Proofs.Yteaiemckcepphaa
open Go.ChangeShapes Go.WideShapes Go.ChangeAt Go.RowKit

/-- a datagram's bytes, with a sum of 0 -/
def dgH (df dt : Int) (zs : List Int) : List Int := be df 2 ++ be dt 2 ++ be (8 + zs.length) 2 ++ [0, 0] ++ zs
theorem dgH_len (df dt : Int) (zs : List Int) : (dgH df dt zs).length = 8 + zs.length := by simp [dgH, be_len]; omega
/-- the sum that is told -/
def dgT (n : Int) : Int := if n = 0 then 65535 else n
theorem dgT_bd (n : Int) (h : 0 ≤ n ∧ n ≤ 65535) : 0 ≤ dgT n ∧ dgT n ≤ 65535 := by unfold dgT; split <;> omega
def dgL (f t df dt : Int) (zs : List Int) : List Int := ((dgH df dt zs).set 6 (dgT (dgSum f t 17 (dgH df dt zs)) / 256)).set 7 (dgT (dgSum f t 17 (dgH df dt zs)) % 256)
theorem dgL_len (f t df dt : Int) (zs : List Int) : (dgL f t df dt zs).length = 8 + zs.length := by simp [dgL, dgH_len]

def pdC (f t df dt : Int) (n : Nat) : Int := if ipB f && ipB t then dgC df dt n else 3
def pdP (f t df dt : Int) (zs : List Int) : List Int := if pdC f t df dt zs.length = 0 then dgL f t df dt zs else []
theorem dgC_parts {df dt : Int} {n : Nat} (h : dgC df dt n = 0) : (1 ≤ df ∧ df ≤ 65535) ∧ (1 ≤ dt ∧ dt ≤ 65535) ∧ n ≤ 552 := by
  unfold dgC at h
  split at h
  · rename_i hk
    simp only [dgB, inB, Bool.and_eq_true, decide_eq_true_eq] at hk
    split at h
    · rename_i hn; exact ⟨hk.1, hk.2, hn⟩
    · omega
  · omega
theorem pdC_parts {f t df dt : Int} {n : Nat} (h : pdC f t df dt n = 0) : ipB f = true ∧ ipB t = true ∧ dgC df dt n = 0 := by
  unfold pdC at h
  split at h
  · rename_i hk
    simp only [Bool.and_eq_true] at hk
    exact ⟨hk.1, hk.2, h⟩
  · omega
theorem pdP_len (f t df dt : Int) (zs : List Int) : (pdP f t df dt zs).length ≤ 700 := by
  unfold pdP
  split
  · rename_i h
    obtain ⟨_, _, h'⟩ := pdC_parts h
    obtain ⟨_, _, hn⟩ := dgC_parts h'
    rw [dgL_len]; omega
  · exact Nat.zero_le _

end Go.Proofs.Yteaiemckcepphaa
