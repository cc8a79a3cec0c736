/-
  PackPacket and PackEcho of the model.
-/
import Derived.Test.YteaiemckcepphaaPkS
import Derived.Test.YteaiemckcepphaaSeal
import Derived.Test.YteaiemckcepphaaAppR
import Derived.Test.YteaiemckcepphaaFrmP
namespace Go.Proofs.Yteaiemckcepphaa
open Go.ChangeShapes Go.WideShapes Go.ChangeAt Go.RowKit

/-- the 20 bytes of a packet's head, ahead of the sum -/
def packH (kf kt kp kl : Int) (n : Nat) : List Int := [69, 0] ++ be (20 + n) 2 ++ [0, 0, 64, 0, kl, kp, 0, 0] ++ be kf 4 ++ be kt 4
def packL (kf kt kp kl : Int) (zs : List Int) : List Int := sealB (packH kf kt kp kl zs.length) 10 ++ zs
theorem packH_len (kf kt kp kl : Int) (n : Nat) : (packH kf kt kp kl n).length = 20 := by simp [packH, be_len]

theorem own_litB2 (w : World) (base : Nat) (x y : Int) (hx : 0 ≤ x ∧ x ≤ 255) (hy : 0 ≤ y ∧ y ≤ 255) (hb : base ≤ w.heap.size) : Own (w.alloc (.cells #[.int .u8 x, .int .u8 y] 5)) base (some ⟨w.heap.size, 0, none⟩) 2 2 [x, y] :=
  ⟨World.ownsRow_lit w #[.int .u8 x, .int .u8 y] 2 hb (by unfold maxLen; omega) rfl, by intro n hn; simp at hn; omega⟩
theorem own_litB8 (w : World) (base : Nat) (x y : Int) (hx : 0 ≤ x ∧ x ≤ 255) (hy : 0 ≤ y ∧ y ≤ 255) (hb : base ≤ w.heap.size) : Own (w.alloc (.cells #[.int .u8 0, .int .u8 0, .int .u8 64, .int .u8 0, .int .u8 x, .int .u8 y, .int .u8 0, .int .u8 0] 5)) base (some ⟨w.heap.size, 0, none⟩) 8 8 [0, 0, 64, 0, x, y, 0, 0] :=
  ⟨World.ownsRow_lit w #[.int .u8 0, .int .u8 0, .int .u8 64, .int .u8 0, .int .u8 x, .int .u8 y, .int .u8 0, .int .u8 0] 8 hb (by unfold maxLen; omega) rfl, by intro n hn; simp at hn; omega⟩
theorem u8_in (x : Int) (h : 0 ≤ x ∧ x ≤ 255) : IntKind.u8.wrap x = x := by
  rw [IntKind.wrap_u8]; omega

def packP (kf kt kp kl : Int) (zs : List Int) : List Int := if packC kf kt kp kl zs.length = 0 then packL kf kt kp kl zs else []
theorem packC_parts {kf kt kp kl : Int} {n : Nat} (h : packC kf kt kp kl n = 0) : (0 ≤ kf ∧ kf < 4294967296) ∧ (0 ≤ kt ∧ kt < 4294967296) ∧ (0 ≤ kp ∧ kp ≤ 255) ∧ (1 ≤ kl ∧ kl ≤ 255) ∧ n ≤ 560 := by
  unfold packC at h
  split at h
  · rename_i hk
    split at h
    · simp only [packB, ipB, inB, Bool.and_eq_true, decide_eq_true_eq] at hk
      omega
    · omega
  · omega
theorem packP_len (kf kt kp kl : Int) (zs : List Int) : (packP kf kt kp kl zs).length ≤ 700 := by
  unfold packP
  split
  · rename_i h
    have := (packC_parts h).2.2.2.2
    rw [packL, List.length_append, sealB_len, packH_len]
    omega
  · simp

end Go.Proofs.Yteaiemckcepphaa
