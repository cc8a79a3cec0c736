/-
  Contracts of SealSum of the model: the sum of bytes is laid at its place.
-/
import Derived.Test.YtgjkbaplfbiomaaExSum
import Derived.Test.YtgjkbaplfbiomaaApp
namespace Go.Proofs.Ytgjkbaplfbiomaa
open Go.ChangeShapes Go.WideShapes Go.ChangeAt Go.RowKit

def seal0 (zs : List Int) (A : Nat) : List Int := (zs.set A 0).set (A + 1) 0
def sealB (zs : List Int) (A : Nat) : List Int := ((seal0 zs A).set A (sumV (seal0 zs A) / 256)).set (A + 1) (sumV (seal0 zs A) % 256)
theorem sumV_bd (zs : List Int) : 0 ≤ sumV zs ∧ sumV zs ≤ 65535 := by
  have := foldN_bd (sumTo zs zs.length)
  unfold sumV; omega
def slOk (len at' : Int) : Bool := decide (0 ≤ at' ∧ at' ≤ len - 2 ∧ at' % 2 = 0)
def slC (zs : List Int) (at' : Int) : Int := if zs.length ≤ 700 then (if slOk zs.length at' then 0 else 3) else 2
def slB (zs : List Int) (at' : Int) : List Int := if zs.length ≤ 700 then (if slOk zs.length at' then sealB zs at'.toNat else []) else []
theorem sealB_len (zs : List Int) (A : Nat) : (sealB zs A).length = zs.length := by simp [sealB, seal0]
theorem slB_len (zs : List Int) (at' : Int) : (slB zs at').length ≤ 700 := by
  unfold slB
  split
  · split
    · rw [sealB_len]; assumption
    · simp
  · simp

set_option maxHeartbeats 1000000 in
theorem l1Seal_any (g len cap base A : Nat) (zs : List Int) (w : World) (h : Own w base (some ⟨g, 0, none⟩) len cap zs) (hl : len ≤ 1048576) (hA : A + 2 ≤ len) :
    Calls Try.prog 72 #[.slice (some ⟨g, 0, none⟩) len cap, .int .i64 A] w fun e w' => e = .returned (.slice (some ⟨g, 0, none⟩) len cap) ∧ Own w' base (some ⟨g, 0, none⟩) len cap (sealB zs A) ∧ w.grownBy w' (some g) := by
  have hc0 := h.cellAt A (by omega)
  have hf0 := h.frozenAt A
  obtain ⟨o1, g1⟩ := h.set A 0 (by omega)
  have hc1 := o1.cellAt (A + 1) (by omega)
  have hf1 := o1.frozenAt (A + 1)
  obtain ⟨o2, g2⟩ := o1.set (A + 1) 0 (by omega)
  have K := Lib.hid (l1Sum_any _ _ _ _ _ o2.rd hl)
  obtain ⟨v, hv⟩ : ∃ v, v = sumV (seal0 zs A) := ⟨_, rfl⟩
  have hvb : 0 ≤ v ∧ v ≤ 65535 := by rw [hv]; exact sumV_bd _
  have K : Hid (Calls Try.prog 78 #[.slice (some ⟨g, 0, none⟩) len cap] ((w.setCell ⟨g, A, none⟩ (.int .u8 0)).setCell ⟨g, A + 1, none⟩ (.int .u8 0)) fun e w' => e = .returned (.int .i64 v) ∧ ((w.setCell ⟨g, A, none⟩ (.int .u8 0)).setCell ⟨g, A + 1, none⟩ (.int .u8 0)) = w') := by
    rw [hv]; exact K.out
  have HB : Hid (sealB zs A = ((seal0 zs A).set A (v / 256)).set (A + 1) (v % 256)) := by unfold Hid sealB; rw [hv]
  have O2 := Lib.hid o2
  have G2 := Lib.hid (grown_trans g1 g2)
  have i1 : (0 : Int) ≤ (A : Int) + 1 := by omega
  have i2 : (A : Int) + 1 < len := by omega
  have i3 : ((A : Int) + 1).toNat = A + 1 := by omega
  clear hv o1 o2 g1 g2 h
  go_enter Try.func72, Try.ntmps72
  go_wp2_with fail
  refine K.out.mono ?_
  rintro e w2 ⟨rfl, hw2⟩
  have o2 := O2.out
  have g2 := G2.out
  rw [hw2] at o2 g2
  have hc2 := o2.cellAt A (by omega)
  have hf2 := o2.frozenAt A
  obtain ⟨o3, g3⟩ := o2.set A (v / 256) (by omega)
  have hc3 := o3.cellAt (A + 1) (by omega)
  have hf3 := o3.frozenAt (A + 1)
  obtain ⟨o4, g4⟩ := o3.set (A + 1) (v % 256) (by omega)
  have R := Lib.hid (And.intro o4 (grown_trans g2 (grown_trans g3 g4)))
  clear hw2 hc0 hf0 hc1 hf1 o2 g2 o3 g3 o4 g4 O2 G2 K
  go_wp2
  go_ret
  refine ⟨rfl, ?_, R.out.2⟩
  rw [HB.out]
  exact R.out.1
end Go.Proofs.Ytgjkbaplfbiomaa
