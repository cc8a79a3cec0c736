/-
  Contracts of the sum of sixteen bits in the model, and the function of numbers by which it answers.
-/
import Derived.Test.YteaiemckcepphaaRead
namespace Go.Proofs.Yteaiemckcepphaa
open Go.ChangeShapes Go.WideShapes Go.ChangeAt Go.RowKit

/-- what 65536 leaves, and how often it is in it, together, as long as it is above 65535 -/
def foldN (n : Nat) : Nat := if n ≤ 65535 then n else foldN (n % 65536 + n / 65536)
termination_by n
decreasing_by omega
theorem foldN_le {n : Nat} (h : n ≤ 65535) : foldN n = n := by rw [foldN, if_pos h]
theorem foldN_gt {n : Nat} (h : ¬ n ≤ 65535) : foldN n = foldN (n % 65536 + n / 65536) := by rw [foldN, if_neg h]
theorem foldN_bd (n : Nat) : foldN n ≤ 65535 := by
  induction n using Nat.strongRecOn with
  | _ n ih =>
    by_cases h : n ≤ 65535
    · rw [foldN_le h]; exact h
    · rw [foldN_gt h]; exact ih _ (by omega)

/-- the bytes ahead of place k, as numbers of two bytes, added -/
def sumTo (zs : List Int) : Nat → Nat
  | 0 => 0
  | k + 1 => sumTo zs k + if k % 2 = 0 then 256 * (zs.getD k 0).toNat else (zs.getD k 0).toNat
theorem sumTo_bd (zs : List Int) (h : B8 zs) : ∀ k, sumTo zs k ≤ 65280 * k
  | 0 => by simp [sumTo]
  | k + 1 => by
    have ih := sumTo_bd zs h k
    have hb := b8_getD h k
    simp only [sumTo]
    split <;> omega
def sumV (zs : List Int) : Int := 65535 - foldN (sumTo zs zs.length)
def smC (zs : List Int) : Int := if zs.length ≤ 700 then 0 else 2
def smV (zs : List Int) : Int := if zs.length ≤ 700 then sumV zs else 0

set_option maxHeartbeats 1000000 in
theorem l1Sum_any (a : Option Addr) (len cap : Nat) (zs : List Int) (w : World) (h : Rd w a len cap zs) (hl : len ≤ 1048576) :
    Calls Try.prog 103 #[.slice a len cap] w fun e w' => e = .returned (.int .i64 (sumV zs)) ∧ w = w' := by
  have h8 := Lib.hid h.b8
  have hzl := Lib.hid h.length
  go_enter Try.func103, Try.ntmps103
  go_wp2
  go_loopw [3, 4] (fun n i wr => ∃ (k m : Nat), k ≤ len ∧ i = .int .i64 k ∧ n = .int .i64 m ∧ Hid (m = sumTo zs k) ∧ Hid (w = wr)) (fun _ i _ => len - (intOf i).toNat)
  case atStart => exact ⟨0, 0, Nat.zero_le _, rfl, rfl, rfl, rfl⟩
  case round =>
    obtain ⟨k, m, hk, rfl, rfl, hm, hW⟩ := hrel
    obtain rfl : w = wr := hW.out
    by_cases hlt : k < len
    · rcases h.cells with h0 | ⟨b, off, rfl, hc⟩
      · omega
      have hck := hc k hlt
      have hbd := b8_getD h8.out k
      have hmb : m ≤ 65280 * k := by rw [hm.out]; exact sumTo_bd zs h8.out k
      have hst : Hid (sumTo zs (k + 1) = m + if k % 2 = 0 then 256 * (zs.getD k 0).toNat else (zs.getD k 0).toNat) := by rw [hm.out]; rfl
      clear hW hm h hc
      obtain ⟨x, hx⟩ := Int.eq_ofNat_of_zero_le hbd.1
      rw [hx] at hck hbd hst
      rw [Int.toNat_natCast] at hst
      clear hx
      by_cases hp : k % 2 = 0
      · have hpb : ((k : Int) % 2 == 0) = true := by simp; omega
        go_wp2
        go_roundw
        case rel => exact ⟨k + 1, m + 256 * x, by omega, by go_num, by go_num, by rw [hst.out, if_pos hp]; rfl, trivial⟩
        case measure => simp [intOf]; omega
      · have hpb : ((k : Int) % 2 == 0) = false := by simp; omega
        go_wp2
        go_roundw
        case rel => exact ⟨k + 1, m + x, by omega, by go_num, by go_num, by rw [hst.out, if_neg hp]; rfl, trivial⟩
        case measure => simp [intOf]; omega
    · obtain rfl : k = len := by omega
      have hmb : m ≤ 65280 * k := by rw [hm.out]; exact sumTo_bd zs h8.out k
      have hst : Hid (sumV zs = 65535 - foldN m) := by unfold Hid sumV; rw [hm.out, hzl.out]
      clear hW hm h
      go_wp2
      go_loopw [3] (fun n wr => ∃ (j : Nat), n = .int .i64 j ∧ Hid (foldN j = foldN m) ∧ j ≤ 65280 * 1048576 ∧ Hid (w = wr)) (fun n _ => (intOf n).toNat)
      case atStart => exact ⟨m, rfl, rfl, by omega, rfl⟩
      case round =>
        obtain ⟨j, rfl, hj, hjb, hW⟩ := hrel
        obtain rfl : w = wr := hW.out
        clear hW
        by_cases hgt : j ≤ 65535
        · have hf : Hid (foldN m = j) := by unfold Hid; rw [← hj.out, foldN_le hgt]
          go_wp2
          go_ret
          exact ⟨ret_i (by rw [hst.out, hf.out]), rfl⟩
        · have hf : Hid (foldN (j % 65536 + j / 65536) = foldN m) := by unfold Hid; rw [← hj.out, foldN_gt hgt]
          clear hj
          go_wp2
          go_roundw
          case rel => exact ⟨j % 65536 + j / 65536, by go_num, hf.out, by omega, trivial⟩
          case measure => simp [intOf]; omega

end Go.Proofs.Yteaiemckcepphaa
