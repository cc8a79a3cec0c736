/-
  Contracts of the helpers of the laws that look at, compare and mark a result of bytes.
-/
import Derived.Test.YtfdfkcbighbfmaaMem
namespace Go.Proofs.Ytfdfkcbighbfmaa
open Go.ChangeShapes Go.WideShapes Go.ChangeAt Go.RowKit

set_option maxHeartbeats 400000 in
theorem heldByteS_any (a : Option Addr) (len cap k0 : Nat) (w : World) (h : Rd w a len cap (marks k0 len)) (hl : len ≤ 2097152) (hk0 : k0 ≤ 1000000000) :
    Calls Try.prog 117 #[.slice a len cap, .int .i64 k0] w fun e w' => e = .returned (.int .i64 (k0 + len : Nat)) ∧ w = w' := by
  go_enter Try.func117, Try.ntmps117
  go_wp2
  go_loopw [1, 5] (fun kk i wr => ∃ j : Nat, j ≤ len ∧ i = .int .i64 j ∧ kk = .int .i64 (k0 + j : Nat) ∧ w = wr) (fun _ i _ => len - (intOf i).toNat)
  case atStart => exact ⟨0, Nat.zero_le _, rfl, rfl, rfl⟩
  case round =>
    obtain ⟨j, hj, rfl, rfl, rfl⟩ := hrel
    by_cases hlt : j < len
    · rcases h.cells with h0 | ⟨b, off, rfl, hc⟩
      · omega
      have hcj := hc j hlt
      rw [marks_getD k0 len j hlt] at hcj
      clear hc h
      go_wp2
      go_roundw
      case rel => exact ⟨j + 1, by omega, by go_num, by go_num, by trivial⟩
      case measure => simp [intOf]; omega
    · obtain rfl : j = len := by omega
      go_wp2
      go_ret
      exact ⟨by go_num, rfl⟩

theorem grown_alloc {w : World} (o : Obj) (row : Option Nat) : w.grownBy (w.alloc o) row := World.grownBy_alloc w o row

end Go.Proofs.Ytfdfkcbighbfmaa
