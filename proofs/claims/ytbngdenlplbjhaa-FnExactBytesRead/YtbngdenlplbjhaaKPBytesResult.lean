/-
  BytesResult: the helpers of the laws that mark its parts, and look whether the marks are held.
-/
import Derived.Test.YtbngdenlplbjhaaKSBytesResult
namespace Go.Proofs.Ytbngdenlplbjhaa
open Go.ChangeShapes Go.WideShapes Go.ChangeAt Go.RowKit

def BytesResultR.pmk (p : BytesResultR) : Nat := p.f1.z.length
theorem BytesResultR.pmk_le (p : BytesResultR) : BytesResultR.pmk p ≤ 16 * p.val.wt := by
  simp only [BytesResultR.pmk, BytesResultR.val, BytesResultV.wt]
  omega
def BytesResultR.pmark (k : Nat) (p : BytesResultR) : BytesResultR := ⟨p.f0, p.f1.mark k⟩
theorem BytesResultR.pmark_cells (k : Nat) (p : BytesResultR) : BytesResultR.cells (BytesResultR.pmark k p) = BytesResultR.cells p := rfl
theorem BytesResultR.pmark_blks (k : Nat) (p : BytesResultR) : BytesResultR.blks (BytesResultR.pmark k p) = BytesResultR.blks p :=
  rfl
def BytesResultR.zok (p : BytesResultR) : Prop := p.f1.z.length = p.f1.l
theorem BytesResultR.zok_of {w : World} {p : BytesResultR} (h : BytesResultR.ok w p) : BytesResultR.zok p := h.length

set_option maxHeartbeats 2000000 in
theorem markBytesResult_any (p : BytesResultR) (k : Nat) (w : World) (h : BytesResultR.ok w p) (hf : Fzs w (BytesResultR.blks p)) (hs : BytesResultR.pmk p ≤ 16777216) (hk : k ≤ 1000000) :
    Calls Try.prog 31 #[.agg (BytesResultR.cells p).toArray, .int .i64 k] w fun e w' => e = .returned (.int .i64 (k + BytesResultR.pmk p : Nat)) ∧ BytesResultR.ok w' (BytesResultR.pmark k p) ∧ Chg (BytesResultR.blks p) w w' := by
  show Calls Try.prog 31 #[.agg #[.int .i64 p.f0, .slice p.f1.a p.f1.l p.f1.c], .int .i64 k] w _
  have hs0 : p.f1.z.length ≤ 16777216 := hs
  have e0 : k + BytesResultR.pmk p = (k + p.f1.z.length) := by unfold BytesResultR.pmk; omega
  rw [e0]
  clear e0 hs
  have B0 := Lib.hid ((Below.refl w.heap.size w).alloc (Nat.le_refl _) (.cells #[.int .i64 p.f0, .slice p.f1.a p.f1.l p.f1.c] 53))
  have X0 := Lib.hid (Box.new w 53 #[.int .i64 p.f0, .slice p.f1.a p.f1.l p.f1.c])
  have LT := Lib.hid (BytesResultR.lt h)
  have F0 := Lib.hid (hf.below B0.out)
  have O0_0 := Lib.hid (Yt.ok.below h B0.out)
  have C0 := Lib.hid (Chg.of_below (bs := BytesResultR.blks p) B0.out)
  clear h hf
  have K0 := Lib.hid (markByteS_y p.f1 k _ O0_0.out F0.out (by omega) (by omega))
  go_enter Try.func31, Try.ntmps31
  go_wp2_with fail
  refine K0.out.mono ?_
  rintro e w1 ⟨rfl, o0, c0⟩
  have X1 := Lib.hid (X0.out.chg c0 (fun hq => absurd (LT.out _ hq) (Nat.lt_irrefl _)))
  have C1 := Lib.hid (C0.out.trans (c0.mono (fun q hq => hq)))
  have F1 := Lib.hid (F0.out.chg c0)
  have O0_1 := Lib.hid o0
  clear o0 c0 X0 C0 F0 K0 O0_0
  go_wp2
  go_ret
  exact ⟨rfl, O0_1.out, C1.out⟩

set_option maxHeartbeats 2000000 in
theorem heldBytesResult_any (p : BytesResultR) (k : Nat) (w : World) (h : BytesResultR.ok w (BytesResultR.pmark k p)) (hz : BytesResultR.zok p) (hs : BytesResultR.pmk p ≤ 16777216) (hk : k ≤ 1000000) :
    Calls Try.prog 32 #[.agg (BytesResultR.cells p).toArray, .int .i64 k] w fun e w' => e = .returned (.int .i64 (k + BytesResultR.pmk p : Nat)) ∧ Below w.heap.size w w' := by
  show Calls Try.prog 32 #[.agg #[.int .i64 p.f0, .slice p.f1.a p.f1.l p.f1.c], .int .i64 k] w _
  have hs0 : p.f1.z.length ≤ 16777216 := hs
  have e0 : k + BytesResultR.pmk p = (k + p.f1.z.length) := by unfold BytesResultR.pmk; omega
  rw [e0]
  clear e0 hs
  have B0 := Lib.hid ((Below.refl w.heap.size w).alloc (Nat.le_refl _) (.cells #[.int .i64 p.f0, .slice p.f1.a p.f1.l p.f1.c] 53))
  have X0 := Lib.hid (Box.new w 53 #[.int .i64 p.f0, .slice p.f1.a p.f1.l p.f1.c])
  have O0_0 := Lib.hid (Yt.ok.below h B0.out)
  have HZ := Lib.hid hz
  clear h hz
  have K0 := Lib.hid (heldByteS_y p.f1 k _ O0_0.out HZ.out (by omega) (by omega))
  have hn0 : ¬ (((k + p.f1.z.length) : Nat) : Int) < 0 := by omega
  go_enter Try.func32, Try.ntmps32
  go_wp2_with fail
  refine K0.out.mono ?_
  rintro e w1 ⟨rfl, rfl⟩
  clear K0
  go_wp2
  go_ret
  exact ⟨rfl, B0.out⟩

end Go.Proofs.Ytbngdenlplbjhaa
