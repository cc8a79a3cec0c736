/-
  BytesResult: rows, values, marks; the helpers of the laws that size, copy and compare one.
-/
import Derived.Test.YtbngdenlplbjhaaKG
namespace Go.Proofs.Ytbngdenlplbjhaa
open Go.ChangeShapes Go.WideShapes Go.ChangeAt Go.RowKit

structure BytesResultV where
  f0 : Int
  f1 : List Int
deriving DecidableEq
structure BytesResultR where
  f0 : Int
  f1 : Yt
def BytesResultR.val (p : BytesResultR) : BytesResultV := ⟨p.f0, p.f1.z⟩
def BytesResultR.cells (p : BytesResultR) : List Value := [.int .i64 p.f0, .slice p.f1.a p.f1.l p.f1.c]
def BytesResultR.ok (w : World) (p : BytesResultR) : Prop := Yt.ok w p.f1
def BytesResultR.blks (p : BytesResultR) : List Nat := p.f1.blks
theorem BytesResultR.keep {w w' : World} {p : BytesResultR} (h : BytesResultR.ok w p) (hb : ∀ b ∈ BytesResultR.blks p, w'.heap[b]? = w.heap[b]?) : BytesResultR.ok w' p :=
  Yt.ok.keep h (fun b hm => hb b hm)
theorem BytesResultR.lt {w : World} {p : BytesResultR} (h : BytesResultR.ok w p) : ∀ b ∈ BytesResultR.blks p, b < w.heap.size := by
  intro b hb
  exact Yt.ok.lt h b hb
def BytesResultR.md : Md BytesResultR where
  n := 2
  cells := BytesResultR.cells
  ok := BytesResultR.ok
  blks := BytesResultR.blks
  clen _ := rfl
  keep := BytesResultR.keep
  lt := BytesResultR.lt
def BytesResultV.wt (v : BytesResultV) : Nat := v.f1.length
def BytesResultV.mrk (v : BytesResultV) : Nat := 1 + v.f1.length
def BytesResultR.mkn (p : BytesResultR) : Nat := p.val.mrk
theorem BytesResultV.mrk_le (v : BytesResultV) : v.mrk ≤ 1 + 16 * v.wt := by
  simp only [BytesResultV.mrk, BytesResultV.wt]
  omega
def BytesResultR.mark (k : Nat) (p : BytesResultR) : BytesResultR := ⟨((k : Nat) : Int), p.f1.mark (k + 1)⟩
theorem BytesResultR.mark_blks (k : Nat) (p : BytesResultR) : BytesResultR.blks (BytesResultR.mark k p) = BytesResultR.blks p :=
  rfl
def zBytesResult : BytesResultR := ⟨0, ⟨none, 0, 0, []⟩⟩
theorem zBytesResult_ok (w : World) : BytesResultR.ok w zBytesResult := Own.rd (Own.nil _ 0)

set_option maxHeartbeats 2000000 in
theorem eqBytesResult_t (p q : BytesResultR) (w : World) (h : BytesResultR.ok w p) (h' : BytesResultR.ok w q) (hv : p.val = q.val) :
    Calls Try.prog 26 #[.agg (BytesResultR.cells p).toArray, .agg (BytesResultR.cells q).toArray] w fun e w' => e = .returned (.bool true) ∧ Below w.heap.size w w' := by
  show Calls Try.prog 26 #[.agg #[.int .i64 p.f0, .slice p.f1.a p.f1.l p.f1.c], .agg #[.int .i64 q.f0, .slice q.f1.a q.f1.l q.f1.c]] w _
  have e0 : (p.f0 != q.f0) = false := by rw [show p.f0 = q.f0 from congrArg BytesResultV.f0 hv]; simp
  have K0 := Lib.hid (fun W (hW : Below w.heap.size w W) => eqByteS_y p.f1 q.f1 W (Yt.ok.below h hW) (Yt.ok.below h' hW) (congrArg BytesResultV.f1 hv))
  have B0 := Lib.hid (((Below.refl w.heap.size w).alloc (Nat.le_refl _) (.cells #[.int .i64 p.f0, .slice p.f1.a p.f1.l p.f1.c] 53)).alloc (by simp) (.cells #[.int .i64 q.f0, .slice q.f1.a q.f1.l q.f1.c] 53))
  have X0 := Lib.hid ((Box.new w 53 #[.int .i64 p.f0, .slice p.f1.a p.f1.l p.f1.c]).alloc (.cells #[.int .i64 q.f0, .slice q.f1.a q.f1.l q.f1.c] 53))
  have Y0 := Lib.hid (Box.new (w.alloc (.cells #[.int .i64 p.f0, .slice p.f1.a p.f1.l p.f1.c] 53)) 53 #[.int .i64 q.f0, .slice q.f1.a q.f1.l q.f1.c])
  clear h h' hv
  go_enter Try.func26, Try.ntmps26
  go_wp2_with fail
  refine (K0.out _ B0.out).mono ?_
  rintro e w1 ⟨rfl, b1⟩
  have B1 := Lib.hid (B0.out.trans (b1.mono B0.out.size))
  clear b1
  go_wp2
  go_ret
  exact ⟨rfl, B1.out⟩

end Go.Proofs.Ytbngdenlplbjhaa
