/-
  Flight: rows, values, marks; the helpers of the laws that size, copy and compare one.
-/
import Derived.Test.YtbngdenlplbjhaaKSSegment
namespace Go.Proofs.Ytbngdenlplbjhaa
open Go.ChangeShapes Go.WideShapes Go.ChangeAt Go.RowKit

structure FlightV where
  f0 : Int
  f1 : SegmentV
deriving DecidableEq
structure FlightR where
  f0 : Int
  f1 : SegmentR
def FlightR.val (p : FlightR) : FlightV := ⟨p.f0, p.f1.val⟩
def FlightR.cells (p : FlightR) : List Value := [.int .i64 p.f0, .int .i64 p.f1.f0, .int .i64 p.f1.f1, .int .i64 p.f1.f2, .int .i64 p.f1.f3, .int .i64 p.f1.f4, .int .i64 p.f1.f5, .int .i64 p.f1.f6, .slice p.f1.f7.a p.f1.f7.l p.f1.f7.c]
def FlightR.ok (w : World) (p : FlightR) : Prop := SegmentR.ok w p.f1
def FlightR.blks (p : FlightR) : List Nat := SegmentR.blks p.f1
theorem FlightR.keep {w w' : World} {p : FlightR} (h : FlightR.ok w p) (hb : ∀ b ∈ FlightR.blks p, w'.heap[b]? = w.heap[b]?) : FlightR.ok w' p :=
  SegmentR.keep h (fun b hm => hb b hm)
theorem FlightR.lt {w : World} {p : FlightR} (h : FlightR.ok w p) : ∀ b ∈ FlightR.blks p, b < w.heap.size := by
  intro b hb
  exact SegmentR.lt h b hb
def FlightR.md : Md FlightR where
  n := 9
  cells := FlightR.cells
  ok := FlightR.ok
  blks := FlightR.blks
  clen _ := rfl
  keep := FlightR.keep
  lt := FlightR.lt
def FlightV.wt (v : FlightV) : Nat := SegmentV.wt v.f1
def FlightV.mrk (v : FlightV) : Nat := 1 + SegmentV.mrk v.f1
def FlightR.mkn (p : FlightR) : Nat := p.val.mrk
theorem FlightV.mrk_le (v : FlightV) : v.mrk ≤ 8 + 16 * v.wt := by
  have h1 := SegmentV.mrk_le v.f1
  simp only [FlightV.mrk, FlightV.wt]
  omega
def FlightR.mark (k : Nat) (p : FlightR) : FlightR := ⟨((k : Nat) : Int), SegmentR.mark (k + 1) p.f1⟩
theorem FlightR.mark_blks (k : Nat) (p : FlightR) : FlightR.blks (FlightR.mark k p) = FlightR.blks p :=
  SegmentR.mark_blks _ _
def zFlight : FlightR := ⟨0, zSegment⟩
theorem zFlight_ok (w : World) : FlightR.ok w zFlight := zSegment_ok _

set_option maxHeartbeats 2000000 in
theorem szFlight_any (p : FlightR) (l : Nat) (w : World) (h : FlightR.ok w p) (hl : l ≤ 1048576) :
    Calls Try.prog 82 #[.agg (FlightR.cells p).toArray, .int .i64 l] w fun e w' => e = .returned (.int .i64 (szR p.val.wt l)) ∧ Below w.heap.size w w' := by
  show Calls Try.prog 82 #[.agg #[.int .i64 p.f0, .int .i64 p.f1.f0, .int .i64 p.f1.f1, .int .i64 p.f1.f2, .int .i64 p.f1.f3, .int .i64 p.f1.f4, .int .i64 p.f1.f5, .int .i64 p.f1.f6, .slice p.f1.f7.a p.f1.f7.l p.f1.f7.c], .int .i64 l] w _
  obtain ⟨n0, hn0⟩ : ∃ n, n = p.f1.val.wt := ⟨_, rfl⟩
  have hw : p.val.wt = n0 := by rw [hn0]; rfl
  rw [hw]
  have B0 := Lib.hid ((Below.refl w.heap.size w).alloc (Nat.le_refl _) (.cells #[.int .i64 p.f0, .int .i64 p.f1.f0, .int .i64 p.f1.f1, .int .i64 p.f1.f2, .int .i64 p.f1.f3, .int .i64 p.f1.f4, .int .i64 p.f1.f5, .int .i64 p.f1.f6, .slice p.f1.f7.a p.f1.f7.l p.f1.f7.c] 139))
  have X0 := Lib.hid (Box.new w 139 #[.int .i64 p.f0, .int .i64 p.f1.f0, .int .i64 p.f1.f1, .int .i64 p.f1.f2, .int .i64 p.f1.f3, .int .i64 p.f1.f4, .int .i64 p.f1.f5, .int .i64 p.f1.f6, .slice p.f1.f7.a p.f1.f7.l p.f1.f7.c])
  have K0 := Lib.hid (show ∀ W, Below w.heap.size w W → ∀ t : Nat, t ≤ 1048576 → Calls Try.prog 98 #[.agg (SegmentR.cells p.f1).toArray, .int .i64 t] W fun e w' => e = .returned (.int .i64 (szR n0 t)) ∧ Below W.heap.size W w' from fun W hW t ht => by rw [hn0]; exact szSegment_any p.f1 t W (SegmentR.md.below h hW) ht)
  clear h hw hn0
  by_cases h0 : n0 ≤ l
  case neg =>
    have C0 := Lib.hid (fun W hW => (show Calls Try.prog 98 #[.agg (SegmentR.cells p.f1).toArray, .int .i64 (l : Nat)] W fun e w' => e = .returned (.int .i64 (-1)) ∧ Below W.heap.size W w' from by have q := K0.out W hW l (by omega); rw [szR_f (by omega)] at q; exact q))
    have E : Hid (szR (n0) l = -1) := szR_f (by omega)
    clear K0
    go_enter Try.func82, Try.ntmps82
    go_wp2_with fail
    refine (C0.out _ B0.out).mono ?_
    rintro e w1 ⟨rfl, b1⟩
    have B1 := Lib.hid (B0.out.trans (b1.mono B0.out.size))
    clear b1
    go_wp2
    go_ret
    exact ⟨ret_i E.out.symm, B1.out⟩
  have hp0 : ¬ ((l - n0 : Nat) : Int) < 0 := by omega
  have C0 := Lib.hid (fun W hW => (show Calls Try.prog 98 #[.agg (SegmentR.cells p.f1).toArray, .int .i64 (l : Nat)] W fun e w' => e = .returned (.int .i64 (l - n0 : Nat)) ∧ Below W.heap.size W w' from by have q := K0.out W hW l (by omega); rw [szR_t (by omega)] at q; exact q))
  have E : Hid (szR (n0) l = ((l - n0 : Nat) : Int)) := (szR_t (by omega)).trans (by omega)
  clear K0
  go_enter Try.func82, Try.ntmps82
  go_wp2_with fail
  refine (C0.out _ B0.out).mono ?_
  rintro e w1 ⟨rfl, b1⟩
  have B1 := Lib.hid (B0.out.trans (b1.mono B0.out.size))
  clear b1
  go_wp2
  go_ret
  exact ⟨ret_i E.out.symm, B1.out⟩

set_option maxHeartbeats 2000000 in
theorem eqFlight_t (p q : FlightR) (w : World) (h : FlightR.ok w p) (h' : FlightR.ok w q) (hv : p.val = q.val) :
    Calls Try.prog 90 #[.agg (FlightR.cells p).toArray, .agg (FlightR.cells q).toArray] w fun e w' => e = .returned (.bool true) ∧ Below w.heap.size w w' := by
  show Calls Try.prog 90 #[.agg #[.int .i64 p.f0, .int .i64 p.f1.f0, .int .i64 p.f1.f1, .int .i64 p.f1.f2, .int .i64 p.f1.f3, .int .i64 p.f1.f4, .int .i64 p.f1.f5, .int .i64 p.f1.f6, .slice p.f1.f7.a p.f1.f7.l p.f1.f7.c], .agg #[.int .i64 q.f0, .int .i64 q.f1.f0, .int .i64 q.f1.f1, .int .i64 q.f1.f2, .int .i64 q.f1.f3, .int .i64 q.f1.f4, .int .i64 q.f1.f5, .int .i64 q.f1.f6, .slice q.f1.f7.a q.f1.f7.l q.f1.f7.c]] w _
  have e0 : (p.f0 != q.f0) = false := by rw [show p.f0 = q.f0 from congrArg FlightV.f0 hv]; simp
  have K0 := Lib.hid (fun W (hW : Below w.heap.size w W) => eqSegment_t p.f1 q.f1 W (SegmentR.md.below h hW) (SegmentR.md.below h' hW) (congrArg FlightV.f1 hv))
  have B0 := Lib.hid (((Below.refl w.heap.size w).alloc (Nat.le_refl _) (.cells #[.int .i64 p.f0, .int .i64 p.f1.f0, .int .i64 p.f1.f1, .int .i64 p.f1.f2, .int .i64 p.f1.f3, .int .i64 p.f1.f4, .int .i64 p.f1.f5, .int .i64 p.f1.f6, .slice p.f1.f7.a p.f1.f7.l p.f1.f7.c] 148)).alloc (by simp) (.cells #[.int .i64 q.f0, .int .i64 q.f1.f0, .int .i64 q.f1.f1, .int .i64 q.f1.f2, .int .i64 q.f1.f3, .int .i64 q.f1.f4, .int .i64 q.f1.f5, .int .i64 q.f1.f6, .slice q.f1.f7.a q.f1.f7.l q.f1.f7.c] 148))
  have X0 := Lib.hid ((Box.new w 148 #[.int .i64 p.f0, .int .i64 p.f1.f0, .int .i64 p.f1.f1, .int .i64 p.f1.f2, .int .i64 p.f1.f3, .int .i64 p.f1.f4, .int .i64 p.f1.f5, .int .i64 p.f1.f6, .slice p.f1.f7.a p.f1.f7.l p.f1.f7.c]).alloc (.cells #[.int .i64 q.f0, .int .i64 q.f1.f0, .int .i64 q.f1.f1, .int .i64 q.f1.f2, .int .i64 q.f1.f3, .int .i64 q.f1.f4, .int .i64 q.f1.f5, .int .i64 q.f1.f6, .slice q.f1.f7.a q.f1.f7.l q.f1.f7.c] 148))
  have Y0 := Lib.hid (Box.new (w.alloc (.cells #[.int .i64 p.f0, .int .i64 p.f1.f0, .int .i64 p.f1.f1, .int .i64 p.f1.f2, .int .i64 p.f1.f3, .int .i64 p.f1.f4, .int .i64 p.f1.f5, .int .i64 p.f1.f6, .slice p.f1.f7.a p.f1.f7.l p.f1.f7.c] 148)) 148 #[.int .i64 q.f0, .int .i64 q.f1.f0, .int .i64 q.f1.f1, .int .i64 q.f1.f2, .int .i64 q.f1.f3, .int .i64 q.f1.f4, .int .i64 q.f1.f5, .int .i64 q.f1.f6, .slice q.f1.f7.a q.f1.f7.l q.f1.f7.c])
  clear h h' hv
  go_enter Try.func90, Try.ntmps90
  go_wp2_with fail
  refine (K0.out _ B0.out).mono ?_
  rintro e w1 ⟨rfl, b1⟩
  have B1 := Lib.hid (B0.out.trans (b1.mono B0.out.size))
  clear b1
  go_wp2
  go_ret
  exact ⟨rfl, B1.out⟩

set_option maxHeartbeats 4000000 in
theorem toFlight_any (p : FlightR) (w : World) (h : FlightR.ok w p) (hl : p.val.wt ≤ 1048576) :
    Calls Try.prog 86 #[.agg (FlightR.cells p).toArray] w (TOut FlightR.md FlightR.val p.val w) := by
  show Calls Try.prog 86 #[.agg #[.int .i64 p.f0, .int .i64 p.f1.f0, .int .i64 p.f1.f1, .int .i64 p.f1.f2, .int .i64 p.f1.f3, .int .i64 p.f1.f4, .int .i64 p.f1.f5, .int .i64 p.f1.f6, .slice p.f1.f7.a p.f1.f7.l p.f1.f7.c]] w _
  have hw : p.val.wt = p.f1.val.wt := rfl
  rw [hw] at hl
  have K0 := Lib.hid (fun W (hW : Below w.heap.size w W) => toSegment_any p.f1 W (SegmentR.md.below h hW) (by omega))
  clear h hl hw
  have B0 := Lib.hid ((((Below.refl w.heap.size w).alloc (Nat.le_refl _) (.cells #[.int .i64 p.f0, .int .i64 p.f1.f0, .int .i64 p.f1.f1, .int .i64 p.f1.f2, .int .i64 p.f1.f3, .int .i64 p.f1.f4, .int .i64 p.f1.f5, .int .i64 p.f1.f6, .slice p.f1.f7.a p.f1.f7.l p.f1.f7.c] 139)).alloc (by simp) (.cells #[.int .i64 0, .int .i64 0, .int .i64 0, .int .i64 0, .int .i64 0, .int .i64 0, .int .i64 0, .int .i64 0, .slice none 0 0] 148)).alloc (by simp; omega) (.cells #[.int .i64 p.f0, .int .i64 0, .int .i64 0, .int .i64 0, .int .i64 0, .int .i64 0, .int .i64 0, .int .i64 0, .slice none 0 0] 148))
  have P0 := Lib.hid (((Box.new w 139 #[.int .i64 p.f0, .int .i64 p.f1.f0, .int .i64 p.f1.f1, .int .i64 p.f1.f2, .int .i64 p.f1.f3, .int .i64 p.f1.f4, .int .i64 p.f1.f5, .int .i64 p.f1.f6, .slice p.f1.f7.a p.f1.f7.l p.f1.f7.c]).alloc (.cells #[.int .i64 0, .int .i64 0, .int .i64 0, .int .i64 0, .int .i64 0, .int .i64 0, .int .i64 0, .int .i64 0, .slice none 0 0] 148)).alloc (.cells #[.int .i64 p.f0, .int .i64 0, .int .i64 0, .int .i64 0, .int .i64 0, .int .i64 0, .int .i64 0, .int .i64 0, .slice none 0 0] 148))
  have R0 := Lib.hid ((Box.new (w.alloc (.cells #[.int .i64 p.f0, .int .i64 p.f1.f0, .int .i64 p.f1.f1, .int .i64 p.f1.f2, .int .i64 p.f1.f3, .int .i64 p.f1.f4, .int .i64 p.f1.f5, .int .i64 p.f1.f6, .slice p.f1.f7.a p.f1.f7.l p.f1.f7.c] 139)) 148 #[.int .i64 0, .int .i64 0, .int .i64 0, .int .i64 0, .int .i64 0, .int .i64 0, .int .i64 0, .int .i64 0, .slice none 0 0]).alloc (.cells #[.int .i64 p.f0, .int .i64 0, .int .i64 0, .int .i64 0, .int .i64 0, .int .i64 0, .int .i64 0, .int .i64 0, .slice none 0 0] 148))
  have U0 := Lib.hid (Box.new ((w.alloc (.cells #[.int .i64 p.f0, .int .i64 p.f1.f0, .int .i64 p.f1.f1, .int .i64 p.f1.f2, .int .i64 p.f1.f3, .int .i64 p.f1.f4, .int .i64 p.f1.f5, .int .i64 p.f1.f6, .slice p.f1.f7.a p.f1.f7.l p.f1.f7.c] 139)).alloc (.cells #[.int .i64 0, .int .i64 0, .int .i64 0, .int .i64 0, .int .i64 0, .int .i64 0, .int .i64 0, .int .i64 0, .slice none 0 0] 148)) 148 #[.int .i64 p.f0, .int .i64 0, .int .i64 0, .int .i64 0, .int .i64 0, .int .i64 0, .int .i64 0, .int .i64 0, .slice none 0 0])
  go_enter Try.func86, Try.ntmps86
  go_wp2_with fail
  refine (K0.out _ B0.out).mono ?_
  rintro e w1 ⟨q1, rfl, o0, v0, n0, b1⟩
  have px := P0.out.below b1 P0.out.lt
  have rx := R0.out.below b1 R0.out.lt
  have ux := U0.out.below b1 U0.out.lt
  simp only [World.size_alloc] at n0 rx ux
  have P1 := Lib.hid px
  have R1 := Lib.hid rx
  have U1 := Lib.hid ux
  have B1 := Lib.hid (B0.out.trans (b1.mono B0.out.size))
  have O0 := Lib.hid o0
  have V0 := Lib.hid v0
  have S1 := Lib.hid (show w.heap.size + 1 + 1 < w1.heap.size from ux.lt)
  have N1 := Lib.hid (n0.mono (show w.heap.size + 1 + 1 + 1 ≤ w.heap.size + 1 + 1 + 1 from Nat.le_refl _))
  have OO0_1 := O0
  clear o0 v0 n0 b1 px rx ux P0 R0 U0 B0 K0
  have u1 : w1.cell? ⟨w.heap.size + 1 + 1, 1, none⟩ = some (.int .i64 0) := U1.out.cell 1
  have g1 := U1.out.frozen 1
  have u2 : w1.cell? ⟨w.heap.size + 1 + 1, 2, none⟩ = some (.int .i64 0) := U1.out.cell 2
  have g2 := U1.out.frozen 2
  have u3 : w1.cell? ⟨w.heap.size + 1 + 1, 3, none⟩ = some (.int .i64 0) := U1.out.cell 3
  have g3 := U1.out.frozen 3
  have u4 : w1.cell? ⟨w.heap.size + 1 + 1, 4, none⟩ = some (.int .i64 0) := U1.out.cell 4
  have g4 := U1.out.frozen 4
  have u5 : w1.cell? ⟨w.heap.size + 1 + 1, 5, none⟩ = some (.int .i64 0) := U1.out.cell 5
  have g5 := U1.out.frozen 5
  have u6 : w1.cell? ⟨w.heap.size + 1 + 1, 6, none⟩ = some (.int .i64 0) := U1.out.cell 6
  have g6 := U1.out.frozen 6
  have u7 : w1.cell? ⟨w.heap.size + 1 + 1, 7, none⟩ = some (.int .i64 0) := U1.out.cell 7
  have g7 := U1.out.frozen 7
  have u8 : w1.cell? ⟨w.heap.size + 1 + 1, 8, none⟩ = some (.slice none 0 0) := U1.out.cell 8
  have g8 := U1.out.frozen 8
  have TH0 := Lib.hid (U1.out.thereK 1 8 (by simp))
  have Z1 : Box (w1.setCell ⟨w.heap.size + 1 + 1, 1, none⟩ (.int .i64 q1.f0)) (w.heap.size + 1 + 1) 148 #[.int .i64 p.f0, .int .i64 q1.f0, .int .i64 0, .int .i64 0, .int .i64 0, .int .i64 0, .int .i64 0, .int .i64 0, .slice none 0 0] := Box.putK U1.out 1 (.int .i64 q1.f0)
  have Z2 : Box ((w1.setCell ⟨w.heap.size + 1 + 1, 1, none⟩ (.int .i64 q1.f0)).setCell ⟨w.heap.size + 1 + 1, 2, none⟩ (.int .i64 q1.f1)) (w.heap.size + 1 + 1) 148 #[.int .i64 p.f0, .int .i64 q1.f0, .int .i64 q1.f1, .int .i64 0, .int .i64 0, .int .i64 0, .int .i64 0, .int .i64 0, .slice none 0 0] := Box.putK Z1 2 (.int .i64 q1.f1)
  have Z3 : Box (((w1.setCell ⟨w.heap.size + 1 + 1, 1, none⟩ (.int .i64 q1.f0)).setCell ⟨w.heap.size + 1 + 1, 2, none⟩ (.int .i64 q1.f1)).setCell ⟨w.heap.size + 1 + 1, 3, none⟩ (.int .i64 q1.f2)) (w.heap.size + 1 + 1) 148 #[.int .i64 p.f0, .int .i64 q1.f0, .int .i64 q1.f1, .int .i64 q1.f2, .int .i64 0, .int .i64 0, .int .i64 0, .int .i64 0, .slice none 0 0] := Box.putK Z2 3 (.int .i64 q1.f2)
  have Z4 : Box ((((w1.setCell ⟨w.heap.size + 1 + 1, 1, none⟩ (.int .i64 q1.f0)).setCell ⟨w.heap.size + 1 + 1, 2, none⟩ (.int .i64 q1.f1)).setCell ⟨w.heap.size + 1 + 1, 3, none⟩ (.int .i64 q1.f2)).setCell ⟨w.heap.size + 1 + 1, 4, none⟩ (.int .i64 q1.f3)) (w.heap.size + 1 + 1) 148 #[.int .i64 p.f0, .int .i64 q1.f0, .int .i64 q1.f1, .int .i64 q1.f2, .int .i64 q1.f3, .int .i64 0, .int .i64 0, .int .i64 0, .slice none 0 0] := Box.putK Z3 4 (.int .i64 q1.f3)
  have Z5 : Box (((((w1.setCell ⟨w.heap.size + 1 + 1, 1, none⟩ (.int .i64 q1.f0)).setCell ⟨w.heap.size + 1 + 1, 2, none⟩ (.int .i64 q1.f1)).setCell ⟨w.heap.size + 1 + 1, 3, none⟩ (.int .i64 q1.f2)).setCell ⟨w.heap.size + 1 + 1, 4, none⟩ (.int .i64 q1.f3)).setCell ⟨w.heap.size + 1 + 1, 5, none⟩ (.int .i64 q1.f4)) (w.heap.size + 1 + 1) 148 #[.int .i64 p.f0, .int .i64 q1.f0, .int .i64 q1.f1, .int .i64 q1.f2, .int .i64 q1.f3, .int .i64 q1.f4, .int .i64 0, .int .i64 0, .slice none 0 0] := Box.putK Z4 5 (.int .i64 q1.f4)
  have Z6 : Box ((((((w1.setCell ⟨w.heap.size + 1 + 1, 1, none⟩ (.int .i64 q1.f0)).setCell ⟨w.heap.size + 1 + 1, 2, none⟩ (.int .i64 q1.f1)).setCell ⟨w.heap.size + 1 + 1, 3, none⟩ (.int .i64 q1.f2)).setCell ⟨w.heap.size + 1 + 1, 4, none⟩ (.int .i64 q1.f3)).setCell ⟨w.heap.size + 1 + 1, 5, none⟩ (.int .i64 q1.f4)).setCell ⟨w.heap.size + 1 + 1, 6, none⟩ (.int .i64 q1.f5)) (w.heap.size + 1 + 1) 148 #[.int .i64 p.f0, .int .i64 q1.f0, .int .i64 q1.f1, .int .i64 q1.f2, .int .i64 q1.f3, .int .i64 q1.f4, .int .i64 q1.f5, .int .i64 0, .slice none 0 0] := Box.putK Z5 6 (.int .i64 q1.f5)
  have Z7 : Box (((((((w1.setCell ⟨w.heap.size + 1 + 1, 1, none⟩ (.int .i64 q1.f0)).setCell ⟨w.heap.size + 1 + 1, 2, none⟩ (.int .i64 q1.f1)).setCell ⟨w.heap.size + 1 + 1, 3, none⟩ (.int .i64 q1.f2)).setCell ⟨w.heap.size + 1 + 1, 4, none⟩ (.int .i64 q1.f3)).setCell ⟨w.heap.size + 1 + 1, 5, none⟩ (.int .i64 q1.f4)).setCell ⟨w.heap.size + 1 + 1, 6, none⟩ (.int .i64 q1.f5)).setCell ⟨w.heap.size + 1 + 1, 7, none⟩ (.int .i64 q1.f6)) (w.heap.size + 1 + 1) 148 #[.int .i64 p.f0, .int .i64 q1.f0, .int .i64 q1.f1, .int .i64 q1.f2, .int .i64 q1.f3, .int .i64 q1.f4, .int .i64 q1.f5, .int .i64 q1.f6, .slice none 0 0] := Box.putK Z6 7 (.int .i64 q1.f6)
  have Z8 : Box ((((((((w1.setCell ⟨w.heap.size + 1 + 1, 1, none⟩ (.int .i64 q1.f0)).setCell ⟨w.heap.size + 1 + 1, 2, none⟩ (.int .i64 q1.f1)).setCell ⟨w.heap.size + 1 + 1, 3, none⟩ (.int .i64 q1.f2)).setCell ⟨w.heap.size + 1 + 1, 4, none⟩ (.int .i64 q1.f3)).setCell ⟨w.heap.size + 1 + 1, 5, none⟩ (.int .i64 q1.f4)).setCell ⟨w.heap.size + 1 + 1, 6, none⟩ (.int .i64 q1.f5)).setCell ⟨w.heap.size + 1 + 1, 7, none⟩ (.int .i64 q1.f6)).setCell ⟨w.heap.size + 1 + 1, 8, none⟩ (.slice q1.f7.a q1.f7.l q1.f7.c)) (w.heap.size + 1 + 1) 148 #[.int .i64 p.f0, .int .i64 q1.f0, .int .i64 q1.f1, .int .i64 q1.f2, .int .i64 q1.f3, .int .i64 q1.f4, .int .i64 q1.f5, .int .i64 q1.f6, .slice q1.f7.a q1.f7.l q1.f7.c] := Box.putK Z7 8 (.slice q1.f7.a q1.f7.l q1.f7.c)
  have UX1 := Lib.hid (show Box (w1.setCells (w.heap.size + 1 + 1) 1 (SegmentR.cells q1)) (w.heap.size + 1 + 1) 148 #[.int .i64 p.f0, .int .i64 q1.f0, .int .i64 q1.f1, .int .i64 q1.f2, .int .i64 q1.f3, .int .i64 q1.f4, .int .i64 q1.f5, .int .i64 q1.f6, .slice q1.f7.a q1.f7.l q1.f7.c] from Z8)
  have PX1 := Lib.hid (show Box (w1.setCells (w.heap.size + 1 + 1) 1 (SegmentR.cells q1)) w.heap.size 139 #[.int .i64 p.f0, .int .i64 p.f1.f0, .int .i64 p.f1.f1, .int .i64 p.f1.f2, .int .i64 p.f1.f3, .int .i64 p.f1.f4, .int .i64 p.f1.f5, .int .i64 p.f1.f6, .slice p.f1.f7.a p.f1.f7.l p.f1.f7.c] from (P1.out.chg (chg_setCells (w.heap.size + 1 + 1) 1 (SegmentR.cells q1) _) (fun e => absurd (List.mem_singleton.1 e) (show w.heap.size ≠ w.heap.size + 1 + 1 by omega))))
  have RX1 := Lib.hid (show Box (w1.setCells (w.heap.size + 1 + 1) 1 (SegmentR.cells q1)) (w.heap.size + 1) 148 #[.int .i64 0, .int .i64 0, .int .i64 0, .int .i64 0, .int .i64 0, .int .i64 0, .int .i64 0, .int .i64 0, .slice none 0 0] from (R1.out.chg (chg_setCells (w.heap.size + 1 + 1) 1 (SegmentR.cells q1) _) (fun e => absurd (List.mem_singleton.1 e) (show w.heap.size + 1 ≠ w.heap.size + 1 + 1 by omega))))
  have CX := ((Chg.refl [w.heap.size + 1 + 1] w1).trans (chg_setCells (w.heap.size + 1 + 1) 1 (SegmentR.cells q1) _))
  have BX1 := Lib.hid (show Below w.heap.size w (w1.setCells (w.heap.size + 1 + 1) 1 (SegmentR.cells q1)) from (B1.out.trans ((chg_setCells (w.heap.size + 1 + 1) 1 (SegmentR.cells q1) _).below B1.out.size (fun k hk => by have := List.mem_singleton.1 hk; omega))))
  have OX0_1 := Lib.hid (SegmentR.md.chg OO0_1.out CX (fun k hk e => by have := N1.out.ge k hk; have := List.mem_singleton.1 e; omega))
  have NX1 := Lib.hid (N1.out.chg CX)
  clear Z1 Z2 Z3 Z4 Z5 Z6 Z7 Z8
  clear CX P1 R1 U1 B1 N1 OO0_1
  go_wp2_with (first
    | ((with_reducible change wpList _ _ _ (Oper.mk none (Op.store 146 _ _) _ _ _ _ :: _) _ _); refine wpList_store_mid (by rfl) 146 (.tmp 10) (.tmp 9) (by rfl) (w.heap.size + 1 + 1) 1 (SegmentR.cells q1).toArray (by rfl) (by rfl) TH0.out (by kernel_rfl) (by simp [SegmentR.cells, Value.oneCell']) ?_)
    | ((with_reducible change wpList _ _ _ (Oper.mk (some 11) _ _ _ _ _ :: _) _ _); refine getBox_list _ rfl 148 (.tmp 3) rfl (w.heap.size + 1 + 1) 148 _ UX1.out rfl _ rfl Try.underlying148 (by kernel_rfl) ?_; simp only [Act.put, List.setIfInBounds_toArray, List.set_cons_zero, List.set_cons_succ])
    | ((with_reducible change wpList _ _ _ (Oper.mk none (Op.store 148 _ _) _ _ _ _ :: _) _ _); refine setBox_list _ rfl 148 (.tmp 2) (.tmp 11) rfl (w.heap.size + 1) 148 _ #[.int .i64 p.f0, .int .i64 q1.f0, .int .i64 q1.f1, .int .i64 q1.f2, .int .i64 q1.f3, .int .i64 q1.f4, .int .i64 q1.f5, .int .i64 q1.f6, .slice q1.f7.a q1.f7.l q1.f7.c] RX1.out (by exact rfl) (by exact rfl) (by kernel_rfl) (by exact rfl) (by simp [Value.oneCell']) ?_; intro w9 x9 g9))
  have CX := (Chg.refl [w.heap.size + 1] _).boxed x9 g9 (List.mem_singleton.2 rfl)
  refine bodyPost_ret (results_cell_row Try.results86 _ _ _ _ _ _ _ rfl x9 Try.underlying148 rfl (by kernel_rfl)) rfl ⟨⟨p.f0, q1⟩, rfl, ?_, ?_, ?_, ?_⟩
  · exact (SegmentR.md.chg OX0_1.out CX (fun k hk e => by have := NX1.out.ge k hk; have := List.mem_singleton.1 e; omega))
  · simp only [FlightR.val, V0.out]
  · exact (NX1.out.chg CX).mono (by omega)
  · exact BX1.out.trans (CX.below BX1.out.size (fun k hk => by have := List.mem_singleton.1 hk; omega))

end Go.Proofs.Ytbngdenlplbjhaa
