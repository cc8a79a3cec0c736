/-
  Segment: rows, values, marks; the helpers of the laws that size, copy and compare one.
-/
import Derived.Test.YtbngdenlplbjhaaKG
namespace Go.Proofs.Ytbngdenlplbjhaa
open Go.ChangeShapes Go.WideShapes Go.ChangeAt Go.RowKit

structure SegmentV where
  f0 : Int
  f1 : Int
  f2 : Int
  f3 : Int
  f4 : Int
  f5 : Int
  f6 : Int
  f7 : List Int
deriving DecidableEq
structure SegmentR where
  f0 : Int
  f1 : Int
  f2 : Int
  f3 : Int
  f4 : Int
  f5 : Int
  f6 : Int
  f7 : Yt
def SegmentR.val (p : SegmentR) : SegmentV := ⟨p.f0, p.f1, p.f2, p.f3, p.f4, p.f5, p.f6, p.f7.z⟩
def SegmentR.cells (p : SegmentR) : List Value := [.int .i64 p.f0, .int .i64 p.f1, .int .i64 p.f2, .int .i64 p.f3, .int .i64 p.f4, .int .i64 p.f5, .int .i64 p.f6, .slice p.f7.a p.f7.l p.f7.c]
def SegmentR.ok (w : World) (p : SegmentR) : Prop := Yt.ok w p.f7
def SegmentR.blks (p : SegmentR) : List Nat := p.f7.blks
theorem SegmentR.keep {w w' : World} {p : SegmentR} (h : SegmentR.ok w p) (hb : ∀ b ∈ SegmentR.blks p, w'.heap[b]? = w.heap[b]?) : SegmentR.ok w' p :=
  Yt.ok.keep h (fun b hm => hb b hm)
theorem SegmentR.lt {w : World} {p : SegmentR} (h : SegmentR.ok w p) : ∀ b ∈ SegmentR.blks p, b < w.heap.size := by
  intro b hb
  exact Yt.ok.lt h b hb
def SegmentR.md : Md SegmentR where
  n := 8
  cells := SegmentR.cells
  ok := SegmentR.ok
  blks := SegmentR.blks
  clen _ := rfl
  keep := SegmentR.keep
  lt := SegmentR.lt
def SegmentV.wt (v : SegmentV) : Nat := v.f7.length
def SegmentV.mrk (v : SegmentV) : Nat := 7 + v.f7.length
def SegmentR.mkn (p : SegmentR) : Nat := p.val.mrk
theorem SegmentV.mrk_le (v : SegmentV) : v.mrk ≤ 7 + 16 * v.wt := by
  simp only [SegmentV.mrk, SegmentV.wt]
  omega
def SegmentR.mark (k : Nat) (p : SegmentR) : SegmentR := ⟨((k : Nat) : Int), ((k : Nat) : Int) + 1, ((k : Nat) : Int) + 1 + 1, ((k : Nat) : Int) + 1 + 1 + 1, ((k : Nat) : Int) + 1 + 1 + 1 + 1, ((k : Nat) : Int) + 1 + 1 + 1 + 1 + 1, ((k : Nat) : Int) + 1 + 1 + 1 + 1 + 1 + 1, p.f7.mark (k + 7)⟩
theorem SegmentR.mark_blks (k : Nat) (p : SegmentR) : SegmentR.blks (SegmentR.mark k p) = SegmentR.blks p :=
  rfl
def zSegment : SegmentR := ⟨0, 0, 0, 0, 0, 0, 0, ⟨none, 0, 0, []⟩⟩
theorem zSegment_ok (w : World) : SegmentR.ok w zSegment := Own.rd (Own.nil _ 0)

set_option maxHeartbeats 2000000 in
theorem szSegment_any (p : SegmentR) (l : Nat) (w : World) (h : SegmentR.ok w p) (hl : l ≤ 1048576) :
    Calls Try.prog 98 #[.agg (SegmentR.cells p).toArray, .int .i64 l] w fun e w' => e = .returned (.int .i64 (szR p.val.wt l)) ∧ Below w.heap.size w w' := by
  show Calls Try.prog 98 #[.agg #[.int .i64 p.f0, .int .i64 p.f1, .int .i64 p.f2, .int .i64 p.f3, .int .i64 p.f4, .int .i64 p.f5, .int .i64 p.f6, .slice p.f7.a p.f7.l p.f7.c], .int .i64 l] w _
  obtain ⟨n0, hn0⟩ : ∃ n, n = p.f7.z.length := ⟨_, rfl⟩
  have hw : p.val.wt = n0 := by rw [hn0]; rfl
  rw [hw]
  have B0 := Lib.hid ((Below.refl w.heap.size w).alloc (Nat.le_refl _) (.cells #[.int .i64 p.f0, .int .i64 p.f1, .int .i64 p.f2, .int .i64 p.f3, .int .i64 p.f4, .int .i64 p.f5, .int .i64 p.f6, .slice p.f7.a p.f7.l p.f7.c] 137))
  have X0 := Lib.hid (Box.new w 137 #[.int .i64 p.f0, .int .i64 p.f1, .int .i64 p.f2, .int .i64 p.f3, .int .i64 p.f4, .int .i64 p.f5, .int .i64 p.f6, .slice p.f7.a p.f7.l p.f7.c])
  have K0 := Lib.hid (show ∀ W, Below w.heap.size w W → ∀ t : Nat, t ≤ 1048576 → Calls Try.prog 84 #[.slice p.f7.a p.f7.l p.f7.c, .int .i64 t] W fun e w' => e = .returned (.int .i64 (szR n0 t)) ∧ Below W.heap.size W w' from fun W hW t ht => by rw [hn0]; exact szByteS_any p.f7 t W (Yt.ok.below h hW) ht)
  clear h hw hn0
  by_cases h0 : n0 ≤ l
  case neg =>
    have C0 := Lib.hid (fun W hW => (show Calls Try.prog 84 #[.slice p.f7.a p.f7.l p.f7.c, .int .i64 (l : Nat)] W fun e w' => e = .returned (.int .i64 (-1)) ∧ Below W.heap.size W w' from by have q := K0.out W hW l (by omega); rw [szR_f (by omega)] at q; exact q))
    have E : Hid (szR (n0) l = -1) := szR_f (by omega)
    clear K0
    go_enter Try.func98, Try.ntmps98
    go_wp2_with fail
    refine (C0.out _ B0.out).mono ?_
    rintro e w1 ⟨rfl, b1⟩
    have B1 := Lib.hid (B0.out.trans (b1.mono B0.out.size))
    clear b1
    go_wp2
    go_ret
    exact ⟨ret_i E.out.symm, B1.out⟩
  have hp0 : ¬ ((l - n0 : Nat) : Int) < 0 := by omega
  have C0 := Lib.hid (fun W hW => (show Calls Try.prog 84 #[.slice p.f7.a p.f7.l p.f7.c, .int .i64 (l : Nat)] W fun e w' => e = .returned (.int .i64 (l - n0 : Nat)) ∧ Below W.heap.size W w' from by have q := K0.out W hW l (by omega); rw [szR_t (by omega)] at q; exact q))
  have E : Hid (szR (n0) l = ((l - n0 : Nat) : Int)) := (szR_t (by omega)).trans (by omega)
  clear K0
  go_enter Try.func98, Try.ntmps98
  go_wp2_with fail
  refine (C0.out _ B0.out).mono ?_
  rintro e w1 ⟨rfl, b1⟩
  have B1 := Lib.hid (B0.out.trans (b1.mono B0.out.size))
  clear b1
  go_wp2
  go_ret
  exact ⟨ret_i E.out.symm, B1.out⟩

set_option maxHeartbeats 2000000 in
theorem eqSegment_t (p q : SegmentR) (w : World) (h : SegmentR.ok w p) (h' : SegmentR.ok w q) (hv : p.val = q.val) :
    Calls Try.prog 102 #[.agg (SegmentR.cells p).toArray, .agg (SegmentR.cells q).toArray] w fun e w' => e = .returned (.bool true) ∧ Below w.heap.size w w' := by
  show Calls Try.prog 102 #[.agg #[.int .i64 p.f0, .int .i64 p.f1, .int .i64 p.f2, .int .i64 p.f3, .int .i64 p.f4, .int .i64 p.f5, .int .i64 p.f6, .slice p.f7.a p.f7.l p.f7.c], .agg #[.int .i64 q.f0, .int .i64 q.f1, .int .i64 q.f2, .int .i64 q.f3, .int .i64 q.f4, .int .i64 q.f5, .int .i64 q.f6, .slice q.f7.a q.f7.l q.f7.c]] w _
  have e0 : (p.f0 != q.f0) = false := by rw [show p.f0 = q.f0 from congrArg SegmentV.f0 hv]; simp
  have e1 : (p.f1 != q.f1) = false := by rw [show p.f1 = q.f1 from congrArg SegmentV.f1 hv]; simp
  have e2 : (p.f2 != q.f2) = false := by rw [show p.f2 = q.f2 from congrArg SegmentV.f2 hv]; simp
  have e3 : (p.f3 != q.f3) = false := by rw [show p.f3 = q.f3 from congrArg SegmentV.f3 hv]; simp
  have e4 : (p.f4 != q.f4) = false := by rw [show p.f4 = q.f4 from congrArg SegmentV.f4 hv]; simp
  have e5 : (p.f5 != q.f5) = false := by rw [show p.f5 = q.f5 from congrArg SegmentV.f5 hv]; simp
  have e6 : (p.f6 != q.f6) = false := by rw [show p.f6 = q.f6 from congrArg SegmentV.f6 hv]; simp
  have K0 := Lib.hid (fun W (hW : Below w.heap.size w W) => eqByteS_y p.f7 q.f7 W (Yt.ok.below h hW) (Yt.ok.below h' hW) (congrArg SegmentV.f7 hv))
  have B0 := Lib.hid (((Below.refl w.heap.size w).alloc (Nat.le_refl _) (.cells #[.int .i64 p.f0, .int .i64 p.f1, .int .i64 p.f2, .int .i64 p.f3, .int .i64 p.f4, .int .i64 p.f5, .int .i64 p.f6, .slice p.f7.a p.f7.l p.f7.c] 146)).alloc (by simp) (.cells #[.int .i64 q.f0, .int .i64 q.f1, .int .i64 q.f2, .int .i64 q.f3, .int .i64 q.f4, .int .i64 q.f5, .int .i64 q.f6, .slice q.f7.a q.f7.l q.f7.c] 146))
  have X0 := Lib.hid ((Box.new w 146 #[.int .i64 p.f0, .int .i64 p.f1, .int .i64 p.f2, .int .i64 p.f3, .int .i64 p.f4, .int .i64 p.f5, .int .i64 p.f6, .slice p.f7.a p.f7.l p.f7.c]).alloc (.cells #[.int .i64 q.f0, .int .i64 q.f1, .int .i64 q.f2, .int .i64 q.f3, .int .i64 q.f4, .int .i64 q.f5, .int .i64 q.f6, .slice q.f7.a q.f7.l q.f7.c] 146))
  have Y0 := Lib.hid (Box.new (w.alloc (.cells #[.int .i64 p.f0, .int .i64 p.f1, .int .i64 p.f2, .int .i64 p.f3, .int .i64 p.f4, .int .i64 p.f5, .int .i64 p.f6, .slice p.f7.a p.f7.l p.f7.c] 146)) 146 #[.int .i64 q.f0, .int .i64 q.f1, .int .i64 q.f2, .int .i64 q.f3, .int .i64 q.f4, .int .i64 q.f5, .int .i64 q.f6, .slice q.f7.a q.f7.l q.f7.c])
  clear h h' hv
  go_enter Try.func102, Try.ntmps102
  go_wp2_with fail
  refine (K0.out _ B0.out).mono ?_
  rintro e w1 ⟨rfl, b1⟩
  have B1 := Lib.hid (B0.out.trans (b1.mono B0.out.size))
  clear b1
  go_wp2
  go_ret
  exact ⟨rfl, B1.out⟩

set_option maxHeartbeats 4000000 in
theorem toSegment_any (p : SegmentR) (w : World) (h : SegmentR.ok w p) (hl : p.val.wt ≤ 1048576) :
    Calls Try.prog 100 #[.agg (SegmentR.cells p).toArray] w (TOut SegmentR.md SegmentR.val p.val w) := by
  show Calls Try.prog 100 #[.agg #[.int .i64 p.f0, .int .i64 p.f1, .int .i64 p.f2, .int .i64 p.f3, .int .i64 p.f4, .int .i64 p.f5, .int .i64 p.f6, .slice p.f7.a p.f7.l p.f7.c]] w _
  have hw : p.val.wt = p.f7.z.length := rfl
  rw [hw] at hl
  have K0 := Lib.hid (fun W (hW : Below w.heap.size w W) => toByteS_y p.f7 W (Yt.ok.below h hW) (by have := h.length; omega))
  clear h hl hw
  have B0 := Lib.hid ((((Below.refl w.heap.size w).alloc (Nat.le_refl _) (.cells #[.int .i64 p.f0, .int .i64 p.f1, .int .i64 p.f2, .int .i64 p.f3, .int .i64 p.f4, .int .i64 p.f5, .int .i64 p.f6, .slice p.f7.a p.f7.l p.f7.c] 137)).alloc (by simp) (.cells #[.int .i64 0, .int .i64 0, .int .i64 0, .int .i64 0, .int .i64 0, .int .i64 0, .int .i64 0, .slice none 0 0] 146)).alloc (by simp; omega) (.cells #[.int .i64 p.f0, .int .i64 p.f1, .int .i64 p.f2, .int .i64 p.f3, .int .i64 p.f4, .int .i64 p.f5, .int .i64 p.f6, .slice none 0 0] 146))
  have P0 := Lib.hid (((Box.new w 137 #[.int .i64 p.f0, .int .i64 p.f1, .int .i64 p.f2, .int .i64 p.f3, .int .i64 p.f4, .int .i64 p.f5, .int .i64 p.f6, .slice p.f7.a p.f7.l p.f7.c]).alloc (.cells #[.int .i64 0, .int .i64 0, .int .i64 0, .int .i64 0, .int .i64 0, .int .i64 0, .int .i64 0, .slice none 0 0] 146)).alloc (.cells #[.int .i64 p.f0, .int .i64 p.f1, .int .i64 p.f2, .int .i64 p.f3, .int .i64 p.f4, .int .i64 p.f5, .int .i64 p.f6, .slice none 0 0] 146))
  have R0 := Lib.hid ((Box.new (w.alloc (.cells #[.int .i64 p.f0, .int .i64 p.f1, .int .i64 p.f2, .int .i64 p.f3, .int .i64 p.f4, .int .i64 p.f5, .int .i64 p.f6, .slice p.f7.a p.f7.l p.f7.c] 137)) 146 #[.int .i64 0, .int .i64 0, .int .i64 0, .int .i64 0, .int .i64 0, .int .i64 0, .int .i64 0, .slice none 0 0]).alloc (.cells #[.int .i64 p.f0, .int .i64 p.f1, .int .i64 p.f2, .int .i64 p.f3, .int .i64 p.f4, .int .i64 p.f5, .int .i64 p.f6, .slice none 0 0] 146))
  have U0 := Lib.hid (Box.new ((w.alloc (.cells #[.int .i64 p.f0, .int .i64 p.f1, .int .i64 p.f2, .int .i64 p.f3, .int .i64 p.f4, .int .i64 p.f5, .int .i64 p.f6, .slice p.f7.a p.f7.l p.f7.c] 137)).alloc (.cells #[.int .i64 0, .int .i64 0, .int .i64 0, .int .i64 0, .int .i64 0, .int .i64 0, .int .i64 0, .slice none 0 0] 146)) 146 #[.int .i64 p.f0, .int .i64 p.f1, .int .i64 p.f2, .int .i64 p.f3, .int .i64 p.f4, .int .i64 p.f5, .int .i64 p.f6, .slice none 0 0])
  go_enter Try.func100, Try.ntmps100
  go_wp2_with fail
  refine (K0.out _ B0.out).mono ?_
  rintro e w1 ⟨q7, rfl, o0, v0, n0, b1⟩
  have px := P0.out.below b1 P0.out.lt
  have rx := R0.out.below b1 R0.out.lt
  have ux := U0.out.below b1 U0.out.lt
  simp only [World.size_alloc] at n0 rx ux
  have P1 := Lib.hid px
  have R1 := Lib.hid rx
  have U1 := Lib.hid ux
  have B1 := Lib.hid (B0.out.trans (b1.mono B0.out.size))
  have O0 := Lib.hid o0
  have V0 := Lib.hid v0
  have S1 := Lib.hid (show w.heap.size + 1 + 1 < w1.heap.size from ux.lt)
  have N1 := Lib.hid (n0.mono (show w.heap.size + 1 + 1 + 1 ≤ w.heap.size + 1 + 1 + 1 from Nat.le_refl _))
  have OO0_1 := O0
  clear o0 v0 n0 b1 px rx ux P0 R0 U0 B0 K0
  have u7 : w1.cell? ⟨w.heap.size + 1 + 1, 7, none⟩ = some (.slice none 0 0) := U1.out.cell 7
  have g7 := U1.out.frozen 7
  have UX1 := Lib.hid (show Box (w1.setCell ⟨w.heap.size + 1 + 1, 7, none⟩ (.slice q7.a q7.l q7.c)) (w.heap.size + 1 + 1) 146 #[.int .i64 p.f0, .int .i64 p.f1, .int .i64 p.f2, .int .i64 p.f3, .int .i64 p.f4, .int .i64 p.f5, .int .i64 p.f6, .slice q7.a q7.l q7.c] from (U1.out.putK 7 (.slice q7.a q7.l q7.c)))
  have PX1 := Lib.hid (show Box (w1.setCell ⟨w.heap.size + 1 + 1, 7, none⟩ (.slice q7.a q7.l q7.c)) w.heap.size 137 #[.int .i64 p.f0, .int .i64 p.f1, .int .i64 p.f2, .int .i64 p.f3, .int .i64 p.f4, .int .i64 p.f5, .int .i64 p.f6, .slice p.f7.a p.f7.l p.f7.c] from (P1.out.off ⟨w.heap.size + 1 + 1, 7, none⟩ (.slice q7.a q7.l q7.c) (show w.heap.size ≠ w.heap.size + 1 + 1 by omega)))
  have RX1 := Lib.hid (show Box (w1.setCell ⟨w.heap.size + 1 + 1, 7, none⟩ (.slice q7.a q7.l q7.c)) (w.heap.size + 1) 146 #[.int .i64 0, .int .i64 0, .int .i64 0, .int .i64 0, .int .i64 0, .int .i64 0, .int .i64 0, .slice none 0 0] from (R1.out.off ⟨w.heap.size + 1 + 1, 7, none⟩ (.slice q7.a q7.l q7.c) (show w.heap.size + 1 ≠ w.heap.size + 1 + 1 by omega)))
  have CX := ((Chg.refl [w.heap.size + 1 + 1] w1).set (w.heap.size + 1 + 1) 7 (.slice q7.a q7.l q7.c) (List.mem_singleton.2 rfl))
  have BX1 := Lib.hid (show Below w.heap.size w (w1.setCell ⟨w.heap.size + 1 + 1, 7, none⟩ (.slice q7.a q7.l q7.c)) from (B1.out.setCell (show w.heap.size ≤ w.heap.size + 1 + 1 by omega) (.slice q7.a q7.l q7.c)))
  have OX0_1 := Lib.hid (Yt.ok.chg OO0_1.out CX (fun k hk e => by have := N1.out.ge k hk; have := List.mem_singleton.1 e; omega))
  have NX1 := Lib.hid (N1.out.chg CX)
  clear CX P1 R1 U1 B1 N1 OO0_1
  go_wp2_with (first
    | ((with_reducible change wpList _ _ _ (Oper.mk (some 29) _ _ _ _ _ :: _) _ _); refine getBox_list _ rfl 146 (.tmp 3) rfl (w.heap.size + 1 + 1) 146 _ UX1.out rfl _ rfl Try.underlying146 (by kernel_rfl) ?_; simp only [Act.put, List.setIfInBounds_toArray, List.set_cons_zero, List.set_cons_succ])
    | ((with_reducible change wpList _ _ _ (Oper.mk none (Op.store 146 _ _) _ _ _ _ :: _) _ _); refine setBox_list _ rfl 146 (.tmp 2) (.tmp 29) rfl (w.heap.size + 1) 146 _ #[.int .i64 p.f0, .int .i64 p.f1, .int .i64 p.f2, .int .i64 p.f3, .int .i64 p.f4, .int .i64 p.f5, .int .i64 p.f6, .slice q7.a q7.l q7.c] RX1.out (by exact rfl) (by exact rfl) (by kernel_rfl) (by exact rfl) (by simp [Value.oneCell']) ?_; intro w9 x9 g9))
  have CX := (Chg.refl [w.heap.size + 1] _).boxed x9 g9 (List.mem_singleton.2 rfl)
  refine bodyPost_ret (results_cell_row Try.results100 _ _ _ _ _ _ _ rfl x9 Try.underlying146 rfl (by kernel_rfl)) rfl ⟨⟨p.f0, p.f1, p.f2, p.f3, p.f4, p.f5, p.f6, q7⟩, rfl, ?_, ?_, ?_, ?_⟩
  · exact (Yt.ok.chg OX0_1.out CX (fun k hk e => by have := NX1.out.ge k hk; have := List.mem_singleton.1 e; omega))
  · simp only [SegmentR.val, V0.out]
  · exact (NX1.out.chg CX).mono (by omega)
  · exact BX1.out.trans (CX.below BX1.out.size (fun k hk => by have := List.mem_singleton.1 hk; omega))

end Go.Proofs.Ytbngdenlplbjhaa
