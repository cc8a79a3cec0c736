/-
  Reply: rows, values, marks; the helpers of the laws that size, copy and compare one.
-/
import Derived.Test.YtbngdenlplbjhaaKG
namespace Go.Proofs.Ytbngdenlplbjhaa
open Go.ChangeShapes Go.WideShapes Go.ChangeAt Go.RowKit

structure ReplyV where
  f0 : Int
  f1 : Int
  f2 : List Int
deriving DecidableEq
structure ReplyR where
  f0 : Int
  f1 : Int
  f2 : Yt
def ReplyR.val (p : ReplyR) : ReplyV := ⟨p.f0, p.f1, p.f2.z⟩
def ReplyR.cells (p : ReplyR) : List Value := [.int .i64 p.f0, .int .i64 p.f1, .slice p.f2.a p.f2.l p.f2.c]
def ReplyR.ok (w : World) (p : ReplyR) : Prop := Yt.ok w p.f2
def ReplyR.blks (p : ReplyR) : List Nat := p.f2.blks
theorem ReplyR.keep {w w' : World} {p : ReplyR} (h : ReplyR.ok w p) (hb : ∀ b ∈ ReplyR.blks p, w'.heap[b]? = w.heap[b]?) : ReplyR.ok w' p :=
  Yt.ok.keep h (fun b hm => hb b hm)
theorem ReplyR.lt {w : World} {p : ReplyR} (h : ReplyR.ok w p) : ∀ b ∈ ReplyR.blks p, b < w.heap.size := by
  intro b hb
  exact Yt.ok.lt h b hb
def ReplyR.md : Md ReplyR where
  n := 3
  cells := ReplyR.cells
  ok := ReplyR.ok
  blks := ReplyR.blks
  clen _ := rfl
  keep := ReplyR.keep
  lt := ReplyR.lt
def ReplyV.wt (v : ReplyV) : Nat := v.f2.length
def ReplyV.mrk (v : ReplyV) : Nat := 2 + v.f2.length
def ReplyR.mkn (p : ReplyR) : Nat := p.val.mrk
theorem ReplyV.mrk_le (v : ReplyV) : v.mrk ≤ 2 + 16 * v.wt := by
  simp only [ReplyV.mrk, ReplyV.wt]
  omega
def ReplyR.mark (k : Nat) (p : ReplyR) : ReplyR := ⟨((k : Nat) : Int), ((k : Nat) : Int) + 1, p.f2.mark (k + 2)⟩
theorem ReplyR.mark_blks (k : Nat) (p : ReplyR) : ReplyR.blks (ReplyR.mark k p) = ReplyR.blks p :=
  rfl
def zReply : ReplyR := ⟨0, 0, ⟨none, 0, 0, []⟩⟩
theorem zReply_ok (w : World) : ReplyR.ok w zReply := Own.rd (Own.nil _ 0)

set_option maxHeartbeats 2000000 in
theorem szReply_any (p : ReplyR) (l : Nat) (w : World) (h : ReplyR.ok w p) (hl : l ≤ 1048576) :
    Calls Try.prog 83 #[.agg (ReplyR.cells p).toArray, .int .i64 l] w fun e w' => e = .returned (.int .i64 (szR p.val.wt l)) ∧ Below w.heap.size w w' := by
  show Calls Try.prog 83 #[.agg #[.int .i64 p.f0, .int .i64 p.f1, .slice p.f2.a p.f2.l p.f2.c], .int .i64 l] w _
  obtain ⟨n0, hn0⟩ : ∃ n, n = p.f2.z.length := ⟨_, rfl⟩
  have hw : p.val.wt = n0 := by rw [hn0]; rfl
  rw [hw]
  have B0 := Lib.hid ((Below.refl w.heap.size w).alloc (Nat.le_refl _) (.cells #[.int .i64 p.f0, .int .i64 p.f1, .slice p.f2.a p.f2.l p.f2.c] 141))
  have X0 := Lib.hid (Box.new w 141 #[.int .i64 p.f0, .int .i64 p.f1, .slice p.f2.a p.f2.l p.f2.c])
  have K0 := Lib.hid (show ∀ W, Below w.heap.size w W → ∀ t : Nat, t ≤ 1048576 → Calls Try.prog 84 #[.slice p.f2.a p.f2.l p.f2.c, .int .i64 t] W fun e w' => e = .returned (.int .i64 (szR n0 t)) ∧ Below W.heap.size W w' from fun W hW t ht => by rw [hn0]; exact szByteS_any p.f2 t W (Yt.ok.below h hW) ht)
  clear h hw hn0
  by_cases h0 : n0 ≤ l
  case neg =>
    have C0 := Lib.hid (fun W hW => (show Calls Try.prog 84 #[.slice p.f2.a p.f2.l p.f2.c, .int .i64 (l : Nat)] W fun e w' => e = .returned (.int .i64 (-1)) ∧ Below W.heap.size W w' from by have q := K0.out W hW l (by omega); rw [szR_f (by omega)] at q; exact q))
    have E : Hid (szR (n0) l = -1) := szR_f (by omega)
    clear K0
    go_enter Try.func83, Try.ntmps83
    go_wp2_with fail
    refine (C0.out _ B0.out).mono ?_
    rintro e w1 ⟨rfl, b1⟩
    have B1 := Lib.hid (B0.out.trans (b1.mono B0.out.size))
    clear b1
    go_wp2
    go_ret
    exact ⟨ret_i E.out.symm, B1.out⟩
  have hp0 : ¬ ((l - n0 : Nat) : Int) < 0 := by omega
  have C0 := Lib.hid (fun W hW => (show Calls Try.prog 84 #[.slice p.f2.a p.f2.l p.f2.c, .int .i64 (l : Nat)] W fun e w' => e = .returned (.int .i64 (l - n0 : Nat)) ∧ Below W.heap.size W w' from by have q := K0.out W hW l (by omega); rw [szR_t (by omega)] at q; exact q))
  have E : Hid (szR (n0) l = ((l - n0 : Nat) : Int)) := (szR_t (by omega)).trans (by omega)
  clear K0
  go_enter Try.func83, Try.ntmps83
  go_wp2_with fail
  refine (C0.out _ B0.out).mono ?_
  rintro e w1 ⟨rfl, b1⟩
  have B1 := Lib.hid (B0.out.trans (b1.mono B0.out.size))
  clear b1
  go_wp2
  go_ret
  exact ⟨ret_i E.out.symm, B1.out⟩

set_option maxHeartbeats 2000000 in
theorem eqReply_t (p q : ReplyR) (w : World) (h : ReplyR.ok w p) (h' : ReplyR.ok w q) (hv : p.val = q.val) :
    Calls Try.prog 91 #[.agg (ReplyR.cells p).toArray, .agg (ReplyR.cells q).toArray] w fun e w' => e = .returned (.bool true) ∧ Below w.heap.size w w' := by
  show Calls Try.prog 91 #[.agg #[.int .i64 p.f0, .int .i64 p.f1, .slice p.f2.a p.f2.l p.f2.c], .agg #[.int .i64 q.f0, .int .i64 q.f1, .slice q.f2.a q.f2.l q.f2.c]] w _
  have e0 : (p.f0 != q.f0) = false := by rw [show p.f0 = q.f0 from congrArg ReplyV.f0 hv]; simp
  have e1 : (p.f1 != q.f1) = false := by rw [show p.f1 = q.f1 from congrArg ReplyV.f1 hv]; simp
  have K0 := Lib.hid (fun W (hW : Below w.heap.size w W) => eqByteS_y p.f2 q.f2 W (Yt.ok.below h hW) (Yt.ok.below h' hW) (congrArg ReplyV.f2 hv))
  have B0 := Lib.hid (((Below.refl w.heap.size w).alloc (Nat.le_refl _) (.cells #[.int .i64 p.f0, .int .i64 p.f1, .slice p.f2.a p.f2.l p.f2.c] 105)).alloc (by simp) (.cells #[.int .i64 q.f0, .int .i64 q.f1, .slice q.f2.a q.f2.l q.f2.c] 105))
  have X0 := Lib.hid ((Box.new w 105 #[.int .i64 p.f0, .int .i64 p.f1, .slice p.f2.a p.f2.l p.f2.c]).alloc (.cells #[.int .i64 q.f0, .int .i64 q.f1, .slice q.f2.a q.f2.l q.f2.c] 105))
  have Y0 := Lib.hid (Box.new (w.alloc (.cells #[.int .i64 p.f0, .int .i64 p.f1, .slice p.f2.a p.f2.l p.f2.c] 105)) 105 #[.int .i64 q.f0, .int .i64 q.f1, .slice q.f2.a q.f2.l q.f2.c])
  clear h h' hv
  go_enter Try.func91, Try.ntmps91
  go_wp2_with fail
  refine (K0.out _ B0.out).mono ?_
  rintro e w1 ⟨rfl, b1⟩
  have B1 := Lib.hid (B0.out.trans (b1.mono B0.out.size))
  clear b1
  go_wp2
  go_ret
  exact ⟨rfl, B1.out⟩

set_option maxHeartbeats 4000000 in
theorem toReply_any (p : ReplyR) (w : World) (h : ReplyR.ok w p) (hl : p.val.wt ≤ 1048576) :
    Calls Try.prog 87 #[.agg (ReplyR.cells p).toArray] w (TOut ReplyR.md ReplyR.val p.val w) := by
  show Calls Try.prog 87 #[.agg #[.int .i64 p.f0, .int .i64 p.f1, .slice p.f2.a p.f2.l p.f2.c]] w _
  have hw : p.val.wt = p.f2.z.length := rfl
  rw [hw] at hl
  have K0 := Lib.hid (fun W (hW : Below w.heap.size w W) => toByteS_y p.f2 W (Yt.ok.below h hW) (by have := h.length; omega))
  clear h hl hw
  have B0 := Lib.hid ((((Below.refl w.heap.size w).alloc (Nat.le_refl _) (.cells #[.int .i64 p.f0, .int .i64 p.f1, .slice p.f2.a p.f2.l p.f2.c] 141)).alloc (by simp) (.cells #[.int .i64 0, .int .i64 0, .slice none 0 0] 105)).alloc (by simp; omega) (.cells #[.int .i64 p.f0, .int .i64 p.f1, .slice none 0 0] 105))
  have P0 := Lib.hid (((Box.new w 141 #[.int .i64 p.f0, .int .i64 p.f1, .slice p.f2.a p.f2.l p.f2.c]).alloc (.cells #[.int .i64 0, .int .i64 0, .slice none 0 0] 105)).alloc (.cells #[.int .i64 p.f0, .int .i64 p.f1, .slice none 0 0] 105))
  have R0 := Lib.hid ((Box.new (w.alloc (.cells #[.int .i64 p.f0, .int .i64 p.f1, .slice p.f2.a p.f2.l p.f2.c] 141)) 105 #[.int .i64 0, .int .i64 0, .slice none 0 0]).alloc (.cells #[.int .i64 p.f0, .int .i64 p.f1, .slice none 0 0] 105))
  have U0 := Lib.hid (Box.new ((w.alloc (.cells #[.int .i64 p.f0, .int .i64 p.f1, .slice p.f2.a p.f2.l p.f2.c] 141)).alloc (.cells #[.int .i64 0, .int .i64 0, .slice none 0 0] 105)) 105 #[.int .i64 p.f0, .int .i64 p.f1, .slice none 0 0])
  go_enter Try.func87, Try.ntmps87
  go_wp2_with fail
  refine (K0.out _ B0.out).mono ?_
  rintro e w1 ⟨q2, rfl, o0, v0, n0, b1⟩
  have px := P0.out.below b1 P0.out.lt
  have rx := R0.out.below b1 R0.out.lt
  have ux := U0.out.below b1 U0.out.lt
  simp only [World.size_alloc] at n0 rx ux
  have P1 := Lib.hid px
  have R1 := Lib.hid rx
  have U1 := Lib.hid ux
  have B1 := Lib.hid (B0.out.trans (b1.mono B0.out.size))
  have O0 := Lib.hid o0
  have V0 := Lib.hid v0
  have S1 := Lib.hid (show w.heap.size + 1 + 1 < w1.heap.size from ux.lt)
  have N1 := Lib.hid (n0.mono (show w.heap.size + 1 + 1 + 1 ≤ w.heap.size + 1 + 1 + 1 from Nat.le_refl _))
  have OO0_1 := O0
  clear o0 v0 n0 b1 px rx ux P0 R0 U0 B0 K0
  have u2 : w1.cell? ⟨w.heap.size + 1 + 1, 2, none⟩ = some (.slice none 0 0) := U1.out.cell 2
  have g2 := U1.out.frozen 2
  have UX1 := Lib.hid (show Box (w1.setCell ⟨w.heap.size + 1 + 1, 2, none⟩ (.slice q2.a q2.l q2.c)) (w.heap.size + 1 + 1) 105 #[.int .i64 p.f0, .int .i64 p.f1, .slice q2.a q2.l q2.c] from (U1.out.putK 2 (.slice q2.a q2.l q2.c)))
  have PX1 := Lib.hid (show Box (w1.setCell ⟨w.heap.size + 1 + 1, 2, none⟩ (.slice q2.a q2.l q2.c)) w.heap.size 141 #[.int .i64 p.f0, .int .i64 p.f1, .slice p.f2.a p.f2.l p.f2.c] from (P1.out.off ⟨w.heap.size + 1 + 1, 2, none⟩ (.slice q2.a q2.l q2.c) (show w.heap.size ≠ w.heap.size + 1 + 1 by omega)))
  have RX1 := Lib.hid (show Box (w1.setCell ⟨w.heap.size + 1 + 1, 2, none⟩ (.slice q2.a q2.l q2.c)) (w.heap.size + 1) 105 #[.int .i64 0, .int .i64 0, .slice none 0 0] from (R1.out.off ⟨w.heap.size + 1 + 1, 2, none⟩ (.slice q2.a q2.l q2.c) (show w.heap.size + 1 ≠ w.heap.size + 1 + 1 by omega)))
  have CX := ((Chg.refl [w.heap.size + 1 + 1] w1).set (w.heap.size + 1 + 1) 2 (.slice q2.a q2.l q2.c) (List.mem_singleton.2 rfl))
  have BX1 := Lib.hid (show Below w.heap.size w (w1.setCell ⟨w.heap.size + 1 + 1, 2, none⟩ (.slice q2.a q2.l q2.c)) from (B1.out.setCell (show w.heap.size ≤ w.heap.size + 1 + 1 by omega) (.slice q2.a q2.l q2.c)))
  have OX0_1 := Lib.hid (Yt.ok.chg OO0_1.out CX (fun k hk e => by have := N1.out.ge k hk; have := List.mem_singleton.1 e; omega))
  have NX1 := Lib.hid (N1.out.chg CX)
  clear CX P1 R1 U1 B1 N1 OO0_1
  go_wp2_with (first
    | ((with_reducible change wpList _ _ _ (Oper.mk (some 14) _ _ _ _ _ :: _) _ _); refine getBox_list _ rfl 105 (.tmp 3) rfl (w.heap.size + 1 + 1) 105 _ UX1.out rfl _ rfl Try.underlying105 (by kernel_rfl) ?_; simp only [Act.put, List.setIfInBounds_toArray, List.set_cons_zero, List.set_cons_succ])
    | ((with_reducible change wpList _ _ _ (Oper.mk none (Op.store 105 _ _) _ _ _ _ :: _) _ _); refine setBox_list _ rfl 105 (.tmp 2) (.tmp 14) rfl (w.heap.size + 1) 105 _ #[.int .i64 p.f0, .int .i64 p.f1, .slice q2.a q2.l q2.c] RX1.out (by exact rfl) (by exact rfl) (by kernel_rfl) (by exact rfl) (by simp [Value.oneCell']) ?_; intro w9 x9 g9))
  have CX := (Chg.refl [w.heap.size + 1] _).boxed x9 g9 (List.mem_singleton.2 rfl)
  refine bodyPost_ret (results_cell_row Try.results87 _ _ _ _ _ _ _ rfl x9 Try.underlying105 rfl (by kernel_rfl)) rfl ⟨⟨p.f0, p.f1, q2⟩, rfl, ?_, ?_, ?_, ?_⟩
  · exact (Yt.ok.chg OX0_1.out CX (fun k hk e => by have := NX1.out.ge k hk; have := List.mem_singleton.1 e; omega))
  · simp only [ReplyR.val, V0.out]
  · exact (NX1.out.chg CX).mono (by omega)
  · exact BX1.out.trans (CX.below BX1.out.size (fun k hk => by have := List.mem_singleton.1 hk; omega))

end Go.Proofs.Ytbngdenlplbjhaa
