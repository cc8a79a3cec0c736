/-
  Event: rows, values, marks; the helpers of the laws that size, copy and compare one.
-/
import Derived.Test.YtbngdenlplbjhaaKG
namespace Go.Proofs.Ytbngdenlplbjhaa
open Go.ChangeShapes Go.WideShapes Go.ChangeAt Go.RowKit

structure EventV where
  f0 : Int
  f1 : Int
  f2 : Int
  f3 : List Int
deriving DecidableEq
structure EventR where
  f0 : Int
  f1 : Int
  f2 : Int
  f3 : Yt
def EventR.val (p : EventR) : EventV := ⟨p.f0, p.f1, p.f2, p.f3.z⟩
def EventR.cells (p : EventR) : List Value := [.int .i64 p.f0, .int .i64 p.f1, .int .i64 p.f2, .slice p.f3.a p.f3.l p.f3.c]
def EventR.ok (w : World) (p : EventR) : Prop := Yt.ok w p.f3
def EventR.blks (p : EventR) : List Nat := p.f3.blks
theorem EventR.keep {w w' : World} {p : EventR} (h : EventR.ok w p) (hb : ∀ b ∈ EventR.blks p, w'.heap[b]? = w.heap[b]?) : EventR.ok w' p :=
  Yt.ok.keep h (fun b hm => hb b hm)
theorem EventR.lt {w : World} {p : EventR} (h : EventR.ok w p) : ∀ b ∈ EventR.blks p, b < w.heap.size := by
  intro b hb
  exact Yt.ok.lt h b hb
def EventR.md : Md EventR where
  n := 4
  cells := EventR.cells
  ok := EventR.ok
  blks := EventR.blks
  clen _ := rfl
  keep := EventR.keep
  lt := EventR.lt
def EventV.wt (v : EventV) : Nat := v.f3.length
def EventV.mrk (v : EventV) : Nat := 3 + v.f3.length
def EventR.mkn (p : EventR) : Nat := p.val.mrk
theorem EventV.mrk_le (v : EventV) : v.mrk ≤ 3 + 16 * v.wt := by
  simp only [EventV.mrk, EventV.wt]
  omega
def EventR.mark (k : Nat) (p : EventR) : EventR := ⟨((k : Nat) : Int), ((k : Nat) : Int) + 1, ((k : Nat) : Int) + 1 + 1, p.f3.mark (k + 3)⟩
theorem EventR.mark_blks (k : Nat) (p : EventR) : EventR.blks (EventR.mark k p) = EventR.blks p :=
  rfl
def zEvent : EventR := ⟨0, 0, 0, ⟨none, 0, 0, []⟩⟩
theorem zEvent_ok (w : World) : EventR.ok w zEvent := Own.rd (Own.nil _ 0)

set_option maxHeartbeats 2000000 in
theorem szEvent_any (p : EventR) (l : Nat) (w : World) (h : EventR.ok w p) (hl : l ≤ 1048576) :
    Calls Try.prog 58 #[.agg (EventR.cells p).toArray, .int .i64 l] w fun e w' => e = .returned (.int .i64 (szR p.val.wt l)) ∧ Below w.heap.size w w' := by
  show Calls Try.prog 58 #[.agg #[.int .i64 p.f0, .int .i64 p.f1, .int .i64 p.f2, .slice p.f3.a p.f3.l p.f3.c], .int .i64 l] w _
  obtain ⟨n0, hn0⟩ : ∃ n, n = p.f3.z.length := ⟨_, rfl⟩
  have hw : p.val.wt = n0 := by rw [hn0]; rfl
  rw [hw]
  have B0 := Lib.hid ((Below.refl w.heap.size w).alloc (Nat.le_refl _) (.cells #[.int .i64 p.f0, .int .i64 p.f1, .int .i64 p.f2, .slice p.f3.a p.f3.l p.f3.c] 101))
  have X0 := Lib.hid (Box.new w 101 #[.int .i64 p.f0, .int .i64 p.f1, .int .i64 p.f2, .slice p.f3.a p.f3.l p.f3.c])
  have K0 := Lib.hid (show ∀ W, Below w.heap.size w W → ∀ t : Nat, t ≤ 1048576 → Calls Try.prog 84 #[.slice p.f3.a p.f3.l p.f3.c, .int .i64 t] W fun e w' => e = .returned (.int .i64 (szR n0 t)) ∧ Below W.heap.size W w' from fun W hW t ht => by rw [hn0]; exact szByteS_any p.f3 t W (Yt.ok.below h hW) ht)
  clear h hw hn0
  by_cases h0 : n0 ≤ l
  case neg =>
    have C0 := Lib.hid (fun W hW => (show Calls Try.prog 84 #[.slice p.f3.a p.f3.l p.f3.c, .int .i64 (l : Nat)] W fun e w' => e = .returned (.int .i64 (-1)) ∧ Below W.heap.size W w' from by have q := K0.out W hW l (by omega); rw [szR_f (by omega)] at q; exact q))
    have E : Hid (szR (n0) l = -1) := szR_f (by omega)
    clear K0
    go_enter Try.func58, Try.ntmps58
    go_wp2_with fail
    refine (C0.out _ B0.out).mono ?_
    rintro e w1 ⟨rfl, b1⟩
    have B1 := Lib.hid (B0.out.trans (b1.mono B0.out.size))
    clear b1
    go_wp2
    go_ret
    exact ⟨ret_i E.out.symm, B1.out⟩
  have hp0 : ¬ ((l - n0 : Nat) : Int) < 0 := by omega
  have C0 := Lib.hid (fun W hW => (show Calls Try.prog 84 #[.slice p.f3.a p.f3.l p.f3.c, .int .i64 (l : Nat)] W fun e w' => e = .returned (.int .i64 (l - n0 : Nat)) ∧ Below W.heap.size W w' from by have q := K0.out W hW l (by omega); rw [szR_t (by omega)] at q; exact q))
  have E : Hid (szR (n0) l = ((l - n0 : Nat) : Int)) := (szR_t (by omega)).trans (by omega)
  clear K0
  go_enter Try.func58, Try.ntmps58
  go_wp2_with fail
  refine (C0.out _ B0.out).mono ?_
  rintro e w1 ⟨rfl, b1⟩
  have B1 := Lib.hid (B0.out.trans (b1.mono B0.out.size))
  clear b1
  go_wp2
  go_ret
  exact ⟨ret_i E.out.symm, B1.out⟩

set_option maxHeartbeats 2000000 in
theorem eqEvent_t (p q : EventR) (w : World) (h : EventR.ok w p) (h' : EventR.ok w q) (hv : p.val = q.val) :
    Calls Try.prog 69 #[.agg (EventR.cells p).toArray, .agg (EventR.cells q).toArray] w fun e w' => e = .returned (.bool true) ∧ Below w.heap.size w w' := by
  show Calls Try.prog 69 #[.agg #[.int .i64 p.f0, .int .i64 p.f1, .int .i64 p.f2, .slice p.f3.a p.f3.l p.f3.c], .agg #[.int .i64 q.f0, .int .i64 q.f1, .int .i64 q.f2, .slice q.f3.a q.f3.l q.f3.c]] w _
  have e0 : (p.f0 != q.f0) = false := by rw [show p.f0 = q.f0 from congrArg EventV.f0 hv]; simp
  have e1 : (p.f1 != q.f1) = false := by rw [show p.f1 = q.f1 from congrArg EventV.f1 hv]; simp
  have e2 : (p.f2 != q.f2) = false := by rw [show p.f2 = q.f2 from congrArg EventV.f2 hv]; simp
  have K0 := Lib.hid (fun W (hW : Below w.heap.size w W) => eqByteS_y p.f3 q.f3 W (Yt.ok.below h hW) (Yt.ok.below h' hW) (congrArg EventV.f3 hv))
  have B0 := Lib.hid (((Below.refl w.heap.size w).alloc (Nat.le_refl _) (.cells #[.int .i64 p.f0, .int .i64 p.f1, .int .i64 p.f2, .slice p.f3.a p.f3.l p.f3.c] 103)).alloc (by simp) (.cells #[.int .i64 q.f0, .int .i64 q.f1, .int .i64 q.f2, .slice q.f3.a q.f3.l q.f3.c] 103))
  have X0 := Lib.hid ((Box.new w 103 #[.int .i64 p.f0, .int .i64 p.f1, .int .i64 p.f2, .slice p.f3.a p.f3.l p.f3.c]).alloc (.cells #[.int .i64 q.f0, .int .i64 q.f1, .int .i64 q.f2, .slice q.f3.a q.f3.l q.f3.c] 103))
  have Y0 := Lib.hid (Box.new (w.alloc (.cells #[.int .i64 p.f0, .int .i64 p.f1, .int .i64 p.f2, .slice p.f3.a p.f3.l p.f3.c] 103)) 103 #[.int .i64 q.f0, .int .i64 q.f1, .int .i64 q.f2, .slice q.f3.a q.f3.l q.f3.c])
  clear h h' hv
  go_enter Try.func69, Try.ntmps69
  go_wp2_with fail
  refine (K0.out _ B0.out).mono ?_
  rintro e w1 ⟨rfl, b1⟩
  have B1 := Lib.hid (B0.out.trans (b1.mono B0.out.size))
  clear b1
  go_wp2
  go_ret
  exact ⟨rfl, B1.out⟩

set_option maxHeartbeats 4000000 in
theorem toEvent_any (p : EventR) (w : World) (h : EventR.ok w p) (hl : p.val.wt ≤ 1048576) :
    Calls Try.prog 63 #[.agg (EventR.cells p).toArray] w (TOut EventR.md EventR.val p.val w) := by
  show Calls Try.prog 63 #[.agg #[.int .i64 p.f0, .int .i64 p.f1, .int .i64 p.f2, .slice p.f3.a p.f3.l p.f3.c]] w _
  have hw : p.val.wt = p.f3.z.length := rfl
  rw [hw] at hl
  have K0 := Lib.hid (fun W (hW : Below w.heap.size w W) => toByteS_y p.f3 W (Yt.ok.below h hW) (by have := h.length; omega))
  clear h hl hw
  have B0 := Lib.hid ((((Below.refl w.heap.size w).alloc (Nat.le_refl _) (.cells #[.int .i64 p.f0, .int .i64 p.f1, .int .i64 p.f2, .slice p.f3.a p.f3.l p.f3.c] 101)).alloc (by simp) (.cells #[.int .i64 0, .int .i64 0, .int .i64 0, .slice none 0 0] 103)).alloc (by simp; omega) (.cells #[.int .i64 p.f0, .int .i64 p.f1, .int .i64 p.f2, .slice none 0 0] 103))
  have P0 := Lib.hid (((Box.new w 101 #[.int .i64 p.f0, .int .i64 p.f1, .int .i64 p.f2, .slice p.f3.a p.f3.l p.f3.c]).alloc (.cells #[.int .i64 0, .int .i64 0, .int .i64 0, .slice none 0 0] 103)).alloc (.cells #[.int .i64 p.f0, .int .i64 p.f1, .int .i64 p.f2, .slice none 0 0] 103))
  have R0 := Lib.hid ((Box.new (w.alloc (.cells #[.int .i64 p.f0, .int .i64 p.f1, .int .i64 p.f2, .slice p.f3.a p.f3.l p.f3.c] 101)) 103 #[.int .i64 0, .int .i64 0, .int .i64 0, .slice none 0 0]).alloc (.cells #[.int .i64 p.f0, .int .i64 p.f1, .int .i64 p.f2, .slice none 0 0] 103))
  have U0 := Lib.hid (Box.new ((w.alloc (.cells #[.int .i64 p.f0, .int .i64 p.f1, .int .i64 p.f2, .slice p.f3.a p.f3.l p.f3.c] 101)).alloc (.cells #[.int .i64 0, .int .i64 0, .int .i64 0, .slice none 0 0] 103)) 103 #[.int .i64 p.f0, .int .i64 p.f1, .int .i64 p.f2, .slice none 0 0])
  go_enter Try.func63, Try.ntmps63
  go_wp2_with fail
  refine (K0.out _ B0.out).mono ?_
  rintro e w1 ⟨q3, rfl, o0, v0, n0, b1⟩
  have px := P0.out.below b1 P0.out.lt
  have rx := R0.out.below b1 R0.out.lt
  have ux := U0.out.below b1 U0.out.lt
  simp only [World.size_alloc] at n0 rx ux
  have P1 := Lib.hid px
  have R1 := Lib.hid rx
  have U1 := Lib.hid ux
  have B1 := Lib.hid (B0.out.trans (b1.mono B0.out.size))
  have O0 := Lib.hid o0
  have V0 := Lib.hid v0
  have S1 := Lib.hid (show w.heap.size + 1 + 1 < w1.heap.size from ux.lt)
  have N1 := Lib.hid (n0.mono (show w.heap.size + 1 + 1 + 1 ≤ w.heap.size + 1 + 1 + 1 from Nat.le_refl _))
  have OO0_1 := O0
  clear o0 v0 n0 b1 px rx ux P0 R0 U0 B0 K0
  have u3 : w1.cell? ⟨w.heap.size + 1 + 1, 3, none⟩ = some (.slice none 0 0) := U1.out.cell 3
  have g3 := U1.out.frozen 3
  have UX1 := Lib.hid (show Box (w1.setCell ⟨w.heap.size + 1 + 1, 3, none⟩ (.slice q3.a q3.l q3.c)) (w.heap.size + 1 + 1) 103 #[.int .i64 p.f0, .int .i64 p.f1, .int .i64 p.f2, .slice q3.a q3.l q3.c] from (U1.out.putK 3 (.slice q3.a q3.l q3.c)))
  have PX1 := Lib.hid (show Box (w1.setCell ⟨w.heap.size + 1 + 1, 3, none⟩ (.slice q3.a q3.l q3.c)) w.heap.size 101 #[.int .i64 p.f0, .int .i64 p.f1, .int .i64 p.f2, .slice p.f3.a p.f3.l p.f3.c] from (P1.out.off ⟨w.heap.size + 1 + 1, 3, none⟩ (.slice q3.a q3.l q3.c) (show w.heap.size ≠ w.heap.size + 1 + 1 by omega)))
  have RX1 := Lib.hid (show Box (w1.setCell ⟨w.heap.size + 1 + 1, 3, none⟩ (.slice q3.a q3.l q3.c)) (w.heap.size + 1) 103 #[.int .i64 0, .int .i64 0, .int .i64 0, .slice none 0 0] from (R1.out.off ⟨w.heap.size + 1 + 1, 3, none⟩ (.slice q3.a q3.l q3.c) (show w.heap.size + 1 ≠ w.heap.size + 1 + 1 by omega)))
  have CX := ((Chg.refl [w.heap.size + 1 + 1] w1).set (w.heap.size + 1 + 1) 3 (.slice q3.a q3.l q3.c) (List.mem_singleton.2 rfl))
  have BX1 := Lib.hid (show Below w.heap.size w (w1.setCell ⟨w.heap.size + 1 + 1, 3, none⟩ (.slice q3.a q3.l q3.c)) from (B1.out.setCell (show w.heap.size ≤ w.heap.size + 1 + 1 by omega) (.slice q3.a q3.l q3.c)))
  have OX0_1 := Lib.hid (Yt.ok.chg OO0_1.out CX (fun k hk e => by have := N1.out.ge k hk; have := List.mem_singleton.1 e; omega))
  have NX1 := Lib.hid (N1.out.chg CX)
  clear CX P1 R1 U1 B1 N1 OO0_1
  go_wp2_with (first
    | ((with_reducible change wpList _ _ _ (Oper.mk (some 17) _ _ _ _ _ :: _) _ _); refine getBox_list _ rfl 103 (.tmp 3) rfl (w.heap.size + 1 + 1) 103 _ UX1.out rfl _ rfl Try.underlying103 (by kernel_rfl) ?_; simp only [Act.put, List.setIfInBounds_toArray, List.set_cons_zero, List.set_cons_succ])
    | ((with_reducible change wpList _ _ _ (Oper.mk none (Op.store 103 _ _) _ _ _ _ :: _) _ _); refine setBox_list _ rfl 103 (.tmp 2) (.tmp 17) rfl (w.heap.size + 1) 103 _ #[.int .i64 p.f0, .int .i64 p.f1, .int .i64 p.f2, .slice q3.a q3.l q3.c] RX1.out (by exact rfl) (by exact rfl) (by kernel_rfl) (by exact rfl) (by simp [Value.oneCell']) ?_; intro w9 x9 g9))
  have CX := (Chg.refl [w.heap.size + 1] _).boxed x9 g9 (List.mem_singleton.2 rfl)
  refine bodyPost_ret (results_cell_row Try.results63 _ _ _ _ _ _ _ rfl x9 Try.underlying103 rfl (by kernel_rfl)) rfl ⟨⟨p.f0, p.f1, p.f2, q3⟩, rfl, ?_, ?_, ?_, ?_⟩
  · exact (Yt.ok.chg OX0_1.out CX (fun k hk e => by have := NX1.out.ge k hk; have := List.mem_singleton.1 e; omega))
  · simp only [EventR.val, V0.out]
  · exact (NX1.out.chg CX).mono (by omega)
  · exact BX1.out.trans (CX.below BX1.out.size (fun k hk => by have := List.mem_singleton.1 hk; omega))

end Go.Proofs.Ytbngdenlplbjhaa
