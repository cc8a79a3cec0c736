/-
  End: rows, values, marks; the helpers of the laws that size, copy and compare one.
-/
import Derived.Test.YtbngdenlplbjhaaKLPiece
namespace Go.Proofs.Ytbngdenlplbjhaa
open Go.ChangeShapes Go.WideShapes Go.ChangeAt Go.RowKit

structure EndV where
  f0 : Int
  f1 : Int
  f2 : Int
  f3 : Int
  f4 : Int
  f5 : Int
  f6 : List Int
  f7 : Bool
  f8 : Int
  f9 : Int
  f10 : List PieceV
  f11 : Int
  f12 : Int
  f13 : Int
deriving DecidableEq
structure EndR where
  f0 : Int
  f1 : Int
  f2 : Int
  f3 : Int
  f4 : Int
  f5 : Int
  f6 : Yt
  f7 : Bool
  f8 : Int
  f9 : Int
  f10 : Lt PieceR
  f11 : Int
  f12 : Int
  f13 : Int
def EndR.val (p : EndR) : EndV := ⟨p.f0, p.f1, p.f2, p.f3, p.f4, p.f5, p.f6.z, p.f7, p.f8, p.f9, p.f10.rs.map PieceR.val, p.f11, p.f12, p.f13⟩
def EndR.cells (p : EndR) : List Value := [.int .i64 p.f0, .int .i64 p.f1, .int .i64 p.f2, .int .i64 p.f3, .int .i64 p.f4, .int .i64 p.f5, .slice p.f6.a p.f6.l p.f6.c, .bool p.f7, .int .i64 p.f8, .int .i64 p.f9, .slice p.f10.a p.f10.l p.f10.c, .int .i64 p.f11, .int .i64 p.f12, .int .i64 p.f13]
def EndR.ok (w : World) (p : EndR) : Prop := (Yt.ok w p.f6 ∧ Lt.ok PieceR.md w p.f10)
def EndR.blks (p : EndR) : List Nat := (p.f6.blks ++ Lt.blks PieceR.md p.f10)
theorem EndR.keep {w w' : World} {p : EndR} (h : EndR.ok w p) (hb : ∀ b ∈ EndR.blks p, w'.heap[b]? = w.heap[b]?) : EndR.ok w' p :=
  ⟨Yt.ok.keep h.1 (fun b hm => hb b (List.mem_append_left _ hm)), Lt.ok.keep h.2 (fun b hm => hb b (List.mem_append_right _ hm))⟩
theorem EndR.lt {w : World} {p : EndR} (h : EndR.ok w p) : ∀ b ∈ EndR.blks p, b < w.heap.size := by
  intro b hb
  simp only [EndR.blks, List.mem_append] at hb
  rcases hb with h0 | h1
  · exact Yt.ok.lt h.1 b h0
  · exact Lt.ok.lt (by decide) h.2 b h1
def EndR.md : Md EndR where
  n := 14
  cells := EndR.cells
  ok := EndR.ok
  blks := EndR.blks
  clen _ := rfl
  keep := EndR.keep
  lt := EndR.lt
def EndV.wt (v : EndV) : Nat := v.f6.length + wtL PieceV.wt v.f10
def EndV.mrk (v : EndV) : Nat := 12 + v.f6.length + sw PieceV.mrk v.f10
def EndR.mkn (p : EndR) : Nat := p.val.mrk
theorem EndV.mrk_le (v : EndV) : v.mrk ≤ 12 + 16 * v.wt := by
  have h10 := sw_le (f := PieceV.mrk) (g := PieceV.wt) 16 (rs := v.f10) (fun p _ => Nat.le_trans (PieceV.mrk_le p) (by omega))
  simp only [EndV.mrk, EndV.wt, wtL]
  omega
def EndR.mark (k : Nat) (p : EndR) : EndR := ⟨((k : Nat) : Int), ((k : Nat) : Int) + 1, ((k : Nat) : Int) + 1 + 1, ((k : Nat) : Int) + 1 + 1 + 1, ((k : Nat) : Int) + 1 + 1 + 1 + 1, ((k : Nat) : Int) + 1 + 1 + 1 + 1 + 1, p.f6.mark (k + 6), decide ((((k + 6) + p.f6.z.length) + 0) % 3 = 0), ((((k + 6) + p.f6.z.length) : Nat) : Int) + 1, ((((k + 6) + p.f6.z.length) : Nat) : Int) + 1 + 1, Lt.mark PieceR.mark PieceR.mkn (((k + 6) + p.f6.z.length) + 3) p.f10, ((((((k + 6) + p.f6.z.length) + 3) + sw PieceR.mkn p.f10.rs) : Nat) : Int), ((((((k + 6) + p.f6.z.length) + 3) + sw PieceR.mkn p.f10.rs) : Nat) : Int) + 1, ((((((k + 6) + p.f6.z.length) + 3) + sw PieceR.mkn p.f10.rs) : Nat) : Int) + 1 + 1⟩
theorem EndR.mark_blks (k : Nat) (p : EndR) : EndR.blks (EndR.mark k p) = EndR.blks p :=
  app2 (rfl) (Lt.mark_blks _ _ (M := PieceR.md) PieceR.mark_blks _ _)
def zEnd : EndR := ⟨0, 0, 0, 0, 0, 0, ⟨none, 0, 0, []⟩, false, 0, 0, ⟨none, 0, 0, []⟩, 0, 0, 0⟩
theorem zEnd_ok (w : World) : EndR.ok w zEnd := ⟨Own.rd (Own.nil _ 0), Lt.nil0 _ _⟩

set_option maxHeartbeats 2000000 in
theorem szEnd_any (p : EndR) (l : Nat) (w : World) (h : EndR.ok w p) (hl : l ≤ 1048576) :
    Calls Try.prog 81 #[.agg (EndR.cells p).toArray, .int .i64 l] w fun e w' => e = .returned (.int .i64 (szR p.val.wt l)) ∧ Below w.heap.size w w' := by
  show Calls Try.prog 81 #[.agg #[.int .i64 p.f0, .int .i64 p.f1, .int .i64 p.f2, .int .i64 p.f3, .int .i64 p.f4, .int .i64 p.f5, .slice p.f6.a p.f6.l p.f6.c, .bool p.f7, .int .i64 p.f8, .int .i64 p.f9, .slice p.f10.a p.f10.l p.f10.c, .int .i64 p.f11, .int .i64 p.f12, .int .i64 p.f13], .int .i64 l] w _
  obtain ⟨n0, hn0⟩ : ∃ n, n = p.f6.z.length := ⟨_, rfl⟩
  obtain ⟨n1, hn1⟩ : ∃ n, n = wtL PieceV.wt (p.f10.rs.map PieceR.val) := ⟨_, rfl⟩
  have hw : p.val.wt = n0 + n1 := by rw [hn0]; rw [hn1]; rfl
  rw [hw]
  have B0 := Lib.hid ((Below.refl w.heap.size w).alloc (Nat.le_refl _) (.cells #[.int .i64 p.f0, .int .i64 p.f1, .int .i64 p.f2, .int .i64 p.f3, .int .i64 p.f4, .int .i64 p.f5, .slice p.f6.a p.f6.l p.f6.c, .bool p.f7, .int .i64 p.f8, .int .i64 p.f9, .slice p.f10.a p.f10.l p.f10.c, .int .i64 p.f11, .int .i64 p.f12, .int .i64 p.f13] 134))
  have X0 := Lib.hid (Box.new w 134 #[.int .i64 p.f0, .int .i64 p.f1, .int .i64 p.f2, .int .i64 p.f3, .int .i64 p.f4, .int .i64 p.f5, .slice p.f6.a p.f6.l p.f6.c, .bool p.f7, .int .i64 p.f8, .int .i64 p.f9, .slice p.f10.a p.f10.l p.f10.c, .int .i64 p.f11, .int .i64 p.f12, .int .i64 p.f13])
  have K0 := Lib.hid (show ∀ W, Below w.heap.size w W → ∀ t : Nat, t ≤ 1048576 → Calls Try.prog 84 #[.slice p.f6.a p.f6.l p.f6.c, .int .i64 t] W fun e w' => e = .returned (.int .i64 (szR n0 t)) ∧ Below W.heap.size W w' from fun W hW t ht => by rw [hn0]; exact szByteS_any p.f6 t W (Yt.ok.below h.1 hW) ht)
  have K1 := Lib.hid (show ∀ W, Below w.heap.size w W → ∀ t : Nat, t ≤ 1048576 → Calls Try.prog 97 #[.slice p.f10.a p.f10.l p.f10.c, .int .i64 t] W fun e w' => e = .returned (.int .i64 (szR n1 t)) ∧ Below W.heap.size W w' from fun W hW t ht => by rw [hn1]; exact szPieceS_any p.f10 t W (Lt.ok.below (by decide) h.2 hW) ht)
  clear h hw hn0 hn1
  by_cases h0 : n0 ≤ l
  case neg =>
    have C0 := Lib.hid (fun W hW => (show Calls Try.prog 84 #[.slice p.f6.a p.f6.l p.f6.c, .int .i64 (l : Nat)] W fun e w' => e = .returned (.int .i64 (-1)) ∧ Below W.heap.size W w' from by have q := K0.out W hW l (by omega); rw [szR_f (by omega)] at q; exact q))
    have E : Hid (szR (n0 + n1) l = -1) := szR_f (by omega)
    clear K0 K1
    go_enter Try.func81, Try.ntmps81
    go_wp2_with fail
    refine (C0.out _ B0.out).mono ?_
    rintro e w1 ⟨rfl, b1⟩
    have B1 := Lib.hid (B0.out.trans (b1.mono B0.out.size))
    clear b1
    go_wp2
    go_ret
    exact ⟨ret_i E.out.symm, B1.out⟩
  by_cases h1 : n1 ≤ l - n0
  case neg =>
    have hp0 : ¬ ((l - n0 : Nat) : Int) < 0 := by omega
    have C0 := Lib.hid (fun W hW => (show Calls Try.prog 84 #[.slice p.f6.a p.f6.l p.f6.c, .int .i64 (l : Nat)] W fun e w' => e = .returned (.int .i64 (l - n0 : Nat)) ∧ Below W.heap.size W w' from by have q := K0.out W hW l (by omega); rw [szR_t (by omega)] at q; exact q))
    have C1 := Lib.hid (fun W hW => (show Calls Try.prog 97 #[.slice p.f10.a p.f10.l p.f10.c, .int .i64 (l - n0 : Nat)] W fun e w' => e = .returned (.int .i64 (-1)) ∧ Below W.heap.size W w' from by have q := K1.out W hW (l - n0) (by omega); rw [szR_f (by omega)] at q; exact q))
    have E : Hid (szR (n0 + n1) l = -1) := szR_f (by omega)
    clear K0 K1
    go_enter Try.func81, Try.ntmps81
    go_wp2_with fail
    refine (C0.out _ B0.out).mono ?_
    rintro e w1 ⟨rfl, b1⟩
    have B1 := Lib.hid (B0.out.trans (b1.mono B0.out.size))
    have X1 := Lib.hid (X0.out.below b1 X0.out.lt)
    have x1 : w1.cell? ⟨w.heap.size, 10, none⟩ = some (.slice p.f10.a p.f10.l p.f10.c) := X1.out.cell 10
    clear b1
    go_wp2_with fail
    refine (C1.out _ B1.out).mono ?_
    rintro e w2 ⟨rfl, b2⟩
    have B2 := Lib.hid (B1.out.trans (b2.mono B1.out.size))
    clear b2
    go_wp2
    go_ret
    exact ⟨ret_i E.out.symm, B2.out⟩
  have hp0 : ¬ ((l - n0 : Nat) : Int) < 0 := by omega
  have hp1 : ¬ ((l - n0 - n1 : Nat) : Int) < 0 := by omega
  have C0 := Lib.hid (fun W hW => (show Calls Try.prog 84 #[.slice p.f6.a p.f6.l p.f6.c, .int .i64 (l : Nat)] W fun e w' => e = .returned (.int .i64 (l - n0 : Nat)) ∧ Below W.heap.size W w' from by have q := K0.out W hW l (by omega); rw [szR_t (by omega)] at q; exact q))
  have C1 := Lib.hid (fun W hW => (show Calls Try.prog 97 #[.slice p.f10.a p.f10.l p.f10.c, .int .i64 (l - n0 : Nat)] W fun e w' => e = .returned (.int .i64 (l - n0 - n1 : Nat)) ∧ Below W.heap.size W w' from by have q := K1.out W hW (l - n0) (by omega); rw [szR_t (by omega)] at q; exact q))
  have E : Hid (szR (n0 + n1) l = ((l - n0 - n1 : Nat) : Int)) := (szR_t (by omega)).trans (by omega)
  clear K0 K1
  go_enter Try.func81, Try.ntmps81
  go_wp2_with fail
  refine (C0.out _ B0.out).mono ?_
  rintro e w1 ⟨rfl, b1⟩
  have B1 := Lib.hid (B0.out.trans (b1.mono B0.out.size))
  have X1 := Lib.hid (X0.out.below b1 X0.out.lt)
  have x1 : w1.cell? ⟨w.heap.size, 10, none⟩ = some (.slice p.f10.a p.f10.l p.f10.c) := X1.out.cell 10
  clear b1
  go_wp2_with fail
  refine (C1.out _ B1.out).mono ?_
  rintro e w2 ⟨rfl, b2⟩
  have B2 := Lib.hid (B1.out.trans (b2.mono B1.out.size))
  clear b2
  go_wp2
  go_ret
  exact ⟨ret_i E.out.symm, B2.out⟩

set_option maxHeartbeats 2000000 in
theorem eqEnd_t (p q : EndR) (w : World) (h : EndR.ok w p) (h' : EndR.ok w q) (hv : p.val = q.val) :
    Calls Try.prog 89 #[.agg (EndR.cells p).toArray, .agg (EndR.cells q).toArray] w fun e w' => e = .returned (.bool true) ∧ Below w.heap.size w w' := by
  show Calls Try.prog 89 #[.agg #[.int .i64 p.f0, .int .i64 p.f1, .int .i64 p.f2, .int .i64 p.f3, .int .i64 p.f4, .int .i64 p.f5, .slice p.f6.a p.f6.l p.f6.c, .bool p.f7, .int .i64 p.f8, .int .i64 p.f9, .slice p.f10.a p.f10.l p.f10.c, .int .i64 p.f11, .int .i64 p.f12, .int .i64 p.f13], .agg #[.int .i64 q.f0, .int .i64 q.f1, .int .i64 q.f2, .int .i64 q.f3, .int .i64 q.f4, .int .i64 q.f5, .slice q.f6.a q.f6.l q.f6.c, .bool q.f7, .int .i64 q.f8, .int .i64 q.f9, .slice q.f10.a q.f10.l q.f10.c, .int .i64 q.f11, .int .i64 q.f12, .int .i64 q.f13]] w _
  rw [show q.f7 = p.f7 from ((congrArg EndV.f7 hv)).symm]
  have e0 : (p.f0 != q.f0) = false := by rw [show p.f0 = q.f0 from congrArg EndV.f0 hv]; simp
  have e1 : (p.f1 != q.f1) = false := by rw [show p.f1 = q.f1 from congrArg EndV.f1 hv]; simp
  have e2 : (p.f2 != q.f2) = false := by rw [show p.f2 = q.f2 from congrArg EndV.f2 hv]; simp
  have e3 : (p.f3 != q.f3) = false := by rw [show p.f3 = q.f3 from congrArg EndV.f3 hv]; simp
  have e4 : (p.f4 != q.f4) = false := by rw [show p.f4 = q.f4 from congrArg EndV.f4 hv]; simp
  have e5 : (p.f5 != q.f5) = false := by rw [show p.f5 = q.f5 from congrArg EndV.f5 hv]; simp
  have e8 : (p.f8 != q.f8) = false := by rw [show p.f8 = q.f8 from congrArg EndV.f8 hv]; simp
  have e9 : (p.f9 != q.f9) = false := by rw [show p.f9 = q.f9 from congrArg EndV.f9 hv]; simp
  have e11 : (p.f11 != q.f11) = false := by rw [show p.f11 = q.f11 from congrArg EndV.f11 hv]; simp
  have e12 : (p.f12 != q.f12) = false := by rw [show p.f12 = q.f12 from congrArg EndV.f12 hv]; simp
  have e13 : (p.f13 != q.f13) = false := by rw [show p.f13 = q.f13 from congrArg EndV.f13 hv]; simp
  have K0 := Lib.hid (fun W (hW : Below w.heap.size w W) => eqByteS_y p.f6 q.f6 W (Yt.ok.below h.1 hW) (Yt.ok.below h'.1 hW) (congrArg EndV.f6 hv))
  have K1 := Lib.hid (fun W (hW : Below w.heap.size w W) => eqPieceS_t p.f10 q.f10 W (Lt.ok.below (by decide) h.2 hW) (Lt.ok.below (by decide) h'.2 hW) (congrArg EndV.f10 hv))
  have B0 := Lib.hid (((Below.refl w.heap.size w).alloc (Nat.le_refl _) (.cells #[.int .i64 p.f0, .int .i64 p.f1, .int .i64 p.f2, .int .i64 p.f3, .int .i64 p.f4, .int .i64 p.f5, .slice p.f6.a p.f6.l p.f6.c, .bool p.f7, .int .i64 p.f8, .int .i64 p.f9, .slice p.f10.a p.f10.l p.f10.c, .int .i64 p.f11, .int .i64 p.f12, .int .i64 p.f13] 144)).alloc (by simp) (.cells #[.int .i64 q.f0, .int .i64 q.f1, .int .i64 q.f2, .int .i64 q.f3, .int .i64 q.f4, .int .i64 q.f5, .slice q.f6.a q.f6.l q.f6.c, .bool p.f7, .int .i64 q.f8, .int .i64 q.f9, .slice q.f10.a q.f10.l q.f10.c, .int .i64 q.f11, .int .i64 q.f12, .int .i64 q.f13] 144))
  have X0 := Lib.hid ((Box.new w 144 #[.int .i64 p.f0, .int .i64 p.f1, .int .i64 p.f2, .int .i64 p.f3, .int .i64 p.f4, .int .i64 p.f5, .slice p.f6.a p.f6.l p.f6.c, .bool p.f7, .int .i64 p.f8, .int .i64 p.f9, .slice p.f10.a p.f10.l p.f10.c, .int .i64 p.f11, .int .i64 p.f12, .int .i64 p.f13]).alloc (.cells #[.int .i64 q.f0, .int .i64 q.f1, .int .i64 q.f2, .int .i64 q.f3, .int .i64 q.f4, .int .i64 q.f5, .slice q.f6.a q.f6.l q.f6.c, .bool p.f7, .int .i64 q.f8, .int .i64 q.f9, .slice q.f10.a q.f10.l q.f10.c, .int .i64 q.f11, .int .i64 q.f12, .int .i64 q.f13] 144))
  have Y0 := Lib.hid (Box.new (w.alloc (.cells #[.int .i64 p.f0, .int .i64 p.f1, .int .i64 p.f2, .int .i64 p.f3, .int .i64 p.f4, .int .i64 p.f5, .slice p.f6.a p.f6.l p.f6.c, .bool p.f7, .int .i64 p.f8, .int .i64 p.f9, .slice p.f10.a p.f10.l p.f10.c, .int .i64 p.f11, .int .i64 p.f12, .int .i64 p.f13] 144)) 144 #[.int .i64 q.f0, .int .i64 q.f1, .int .i64 q.f2, .int .i64 q.f3, .int .i64 q.f4, .int .i64 q.f5, .slice q.f6.a q.f6.l q.f6.c, .bool p.f7, .int .i64 q.f8, .int .i64 q.f9, .slice q.f10.a q.f10.l q.f10.c, .int .i64 q.f11, .int .i64 q.f12, .int .i64 q.f13])
  clear h h' hv
  go_enter Try.func89, Try.ntmps89
  go_wp2_with fail
  refine (K0.out _ B0.out).mono ?_
  rintro e w1 ⟨rfl, b1⟩
  have B1 := Lib.hid (B0.out.trans (b1.mono B0.out.size))
  have X1 := Lib.hid (X0.out.below b1 X0.out.lt)
  have y1 := Y0.out.below b1 Y0.out.lt
  simp only [World.size_alloc] at y1
  have Y1 := Lib.hid y1
  have x1_7 : w1.cell? ⟨w.heap.size, 7, none⟩ = some (.bool p.f7) := X1.out.cell 7
  have y1_7 : w1.cell? ⟨w.heap.size + 1, 7, none⟩ = some (.bool p.f7) := Y1.out.cell 7
  have x1_8 : w1.cell? ⟨w.heap.size, 8, none⟩ = some (.int .i64 p.f8) := X1.out.cell 8
  have y1_8 : w1.cell? ⟨w.heap.size + 1, 8, none⟩ = some (.int .i64 q.f8) := Y1.out.cell 8
  have x1_9 : w1.cell? ⟨w.heap.size, 9, none⟩ = some (.int .i64 p.f9) := X1.out.cell 9
  have y1_9 : w1.cell? ⟨w.heap.size + 1, 9, none⟩ = some (.int .i64 q.f9) := Y1.out.cell 9
  have x1_10 : w1.cell? ⟨w.heap.size, 10, none⟩ = some (.slice p.f10.a p.f10.l p.f10.c) := X1.out.cell 10
  have y1_10 : w1.cell? ⟨w.heap.size + 1, 10, none⟩ = some (.slice q.f10.a q.f10.l q.f10.c) := Y1.out.cell 10
  clear b1 y1
  go_wp2_with fail
  refine (K1.out _ B1.out).mono ?_
  rintro e w2 ⟨rfl, b2⟩
  have B2 := Lib.hid (B1.out.trans (b2.mono B1.out.size))
  have X2 := Lib.hid (X1.out.below b2 X1.out.lt)
  have y2 := Y1.out.below b2 Y1.out.lt
  have Y2 := Lib.hid y2
  have x2_11 : w2.cell? ⟨w.heap.size, 11, none⟩ = some (.int .i64 p.f11) := X2.out.cell 11
  have y2_11 : w2.cell? ⟨w.heap.size + 1, 11, none⟩ = some (.int .i64 q.f11) := Y2.out.cell 11
  have x2_12 : w2.cell? ⟨w.heap.size, 12, none⟩ = some (.int .i64 p.f12) := X2.out.cell 12
  have y2_12 : w2.cell? ⟨w.heap.size + 1, 12, none⟩ = some (.int .i64 q.f12) := Y2.out.cell 12
  have x2_13 : w2.cell? ⟨w.heap.size, 13, none⟩ = some (.int .i64 p.f13) := X2.out.cell 13
  have y2_13 : w2.cell? ⟨w.heap.size + 1, 13, none⟩ = some (.int .i64 q.f13) := Y2.out.cell 13
  clear b2 y2
  go_wp2
  go_ret
  exact ⟨rfl, B2.out⟩

set_option maxHeartbeats 4000000 in
theorem toEnd_any (p : EndR) (w : World) (h : EndR.ok w p) (hl : p.val.wt ≤ 1048576) :
    Calls Try.prog 85 #[.agg (EndR.cells p).toArray] w (TOut EndR.md EndR.val p.val w) := by
  show Calls Try.prog 85 #[.agg #[.int .i64 p.f0, .int .i64 p.f1, .int .i64 p.f2, .int .i64 p.f3, .int .i64 p.f4, .int .i64 p.f5, .slice p.f6.a p.f6.l p.f6.c, .bool p.f7, .int .i64 p.f8, .int .i64 p.f9, .slice p.f10.a p.f10.l p.f10.c, .int .i64 p.f11, .int .i64 p.f12, .int .i64 p.f13]] w _
  have hw : p.val.wt = p.f6.z.length + wtL PieceV.wt (p.f10.rs.map PieceR.val) := rfl
  rw [hw] at hl
  have K0 := Lib.hid (fun W (hW : Below w.heap.size w W) => toByteS_y p.f6 W (Yt.ok.below h.1 hW) (by have := h.1.length; omega))
  have K1 := Lib.hid (fun W (hW : Below w.heap.size w W) => toPieceS_any p.f10 W (Lt.ok.below (by decide) h.2 hW) (by omega))
  clear h hl hw
  have B0 := Lib.hid ((((Below.refl w.heap.size w).alloc (Nat.le_refl _) (.cells #[.int .i64 p.f0, .int .i64 p.f1, .int .i64 p.f2, .int .i64 p.f3, .int .i64 p.f4, .int .i64 p.f5, .slice p.f6.a p.f6.l p.f6.c, .bool p.f7, .int .i64 p.f8, .int .i64 p.f9, .slice p.f10.a p.f10.l p.f10.c, .int .i64 p.f11, .int .i64 p.f12, .int .i64 p.f13] 134)).alloc (by simp) (.cells #[.int .i64 0, .int .i64 0, .int .i64 0, .int .i64 0, .int .i64 0, .int .i64 0, .slice none 0 0, .bool false, .int .i64 0, .int .i64 0, .slice none 0 0, .int .i64 0, .int .i64 0, .int .i64 0] 144)).alloc (by simp; omega) (.cells #[.int .i64 p.f0, .int .i64 p.f1, .int .i64 p.f2, .int .i64 p.f3, .int .i64 p.f4, .int .i64 p.f5, .slice none 0 0, .bool false, .int .i64 0, .int .i64 0, .slice none 0 0, .int .i64 0, .int .i64 0, .int .i64 0] 144))
  have P0 := Lib.hid (((Box.new w 134 #[.int .i64 p.f0, .int .i64 p.f1, .int .i64 p.f2, .int .i64 p.f3, .int .i64 p.f4, .int .i64 p.f5, .slice p.f6.a p.f6.l p.f6.c, .bool p.f7, .int .i64 p.f8, .int .i64 p.f9, .slice p.f10.a p.f10.l p.f10.c, .int .i64 p.f11, .int .i64 p.f12, .int .i64 p.f13]).alloc (.cells #[.int .i64 0, .int .i64 0, .int .i64 0, .int .i64 0, .int .i64 0, .int .i64 0, .slice none 0 0, .bool false, .int .i64 0, .int .i64 0, .slice none 0 0, .int .i64 0, .int .i64 0, .int .i64 0] 144)).alloc (.cells #[.int .i64 p.f0, .int .i64 p.f1, .int .i64 p.f2, .int .i64 p.f3, .int .i64 p.f4, .int .i64 p.f5, .slice none 0 0, .bool false, .int .i64 0, .int .i64 0, .slice none 0 0, .int .i64 0, .int .i64 0, .int .i64 0] 144))
  have R0 := Lib.hid ((Box.new (w.alloc (.cells #[.int .i64 p.f0, .int .i64 p.f1, .int .i64 p.f2, .int .i64 p.f3, .int .i64 p.f4, .int .i64 p.f5, .slice p.f6.a p.f6.l p.f6.c, .bool p.f7, .int .i64 p.f8, .int .i64 p.f9, .slice p.f10.a p.f10.l p.f10.c, .int .i64 p.f11, .int .i64 p.f12, .int .i64 p.f13] 134)) 144 #[.int .i64 0, .int .i64 0, .int .i64 0, .int .i64 0, .int .i64 0, .int .i64 0, .slice none 0 0, .bool false, .int .i64 0, .int .i64 0, .slice none 0 0, .int .i64 0, .int .i64 0, .int .i64 0]).alloc (.cells #[.int .i64 p.f0, .int .i64 p.f1, .int .i64 p.f2, .int .i64 p.f3, .int .i64 p.f4, .int .i64 p.f5, .slice none 0 0, .bool false, .int .i64 0, .int .i64 0, .slice none 0 0, .int .i64 0, .int .i64 0, .int .i64 0] 144))
  have U0 := Lib.hid (Box.new ((w.alloc (.cells #[.int .i64 p.f0, .int .i64 p.f1, .int .i64 p.f2, .int .i64 p.f3, .int .i64 p.f4, .int .i64 p.f5, .slice p.f6.a p.f6.l p.f6.c, .bool p.f7, .int .i64 p.f8, .int .i64 p.f9, .slice p.f10.a p.f10.l p.f10.c, .int .i64 p.f11, .int .i64 p.f12, .int .i64 p.f13] 134)).alloc (.cells #[.int .i64 0, .int .i64 0, .int .i64 0, .int .i64 0, .int .i64 0, .int .i64 0, .slice none 0 0, .bool false, .int .i64 0, .int .i64 0, .slice none 0 0, .int .i64 0, .int .i64 0, .int .i64 0] 144)) 144 #[.int .i64 p.f0, .int .i64 p.f1, .int .i64 p.f2, .int .i64 p.f3, .int .i64 p.f4, .int .i64 p.f5, .slice none 0 0, .bool false, .int .i64 0, .int .i64 0, .slice none 0 0, .int .i64 0, .int .i64 0, .int .i64 0])
  go_enter Try.func85, Try.ntmps85
  go_wp2_with fail
  refine (K0.out _ B0.out).mono ?_
  rintro e w1 ⟨q6, rfl, o0, v0, n0, b1⟩
  have px := P0.out.below b1 P0.out.lt
  have rx := R0.out.below b1 R0.out.lt
  have ux := U0.out.below b1 U0.out.lt
  simp only [World.size_alloc] at n0 rx ux
  have P1 := Lib.hid px
  have R1 := Lib.hid rx
  have U1 := Lib.hid ux
  have B1 := Lib.hid (B0.out.trans (b1.mono B0.out.size))
  have O0 := Lib.hid o0
  have V0 := Lib.hid v0
  have S1 := Lib.hid (show w.heap.size + 1 + 1 < w1.heap.size from ux.lt)
  have N1 := Lib.hid (n0.mono (show w.heap.size + 1 + 1 + 1 ≤ w.heap.size + 1 + 1 + 1 from Nat.le_refl _))
  have OO0_1 := O0
  clear o0 v0 n0 b1 px rx ux P0 R0 U0 B0 K0
  have p7 : w1.cell? ⟨w.heap.size, 7, none⟩ = some (.bool p.f7) := P1.out.cell 7
  have p8 : w1.cell? ⟨w.heap.size, 8, none⟩ = some (.int .i64 p.f8) := P1.out.cell 8
  have p9 : w1.cell? ⟨w.heap.size, 9, none⟩ = some (.int .i64 p.f9) := P1.out.cell 9
  have p10 : w1.cell? ⟨w.heap.size, 10, none⟩ = some (.slice p.f10.a p.f10.l p.f10.c) := P1.out.cell 10
  have u6 : w1.cell? ⟨w.heap.size + 1 + 1, 6, none⟩ = some (.slice none 0 0) := U1.out.cell 6
  have g6 := U1.out.frozen 6
  have u7 : w1.cell? ⟨w.heap.size + 1 + 1, 7, none⟩ = some (.bool false) := U1.out.cell 7
  have g7 := U1.out.frozen 7
  have u8 : w1.cell? ⟨w.heap.size + 1 + 1, 8, none⟩ = some (.int .i64 0) := U1.out.cell 8
  have g8 := U1.out.frozen 8
  have u9 : w1.cell? ⟨w.heap.size + 1 + 1, 9, none⟩ = some (.int .i64 0) := U1.out.cell 9
  have g9 := U1.out.frozen 9
  have UX1 := Lib.hid (show Box ((((w1.setCell ⟨w.heap.size + 1 + 1, 6, none⟩ (.slice q6.a q6.l q6.c)).setCell ⟨w.heap.size + 1 + 1, 7, none⟩ (.bool p.f7)).setCell ⟨w.heap.size + 1 + 1, 8, none⟩ (.int .i64 p.f8)).setCell ⟨w.heap.size + 1 + 1, 9, none⟩ (.int .i64 p.f9)) (w.heap.size + 1 + 1) 144 #[.int .i64 p.f0, .int .i64 p.f1, .int .i64 p.f2, .int .i64 p.f3, .int .i64 p.f4, .int .i64 p.f5, .slice q6.a q6.l q6.c, .bool p.f7, .int .i64 p.f8, .int .i64 p.f9, .slice none 0 0, .int .i64 0, .int .i64 0, .int .i64 0] from ((((U1.out.putK 6 (.slice q6.a q6.l q6.c)).putK 7 (.bool p.f7)).putK 8 (.int .i64 p.f8)).putK 9 (.int .i64 p.f9)))
  have PX1 := Lib.hid (show Box ((((w1.setCell ⟨w.heap.size + 1 + 1, 6, none⟩ (.slice q6.a q6.l q6.c)).setCell ⟨w.heap.size + 1 + 1, 7, none⟩ (.bool p.f7)).setCell ⟨w.heap.size + 1 + 1, 8, none⟩ (.int .i64 p.f8)).setCell ⟨w.heap.size + 1 + 1, 9, none⟩ (.int .i64 p.f9)) w.heap.size 134 #[.int .i64 p.f0, .int .i64 p.f1, .int .i64 p.f2, .int .i64 p.f3, .int .i64 p.f4, .int .i64 p.f5, .slice p.f6.a p.f6.l p.f6.c, .bool p.f7, .int .i64 p.f8, .int .i64 p.f9, .slice p.f10.a p.f10.l p.f10.c, .int .i64 p.f11, .int .i64 p.f12, .int .i64 p.f13] from ((((P1.out.off ⟨w.heap.size + 1 + 1, 6, none⟩ (.slice q6.a q6.l q6.c) (show w.heap.size ≠ w.heap.size + 1 + 1 by omega)).off ⟨w.heap.size + 1 + 1, 7, none⟩ (.bool p.f7) (show w.heap.size ≠ w.heap.size + 1 + 1 by omega)).off ⟨w.heap.size + 1 + 1, 8, none⟩ (.int .i64 p.f8) (show w.heap.size ≠ w.heap.size + 1 + 1 by omega)).off ⟨w.heap.size + 1 + 1, 9, none⟩ (.int .i64 p.f9) (show w.heap.size ≠ w.heap.size + 1 + 1 by omega)))
  have RX1 := Lib.hid (show Box ((((w1.setCell ⟨w.heap.size + 1 + 1, 6, none⟩ (.slice q6.a q6.l q6.c)).setCell ⟨w.heap.size + 1 + 1, 7, none⟩ (.bool p.f7)).setCell ⟨w.heap.size + 1 + 1, 8, none⟩ (.int .i64 p.f8)).setCell ⟨w.heap.size + 1 + 1, 9, none⟩ (.int .i64 p.f9)) (w.heap.size + 1) 144 #[.int .i64 0, .int .i64 0, .int .i64 0, .int .i64 0, .int .i64 0, .int .i64 0, .slice none 0 0, .bool false, .int .i64 0, .int .i64 0, .slice none 0 0, .int .i64 0, .int .i64 0, .int .i64 0] from ((((R1.out.off ⟨w.heap.size + 1 + 1, 6, none⟩ (.slice q6.a q6.l q6.c) (show w.heap.size + 1 ≠ w.heap.size + 1 + 1 by omega)).off ⟨w.heap.size + 1 + 1, 7, none⟩ (.bool p.f7) (show w.heap.size + 1 ≠ w.heap.size + 1 + 1 by omega)).off ⟨w.heap.size + 1 + 1, 8, none⟩ (.int .i64 p.f8) (show w.heap.size + 1 ≠ w.heap.size + 1 + 1 by omega)).off ⟨w.heap.size + 1 + 1, 9, none⟩ (.int .i64 p.f9) (show w.heap.size + 1 ≠ w.heap.size + 1 + 1 by omega)))
  have CX := (((((Chg.refl [w.heap.size + 1 + 1] w1).set (w.heap.size + 1 + 1) 6 (.slice q6.a q6.l q6.c) (List.mem_singleton.2 rfl)).set (w.heap.size + 1 + 1) 7 (.bool p.f7) (List.mem_singleton.2 rfl)).set (w.heap.size + 1 + 1) 8 (.int .i64 p.f8) (List.mem_singleton.2 rfl)).set (w.heap.size + 1 + 1) 9 (.int .i64 p.f9) (List.mem_singleton.2 rfl))
  have BX1 := Lib.hid (show Below w.heap.size w ((((w1.setCell ⟨w.heap.size + 1 + 1, 6, none⟩ (.slice q6.a q6.l q6.c)).setCell ⟨w.heap.size + 1 + 1, 7, none⟩ (.bool p.f7)).setCell ⟨w.heap.size + 1 + 1, 8, none⟩ (.int .i64 p.f8)).setCell ⟨w.heap.size + 1 + 1, 9, none⟩ (.int .i64 p.f9)) from ((((B1.out.setCell (show w.heap.size ≤ w.heap.size + 1 + 1 by omega) (.slice q6.a q6.l q6.c)).setCell (show w.heap.size ≤ w.heap.size + 1 + 1 by omega) (.bool p.f7)).setCell (show w.heap.size ≤ w.heap.size + 1 + 1 by omega) (.int .i64 p.f8)).setCell (show w.heap.size ≤ w.heap.size + 1 + 1 by omega) (.int .i64 p.f9)))
  have OX0_1 := Lib.hid (Yt.ok.chg OO0_1.out CX (fun k hk e => by have := N1.out.ge k hk; have := List.mem_singleton.1 e; omega))
  have NX1 := Lib.hid (N1.out.chg CX)
  clear CX P1 R1 U1 B1 N1 OO0_1
  go_wp2_with fail
  refine (K1.out _ BX1.out).mono ?_
  rintro e w2 ⟨q10, rfl, o1, v1, n1, b2⟩
  have px := PX1.out.below b2 PX1.out.lt
  have rx := RX1.out.below b2 RX1.out.lt
  have ux := UX1.out.below b2 UX1.out.lt
  have P2 := Lib.hid px
  have R2 := Lib.hid rx
  have U2 := Lib.hid ux
  have B2 := Lib.hid (BX1.out.trans (b2.mono BX1.out.size))
  have O1 := Lib.hid o1
  have V1 := Lib.hid v1
  have S2 := Lib.hid (show w.heap.size + 1 + 1 < w2.heap.size from ux.lt)
  have OO0_2 := Lib.hid (Yt.ok.below OX0_1.out b2)
  have N2 := Lib.hid (NX1.out.then b2 (by simpa only [World.size_setCell] using n1) (by have := S1.out; simp only [World.size_setCell]; omega))
  have OO1_2 := O1
  clear o1 v1 n1 b2 px rx ux PX1 RX1 UX1 BX1 NX1 OX0_1 K1
  have p11 : w2.cell? ⟨w.heap.size, 11, none⟩ = some (.int .i64 p.f11) := P2.out.cell 11
  have p12 : w2.cell? ⟨w.heap.size, 12, none⟩ = some (.int .i64 p.f12) := P2.out.cell 12
  have p13 : w2.cell? ⟨w.heap.size, 13, none⟩ = some (.int .i64 p.f13) := P2.out.cell 13
  have u10 : w2.cell? ⟨w.heap.size + 1 + 1, 10, none⟩ = some (.slice none 0 0) := U2.out.cell 10
  have g10 := U2.out.frozen 10
  have u11 : w2.cell? ⟨w.heap.size + 1 + 1, 11, none⟩ = some (.int .i64 0) := U2.out.cell 11
  have g11 := U2.out.frozen 11
  have u12 : w2.cell? ⟨w.heap.size + 1 + 1, 12, none⟩ = some (.int .i64 0) := U2.out.cell 12
  have g12 := U2.out.frozen 12
  have u13 : w2.cell? ⟨w.heap.size + 1 + 1, 13, none⟩ = some (.int .i64 0) := U2.out.cell 13
  have g13 := U2.out.frozen 13
  have UX2 := Lib.hid (show Box ((((w2.setCell ⟨w.heap.size + 1 + 1, 10, none⟩ (.slice q10.a q10.l q10.c)).setCell ⟨w.heap.size + 1 + 1, 11, none⟩ (.int .i64 p.f11)).setCell ⟨w.heap.size + 1 + 1, 12, none⟩ (.int .i64 p.f12)).setCell ⟨w.heap.size + 1 + 1, 13, none⟩ (.int .i64 p.f13)) (w.heap.size + 1 + 1) 144 #[.int .i64 p.f0, .int .i64 p.f1, .int .i64 p.f2, .int .i64 p.f3, .int .i64 p.f4, .int .i64 p.f5, .slice q6.a q6.l q6.c, .bool p.f7, .int .i64 p.f8, .int .i64 p.f9, .slice q10.a q10.l q10.c, .int .i64 p.f11, .int .i64 p.f12, .int .i64 p.f13] from ((((U2.out.putK 10 (.slice q10.a q10.l q10.c)).putK 11 (.int .i64 p.f11)).putK 12 (.int .i64 p.f12)).putK 13 (.int .i64 p.f13)))
  have PX2 := Lib.hid (show Box ((((w2.setCell ⟨w.heap.size + 1 + 1, 10, none⟩ (.slice q10.a q10.l q10.c)).setCell ⟨w.heap.size + 1 + 1, 11, none⟩ (.int .i64 p.f11)).setCell ⟨w.heap.size + 1 + 1, 12, none⟩ (.int .i64 p.f12)).setCell ⟨w.heap.size + 1 + 1, 13, none⟩ (.int .i64 p.f13)) w.heap.size 134 #[.int .i64 p.f0, .int .i64 p.f1, .int .i64 p.f2, .int .i64 p.f3, .int .i64 p.f4, .int .i64 p.f5, .slice p.f6.a p.f6.l p.f6.c, .bool p.f7, .int .i64 p.f8, .int .i64 p.f9, .slice p.f10.a p.f10.l p.f10.c, .int .i64 p.f11, .int .i64 p.f12, .int .i64 p.f13] from ((((P2.out.off ⟨w.heap.size + 1 + 1, 10, none⟩ (.slice q10.a q10.l q10.c) (show w.heap.size ≠ w.heap.size + 1 + 1 by omega)).off ⟨w.heap.size + 1 + 1, 11, none⟩ (.int .i64 p.f11) (show w.heap.size ≠ w.heap.size + 1 + 1 by omega)).off ⟨w.heap.size + 1 + 1, 12, none⟩ (.int .i64 p.f12) (show w.heap.size ≠ w.heap.size + 1 + 1 by omega)).off ⟨w.heap.size + 1 + 1, 13, none⟩ (.int .i64 p.f13) (show w.heap.size ≠ w.heap.size + 1 + 1 by omega)))
  have RX2 := Lib.hid (show Box ((((w2.setCell ⟨w.heap.size + 1 + 1, 10, none⟩ (.slice q10.a q10.l q10.c)).setCell ⟨w.heap.size + 1 + 1, 11, none⟩ (.int .i64 p.f11)).setCell ⟨w.heap.size + 1 + 1, 12, none⟩ (.int .i64 p.f12)).setCell ⟨w.heap.size + 1 + 1, 13, none⟩ (.int .i64 p.f13)) (w.heap.size + 1) 144 #[.int .i64 0, .int .i64 0, .int .i64 0, .int .i64 0, .int .i64 0, .int .i64 0, .slice none 0 0, .bool false, .int .i64 0, .int .i64 0, .slice none 0 0, .int .i64 0, .int .i64 0, .int .i64 0] from ((((R2.out.off ⟨w.heap.size + 1 + 1, 10, none⟩ (.slice q10.a q10.l q10.c) (show w.heap.size + 1 ≠ w.heap.size + 1 + 1 by omega)).off ⟨w.heap.size + 1 + 1, 11, none⟩ (.int .i64 p.f11) (show w.heap.size + 1 ≠ w.heap.size + 1 + 1 by omega)).off ⟨w.heap.size + 1 + 1, 12, none⟩ (.int .i64 p.f12) (show w.heap.size + 1 ≠ w.heap.size + 1 + 1 by omega)).off ⟨w.heap.size + 1 + 1, 13, none⟩ (.int .i64 p.f13) (show w.heap.size + 1 ≠ w.heap.size + 1 + 1 by omega)))
  have CX := (((((Chg.refl [w.heap.size + 1 + 1] w2).set (w.heap.size + 1 + 1) 10 (.slice q10.a q10.l q10.c) (List.mem_singleton.2 rfl)).set (w.heap.size + 1 + 1) 11 (.int .i64 p.f11) (List.mem_singleton.2 rfl)).set (w.heap.size + 1 + 1) 12 (.int .i64 p.f12) (List.mem_singleton.2 rfl)).set (w.heap.size + 1 + 1) 13 (.int .i64 p.f13) (List.mem_singleton.2 rfl))
  have BX2 := Lib.hid (show Below w.heap.size w ((((w2.setCell ⟨w.heap.size + 1 + 1, 10, none⟩ (.slice q10.a q10.l q10.c)).setCell ⟨w.heap.size + 1 + 1, 11, none⟩ (.int .i64 p.f11)).setCell ⟨w.heap.size + 1 + 1, 12, none⟩ (.int .i64 p.f12)).setCell ⟨w.heap.size + 1 + 1, 13, none⟩ (.int .i64 p.f13)) from ((((B2.out.setCell (show w.heap.size ≤ w.heap.size + 1 + 1 by omega) (.slice q10.a q10.l q10.c)).setCell (show w.heap.size ≤ w.heap.size + 1 + 1 by omega) (.int .i64 p.f11)).setCell (show w.heap.size ≤ w.heap.size + 1 + 1 by omega) (.int .i64 p.f12)).setCell (show w.heap.size ≤ w.heap.size + 1 + 1 by omega) (.int .i64 p.f13)))
  have OX0_2 := Lib.hid (Yt.ok.chg OO0_2.out CX (fun k hk e => by have := N2.out.ge k (List.mem_append_left _ hk); have := List.mem_singleton.1 e; omega))
  have OX1_2 := Lib.hid (Lt.ok.chg (by decide) OO1_2.out CX (fun k hk e => by have := N2.out.ge k (List.mem_append_right _ hk); have := List.mem_singleton.1 e; omega))
  have NX2 := Lib.hid (N2.out.chg CX)
  clear CX P2 R2 U2 B2 N2 OO0_2 OO1_2
  go_wp2_with (first
    | ((with_reducible change wpList _ _ _ (Oper.mk (some 48) _ _ _ _ _ :: _) _ _); refine getBox_list _ rfl 144 (.tmp 3) rfl (w.heap.size + 1 + 1) 144 _ UX2.out rfl _ rfl Try.underlying144 (by kernel_rfl) ?_; simp only [Act.put, List.setIfInBounds_toArray, List.set_cons_zero, List.set_cons_succ])
    | ((with_reducible change wpList _ _ _ (Oper.mk none (Op.store 144 _ _) _ _ _ _ :: _) _ _); refine setBox_list _ rfl 144 (.tmp 2) (.tmp 48) rfl (w.heap.size + 1) 144 _ #[.int .i64 p.f0, .int .i64 p.f1, .int .i64 p.f2, .int .i64 p.f3, .int .i64 p.f4, .int .i64 p.f5, .slice q6.a q6.l q6.c, .bool p.f7, .int .i64 p.f8, .int .i64 p.f9, .slice q10.a q10.l q10.c, .int .i64 p.f11, .int .i64 p.f12, .int .i64 p.f13] RX2.out (by exact rfl) (by exact rfl) (by kernel_rfl) (by exact rfl) (by simp [Value.oneCell']) ?_; intro w9 x9 g9))
  have CX := (Chg.refl [w.heap.size + 1] _).boxed x9 g9 (List.mem_singleton.2 rfl)
  refine bodyPost_ret (results_cell_row Try.results85 _ _ _ _ _ _ _ rfl x9 Try.underlying144 rfl (by kernel_rfl)) rfl ⟨⟨p.f0, p.f1, p.f2, p.f3, p.f4, p.f5, q6, p.f7, p.f8, p.f9, q10, p.f11, p.f12, p.f13⟩, rfl, ?_, ?_, ?_, ?_⟩
  · exact ⟨(Yt.ok.chg OX0_2.out CX (fun k hk e => by have := NX2.out.ge k (List.mem_append_left _ hk); have := List.mem_singleton.1 e; omega)), (Lt.ok.chg (by decide) OX1_2.out CX (fun k hk e => by have := NX2.out.ge k (List.mem_append_right _ hk); have := List.mem_singleton.1 e; omega))⟩
  · simp only [EndR.val, V0.out, V1.out]
  · exact (NX2.out.chg CX).mono (by omega)
  · exact BX2.out.trans (CX.below BX2.out.size (fun k hk => by have := List.mem_singleton.1 hk; omega))

end Go.Proofs.Ytbngdenlplbjhaa
