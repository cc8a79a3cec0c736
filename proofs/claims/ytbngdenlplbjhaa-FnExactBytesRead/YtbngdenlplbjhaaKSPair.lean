/-
  Pair: rows, values, marks; the helpers of the laws that size, copy and compare one.
-/
import Derived.Test.YtbngdenlplbjhaaKLEnd
import Derived.Test.YtbngdenlplbjhaaKLFlight
import Derived.Test.YtbngdenlplbjhaaKLReply
namespace Go.Proofs.Ytbngdenlplbjhaa
open Go.ChangeShapes Go.WideShapes Go.ChangeAt Go.RowKit

structure PairV where
  f0 : Int
  f1 : List EndV
  f2 : List FlightV
  f3 : List ReplyV
deriving DecidableEq
structure PairR where
  f0 : Int
  f1 : Lt EndR
  f2 : Lt FlightR
  f3 : Lt ReplyR
def PairR.val (p : PairR) : PairV := ⟨p.f0, p.f1.rs.map EndR.val, p.f2.rs.map FlightR.val, p.f3.rs.map ReplyR.val⟩
def PairR.cells (p : PairR) : List Value := [.int .i64 p.f0, .slice p.f1.a p.f1.l p.f1.c, .slice p.f2.a p.f2.l p.f2.c, .slice p.f3.a p.f3.l p.f3.c]
def PairR.ok (w : World) (p : PairR) : Prop := ((Lt.ok EndR.md w p.f1 ∧ Lt.ok FlightR.md w p.f2) ∧ Lt.ok ReplyR.md w p.f3)
def PairR.blks (p : PairR) : List Nat := ((Lt.blks EndR.md p.f1 ++ Lt.blks FlightR.md p.f2) ++ Lt.blks ReplyR.md p.f3)
theorem PairR.keep {w w' : World} {p : PairR} (h : PairR.ok w p) (hb : ∀ b ∈ PairR.blks p, w'.heap[b]? = w.heap[b]?) : PairR.ok w' p :=
  ⟨⟨Lt.ok.keep h.1.1 (fun b hm => hb b (List.mem_append_left _ (List.mem_append_left _ hm))), Lt.ok.keep h.1.2 (fun b hm => hb b (List.mem_append_left _ (List.mem_append_right _ hm)))⟩, Lt.ok.keep h.2 (fun b hm => hb b (List.mem_append_right _ hm))⟩
theorem PairR.lt {w : World} {p : PairR} (h : PairR.ok w p) : ∀ b ∈ PairR.blks p, b < w.heap.size := by
  intro b hb
  simp only [PairR.blks, List.mem_append] at hb
  rcases hb with (h0 | h1) | h2
  · exact Lt.ok.lt (by decide) h.1.1 b h0
  · exact Lt.ok.lt (by decide) h.1.2 b h1
  · exact Lt.ok.lt (by decide) h.2 b h2
def PairR.md : Md PairR where
  n := 4
  cells := PairR.cells
  ok := PairR.ok
  blks := PairR.blks
  clen _ := rfl
  keep := PairR.keep
  lt := PairR.lt
def PairV.wt (v : PairV) : Nat := wtL EndV.wt v.f1 + wtL FlightV.wt v.f2 + wtL ReplyV.wt v.f3
def PairV.mrk (v : PairV) : Nat := 1 + sw EndV.mrk v.f1 + sw FlightV.mrk v.f2 + sw ReplyV.mrk v.f3
def PairR.mkn (p : PairR) : Nat := p.val.mrk
theorem PairV.mrk_le (v : PairV) : v.mrk ≤ 1 + 16 * v.wt := by
  have h1 := sw_le (f := EndV.mrk) (g := EndV.wt) 16 (rs := v.f1) (fun p _ => Nat.le_trans (EndV.mrk_le p) (by omega))
  have h2 := sw_le (f := FlightV.mrk) (g := FlightV.wt) 16 (rs := v.f2) (fun p _ => Nat.le_trans (FlightV.mrk_le p) (by omega))
  have h3 := sw_le (f := ReplyV.mrk) (g := ReplyV.wt) 16 (rs := v.f3) (fun p _ => Nat.le_trans (ReplyV.mrk_le p) (by omega))
  simp only [PairV.mrk, PairV.wt, wtL]
  omega
def PairR.mark (k : Nat) (p : PairR) : PairR := ⟨((k : Nat) : Int), Lt.mark EndR.mark EndR.mkn (k + 1) p.f1, Lt.mark FlightR.mark FlightR.mkn ((k + 1) + sw EndR.mkn p.f1.rs) p.f2, Lt.mark ReplyR.mark ReplyR.mkn (((k + 1) + sw EndR.mkn p.f1.rs) + sw FlightR.mkn p.f2.rs) p.f3⟩
theorem PairR.mark_blks (k : Nat) (p : PairR) : PairR.blks (PairR.mark k p) = PairR.blks p :=
  app2 (app2 (Lt.mark_blks _ _ (M := EndR.md) EndR.mark_blks _ _) (Lt.mark_blks _ _ (M := FlightR.md) FlightR.mark_blks _ _)) (Lt.mark_blks _ _ (M := ReplyR.md) ReplyR.mark_blks _ _)
def zPair : PairR := ⟨0, ⟨none, 0, 0, []⟩, ⟨none, 0, 0, []⟩, ⟨none, 0, 0, []⟩⟩
theorem zPair_ok (w : World) : PairR.ok w zPair := ⟨⟨Lt.nil0 _ _, Lt.nil0 _ _⟩, Lt.nil0 _ _⟩

set_option maxHeartbeats 2000000 in
theorem szPair_any (p : PairR) (l : Nat) (w : World) (h : PairR.ok w p) (hl : l ≤ 1048576) :
    Calls Try.prog 20 #[.agg (PairR.cells p).toArray, .int .i64 l] w fun e w' => e = .returned (.int .i64 (szR p.val.wt l)) ∧ Below w.heap.size w w' := by
  show Calls Try.prog 20 #[.agg #[.int .i64 p.f0, .slice p.f1.a p.f1.l p.f1.c, .slice p.f2.a p.f2.l p.f2.c, .slice p.f3.a p.f3.l p.f3.c], .int .i64 l] w _
  obtain ⟨n0, hn0⟩ : ∃ n, n = wtL EndV.wt (p.f1.rs.map EndR.val) := ⟨_, rfl⟩
  obtain ⟨n1, hn1⟩ : ∃ n, n = wtL FlightV.wt (p.f2.rs.map FlightR.val) := ⟨_, rfl⟩
  obtain ⟨n2, hn2⟩ : ∃ n, n = wtL ReplyV.wt (p.f3.rs.map ReplyR.val) := ⟨_, rfl⟩
  have hw : p.val.wt = n0 + n1 + n2 := by rw [hn0]; rw [hn1]; rw [hn2]; rfl
  rw [hw]
  have B0 := Lib.hid ((Below.refl w.heap.size w).alloc (Nat.le_refl _) (.cells #[.int .i64 p.f0, .slice p.f1.a p.f1.l p.f1.c, .slice p.f2.a p.f2.l p.f2.c, .slice p.f3.a p.f3.l p.f3.c] 48))
  have X0 := Lib.hid (Box.new w 48 #[.int .i64 p.f0, .slice p.f1.a p.f1.l p.f1.c, .slice p.f2.a p.f2.l p.f2.c, .slice p.f3.a p.f3.l p.f3.c])
  have K0 := Lib.hid (show ∀ W, Below w.heap.size w W → ∀ t : Nat, t ≤ 1048576 → Calls Try.prog 55 #[.slice p.f1.a p.f1.l p.f1.c, .int .i64 t] W fun e w' => e = .returned (.int .i64 (szR n0 t)) ∧ Below W.heap.size W w' from fun W hW t ht => by rw [hn0]; exact szEndS_any p.f1 t W (Lt.ok.below (by decide) h.1.1 hW) ht)
  have K1 := Lib.hid (show ∀ W, Below w.heap.size w W → ∀ t : Nat, t ≤ 1048576 → Calls Try.prog 56 #[.slice p.f2.a p.f2.l p.f2.c, .int .i64 t] W fun e w' => e = .returned (.int .i64 (szR n1 t)) ∧ Below W.heap.size W w' from fun W hW t ht => by rw [hn1]; exact szFlightS_any p.f2 t W (Lt.ok.below (by decide) h.1.2 hW) ht)
  have K2 := Lib.hid (show ∀ W, Below w.heap.size w W → ∀ t : Nat, t ≤ 1048576 → Calls Try.prog 57 #[.slice p.f3.a p.f3.l p.f3.c, .int .i64 t] W fun e w' => e = .returned (.int .i64 (szR n2 t)) ∧ Below W.heap.size W w' from fun W hW t ht => by rw [hn2]; exact szReplyS_any p.f3 t W (Lt.ok.below (by decide) h.2 hW) ht)
  clear h hw hn0 hn1 hn2
  by_cases h0 : n0 ≤ l
  case neg =>
    have C0 := Lib.hid (fun W hW => (show Calls Try.prog 55 #[.slice p.f1.a p.f1.l p.f1.c, .int .i64 (l : Nat)] W fun e w' => e = .returned (.int .i64 (-1)) ∧ Below W.heap.size W w' from by have q := K0.out W hW l (by omega); rw [szR_f (by omega)] at q; exact q))
    have E : Hid (szR (n0 + n1 + n2) l = -1) := szR_f (by omega)
    clear K0 K1 K2
    go_enter Try.func20, Try.ntmps20
    go_wp2_with fail
    refine (C0.out _ B0.out).mono ?_
    rintro e w1 ⟨rfl, b1⟩
    have B1 := Lib.hid (B0.out.trans (b1.mono B0.out.size))
    clear b1
    go_wp2
    go_ret
    exact ⟨ret_i E.out.symm, B1.out⟩
  by_cases h1 : n1 ≤ l - n0
  case neg =>
    have hp0 : ¬ ((l - n0 : Nat) : Int) < 0 := by omega
    have C0 := Lib.hid (fun W hW => (show Calls Try.prog 55 #[.slice p.f1.a p.f1.l p.f1.c, .int .i64 (l : Nat)] W fun e w' => e = .returned (.int .i64 (l - n0 : Nat)) ∧ Below W.heap.size W w' from by have q := K0.out W hW l (by omega); rw [szR_t (by omega)] at q; exact q))
    have C1 := Lib.hid (fun W hW => (show Calls Try.prog 56 #[.slice p.f2.a p.f2.l p.f2.c, .int .i64 (l - n0 : Nat)] W fun e w' => e = .returned (.int .i64 (-1)) ∧ Below W.heap.size W w' from by have q := K1.out W hW (l - n0) (by omega); rw [szR_f (by omega)] at q; exact q))
    have E : Hid (szR (n0 + n1 + n2) l = -1) := szR_f (by omega)
    clear K0 K1 K2
    go_enter Try.func20, Try.ntmps20
    go_wp2_with fail
    refine (C0.out _ B0.out).mono ?_
    rintro e w1 ⟨rfl, b1⟩
    have B1 := Lib.hid (B0.out.trans (b1.mono B0.out.size))
    have X1 := Lib.hid (X0.out.below b1 X0.out.lt)
    have x1 : w1.cell? ⟨w.heap.size, 2, none⟩ = some (.slice p.f2.a p.f2.l p.f2.c) := X1.out.cell 2
    clear b1
    go_wp2_with fail
    refine (C1.out _ B1.out).mono ?_
    rintro e w2 ⟨rfl, b2⟩
    have B2 := Lib.hid (B1.out.trans (b2.mono B1.out.size))
    clear b2
    go_wp2
    go_ret
    exact ⟨ret_i E.out.symm, B2.out⟩
  by_cases h2 : n2 ≤ l - n0 - n1
  case neg =>
    have hp0 : ¬ ((l - n0 : Nat) : Int) < 0 := by omega
    have hp1 : ¬ ((l - n0 - n1 : Nat) : Int) < 0 := by omega
    have C0 := Lib.hid (fun W hW => (show Calls Try.prog 55 #[.slice p.f1.a p.f1.l p.f1.c, .int .i64 (l : Nat)] W fun e w' => e = .returned (.int .i64 (l - n0 : Nat)) ∧ Below W.heap.size W w' from by have q := K0.out W hW l (by omega); rw [szR_t (by omega)] at q; exact q))
    have C1 := Lib.hid (fun W hW => (show Calls Try.prog 56 #[.slice p.f2.a p.f2.l p.f2.c, .int .i64 (l - n0 : Nat)] W fun e w' => e = .returned (.int .i64 (l - n0 - n1 : Nat)) ∧ Below W.heap.size W w' from by have q := K1.out W hW (l - n0) (by omega); rw [szR_t (by omega)] at q; exact q))
    have C2 := Lib.hid (fun W hW => (show Calls Try.prog 57 #[.slice p.f3.a p.f3.l p.f3.c, .int .i64 (l - n0 - n1 : Nat)] W fun e w' => e = .returned (.int .i64 (-1)) ∧ Below W.heap.size W w' from by have q := K2.out W hW (l - n0 - n1) (by omega); rw [szR_f (by omega)] at q; exact q))
    have E : Hid (szR (n0 + n1 + n2) l = -1) := szR_f (by omega)
    clear K0 K1 K2
    go_enter Try.func20, Try.ntmps20
    go_wp2_with fail
    refine (C0.out _ B0.out).mono ?_
    rintro e w1 ⟨rfl, b1⟩
    have B1 := Lib.hid (B0.out.trans (b1.mono B0.out.size))
    have X1 := Lib.hid (X0.out.below b1 X0.out.lt)
    have x1 : w1.cell? ⟨w.heap.size, 2, none⟩ = some (.slice p.f2.a p.f2.l p.f2.c) := X1.out.cell 2
    clear b1
    go_wp2_with fail
    refine (C1.out _ B1.out).mono ?_
    rintro e w2 ⟨rfl, b2⟩
    have B2 := Lib.hid (B1.out.trans (b2.mono B1.out.size))
    have X2 := Lib.hid (X1.out.below b2 X1.out.lt)
    have x2 : w2.cell? ⟨w.heap.size, 3, none⟩ = some (.slice p.f3.a p.f3.l p.f3.c) := X2.out.cell 3
    clear b2
    go_wp2_with fail
    refine (C2.out _ B2.out).mono ?_
    rintro e w3 ⟨rfl, b3⟩
    have B3 := Lib.hid (B2.out.trans (b3.mono B2.out.size))
    clear b3
    go_wp2
    go_ret
    exact ⟨ret_i E.out.symm, B3.out⟩
  have hp0 : ¬ ((l - n0 : Nat) : Int) < 0 := by omega
  have hp1 : ¬ ((l - n0 - n1 : Nat) : Int) < 0 := by omega
  have hp2 : ¬ ((l - n0 - n1 - n2 : Nat) : Int) < 0 := by omega
  have C0 := Lib.hid (fun W hW => (show Calls Try.prog 55 #[.slice p.f1.a p.f1.l p.f1.c, .int .i64 (l : Nat)] W fun e w' => e = .returned (.int .i64 (l - n0 : Nat)) ∧ Below W.heap.size W w' from by have q := K0.out W hW l (by omega); rw [szR_t (by omega)] at q; exact q))
  have C1 := Lib.hid (fun W hW => (show Calls Try.prog 56 #[.slice p.f2.a p.f2.l p.f2.c, .int .i64 (l - n0 : Nat)] W fun e w' => e = .returned (.int .i64 (l - n0 - n1 : Nat)) ∧ Below W.heap.size W w' from by have q := K1.out W hW (l - n0) (by omega); rw [szR_t (by omega)] at q; exact q))
  have C2 := Lib.hid (fun W hW => (show Calls Try.prog 57 #[.slice p.f3.a p.f3.l p.f3.c, .int .i64 (l - n0 - n1 : Nat)] W fun e w' => e = .returned (.int .i64 (l - n0 - n1 - n2 : Nat)) ∧ Below W.heap.size W w' from by have q := K2.out W hW (l - n0 - n1) (by omega); rw [szR_t (by omega)] at q; exact q))
  have E : Hid (szR (n0 + n1 + n2) l = ((l - n0 - n1 - n2 : Nat) : Int)) := (szR_t (by omega)).trans (by omega)
  clear K0 K1 K2
  go_enter Try.func20, Try.ntmps20
  go_wp2_with fail
  refine (C0.out _ B0.out).mono ?_
  rintro e w1 ⟨rfl, b1⟩
  have B1 := Lib.hid (B0.out.trans (b1.mono B0.out.size))
  have X1 := Lib.hid (X0.out.below b1 X0.out.lt)
  have x1 : w1.cell? ⟨w.heap.size, 2, none⟩ = some (.slice p.f2.a p.f2.l p.f2.c) := X1.out.cell 2
  clear b1
  go_wp2_with fail
  refine (C1.out _ B1.out).mono ?_
  rintro e w2 ⟨rfl, b2⟩
  have B2 := Lib.hid (B1.out.trans (b2.mono B1.out.size))
  have X2 := Lib.hid (X1.out.below b2 X1.out.lt)
  have x2 : w2.cell? ⟨w.heap.size, 3, none⟩ = some (.slice p.f3.a p.f3.l p.f3.c) := X2.out.cell 3
  clear b2
  go_wp2_with fail
  refine (C2.out _ B2.out).mono ?_
  rintro e w3 ⟨rfl, b3⟩
  have B3 := Lib.hid (B2.out.trans (b3.mono B2.out.size))
  clear b3
  go_wp2
  go_ret
  exact ⟨ret_i E.out.symm, B3.out⟩

set_option maxHeartbeats 2000000 in
theorem eqPair_t (p q : PairR) (w : World) (h : PairR.ok w p) (h' : PairR.ok w q) (hv : p.val = q.val) :
    Calls Try.prog 27 #[.agg (PairR.cells p).toArray, .agg (PairR.cells q).toArray] w fun e w' => e = .returned (.bool true) ∧ Below w.heap.size w w' := by
  show Calls Try.prog 27 #[.agg #[.int .i64 p.f0, .slice p.f1.a p.f1.l p.f1.c, .slice p.f2.a p.f2.l p.f2.c, .slice p.f3.a p.f3.l p.f3.c], .agg #[.int .i64 q.f0, .slice q.f1.a q.f1.l q.f1.c, .slice q.f2.a q.f2.l q.f2.c, .slice q.f3.a q.f3.l q.f3.c]] w _
  have e0 : (p.f0 != q.f0) = false := by rw [show p.f0 = q.f0 from congrArg PairV.f0 hv]; simp
  have K0 := Lib.hid (fun W (hW : Below w.heap.size w W) => eqEndS_t p.f1 q.f1 W (Lt.ok.below (by decide) h.1.1 hW) (Lt.ok.below (by decide) h'.1.1 hW) (congrArg PairV.f1 hv))
  have K1 := Lib.hid (fun W (hW : Below w.heap.size w W) => eqFlightS_t p.f2 q.f2 W (Lt.ok.below (by decide) h.1.2 hW) (Lt.ok.below (by decide) h'.1.2 hW) (congrArg PairV.f2 hv))
  have K2 := Lib.hid (fun W (hW : Below w.heap.size w W) => eqReplyS_t p.f3 q.f3 W (Lt.ok.below (by decide) h.2 hW) (Lt.ok.below (by decide) h'.2 hW) (congrArg PairV.f3 hv))
  have B0 := Lib.hid (((Below.refl w.heap.size w).alloc (Nat.le_refl _) (.cells #[.int .i64 p.f0, .slice p.f1.a p.f1.l p.f1.c, .slice p.f2.a p.f2.l p.f2.c, .slice p.f3.a p.f3.l p.f3.c] 59)).alloc (by simp) (.cells #[.int .i64 q.f0, .slice q.f1.a q.f1.l q.f1.c, .slice q.f2.a q.f2.l q.f2.c, .slice q.f3.a q.f3.l q.f3.c] 59))
  have X0 := Lib.hid ((Box.new w 59 #[.int .i64 p.f0, .slice p.f1.a p.f1.l p.f1.c, .slice p.f2.a p.f2.l p.f2.c, .slice p.f3.a p.f3.l p.f3.c]).alloc (.cells #[.int .i64 q.f0, .slice q.f1.a q.f1.l q.f1.c, .slice q.f2.a q.f2.l q.f2.c, .slice q.f3.a q.f3.l q.f3.c] 59))
  have Y0 := Lib.hid (Box.new (w.alloc (.cells #[.int .i64 p.f0, .slice p.f1.a p.f1.l p.f1.c, .slice p.f2.a p.f2.l p.f2.c, .slice p.f3.a p.f3.l p.f3.c] 59)) 59 #[.int .i64 q.f0, .slice q.f1.a q.f1.l q.f1.c, .slice q.f2.a q.f2.l q.f2.c, .slice q.f3.a q.f3.l q.f3.c])
  clear h h' hv
  go_enter Try.func27, Try.ntmps27
  go_wp2_with fail
  refine (K0.out _ B0.out).mono ?_
  rintro e w1 ⟨rfl, b1⟩
  have B1 := Lib.hid (B0.out.trans (b1.mono B0.out.size))
  have X1 := Lib.hid (X0.out.below b1 X0.out.lt)
  have y1 := Y0.out.below b1 Y0.out.lt
  simp only [World.size_alloc] at y1
  have Y1 := Lib.hid y1
  have x1_2 : w1.cell? ⟨w.heap.size, 2, none⟩ = some (.slice p.f2.a p.f2.l p.f2.c) := X1.out.cell 2
  have y1_2 : w1.cell? ⟨w.heap.size + 1, 2, none⟩ = some (.slice q.f2.a q.f2.l q.f2.c) := Y1.out.cell 2
  clear b1 y1
  go_wp2_with fail
  refine (K1.out _ B1.out).mono ?_
  rintro e w2 ⟨rfl, b2⟩
  have B2 := Lib.hid (B1.out.trans (b2.mono B1.out.size))
  have X2 := Lib.hid (X1.out.below b2 X1.out.lt)
  have y2 := Y1.out.below b2 Y1.out.lt
  have Y2 := Lib.hid y2
  have x2_3 : w2.cell? ⟨w.heap.size, 3, none⟩ = some (.slice p.f3.a p.f3.l p.f3.c) := X2.out.cell 3
  have y2_3 : w2.cell? ⟨w.heap.size + 1, 3, none⟩ = some (.slice q.f3.a q.f3.l q.f3.c) := Y2.out.cell 3
  clear b2 y2
  go_wp2_with fail
  refine (K2.out _ B2.out).mono ?_
  rintro e w3 ⟨rfl, b3⟩
  have B3 := Lib.hid (B2.out.trans (b3.mono B2.out.size))
  clear b3
  go_wp2
  go_ret
  exact ⟨rfl, B3.out⟩

set_option maxHeartbeats 4000000 in
theorem toPair_any (p : PairR) (w : World) (h : PairR.ok w p) (hl : p.val.wt ≤ 1048576) :
    Calls Try.prog 23 #[.agg (PairR.cells p).toArray] w (TOut PairR.md PairR.val p.val w) := by
  show Calls Try.prog 23 #[.agg #[.int .i64 p.f0, .slice p.f1.a p.f1.l p.f1.c, .slice p.f2.a p.f2.l p.f2.c, .slice p.f3.a p.f3.l p.f3.c]] w _
  have hw : p.val.wt = wtL EndV.wt (p.f1.rs.map EndR.val) + wtL FlightV.wt (p.f2.rs.map FlightR.val) + wtL ReplyV.wt (p.f3.rs.map ReplyR.val) := rfl
  rw [hw] at hl
  have K0 := Lib.hid (fun W (hW : Below w.heap.size w W) => toEndS_any p.f1 W (Lt.ok.below (by decide) h.1.1 hW) (by omega))
  have K1 := Lib.hid (fun W (hW : Below w.heap.size w W) => toFlightS_any p.f2 W (Lt.ok.below (by decide) h.1.2 hW) (by omega))
  have K2 := Lib.hid (fun W (hW : Below w.heap.size w W) => toReplyS_any p.f3 W (Lt.ok.below (by decide) h.2 hW) (by omega))
  clear h hl hw
  have B0 := Lib.hid ((((Below.refl w.heap.size w).alloc (Nat.le_refl _) (.cells #[.int .i64 p.f0, .slice p.f1.a p.f1.l p.f1.c, .slice p.f2.a p.f2.l p.f2.c, .slice p.f3.a p.f3.l p.f3.c] 48)).alloc (by simp) (.cells #[.int .i64 0, .slice none 0 0, .slice none 0 0, .slice none 0 0] 59)).alloc (by simp; omega) (.cells #[.int .i64 p.f0, .slice none 0 0, .slice none 0 0, .slice none 0 0] 59))
  have P0 := Lib.hid (((Box.new w 48 #[.int .i64 p.f0, .slice p.f1.a p.f1.l p.f1.c, .slice p.f2.a p.f2.l p.f2.c, .slice p.f3.a p.f3.l p.f3.c]).alloc (.cells #[.int .i64 0, .slice none 0 0, .slice none 0 0, .slice none 0 0] 59)).alloc (.cells #[.int .i64 p.f0, .slice none 0 0, .slice none 0 0, .slice none 0 0] 59))
  have R0 := Lib.hid ((Box.new (w.alloc (.cells #[.int .i64 p.f0, .slice p.f1.a p.f1.l p.f1.c, .slice p.f2.a p.f2.l p.f2.c, .slice p.f3.a p.f3.l p.f3.c] 48)) 59 #[.int .i64 0, .slice none 0 0, .slice none 0 0, .slice none 0 0]).alloc (.cells #[.int .i64 p.f0, .slice none 0 0, .slice none 0 0, .slice none 0 0] 59))
  have U0 := Lib.hid (Box.new ((w.alloc (.cells #[.int .i64 p.f0, .slice p.f1.a p.f1.l p.f1.c, .slice p.f2.a p.f2.l p.f2.c, .slice p.f3.a p.f3.l p.f3.c] 48)).alloc (.cells #[.int .i64 0, .slice none 0 0, .slice none 0 0, .slice none 0 0] 59)) 59 #[.int .i64 p.f0, .slice none 0 0, .slice none 0 0, .slice none 0 0])
  go_enter Try.func23, Try.ntmps23
  go_wp2_with fail
  refine (K0.out _ B0.out).mono ?_
  rintro e w1 ⟨q1, rfl, o0, v0, n0, b1⟩
  have px := P0.out.below b1 P0.out.lt
  have rx := R0.out.below b1 R0.out.lt
  have ux := U0.out.below b1 U0.out.lt
  simp only [World.size_alloc] at n0 rx ux
  have P1 := Lib.hid px
  have R1 := Lib.hid rx
  have U1 := Lib.hid ux
  have B1 := Lib.hid (B0.out.trans (b1.mono B0.out.size))
  have O0 := Lib.hid o0
  have V0 := Lib.hid v0
  have S1 := Lib.hid (show w.heap.size + 1 + 1 < w1.heap.size from ux.lt)
  have N1 := Lib.hid (n0.mono (show w.heap.size + 1 + 1 + 1 ≤ w.heap.size + 1 + 1 + 1 from Nat.le_refl _))
  have OO0_1 := O0
  clear o0 v0 n0 b1 px rx ux P0 R0 U0 B0 K0
  have p2 : w1.cell? ⟨w.heap.size, 2, none⟩ = some (.slice p.f2.a p.f2.l p.f2.c) := P1.out.cell 2
  have u1 : w1.cell? ⟨w.heap.size + 1 + 1, 1, none⟩ = some (.slice none 0 0) := U1.out.cell 1
  have g1 := U1.out.frozen 1
  have UX1 := Lib.hid (show Box (w1.setCell ⟨w.heap.size + 1 + 1, 1, none⟩ (.slice q1.a q1.l q1.c)) (w.heap.size + 1 + 1) 59 #[.int .i64 p.f0, .slice q1.a q1.l q1.c, .slice none 0 0, .slice none 0 0] from (U1.out.putK 1 (.slice q1.a q1.l q1.c)))
  have PX1 := Lib.hid (show Box (w1.setCell ⟨w.heap.size + 1 + 1, 1, none⟩ (.slice q1.a q1.l q1.c)) w.heap.size 48 #[.int .i64 p.f0, .slice p.f1.a p.f1.l p.f1.c, .slice p.f2.a p.f2.l p.f2.c, .slice p.f3.a p.f3.l p.f3.c] from (P1.out.off ⟨w.heap.size + 1 + 1, 1, none⟩ (.slice q1.a q1.l q1.c) (show w.heap.size ≠ w.heap.size + 1 + 1 by omega)))
  have RX1 := Lib.hid (show Box (w1.setCell ⟨w.heap.size + 1 + 1, 1, none⟩ (.slice q1.a q1.l q1.c)) (w.heap.size + 1) 59 #[.int .i64 0, .slice none 0 0, .slice none 0 0, .slice none 0 0] from (R1.out.off ⟨w.heap.size + 1 + 1, 1, none⟩ (.slice q1.a q1.l q1.c) (show w.heap.size + 1 ≠ w.heap.size + 1 + 1 by omega)))
  have CX := ((Chg.refl [w.heap.size + 1 + 1] w1).set (w.heap.size + 1 + 1) 1 (.slice q1.a q1.l q1.c) (List.mem_singleton.2 rfl))
  have BX1 := Lib.hid (show Below w.heap.size w (w1.setCell ⟨w.heap.size + 1 + 1, 1, none⟩ (.slice q1.a q1.l q1.c)) from (B1.out.setCell (show w.heap.size ≤ w.heap.size + 1 + 1 by omega) (.slice q1.a q1.l q1.c)))
  have OX0_1 := Lib.hid (Lt.ok.chg (by decide) OO0_1.out CX (fun k hk e => by have := N1.out.ge k hk; have := List.mem_singleton.1 e; omega))
  have NX1 := Lib.hid (N1.out.chg CX)
  clear CX P1 R1 U1 B1 N1 OO0_1
  go_wp2_with fail
  refine (K1.out _ BX1.out).mono ?_
  rintro e w2 ⟨q2, rfl, o1, v1, n1, b2⟩
  have px := PX1.out.below b2 PX1.out.lt
  have rx := RX1.out.below b2 RX1.out.lt
  have ux := UX1.out.below b2 UX1.out.lt
  have P2 := Lib.hid px
  have R2 := Lib.hid rx
  have U2 := Lib.hid ux
  have B2 := Lib.hid (BX1.out.trans (b2.mono BX1.out.size))
  have O1 := Lib.hid o1
  have V1 := Lib.hid v1
  have S2 := Lib.hid (show w.heap.size + 1 + 1 < w2.heap.size from ux.lt)
  have OO0_2 := Lib.hid (Lt.ok.below (by decide) OX0_1.out b2)
  have N2 := Lib.hid (NX1.out.then b2 (by simpa only [World.size_setCell] using n1) (by have := S1.out; simp only [World.size_setCell]; omega))
  have OO1_2 := O1
  clear o1 v1 n1 b2 px rx ux PX1 RX1 UX1 BX1 NX1 OX0_1 K1
  have p3 : w2.cell? ⟨w.heap.size, 3, none⟩ = some (.slice p.f3.a p.f3.l p.f3.c) := P2.out.cell 3
  have u2 : w2.cell? ⟨w.heap.size + 1 + 1, 2, none⟩ = some (.slice none 0 0) := U2.out.cell 2
  have g2 := U2.out.frozen 2
  have UX2 := Lib.hid (show Box (w2.setCell ⟨w.heap.size + 1 + 1, 2, none⟩ (.slice q2.a q2.l q2.c)) (w.heap.size + 1 + 1) 59 #[.int .i64 p.f0, .slice q1.a q1.l q1.c, .slice q2.a q2.l q2.c, .slice none 0 0] from (U2.out.putK 2 (.slice q2.a q2.l q2.c)))
  have PX2 := Lib.hid (show Box (w2.setCell ⟨w.heap.size + 1 + 1, 2, none⟩ (.slice q2.a q2.l q2.c)) w.heap.size 48 #[.int .i64 p.f0, .slice p.f1.a p.f1.l p.f1.c, .slice p.f2.a p.f2.l p.f2.c, .slice p.f3.a p.f3.l p.f3.c] from (P2.out.off ⟨w.heap.size + 1 + 1, 2, none⟩ (.slice q2.a q2.l q2.c) (show w.heap.size ≠ w.heap.size + 1 + 1 by omega)))
  have RX2 := Lib.hid (show Box (w2.setCell ⟨w.heap.size + 1 + 1, 2, none⟩ (.slice q2.a q2.l q2.c)) (w.heap.size + 1) 59 #[.int .i64 0, .slice none 0 0, .slice none 0 0, .slice none 0 0] from (R2.out.off ⟨w.heap.size + 1 + 1, 2, none⟩ (.slice q2.a q2.l q2.c) (show w.heap.size + 1 ≠ w.heap.size + 1 + 1 by omega)))
  have CX := ((Chg.refl [w.heap.size + 1 + 1] w2).set (w.heap.size + 1 + 1) 2 (.slice q2.a q2.l q2.c) (List.mem_singleton.2 rfl))
  have BX2 := Lib.hid (show Below w.heap.size w (w2.setCell ⟨w.heap.size + 1 + 1, 2, none⟩ (.slice q2.a q2.l q2.c)) from (B2.out.setCell (show w.heap.size ≤ w.heap.size + 1 + 1 by omega) (.slice q2.a q2.l q2.c)))
  have OX0_2 := Lib.hid (Lt.ok.chg (by decide) OO0_2.out CX (fun k hk e => by have := N2.out.ge k (List.mem_append_left _ hk); have := List.mem_singleton.1 e; omega))
  have OX1_2 := Lib.hid (Lt.ok.chg (by decide) OO1_2.out CX (fun k hk e => by have := N2.out.ge k (List.mem_append_right _ hk); have := List.mem_singleton.1 e; omega))
  have NX2 := Lib.hid (N2.out.chg CX)
  clear CX P2 R2 U2 B2 N2 OO0_2 OO1_2
  go_wp2_with fail
  refine (K2.out _ BX2.out).mono ?_
  rintro e w3 ⟨q3, rfl, o2, v2, n2, b3⟩
  have px := PX2.out.below b3 PX2.out.lt
  have rx := RX2.out.below b3 RX2.out.lt
  have ux := UX2.out.below b3 UX2.out.lt
  have P3 := Lib.hid px
  have R3 := Lib.hid rx
  have U3 := Lib.hid ux
  have B3 := Lib.hid (BX2.out.trans (b3.mono BX2.out.size))
  have O2 := Lib.hid o2
  have V2 := Lib.hid v2
  have S3 := Lib.hid (show w.heap.size + 1 + 1 < w3.heap.size from ux.lt)
  have OO0_3 := Lib.hid (Lt.ok.below (by decide) OX0_2.out b3)
  have OO1_3 := Lib.hid (Lt.ok.below (by decide) OX1_2.out b3)
  have N3 := Lib.hid (NX2.out.then b3 (by simpa only [World.size_setCell] using n2) (by have := S2.out; simp only [World.size_setCell]; omega))
  have OO2_3 := O2
  clear o2 v2 n2 b3 px rx ux PX2 RX2 UX2 BX2 NX2 OX0_2 OX1_2 K2
  have u3 : w3.cell? ⟨w.heap.size + 1 + 1, 3, none⟩ = some (.slice none 0 0) := U3.out.cell 3
  have g3 := U3.out.frozen 3
  have UX3 := Lib.hid (show Box (w3.setCell ⟨w.heap.size + 1 + 1, 3, none⟩ (.slice q3.a q3.l q3.c)) (w.heap.size + 1 + 1) 59 #[.int .i64 p.f0, .slice q1.a q1.l q1.c, .slice q2.a q2.l q2.c, .slice q3.a q3.l q3.c] from (U3.out.putK 3 (.slice q3.a q3.l q3.c)))
  have PX3 := Lib.hid (show Box (w3.setCell ⟨w.heap.size + 1 + 1, 3, none⟩ (.slice q3.a q3.l q3.c)) w.heap.size 48 #[.int .i64 p.f0, .slice p.f1.a p.f1.l p.f1.c, .slice p.f2.a p.f2.l p.f2.c, .slice p.f3.a p.f3.l p.f3.c] from (P3.out.off ⟨w.heap.size + 1 + 1, 3, none⟩ (.slice q3.a q3.l q3.c) (show w.heap.size ≠ w.heap.size + 1 + 1 by omega)))
  have RX3 := Lib.hid (show Box (w3.setCell ⟨w.heap.size + 1 + 1, 3, none⟩ (.slice q3.a q3.l q3.c)) (w.heap.size + 1) 59 #[.int .i64 0, .slice none 0 0, .slice none 0 0, .slice none 0 0] from (R3.out.off ⟨w.heap.size + 1 + 1, 3, none⟩ (.slice q3.a q3.l q3.c) (show w.heap.size + 1 ≠ w.heap.size + 1 + 1 by omega)))
  have CX := ((Chg.refl [w.heap.size + 1 + 1] w3).set (w.heap.size + 1 + 1) 3 (.slice q3.a q3.l q3.c) (List.mem_singleton.2 rfl))
  have BX3 := Lib.hid (show Below w.heap.size w (w3.setCell ⟨w.heap.size + 1 + 1, 3, none⟩ (.slice q3.a q3.l q3.c)) from (B3.out.setCell (show w.heap.size ≤ w.heap.size + 1 + 1 by omega) (.slice q3.a q3.l q3.c)))
  have OX0_3 := Lib.hid (Lt.ok.chg (by decide) OO0_3.out CX (fun k hk e => by have := N3.out.ge k (List.mem_append_left _ (List.mem_append_left _ hk)); have := List.mem_singleton.1 e; omega))
  have OX1_3 := Lib.hid (Lt.ok.chg (by decide) OO1_3.out CX (fun k hk e => by have := N3.out.ge k (List.mem_append_left _ (List.mem_append_right _ hk)); have := List.mem_singleton.1 e; omega))
  have OX2_3 := Lib.hid (Lt.ok.chg (by decide) OO2_3.out CX (fun k hk e => by have := N3.out.ge k (List.mem_append_right _ hk); have := List.mem_singleton.1 e; omega))
  have NX3 := Lib.hid (N3.out.chg CX)
  clear CX P3 R3 U3 B3 N3 OO0_3 OO1_3 OO2_3
  go_wp2_with (first
    | ((with_reducible change wpList _ _ _ (Oper.mk (some 19) _ _ _ _ _ :: _) _ _); refine getBox_list _ rfl 59 (.tmp 3) rfl (w.heap.size + 1 + 1) 59 _ UX3.out rfl _ rfl Try.underlying59 (by kernel_rfl) ?_; simp only [Act.put, List.setIfInBounds_toArray, List.set_cons_zero, List.set_cons_succ])
    | ((with_reducible change wpList _ _ _ (Oper.mk none (Op.store 59 _ _) _ _ _ _ :: _) _ _); refine setBox_list _ rfl 59 (.tmp 2) (.tmp 19) rfl (w.heap.size + 1) 59 _ #[.int .i64 p.f0, .slice q1.a q1.l q1.c, .slice q2.a q2.l q2.c, .slice q3.a q3.l q3.c] RX3.out (by exact rfl) (by exact rfl) (by kernel_rfl) (by exact rfl) (by simp [Value.oneCell']) ?_; intro w9 x9 g9))
  have CX := (Chg.refl [w.heap.size + 1] _).boxed x9 g9 (List.mem_singleton.2 rfl)
  refine bodyPost_ret (results_cell_row Try.results23 _ _ _ _ _ _ _ rfl x9 Try.underlying59 rfl (by kernel_rfl)) rfl ⟨⟨p.f0, q1, q2, q3⟩, rfl, ?_, ?_, ?_, ?_⟩
  · exact ⟨⟨(Lt.ok.chg (by decide) OX0_3.out CX (fun k hk e => by have := NX3.out.ge k (List.mem_append_left _ (List.mem_append_left _ hk)); have := List.mem_singleton.1 e; omega)), (Lt.ok.chg (by decide) OX1_3.out CX (fun k hk e => by have := NX3.out.ge k (List.mem_append_left _ (List.mem_append_right _ hk)); have := List.mem_singleton.1 e; omega))⟩, (Lt.ok.chg (by decide) OX2_3.out CX (fun k hk e => by have := NX3.out.ge k (List.mem_append_right _ hk); have := List.mem_singleton.1 e; omega))⟩
  · simp only [PairR.val, V0.out, V1.out, V2.out]
  · exact (NX3.out.chg CX).mono (by omega)
  · exact BX3.out.trans (CX.below BX3.out.size (fun k hk => by have := List.mem_singleton.1 hk; omega))

end Go.Proofs.Ytbngdenlplbjhaa
