/-
  PackArp of the program.
-/
import Derived.Test.YtkneicepflkfhaaPty
import Derived.Test.YtkneicepflkfhaaImPkF
import Derived.Test.YtkneicepflkfhaaExArpP
namespace Go.Proofs.Ytkneicepflkfhaa
open Go.ChangeShapes Go.WideShapes Go.ChangeAt Go.RowKit

/-- these blocks hold just these cells -/
def Bs (l : List (Nat × TypeId × Array Value)) (W : World) : Prop := ∀ x ∈ l, Box W x.1 x.2.1 x.2.2
theorem bsCall {l : List (Nat × TypeId × Array Value)} {W w' : World} (hb : Below W.heap.size W w') (h : Hid (Bs l W)) : Hid (Bs l w') := fun x hx => (h.out x hx).below hb (h.out x hx).lt
theorem bsAlloc {l : List (Nat × TypeId × Array Value)} {W : World} {o : Obj} (h : Hid (Bs l W)) : Hid (Bs l (W.alloc o)) := fun x hx => (h.out x hx).alloc o
theorem bsDrew {l : List (Nat × TypeId × Array Value)} {W : World} (h : Hid (Bs l W)) : Hid (Bs l W.drew) := fun x hx => h.out x hx
theorem bsSet {l : List (Nat × TypeId × Array Value)} {W : World} {p : Addr} {u : Value} (hp : ∀ x ∈ l, x.1 ≠ p.block) (h : Hid (Bs l W)) : Hid (Bs l (W.setCell p u)) := fun x hx => (h.out x hx).grown (grown_setCell W p u) (by have := hp x hx; simpa using this)
theorem be4 (n : Int) : ∃ y0 y1 y2 y3, be n 4 = [y0, y1, y2, y3] := ⟨_, _, _, _, rfl⟩
theorem b8_4 {y0 y1 y2 y3 : Int} {n : Int} {k : Nat} (h : be n k = [y0, y1, y2, y3]) : B8 [y0, y1, y2, y3] := by rw [← h]; exact b8_be k n
theorem arpB_ip {op fm fi tm ti : Int} (h : arpB op fm fi tm ti = true) : (0 ≤ op ∧ op < 65536) ∧ (0 ≤ fi ∧ fi < 4294967296) ∧ (0 ≤ ti ∧ ti < 4294967296) := by
  simp only [arpB, macB, ipB, inB, Bool.and_eq_true, decide_eq_true_eq] at h
  omega

set_option maxRecDepth 20000 in
set_option maxHeartbeats 2000000 in
theorem implPackArp_ok (op fm fi tm ti : Int) (w : World) (hk : arpB op fm fi tm ti = true) :
    Calls Try.prog 33 #[.agg #[.int .i64 op, .int .i64 fm, .int .i64 fi, .int .i64 tm, .int .i64 ti]] w (Packed w 0 (arpL op fm fi tm ti)) := by
  obtain ⟨h0, h1, h2, h3, h4⟩ := arpB_parts hk
  obtain ⟨g0, g2, g4⟩ := arpB_ip hk
  obtain ⟨y0, y1, y2, y3, y4, y5, hy⟩ := be6 fm
  obtain ⟨z0, z1, z2, z3, hz⟩ := be4 fi
  obtain ⟨p0, p1, p2, p3, p4, p5, hp⟩ := be6 tm
  obtain ⟨q0, q1, q2, q3, hq⟩ := be4 ti
  have hc : arpC op fm fi tm ti = 0 := by unfold arpC; rw [if_pos hk]
  have S := Lib.hid (fun W => implArpFault op fm fi tm ti W)
  rw [hc] at S
  have K1 := Lib.hid (fun W => partyOf_any fm fi y0 y1 y2 y3 y4 y5 z0 z1 z2 z3 W h1 g2 hy hz)
  have K2 := Lib.hid (fun W => partyOf_any tm ti p0 p1 p2 p3 p4 p5 q0 q1 q2 q3 W h3 g4 hp hq)
  have KH := Lib.hid (fun W => arpHead_any op W g0)
  have KA := Lib.hid (fun W => ptyPack_any y0 y1 y2 y3 y4 y5 z0 z1 z2 z3 W (b8_6 hy) (b8_4 hz))
  have KB := Lib.hid (fun W => ptyPack_any p0 p1 p2 p3 p4 p5 q0 q1 q2 q3 W (b8_6 hp) (b8_4 hq))
  obtain ⟨L, hL⟩ : ∃ L, L = arpL op fm fi tm ti := ⟨_, rfl⟩
  have HL : Hid (L = ([0, 1, 8, 0, 6, 4] ++ be op 2) ++ (([y0, y1, y2, y3, y4, y5] ++ [z0, z1, z2, z3]) ++ ([p0, p1, p2, p3, p4, p5] ++ [q0, q1, q2, q3]))) := by rw [hL, arpL, hy, hz, hp, hq]; simp [Hid]
  have EH : Hid (([0, 1, 8, 0, 6, 4] ++ be op 2).length = 8) := by simp [Hid, be_len]
  have EA : Hid (([y0, y1, y2, y3, y4, y5] ++ [z0, z1, z2, z3]).length = 10) := rfl
  have EB : Hid (([p0, p1, p2, p3, p4, p5] ++ [q0, q1, q2, q3]).length = 10) := rfl
  rw [← hL]
  clear hL hc h0 h1 h2 h3 h4 g0 g2 g4 hy hz hp hq hk
  generalize [0, 1, 8, 0, 6, 4] ++ be op 2 = LH at *
  generalize [y0, y1, y2, y3, y4, y5] ++ [z0, z1, z2, z3] = LA at *
  generalize [p0, p1, p2, p3, p4, p5] ++ [q0, q1, q2, q3] = LB at *
  have B0 := Lib.hid (((Below.refl w.heap.size w).alloc (Nat.le_refl _) (.cells #[.int .i64 op, .int .i64 fm, .int .i64 fi, .int .i64 tm, .int .i64 ti] 49)).alloc (by simp) (.cells #[.int .i64 0, .slice none 0 0] 32))
  have X0 := Lib.hid ((Box.new w 49 #[.int .i64 op, .int .i64 fm, .int .i64 fi, .int .i64 tm, .int .i64 ti]).alloc (.cells #[.int .i64 0, .slice none 0 0] 32))
  have R0 := Lib.hid (Box.new (w.alloc (.cells #[.int .i64 op, .int .i64 fm, .int .i64 fi, .int .i64 tm, .int .i64 ti] 49)) 32 #[.int .i64 0, .slice none 0 0])
  simp only [World.size_alloc] at R0
  go_enter Try.func33, Try.ntmps33
  go_wp2_with fail
  refine (S.out _).mono ?_
  rintro e w1 ⟨rfl, b1⟩
  have X1 := Lib.hid (X0.out.below b1 X0.out.lt)
  have R1 := Lib.hid (R0.out.below b1 R0.out.lt)
  have B1 := Lib.hid (B0.out.trans (b1.mono B0.out.size))
  clear b1 X0 R0 B0
  obtain ⟨_, x0, x1, x2, x3, x4⟩ := X1.out.five
  go_wp2_with fail
  refine (K1.out _).mono ?_
  rintro e w2 ⟨rfl, b2⟩
  have X2 := Lib.hid ((X1.out.below b2 X1.out.lt).alloc (.cells #[.int .u8 y0, .int .u8 y1, .int .u8 y2, .int .u8 y3, .int .u8 y4, .int .u8 y5, .int .u8 z0, .int .u8 z1, .int .u8 z2, .int .u8 z3] 79))
  have R2 := Lib.hid ((R1.out.below b2 R1.out.lt).alloc (.cells #[.int .u8 y0, .int .u8 y1, .int .u8 y2, .int .u8 y3, .int .u8 y4, .int .u8 y5, .int .u8 z0, .int .u8 z1, .int .u8 z2, .int .u8 z3] 79))
  have B2' := B1.out.trans (b2.mono B1.out.size)
  have B2 := Lib.hid (B2'.alloc B2'.size (.cells #[.int .u8 y0, .int .u8 y1, .int .u8 y2, .int .u8 y3, .int .u8 y4, .int .u8 y5, .int .u8 z0, .int .u8 z1, .int .u8 z2, .int .u8 z3] 79))
  have Y2 := Lib.hid (Box.new w2 79 #[.int .u8 y0, .int .u8 y1, .int .u8 y2, .int .u8 y3, .int .u8 y4, .int .u8 y5, .int .u8 z0, .int .u8 z1, .int .u8 z2, .int .u8 z3])
  have L2 := Lib.hid (R1.out.below b2 R1.out.lt).lt
  clear b2 X1 R1 B1 B2' x0 x1 x2 x3 x4
  generalize hW2 : w2.alloc (.cells #[.int .u8 y0, .int .u8 y1, .int .u8 y2, .int .u8 y3, .int .u8 y4, .int .u8 y5, .int .u8 z0, .int .u8 z1, .int .u8 z2, .int .u8 z3] 79) = W2 at *
  obtain ⟨_, x0, x1, x2, x3, x4⟩ := X2.out.five
  go_wp2_with fail
  clear hW2
  refine (K2.out _).mono ?_
  rintro e w3 ⟨rfl, b3⟩
  have X3 := Lib.hid ((X2.out.below b3 X2.out.lt).alloc (.cells #[.int .u8 p0, .int .u8 p1, .int .u8 p2, .int .u8 p3, .int .u8 p4, .int .u8 p5, .int .u8 q0, .int .u8 q1, .int .u8 q2, .int .u8 q3] 79))
  have R3 := Lib.hid ((R2.out.below b3 R2.out.lt).alloc (.cells #[.int .u8 p0, .int .u8 p1, .int .u8 p2, .int .u8 p3, .int .u8 p4, .int .u8 p5, .int .u8 q0, .int .u8 q1, .int .u8 q2, .int .u8 q3] 79))
  have B3' := B2.out.trans (b3.mono B2.out.size)
  have B3 := Lib.hid (B3'.alloc B3'.size (.cells #[.int .u8 p0, .int .u8 p1, .int .u8 p2, .int .u8 p3, .int .u8 p4, .int .u8 p5, .int .u8 q0, .int .u8 q1, .int .u8 q2, .int .u8 q3] 79))
  have Y3 := Lib.hid ((Y2.out.below b3 Y2.out.lt).alloc (.cells #[.int .u8 p0, .int .u8 p1, .int .u8 p2, .int .u8 p3, .int .u8 p4, .int .u8 p5, .int .u8 q0, .int .u8 q1, .int .u8 q2, .int .u8 q3] 79))
  have Z3 := Lib.hid (Box.new w3 79 #[.int .u8 p0, .int .u8 p1, .int .u8 p2, .int .u8 p3, .int .u8 p4, .int .u8 p5, .int .u8 q0, .int .u8 q1, .int .u8 q2, .int .u8 q3])
  have L3 := Lib.hid (R2.out.below b3 R2.out.lt).lt
  clear b3 X2 R2 B2 B3' Y2 x0 x1 x2 x3 x4
  generalize hW3 : w3.alloc (.cells #[.int .u8 p0, .int .u8 p1, .int .u8 p2, .int .u8 p3, .int .u8 p4, .int .u8 p5, .int .u8 q0, .int .u8 q1, .int .u8 q2, .int .u8 q3] 79) = W3 at *
  obtain ⟨bl, hbl⟩ : ∃ bl : List (Nat × TypeId × Array Value), bl = [(w.heap.size, 49, #[.int .i64 op, .int .i64 fm, .int .i64 fi, .int .i64 tm, .int .i64 ti]), (w2.heap.size, 79, #[.int .u8 y0, .int .u8 y1, .int .u8 y2, .int .u8 y3, .int .u8 y4, .int .u8 y5, .int .u8 z0, .int .u8 z1, .int .u8 z2, .int .u8 z3]), (w3.heap.size, 79, #[.int .u8 p0, .int .u8 p1, .int .u8 p2, .int .u8 p3, .int .u8 p4, .int .u8 p5, .int .u8 q0, .int .u8 q1, .int .u8 q2, .int .u8 q3])] := ⟨_, rfl⟩
  have T3 : Hid (Bs bl W3) := by
    rw [hbl]
    intro x hx
    simp only [List.mem_cons, List.not_mem_nil, or_false] at hx
    rcases hx with rfl | rfl | rfl
    · exact X3.out
    · exact Y3.out
    · exact Z3.out
  have NE : Hid (∀ x ∈ bl, x.1 ≠ w.heap.size + 1) := by
    rw [hbl]
    have := L2.out
    have := L3.out
    intro x hx
    simp only [List.mem_cons, List.not_mem_nil, or_false] at hx
    rcases hx with rfl | rfl | rfl
    all_goals (dsimp only; omega)
  have SS := Lib.hid (show ∀ W, Hid (Bs bl W) → W.cell? ⟨w.heap.size, 0, none⟩ = some (.int .i64 op) ∧ W.cell? ⟨w2.heap.size, 0, none⟩ = some (.int .u8 y0) ∧ W.cell? ⟨w2.heap.size, 1, none⟩ = some (.int .u8 y1) ∧ W.cell? ⟨w2.heap.size, 2, none⟩ = some (.int .u8 y2) ∧ W.cell? ⟨w2.heap.size, 3, none⟩ = some (.int .u8 y3) ∧ W.cell? ⟨w2.heap.size, 4, none⟩ = some (.int .u8 y4) ∧ W.cell? ⟨w2.heap.size, 5, none⟩ = some (.int .u8 y5) ∧ W.cell? ⟨w2.heap.size, 6, none⟩ = some (.int .u8 z0) ∧ W.cell? ⟨w2.heap.size, 7, none⟩ = some (.int .u8 z1) ∧ W.cell? ⟨w2.heap.size, 8, none⟩ = some (.int .u8 z2) ∧ W.cell? ⟨w2.heap.size, 9, none⟩ = some (.int .u8 z3) ∧ W.cell? ⟨w3.heap.size, 0, none⟩ = some (.int .u8 p0) ∧ W.cell? ⟨w3.heap.size, 1, none⟩ = some (.int .u8 p1) ∧ W.cell? ⟨w3.heap.size, 2, none⟩ = some (.int .u8 p2) ∧ W.cell? ⟨w3.heap.size, 3, none⟩ = some (.int .u8 p3) ∧ W.cell? ⟨w3.heap.size, 4, none⟩ = some (.int .u8 p4) ∧ W.cell? ⟨w3.heap.size, 5, none⟩ = some (.int .u8 p5) ∧ W.cell? ⟨w3.heap.size, 6, none⟩ = some (.int .u8 q0) ∧ W.cell? ⟨w3.heap.size, 7, none⟩ = some (.int .u8 q1) ∧ W.cell? ⟨w3.heap.size, 8, none⟩ = some (.int .u8 q2) ∧ W.cell? ⟨w3.heap.size, 9, none⟩ = some (.int .u8 q3) ∧ Hid (Bs bl W) from fun W h => by
    have h' := h
    rw [hbl] at h
    have ha := h.out _ (List.Mem.head _)
    have hb := h.out _ (List.Mem.tail _ (List.Mem.head _))
    have hc := h.out _ (List.Mem.tail _ (List.Mem.tail _ (List.Mem.head _)))
    exact ⟨ha.cell 0, hb.cell 0, hb.cell 1, hb.cell 2, hb.cell 3, hb.cell 4, hb.cell 5, hb.cell 6, hb.cell 7, hb.cell 8, hb.cell 9, hc.cell 0, hc.cell 1, hc.cell 2, hc.cell 3, hc.cell 4, hc.cell 5, hc.cell 6, hc.cell 7, hc.cell 8, hc.cell 9, h'⟩)
  clear X3 Y3 Z3
  clear hbl
  go_wp2_with fail
  clear hW3
  go_region_held3 (fun W => W.cell? ⟨w.heap.size, 0, none⟩ = some (.int .i64 op) ∧ W.cell? ⟨w2.heap.size, 0, none⟩ = some (.int .u8 y0) ∧ W.cell? ⟨w2.heap.size, 1, none⟩ = some (.int .u8 y1) ∧ W.cell? ⟨w2.heap.size, 2, none⟩ = some (.int .u8 y2) ∧ W.cell? ⟨w2.heap.size, 3, none⟩ = some (.int .u8 y3) ∧ W.cell? ⟨w2.heap.size, 4, none⟩ = some (.int .u8 y4) ∧ W.cell? ⟨w2.heap.size, 5, none⟩ = some (.int .u8 y5) ∧ W.cell? ⟨w2.heap.size, 6, none⟩ = some (.int .u8 z0) ∧ W.cell? ⟨w2.heap.size, 7, none⟩ = some (.int .u8 z1) ∧ W.cell? ⟨w2.heap.size, 8, none⟩ = some (.int .u8 z2) ∧ W.cell? ⟨w2.heap.size, 9, none⟩ = some (.int .u8 z3) ∧ W.cell? ⟨w3.heap.size, 0, none⟩ = some (.int .u8 p0) ∧ W.cell? ⟨w3.heap.size, 1, none⟩ = some (.int .u8 p1) ∧ W.cell? ⟨w3.heap.size, 2, none⟩ = some (.int .u8 p2) ∧ W.cell? ⟨w3.heap.size, 3, none⟩ = some (.int .u8 p3) ∧ W.cell? ⟨w3.heap.size, 4, none⟩ = some (.int .u8 p4) ∧ W.cell? ⟨w3.heap.size, 5, none⟩ = some (.int .u8 p5) ∧ W.cell? ⟨w3.heap.size, 6, none⟩ = some (.int .u8 q0) ∧ W.cell? ⟨w3.heap.size, 7, none⟩ = some (.int .u8 q1) ∧ W.cell? ⟨w3.heap.size, 8, none⟩ = some (.int .u8 q2) ∧ W.cell? ⟨w3.heap.size, 9, none⟩ = some (.int .u8 q3) ∧ Hid (Bs bl W))
    (first
      | (go_split_ands; refine SS.out _ ?_; assumption)
      | (go_split_ands; refine SS.out _ (bsDrew ?_); assumption)
      | (go_split_ands; refine SS.out _ (bsCall hb ?_); assumption)
      | (go_split_ands; refine SS.out _ (bsAlloc ?_); assumption)
      | (go_split_ands; refine SS.out _ (bsSet NE.out (bsSet NE.out ?_)); assumption))
    (first
      | (have q := M2; clear q; go_at_call 45; refine (concat3 _ _ _ _ _ _ _ _ _ _ _ _ _ _ _ (Box.new _ _ _) (OH6.out.rd.alloc _) (OA6.out.rd.alloc _) (OB6.out.rd.alloc _) (by omega)).mono ?_; rintro e w7 ⟨a7, l7, k7, rfl, o7, hb⟩; have R7 := (R6.out.alloc _).below hb (R6.out.alloc _).lt; obtain ⟨r0, r1, r2⟩ := R7.two; have f0 := R7.frozen 0; have f1 := R7.frozen 1)
      | (have q := M1; clear q; go_at_call 59; refine (KB.out _).mono ?_; rintro e w6 ⟨aB, lB, kB, rfl, oB, hb⟩; obtain rfl : 10 = lB := (EB.out.symm.trans oB.length); have OB6 := Lib.hid oB; have OH6 := Lib.hid (OH5.out.below hb); have OA6 := Lib.hid (OA5.out.below hb); have R6 := Lib.hid (R5.out.below hb R5.out.lt); have B6 := Lib.hid (B5.out.trans (hb.mono B5.out.size)); have M2 := Lib.hid trivial)
      | (have q := M0; clear q; go_at_call 59; refine (KA.out _).mono ?_; rintro e w5 ⟨aA, lA, kA, rfl, oA, hb⟩; obtain rfl : 10 = lA := (EA.out.symm.trans oA.length); have OA5 := Lib.hid oA; have OH5 := Lib.hid (OH4.out.below hb); have R5 := Lib.hid (R4.out.below hb R4.out.lt); have B5 := Lib.hid (B4.out.trans (hb.mono B4.out.size)); have M1 := Lib.hid trivial)
      | (go_at_call 58; refine (KH.out _).mono ?_; rintro e w4 ⟨aH, lH, kH, rfl, oH, hb⟩; obtain rfl : 8 = lH := (EH.out.symm.trans oH.length); have OH4 := Lib.hid oH; have R4 := Lib.hid ((show Box W3.drew _ _ _ from R3.out).below hb R3.out.lt); have B4 := Lib.hid (B3.out.drew.trans (hb.mono B3.out.drew.size)); have M0 := Lib.hid trivial))
  have hs6 := B6.out.size
  have hr6 := R6.out.lt
  have B7 := Lib.hid ((B6.out.alloc hs6 (.cells #[.slice aH 8 kH, .slice aA 10 kA, .slice aB 10 kB] 22)).trans (hb.mono (by simp; omega)))
  have hn : Hid (∀ x, a7 = some x → ¬ x.block = w.heap.size + 1) := fun x hx e => by
    have := (o7.lt x hx).1
    simp at this
    omega
  have O7 : Hid (Own w7 w.heap.size a7 l7 k7 L) := by rw [HL.out]; exact o7.rebase (by simp; omega)
  clear o7 hb oB oA oH OH4 OH5 OH6 OA5 OA6 OB6 R4 R5 R6 B4 B5 B6 R7 hs6 hr6 B3 R3 T3 SS
  go_wp2
  refine bodyPost_ret (v := .agg #[.int .i64 0, .slice a7 l7 k7]) (by simp [results, Try.results33, go_sem, r1, r2]) rfl ⟨_, _, _, rfl, ?_, (B7.out.setCell (by simp) _).setCell (by simp) _⟩
  exact (O7.out.setOther _ _ hn.out).setOther _ _ hn.out

set_option maxHeartbeats 1000000 in
theorem implPackArp (op fm fi tm ti : Int) (w : World) :
    Calls Try.prog 33 #[.agg #[.int .i64 op, .int .i64 fm, .int .i64 fi, .int .i64 tm, .int .i64 ti]] w (Packed w (arpC op fm fi tm ti) (arpP op fm fi tm ti)) := by
  cases hk : arpB op fm fi tm ti with
  | true =>
    have hc : arpC op fm fi tm ti = 0 := by unfold arpC; rw [if_pos hk]
    have hp : arpP op fm fi tm ti = arpL op fm fi tm ti := by unfold arpP; rw [if_pos hk]
    rw [hc, hp]
    exact implPackArp_ok op fm fi tm ti w hk
  | false =>
    have S := Lib.hid (fun W => implArpFault op fm fi tm ti W)
    have B0 := Lib.hid (((Below.refl w.heap.size w).alloc (Nat.le_refl _) (.cells #[.int .i64 op, .int .i64 fm, .int .i64 fi, .int .i64 tm, .int .i64 ti] 49)).alloc (by simp) (.cells #[.int .i64 0, .slice none 0 0] 32))
    have R0 := Lib.hid (Box.new (w.alloc (.cells #[.int .i64 op, .int .i64 fm, .int .i64 fi, .int .i64 tm, .int .i64 ti] 49)) 32 #[.int .i64 0, .slice none 0 0])
    have hc : arpC op fm fi tm ti = 3 := by unfold arpC; rw [if_neg (by rw [hk]; simp)]
    have hp : arpP op fm fi tm ti = [] := by unfold arpP; rw [if_neg (by rw [hk]; simp)]
    rw [hc] at S ⊢
    rw [hp]
    clear hk hc hp
    go_enter Try.func33, Try.ntmps33
    go_wp2_with fail
    refine (S.out _).mono ?_
    rintro e w1 ⟨rfl, b1⟩
    have R1 := R0.out.below b1 R0.out.lt
    simp only [World.size_alloc] at R1
    obtain ⟨z2, r20, r21⟩ := R1.two
    have f0 := R1.frozen 0
    have f1 := R1.frozen 1
    have B1 := Lib.hid (B0.out.trans (b1.mono B0.out.size))
    clear b1 R0 B0 R1
    go_wp2
    exact bodyPost_ret (v := .agg #[.int .i64 3, .slice none 0 0]) (by simp [results, Try.results33, go_sem, r20, r21]) rfl ⟨none, 0, 0, rfl, Own.nil _ _, (B1.out.setCell (by simp) _).setCell (by simp) _⟩

theorem packArp_law (op fm fi tm ti : Int) (w : World) :
    Calls Try.prog 7 #[.agg #[.int .i64 op, .int .i64 fm, .int .i64 fi, .int .i64 tm, .int .i64 ti]] w fun e w' => e = .returned (.bool true) ∧ Below w.heap.size w w' :=
  exactPackArp op fm fi tm ti w (fun W => implPackArp op fm fi tm ti W)
end Go.Proofs.Ytkneicepflkfhaa
