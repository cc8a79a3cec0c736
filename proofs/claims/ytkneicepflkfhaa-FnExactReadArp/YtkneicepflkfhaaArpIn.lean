/-
  The program's reading of a question or an answer of addresses: the parties, and the whole.
-/
import Derived.Test.YtkneicepflkfhaaImRdF
namespace Go.Proofs.Ytkneicepflkfhaa
open Go.ChangeShapes Go.WideShapes Go.ChangeAt Go.RowKit

theorem number4_any (y0 y1 y2 y3 : Int) (w : World) (h8 : B8 [y0, y1, y2, y3]) :
    Calls Try.prog 68 #[.agg #[.int .u8 y0, .int .u8 y1, .int .u8 y2, .int .u8 y3]] w fun e w' => e = .returned (.int .i64 (rdTo [y0, y1, y2, y3] 0 4)) ∧ Below w.heap.size w w' := by
  have X0 := Box.new w 77 #[.int .u8 y0, .int .u8 y1, .int .u8 y2, .int .u8 y3]
  have R0 := Rd.of_box (off := 0) (len := 4) X0 rfl (by unfold maxLen; omega) h8 (fun i hi => by
    obtain rfl | rfl | rfl | rfl : i = 0 ∨ i = 1 ∨ i = 2 ∨ i = 3 := by omega
    all_goals rfl)
  have KR := Lib.hid (implRead_ok _ 4 4 0 4 _ _ R0 (by omega) (by omega) (by omega))
  have B0 := Lib.hid ((Below.refl w.heap.size w).alloc (Nat.le_refl _) (.cells #[.int .u8 y0, .int .u8 y1, .int .u8 y2, .int .u8 y3] 77))
  have hfi := fld_ir
  unfold ir at KR
  generalize rdTo [y0, y1, y2, y3] 0 4 = v at *
  clear X0 R0 h8
  go_enter Try.func68, Try.ntmps68
  go_wp2_with fail
  refine KR.out.mono ?_
  rintro e w1 ⟨rfl, b1⟩
  have B1 := Lib.hid (B0.out.trans (b1.mono B0.out.size))
  clear b1 B0
  go_wp2
  go_ret
  exact ⟨rfl, B1.out⟩

set_option maxHeartbeats 1000000 in
theorem readParty_any (ba off len cap : Nat) (zs : List Int) (y0 y1 y2 y3 y4 y5 z0 z1 z2 z3 : Int) (w : World) (hr : Rd w (some ⟨ba, off, none⟩) len cap zs) (hl : 10 ≤ len) (hy : zs.take 6 = [y0, y1, y2, y3, y4, y5]) (hz : (zs.drop 6).take 4 = [z0, z1, z2, z3]) :
    Calls Try.prog 67 #[.slice (some ⟨ba, off, none⟩) len cap] w fun e w' => e = .returned (.agg #[.int .u8 y0, .int .u8 y1, .int .u8 y2, .int .u8 y3, .int .u8 y4, .int .u8 y5, .int .u8 z0, .int .u8 z1, .int .u8 z2, .int .u8 z3]) ∧ Below w.heap.size w w' := by
  have hml := hr.le
  have hmx := hr.max
  have HR := Lib.hid hr
  have R1 := Lib.hid ((Box.new w 79 #[.int .u8 0, .int .u8 0, .int .u8 0, .int .u8 0, .int .u8 0, .int .u8 0, .int .u8 0, .int .u8 0, .int .u8 0, .int .u8 0]).alloc (.cells #[.int .u8 0, .int .u8 0, .int .u8 0, .int .u8 0, .int .u8 0, .int .u8 0, .int .u8 0, .int .u8 0, .int .u8 0, .int .u8 0] 79))
  have X1 := Lib.hid (Box.new (w.alloc (.cells #[.int .u8 0, .int .u8 0, .int .u8 0, .int .u8 0, .int .u8 0, .int .u8 0, .int .u8 0, .int .u8 0, .int .u8 0, .int .u8 0] 79)) 79 #[.int .u8 0, .int .u8 0, .int .u8 0, .int .u8 0, .int .u8 0, .int .u8 0, .int .u8 0, .int .u8 0, .int .u8 0, .int .u8 0])
  have B1 := Lib.hid (((Below.refl w.heap.size w).alloc (Nat.le_refl _) (.cells #[.int .u8 0, .int .u8 0, .int .u8 0, .int .u8 0, .int .u8 0, .int .u8 0, .int .u8 0, .int .u8 0, .int .u8 0, .int .u8 0] 79)).alloc (by simp) (.cells #[.int .u8 0, .int .u8 0, .int .u8 0, .int .u8 0, .int .u8 0, .int .u8 0, .int .u8 0, .int .u8 0, .int .u8 0, .int .u8 0] 79))
  simp only [World.size_alloc] at X1
  clear hr
  go_enter Try.func67, Try.ntmps67
  go_wp2_with ((with_reducible change wpList _ _ _ (Oper.mk (some 7) _ _ _ _ _ :: _) _ _); refine copyBox_list _ rfl (.tmp 5) (.tmp 6) rfl (w.heap.size + 1) 0 6 6 79 _ X1.out rfl (by simp) _ _ _ _ rfl (HR.out.below B1.out) (by omega) [y0, y1, y2, y3, y4, y5] hy ?_; intro w2 x2 g2)
  have X2 : Hid (Box w2 (w.heap.size + 1) 79 #[.int .u8 y0, .int .u8 y1, .int .u8 y2, .int .u8 y3, .int .u8 y4, .int .u8 y5, .int .u8 0, .int .u8 0, .int .u8 0, .int .u8 0]) := x2
  have R2 := Lib.hid (R1.out.grown g2 (by simp))
  have B2 := Lib.hid (B1.out.grown g2 B1.out.size (fun k e => by cases e; omega))
  have T2 := Lib.hid (HR.out.below B2.out)
  clear x2 g2 X1 R1 B1
  have i1 : (6 : Int) ≤ len := by omega
  have hcap : ¬ cap = 6 := by omega
  go_region_law (first
    | (refine copyBox_step _ rfl (.tmp 9) (.tmp 11) rfl (w.heap.size + 1) 6 4 4 79 _ (show Box w2.drew _ _ _ from X2.out) rfl (by simp) _ _ _ _ rfl (T2.out.drew.from 6 _ _ _ (by omega) rfl rfl rfl) (by omega) [z0, z1, z2, z3] hz ?_; intro w3 x3 g3))
  have X3 : Hid (Box w3 (w.heap.size + 1) 79 #[.int .u8 y0, .int .u8 y1, .int .u8 y2, .int .u8 y3, .int .u8 y4, .int .u8 y5, .int .u8 z0, .int .u8 z1, .int .u8 z2, .int .u8 z3]) := x3
  have R3 := Lib.hid ((show Box w2.drew _ _ _ from R2.out).grown g3 (by simp))
  have B3 := Lib.hid (B2.out.drew.grown g3 B2.out.drew.size (fun k e => by cases e; omega))
  clear x3 g3 X2 R2 B2 T2
  go_wp2_with (first
    | ((with_reducible change wpList _ _ _ (Oper.mk (some 13) _ _ _ _ _ :: _) _ _); refine loadBox_list _ rfl 79 (.tmp 3) rfl (w.heap.size + 1) 79 _ X3.out rfl _ rfl Try.underlying79 (by kernel_rfl) ?_; simp only [Act.put, List.setIfInBounds_toArray, List.set_cons_zero, List.set_cons_succ])
    | ((with_reducible change wpList _ _ _ (Oper.mk none (Op.store _ _ _) _ _ _ _ :: _) _ _); refine storeBox_list _ rfl 79 (.tmp 2) (.tmp 13) rfl w.heap.size 79 _ #[.int .u8 y0, .int .u8 y1, .int .u8 y2, .int .u8 y3, .int .u8 y4, .int .u8 y5, .int .u8 z0, .int .u8 z1, .int .u8 z2, .int .u8 z3] R3.out (by exact rfl) (by exact rfl) (by kernel_rfl) (by exact rfl) (by simp [Value.oneCell']) ?_; intro w4 x4 g4; have R4 := Lib.hid x4; have B4 := Lib.hid (B3.out.grown g4 B3.out.size (fun k e => by cases e; exact Nat.le_refl _)); clear x4 g4))
  go_wp2
  exact bodyPost_ret (results_cell_row Try.results67 _ _ _ _ _ _ _ rfl R4.out Try.underlying79 rfl (by kernel_rfl)) rfl ⟨rfl, B4.out⟩

theorem take4 (zs : List Int) (n : Nat) (h : n + 4 ≤ zs.length) : ∃ y0 y1 y2 y3, (zs.drop n).take 4 = [y0, y1, y2, y3] := by
  have hl : ((zs.drop n).take 4).length = 4 := by simp; omega
  match h' : (zs.drop n).take 4, hl with
  | [y0, y1, y2, y3], _ => exact ⟨y0, y1, y2, y3, rfl⟩

set_option maxHeartbeats 2000000 in
theorem arpIn_any (ba off len cap : Nat) (zs : List Int) (w : World) (hr : Rd w (some ⟨ba, off, none⟩) len cap zs) (hl : 28 ≤ len) :
    Calls Try.prog 60 #[.slice (some ⟨ba, off, none⟩) len cap] w fun e w' => e = .returned (.agg #[.int .i64 (rdTo zs 6 2), .int .i64 (rdTo zs 8 6), .int .i64 (rdTo zs 14 4), .int .i64 (rdTo zs 18 6), .int .i64 (rdTo zs 24 4)]) ∧ Below w.heap.size w w' := by
  have hml := hr.le
  have hmx := hr.max
  have hlen := hr.length
  have i1 : (8 : Int) ≤ len := by omega
  have i2 : (18 : Int) ≤ len := by omega
  have j1 : ¬ cap = 8 := by omega
  have j2 : ¬ cap = 18 := by omega
  obtain ⟨y0, y1, y2, y3, y4, y5, hy⟩ := take6 zs 8 (by omega)
  obtain ⟨z0, z1, z2, z3, hz⟩ := take4 zs 14 (by omega)
  obtain ⟨p0, p1, p2, p3, p4, p5, hp⟩ := take6 zs 18 (by omega)
  obtain ⟨q0, q1, q2, q3, hq⟩ := take4 zs 24 (by omega)
  have v1 : rdTo zs 8 6 = rdTo [y0, y1, y2, y3, y4, y5] 0 6 := by rw [← hy, rdTo_take _ 0 6 6 (by omega), rdTo_drop]
  have v2 : rdTo zs 14 4 = rdTo [z0, z1, z2, z3] 0 4 := by rw [← hz, rdTo_take _ 0 4 4 (by omega), rdTo_drop]
  have v3 : rdTo zs 18 6 = rdTo [p0, p1, p2, p3, p4, p5] 0 6 := by rw [← hp, rdTo_take _ 0 6 6 (by omega), rdTo_drop]
  have v4 : rdTo zs 24 4 = rdTo [q0, q1, q2, q3] 0 4 := by rw [← hq, rdTo_take _ 0 4 4 (by omega), rdTo_drop]
  have KP1 := Lib.hid (fun W (hW : Rd W (some ⟨ba, off + 8, none⟩) (len - 8) (cap - 8) (zs.drop 8)) => readParty_any ba (off + 8) (len - 8) (cap - 8) (zs.drop 8) y0 y1 y2 y3 y4 y5 z0 z1 z2 z3 W hW (by omega) hy (by rw [List.drop_drop]; exact hz))
  have KP2 := Lib.hid (fun W (hW : Rd W (some ⟨ba, off + 18, none⟩) (len - 18) (cap - 18) (zs.drop 18)) => readParty_any ba (off + 18) (len - 18) (cap - 18) (zs.drop 18) p0 p1 p2 p3 p4 p5 q0 q1 q2 q3 W hW (by omega) hp (by rw [List.drop_drop]; exact hq))
  have KR := Lib.hid (show ∀ W, Rd W (some ⟨ba, off, none⟩) len cap zs → Calls Try.prog 66 #[.slice (some ⟨ba, off, none⟩) len cap, .int .i64 6, .int .i64 2] W fun e w' => e = .returned (.agg #[.int .i64 0, .int .i64 (rdTo zs 6 2)]) ∧ Below W.heap.size W w' from fun W h => implRead_ok _ len cap 6 2 zs W h (by omega) (by omega) (by omega))
  have N1 := Lib.hid (fun W => number6_any y0 y1 y2 y3 y4 y5 W (by rw [← hy]; exact b8_take (b8_drop hr.b8 _) _))
  have N2 := Lib.hid (fun W => number4_any z0 z1 z2 z3 W (by rw [← hz]; exact b8_take (b8_drop hr.b8 _) _))
  have N3 := Lib.hid (fun W => number6_any p0 p1 p2 p3 p4 p5 W (by rw [← hp]; exact b8_take (b8_drop hr.b8 _) _))
  have N4 := Lib.hid (fun W => number4_any q0 q1 q2 q3 W (by rw [← hq]; exact b8_take (b8_drop hr.b8 _) _))
  rw [v1, v2, v3, v4]
  have HR := Lib.hid hr
  have hfi := fld_ir
  clear hy hz hp hq v1 v2 v3 v4 hr hlen
  generalize rdTo zs 6 2 = n0 at *
  generalize rdTo [y0, y1, y2, y3, y4, y5] 0 6 = n1 at *
  generalize rdTo [z0, z1, z2, z3] 0 4 = n2 at *
  generalize rdTo [p0, p1, p2, p3, p4, p5] 0 6 = n3 at *
  generalize rdTo [q0, q1, q2, q3] 0 4 = n4 at *
  have R0 := Lib.hid (Box.new w 49 #[.int .i64 0, .int .i64 0, .int .i64 0, .int .i64 0, .int .i64 0])
  have B0 := Lib.hid ((Below.refl w.heap.size w).alloc (Nat.le_refl _) (.cells #[.int .i64 0, .int .i64 0, .int .i64 0, .int .i64 0, .int .i64 0] 49))
  go_enter Try.func60, Try.ntmps60
  go_wp2_with fail
  refine (KP1.out _ ((HR.out.below B0.out).from 8 _ _ _ (by omega) rfl rfl rfl)).mono ?_
  rintro e w1 ⟨rfl, b1⟩
  have R1 := Lib.hid ((R0.out.below b1 R0.out.lt).alloc (.cells #[.int .u8 y0, .int .u8 y1, .int .u8 y2, .int .u8 y3, .int .u8 y4, .int .u8 y5, .int .u8 z0, .int .u8 z1, .int .u8 z2, .int .u8 z3] 79))
  have B1' := B0.out.trans (b1.mono B0.out.size)
  have B1 := Lib.hid (B1'.alloc B1'.size (.cells #[.int .u8 y0, .int .u8 y1, .int .u8 y2, .int .u8 y3, .int .u8 y4, .int .u8 y5, .int .u8 z0, .int .u8 z1, .int .u8 z2, .int .u8 z3] 79))
  have X1 := Lib.hid (Box.new w1 79 #[.int .u8 y0, .int .u8 y1, .int .u8 y2, .int .u8 y3, .int .u8 y4, .int .u8 y5, .int .u8 z0, .int .u8 z1, .int .u8 z2, .int .u8 z3])
  have L1 := Lib.hid (R0.out.below b1 R0.out.lt).lt
  clear b1 R0 B0 B1'
  generalize hW1 : w1.alloc (.cells #[.int .u8 y0, .int .u8 y1, .int .u8 y2, .int .u8 y3, .int .u8 y4, .int .u8 y5, .int .u8 z0, .int .u8 z1, .int .u8 z2, .int .u8 z3] 79) = W1 at *
  go_wp2_with fail
  clear hW1
  refine (KP2.out _ ((HR.out.below B1.out).from 18 _ _ _ (by omega) rfl rfl rfl)).mono ?_
  rintro e w2 ⟨rfl, b2⟩
  have R2 := Lib.hid ((R1.out.below b2 R1.out.lt).alloc (.cells #[.int .u8 p0, .int .u8 p1, .int .u8 p2, .int .u8 p3, .int .u8 p4, .int .u8 p5, .int .u8 q0, .int .u8 q1, .int .u8 q2, .int .u8 q3] 79))
  have B2' := B1.out.trans (b2.mono B1.out.size)
  have B2 := Lib.hid (B2'.alloc B2'.size (.cells #[.int .u8 p0, .int .u8 p1, .int .u8 p2, .int .u8 p3, .int .u8 p4, .int .u8 p5, .int .u8 q0, .int .u8 q1, .int .u8 q2, .int .u8 q3] 79))
  have X2 := Lib.hid ((X1.out.below b2 X1.out.lt).alloc (.cells #[.int .u8 p0, .int .u8 p1, .int .u8 p2, .int .u8 p3, .int .u8 p4, .int .u8 p5, .int .u8 q0, .int .u8 q1, .int .u8 q2, .int .u8 q3] 79))
  have Y2 := Lib.hid (Box.new w2 79 #[.int .u8 p0, .int .u8 p1, .int .u8 p2, .int .u8 p3, .int .u8 p4, .int .u8 p5, .int .u8 q0, .int .u8 q1, .int .u8 q2, .int .u8 q3])
  have L2 := Lib.hid (R1.out.below b2 R1.out.lt).lt
  clear b2 R1 B1 B2' X1
  generalize hW2 : w2.alloc (.cells #[.int .u8 p0, .int .u8 p1, .int .u8 p2, .int .u8 p3, .int .u8 p4, .int .u8 p5, .int .u8 q0, .int .u8 q1, .int .u8 q2, .int .u8 q3] 79) = W2 at *
  go_wp2_with fail
  clear hW2
  obtain ⟨bl, hbl⟩ : ∃ bl : List (Nat × TypeId × Array Value), bl = [(w1.heap.size, 79, #[.int .u8 y0, .int .u8 y1, .int .u8 y2, .int .u8 y3, .int .u8 y4, .int .u8 y5, .int .u8 z0, .int .u8 z1, .int .u8 z2, .int .u8 z3]), (w2.heap.size, 79, #[.int .u8 p0, .int .u8 p1, .int .u8 p2, .int .u8 p3, .int .u8 p4, .int .u8 p5, .int .u8 q0, .int .u8 q1, .int .u8 q2, .int .u8 q3])] := ⟨_, rfl⟩
  have T2 : Hid (Bs bl W2) := by
    rw [hbl]
    intro x hx
    simp only [List.mem_cons, List.not_mem_nil, or_false] at hx
    rcases hx with rfl | rfl
    · exact X2.out
    · exact Y2.out
  have NE : Hid (∀ x ∈ bl, x.1 ≠ w.heap.size) := by
    have := L1.out
    have := L2.out
    rw [hbl]
    intro x hx
    simp only [List.mem_cons, List.not_mem_nil, or_false] at hx
    rcases hx with rfl | rfl
    all_goals (dsimp only; omega)
  have SS := Lib.hid (show ∀ W, Hid (Bs bl W) → W.cell? ⟨w1.heap.size, 0, none⟩ = some (.int .u8 y0) ∧ W.cell? ⟨w1.heap.size, 1, none⟩ = some (.int .u8 y1) ∧ W.cell? ⟨w1.heap.size, 2, none⟩ = some (.int .u8 y2) ∧ W.cell? ⟨w1.heap.size, 3, none⟩ = some (.int .u8 y3) ∧ W.cell? ⟨w1.heap.size, 4, none⟩ = some (.int .u8 y4) ∧ W.cell? ⟨w1.heap.size, 5, none⟩ = some (.int .u8 y5) ∧ W.cell? ⟨w1.heap.size, 6, none⟩ = some (.int .u8 z0) ∧ W.cell? ⟨w1.heap.size, 7, none⟩ = some (.int .u8 z1) ∧ W.cell? ⟨w1.heap.size, 8, none⟩ = some (.int .u8 z2) ∧ W.cell? ⟨w1.heap.size, 9, none⟩ = some (.int .u8 z3) ∧ W.cell? ⟨w2.heap.size, 0, none⟩ = some (.int .u8 p0) ∧ W.cell? ⟨w2.heap.size, 1, none⟩ = some (.int .u8 p1) ∧ W.cell? ⟨w2.heap.size, 2, none⟩ = some (.int .u8 p2) ∧ W.cell? ⟨w2.heap.size, 3, none⟩ = some (.int .u8 p3) ∧ W.cell? ⟨w2.heap.size, 4, none⟩ = some (.int .u8 p4) ∧ W.cell? ⟨w2.heap.size, 5, none⟩ = some (.int .u8 p5) ∧ W.cell? ⟨w2.heap.size, 6, none⟩ = some (.int .u8 q0) ∧ W.cell? ⟨w2.heap.size, 7, none⟩ = some (.int .u8 q1) ∧ W.cell? ⟨w2.heap.size, 8, none⟩ = some (.int .u8 q2) ∧ W.cell? ⟨w2.heap.size, 9, none⟩ = some (.int .u8 q3) ∧ Hid (Bs bl W) from fun W h => by
    have h' := h
    rw [hbl] at h
    have ha := h.out _ (List.Mem.head _)
    have hb := h.out _ (List.Mem.tail _ (List.Mem.head _))
    exact ⟨ha.cell 0, ha.cell 1, ha.cell 2, ha.cell 3, ha.cell 4, ha.cell 5, ha.cell 6, ha.cell 7, ha.cell 8, ha.cell 9, hb.cell 0, hb.cell 1, hb.cell 2, hb.cell 3, hb.cell 4, hb.cell 5, hb.cell 6, hb.cell 7, hb.cell 8, hb.cell 9, h'⟩)
  have H2 := Lib.hid (HR.out.below B2.out)
  clear hbl X2 Y2 L1 L2 KP1 KP2
  go_region_held3 (fun W => W.cell? ⟨w1.heap.size, 0, none⟩ = some (.int .u8 y0) ∧ W.cell? ⟨w1.heap.size, 1, none⟩ = some (.int .u8 y1) ∧ W.cell? ⟨w1.heap.size, 2, none⟩ = some (.int .u8 y2) ∧ W.cell? ⟨w1.heap.size, 3, none⟩ = some (.int .u8 y3) ∧ W.cell? ⟨w1.heap.size, 4, none⟩ = some (.int .u8 y4) ∧ W.cell? ⟨w1.heap.size, 5, none⟩ = some (.int .u8 y5) ∧ W.cell? ⟨w1.heap.size, 6, none⟩ = some (.int .u8 z0) ∧ W.cell? ⟨w1.heap.size, 7, none⟩ = some (.int .u8 z1) ∧ W.cell? ⟨w1.heap.size, 8, none⟩ = some (.int .u8 z2) ∧ W.cell? ⟨w1.heap.size, 9, none⟩ = some (.int .u8 z3) ∧ W.cell? ⟨w2.heap.size, 0, none⟩ = some (.int .u8 p0) ∧ W.cell? ⟨w2.heap.size, 1, none⟩ = some (.int .u8 p1) ∧ W.cell? ⟨w2.heap.size, 2, none⟩ = some (.int .u8 p2) ∧ W.cell? ⟨w2.heap.size, 3, none⟩ = some (.int .u8 p3) ∧ W.cell? ⟨w2.heap.size, 4, none⟩ = some (.int .u8 p4) ∧ W.cell? ⟨w2.heap.size, 5, none⟩ = some (.int .u8 p5) ∧ W.cell? ⟨w2.heap.size, 6, none⟩ = some (.int .u8 q0) ∧ W.cell? ⟨w2.heap.size, 7, none⟩ = some (.int .u8 q1) ∧ W.cell? ⟨w2.heap.size, 8, none⟩ = some (.int .u8 q2) ∧ W.cell? ⟨w2.heap.size, 9, none⟩ = some (.int .u8 q3) ∧ Hid (Bs bl W))
    (first
      | (go_split_ands; refine SS.out _ ?_; (with_reducible assumption))
      | (go_split_ands; refine SS.out _ ?_; (with_reducible refine bsDrew ?_); (with_reducible assumption))
      | (go_split_ands; refine SS.out _ ?_; (with_reducible refine bsSet NE.out ?_); (with_reducible refine bsSet NE.out ?_); (with_reducible refine bsSet NE.out ?_); (with_reducible refine bsSet NE.out ?_); (with_reducible refine bsSet NE.out ?_); (with_reducible assumption))
      | (go_split_ands; refine SS.out _ ?_; (with_reducible refine bsAlloc ?_); (with_reducible assumption))
      | (go_split_ands; refine SS.out _ ?_; (with_reducible refine bsCall hb ?_); (with_reducible assumption)))
    (first
      | (have q := M3; clear q; go_at_call 68; refine (N4.out _).mono ?_; rintro e w7 ⟨rfl, hb⟩; have B7 := Lib.hid (B6.out.trans (hb.mono B6.out.size)); have R7 := R6.out.below hb R6.out.lt; obtain ⟨_, r0, r1, r2, r3, r4⟩ := R7.five; have f0 := R7.frozen 0; have f1 := R7.frozen 1; have f2 := R7.frozen 2; have f3 := R7.frozen 3; have f4 := R7.frozen 4)
      | (have q := M2; clear q; go_at_call 51; refine (N3.out _).mono ?_; rintro e w6 ⟨rfl, hb⟩; have R6 := Lib.hid (R5.out.below hb R5.out.lt); have B6 := Lib.hid (B5.out.trans (hb.mono B5.out.size)); have M3 := Lib.hid trivial)
      | (have q := M1; clear q; go_at_call 68; refine (N2.out _).mono ?_; rintro e w5 ⟨rfl, hb⟩; have R5 := Lib.hid (R4.out.below hb R4.out.lt); have B5 := Lib.hid (B4.out.trans (hb.mono B4.out.size)); have M2 := Lib.hid trivial)
      | (have q := M0; clear q; go_at_call 51; refine (N1.out _).mono ?_; rintro e w4 ⟨rfl, hb⟩; have R4 := Lib.hid (R3.out.below hb R3.out.lt); have B4 := Lib.hid (B3.out.trans (hb.mono B3.out.size)); have M1 := Lib.hid trivial)
      | (go_at_call 66; refine (KR.out _ H2.out.drew).mono ?_; rintro e w3 ⟨rfl, hb⟩; have R3 := Lib.hid ((show Box W2.drew _ _ _ from R2.out).below hb R2.out.lt); have B3 := Lib.hid (B2.out.drew.trans (hb.mono B2.out.drew.size)); have M0 := Lib.hid trivial))
  clear R2 R3 R4 R5 R6 R7 B2 B3 B4 B5 B6 SS T2 H2 hb
  go_wp2
  exact bodyPost_ret (v := .agg #[.int .i64 n0, .int .i64 n1, .int .i64 n2, .int .i64 n3, .int .i64 n4]) (by simp [results, Try.results60, go_sem, r0, r1, r2, r3, r4]) rfl ⟨rfl, ((((B7.out.setCell (Nat.le_refl _) _).setCell (Nat.le_refl _) _).setCell (Nat.le_refl _) _).setCell (Nat.le_refl _) _).setCell (Nat.le_refl _) _⟩
end Go.Proofs.Ytkneicepflkfhaa
