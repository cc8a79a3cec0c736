/-
  Contracts of the program's parties of a question or an answer of addresses, and of the head of one.
-/
import Derived.Test.YtkneicepflkfhaaArrR
namespace Go.Proofs.Ytkneicepflkfhaa
open Go.ChangeShapes Go.WideShapes Go.ChangeAt Go.RowKit

set_option maxHeartbeats 1000000 in
theorem partyOf_any (m i y0 y1 y2 y3 y4 y5 z0 z1 z2 z3 : Int) (w : World) (hm : 0 ≤ m ∧ m < 281474976710656) (hi : 0 ≤ i ∧ i < 4294967296) (hy : be m 6 = [y0, y1, y2, y3, y4, y5]) (hz : be i 4 = [z0, z1, z2, z3]) :
    Calls Try.prog 57 #[.int .i64 m, .int .i64 i] w fun e w' => e = .returned (.agg #[.int .u8 y0, .int .u8 y1, .int .u8 y2, .int .u8 y3, .int .u8 y4, .int .u8 y5, .int .u8 z0, .int .u8 z1, .int .u8 z2, .int .u8 z3]) ∧ Below w.heap.size w w' := by
  have K0 := Lib.hid (fun W => macOf_any m y0 y1 y2 y3 y4 y5 W hm hy)
  have KP := Lib.hid (show ∀ W, Calls Try.prog 64 #[.int .i64 i, .int .i64 4] W (Packed W 0 [z0, z1, z2, z3]) from fun W => by rw [← hz]; exact implPack_ok i 4 W hi.1 (by omega) (by simp only [Int.reducePow]; omega))
  have hfb := fld_br
  have R0 := Lib.hid (Box.new w 79 #[.int .u8 0, .int .u8 0, .int .u8 0, .int .u8 0, .int .u8 0, .int .u8 0, .int .u8 0, .int .u8 0, .int .u8 0, .int .u8 0])
  have B0 := Lib.hid ((Below.refl w.heap.size w).alloc (Nat.le_refl _) (.cells #[.int .u8 0, .int .u8 0, .int .u8 0, .int .u8 0, .int .u8 0, .int .u8 0, .int .u8 0, .int .u8 0, .int .u8 0, .int .u8 0] 79))
  clear hm hi hy hz
  go_enter Try.func57, Try.ntmps57
  go_wp2_with fail
  refine (K0.out _).mono ?_
  rintro e w1 ⟨rfl, b1⟩
  have R1 := Lib.hid ((R0.out.below b1 R0.out.lt).alloc (.cells #[.int .u8 y0, .int .u8 y1, .int .u8 y2, .int .u8 y3, .int .u8 y4, .int .u8 y5, .int .u8 0, .int .u8 0, .int .u8 0, .int .u8 0] 79))
  have B1' := B0.out.trans (b1.mono B0.out.size)
  have B1 := Lib.hid (B1'.alloc B1'.size (.cells #[.int .u8 y0, .int .u8 y1, .int .u8 y2, .int .u8 y3, .int .u8 y4, .int .u8 y5, .int .u8 0, .int .u8 0, .int .u8 0, .int .u8 0] 79))
  have X1 := Lib.hid (Box.new w1 79 #[.int .u8 y0, .int .u8 y1, .int .u8 y2, .int .u8 y3, .int .u8 y4, .int .u8 y5, .int .u8 0, .int .u8 0, .int .u8 0, .int .u8 0])
  have BB := Lib.hid (show w.heap.size < w1.heap.size from (R0.out.below b1 R0.out.lt).lt)
  clear b1 R0 B0 B1'
  go_wp2_with fail
  generalize w1.alloc (.cells #[.int .u8 y0, .int .u8 y1, .int .u8 y2, .int .u8 y3, .int .u8 y4, .int .u8 y5, .int .u8 0, .int .u8 0, .int .u8 0, .int .u8 0] 79) = W1 at *
  go_region_law (first
    | (have q := X2; clear q; refine copyBox_step _ rfl (.tmp 10) (.tmp 13) rfl w1.heap.size 6 4 4 79 _ X2.out rfl (by simp) _ _ _ _ rfl r2.out (by omega) [z0, z1, z2, z3] rfl ?_; intro w3 x3 g3)
    | (go_simp; go_at_call 64; refine (KP.out _).mono ?_; rintro e w2 ⟨a2, l2, c2, rfl, o2, b2⟩; obtain rfl : 4 = l2 := o2.length; have r2 := Lib.hid o2.rd; have X2 := Lib.hid ((show Box W1.drew _ _ _ from X1.out).below b2 X1.out.lt); have R2 := Lib.hid ((show Box W1.drew _ _ _ from R1.out).below b2 R1.out.lt); have B2 := Lib.hid (B1.out.drew.trans (b2.mono B1.out.size))))
  have X3 : Hid (Box w3 w1.heap.size 79 #[.int .u8 y0, .int .u8 y1, .int .u8 y2, .int .u8 y3, .int .u8 y4, .int .u8 y5, .int .u8 z0, .int .u8 z1, .int .u8 z2, .int .u8 z3]) := x3
  have R3 := Lib.hid (R2.out.grown g3 (by have := BB.out; simp only [ne_eq, Option.some.injEq]; omega))
  have B3 := Lib.hid (B2.out.grown g3 B2.out.size (fun k e => by have := BB.out; cases e; omega))
  clear x3 g3 X2 R2 B2 r2 o2 b2 X1 R1 B1
  go_wp2_with (first
    | ((with_reducible change wpList _ _ _ (Oper.mk (some 15) _ _ _ _ _ :: _) _ _); refine loadBox_list _ rfl 79 (.tmp 5) rfl w1.heap.size 79 _ X3.out rfl _ rfl Try.underlying79 (by kernel_rfl) ?_; simp only [Act.put, List.setIfInBounds_toArray, List.set_cons_zero, List.set_cons_succ])
    | ((with_reducible change wpList _ _ _ (Oper.mk none (Op.store _ _ _) _ _ _ _ :: _) _ _); refine storeBox_list _ rfl 79 (.tmp 4) (.tmp 15) rfl w.heap.size 79 _ #[.int .u8 y0, .int .u8 y1, .int .u8 y2, .int .u8 y3, .int .u8 y4, .int .u8 y5, .int .u8 z0, .int .u8 z1, .int .u8 z2, .int .u8 z3] R3.out (by exact rfl) (by exact rfl) (by kernel_rfl) (by exact rfl) (by simp [Value.oneCell']) ?_; intro w4 x4 g4; have R4 := Lib.hid x4; have B4 := Lib.hid (B3.out.grown g4 B3.out.size (fun k e => by cases e; exact Nat.le_refl _)); clear x4 g4))
  go_wp2
  exact bodyPost_ret (results_cell_row Try.results57 _ _ _ _ _ _ _ rfl R4.out Try.underlying79 rfl (by kernel_rfl)) rfl ⟨rfl, B4.out⟩

set_option maxHeartbeats 1000000 in
theorem ptyPack_any (y0 y1 y2 y3 y4 y5 z0 z1 z2 z3 : Int) (w : World) (h8 : B8 [y0, y1, y2, y3, y4, y5]) (g8 : B8 [z0, z1, z2, z3]) :
    Calls Try.prog 59 #[.agg #[.int .u8 y0, .int .u8 y1, .int .u8 y2, .int .u8 y3, .int .u8 y4, .int .u8 y5, .int .u8 z0, .int .u8 z1, .int .u8 z2, .int .u8 z3]] w (FreshA w ([y0, y1, y2, y3, y4, y5] ++ [z0, z1, z2, z3])) := by
  obtain ⟨L, hL⟩ : ∃ L, L = [y0, y1, y2, y3, y4, y5] ++ [z0, z1, z2, z3] := ⟨_, rfl⟩
  have HL := Lib.hid hL
  rw [← hL]
  clear hL
  have X0 := Lib.hid (Box.new w 79 #[.int .u8 y0, .int .u8 y1, .int .u8 y2, .int .u8 y3, .int .u8 y4, .int .u8 y5, .int .u8 z0, .int .u8 z1, .int .u8 z2, .int .u8 z3])
  have B0 := Lib.hid ((Below.refl w.heap.size w).alloc (Nat.le_refl _) (.cells #[.int .u8 y0, .int .u8 y1, .int .u8 y2, .int .u8 y3, .int .u8 y4, .int .u8 y5, .int .u8 z0, .int .u8 z1, .int .u8 z2, .int .u8 z3] 79))
  have RY := Lib.hid (fun W (hW : Box W w.heap.size 79 #[.int .u8 y0, .int .u8 y1, .int .u8 y2, .int .u8 y3, .int .u8 y4, .int .u8 y5, .int .u8 z0, .int .u8 z1, .int .u8 z2, .int .u8 z3]) => Rd.of_box (off := 0) (len := 6) hW rfl (by unfold maxLen; omega) h8 (fun i hi => by
    obtain rfl | rfl | rfl | rfl | rfl | rfl : i = 0 ∨ i = 1 ∨ i = 2 ∨ i = 3 ∨ i = 4 ∨ i = 5 := by omega
    all_goals rfl))
  have RZ := Lib.hid (fun W (hW : Box W w.heap.size 79 #[.int .u8 y0, .int .u8 y1, .int .u8 y2, .int .u8 y3, .int .u8 y4, .int .u8 y5, .int .u8 z0, .int .u8 z1, .int .u8 z2, .int .u8 z3]) => Rd.of_box (off := 6) (len := 4) hW rfl (by unfold maxLen; omega) g8 (fun i hi => by
    obtain rfl | rfl | rfl | rfl : i = 0 ∨ i = 1 ∨ i = 2 ∨ i = 3 := by omega
    all_goals rfl))
  clear h8 g8
  go_enter Try.func59, Try.ntmps59
  go_wp2_with fail
  generalize w.alloc (.cells #[.int .u8 y0, .int .u8 y1, .int .u8 y2, .int .u8 y3, .int .u8 y4, .int .u8 y5, .int .u8 z0, .int .u8 z1, .int .u8 z2, .int .u8 z3] 79) = W0 at *
  have X1 : Hid (Box W0.drew w.heap.size 79 #[.int .u8 y0, .int .u8 y1, .int .u8 y2, .int .u8 y3, .int .u8 y4, .int .u8 y5, .int .u8 z0, .int .u8 z1, .int .u8 z2, .int .u8 z3]) := X0.out
  go_region_law (first
    | (go_simp; go_at_call 45; refine (concat2 _ _ _ _ _ _ _ _ _ _ _ (Box.new _ _ _) ((RY.out _ X1.out).alloc _) ((RZ.out _ X1.out).alloc _) (by omega)).mono ?_; rintro e w2 ⟨a2, l2, c2, rfl, o2, b2⟩))
  have B2 := Lib.hid ((B0.out.drew.alloc B0.out.size (.cells #[.slice (some ⟨w.heap.size, 0, none⟩) 6 6, .slice (some ⟨w.heap.size, 6, none⟩) 4 4] 22)).trans (b2.mono (by have := B0.out.size; simp; omega)))
  have O2 := Lib.hid (o2.rebase (show w.heap.size ≤ _ by have := B0.out.size; simp; omega))
  clear o2 b2 X1
  go_wp2
  go_ret
  exact ⟨a2, l2, c2, rfl, by rw [HL.out]; exact O2.out, B2.out⟩

theorem own_lit2 (w : World) (base : Nat) (x y : Int) (hx : 0 ≤ x ∧ x ≤ 255) (hy : 0 ≤ y ∧ y ≤ 255) (hb : base ≤ w.heap.size) : Own (w.alloc (.cells #[.int .u8 x, .int .u8 y] 5)) base (some ⟨w.heap.size, 0, none⟩) 2 2 [x, y] :=
  ⟨World.ownsRow_lit w #[.int .u8 x, .int .u8 y] 2 hb (by unfold maxLen; omega) rfl, by intro n hn; simp at hn; omega⟩

set_option maxHeartbeats 1000000 in
theorem arpHead_any (op : Int) (w : World) (h : 0 ≤ op ∧ op < 65536) :
    Calls Try.prog 58 #[.int .i64 op] w (FreshA w ([0, 1, 8, 0, 6, 4] ++ be op 2)) := by
  have K1 := Lib.hid (show ∀ W, Calls Try.prog 64 #[.int .i64 1, .int .i64 2] W (Packed W 0 (be 1 2)) from fun W => implPack_ok 1 2 W (by omega) (by omega) (by simp only [Int.reducePow]; omega))
  have K2 := Lib.hid (show ∀ W, Calls Try.prog 64 #[.int .i64 2048, .int .i64 2] W (Packed W 0 (be 2048 2)) from fun W => implPack_ok 2048 2 W (by omega) (by omega) (by simp only [Int.reducePow]; omega))
  have K3 := Lib.hid (show ∀ W, Calls Try.prog 64 #[.int .i64 op, .int .i64 2] W (Packed W 0 (be op 2)) from fun W => implPack_ok op 2 W h.1 (by omega) (by simp only [Int.reducePow]; omega))
  have HL : Hid ([0, 1, 8, 0, 6, 4] ++ be op 2 = be 1 2 ++ (be 2048 2 ++ ([6, 4] ++ be op 2))) := by simp [Hid, be]
  rw [HL.out]
  have hfb := fld_br
  have P0 := Lib.hid (own_lit2 w w.heap.size 6 4 (by omega) (by omega) (Nat.le_refl _))
  have B0 := Lib.hid ((Below.refl w.heap.size w).alloc (Nat.le_refl _) (.cells #[.int .u8 6, .int .u8 4] 5))
  have e1 := Lib.hid (be_len 2 1)
  have e2 := Lib.hid (be_len 2 2048)
  have e3 := Lib.hid (be_len 2 op)
  clear h HL
  generalize be 1 2 = q1 at *
  generalize be 2048 2 = q2 at *
  generalize be op 2 = q3 at *
  generalize hq : ([6, 4] : List Int) = q0 at *
  go_enter Try.func58, Try.ntmps58
  go_wp2_with fail
  refine (K1.out _).mono ?_
  rintro e w1 ⟨a1, l1, c1, rfl, o1, b1⟩
  obtain rfl : 2 = l1 := e1.out.symm.trans o1.length
  have P1 := Lib.hid (P0.out.below b1)
  have O1 := Lib.hid o1
  have B1 := Lib.hid (B0.out.trans (b1.mono B0.out.size))
  clear o1 b1 P0 B0
  go_wp2_with fail
  refine (K2.out _).mono ?_
  rintro e w2 ⟨a2, l2, c2, rfl, o2, b2⟩
  obtain rfl : 2 = l2 := e2.out.symm.trans o2.length
  have P2 := Lib.hid (P1.out.below b2)
  have O12 := Lib.hid (O1.out.below b2)
  have O2 := Lib.hid o2
  have B2 := Lib.hid (B1.out.trans (b2.mono B1.out.size))
  clear o2 b2 P1 B1 O1
  go_wp2_with fail
  refine (K3.out _).mono ?_
  rintro e w3 ⟨a3, l3, c3, rfl, o3, b3⟩
  obtain rfl : 2 = l3 := e3.out.symm.trans o3.length
  have P3 := Lib.hid (P2.out.below b3)
  have O13 := Lib.hid (O12.out.below b3)
  have O23 := Lib.hid (O2.out.below b3)
  have O3 := Lib.hid o3
  have B3 := Lib.hid (B2.out.trans (b3.mono B2.out.size))
  clear o3 b3 P2 B2 O12 O2
  go_wp2_with fail
  refine (concat4 _ _ _ _ _ _ _ _ _ _ _ _ _ _ _ _ _ _ _ (Box.new _ _ _) (O13.out.rd.alloc _) (O23.out.rd.alloc _) (P3.out.rd.alloc _) (O3.out.rd.alloc _) (by omega)).mono ?_
  rintro e w4 ⟨a4, l4, c4, rfl, o4, b4⟩
  have B4 := Lib.hid ((B3.out.alloc B3.out.size _).trans (b4.mono (by have := B3.out.size; simp; omega)))
  have O4 := Lib.hid (o4.rebase (show w.heap.size ≤ _ by have := B3.out.size; simp; omega))
  clear o4 b4 P3 O13 O23 O3 B3
  go_wp2
  go_ret
  exact ⟨a4, l4, c4, rfl, O4.out, B4.out⟩
end Go.Proofs.Ytkneicepflkfhaa
