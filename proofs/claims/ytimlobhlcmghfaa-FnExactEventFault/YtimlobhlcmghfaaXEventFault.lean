/-
  The exact law of EventFault, out of the contracts of both sides.
-/
import Derived.Test.YtimlobhlcmghfaaKSEvent
namespace Go.Proofs.Ytimlobhlcmghfaa
open Go.ChangeShapes Go.WideShapes Go.ChangeAt Go.RowKit

set_option maxRecDepth 20000 in
set_option maxHeartbeats 8000000 in
theorem exactEventFault_of (p0 : EventR) (C : Int) (w : World) (h0 : EventR.ok w p0)
    (hS : (∀ (W : World) (q0 : EventR), EventR.ok W q0 → q0.val = p0.val → Calls Try.prog 64 #[.agg (EventR.cells q0).toArray] W fun e w' => e = .returned (.int .i64 C) ∧ Below W.heap.size W w'))
    (hI : (∀ (W : World) (q0 : EventR), EventR.ok W q0 → q0.val = p0.val → Calls Try.prog 66 #[.agg (EventR.cells q0).toArray] W fun e w' => e = .returned (.int .i64 C) ∧ Below W.heap.size W w')) :
    Calls Try.prog 9 #[.agg (EventR.cells p0).toArray] w fun e w' => e = .returned (.bool true) ∧ Below w.heap.size w w' := by
  have Z0 := Lib.hid (fun W (hW : Below w.heap.size w W) t ht => szEvent_any p0 t W (EventR.md.below h0 hW) ht)
  have T0 := Lib.hid (fun W (hW : Below w.heap.size w W) hl => toEvent_any p0 W (EventR.md.below h0 hW) hl)
  have KS := Lib.hid hS
  have KI := Lib.hid hI
  clear h0 hS hI
  obtain ⟨n0, hn0⟩ : ∃ n, n = p0.val.wt := ⟨_, rfl⟩
  have ZZ0 := Lib.hid (show ∀ W, Below w.heap.size w W → ∀ t : Nat, t ≤ 1048576 → Calls Try.prog 63 #[.agg (EventR.cells p0).toArray, .int .i64 t] W fun e w' => e = .returned (.int .i64 (szR n0 t)) ∧ Below W.heap.size W w' from fun W hW t ht => by rw [hn0]; exact Z0.out W hW t ht)
  have TT0 := Lib.hid (fun (h : n0 ≤ 1048576) W (hW : Below w.heap.size w W) => T0.out W hW (by rw [← hn0]; exact h))
  clear Z0 T0 hn0
  by_cases s0 : n0 ≤ 1048576
  case neg =>
    have c0 := Lib.hid (show ∀ W, Below w.heap.size w W → Calls Try.prog 63 #[.agg (EventR.cells p0).toArray, .int .i64 (1048576 : Nat)] W fun e w' => e = .returned (.int .i64 (-1)) ∧ Below W.heap.size W w' from fun W hW => by have q := ZZ0.out W hW (1048576) (by omega); rw [szR_f (by omega)] at q; exact q)
    clear KS KI ZZ0 TT0
    have B_0 := Lib.hid ((Below.refl w.heap.size w).alloc (Nat.le_refl _) (.cells #[.int .i64 p0.f0, .int .i64 p0.f1, .int .i64 p0.f2, .slice p0.f3.a p0.f3.l p0.f3.c] 82))
    have ax := (Box.new w 82 #[.int .i64 p0.f0, .int .i64 p0.f1, .int .i64 p0.f2, .slice p0.f3.a p0.f3.l p0.f3.c])
    have A0_0 := Lib.hid (show Box (w.alloc (.cells #[.int .i64 p0.f0, .int .i64 p0.f1, .int .i64 p0.f2, .slice p0.f3.a p0.f3.l p0.f3.c] 82)) (w.heap.size) 82 #[.int .i64 p0.f0, .int .i64 p0.f1, .int .i64 p0.f2, .slice p0.f3.a p0.f3.l p0.f3.c] from ax)
    clear ax
    go_enter Try.func9, Try.ntmps9
    go_wp2_with (first
        | ((with_reducible change wpList _ _ _ (Oper.mk (some _) (Op.load 82 _) _ _ _ _ :: _) _ _); refine getBox_list _ rfl 82 _ rfl (w.heap.size) 82 _ A0_0.out (by rfl) _ rfl Try.underlying82 (by kernel_rfl) ?_; simp only [Act.put, List.setIfInBounds_toArray, List.set_cons_zero, List.set_cons_succ]))
    refine (c0.out _ B_0.out).mono ?_
    rintro e w1 ⟨rfl, b1⟩
    have B_1 := Lib.hid (B_0.out.trans (b1.mono B_0.out.size))
    have A0_1 := Lib.hid (Box.below A0_0.out b1 A0_0.out.lt)
    clear B_0 A0_0
    clear b1
    go_wp2
    go_ret
    exact ⟨rfl, B_1.out⟩
  have c0 := Lib.hid (show ∀ W, Below w.heap.size w W → Calls Try.prog 63 #[.agg (EventR.cells p0).toArray, .int .i64 (1048576 : Nat)] W fun e w' => e = .returned (.int .i64 (1048576 - n0 : Nat)) ∧ Below W.heap.size W w' from fun W hW => by have q := ZZ0.out W hW (1048576) (by omega); rw [szR_t (by omega)] at q; exact q)
  have u0 : ¬ ((1048576 - n0 : Nat) : Int) < 0 := by omega
  have t0 := Lib.hid (TT0.out (by omega))
  clear ZZ0 TT0
  have B_0 := Lib.hid ((Below.refl w.heap.size w).alloc (Nat.le_refl _) (.cells #[.int .i64 p0.f0, .int .i64 p0.f1, .int .i64 p0.f2, .slice p0.f3.a p0.f3.l p0.f3.c] 82))
  have ax := (Box.new w 82 #[.int .i64 p0.f0, .int .i64 p0.f1, .int .i64 p0.f2, .slice p0.f3.a p0.f3.l p0.f3.c])
  have A0_0 := Lib.hid (show Box (w.alloc (.cells #[.int .i64 p0.f0, .int .i64 p0.f1, .int .i64 p0.f2, .slice p0.f3.a p0.f3.l p0.f3.c] 82)) (w.heap.size) 82 #[.int .i64 p0.f0, .int .i64 p0.f1, .int .i64 p0.f2, .slice p0.f3.a p0.f3.l p0.f3.c] from ax)
  clear ax
  go_enter Try.func9, Try.ntmps9
  go_wp2_with (first
      | ((with_reducible change wpList _ _ _ (Oper.mk (some _) (Op.load 82 _) _ _ _ _ :: _) _ _); refine getBox_list _ rfl 82 _ rfl (w.heap.size) 82 _ A0_0.out (by rfl) _ rfl Try.underlying82 (by kernel_rfl) ?_; simp only [Act.put, List.setIfInBounds_toArray, List.set_cons_zero, List.set_cons_succ]))
  refine (c0.out _ B_0.out).mono ?_
  rintro e w1 ⟨rfl, b1⟩
  have B_1 := Lib.hid (B_0.out.trans (b1.mono B_0.out.size))
  have A0_1 := Lib.hid (Box.below A0_0.out b1 A0_0.out.lt)
  clear B_0 A0_0
  clear b1
  clear c0
  go_wp2_with (first
      | ((with_reducible change wpList _ _ _ (Oper.mk (some _) (Op.load 82 _) _ _ _ _ :: _) _ _); refine getBox_list _ rfl 82 _ rfl (w.heap.size) 82 _ A0_1.out (by rfl) _ rfl Try.underlying82 (by kernel_rfl) ?_; simp only [Act.put, List.setIfInBounds_toArray, List.set_cons_zero, List.set_cons_succ]))
  refine (t0.out _ B_1.out).mono ?_
  rintro e w2 ⟨qs0, rfl, ox, vx, mx, b2⟩
  have Os0_2 := Lib.hid ox
  have Vs0 := Lib.hid vx
  clear ox vx mx
  have B_2 := Lib.hid (B_1.out.trans (b2.mono B_1.out.size))
  have A0_2 := Lib.hid (Box.below A0_1.out b2 A0_1.out.lt)
  clear B_1 A0_1
  clear b2
  go_wp2_with (first
      | ((with_reducible change wpList _ _ _ (Oper.mk (some _) (Op.load 82 _) _ _ _ _ :: _) _ _); refine getBox_list _ rfl 82 _ rfl (w.heap.size) 82 _ A0_2.out (by rfl) _ rfl Try.underlying82 (by kernel_rfl) ?_; simp only [Act.put, List.setIfInBounds_toArray, List.set_cons_zero, List.set_cons_succ]))
  refine (KS.out _ qs0 Os0_2.out Vs0.out).mono ?_
  rintro e w3 ⟨rfl, b3⟩
  have B_3 := Lib.hid (B_2.out.trans (b3.mono B_2.out.size))
  have A0_3 := Lib.hid (Box.below A0_2.out b3 A0_2.out.lt)
  have Os0_3 := Lib.hid (EventR.md.below Os0_2.out b3)
  clear B_2 A0_2 Os0_2
  clear b3
  clear Os0_3 Vs0
  go_wp2_with (first
      | ((with_reducible change wpList _ _ _ (Oper.mk (some _) (Op.load 82 _) _ _ _ _ :: _) _ _); refine getBox_list _ rfl 82 _ rfl (w.heap.size) 82 _ A0_3.out (by rfl) _ rfl Try.underlying82 (by kernel_rfl) ?_; simp only [Act.put, List.setIfInBounds_toArray, List.set_cons_zero, List.set_cons_succ]))
  refine (t0.out _ B_3.out).mono ?_
  rintro e w4 ⟨qx0, rfl, ox, vx, mx, b4⟩
  have Ox0_4 := Lib.hid ox
  have Vx0 := Lib.hid vx
  clear ox vx mx
  have B_4 := Lib.hid (B_3.out.trans (b4.mono B_3.out.size))
  have A0_4 := Lib.hid (Box.below A0_3.out b4 A0_3.out.lt)
  clear B_3 A0_3
  clear b4
  go_wp2_with (first
      | ((with_reducible change wpList _ _ _ (Oper.mk none (Op.store 85 _ _) _ _ _ _ :: _) _ _); refine setBox_list _ rfl 85 _ _ rfl (w4.heap.size) 85 _ #[.int .i64 qx0.f0, .int .i64 qx0.f1, .int .i64 qx0.f2, .slice qx0.f3.a qx0.f3.l qx0.f3.c] (Box.new w4 85 #[.int .i64 0, .int .i64 0, .int .i64 0, .slice none 0 0]) (by rfl) (by rfl) (by kernel_rfl) (by rfl) (by simp [Value.oneCell']) ?_; intro w5 xz gz; have bz := (((Below.refl w4.heap.size w4).alloc (Nat.le_refl _) (.cells #[.int .i64 0, .int .i64 0, .int .i64 0, .slice none 0 0] 85)).grown gz (by simp) (fun k e => by cases e; exact Nat.le_refl _)); have B_5 := Lib.hid (B_4.out.trans (bz.mono B_4.out.size)); have A0_5 := Lib.hid (Box.below A0_4.out bz A0_4.out.lt); have Ox0_5 := Lib.hid (EventR.md.below Ox0_4.out bz); clear B_4 A0_4 Ox0_4; have Xx0_5 := Lib.hid xz; clear bz gz xz)
      | ((with_reducible change wpList _ _ _ (Oper.mk (some _) (Op.load 82 _) _ _ _ _ :: _) _ _); refine getBox_list _ rfl 82 _ rfl (w.heap.size) 82 _ A0_5.out (by rfl) _ rfl Try.underlying82 (by kernel_rfl) ?_; simp only [Act.put, List.setIfInBounds_toArray, List.set_cons_zero, List.set_cons_succ])
      | ((with_reducible change wpList _ _ _ (Oper.mk (some _) (Op.load 85 _) _ _ _ _ :: _) _ _); refine getBox_list _ rfl 85 _ rfl (w4.heap.size) 85 _ Xx0_5.out (by rfl) _ rfl Try.underlying85 (by kernel_rfl) ?_; simp only [Act.put, List.setIfInBounds_toArray, List.set_cons_zero, List.set_cons_succ]))
  refine (KI.out _ qx0 Ox0_5.out Vx0.out).mono ?_
  rintro e w6 ⟨rfl, b6⟩
  have B_6 := Lib.hid (B_5.out.trans (b6.mono B_5.out.size))
  have A0_6 := Lib.hid (Box.below A0_5.out b6 A0_5.out.lt)
  have Ox0_6 := Lib.hid (EventR.md.below Ox0_5.out b6)
  have Xx0_6 := Lib.hid (Box.below Xx0_5.out b6 Xx0_5.out.lt)
  clear B_5 A0_5 Ox0_5 Xx0_5
  clear b6
  have hCC : (C != C) = false := by simp
  have y0 : w6.cell? ⟨w4.heap.size, 0, none⟩ = some (.int .i64 qx0.f0) := Xx0_6.out.cell 0
  have y1 : w6.cell? ⟨w4.heap.size, 1, none⟩ = some (.int .i64 qx0.f1) := Xx0_6.out.cell 1
  have y2 : w6.cell? ⟨w4.heap.size, 2, none⟩ = some (.int .i64 qx0.f2) := Xx0_6.out.cell 2
  have y3 : w6.cell? ⟨w4.heap.size, 3, none⟩ = some (.slice qx0.f3.a qx0.f3.l qx0.f3.c) := Xx0_6.out.cell 3
  have y4 : w6.cell? ⟨w.heap.size, 0, none⟩ = some (.int .i64 p0.f0) := A0_6.out.cell 0
  have y5 : w6.cell? ⟨w.heap.size, 1, none⟩ = some (.int .i64 p0.f1) := A0_6.out.cell 1
  have y6 : w6.cell? ⟨w.heap.size, 2, none⟩ = some (.int .i64 p0.f2) := A0_6.out.cell 2
  have y7 : w6.cell? ⟨w.heap.size, 3, none⟩ = some (.slice p0.f3.a p0.f3.l p0.f3.c) := A0_6.out.cell 3
  go_wp2_with fail
  go_region_held3 (fun W => W.cell? ⟨w4.heap.size, 0, none⟩ = some (.int .i64 qx0.f0) ∧ W.cell? ⟨w4.heap.size, 1, none⟩ = some (.int .i64 qx0.f1) ∧ W.cell? ⟨w4.heap.size, 2, none⟩ = some (.int .i64 qx0.f2) ∧ W.cell? ⟨w4.heap.size, 3, none⟩ = some (.slice qx0.f3.a qx0.f3.l qx0.f3.c) ∧ W.cell? ⟨w.heap.size, 0, none⟩ = some (.int .i64 p0.f0) ∧ W.cell? ⟨w.heap.size, 1, none⟩ = some (.int .i64 p0.f1) ∧ W.cell? ⟨w.heap.size, 2, none⟩ = some (.int .i64 p0.f2) ∧ W.cell? ⟨w.heap.size, 3, none⟩ = some (.slice p0.f3.a p0.f3.l p0.f3.c))
    (first | (go_split_ands; exact ⟨keepK hb (by assumption), keepK hb (by assumption), keepK hb (by assumption), keepK hb (by assumption), keepK hb (by assumption), keepK hb (by assumption), keepK hb (by assumption), keepK hb (by assumption)⟩) | go_keep)
    (first
      | (have z := M1; clear z; go_at_call 67; refine (eqEvent_t qx0 qy0 _ (EventR.md.below (EventR.md.drew Ox0_6.out) by1) oy0 (Vx0.out.trans vy0.symm)).mono ?_; rintro e wq0 ⟨rfl, by2⟩; have hb := by2)
      | (go_at_call 65; refine (t0.out _ B_6.out.drew).mono ?_; rintro e wy0 ⟨qy0, rfl, oy0, vy0, my0, by1⟩; have hb := by1; have M1 : Hid True := trivial))
  clear y0 y1 y2 y3 y4 y5 y6 y7
  have bz : Below w6.heap.size w6 wq0 := belowStep (belowStep (Below.refl w6.heap.size w6).drew by1) by2
  obtain ⟨w7, hw7⟩ : ∃ W, W = wq0 := ⟨_, rfl⟩
  rw [← hw7] at bz
  subst hw7
  have B_7 := Lib.hid (B_6.out.trans (bz.mono B_6.out.size))
  have A0_7 := Lib.hid (Box.below A0_6.out bz A0_6.out.lt)
  have Ox0_7 := Lib.hid (EventR.md.below Ox0_6.out bz)
  have Xx0_7 := Lib.hid (Box.below Xx0_6.out bz Xx0_6.out.lt)
  clear B_6 A0_6 Ox0_6 Xx0_6
  clear bz hb by1 by2 oy0 vy0 my0 M1
  go_wp2
  go_ret
  exact ⟨rfl, B_7.out⟩
end Go.Proofs.Ytimlobhlcmghfaa
