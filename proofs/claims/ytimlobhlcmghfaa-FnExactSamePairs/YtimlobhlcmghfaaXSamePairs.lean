/-
  The exact law of SamePairs, out of the contracts of both sides.
-/
import Derived.Test.YtimlobhlcmghfaaKSPair
namespace Go.Proofs.Ytimlobhlcmghfaa
open Go.ChangeShapes Go.WideShapes Go.ChangeAt Go.RowKit

set_option maxRecDepth 20000 in
set_option maxHeartbeats 8000000 in
theorem exactSamePairs_of (p0 : PairR) (p1 : PairR) (C : Bool) (w : World) (h0 : PairR.ok w p0) (h1 : PairR.ok w p1)
    (hS : (∀ (W : World) (q0 : PairR) (q1 : PairR), PairR.ok W q0 → q0.val = p0.val → PairR.ok W q1 → q1.val = p1.val → Calls Try.prog 88 #[.agg (PairR.cells q0).toArray, .agg (PairR.cells q1).toArray] W fun e w' => e = .returned (.bool C) ∧ Below W.heap.size W w'))
    (hI : (∀ (W : World) (q0 : PairR) (q1 : PairR), PairR.ok W q0 → q0.val = p0.val → PairR.ok W q1 → q1.val = p1.val → Calls Try.prog 89 #[.agg (PairR.cells q0).toArray, .agg (PairR.cells q1).toArray] W fun e w' => e = .returned (.bool C) ∧ Below W.heap.size W w')) :
    Calls Try.prog 13 #[.agg (PairR.cells p0).toArray, .agg (PairR.cells p1).toArray] w fun e w' => e = .returned (.bool true) ∧ Below w.heap.size w w' := by
  have Z0 := Lib.hid (fun W (hW : Below w.heap.size w W) t ht => szPair_any p0 t W (PairR.md.below h0 hW) ht)
  have Z1 := Lib.hid (fun W (hW : Below w.heap.size w W) t ht => szPair_any p1 t W (PairR.md.below h1 hW) ht)
  have T0 := Lib.hid (fun W (hW : Below w.heap.size w W) hl => toPair_any p0 W (PairR.md.below h0 hW) hl)
  have T1 := Lib.hid (fun W (hW : Below w.heap.size w W) hl => toPair_any p1 W (PairR.md.below h1 hW) hl)
  have KS := Lib.hid hS
  have KI := Lib.hid hI
  clear h0 h1 hS hI
  obtain ⟨n0, hn0⟩ : ∃ n, n = p0.val.wt := ⟨_, rfl⟩
  have ZZ0 := Lib.hid (show ∀ W, Below w.heap.size w W → ∀ t : Nat, t ≤ 1048576 → Calls Try.prog 68 #[.agg (PairR.cells p0).toArray, .int .i64 t] W fun e w' => e = .returned (.int .i64 (szR n0 t)) ∧ Below W.heap.size W w' from fun W hW t ht => by rw [hn0]; exact Z0.out W hW t ht)
  have TT0 := Lib.hid (fun (h : n0 ≤ 1048576) W (hW : Below w.heap.size w W) => T0.out W hW (by rw [← hn0]; exact h))
  clear Z0 T0 hn0
  obtain ⟨n1, hn1⟩ : ∃ n, n = p1.val.wt := ⟨_, rfl⟩
  have ZZ1 := Lib.hid (show ∀ W, Below w.heap.size w W → ∀ t : Nat, t ≤ 1048576 → Calls Try.prog 68 #[.agg (PairR.cells p1).toArray, .int .i64 t] W fun e w' => e = .returned (.int .i64 (szR n1 t)) ∧ Below W.heap.size W w' from fun W hW t ht => by rw [hn1]; exact Z1.out W hW t ht)
  have TT1 := Lib.hid (fun (h : n1 ≤ 1048576) W (hW : Below w.heap.size w W) => T1.out W hW (by rw [← hn1]; exact h))
  clear Z1 T1 hn1
  by_cases s0 : n0 ≤ 1048576
  case neg =>
    have c0 := Lib.hid (show ∀ W, Below w.heap.size w W → Calls Try.prog 68 #[.agg (PairR.cells p0).toArray, .int .i64 (1048576 : Nat)] W fun e w' => e = .returned (.int .i64 (-1)) ∧ Below W.heap.size W w' from fun W hW => by have q := ZZ0.out W hW (1048576) (by omega); rw [szR_f (by omega)] at q; exact q)
    clear KS KI ZZ0 TT0 ZZ1 TT1
    have B_0 := Lib.hid (((Below.refl w.heap.size w).alloc (Nat.le_refl _) (.cells #[.int .i64 p0.f0, .slice p0.f1.a p0.f1.l p0.f1.c, .slice p0.f2.a p0.f2.l p0.f2.c, .slice p0.f3.a p0.f3.l p0.f3.c] 93)).alloc (by simp) (.cells #[.int .i64 p1.f0, .slice p1.f1.a p1.f1.l p1.f1.c, .slice p1.f2.a p1.f2.l p1.f2.c, .slice p1.f3.a p1.f3.l p1.f3.c] 93))
    have ax := ((Box.new w 93 #[.int .i64 p0.f0, .slice p0.f1.a p0.f1.l p0.f1.c, .slice p0.f2.a p0.f2.l p0.f2.c, .slice p0.f3.a p0.f3.l p0.f3.c]).alloc (.cells #[.int .i64 p1.f0, .slice p1.f1.a p1.f1.l p1.f1.c, .slice p1.f2.a p1.f2.l p1.f2.c, .slice p1.f3.a p1.f3.l p1.f3.c] 93))
    have A0_0 := Lib.hid (show Box ((w.alloc (.cells #[.int .i64 p0.f0, .slice p0.f1.a p0.f1.l p0.f1.c, .slice p0.f2.a p0.f2.l p0.f2.c, .slice p0.f3.a p0.f3.l p0.f3.c] 93)).alloc (.cells #[.int .i64 p1.f0, .slice p1.f1.a p1.f1.l p1.f1.c, .slice p1.f2.a p1.f2.l p1.f2.c, .slice p1.f3.a p1.f3.l p1.f3.c] 93)) (w.heap.size) 93 #[.int .i64 p0.f0, .slice p0.f1.a p0.f1.l p0.f1.c, .slice p0.f2.a p0.f2.l p0.f2.c, .slice p0.f3.a p0.f3.l p0.f3.c] from ax)
    clear ax
    have ax := (Box.new (w.alloc (.cells #[.int .i64 p0.f0, .slice p0.f1.a p0.f1.l p0.f1.c, .slice p0.f2.a p0.f2.l p0.f2.c, .slice p0.f3.a p0.f3.l p0.f3.c] 93)) 93 #[.int .i64 p1.f0, .slice p1.f1.a p1.f1.l p1.f1.c, .slice p1.f2.a p1.f2.l p1.f2.c, .slice p1.f3.a p1.f3.l p1.f3.c])
    simp only [World.size_alloc] at ax
    have A1_0 := Lib.hid (show Box ((w.alloc (.cells #[.int .i64 p0.f0, .slice p0.f1.a p0.f1.l p0.f1.c, .slice p0.f2.a p0.f2.l p0.f2.c, .slice p0.f3.a p0.f3.l p0.f3.c] 93)).alloc (.cells #[.int .i64 p1.f0, .slice p1.f1.a p1.f1.l p1.f1.c, .slice p1.f2.a p1.f2.l p1.f2.c, .slice p1.f3.a p1.f3.l p1.f3.c] 93)) (w.heap.size + 1) 93 #[.int .i64 p1.f0, .slice p1.f1.a p1.f1.l p1.f1.c, .slice p1.f2.a p1.f2.l p1.f2.c, .slice p1.f3.a p1.f3.l p1.f3.c] from ax)
    clear ax
    go_enter Try.func13, Try.ntmps13
    go_wp2_with (first
        | ((with_reducible change wpList _ _ _ (Oper.mk (some _) (Op.load 93 _) _ _ _ _ :: _) _ _); refine getBox_list _ rfl 93 _ rfl (w.heap.size) 93 _ A0_0.out (by rfl) _ rfl Try.underlying93 (by kernel_rfl) ?_; simp only [Act.put, List.setIfInBounds_toArray, List.set_cons_zero, List.set_cons_succ])
        | ((with_reducible change wpList _ _ _ (Oper.mk (some _) (Op.load 93 _) _ _ _ _ :: _) _ _); refine getBox_list _ rfl 93 _ rfl (w.heap.size + 1) 93 _ A1_0.out (by rfl) _ rfl Try.underlying93 (by kernel_rfl) ?_; simp only [Act.put, List.setIfInBounds_toArray, List.set_cons_zero, List.set_cons_succ]))
    refine (c0.out _ B_0.out).mono ?_
    rintro e w1 ⟨rfl, b1⟩
    have B_1 := Lib.hid (B_0.out.trans (b1.mono B_0.out.size))
    have A0_1 := Lib.hid (Box.below A0_0.out b1 A0_0.out.lt)
    have A1_1 := Lib.hid (Box.below A1_0.out b1 A1_0.out.lt)
    clear B_0 A0_0 A1_0
    clear b1
    go_wp2
    go_ret
    exact ⟨rfl, B_1.out⟩
  by_cases s1 : n1 ≤ 1048576 - n0
  case neg =>
    have c0 := Lib.hid (show ∀ W, Below w.heap.size w W → Calls Try.prog 68 #[.agg (PairR.cells p0).toArray, .int .i64 (1048576 : Nat)] W fun e w' => e = .returned (.int .i64 (1048576 - n0 : Nat)) ∧ Below W.heap.size W w' from fun W hW => by have q := ZZ0.out W hW (1048576) (by omega); rw [szR_t (by omega)] at q; exact q)
    have u0 : ¬ ((1048576 - n0 : Nat) : Int) < 0 := by omega
    have c1 := Lib.hid (show ∀ W, Below w.heap.size w W → Calls Try.prog 68 #[.agg (PairR.cells p1).toArray, .int .i64 (1048576 - n0 : Nat)] W fun e w' => e = .returned (.int .i64 (-1)) ∧ Below W.heap.size W w' from fun W hW => by have q := ZZ1.out W hW (1048576 - n0) (by omega); rw [szR_f (by omega)] at q; exact q)
    clear KS KI ZZ0 TT0 ZZ1 TT1
    have B_0 := Lib.hid (((Below.refl w.heap.size w).alloc (Nat.le_refl _) (.cells #[.int .i64 p0.f0, .slice p0.f1.a p0.f1.l p0.f1.c, .slice p0.f2.a p0.f2.l p0.f2.c, .slice p0.f3.a p0.f3.l p0.f3.c] 93)).alloc (by simp) (.cells #[.int .i64 p1.f0, .slice p1.f1.a p1.f1.l p1.f1.c, .slice p1.f2.a p1.f2.l p1.f2.c, .slice p1.f3.a p1.f3.l p1.f3.c] 93))
    have ax := ((Box.new w 93 #[.int .i64 p0.f0, .slice p0.f1.a p0.f1.l p0.f1.c, .slice p0.f2.a p0.f2.l p0.f2.c, .slice p0.f3.a p0.f3.l p0.f3.c]).alloc (.cells #[.int .i64 p1.f0, .slice p1.f1.a p1.f1.l p1.f1.c, .slice p1.f2.a p1.f2.l p1.f2.c, .slice p1.f3.a p1.f3.l p1.f3.c] 93))
    have A0_0 := Lib.hid (show Box ((w.alloc (.cells #[.int .i64 p0.f0, .slice p0.f1.a p0.f1.l p0.f1.c, .slice p0.f2.a p0.f2.l p0.f2.c, .slice p0.f3.a p0.f3.l p0.f3.c] 93)).alloc (.cells #[.int .i64 p1.f0, .slice p1.f1.a p1.f1.l p1.f1.c, .slice p1.f2.a p1.f2.l p1.f2.c, .slice p1.f3.a p1.f3.l p1.f3.c] 93)) (w.heap.size) 93 #[.int .i64 p0.f0, .slice p0.f1.a p0.f1.l p0.f1.c, .slice p0.f2.a p0.f2.l p0.f2.c, .slice p0.f3.a p0.f3.l p0.f3.c] from ax)
    clear ax
    have ax := (Box.new (w.alloc (.cells #[.int .i64 p0.f0, .slice p0.f1.a p0.f1.l p0.f1.c, .slice p0.f2.a p0.f2.l p0.f2.c, .slice p0.f3.a p0.f3.l p0.f3.c] 93)) 93 #[.int .i64 p1.f0, .slice p1.f1.a p1.f1.l p1.f1.c, .slice p1.f2.a p1.f2.l p1.f2.c, .slice p1.f3.a p1.f3.l p1.f3.c])
    simp only [World.size_alloc] at ax
    have A1_0 := Lib.hid (show Box ((w.alloc (.cells #[.int .i64 p0.f0, .slice p0.f1.a p0.f1.l p0.f1.c, .slice p0.f2.a p0.f2.l p0.f2.c, .slice p0.f3.a p0.f3.l p0.f3.c] 93)).alloc (.cells #[.int .i64 p1.f0, .slice p1.f1.a p1.f1.l p1.f1.c, .slice p1.f2.a p1.f2.l p1.f2.c, .slice p1.f3.a p1.f3.l p1.f3.c] 93)) (w.heap.size + 1) 93 #[.int .i64 p1.f0, .slice p1.f1.a p1.f1.l p1.f1.c, .slice p1.f2.a p1.f2.l p1.f2.c, .slice p1.f3.a p1.f3.l p1.f3.c] from ax)
    clear ax
    go_enter Try.func13, Try.ntmps13
    go_wp2_with (first
        | ((with_reducible change wpList _ _ _ (Oper.mk (some _) (Op.load 93 _) _ _ _ _ :: _) _ _); refine getBox_list _ rfl 93 _ rfl (w.heap.size) 93 _ A0_0.out (by rfl) _ rfl Try.underlying93 (by kernel_rfl) ?_; simp only [Act.put, List.setIfInBounds_toArray, List.set_cons_zero, List.set_cons_succ])
        | ((with_reducible change wpList _ _ _ (Oper.mk (some _) (Op.load 93 _) _ _ _ _ :: _) _ _); refine getBox_list _ rfl 93 _ rfl (w.heap.size + 1) 93 _ A1_0.out (by rfl) _ rfl Try.underlying93 (by kernel_rfl) ?_; simp only [Act.put, List.setIfInBounds_toArray, List.set_cons_zero, List.set_cons_succ]))
    refine (c0.out _ B_0.out).mono ?_
    rintro e w1 ⟨rfl, b1⟩
    have B_1 := Lib.hid (B_0.out.trans (b1.mono B_0.out.size))
    have A0_1 := Lib.hid (Box.below A0_0.out b1 A0_0.out.lt)
    have A1_1 := Lib.hid (Box.below A1_0.out b1 A1_0.out.lt)
    clear B_0 A0_0 A1_0
    clear b1
    go_wp2_with (first
        | ((with_reducible change wpList _ _ _ (Oper.mk (some _) (Op.load 93 _) _ _ _ _ :: _) _ _); refine getBox_list _ rfl 93 _ rfl (w.heap.size) 93 _ A0_1.out (by rfl) _ rfl Try.underlying93 (by kernel_rfl) ?_; simp only [Act.put, List.setIfInBounds_toArray, List.set_cons_zero, List.set_cons_succ])
        | ((with_reducible change wpList _ _ _ (Oper.mk (some _) (Op.load 93 _) _ _ _ _ :: _) _ _); refine getBox_list _ rfl 93 _ rfl (w.heap.size + 1) 93 _ A1_1.out (by rfl) _ rfl Try.underlying93 (by kernel_rfl) ?_; simp only [Act.put, List.setIfInBounds_toArray, List.set_cons_zero, List.set_cons_succ]))
    refine (c1.out _ B_1.out).mono ?_
    rintro e w2 ⟨rfl, b2⟩
    have B_2 := Lib.hid (B_1.out.trans (b2.mono B_1.out.size))
    have A0_2 := Lib.hid (Box.below A0_1.out b2 A0_1.out.lt)
    have A1_2 := Lib.hid (Box.below A1_1.out b2 A1_1.out.lt)
    clear B_1 A0_1 A1_1
    clear b2
    go_wp2
    go_ret
    exact ⟨rfl, B_2.out⟩
  have c0 := Lib.hid (show ∀ W, Below w.heap.size w W → Calls Try.prog 68 #[.agg (PairR.cells p0).toArray, .int .i64 (1048576 : Nat)] W fun e w' => e = .returned (.int .i64 (1048576 - n0 : Nat)) ∧ Below W.heap.size W w' from fun W hW => by have q := ZZ0.out W hW (1048576) (by omega); rw [szR_t (by omega)] at q; exact q)
  have u0 : ¬ ((1048576 - n0 : Nat) : Int) < 0 := by omega
  have c1 := Lib.hid (show ∀ W, Below w.heap.size w W → Calls Try.prog 68 #[.agg (PairR.cells p1).toArray, .int .i64 (1048576 - n0 : Nat)] W fun e w' => e = .returned (.int .i64 (1048576 - n0 - n1 : Nat)) ∧ Below W.heap.size W w' from fun W hW => by have q := ZZ1.out W hW (1048576 - n0) (by omega); rw [szR_t (by omega)] at q; exact q)
  have u1 : ¬ ((1048576 - n0 - n1 : Nat) : Int) < 0 := by omega
  have t0 := Lib.hid (TT0.out (by omega))
  have t1 := Lib.hid (TT1.out (by omega))
  clear ZZ0 TT0 ZZ1 TT1
  have B_0 := Lib.hid (((Below.refl w.heap.size w).alloc (Nat.le_refl _) (.cells #[.int .i64 p0.f0, .slice p0.f1.a p0.f1.l p0.f1.c, .slice p0.f2.a p0.f2.l p0.f2.c, .slice p0.f3.a p0.f3.l p0.f3.c] 93)).alloc (by simp) (.cells #[.int .i64 p1.f0, .slice p1.f1.a p1.f1.l p1.f1.c, .slice p1.f2.a p1.f2.l p1.f2.c, .slice p1.f3.a p1.f3.l p1.f3.c] 93))
  have ax := ((Box.new w 93 #[.int .i64 p0.f0, .slice p0.f1.a p0.f1.l p0.f1.c, .slice p0.f2.a p0.f2.l p0.f2.c, .slice p0.f3.a p0.f3.l p0.f3.c]).alloc (.cells #[.int .i64 p1.f0, .slice p1.f1.a p1.f1.l p1.f1.c, .slice p1.f2.a p1.f2.l p1.f2.c, .slice p1.f3.a p1.f3.l p1.f3.c] 93))
  have A0_0 := Lib.hid (show Box ((w.alloc (.cells #[.int .i64 p0.f0, .slice p0.f1.a p0.f1.l p0.f1.c, .slice p0.f2.a p0.f2.l p0.f2.c, .slice p0.f3.a p0.f3.l p0.f3.c] 93)).alloc (.cells #[.int .i64 p1.f0, .slice p1.f1.a p1.f1.l p1.f1.c, .slice p1.f2.a p1.f2.l p1.f2.c, .slice p1.f3.a p1.f3.l p1.f3.c] 93)) (w.heap.size) 93 #[.int .i64 p0.f0, .slice p0.f1.a p0.f1.l p0.f1.c, .slice p0.f2.a p0.f2.l p0.f2.c, .slice p0.f3.a p0.f3.l p0.f3.c] from ax)
  clear ax
  have ax := (Box.new (w.alloc (.cells #[.int .i64 p0.f0, .slice p0.f1.a p0.f1.l p0.f1.c, .slice p0.f2.a p0.f2.l p0.f2.c, .slice p0.f3.a p0.f3.l p0.f3.c] 93)) 93 #[.int .i64 p1.f0, .slice p1.f1.a p1.f1.l p1.f1.c, .slice p1.f2.a p1.f2.l p1.f2.c, .slice p1.f3.a p1.f3.l p1.f3.c])
  simp only [World.size_alloc] at ax
  have A1_0 := Lib.hid (show Box ((w.alloc (.cells #[.int .i64 p0.f0, .slice p0.f1.a p0.f1.l p0.f1.c, .slice p0.f2.a p0.f2.l p0.f2.c, .slice p0.f3.a p0.f3.l p0.f3.c] 93)).alloc (.cells #[.int .i64 p1.f0, .slice p1.f1.a p1.f1.l p1.f1.c, .slice p1.f2.a p1.f2.l p1.f2.c, .slice p1.f3.a p1.f3.l p1.f3.c] 93)) (w.heap.size + 1) 93 #[.int .i64 p1.f0, .slice p1.f1.a p1.f1.l p1.f1.c, .slice p1.f2.a p1.f2.l p1.f2.c, .slice p1.f3.a p1.f3.l p1.f3.c] from ax)
  clear ax
  go_enter Try.func13, Try.ntmps13
  go_wp2_with (first
      | ((with_reducible change wpList _ _ _ (Oper.mk (some _) (Op.load 93 _) _ _ _ _ :: _) _ _); refine getBox_list _ rfl 93 _ rfl (w.heap.size) 93 _ A0_0.out (by rfl) _ rfl Try.underlying93 (by kernel_rfl) ?_; simp only [Act.put, List.setIfInBounds_toArray, List.set_cons_zero, List.set_cons_succ])
      | ((with_reducible change wpList _ _ _ (Oper.mk (some _) (Op.load 93 _) _ _ _ _ :: _) _ _); refine getBox_list _ rfl 93 _ rfl (w.heap.size + 1) 93 _ A1_0.out (by rfl) _ rfl Try.underlying93 (by kernel_rfl) ?_; simp only [Act.put, List.setIfInBounds_toArray, List.set_cons_zero, List.set_cons_succ]))
  refine (c0.out _ B_0.out).mono ?_
  rintro e w1 ⟨rfl, b1⟩
  have B_1 := Lib.hid (B_0.out.trans (b1.mono B_0.out.size))
  have A0_1 := Lib.hid (Box.below A0_0.out b1 A0_0.out.lt)
  have A1_1 := Lib.hid (Box.below A1_0.out b1 A1_0.out.lt)
  clear B_0 A0_0 A1_0
  clear b1
  go_wp2_with (first
      | ((with_reducible change wpList _ _ _ (Oper.mk (some _) (Op.load 93 _) _ _ _ _ :: _) _ _); refine getBox_list _ rfl 93 _ rfl (w.heap.size) 93 _ A0_1.out (by rfl) _ rfl Try.underlying93 (by kernel_rfl) ?_; simp only [Act.put, List.setIfInBounds_toArray, List.set_cons_zero, List.set_cons_succ])
      | ((with_reducible change wpList _ _ _ (Oper.mk (some _) (Op.load 93 _) _ _ _ _ :: _) _ _); refine getBox_list _ rfl 93 _ rfl (w.heap.size + 1) 93 _ A1_1.out (by rfl) _ rfl Try.underlying93 (by kernel_rfl) ?_; simp only [Act.put, List.setIfInBounds_toArray, List.set_cons_zero, List.set_cons_succ]))
  refine (c1.out _ B_1.out).mono ?_
  rintro e w2 ⟨rfl, b2⟩
  have B_2 := Lib.hid (B_1.out.trans (b2.mono B_1.out.size))
  have A0_2 := Lib.hid (Box.below A0_1.out b2 A0_1.out.lt)
  have A1_2 := Lib.hid (Box.below A1_1.out b2 A1_1.out.lt)
  clear B_1 A0_1 A1_1
  clear b2
  clear c0 c1
  have y0 : w2.cell? ⟨w.heap.size, 0, none⟩ = some (.int .i64 p0.f0) := A0_2.out.cell 0
  have y1 : w2.cell? ⟨w.heap.size, 1, none⟩ = some (.slice p0.f1.a p0.f1.l p0.f1.c) := A0_2.out.cell 1
  have y2 : w2.cell? ⟨w.heap.size, 2, none⟩ = some (.slice p0.f2.a p0.f2.l p0.f2.c) := A0_2.out.cell 2
  have y3 : w2.cell? ⟨w.heap.size, 3, none⟩ = some (.slice p0.f3.a p0.f3.l p0.f3.c) := A0_2.out.cell 3
  have y4 : w2.cell? ⟨w.heap.size + 1, 0, none⟩ = some (.int .i64 p1.f0) := A1_2.out.cell 0
  have y5 : w2.cell? ⟨w.heap.size + 1, 1, none⟩ = some (.slice p1.f1.a p1.f1.l p1.f1.c) := A1_2.out.cell 1
  have y6 : w2.cell? ⟨w.heap.size + 1, 2, none⟩ = some (.slice p1.f2.a p1.f2.l p1.f2.c) := A1_2.out.cell 2
  have y7 : w2.cell? ⟨w.heap.size + 1, 3, none⟩ = some (.slice p1.f3.a p1.f3.l p1.f3.c) := A1_2.out.cell 3
  go_wp2_with fail
  go_region_held3 (fun W => W.cell? ⟨w.heap.size, 0, none⟩ = some (.int .i64 p0.f0) ∧ W.cell? ⟨w.heap.size, 1, none⟩ = some (.slice p0.f1.a p0.f1.l p0.f1.c) ∧ W.cell? ⟨w.heap.size, 2, none⟩ = some (.slice p0.f2.a p0.f2.l p0.f2.c) ∧ W.cell? ⟨w.heap.size, 3, none⟩ = some (.slice p0.f3.a p0.f3.l p0.f3.c) ∧ W.cell? ⟨w.heap.size + 1, 0, none⟩ = some (.int .i64 p1.f0) ∧ W.cell? ⟨w.heap.size + 1, 1, none⟩ = some (.slice p1.f1.a p1.f1.l p1.f1.c) ∧ W.cell? ⟨w.heap.size + 1, 2, none⟩ = some (.slice p1.f2.a p1.f2.l p1.f2.c) ∧ W.cell? ⟨w.heap.size + 1, 3, none⟩ = some (.slice p1.f3.a p1.f3.l p1.f3.c))
    (first | (go_split_ands; exact ⟨keepK hb (by assumption), keepK hb (by assumption), keepK hb (by assumption), keepK hb (by assumption), keepK hb (by assumption), keepK hb (by assumption), keepK hb (by assumption), keepK hb (by assumption)⟩) | go_keep)
    (first
      | (have z := M2; clear z; go_at_call 88; refine (KS.out _ qs0 qs1 (PairR.md.below os0 bs1) vs0 os1 vs1).mono ?_; rintro e ws ⟨rfl, bs⟩; have hb := bs)
      | (have z := M1; clear z; go_at_call 71; refine (t1.out _ BB1.out).mono ?_; rintro e ws1 ⟨qs1, rfl, os1, vs1, ms1, bs1⟩; have hb := bs1; have M2 : Hid True := trivial; have BB2 := Lib.hid (BB1.out.trans (bs1.mono BB1.out.size)))
      | (go_at_call 71; refine (t0.out _ B_2.out.drew).mono ?_; rintro e ws0 ⟨qs0, rfl, os0, vs0, ms0, bs0⟩; have hb := bs0; have M1 : Hid True := trivial; have BB1 := Lib.hid (B_2.out.drew.trans (bs0.mono B_2.out.drew.size))))
  clear y0 y1 y2 y3 y4 y5 y6 y7
  have bz : Below w2.heap.size w2 ws := by
    exact belowStep (belowStep (belowStep ((Below.refl w2.heap.size w2).drew) bs0) bs1) bs
  obtain ⟨w3, hw3⟩ : ∃ W, W = ws := ⟨_, rfl⟩
  rw [← hw3] at bz
  subst hw3
  have B_3 := Lib.hid (B_2.out.trans (bz.mono B_2.out.size))
  have A0_3 := Lib.hid (Box.below A0_2.out bz A0_2.out.lt)
  have A1_3 := Lib.hid (Box.below A1_2.out bz A1_2.out.lt)
  clear B_2 A0_2 A1_2
  clear bz hb os0 vs0 ms0 bs0 M1 BB1 os1 vs1 ms1 bs1 M2 BB2 bs
  go_wp2_with (first
      | ((with_reducible change wpList _ _ _ (Oper.mk (some _) (Op.load 93 _) _ _ _ _ :: _) _ _); refine getBox_list _ rfl 93 _ rfl (w.heap.size) 93 _ A0_3.out (by rfl) _ rfl Try.underlying93 (by kernel_rfl) ?_; simp only [Act.put, List.setIfInBounds_toArray, List.set_cons_zero, List.set_cons_succ])
      | ((with_reducible change wpList _ _ _ (Oper.mk (some _) (Op.load 93 _) _ _ _ _ :: _) _ _); refine getBox_list _ rfl 93 _ rfl (w.heap.size + 1) 93 _ A1_3.out (by rfl) _ rfl Try.underlying93 (by kernel_rfl) ?_; simp only [Act.put, List.setIfInBounds_toArray, List.set_cons_zero, List.set_cons_succ]))
  refine (t0.out _ B_3.out).mono ?_
  rintro e w4 ⟨qx0, rfl, ox, vx, mx, b4⟩
  have Ox0_4 := Lib.hid ox
  have Vx0 := Lib.hid vx
  clear ox vx mx
  have B_4 := Lib.hid (B_3.out.trans (b4.mono B_3.out.size))
  have A0_4 := Lib.hid (Box.below A0_3.out b4 A0_3.out.lt)
  have A1_4 := Lib.hid (Box.below A1_3.out b4 A1_3.out.lt)
  clear B_3 A0_3 A1_3
  clear b4
  go_wp2_with (first
      | ((with_reducible change wpList _ _ _ (Oper.mk none (Op.store 104 _ _) _ _ _ _ :: _) _ _); refine setBox_list _ rfl 104 _ _ rfl (w4.heap.size) 104 _ #[.int .i64 qx0.f0, .slice qx0.f1.a qx0.f1.l qx0.f1.c, .slice qx0.f2.a qx0.f2.l qx0.f2.c, .slice qx0.f3.a qx0.f3.l qx0.f3.c] (Box.new w4 104 #[.int .i64 0, .slice none 0 0, .slice none 0 0, .slice none 0 0]) (by rfl) (by rfl) (by kernel_rfl) (by rfl) (by simp [Value.oneCell']) ?_; intro w5 xz gz; have bz := (((Below.refl w4.heap.size w4).alloc (Nat.le_refl _) (.cells #[.int .i64 0, .slice none 0 0, .slice none 0 0, .slice none 0 0] 104)).grown gz (by simp) (fun k e => by cases e; exact Nat.le_refl _)); have B_5 := Lib.hid (B_4.out.trans (bz.mono B_4.out.size)); have A0_5 := Lib.hid (Box.below A0_4.out bz A0_4.out.lt); have A1_5 := Lib.hid (Box.below A1_4.out bz A1_4.out.lt); have Ox0_5 := Lib.hid (PairR.md.below Ox0_4.out bz); clear B_4 A0_4 A1_4 Ox0_4; have Xx0_5 := Lib.hid xz; clear bz gz xz)
      | ((with_reducible change wpList _ _ _ (Oper.mk (some _) (Op.load 93 _) _ _ _ _ :: _) _ _); refine getBox_list _ rfl 93 _ rfl (w.heap.size) 93 _ A0_5.out (by rfl) _ rfl Try.underlying93 (by kernel_rfl) ?_; simp only [Act.put, List.setIfInBounds_toArray, List.set_cons_zero, List.set_cons_succ])
      | ((with_reducible change wpList _ _ _ (Oper.mk (some _) (Op.load 93 _) _ _ _ _ :: _) _ _); refine getBox_list _ rfl 93 _ rfl (w.heap.size + 1) 93 _ A1_5.out (by rfl) _ rfl Try.underlying93 (by kernel_rfl) ?_; simp only [Act.put, List.setIfInBounds_toArray, List.set_cons_zero, List.set_cons_succ])
      | ((with_reducible change wpList _ _ _ (Oper.mk (some _) (Op.load 104 _) _ _ _ _ :: _) _ _); refine getBox_list _ rfl 104 _ rfl (w4.heap.size) 104 _ Xx0_5.out (by rfl) _ rfl Try.underlying104 (by kernel_rfl) ?_; simp only [Act.put, List.setIfInBounds_toArray, List.set_cons_zero, List.set_cons_succ]))
  refine (t1.out _ B_5.out).mono ?_
  rintro e w6 ⟨qx1, rfl, ox, vx, mx, b6⟩
  have Ox1_6 := Lib.hid ox
  have Vx1 := Lib.hid vx
  clear ox vx mx
  have B_6 := Lib.hid (B_5.out.trans (b6.mono B_5.out.size))
  have A0_6 := Lib.hid (Box.below A0_5.out b6 A0_5.out.lt)
  have A1_6 := Lib.hid (Box.below A1_5.out b6 A1_5.out.lt)
  have Ox0_6 := Lib.hid (PairR.md.below Ox0_5.out b6)
  have Xx0_6 := Lib.hid (Box.below Xx0_5.out b6 Xx0_5.out.lt)
  clear B_5 A0_5 A1_5 Ox0_5 Xx0_5
  clear b6
  go_wp2_with (first
      | ((with_reducible change wpList _ _ _ (Oper.mk none (Op.store 104 _ _) _ _ _ _ :: _) _ _); refine setBox_list _ rfl 104 _ _ rfl (w6.heap.size) 104 _ #[.int .i64 qx1.f0, .slice qx1.f1.a qx1.f1.l qx1.f1.c, .slice qx1.f2.a qx1.f2.l qx1.f2.c, .slice qx1.f3.a qx1.f3.l qx1.f3.c] (Box.new w6 104 #[.int .i64 0, .slice none 0 0, .slice none 0 0, .slice none 0 0]) (by rfl) (by rfl) (by kernel_rfl) (by rfl) (by simp [Value.oneCell']) ?_; intro w7 xz gz; have bz := (((Below.refl w6.heap.size w6).alloc (Nat.le_refl _) (.cells #[.int .i64 0, .slice none 0 0, .slice none 0 0, .slice none 0 0] 104)).grown gz (by simp) (fun k e => by cases e; exact Nat.le_refl _)); have B_7 := Lib.hid (B_6.out.trans (bz.mono B_6.out.size)); have A0_7 := Lib.hid (Box.below A0_6.out bz A0_6.out.lt); have A1_7 := Lib.hid (Box.below A1_6.out bz A1_6.out.lt); have Ox0_7 := Lib.hid (PairR.md.below Ox0_6.out bz); have Xx0_7 := Lib.hid (Box.below Xx0_6.out bz Xx0_6.out.lt); have Ox1_7 := Lib.hid (PairR.md.below Ox1_6.out bz); clear B_6 A0_6 A1_6 Ox0_6 Xx0_6 Ox1_6; have Xx1_7 := Lib.hid xz; clear bz gz xz)
      | ((with_reducible change wpList _ _ _ (Oper.mk (some _) (Op.load 93 _) _ _ _ _ :: _) _ _); refine getBox_list _ rfl 93 _ rfl (w.heap.size) 93 _ A0_7.out (by rfl) _ rfl Try.underlying93 (by kernel_rfl) ?_; simp only [Act.put, List.setIfInBounds_toArray, List.set_cons_zero, List.set_cons_succ])
      | ((with_reducible change wpList _ _ _ (Oper.mk (some _) (Op.load 93 _) _ _ _ _ :: _) _ _); refine getBox_list _ rfl 93 _ rfl (w.heap.size + 1) 93 _ A1_7.out (by rfl) _ rfl Try.underlying93 (by kernel_rfl) ?_; simp only [Act.put, List.setIfInBounds_toArray, List.set_cons_zero, List.set_cons_succ])
      | ((with_reducible change wpList _ _ _ (Oper.mk (some _) (Op.load 104 _) _ _ _ _ :: _) _ _); refine getBox_list _ rfl 104 _ rfl (w4.heap.size) 104 _ Xx0_7.out (by rfl) _ rfl Try.underlying104 (by kernel_rfl) ?_; simp only [Act.put, List.setIfInBounds_toArray, List.set_cons_zero, List.set_cons_succ])
      | ((with_reducible change wpList _ _ _ (Oper.mk (some _) (Op.load 104 _) _ _ _ _ :: _) _ _); refine getBox_list _ rfl 104 _ rfl (w6.heap.size) 104 _ Xx1_7.out (by rfl) _ rfl Try.underlying104 (by kernel_rfl) ?_; simp only [Act.put, List.setIfInBounds_toArray, List.set_cons_zero, List.set_cons_succ]))
  refine (KI.out _ qx0 qx1 Ox0_7.out Vx0.out Ox1_7.out Vx1.out).mono ?_
  rintro e w8 ⟨rfl, b8⟩
  have B_8 := Lib.hid (B_7.out.trans (b8.mono B_7.out.size))
  have A0_8 := Lib.hid (Box.below A0_7.out b8 A0_7.out.lt)
  have A1_8 := Lib.hid (Box.below A1_7.out b8 A1_7.out.lt)
  have Ox0_8 := Lib.hid (PairR.md.below Ox0_7.out b8)
  have Xx0_8 := Lib.hid (Box.below Xx0_7.out b8 Xx0_7.out.lt)
  have Ox1_8 := Lib.hid (PairR.md.below Ox1_7.out b8)
  have Xx1_8 := Lib.hid (Box.below Xx1_7.out b8 Xx1_7.out.lt)
  clear B_7 A0_7 A1_7 Ox0_7 Xx0_7 Ox1_7 Xx1_7
  clear b8
  have hCC : (C != C) = false := by simp
  have y0 : w8.cell? ⟨w4.heap.size, 0, none⟩ = some (.int .i64 qx0.f0) := Xx0_8.out.cell 0
  have y1 : w8.cell? ⟨w4.heap.size, 1, none⟩ = some (.slice qx0.f1.a qx0.f1.l qx0.f1.c) := Xx0_8.out.cell 1
  have y2 : w8.cell? ⟨w4.heap.size, 2, none⟩ = some (.slice qx0.f2.a qx0.f2.l qx0.f2.c) := Xx0_8.out.cell 2
  have y3 : w8.cell? ⟨w4.heap.size, 3, none⟩ = some (.slice qx0.f3.a qx0.f3.l qx0.f3.c) := Xx0_8.out.cell 3
  have y4 : w8.cell? ⟨w.heap.size, 0, none⟩ = some (.int .i64 p0.f0) := A0_8.out.cell 0
  have y5 : w8.cell? ⟨w.heap.size, 1, none⟩ = some (.slice p0.f1.a p0.f1.l p0.f1.c) := A0_8.out.cell 1
  have y6 : w8.cell? ⟨w.heap.size, 2, none⟩ = some (.slice p0.f2.a p0.f2.l p0.f2.c) := A0_8.out.cell 2
  have y7 : w8.cell? ⟨w.heap.size, 3, none⟩ = some (.slice p0.f3.a p0.f3.l p0.f3.c) := A0_8.out.cell 3
  go_wp2_with fail
  go_region_held3 (fun W => W.cell? ⟨w4.heap.size, 0, none⟩ = some (.int .i64 qx0.f0) ∧ W.cell? ⟨w4.heap.size, 1, none⟩ = some (.slice qx0.f1.a qx0.f1.l qx0.f1.c) ∧ W.cell? ⟨w4.heap.size, 2, none⟩ = some (.slice qx0.f2.a qx0.f2.l qx0.f2.c) ∧ W.cell? ⟨w4.heap.size, 3, none⟩ = some (.slice qx0.f3.a qx0.f3.l qx0.f3.c) ∧ W.cell? ⟨w.heap.size, 0, none⟩ = some (.int .i64 p0.f0) ∧ W.cell? ⟨w.heap.size, 1, none⟩ = some (.slice p0.f1.a p0.f1.l p0.f1.c) ∧ W.cell? ⟨w.heap.size, 2, none⟩ = some (.slice p0.f2.a p0.f2.l p0.f2.c) ∧ W.cell? ⟨w.heap.size, 3, none⟩ = some (.slice p0.f3.a p0.f3.l p0.f3.c))
    (first | (go_split_ands; exact ⟨keepK hb (by assumption), keepK hb (by assumption), keepK hb (by assumption), keepK hb (by assumption), keepK hb (by assumption), keepK hb (by assumption), keepK hb (by assumption), keepK hb (by assumption)⟩) | go_keep)
    (first
      | (have z := M1; clear z; go_at_call 75; refine (eqPair_t qx0 qy0 _ (PairR.md.below (PairR.md.drew Ox0_8.out) by1) oy0 (Vx0.out.trans vy0.symm)).mono ?_; rintro e wq0 ⟨rfl, by2⟩; have hb := by2)
      | (go_at_call 71; refine (t0.out _ B_8.out.drew).mono ?_; rintro e wy0 ⟨qy0, rfl, oy0, vy0, my0, by1⟩; have hb := by1; have M1 : Hid True := trivial))
  clear y0 y1 y2 y3 y4 y5 y6 y7
  have bz : Below w8.heap.size w8 wq0 := belowStep (belowStep (Below.refl w8.heap.size w8).drew by1) by2
  obtain ⟨w9, hw9⟩ : ∃ W, W = wq0 := ⟨_, rfl⟩
  rw [← hw9] at bz
  subst hw9
  have B_9 := Lib.hid (B_8.out.trans (bz.mono B_8.out.size))
  have A0_9 := Lib.hid (Box.below A0_8.out bz A0_8.out.lt)
  have A1_9 := Lib.hid (Box.below A1_8.out bz A1_8.out.lt)
  have Ox0_9 := Lib.hid (PairR.md.below Ox0_8.out bz)
  have Xx0_9 := Lib.hid (Box.below Xx0_8.out bz Xx0_8.out.lt)
  have Ox1_9 := Lib.hid (PairR.md.below Ox1_8.out bz)
  have Xx1_9 := Lib.hid (Box.below Xx1_8.out bz Xx1_8.out.lt)
  clear B_8 A0_8 A1_8 Ox0_8 Xx0_8 Ox1_8 Xx1_8
  clear bz hb by1 by2 oy0 vy0 my0 M1
  have y0 : w9.cell? ⟨w6.heap.size, 0, none⟩ = some (.int .i64 qx1.f0) := Xx1_9.out.cell 0
  have y1 : w9.cell? ⟨w6.heap.size, 1, none⟩ = some (.slice qx1.f1.a qx1.f1.l qx1.f1.c) := Xx1_9.out.cell 1
  have y2 : w9.cell? ⟨w6.heap.size, 2, none⟩ = some (.slice qx1.f2.a qx1.f2.l qx1.f2.c) := Xx1_9.out.cell 2
  have y3 : w9.cell? ⟨w6.heap.size, 3, none⟩ = some (.slice qx1.f3.a qx1.f3.l qx1.f3.c) := Xx1_9.out.cell 3
  have y4 : w9.cell? ⟨w.heap.size + 1, 0, none⟩ = some (.int .i64 p1.f0) := A1_9.out.cell 0
  have y5 : w9.cell? ⟨w.heap.size + 1, 1, none⟩ = some (.slice p1.f1.a p1.f1.l p1.f1.c) := A1_9.out.cell 1
  have y6 : w9.cell? ⟨w.heap.size + 1, 2, none⟩ = some (.slice p1.f2.a p1.f2.l p1.f2.c) := A1_9.out.cell 2
  have y7 : w9.cell? ⟨w.heap.size + 1, 3, none⟩ = some (.slice p1.f3.a p1.f3.l p1.f3.c) := A1_9.out.cell 3
  go_wp2_with fail
  go_region_held3 (fun W => W.cell? ⟨w6.heap.size, 0, none⟩ = some (.int .i64 qx1.f0) ∧ W.cell? ⟨w6.heap.size, 1, none⟩ = some (.slice qx1.f1.a qx1.f1.l qx1.f1.c) ∧ W.cell? ⟨w6.heap.size, 2, none⟩ = some (.slice qx1.f2.a qx1.f2.l qx1.f2.c) ∧ W.cell? ⟨w6.heap.size, 3, none⟩ = some (.slice qx1.f3.a qx1.f3.l qx1.f3.c) ∧ W.cell? ⟨w.heap.size + 1, 0, none⟩ = some (.int .i64 p1.f0) ∧ W.cell? ⟨w.heap.size + 1, 1, none⟩ = some (.slice p1.f1.a p1.f1.l p1.f1.c) ∧ W.cell? ⟨w.heap.size + 1, 2, none⟩ = some (.slice p1.f2.a p1.f2.l p1.f2.c) ∧ W.cell? ⟨w.heap.size + 1, 3, none⟩ = some (.slice p1.f3.a p1.f3.l p1.f3.c))
    (first | (go_split_ands; exact ⟨keepK hb (by assumption), keepK hb (by assumption), keepK hb (by assumption), keepK hb (by assumption), keepK hb (by assumption), keepK hb (by assumption), keepK hb (by assumption), keepK hb (by assumption)⟩) | go_keep)
    (first
      | (have z := M1; clear z; go_at_call 75; refine (eqPair_t qx1 qy1 _ (PairR.md.below (PairR.md.drew Ox1_9.out) by1) oy1 (Vx1.out.trans vy1.symm)).mono ?_; rintro e wq1 ⟨rfl, by2⟩; have hb := by2)
      | (go_at_call 71; refine (t1.out _ B_9.out.drew).mono ?_; rintro e wy1 ⟨qy1, rfl, oy1, vy1, my1, by1⟩; have hb := by1; have M1 : Hid True := trivial))
  clear y0 y1 y2 y3 y4 y5 y6 y7
  have bz : Below w9.heap.size w9 wq1 := belowStep (belowStep (Below.refl w9.heap.size w9).drew by1) by2
  obtain ⟨w10, hw10⟩ : ∃ W, W = wq1 := ⟨_, rfl⟩
  rw [← hw10] at bz
  subst hw10
  have B_10 := Lib.hid (B_9.out.trans (bz.mono B_9.out.size))
  have A0_10 := Lib.hid (Box.below A0_9.out bz A0_9.out.lt)
  have A1_10 := Lib.hid (Box.below A1_9.out bz A1_9.out.lt)
  have Ox0_10 := Lib.hid (PairR.md.below Ox0_9.out bz)
  have Xx0_10 := Lib.hid (Box.below Xx0_9.out bz Xx0_9.out.lt)
  have Ox1_10 := Lib.hid (PairR.md.below Ox1_9.out bz)
  have Xx1_10 := Lib.hid (Box.below Xx1_9.out bz Xx1_9.out.lt)
  clear B_9 A0_9 A1_9 Ox0_9 Xx0_9 Ox1_9 Xx1_9
  clear bz hb by1 by2 oy1 vy1 my1 M1
  go_wp2
  go_ret
  exact ⟨rfl, B_10.out⟩
end Go.Proofs.Ytimlobhlcmghfaa
