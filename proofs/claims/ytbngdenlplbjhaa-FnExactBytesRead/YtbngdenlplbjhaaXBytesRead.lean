/-
  The exact law of BytesRead, out of the contracts of both sides.
-/
import Derived.Test.YtbngdenlplbjhaaKPPair
import Derived.Test.YtbngdenlplbjhaaKPBytesResult
import Derived.Test.YtbngdenlplbjhaaKMEvent
namespace Go.Proofs.Ytbngdenlplbjhaa
open Go.ChangeShapes Go.WideShapes Go.ChangeAt Go.RowKit

set_option maxRecDepth 20000 in
set_option maxHeartbeats 16000000 in
theorem exactBytesRead_of (p0 : PairR) (p1 : Lt EventR) (x2 : Int) (V : BytesResultV) (w : World) (h0 : PairR.ok w p0) (h1 : Lt.ok EventR.md w p1) (hV : p0.val.wt ≤ 1048576 → wtL EventV.wt (p1.rs.map EventR.val) ≤ 1048576 → V.wt ≤ 1048576)
    (hS : (p0.val.wt ≤ 1048576 → wtL EventV.wt (p1.rs.map EventR.val) ≤ 1048576 → ∀ (W : World) (q0 : PairR) (q1 : Lt EventR), PairR.ok W q0 → q0.val = p0.val → Lt.ok EventR.md W q1 → q1.rs.map EventR.val = p1.rs.map EventR.val → Calls Try.prog 22 #[.agg (PairR.cells q0).toArray, .slice q1.a q1.l q1.c, .int .i64 x2] W (TOut BytesResultR.md BytesResultR.val V W)))
    (hI : (p0.val.wt ≤ 1048576 → wtL EventV.wt (p1.rs.map EventR.val) ≤ 1048576 → ∀ (W : World) (q0 : PairR) (q1 : Lt EventR), PairR.ok W q0 → q0.val = p0.val → Lt.ok EventR.md W q1 → q1.rs.map EventR.val = p1.rs.map EventR.val → Calls Try.prog 25 #[.agg (PairR.cells q0).toArray, .slice q1.a q1.l q1.c, .int .i64 x2] W (TOut BytesResultR.md BytesResultR.val V W))) :
    Calls Try.prog 4 #[.agg (PairR.cells p0).toArray, .slice p1.a p1.l p1.c, .int .i64 x2] w fun e w' => e = .returned (.bool true) ∧ Below w.heap.size w w' := by
  have Z0 := Lib.hid (fun W (hW : Below w.heap.size w W) t ht => szPair_any p0 t W (PairR.md.below h0 hW) ht)
  have Z1 := Lib.hid (fun W (hW : Below w.heap.size w W) t ht => szEventS_any p1 t W (Lt.ok.below (by decide) h1 hW) ht)
  have T0 := Lib.hid (fun W (hW : Below w.heap.size w W) hl => toPair_any p0 W (PairR.md.below h0 hW) hl)
  have T1 := Lib.hid (fun W (hW : Below w.heap.size w W) hl => toEventS_any p1 W (Lt.ok.below (by decide) h1 hW) hl)
  have KS := Lib.hid hS
  have KI := Lib.hid hI
  clear h0 h1 hS hI
  obtain ⟨n0, hn0⟩ : ∃ n, n = p0.val.wt := ⟨_, rfl⟩
  have HN0 := Lib.hid hn0
  have ZZ0 := Lib.hid (show ∀ W, Below w.heap.size w W → ∀ t : Nat, t ≤ 1048576 → Calls Try.prog 20 #[.agg (PairR.cells p0).toArray, .int .i64 t] W fun e w' => e = .returned (.int .i64 (szR n0 t)) ∧ Below W.heap.size W w' from fun W hW t ht => by rw [hn0]; exact Z0.out W hW t ht)
  have TT0 := Lib.hid (fun (h : n0 ≤ 1048576) W (hW : Below w.heap.size w W) => T0.out W hW (by rw [← hn0]; exact h))
  clear Z0 T0 hn0
  obtain ⟨n1, hn1⟩ : ∃ n, n = wtL EventV.wt (p1.rs.map EventR.val) := ⟨_, rfl⟩
  have HN1 := Lib.hid hn1
  have ZZ1 := Lib.hid (show ∀ W, Below w.heap.size w W → ∀ t : Nat, t ≤ 1048576 → Calls Try.prog 21 #[.slice p1.a p1.l p1.c, .int .i64 t] W fun e w' => e = .returned (.int .i64 (szR n1 t)) ∧ Below W.heap.size W w' from fun W hW t ht => by rw [hn1]; exact Z1.out W hW t ht)
  have TT1 := Lib.hid (fun (h : n1 ≤ 1048576) W (hW : Below w.heap.size w W) => T1.out W hW (by rw [← hn1]; exact h))
  clear Z1 T1 hn1
  by_cases s0 : n0 ≤ 1048576
  case neg =>
    have c0 := Lib.hid (show ∀ W, Below w.heap.size w W → Calls Try.prog 20 #[.agg (PairR.cells p0).toArray, .int .i64 (1048576 : Nat)] W fun e w' => e = .returned (.int .i64 (-1)) ∧ Below W.heap.size W w' from fun W hW => by have q := ZZ0.out W hW (1048576) (by omega); rw [szR_f (by omega)] at q; exact q)
    clear KS KI hV ZZ0 TT0 HN0 ZZ1 TT1 HN1 
    have B_0 := Lib.hid ((Below.refl w.heap.size w).alloc (Nat.le_refl _) (.cells #[.int .i64 p0.f0, .slice p0.f1.a p0.f1.l p0.f1.c, .slice p0.f2.a p0.f2.l p0.f2.c, .slice p0.f3.a p0.f3.l p0.f3.c] 48))
    have le_s := Lib.hid (show w.heap.size + 1 ≤ (w.alloc (.cells #[.int .i64 p0.f0, .slice p0.f1.a p0.f1.l p0.f1.c, .slice p0.f2.a p0.f2.l p0.f2.c, .slice p0.f3.a p0.f3.l p0.f3.c] 48)).heap.size by simp)
    have ax := (Box.new w 48 #[.int .i64 p0.f0, .slice p0.f1.a p0.f1.l p0.f1.c, .slice p0.f2.a p0.f2.l p0.f2.c, .slice p0.f3.a p0.f3.l p0.f3.c])
    have A0_0 := Lib.hid (show Box (w.alloc (.cells #[.int .i64 p0.f0, .slice p0.f1.a p0.f1.l p0.f1.c, .slice p0.f2.a p0.f2.l p0.f2.c, .slice p0.f3.a p0.f3.l p0.f3.c] 48)) (w.heap.size) 48 #[.int .i64 p0.f0, .slice p0.f1.a p0.f1.l p0.f1.c, .slice p0.f2.a p0.f2.l p0.f2.c, .slice p0.f3.a p0.f3.l p0.f3.c] from ax)
    clear ax
    go_enter Try.func4, Try.ntmps4
    go_wp2_with (first
        | ((with_reducible change wpList _ _ _ (Oper.mk (some _) (Op.load 48 _) _ _ _ _ :: _) _ _); refine getBox_list _ rfl 48 _ rfl (w.heap.size) 48 _ A0_0.out (by rfl) _ rfl Try.underlying48 (by kernel_rfl) ?_; simp only [Act.put, List.setIfInBounds_toArray, List.set_cons_zero, List.set_cons_succ]))
    refine (c0.out _ B_0.out).mono ?_
    rintro e w1 ⟨rfl, b1⟩
    have B_1 := Lib.hid (B_0.out.trans (b1.mono B_0.out.size))
    have le_0 := Lib.hid (show (w.alloc (.cells #[.int .i64 p0.f0, .slice p0.f1.a p0.f1.l p0.f1.c, .slice p0.f2.a p0.f2.l p0.f2.c, .slice p0.f3.a p0.f3.l p0.f3.c] 48)).heap.size ≤ w1.heap.size from b1.size)
    have A0_1 := Lib.hid (Box.below A0_0.out b1 A0_0.out.lt)
    clear B_0 A0_0
    clear b1
    go_wp2
    go_ret
    exact ⟨rfl, B_1.out⟩
  by_cases s1 : n1 ≤ 1048576 - n0
  case neg =>
    have c0 := Lib.hid (show ∀ W, Below w.heap.size w W → Calls Try.prog 20 #[.agg (PairR.cells p0).toArray, .int .i64 (1048576 : Nat)] W fun e w' => e = .returned (.int .i64 (1048576 - n0 : Nat)) ∧ Below W.heap.size W w' from fun W hW => by have q := ZZ0.out W hW (1048576) (by omega); rw [szR_t (by omega)] at q; exact q)
    have u0 : ¬ ((1048576 - n0 : Nat) : Int) < 0 := by omega
    have c1 := Lib.hid (show ∀ W, Below w.heap.size w W → Calls Try.prog 21 #[.slice p1.a p1.l p1.c, .int .i64 (1048576 - n0 : Nat)] W fun e w' => e = .returned (.int .i64 (-1)) ∧ Below W.heap.size W w' from fun W hW => by have q := ZZ1.out W hW (1048576 - n0) (by omega); rw [szR_f (by omega)] at q; exact q)
    clear KS KI hV ZZ0 TT0 HN0 ZZ1 TT1 HN1 
    have B_0 := Lib.hid ((Below.refl w.heap.size w).alloc (Nat.le_refl _) (.cells #[.int .i64 p0.f0, .slice p0.f1.a p0.f1.l p0.f1.c, .slice p0.f2.a p0.f2.l p0.f2.c, .slice p0.f3.a p0.f3.l p0.f3.c] 48))
    have le_s := Lib.hid (show w.heap.size + 1 ≤ (w.alloc (.cells #[.int .i64 p0.f0, .slice p0.f1.a p0.f1.l p0.f1.c, .slice p0.f2.a p0.f2.l p0.f2.c, .slice p0.f3.a p0.f3.l p0.f3.c] 48)).heap.size by simp)
    have ax := (Box.new w 48 #[.int .i64 p0.f0, .slice p0.f1.a p0.f1.l p0.f1.c, .slice p0.f2.a p0.f2.l p0.f2.c, .slice p0.f3.a p0.f3.l p0.f3.c])
    have A0_0 := Lib.hid (show Box (w.alloc (.cells #[.int .i64 p0.f0, .slice p0.f1.a p0.f1.l p0.f1.c, .slice p0.f2.a p0.f2.l p0.f2.c, .slice p0.f3.a p0.f3.l p0.f3.c] 48)) (w.heap.size) 48 #[.int .i64 p0.f0, .slice p0.f1.a p0.f1.l p0.f1.c, .slice p0.f2.a p0.f2.l p0.f2.c, .slice p0.f3.a p0.f3.l p0.f3.c] from ax)
    clear ax
    go_enter Try.func4, Try.ntmps4
    go_wp2_with (first
        | ((with_reducible change wpList _ _ _ (Oper.mk (some _) (Op.load 48 _) _ _ _ _ :: _) _ _); refine getBox_list _ rfl 48 _ rfl (w.heap.size) 48 _ A0_0.out (by rfl) _ rfl Try.underlying48 (by kernel_rfl) ?_; simp only [Act.put, List.setIfInBounds_toArray, List.set_cons_zero, List.set_cons_succ]))
    refine (c0.out _ B_0.out).mono ?_
    rintro e w1 ⟨rfl, b1⟩
    have B_1 := Lib.hid (B_0.out.trans (b1.mono B_0.out.size))
    have le_0 := Lib.hid (show (w.alloc (.cells #[.int .i64 p0.f0, .slice p0.f1.a p0.f1.l p0.f1.c, .slice p0.f2.a p0.f2.l p0.f2.c, .slice p0.f3.a p0.f3.l p0.f3.c] 48)).heap.size ≤ w1.heap.size from b1.size)
    have A0_1 := Lib.hid (Box.below A0_0.out b1 A0_0.out.lt)
    clear B_0 A0_0
    clear b1
    go_wp2_with (first
        | ((with_reducible change wpList _ _ _ (Oper.mk (some _) (Op.load 48 _) _ _ _ _ :: _) _ _); refine getBox_list _ rfl 48 _ rfl (w.heap.size) 48 _ A0_1.out (by rfl) _ rfl Try.underlying48 (by kernel_rfl) ?_; simp only [Act.put, List.setIfInBounds_toArray, List.set_cons_zero, List.set_cons_succ]))
    refine (c1.out _ B_1.out).mono ?_
    rintro e w2 ⟨rfl, b2⟩
    have B_2 := Lib.hid (B_1.out.trans (b2.mono B_1.out.size))
    have le_1 := Lib.hid (show w1.heap.size ≤ w2.heap.size from b2.size)
    have A0_2 := Lib.hid (Box.below A0_1.out b2 A0_1.out.lt)
    clear B_1 A0_1
    clear b2
    go_wp2
    go_ret
    exact ⟨rfl, B_2.out⟩
  have c0 := Lib.hid (show ∀ W, Below w.heap.size w W → Calls Try.prog 20 #[.agg (PairR.cells p0).toArray, .int .i64 (1048576 : Nat)] W fun e w' => e = .returned (.int .i64 (1048576 - n0 : Nat)) ∧ Below W.heap.size W w' from fun W hW => by have q := ZZ0.out W hW (1048576) (by omega); rw [szR_t (by omega)] at q; exact q)
  have u0 : ¬ ((1048576 - n0 : Nat) : Int) < 0 := by omega
  have c1 := Lib.hid (show ∀ W, Below w.heap.size w W → Calls Try.prog 21 #[.slice p1.a p1.l p1.c, .int .i64 (1048576 - n0 : Nat)] W fun e w' => e = .returned (.int .i64 (1048576 - n0 - n1 : Nat)) ∧ Below W.heap.size W w' from fun W hW => by have q := ZZ1.out W hW (1048576 - n0) (by omega); rw [szR_t (by omega)] at q; exact q)
  have u1 : ¬ ((1048576 - n0 - n1 : Nat) : Int) < 0 := by omega
  have t0 := Lib.hid (TT0.out (by omega))
  have t1 := Lib.hid (TT1.out (by omega))
  have HVW := Lib.hid (hV (by have := HN0.out; omega) (by have := HN1.out; omega))
  have KS := Lib.hid (KS.out (by have := HN0.out; omega) (by have := HN1.out; omega))
  have KI := Lib.hid (KI.out (by have := HN0.out; omega) (by have := HN1.out; omega))
  clear hV ZZ0 TT0 ZZ1 TT1
  have B_0 := Lib.hid ((Below.refl w.heap.size w).alloc (Nat.le_refl _) (.cells #[.int .i64 p0.f0, .slice p0.f1.a p0.f1.l p0.f1.c, .slice p0.f2.a p0.f2.l p0.f2.c, .slice p0.f3.a p0.f3.l p0.f3.c] 48))
  have le_s := Lib.hid (show w.heap.size + 1 ≤ (w.alloc (.cells #[.int .i64 p0.f0, .slice p0.f1.a p0.f1.l p0.f1.c, .slice p0.f2.a p0.f2.l p0.f2.c, .slice p0.f3.a p0.f3.l p0.f3.c] 48)).heap.size by simp)
  have ax := (Box.new w 48 #[.int .i64 p0.f0, .slice p0.f1.a p0.f1.l p0.f1.c, .slice p0.f2.a p0.f2.l p0.f2.c, .slice p0.f3.a p0.f3.l p0.f3.c])
  have A0_0 := Lib.hid (show Box (w.alloc (.cells #[.int .i64 p0.f0, .slice p0.f1.a p0.f1.l p0.f1.c, .slice p0.f2.a p0.f2.l p0.f2.c, .slice p0.f3.a p0.f3.l p0.f3.c] 48)) (w.heap.size) 48 #[.int .i64 p0.f0, .slice p0.f1.a p0.f1.l p0.f1.c, .slice p0.f2.a p0.f2.l p0.f2.c, .slice p0.f3.a p0.f3.l p0.f3.c] from ax)
  clear ax
  go_enter Try.func4, Try.ntmps4
  go_wp2_with (first
      | ((with_reducible change wpList _ _ _ (Oper.mk (some _) (Op.load 48 _) _ _ _ _ :: _) _ _); refine getBox_list _ rfl 48 _ rfl (w.heap.size) 48 _ A0_0.out (by rfl) _ rfl Try.underlying48 (by kernel_rfl) ?_; simp only [Act.put, List.setIfInBounds_toArray, List.set_cons_zero, List.set_cons_succ]))
  refine (c0.out _ B_0.out).mono ?_
  rintro e w1 ⟨rfl, b1⟩
  have B_1 := Lib.hid (B_0.out.trans (b1.mono B_0.out.size))
  have le_0 := Lib.hid (show (w.alloc (.cells #[.int .i64 p0.f0, .slice p0.f1.a p0.f1.l p0.f1.c, .slice p0.f2.a p0.f2.l p0.f2.c, .slice p0.f3.a p0.f3.l p0.f3.c] 48)).heap.size ≤ w1.heap.size from b1.size)
  have A0_1 := Lib.hid (Box.below A0_0.out b1 A0_0.out.lt)
  clear B_0 A0_0
  clear b1
  go_wp2_with (first
      | ((with_reducible change wpList _ _ _ (Oper.mk (some _) (Op.load 48 _) _ _ _ _ :: _) _ _); refine getBox_list _ rfl 48 _ rfl (w.heap.size) 48 _ A0_1.out (by rfl) _ rfl Try.underlying48 (by kernel_rfl) ?_; simp only [Act.put, List.setIfInBounds_toArray, List.set_cons_zero, List.set_cons_succ]))
  refine (c1.out _ B_1.out).mono ?_
  rintro e w2 ⟨rfl, b2⟩
  have B_2 := Lib.hid (B_1.out.trans (b2.mono B_1.out.size))
  have le_1 := Lib.hid (show w1.heap.size ≤ w2.heap.size from b2.size)
  have A0_2 := Lib.hid (Box.below A0_1.out b2 A0_1.out.lt)
  clear B_1 A0_1
  clear b2
  clear c0 c1
  go_wp2_with (first
      | ((with_reducible change wpList _ _ _ (Oper.mk (some _) (Op.load 48 _) _ _ _ _ :: _) _ _); refine getBox_list _ rfl 48 _ rfl (w.heap.size) 48 _ A0_2.out (by rfl) _ rfl Try.underlying48 (by kernel_rfl) ?_; simp only [Act.put, List.setIfInBounds_toArray, List.set_cons_zero, List.set_cons_succ]))
  refine (t0.out _ B_2.out).mono ?_
  rintro e w3 ⟨qs0, rfl, ox, vx, mx, b3⟩
  have Os0_3 := Lib.hid ox
  have Vs0 := Lib.hid vx
  have RNG_qs0 := Lib.hid (fun k hk => (⟨mx.ge k hk, mx.lt k hk⟩ : w2.heap.size ≤ k ∧ k < w3.heap.size))
  have Zs0_3 := Lib.hid mx.fz
  clear ox vx mx
  have B_3 := Lib.hid (B_2.out.trans (b3.mono B_2.out.size))
  have le_2 := Lib.hid (show w2.heap.size ≤ w3.heap.size from b3.size)
  have A0_3 := Lib.hid (Box.below A0_2.out b3 A0_2.out.lt)
  clear B_2 A0_2
  clear b3
  go_wp2_with (first
      | ((with_reducible change wpList _ _ _ (Oper.mk (some _) (Op.load 48 _) _ _ _ _ :: _) _ _); refine getBox_list _ rfl 48 _ rfl (w.heap.size) 48 _ A0_3.out (by rfl) _ rfl Try.underlying48 (by kernel_rfl) ?_; simp only [Act.put, List.setIfInBounds_toArray, List.set_cons_zero, List.set_cons_succ]))
  refine (t1.out _ B_3.out).mono ?_
  rintro e w4 ⟨qs1, rfl, ox, vx, mx, b4⟩
  have Os1_4 := Lib.hid ox
  have Vs1 := Lib.hid vx
  have RNG_qs1 := Lib.hid (fun k hk => (⟨mx.ge k hk, mx.lt k hk⟩ : w3.heap.size ≤ k ∧ k < w4.heap.size))
  have Zs1_4 := Lib.hid mx.fz
  clear ox vx mx
  have B_4 := Lib.hid (B_3.out.trans (b4.mono B_3.out.size))
  have le_3 := Lib.hid (show w3.heap.size ≤ w4.heap.size from b4.size)
  have A0_4 := Lib.hid (Box.below A0_3.out b4 A0_3.out.lt)
  have Os0_4 := Lib.hid (PairR.md.below Os0_3.out b4)
  have Zs0_4 := Lib.hid (Fzs.below Zs0_3.out b4)
  clear B_3 A0_3 Os0_3 Zs0_3
  clear b4
  go_wp2_with (first
      | ((with_reducible change wpList _ _ _ (Oper.mk (some _) (Op.load 48 _) _ _ _ _ :: _) _ _); refine getBox_list _ rfl 48 _ rfl (w.heap.size) 48 _ A0_4.out (by rfl) _ rfl Try.underlying48 (by kernel_rfl) ?_; simp only [Act.put, List.setIfInBounds_toArray, List.set_cons_zero, List.set_cons_succ]))
  refine (KS.out _ qs0 qs1 Os0_4.out Vs0.out Os1_4.out Vs1.out).mono ?_
  rintro e w5 ⟨qw, rfl, ox, vx, mx, b5⟩
  have Ow_5 := Lib.hid ox
  have Vw := Lib.hid vx
  have RNG_qw := Lib.hid (fun k hk => (⟨mx.ge k hk, mx.lt k hk⟩ : w4.heap.size ≤ k ∧ k < w5.heap.size))
  have Zw_5 := Lib.hid mx.fz
  clear ox vx mx
  have B_5 := Lib.hid (B_4.out.trans (b5.mono B_4.out.size))
  have le_4 := Lib.hid (show w4.heap.size ≤ w5.heap.size from b5.size)
  have A0_5 := Lib.hid (Box.below A0_4.out b5 A0_4.out.lt)
  have Os0_5 := Lib.hid (PairR.md.below Os0_4.out b5)
  have Zs0_5 := Lib.hid (Fzs.below Zs0_4.out b5)
  have Os1_5 := Lib.hid (Lt.ok.below (by decide) Os1_4.out b5)
  have Zs1_5 := Lib.hid (Fzs.below Zs1_4.out b5)
  clear B_4 A0_4 Os0_4 Zs0_4 Os1_4 Zs1_4
  clear b5
  clear Os0_5
  clear Zs0_5
  clear Vs0 RNG_qs0
  clear Os1_5
  clear Zs1_5
  clear Vs1 RNG_qs1
  clear Zw_5
  go_wp2_with (first
      | ((with_reducible change wpList _ _ _ (Oper.mk none (Op.store 53 _ _) _ _ _ _ :: _) _ _); refine setBox_list _ rfl 53 _ _ rfl (w5.heap.size) 53 _ #[.int .i64 qw.f0, .slice qw.f1.a qw.f1.l qw.f1.c] (Box.new w5 53 #[.int .i64 0, .slice none 0 0]) (by rfl) (by rfl) (by kernel_rfl) (by rfl) (by simp [Value.oneCell']) ?_; intro w6 xz gz; have bz := (((Below.refl w5.heap.size w5).alloc (Nat.le_refl _) (.cells #[.int .i64 0, .slice none 0 0] 53)).grown gz (by simp) (fun k e => by cases e; exact Nat.le_refl _)); have B_6 := Lib.hid (B_5.out.trans (bz.mono B_5.out.size)); have le_5 := Lib.hid (show w5.heap.size + 1 ≤ w6.heap.size from xz.lt); have A0_6 := Lib.hid (Box.below A0_5.out bz A0_5.out.lt); have Ow_6 := Lib.hid (BytesResultR.md.below Ow_5.out bz); clear B_5 A0_5 Ow_5; have Xw_6 := Lib.hid xz; clear bz gz xz)
      | ((with_reducible change wpList _ _ _ (Oper.mk (some _) (Op.load 48 _) _ _ _ _ :: _) _ _); refine getBox_list _ rfl 48 _ rfl (w.heap.size) 48 _ A0_6.out (by rfl) _ rfl Try.underlying48 (by kernel_rfl) ?_; simp only [Act.put, List.setIfInBounds_toArray, List.set_cons_zero, List.set_cons_succ])
      | ((with_reducible change wpList _ _ _ (Oper.mk (some _) (Op.load 53 _) _ _ _ _ :: _) _ _); refine getBox_list _ rfl 53 _ rfl (w5.heap.size) 53 _ Xw_6.out (by rfl) _ rfl Try.underlying53 (by kernel_rfl) ?_; simp only [Act.put, List.setIfInBounds_toArray, List.set_cons_zero, List.set_cons_succ]))
  refine (t0.out _ B_6.out).mono ?_
  rintro e w7 ⟨qx0, rfl, ox, vx, mx, b7⟩
  have Ox0_7 := Lib.hid ox
  have Vx0 := Lib.hid vx
  have RNG_qx0 := Lib.hid (fun k hk => (⟨mx.ge k hk, mx.lt k hk⟩ : w6.heap.size ≤ k ∧ k < w7.heap.size))
  have Zx0_7 := Lib.hid mx.fz
  clear ox vx mx
  have B_7 := Lib.hid (B_6.out.trans (b7.mono B_6.out.size))
  have le_6 := Lib.hid (show w6.heap.size ≤ w7.heap.size from b7.size)
  have A0_7 := Lib.hid (Box.below A0_6.out b7 A0_6.out.lt)
  have Ow_7 := Lib.hid (BytesResultR.md.below Ow_6.out b7)
  have Xw_7 := Lib.hid (Box.below Xw_6.out b7 Xw_6.out.lt)
  clear B_6 A0_6 Ow_6 Xw_6
  clear b7
  go_wp2_with (first
      | ((with_reducible change wpList _ _ _ (Oper.mk none (Op.store 59 _ _) _ _ _ _ :: _) _ _); refine setBox_list _ rfl 59 _ _ rfl (w7.heap.size) 59 _ #[.int .i64 qx0.f0, .slice qx0.f1.a qx0.f1.l qx0.f1.c, .slice qx0.f2.a qx0.f2.l qx0.f2.c, .slice qx0.f3.a qx0.f3.l qx0.f3.c] (Box.new w7 59 #[.int .i64 0, .slice none 0 0, .slice none 0 0, .slice none 0 0]) (by rfl) (by rfl) (by kernel_rfl) (by rfl) (by simp [Value.oneCell']) ?_; intro w8 xz gz; have bz := (((Below.refl w7.heap.size w7).alloc (Nat.le_refl _) (.cells #[.int .i64 0, .slice none 0 0, .slice none 0 0, .slice none 0 0] 59)).grown gz (by simp) (fun k e => by cases e; exact Nat.le_refl _)); have B_8 := Lib.hid (B_7.out.trans (bz.mono B_7.out.size)); have le_7 := Lib.hid (show w7.heap.size + 1 ≤ w8.heap.size from xz.lt); have A0_8 := Lib.hid (Box.below A0_7.out bz A0_7.out.lt); have Ow_8 := Lib.hid (BytesResultR.md.below Ow_7.out bz); have Xw_8 := Lib.hid (Box.below Xw_7.out bz Xw_7.out.lt); have Ox0_8 := Lib.hid (PairR.md.below Ox0_7.out bz); have Zx0_8 := Lib.hid (Fzs.below Zx0_7.out bz); clear B_7 A0_7 Ow_7 Xw_7 Ox0_7 Zx0_7; have Xx0_8 := Lib.hid xz; clear bz gz xz)
      | ((with_reducible change wpList _ _ _ (Oper.mk (some _) (Op.load 48 _) _ _ _ _ :: _) _ _); refine getBox_list _ rfl 48 _ rfl (w.heap.size) 48 _ A0_8.out (by rfl) _ rfl Try.underlying48 (by kernel_rfl) ?_; simp only [Act.put, List.setIfInBounds_toArray, List.set_cons_zero, List.set_cons_succ])
      | ((with_reducible change wpList _ _ _ (Oper.mk (some _) (Op.load 53 _) _ _ _ _ :: _) _ _); refine getBox_list _ rfl 53 _ rfl (w5.heap.size) 53 _ Xw_8.out (by rfl) _ rfl Try.underlying53 (by kernel_rfl) ?_; simp only [Act.put, List.setIfInBounds_toArray, List.set_cons_zero, List.set_cons_succ])
      | ((with_reducible change wpList _ _ _ (Oper.mk (some _) (Op.load 59 _) _ _ _ _ :: _) _ _); refine getBox_list _ rfl 59 _ rfl (w7.heap.size) 59 _ Xx0_8.out (by rfl) _ rfl Try.underlying59 (by kernel_rfl) ?_; simp only [Act.put, List.setIfInBounds_toArray, List.set_cons_zero, List.set_cons_succ]))
  refine (t1.out _ B_8.out).mono ?_
  rintro e w9 ⟨qx1, rfl, ox, vx, mx, b9⟩
  have Ox1_9 := Lib.hid ox
  have Vx1 := Lib.hid vx
  have RNG_qx1 := Lib.hid (fun k hk => (⟨mx.ge k hk, mx.lt k hk⟩ : w8.heap.size ≤ k ∧ k < w9.heap.size))
  have Zx1_9 := Lib.hid mx.fz
  clear ox vx mx
  have B_9 := Lib.hid (B_8.out.trans (b9.mono B_8.out.size))
  have le_8 := Lib.hid (show w8.heap.size ≤ w9.heap.size from b9.size)
  have A0_9 := Lib.hid (Box.below A0_8.out b9 A0_8.out.lt)
  have Ow_9 := Lib.hid (BytesResultR.md.below Ow_8.out b9)
  have Xw_9 := Lib.hid (Box.below Xw_8.out b9 Xw_8.out.lt)
  have Ox0_9 := Lib.hid (PairR.md.below Ox0_8.out b9)
  have Zx0_9 := Lib.hid (Fzs.below Zx0_8.out b9)
  have Xx0_9 := Lib.hid (Box.below Xx0_8.out b9 Xx0_8.out.lt)
  clear B_8 A0_8 Ow_8 Xw_8 Ox0_8 Zx0_8 Xx0_8
  clear b9
  go_wp2_with (first
      | ((with_reducible change wpList _ _ _ (Oper.mk (some _) (Op.load 48 _) _ _ _ _ :: _) _ _); refine getBox_list _ rfl 48 _ rfl (w.heap.size) 48 _ A0_9.out (by rfl) _ rfl Try.underlying48 (by kernel_rfl) ?_; simp only [Act.put, List.setIfInBounds_toArray, List.set_cons_zero, List.set_cons_succ])
      | ((with_reducible change wpList _ _ _ (Oper.mk (some _) (Op.load 53 _) _ _ _ _ :: _) _ _); refine getBox_list _ rfl 53 _ rfl (w5.heap.size) 53 _ Xw_9.out (by rfl) _ rfl Try.underlying53 (by kernel_rfl) ?_; simp only [Act.put, List.setIfInBounds_toArray, List.set_cons_zero, List.set_cons_succ])
      | ((with_reducible change wpList _ _ _ (Oper.mk (some _) (Op.load 59 _) _ _ _ _ :: _) _ _); refine getBox_list _ rfl 59 _ rfl (w7.heap.size) 59 _ Xx0_9.out (by rfl) _ rfl Try.underlying59 (by kernel_rfl) ?_; simp only [Act.put, List.setIfInBounds_toArray, List.set_cons_zero, List.set_cons_succ]))
  refine (KI.out _ qx0 qx1 Ox0_9.out Vx0.out Ox1_9.out Vx1.out).mono ?_
  rintro e w10 ⟨qg, rfl, ox, vx, mx, b10⟩
  have Og_10 := Lib.hid ox
  have Vg := Lib.hid vx
  have RNG_qg := Lib.hid (fun k hk => (⟨mx.ge k hk, mx.lt k hk⟩ : w9.heap.size ≤ k ∧ k < w10.heap.size))
  have Zg_10 := Lib.hid mx.fz
  clear ox vx mx
  have B_10 := Lib.hid (B_9.out.trans (b10.mono B_9.out.size))
  have le_9 := Lib.hid (show w9.heap.size ≤ w10.heap.size from b10.size)
  have A0_10 := Lib.hid (Box.below A0_9.out b10 A0_9.out.lt)
  have Ow_10 := Lib.hid (BytesResultR.md.below Ow_9.out b10)
  have Xw_10 := Lib.hid (Box.below Xw_9.out b10 Xw_9.out.lt)
  have Ox0_10 := Lib.hid (PairR.md.below Ox0_9.out b10)
  have Zx0_10 := Lib.hid (Fzs.below Zx0_9.out b10)
  have Xx0_10 := Lib.hid (Box.below Xx0_9.out b10 Xx0_9.out.lt)
  have Ox1_10 := Lib.hid (Lt.ok.below (by decide) Ox1_9.out b10)
  have Zx1_10 := Lib.hid (Fzs.below Zx1_9.out b10)
  clear B_9 A0_9 Ow_9 Xw_9 Ox0_9 Zx0_9 Xx0_9 Ox1_9 Zx1_9
  clear b10
  go_wp2_with (first
      | ((with_reducible change wpList _ _ _ (Oper.mk none (Op.store 53 _ _) _ _ _ _ :: _) _ _); refine setBox_list _ rfl 53 _ _ rfl (w10.heap.size) 53 _ #[.int .i64 qg.f0, .slice qg.f1.a qg.f1.l qg.f1.c] (Box.new w10 53 #[.int .i64 0, .slice none 0 0]) (by rfl) (by rfl) (by kernel_rfl) (by rfl) (by simp [Value.oneCell']) ?_; intro w11 xz gz; have bz := (((Below.refl w10.heap.size w10).alloc (Nat.le_refl _) (.cells #[.int .i64 0, .slice none 0 0] 53)).grown gz (by simp) (fun k e => by cases e; exact Nat.le_refl _)); have B_11 := Lib.hid (B_10.out.trans (bz.mono B_10.out.size)); have le_10 := Lib.hid (show w10.heap.size + 1 ≤ w11.heap.size from xz.lt); have A0_11 := Lib.hid (Box.below A0_10.out bz A0_10.out.lt); have Ow_11 := Lib.hid (BytesResultR.md.below Ow_10.out bz); have Xw_11 := Lib.hid (Box.below Xw_10.out bz Xw_10.out.lt); have Ox0_11 := Lib.hid (PairR.md.below Ox0_10.out bz); have Zx0_11 := Lib.hid (Fzs.below Zx0_10.out bz); have Xx0_11 := Lib.hid (Box.below Xx0_10.out bz Xx0_10.out.lt); have Ox1_11 := Lib.hid (Lt.ok.below (by decide) Ox1_10.out bz); have Zx1_11 := Lib.hid (Fzs.below Zx1_10.out bz); have Og_11 := Lib.hid (BytesResultR.md.below Og_10.out bz); have Zg_11 := Lib.hid (Fzs.below Zg_10.out bz); clear B_10 A0_10 Ow_10 Xw_10 Ox0_10 Zx0_10 Xx0_10 Ox1_10 Zx1_10 Og_10 Zg_10; have Xg_11 := Lib.hid xz; clear bz gz xz)
      | ((with_reducible change wpList _ _ _ (Oper.mk (some _) (Op.load 48 _) _ _ _ _ :: _) _ _); refine getBox_list _ rfl 48 _ rfl (w.heap.size) 48 _ A0_11.out (by rfl) _ rfl Try.underlying48 (by kernel_rfl) ?_; simp only [Act.put, List.setIfInBounds_toArray, List.set_cons_zero, List.set_cons_succ])
      | ((with_reducible change wpList _ _ _ (Oper.mk (some _) (Op.load 53 _) _ _ _ _ :: _) _ _); refine getBox_list _ rfl 53 _ rfl (w5.heap.size) 53 _ Xw_11.out (by rfl) _ rfl Try.underlying53 (by kernel_rfl) ?_; simp only [Act.put, List.setIfInBounds_toArray, List.set_cons_zero, List.set_cons_succ])
      | ((with_reducible change wpList _ _ _ (Oper.mk (some _) (Op.load 59 _) _ _ _ _ :: _) _ _); refine getBox_list _ rfl 59 _ rfl (w7.heap.size) 59 _ Xx0_11.out (by rfl) _ rfl Try.underlying59 (by kernel_rfl) ?_; simp only [Act.put, List.setIfInBounds_toArray, List.set_cons_zero, List.set_cons_succ])
      | ((with_reducible change wpList _ _ _ (Oper.mk (some _) (Op.load 53 _) _ _ _ _ :: _) _ _); refine getBox_list _ rfl 53 _ rfl (w10.heap.size) 53 _ Xg_11.out (by rfl) _ rfl Try.underlying53 (by kernel_rfl) ?_; simp only [Act.put, List.setIfInBounds_toArray, List.set_cons_zero, List.set_cons_succ]))
  refine (eqBytesResult_t qg qw _ Og_11.out Ow_11.out (Vg.out.trans Vw.out.symm)).mono ?_
  rintro e w12 ⟨rfl, b12⟩
  have B_12 := Lib.hid (B_11.out.trans (b12.mono B_11.out.size))
  have le_11 := Lib.hid (show w11.heap.size ≤ w12.heap.size from b12.size)
  have A0_12 := Lib.hid (Box.below A0_11.out b12 A0_11.out.lt)
  have Ow_12 := Lib.hid (BytesResultR.md.below Ow_11.out b12)
  have Xw_12 := Lib.hid (Box.below Xw_11.out b12 Xw_11.out.lt)
  have Ox0_12 := Lib.hid (PairR.md.below Ox0_11.out b12)
  have Zx0_12 := Lib.hid (Fzs.below Zx0_11.out b12)
  have Xx0_12 := Lib.hid (Box.below Xx0_11.out b12 Xx0_11.out.lt)
  have Ox1_12 := Lib.hid (Lt.ok.below (by decide) Ox1_11.out b12)
  have Zx1_12 := Lib.hid (Fzs.below Zx1_11.out b12)
  have Og_12 := Lib.hid (BytesResultR.md.below Og_11.out b12)
  have Zg_12 := Lib.hid (Fzs.below Zg_11.out b12)
  have Xg_12 := Lib.hid (Box.below Xg_11.out b12 Xg_11.out.lt)
  clear B_11 A0_11 Ow_11 Xw_11 Ox0_11 Zx0_11 Xx0_11 Ox1_11 Zx1_11 Og_11 Zg_11 Xg_11
  clear b12
  have y0 : w12.cell? ⟨w7.heap.size, 0, none⟩ = some (.int .i64 qx0.f0) := Xx0_12.out.cell 0
  have y1 : w12.cell? ⟨w7.heap.size, 1, none⟩ = some (.slice qx0.f1.a qx0.f1.l qx0.f1.c) := Xx0_12.out.cell 1
  have y2 : w12.cell? ⟨w7.heap.size, 2, none⟩ = some (.slice qx0.f2.a qx0.f2.l qx0.f2.c) := Xx0_12.out.cell 2
  have y3 : w12.cell? ⟨w7.heap.size, 3, none⟩ = some (.slice qx0.f3.a qx0.f3.l qx0.f3.c) := Xx0_12.out.cell 3
  have y4 : w12.cell? ⟨w.heap.size, 0, none⟩ = some (.int .i64 p0.f0) := A0_12.out.cell 0
  have y5 : w12.cell? ⟨w.heap.size, 1, none⟩ = some (.slice p0.f1.a p0.f1.l p0.f1.c) := A0_12.out.cell 1
  have y6 : w12.cell? ⟨w.heap.size, 2, none⟩ = some (.slice p0.f2.a p0.f2.l p0.f2.c) := A0_12.out.cell 2
  have y7 : w12.cell? ⟨w.heap.size, 3, none⟩ = some (.slice p0.f3.a p0.f3.l p0.f3.c) := A0_12.out.cell 3
  go_wp2_with fail
  go_region_held3 (fun W => W.cell? ⟨w7.heap.size, 0, none⟩ = some (.int .i64 qx0.f0) ∧ W.cell? ⟨w7.heap.size, 1, none⟩ = some (.slice qx0.f1.a qx0.f1.l qx0.f1.c) ∧ W.cell? ⟨w7.heap.size, 2, none⟩ = some (.slice qx0.f2.a qx0.f2.l qx0.f2.c) ∧ W.cell? ⟨w7.heap.size, 3, none⟩ = some (.slice qx0.f3.a qx0.f3.l qx0.f3.c) ∧ W.cell? ⟨w.heap.size, 0, none⟩ = some (.int .i64 p0.f0) ∧ W.cell? ⟨w.heap.size, 1, none⟩ = some (.slice p0.f1.a p0.f1.l p0.f1.c) ∧ W.cell? ⟨w.heap.size, 2, none⟩ = some (.slice p0.f2.a p0.f2.l p0.f2.c) ∧ W.cell? ⟨w.heap.size, 3, none⟩ = some (.slice p0.f3.a p0.f3.l p0.f3.c))
    (first | (go_split_ands; exact ⟨keepK hb (by assumption), keepK hb (by assumption), keepK hb (by assumption), keepK hb (by assumption), keepK hb (by assumption), keepK hb (by assumption), keepK hb (by assumption), keepK hb (by assumption)⟩) | go_keep)
    (first
      | (have z := M1; clear z; go_at_call 27; refine (eqPair_t qx0 qy0 _ (PairR.md.below (PairR.md.drew Ox0_12.out) by1) oy0 (Vx0.out.trans vy0.symm)).mono ?_; rintro e wq0 ⟨rfl, by2⟩; have hb := by2)
      | (go_at_call 23; refine (t0.out _ B_12.out.drew).mono ?_; rintro e wy0 ⟨qy0, rfl, oy0, vy0, my0, by1⟩; have hb := by1; have M1 : Hid True := trivial))
  clear y0 y1 y2 y3 y4 y5 y6 y7
  have bz : Below w12.heap.size w12 wq0 := belowStep (belowStep (Below.refl w12.heap.size w12).drew by1) by2
  obtain ⟨w13, hw13⟩ : ∃ W, W = wq0 := ⟨_, rfl⟩
  rw [← hw13] at bz
  subst hw13
  have B_13 := Lib.hid (B_12.out.trans (bz.mono B_12.out.size))
  have le_12 := Lib.hid (show w12.heap.size ≤ w13.heap.size from bz.size)
  have A0_13 := Lib.hid (Box.below A0_12.out bz A0_12.out.lt)
  have Ow_13 := Lib.hid (BytesResultR.md.below Ow_12.out bz)
  have Xw_13 := Lib.hid (Box.below Xw_12.out bz Xw_12.out.lt)
  have Ox0_13 := Lib.hid (PairR.md.below Ox0_12.out bz)
  have Zx0_13 := Lib.hid (Fzs.below Zx0_12.out bz)
  have Xx0_13 := Lib.hid (Box.below Xx0_12.out bz Xx0_12.out.lt)
  have Ox1_13 := Lib.hid (Lt.ok.below (by decide) Ox1_12.out bz)
  have Zx1_13 := Lib.hid (Fzs.below Zx1_12.out bz)
  have Og_13 := Lib.hid (BytesResultR.md.below Og_12.out bz)
  have Zg_13 := Lib.hid (Fzs.below Zg_12.out bz)
  have Xg_13 := Lib.hid (Box.below Xg_12.out bz Xg_12.out.lt)
  clear B_12 A0_12 Ow_12 Xw_12 Ox0_12 Zx0_12 Xx0_12 Ox1_12 Zx1_12 Og_12 Zg_12 Xg_12
  clear bz hb by1 by2 oy0 vy0 my0 M1
  go_wp2_with (first
      | ((with_reducible change wpList _ _ _ (Oper.mk (some _) (Op.load 48 _) _ _ _ _ :: _) _ _); refine getBox_list _ rfl 48 _ rfl (w.heap.size) 48 _ A0_13.out (by rfl) _ rfl Try.underlying48 (by kernel_rfl) ?_; simp only [Act.put, List.setIfInBounds_toArray, List.set_cons_zero, List.set_cons_succ])
      | ((with_reducible change wpList _ _ _ (Oper.mk (some _) (Op.load 53 _) _ _ _ _ :: _) _ _); refine getBox_list _ rfl 53 _ rfl (w5.heap.size) 53 _ Xw_13.out (by rfl) _ rfl Try.underlying53 (by kernel_rfl) ?_; simp only [Act.put, List.setIfInBounds_toArray, List.set_cons_zero, List.set_cons_succ])
      | ((with_reducible change wpList _ _ _ (Oper.mk (some _) (Op.load 59 _) _ _ _ _ :: _) _ _); refine getBox_list _ rfl 59 _ rfl (w7.heap.size) 59 _ Xx0_13.out (by rfl) _ rfl Try.underlying59 (by kernel_rfl) ?_; simp only [Act.put, List.setIfInBounds_toArray, List.set_cons_zero, List.set_cons_succ])
      | ((with_reducible change wpList _ _ _ (Oper.mk (some _) (Op.load 53 _) _ _ _ _ :: _) _ _); refine getBox_list _ rfl 53 _ rfl (w10.heap.size) 53 _ Xg_13.out (by rfl) _ rfl Try.underlying53 (by kernel_rfl) ?_; simp only [Act.put, List.setIfInBounds_toArray, List.set_cons_zero, List.set_cons_succ]))
  refine (t1.out _ B_13.out).mono ?_
  rintro e w14 ⟨qy1, rfl, ox, vx, mx, b14⟩
  have Oy1_14 := Lib.hid ox
  have Vy1 := Lib.hid vx
  have RNG_qy1 := Lib.hid (fun k hk => (⟨mx.ge k hk, mx.lt k hk⟩ : w13.heap.size ≤ k ∧ k < w14.heap.size))
  have Zy1_14 := Lib.hid mx.fz
  clear ox vx mx
  have B_14 := Lib.hid (B_13.out.trans (b14.mono B_13.out.size))
  have le_13 := Lib.hid (show w13.heap.size ≤ w14.heap.size from b14.size)
  have A0_14 := Lib.hid (Box.below A0_13.out b14 A0_13.out.lt)
  have Ow_14 := Lib.hid (BytesResultR.md.below Ow_13.out b14)
  have Xw_14 := Lib.hid (Box.below Xw_13.out b14 Xw_13.out.lt)
  have Ox0_14 := Lib.hid (PairR.md.below Ox0_13.out b14)
  have Zx0_14 := Lib.hid (Fzs.below Zx0_13.out b14)
  have Xx0_14 := Lib.hid (Box.below Xx0_13.out b14 Xx0_13.out.lt)
  have Ox1_14 := Lib.hid (Lt.ok.below (by decide) Ox1_13.out b14)
  have Zx1_14 := Lib.hid (Fzs.below Zx1_13.out b14)
  have Og_14 := Lib.hid (BytesResultR.md.below Og_13.out b14)
  have Zg_14 := Lib.hid (Fzs.below Zg_13.out b14)
  have Xg_14 := Lib.hid (Box.below Xg_13.out b14 Xg_13.out.lt)
  clear B_13 A0_13 Ow_13 Xw_13 Ox0_13 Zx0_13 Xx0_13 Ox1_13 Zx1_13 Og_13 Zg_13 Xg_13
  clear b14
  go_wp2_with (first
      | ((with_reducible change wpList _ _ _ (Oper.mk (some _) (Op.load 48 _) _ _ _ _ :: _) _ _); refine getBox_list _ rfl 48 _ rfl (w.heap.size) 48 _ A0_14.out (by rfl) _ rfl Try.underlying48 (by kernel_rfl) ?_; simp only [Act.put, List.setIfInBounds_toArray, List.set_cons_zero, List.set_cons_succ])
      | ((with_reducible change wpList _ _ _ (Oper.mk (some _) (Op.load 53 _) _ _ _ _ :: _) _ _); refine getBox_list _ rfl 53 _ rfl (w5.heap.size) 53 _ Xw_14.out (by rfl) _ rfl Try.underlying53 (by kernel_rfl) ?_; simp only [Act.put, List.setIfInBounds_toArray, List.set_cons_zero, List.set_cons_succ])
      | ((with_reducible change wpList _ _ _ (Oper.mk (some _) (Op.load 59 _) _ _ _ _ :: _) _ _); refine getBox_list _ rfl 59 _ rfl (w7.heap.size) 59 _ Xx0_14.out (by rfl) _ rfl Try.underlying59 (by kernel_rfl) ?_; simp only [Act.put, List.setIfInBounds_toArray, List.set_cons_zero, List.set_cons_succ])
      | ((with_reducible change wpList _ _ _ (Oper.mk (some _) (Op.load 53 _) _ _ _ _ :: _) _ _); refine getBox_list _ rfl 53 _ rfl (w10.heap.size) 53 _ Xg_14.out (by rfl) _ rfl Try.underlying53 (by kernel_rfl) ?_; simp only [Act.put, List.setIfInBounds_toArray, List.set_cons_zero, List.set_cons_succ]))
  refine (eqEventS_t qx1 qy1 _ Ox1_14.out Oy1_14.out (Vx1.out.trans Vy1.out.symm)).mono ?_
  rintro e w15 ⟨rfl, b15⟩
  have B_15 := Lib.hid (B_14.out.trans (b15.mono B_14.out.size))
  have le_14 := Lib.hid (show w14.heap.size ≤ w15.heap.size from b15.size)
  have A0_15 := Lib.hid (Box.below A0_14.out b15 A0_14.out.lt)
  have Ow_15 := Lib.hid (BytesResultR.md.below Ow_14.out b15)
  have Xw_15 := Lib.hid (Box.below Xw_14.out b15 Xw_14.out.lt)
  have Ox0_15 := Lib.hid (PairR.md.below Ox0_14.out b15)
  have Zx0_15 := Lib.hid (Fzs.below Zx0_14.out b15)
  have Xx0_15 := Lib.hid (Box.below Xx0_14.out b15 Xx0_14.out.lt)
  have Ox1_15 := Lib.hid (Lt.ok.below (by decide) Ox1_14.out b15)
  have Zx1_15 := Lib.hid (Fzs.below Zx1_14.out b15)
  have Og_15 := Lib.hid (BytesResultR.md.below Og_14.out b15)
  have Zg_15 := Lib.hid (Fzs.below Zg_14.out b15)
  have Xg_15 := Lib.hid (Box.below Xg_14.out b15 Xg_14.out.lt)
  have Oy1_15 := Lib.hid (Lt.ok.below (by decide) Oy1_14.out b15)
  have Zy1_15 := Lib.hid (Fzs.below Zy1_14.out b15)
  clear B_14 A0_14 Ow_14 Xw_14 Ox0_14 Zx0_14 Xx0_14 Ox1_14 Zx1_14 Og_14 Zg_14 Xg_14 Oy1_14 Zy1_14
  clear b15
  clear Oy1_15
  clear Zy1_15
  clear Vy1 RNG_qy1
  have me0 : PairR.pmk qx0 ≤ 16777216 := by have e1 := PairR.pmk_le qx0; have e2 := Vx0.out; have e3 := HN0.out; rw [e2] at e1; omega
  obtain ⟨m0, hm0⟩ : ∃ n, n = PairR.pmk qx0 := ⟨_, rfl⟩
  rw [← hm0] at me0
  have KM0 := Lib.hid (markPair_any qx0 (1) _ Ox0_15.out Zx0_15.out (by rw [← hm0]; exact me0) (by omega))
  rw [← hm0] at KM0
  clear hm0
  go_wp2_with (first
      | ((with_reducible change wpList _ _ _ (Oper.mk (some _) (Op.load 48 _) _ _ _ _ :: _) _ _); refine getBox_list _ rfl 48 _ rfl (w.heap.size) 48 _ A0_15.out (by rfl) _ rfl Try.underlying48 (by kernel_rfl) ?_; simp only [Act.put, List.setIfInBounds_toArray, List.set_cons_zero, List.set_cons_succ])
      | ((with_reducible change wpList _ _ _ (Oper.mk (some _) (Op.load 53 _) _ _ _ _ :: _) _ _); refine getBox_list _ rfl 53 _ rfl (w5.heap.size) 53 _ Xw_15.out (by rfl) _ rfl Try.underlying53 (by kernel_rfl) ?_; simp only [Act.put, List.setIfInBounds_toArray, List.set_cons_zero, List.set_cons_succ])
      | ((with_reducible change wpList _ _ _ (Oper.mk (some _) (Op.load 59 _) _ _ _ _ :: _) _ _); refine getBox_list _ rfl 59 _ rfl (w7.heap.size) 59 _ Xx0_15.out (by rfl) _ rfl Try.underlying59 (by kernel_rfl) ?_; simp only [Act.put, List.setIfInBounds_toArray, List.set_cons_zero, List.set_cons_succ])
      | ((with_reducible change wpList _ _ _ (Oper.mk (some _) (Op.load 53 _) _ _ _ _ :: _) _ _); refine getBox_list _ rfl 53 _ rfl (w10.heap.size) 53 _ Xg_15.out (by rfl) _ rfl Try.underlying53 (by kernel_rfl) ?_; simp only [Act.put, List.setIfInBounds_toArray, List.set_cons_zero, List.set_cons_succ]))
  refine KM0.out.mono ?_
  rintro e w16 ⟨rfl, ox, cx⟩
  clear ox KM0
  have le_15 := Lib.hid (show w15.heap.size ≤ w16.heap.size from cx.size)
  have B_16 := Lib.hid (B_15.out.trans (cx.below B_15.out.size (fun k hk => by have r := RNG_qx0.out k hk; have := le_s.out; have := le_0.out; have := le_1.out; have := le_2.out; have := le_3.out; have := le_4.out; have := le_5.out; have := le_6.out; have := le_7.out; have := le_8.out; have := le_9.out; have := le_10.out; have := le_11.out; have := le_12.out; have := le_13.out; have := le_14.out; omega)))
  have A0_16 := Lib.hid (Box.chg A0_15.out cx (fun hk => by have r := RNG_qx0.out _ hk; have := le_s.out; have := le_0.out; have := le_1.out; have := le_2.out; have := le_3.out; have := le_4.out; have := le_5.out; have := le_6.out; have := le_7.out; have := le_8.out; have := le_9.out; have := le_10.out; have := le_11.out; have := le_12.out; have := le_13.out; have := le_14.out; omega))
  have Ow_16 := Lib.hid (BytesResultR.md.chg Ow_15.out cx (fun k hk hk2 => by have r := RNG_qx0.out k hk2; have r2 := RNG_qw.out k hk; have := le_s.out; have := le_0.out; have := le_1.out; have := le_2.out; have := le_3.out; have := le_4.out; have := le_5.out; have := le_6.out; have := le_7.out; have := le_8.out; have := le_9.out; have := le_10.out; have := le_11.out; have := le_12.out; have := le_13.out; have := le_14.out; omega))
  have Xw_16 := Lib.hid (Box.chg Xw_15.out cx (fun hk => by have r := RNG_qx0.out _ hk; have := le_s.out; have := le_0.out; have := le_1.out; have := le_2.out; have := le_3.out; have := le_4.out; have := le_5.out; have := le_6.out; have := le_7.out; have := le_8.out; have := le_9.out; have := le_10.out; have := le_11.out; have := le_12.out; have := le_13.out; have := le_14.out; omega))
  have Ox1_16 := Lib.hid (Lt.ok.chg (by decide) Ox1_15.out cx (fun k hk hk2 => by have r := RNG_qx0.out k hk2; have r2 := RNG_qx1.out k hk; have := le_s.out; have := le_0.out; have := le_1.out; have := le_2.out; have := le_3.out; have := le_4.out; have := le_5.out; have := le_6.out; have := le_7.out; have := le_8.out; have := le_9.out; have := le_10.out; have := le_11.out; have := le_12.out; have := le_13.out; have := le_14.out; omega))
  have Zx1_16 := Lib.hid (Fzs.chg Zx1_15.out cx)
  have Og_16 := Lib.hid (BytesResultR.md.chg Og_15.out cx (fun k hk hk2 => by have r := RNG_qx0.out k hk2; have r2 := RNG_qg.out k hk; have := le_s.out; have := le_0.out; have := le_1.out; have := le_2.out; have := le_3.out; have := le_4.out; have := le_5.out; have := le_6.out; have := le_7.out; have := le_8.out; have := le_9.out; have := le_10.out; have := le_11.out; have := le_12.out; have := le_13.out; have := le_14.out; omega))
  have Zg_16 := Lib.hid (Fzs.chg Zg_15.out cx)
  have Xg_16 := Lib.hid (Box.chg Xg_15.out cx (fun hk => by have r := RNG_qx0.out _ hk; have := le_s.out; have := le_0.out; have := le_1.out; have := le_2.out; have := le_3.out; have := le_4.out; have := le_5.out; have := le_6.out; have := le_7.out; have := le_8.out; have := le_9.out; have := le_10.out; have := le_11.out; have := le_12.out; have := le_13.out; have := le_14.out; omega))
  clear B_15 A0_15 Ow_15 Xw_15 Ox1_15 Zx1_15 Og_15 Zg_15 Xg_15
  clear cx Ox0_15 Zx0_15 Xx0_15
  have me1 : sw EventR.mkn qx1.rs ≤ 16777216 := by
    have e1 := sw_le (f := EventV.mrk) (g := EventV.wt) 16 (rs := qx1.rs.map EventR.val) (fun z _ => Nat.le_trans (EventV.mrk_le z) (by omega))
    rw [sw_map, show sw (fun z => EventV.mrk (EventR.val z)) qx1.rs = sw EventR.mkn qx1.rs from rfl, Vx1.out, show (p1.rs.map EventR.val).length + sw EventV.wt (p1.rs.map EventR.val) = n1 from HN1.out.symm] at e1
    omega
  obtain ⟨m1, hm1⟩ : ∃ n, n = sw EventR.mkn qx1.rs := ⟨_, rfl⟩
  rw [← hm1] at me1
  have KM1 := Lib.hid (markEventS_any qx1 (1 + m0) _ Ox1_16.out Zx1_16.out (by rw [← hm1]; exact me1) (by omega))
  rw [← hm1] at KM1
  clear hm1
  go_wp2_with (first
      | ((with_reducible change wpList _ _ _ (Oper.mk (some _) (Op.load 48 _) _ _ _ _ :: _) _ _); refine getBox_list _ rfl 48 _ rfl (w.heap.size) 48 _ A0_16.out (by rfl) _ rfl Try.underlying48 (by kernel_rfl) ?_; simp only [Act.put, List.setIfInBounds_toArray, List.set_cons_zero, List.set_cons_succ])
      | ((with_reducible change wpList _ _ _ (Oper.mk (some _) (Op.load 53 _) _ _ _ _ :: _) _ _); refine getBox_list _ rfl 53 _ rfl (w5.heap.size) 53 _ Xw_16.out (by rfl) _ rfl Try.underlying53 (by kernel_rfl) ?_; simp only [Act.put, List.setIfInBounds_toArray, List.set_cons_zero, List.set_cons_succ])
      | ((with_reducible change wpList _ _ _ (Oper.mk (some _) (Op.load 53 _) _ _ _ _ :: _) _ _); refine getBox_list _ rfl 53 _ rfl (w10.heap.size) 53 _ Xg_16.out (by rfl) _ rfl Try.underlying53 (by kernel_rfl) ?_; simp only [Act.put, List.setIfInBounds_toArray, List.set_cons_zero, List.set_cons_succ]))
  refine KM1.out.mono ?_
  rintro e w17 ⟨rfl, ox, cx⟩
  clear ox KM1
  have le_16 := Lib.hid (show w16.heap.size ≤ w17.heap.size from cx.size)
  have B_17 := Lib.hid (B_16.out.trans (cx.below B_16.out.size (fun k hk => by have r := RNG_qx1.out k hk; have := le_s.out; have := le_0.out; have := le_1.out; have := le_2.out; have := le_3.out; have := le_4.out; have := le_5.out; have := le_6.out; have := le_7.out; have := le_8.out; have := le_9.out; have := le_10.out; have := le_11.out; have := le_12.out; have := le_13.out; have := le_14.out; have := le_15.out; omega)))
  have A0_17 := Lib.hid (Box.chg A0_16.out cx (fun hk => by have r := RNG_qx1.out _ hk; have := le_s.out; have := le_0.out; have := le_1.out; have := le_2.out; have := le_3.out; have := le_4.out; have := le_5.out; have := le_6.out; have := le_7.out; have := le_8.out; have := le_9.out; have := le_10.out; have := le_11.out; have := le_12.out; have := le_13.out; have := le_14.out; have := le_15.out; omega))
  have Ow_17 := Lib.hid (BytesResultR.md.chg Ow_16.out cx (fun k hk hk2 => by have r := RNG_qx1.out k hk2; have r2 := RNG_qw.out k hk; have := le_s.out; have := le_0.out; have := le_1.out; have := le_2.out; have := le_3.out; have := le_4.out; have := le_5.out; have := le_6.out; have := le_7.out; have := le_8.out; have := le_9.out; have := le_10.out; have := le_11.out; have := le_12.out; have := le_13.out; have := le_14.out; have := le_15.out; omega))
  have Xw_17 := Lib.hid (Box.chg Xw_16.out cx (fun hk => by have r := RNG_qx1.out _ hk; have := le_s.out; have := le_0.out; have := le_1.out; have := le_2.out; have := le_3.out; have := le_4.out; have := le_5.out; have := le_6.out; have := le_7.out; have := le_8.out; have := le_9.out; have := le_10.out; have := le_11.out; have := le_12.out; have := le_13.out; have := le_14.out; have := le_15.out; omega))
  have Og_17 := Lib.hid (BytesResultR.md.chg Og_16.out cx (fun k hk hk2 => by have r := RNG_qx1.out k hk2; have r2 := RNG_qg.out k hk; have := le_s.out; have := le_0.out; have := le_1.out; have := le_2.out; have := le_3.out; have := le_4.out; have := le_5.out; have := le_6.out; have := le_7.out; have := le_8.out; have := le_9.out; have := le_10.out; have := le_11.out; have := le_12.out; have := le_13.out; have := le_14.out; have := le_15.out; omega))
  have Zg_17 := Lib.hid (Fzs.chg Zg_16.out cx)
  have Xg_17 := Lib.hid (Box.chg Xg_16.out cx (fun hk => by have r := RNG_qx1.out _ hk; have := le_s.out; have := le_0.out; have := le_1.out; have := le_2.out; have := le_3.out; have := le_4.out; have := le_5.out; have := le_6.out; have := le_7.out; have := le_8.out; have := le_9.out; have := le_10.out; have := le_11.out; have := le_12.out; have := le_13.out; have := le_14.out; have := le_15.out; omega))
  clear B_16 A0_16 Ow_16 Xw_16 Og_16 Zg_16 Xg_16
  clear cx Ox1_16 Zx1_16
  have nk : ¬ ((1 + m0 + m1 : Nat) : Int) < 0 := by omega
  have nk2 : ¬ ((1 : Int) + (m0 : Int) + (m1 : Int)) < 0 := by omega
  have y0 : w17.cell? ⟨w10.heap.size, 0, none⟩ = some (.int .i64 qg.f0) := Xg_17.out.cell 0
  have y1 : w17.cell? ⟨w10.heap.size, 1, none⟩ = some (.slice qg.f1.a qg.f1.l qg.f1.c) := Xg_17.out.cell 1
  have y2 : w17.cell? ⟨w5.heap.size, 0, none⟩ = some (.int .i64 qw.f0) := Xw_17.out.cell 0
  have y3 : w17.cell? ⟨w5.heap.size, 1, none⟩ = some (.slice qw.f1.a qw.f1.l qw.f1.c) := Xw_17.out.cell 1
  go_wp2_with (first
      | ((with_reducible change wpList _ _ _ (Oper.mk (some _) (Op.load 48 _) _ _ _ _ :: _) _ _); refine getBox_list _ rfl 48 _ rfl (w.heap.size) 48 _ A0_17.out (by rfl) _ rfl Try.underlying48 (by kernel_rfl) ?_; simp only [Act.put, List.setIfInBounds_toArray, List.set_cons_zero, List.set_cons_succ])
      | ((with_reducible change wpList _ _ _ (Oper.mk (some _) (Op.load 53 _) _ _ _ _ :: _) _ _); refine getBox_list _ rfl 53 _ rfl (w5.heap.size) 53 _ Xw_17.out (by rfl) _ rfl Try.underlying53 (by kernel_rfl) ?_; simp only [Act.put, List.setIfInBounds_toArray, List.set_cons_zero, List.set_cons_succ])
      | ((with_reducible change wpList _ _ _ (Oper.mk (some _) (Op.load 53 _) _ _ _ _ :: _) _ _); refine getBox_list _ rfl 53 _ rfl (w10.heap.size) 53 _ Xg_17.out (by rfl) _ rfl Try.underlying53 (by kernel_rfl) ?_; simp only [Act.put, List.setIfInBounds_toArray, List.set_cons_zero, List.set_cons_succ]))
  refine (eqBytesResult_t qg qw _ Og_17.out Ow_17.out (Vg.out.trans Vw.out.symm)).mono ?_
  rintro e w18 ⟨rfl, b18⟩
  have B_18 := Lib.hid (B_17.out.trans (b18.mono B_17.out.size))
  have le_17 := Lib.hid (show w17.heap.size ≤ w18.heap.size from b18.size)
  have A0_18 := Lib.hid (Box.below A0_17.out b18 A0_17.out.lt)
  have Ow_18 := Lib.hid (BytesResultR.md.below Ow_17.out b18)
  have Xw_18 := Lib.hid (Box.below Xw_17.out b18 Xw_17.out.lt)
  have Og_18 := Lib.hid (BytesResultR.md.below Og_17.out b18)
  have Zg_18 := Lib.hid (Fzs.below Zg_17.out b18)
  have Xg_18 := Lib.hid (Box.below Xg_17.out b18 Xg_17.out.lt)
  clear B_17 A0_17 Ow_17 Xw_17 Og_17 Zg_17 Xg_17
  clear b18
  clear nk nk2 y0 y1 y2 y3
  have me : BytesResultR.pmk qg ≤ 16777216 := by have e1 := BytesResultR.pmk_le qg; have e2 := Vg.out; have e3 := HVW.out; rw [e2] at e1; omega
  have KMg := Lib.hid (markBytesResult_any qg 1 _ Og_18.out Zg_18.out me (by omega))
  have ZOK := Lib.hid (BytesResultR.zok_of Og_18.out)
  obtain ⟨mg, hmg⟩ : ∃ n, n = BytesResultR.pmk qg := ⟨_, rfl⟩
  have HMG := Lib.hid hmg
  have meg : mg ≤ 16777216 := by rw [hmg]; exact me
  rw [← hmg] at KMg
  clear hmg me
  go_wp2_with (first
      | ((with_reducible change wpList _ _ _ (Oper.mk (some _) (Op.load 48 _) _ _ _ _ :: _) _ _); refine getBox_list _ rfl 48 _ rfl (w.heap.size) 48 _ A0_18.out (by rfl) _ rfl Try.underlying48 (by kernel_rfl) ?_; simp only [Act.put, List.setIfInBounds_toArray, List.set_cons_zero, List.set_cons_succ])
      | ((with_reducible change wpList _ _ _ (Oper.mk (some _) (Op.load 53 _) _ _ _ _ :: _) _ _); refine getBox_list _ rfl 53 _ rfl (w5.heap.size) 53 _ Xw_18.out (by rfl) _ rfl Try.underlying53 (by kernel_rfl) ?_; simp only [Act.put, List.setIfInBounds_toArray, List.set_cons_zero, List.set_cons_succ])
      | ((with_reducible change wpList _ _ _ (Oper.mk (some _) (Op.load 53 _) _ _ _ _ :: _) _ _); refine getBox_list _ rfl 53 _ rfl (w10.heap.size) 53 _ Xg_18.out (by rfl) _ rfl Try.underlying53 (by kernel_rfl) ?_; simp only [Act.put, List.setIfInBounds_toArray, List.set_cons_zero, List.set_cons_succ]))
  refine KMg.out.mono ?_
  rintro e w19 ⟨rfl, ox, cx⟩
  have Om_19 : Hid (BytesResultR.ok w19 (BytesResultR.pmark 1 qg)) := ox
  clear ox KMg
  have le_18 := Lib.hid (show w18.heap.size ≤ w19.heap.size from cx.size)
  have B_19 := Lib.hid (B_18.out.trans (cx.below B_18.out.size (fun k hk => by have r := RNG_qg.out k hk; have := le_s.out; have := le_0.out; have := le_1.out; have := le_2.out; have := le_3.out; have := le_4.out; have := le_5.out; have := le_6.out; have := le_7.out; have := le_8.out; have := le_9.out; have := le_10.out; have := le_11.out; have := le_12.out; have := le_13.out; have := le_14.out; have := le_15.out; have := le_16.out; have := le_17.out; omega)))
  have A0_19 := Lib.hid (Box.chg A0_18.out cx (fun hk => by have r := RNG_qg.out _ hk; have := le_s.out; have := le_0.out; have := le_1.out; have := le_2.out; have := le_3.out; have := le_4.out; have := le_5.out; have := le_6.out; have := le_7.out; have := le_8.out; have := le_9.out; have := le_10.out; have := le_11.out; have := le_12.out; have := le_13.out; have := le_14.out; have := le_15.out; have := le_16.out; have := le_17.out; omega))
  have Ow_19 := Lib.hid (BytesResultR.md.chg Ow_18.out cx (fun k hk hk2 => by have r := RNG_qg.out k hk2; have r2 := RNG_qw.out k hk; have := le_s.out; have := le_0.out; have := le_1.out; have := le_2.out; have := le_3.out; have := le_4.out; have := le_5.out; have := le_6.out; have := le_7.out; have := le_8.out; have := le_9.out; have := le_10.out; have := le_11.out; have := le_12.out; have := le_13.out; have := le_14.out; have := le_15.out; have := le_16.out; have := le_17.out; omega))
  have Xw_19 := Lib.hid (Box.chg Xw_18.out cx (fun hk => by have r := RNG_qg.out _ hk; have := le_s.out; have := le_0.out; have := le_1.out; have := le_2.out; have := le_3.out; have := le_4.out; have := le_5.out; have := le_6.out; have := le_7.out; have := le_8.out; have := le_9.out; have := le_10.out; have := le_11.out; have := le_12.out; have := le_13.out; have := le_14.out; have := le_15.out; have := le_16.out; have := le_17.out; omega))
  have Xg_19 := Lib.hid (Box.chg Xg_18.out cx (fun hk => by have r := RNG_qg.out _ hk; have := le_s.out; have := le_0.out; have := le_1.out; have := le_2.out; have := le_3.out; have := le_4.out; have := le_5.out; have := le_6.out; have := le_7.out; have := le_8.out; have := le_9.out; have := le_10.out; have := le_11.out; have := le_12.out; have := le_13.out; have := le_14.out; have := le_15.out; have := le_16.out; have := le_17.out; omega))
  clear B_18 A0_18 Ow_18 Xw_18 Xg_18
  clear cx Og_18 Zg_18
  have KH := Lib.hid (heldBytesResult_any qg 1 _ Om_19.out ZOK.out (by rw [← HMG.out]; exact meg) (by omega))
  rw [← HMG.out] at KH
  have nh : ¬ ((1 + mg : Nat) : Int) < 0 := by omega
  have ne : (((1 + mg : Nat) : Int) != ((1 + mg : Nat) : Int)) = false := by simp
  go_wp2_with (first
      | ((with_reducible change wpList _ _ _ (Oper.mk (some _) (Op.load 48 _) _ _ _ _ :: _) _ _); refine getBox_list _ rfl 48 _ rfl (w.heap.size) 48 _ A0_19.out (by rfl) _ rfl Try.underlying48 (by kernel_rfl) ?_; simp only [Act.put, List.setIfInBounds_toArray, List.set_cons_zero, List.set_cons_succ])
      | ((with_reducible change wpList _ _ _ (Oper.mk (some _) (Op.load 53 _) _ _ _ _ :: _) _ _); refine getBox_list _ rfl 53 _ rfl (w5.heap.size) 53 _ Xw_19.out (by rfl) _ rfl Try.underlying53 (by kernel_rfl) ?_; simp only [Act.put, List.setIfInBounds_toArray, List.set_cons_zero, List.set_cons_succ])
      | ((with_reducible change wpList _ _ _ (Oper.mk (some _) (Op.load 53 _) _ _ _ _ :: _) _ _); refine getBox_list _ rfl 53 _ rfl (w10.heap.size) 53 _ Xg_19.out (by rfl) _ rfl Try.underlying53 (by kernel_rfl) ?_; simp only [Act.put, List.setIfInBounds_toArray, List.set_cons_zero, List.set_cons_succ]))
  refine (KH.out).mono ?_
  rintro e w20 ⟨rfl, b20⟩
  have B_20 := Lib.hid (B_19.out.trans (b20.mono B_19.out.size))
  have le_19 := Lib.hid (show w19.heap.size ≤ w20.heap.size from b20.size)
  have A0_20 := Lib.hid (Box.below A0_19.out b20 A0_19.out.lt)
  have Ow_20 := Lib.hid (BytesResultR.md.below Ow_19.out b20)
  have Xw_20 := Lib.hid (Box.below Xw_19.out b20 Xw_19.out.lt)
  have Xg_20 := Lib.hid (Box.below Xg_19.out b20 Xg_19.out.lt)
  have Om_20 := Lib.hid (BytesResultR.md.below Om_19.out b20)
  clear B_19 A0_19 Ow_19 Xw_19 Xg_19 Om_19
  clear b20
  clear KH
  go_wp2_with (first
      | ((with_reducible change wpList _ _ _ (Oper.mk (some _) (Op.load 48 _) _ _ _ _ :: _) _ _); refine getBox_list _ rfl 48 _ rfl (w.heap.size) 48 _ A0_20.out (by rfl) _ rfl Try.underlying48 (by kernel_rfl) ?_; simp only [Act.put, List.setIfInBounds_toArray, List.set_cons_zero, List.set_cons_succ])
      | ((with_reducible change wpList _ _ _ (Oper.mk (some _) (Op.load 53 _) _ _ _ _ :: _) _ _); refine getBox_list _ rfl 53 _ rfl (w5.heap.size) 53 _ Xw_20.out (by rfl) _ rfl Try.underlying53 (by kernel_rfl) ?_; simp only [Act.put, List.setIfInBounds_toArray, List.set_cons_zero, List.set_cons_succ])
      | ((with_reducible change wpList _ _ _ (Oper.mk (some _) (Op.load 53 _) _ _ _ _ :: _) _ _); refine getBox_list _ rfl 53 _ rfl (w10.heap.size) 53 _ Xg_20.out (by rfl) _ rfl Try.underlying53 (by kernel_rfl) ?_; simp only [Act.put, List.setIfInBounds_toArray, List.set_cons_zero, List.set_cons_succ]))
  refine (t0.out _ B_20.out).mono ?_
  rintro e w21 ⟨qt0, rfl, ox, vx, mx, b21⟩
  have Ot0_21 := Lib.hid ox
  have Vt0 := Lib.hid vx
  have RNG_qt0 := Lib.hid (fun k hk => (⟨mx.ge k hk, mx.lt k hk⟩ : w20.heap.size ≤ k ∧ k < w21.heap.size))
  have Zt0_21 := Lib.hid mx.fz
  clear ox vx mx
  have B_21 := Lib.hid (B_20.out.trans (b21.mono B_20.out.size))
  have le_20 := Lib.hid (show w20.heap.size ≤ w21.heap.size from b21.size)
  have A0_21 := Lib.hid (Box.below A0_20.out b21 A0_20.out.lt)
  have Ow_21 := Lib.hid (BytesResultR.md.below Ow_20.out b21)
  have Xw_21 := Lib.hid (Box.below Xw_20.out b21 Xw_20.out.lt)
  have Xg_21 := Lib.hid (Box.below Xg_20.out b21 Xg_20.out.lt)
  have Om_21 := Lib.hid (BytesResultR.md.below Om_20.out b21)
  clear B_20 A0_20 Ow_20 Xw_20 Xg_20 Om_20
  clear b21
  go_wp2_with (first
      | ((with_reducible change wpList _ _ _ (Oper.mk (some _) (Op.load 48 _) _ _ _ _ :: _) _ _); refine getBox_list _ rfl 48 _ rfl (w.heap.size) 48 _ A0_21.out (by rfl) _ rfl Try.underlying48 (by kernel_rfl) ?_; simp only [Act.put, List.setIfInBounds_toArray, List.set_cons_zero, List.set_cons_succ])
      | ((with_reducible change wpList _ _ _ (Oper.mk (some _) (Op.load 53 _) _ _ _ _ :: _) _ _); refine getBox_list _ rfl 53 _ rfl (w5.heap.size) 53 _ Xw_21.out (by rfl) _ rfl Try.underlying53 (by kernel_rfl) ?_; simp only [Act.put, List.setIfInBounds_toArray, List.set_cons_zero, List.set_cons_succ])
      | ((with_reducible change wpList _ _ _ (Oper.mk (some _) (Op.load 53 _) _ _ _ _ :: _) _ _); refine getBox_list _ rfl 53 _ rfl (w10.heap.size) 53 _ Xg_21.out (by rfl) _ rfl Try.underlying53 (by kernel_rfl) ?_; simp only [Act.put, List.setIfInBounds_toArray, List.set_cons_zero, List.set_cons_succ]))
  refine (t1.out _ B_21.out).mono ?_
  rintro e w22 ⟨qt1, rfl, ox, vx, mx, b22⟩
  have Ot1_22 := Lib.hid ox
  have Vt1 := Lib.hid vx
  have RNG_qt1 := Lib.hid (fun k hk => (⟨mx.ge k hk, mx.lt k hk⟩ : w21.heap.size ≤ k ∧ k < w22.heap.size))
  have Zt1_22 := Lib.hid mx.fz
  clear ox vx mx
  have B_22 := Lib.hid (B_21.out.trans (b22.mono B_21.out.size))
  have le_21 := Lib.hid (show w21.heap.size ≤ w22.heap.size from b22.size)
  have A0_22 := Lib.hid (Box.below A0_21.out b22 A0_21.out.lt)
  have Ow_22 := Lib.hid (BytesResultR.md.below Ow_21.out b22)
  have Xw_22 := Lib.hid (Box.below Xw_21.out b22 Xw_21.out.lt)
  have Xg_22 := Lib.hid (Box.below Xg_21.out b22 Xg_21.out.lt)
  have Om_22 := Lib.hid (BytesResultR.md.below Om_21.out b22)
  have Ot0_22 := Lib.hid (PairR.md.below Ot0_21.out b22)
  have Zt0_22 := Lib.hid (Fzs.below Zt0_21.out b22)
  clear B_21 A0_21 Ow_21 Xw_21 Xg_21 Om_21 Ot0_21 Zt0_21
  clear b22
  go_wp2_with (first
      | ((with_reducible change wpList _ _ _ (Oper.mk (some _) (Op.load 48 _) _ _ _ _ :: _) _ _); refine getBox_list _ rfl 48 _ rfl (w.heap.size) 48 _ A0_22.out (by rfl) _ rfl Try.underlying48 (by kernel_rfl) ?_; simp only [Act.put, List.setIfInBounds_toArray, List.set_cons_zero, List.set_cons_succ])
      | ((with_reducible change wpList _ _ _ (Oper.mk (some _) (Op.load 53 _) _ _ _ _ :: _) _ _); refine getBox_list _ rfl 53 _ rfl (w5.heap.size) 53 _ Xw_22.out (by rfl) _ rfl Try.underlying53 (by kernel_rfl) ?_; simp only [Act.put, List.setIfInBounds_toArray, List.set_cons_zero, List.set_cons_succ])
      | ((with_reducible change wpList _ _ _ (Oper.mk (some _) (Op.load 53 _) _ _ _ _ :: _) _ _); refine getBox_list _ rfl 53 _ rfl (w10.heap.size) 53 _ Xg_22.out (by rfl) _ rfl Try.underlying53 (by kernel_rfl) ?_; simp only [Act.put, List.setIfInBounds_toArray, List.set_cons_zero, List.set_cons_succ]))
  refine (KI.out _ qt0 qt1 Ot0_22.out Vt0.out Ot1_22.out Vt1.out).mono ?_
  rintro e w23 ⟨qh, rfl, ox, vx, mx, b23⟩
  have Oh_23 := Lib.hid ox
  have Vh := Lib.hid vx
  have RNG_qh := Lib.hid (fun k hk => (⟨mx.ge k hk, mx.lt k hk⟩ : w22.heap.size ≤ k ∧ k < w23.heap.size))
  have Zh_23 := Lib.hid mx.fz
  clear ox vx mx
  have B_23 := Lib.hid (B_22.out.trans (b23.mono B_22.out.size))
  have le_22 := Lib.hid (show w22.heap.size ≤ w23.heap.size from b23.size)
  have A0_23 := Lib.hid (Box.below A0_22.out b23 A0_22.out.lt)
  have Ow_23 := Lib.hid (BytesResultR.md.below Ow_22.out b23)
  have Xw_23 := Lib.hid (Box.below Xw_22.out b23 Xw_22.out.lt)
  have Xg_23 := Lib.hid (Box.below Xg_22.out b23 Xg_22.out.lt)
  have Om_23 := Lib.hid (BytesResultR.md.below Om_22.out b23)
  have Ot0_23 := Lib.hid (PairR.md.below Ot0_22.out b23)
  have Zt0_23 := Lib.hid (Fzs.below Zt0_22.out b23)
  have Ot1_23 := Lib.hid (Lt.ok.below (by decide) Ot1_22.out b23)
  have Zt1_23 := Lib.hid (Fzs.below Zt1_22.out b23)
  clear B_22 A0_22 Ow_22 Xw_22 Xg_22 Om_22 Ot0_22 Zt0_22 Ot1_22 Zt1_22
  clear b23
  clear Ot0_23
  clear Zt0_23
  clear Vt0 RNG_qt0
  clear Ot1_23
  clear Zt1_23
  clear Vt1 RNG_qt1
  clear Zh_23
  go_wp2_with (first
      | ((with_reducible change wpList _ _ _ (Oper.mk none (Op.store 53 _ _) _ _ _ _ :: _) _ _); refine setBox_list _ rfl 53 _ _ rfl (w23.heap.size) 53 _ #[.int .i64 qh.f0, .slice qh.f1.a qh.f1.l qh.f1.c] (Box.new w23 53 #[.int .i64 0, .slice none 0 0]) (by rfl) (by rfl) (by kernel_rfl) (by rfl) (by simp [Value.oneCell']) ?_; intro w24 xz gz; have bz := (((Below.refl w23.heap.size w23).alloc (Nat.le_refl _) (.cells #[.int .i64 0, .slice none 0 0] 53)).grown gz (by simp) (fun k e => by cases e; exact Nat.le_refl _)); have B_24 := Lib.hid (B_23.out.trans (bz.mono B_23.out.size)); have le_23 := Lib.hid (show w23.heap.size + 1 ≤ w24.heap.size from xz.lt); have A0_24 := Lib.hid (Box.below A0_23.out bz A0_23.out.lt); have Ow_24 := Lib.hid (BytesResultR.md.below Ow_23.out bz); have Xw_24 := Lib.hid (Box.below Xw_23.out bz Xw_23.out.lt); have Xg_24 := Lib.hid (Box.below Xg_23.out bz Xg_23.out.lt); have Om_24 := Lib.hid (BytesResultR.md.below Om_23.out bz); have Oh_24 := Lib.hid (BytesResultR.md.below Oh_23.out bz); clear B_23 A0_23 Ow_23 Xw_23 Xg_23 Om_23 Oh_23; have Xh_24 := Lib.hid xz; clear bz gz xz)
      | ((with_reducible change wpList _ _ _ (Oper.mk (some _) (Op.load 48 _) _ _ _ _ :: _) _ _); refine getBox_list _ rfl 48 _ rfl (w.heap.size) 48 _ A0_24.out (by rfl) _ rfl Try.underlying48 (by kernel_rfl) ?_; simp only [Act.put, List.setIfInBounds_toArray, List.set_cons_zero, List.set_cons_succ])
      | ((with_reducible change wpList _ _ _ (Oper.mk (some _) (Op.load 53 _) _ _ _ _ :: _) _ _); refine getBox_list _ rfl 53 _ rfl (w5.heap.size) 53 _ Xw_24.out (by rfl) _ rfl Try.underlying53 (by kernel_rfl) ?_; simp only [Act.put, List.setIfInBounds_toArray, List.set_cons_zero, List.set_cons_succ])
      | ((with_reducible change wpList _ _ _ (Oper.mk (some _) (Op.load 53 _) _ _ _ _ :: _) _ _); refine getBox_list _ rfl 53 _ rfl (w10.heap.size) 53 _ Xg_24.out (by rfl) _ rfl Try.underlying53 (by kernel_rfl) ?_; simp only [Act.put, List.setIfInBounds_toArray, List.set_cons_zero, List.set_cons_succ])
      | ((with_reducible change wpList _ _ _ (Oper.mk (some _) (Op.load 53 _) _ _ _ _ :: _) _ _); refine getBox_list _ rfl 53 _ rfl (w23.heap.size) 53 _ Xh_24.out (by rfl) _ rfl Try.underlying53 (by kernel_rfl) ?_; simp only [Act.put, List.setIfInBounds_toArray, List.set_cons_zero, List.set_cons_succ]))
  refine (eqBytesResult_t qh qw _ Oh_24.out Ow_24.out (Vh.out.trans Vw.out.symm)).mono ?_
  rintro e w25 ⟨rfl, b25⟩
  have B_25 := Lib.hid (B_24.out.trans (b25.mono B_24.out.size))
  have le_24 := Lib.hid (show w24.heap.size ≤ w25.heap.size from b25.size)
  have A0_25 := Lib.hid (Box.below A0_24.out b25 A0_24.out.lt)
  have Ow_25 := Lib.hid (BytesResultR.md.below Ow_24.out b25)
  have Xw_25 := Lib.hid (Box.below Xw_24.out b25 Xw_24.out.lt)
  have Xg_25 := Lib.hid (Box.below Xg_24.out b25 Xg_24.out.lt)
  have Om_25 := Lib.hid (BytesResultR.md.below Om_24.out b25)
  have Oh_25 := Lib.hid (BytesResultR.md.below Oh_24.out b25)
  have Xh_25 := Lib.hid (Box.below Xh_24.out b25 Xh_24.out.lt)
  clear B_24 A0_24 Ow_24 Xw_24 Xg_24 Om_24 Oh_24 Xh_24
  clear b25
  have KH := Lib.hid (heldBytesResult_any qg 1 _ Om_25.out ZOK.out (by rw [← HMG.out]; exact meg) (by omega))
  rw [← HMG.out] at KH
  have nh : ¬ ((1 + mg : Nat) : Int) < 0 := by omega
  have ne : (((1 + mg : Nat) : Int) != ((1 + mg : Nat) : Int)) = false := by simp
  go_wp2_with (first
      | ((with_reducible change wpList _ _ _ (Oper.mk (some _) (Op.load 48 _) _ _ _ _ :: _) _ _); refine getBox_list _ rfl 48 _ rfl (w.heap.size) 48 _ A0_25.out (by rfl) _ rfl Try.underlying48 (by kernel_rfl) ?_; simp only [Act.put, List.setIfInBounds_toArray, List.set_cons_zero, List.set_cons_succ])
      | ((with_reducible change wpList _ _ _ (Oper.mk (some _) (Op.load 53 _) _ _ _ _ :: _) _ _); refine getBox_list _ rfl 53 _ rfl (w5.heap.size) 53 _ Xw_25.out (by rfl) _ rfl Try.underlying53 (by kernel_rfl) ?_; simp only [Act.put, List.setIfInBounds_toArray, List.set_cons_zero, List.set_cons_succ])
      | ((with_reducible change wpList _ _ _ (Oper.mk (some _) (Op.load 53 _) _ _ _ _ :: _) _ _); refine getBox_list _ rfl 53 _ rfl (w10.heap.size) 53 _ Xg_25.out (by rfl) _ rfl Try.underlying53 (by kernel_rfl) ?_; simp only [Act.put, List.setIfInBounds_toArray, List.set_cons_zero, List.set_cons_succ])
      | ((with_reducible change wpList _ _ _ (Oper.mk (some _) (Op.load 53 _) _ _ _ _ :: _) _ _); refine getBox_list _ rfl 53 _ rfl (w23.heap.size) 53 _ Xh_25.out (by rfl) _ rfl Try.underlying53 (by kernel_rfl) ?_; simp only [Act.put, List.setIfInBounds_toArray, List.set_cons_zero, List.set_cons_succ]))
  refine (KH.out).mono ?_
  rintro e w26 ⟨rfl, b26⟩
  have B_26 := Lib.hid (B_25.out.trans (b26.mono B_25.out.size))
  have le_25 := Lib.hid (show w25.heap.size ≤ w26.heap.size from b26.size)
  have A0_26 := Lib.hid (Box.below A0_25.out b26 A0_25.out.lt)
  have Ow_26 := Lib.hid (BytesResultR.md.below Ow_25.out b26)
  have Xw_26 := Lib.hid (Box.below Xw_25.out b26 Xw_25.out.lt)
  have Xg_26 := Lib.hid (Box.below Xg_25.out b26 Xg_25.out.lt)
  have Om_26 := Lib.hid (BytesResultR.md.below Om_25.out b26)
  have Oh_26 := Lib.hid (BytesResultR.md.below Oh_25.out b26)
  have Xh_26 := Lib.hid (Box.below Xh_25.out b26 Xh_25.out.lt)
  clear B_25 A0_25 Ow_25 Xw_25 Xg_25 Om_25 Oh_25 Xh_25
  clear b26
  clear KH
  go_wp2
  go_ret
  exact ⟨rfl, B_26.out⟩
end Go.Proofs.Ytbngdenlplbjhaa
