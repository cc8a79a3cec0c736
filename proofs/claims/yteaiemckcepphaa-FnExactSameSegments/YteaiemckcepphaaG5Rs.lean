/-
  ResetFor of the program.
-/
import Derived.Test.YteaiemckcepphaaG5Sz
import Derived.Test.YteaiemckcepphaaSgX
import Derived.Test.YteaiemckcepphaaMC
import Derived.Test.YteaiemckcepphaaMA
namespace Go.Proofs.Yteaiemckcepphaa
open Go.ChangeShapes Go.WideShapes Go.ChangeAt Go.RowKit

theorem seqAdd_ok (s n : Int) (w : World) (hs : 0 ≤ s ∧ s < 4294967296) (hn : -4294967296 ≤ n ∧ n ≤ 4294967296) : Calls Try.prog 34 #[.int .i64 s, .int .i64 n] w fun e w' => e = .returned (.agg #[.int .i64 0, .int .i64 ((s + n) % 4294967296)]) ∧ Below w.heap.size w w' := by
  have h := implAdd s n w
  have hc : addC s n = 0 := by unfold addC; rw [sq_t hs, in_t hn]; rfl
  have hv : addV s n = (s + n) % 4294967296 := by unfold addV; rw [sq_t hs, in_t hn]; rfl
  rw [hc, hv] at h
  exact h
set_option maxRecDepth 20000 in
set_option maxHeartbeats 4000000 in
theorem implResetFor (x : Sg) (a : Option Addr) (len cap : Nat) (w : World) :
    Calls Try.prog 27 #[.agg #[.int .i64 x.f, .int .i64 x.t, .int .i64 x.s, .int .i64 x.a, .int .i64 x.g, .int .i64 x.w, .int .i64 x.m, .slice a len cap]] w (RsRes w (rfAns x len)) := by
  obtain ⟨R, hR⟩ : ∃ R, R = rfAns x len := ⟨_, rfl⟩
  rw [← hR]
  unfold rfAns at hR
  have S := Lib.hid (fun W => implSegmentSize x a len cap W)
  have HP := Lib.hid (fun h : sgC x len = 0 => sgC_parts h)
  obtain ⟨C, hC⟩ : ∃ C, C = sgC x len := ⟨_, rfl⟩
  obtain ⟨z, hz⟩ : ∃ z, z = sgZ x.g len := ⟨_, rfl⟩
  rw [← hC] at S HP hR
  rw [← hz] at S
  have HR := Lib.hid hR
  have HZ := Lib.hid hz
  clear hC hR hz
  have B0 := Lib.hid (((Below.refl w.heap.size w).alloc (Nat.le_refl _) (.cells #[.int .i64 x.f, .int .i64 x.t, .int .i64 x.s, .int .i64 x.a, .int .i64 x.g, .int .i64 x.w, .int .i64 x.m, .slice a len cap] 25)).alloc (by simp) (.cells #[.int .i64 0, .int .i64 0, .int .i64 0, .int .i64 0, .int .i64 0, .int .i64 0, .int .i64 0, .int .i64 0, .slice none 0 0] 34))
  have X0 := Lib.hid ((Box.new w 25 #[.int .i64 x.f, .int .i64 x.t, .int .i64 x.s, .int .i64 x.a, .int .i64 x.g, .int .i64 x.w, .int .i64 x.m, .slice a len cap]).alloc (.cells #[.int .i64 0, .int .i64 0, .int .i64 0, .int .i64 0, .int .i64 0, .int .i64 0, .int .i64 0, .int .i64 0, .slice none 0 0] 34))
  have R0 := Lib.hid (Box.new (w.alloc (.cells #[.int .i64 x.f, .int .i64 x.t, .int .i64 x.s, .int .i64 x.a, .int .i64 x.g, .int .i64 x.w, .int .i64 x.m, .slice a len cap] 25)) 34 #[.int .i64 0, .int .i64 0, .int .i64 0, .int .i64 0, .int .i64 0, .int .i64 0, .int .i64 0, .int .i64 0, .slice none 0 0])
  simp only [World.size_alloc] at R0
  go_enter Try.func27, Try.ntmps27
  go_wp2_with fail
  refine (S.out _).mono ?_
  rintro e w1 ⟨rfl, b1⟩
  have X1 := Lib.hid (X0.out.below b1 X0.out.lt)
  have R1 := Lib.hid (R0.out.below b1 R0.out.lt)
  have B1 := Lib.hid (B0.out.trans (b1.mono B0.out.size))
  clear b1 X0 R0 B0 S
  by_cases hc0 : C = 0
  case neg =>
    obtain rfl : R = rsNo C := by rw [HR.out, if_pos hc0]
    have hne : (C != 0) = true := by simpa using hc0
    rw [if_neg hc0]
    have R2 := Lib.hid (R1.out.alloc (.cells #[.int .i64 C, .int .i64 0] 46))
    have B2 := Lib.hid (B1.out.alloc B1.out.size (.cells #[.int .i64 C, .int .i64 0] 46))
    clear HR HP hc0 HZ R1 B1 X1
    obtain ⟨_, r0, r1, r2, r3, r4, r5, r6, r7, r8⟩ := R2.out.nine
    have f0 := R2.out.frozen 0
    have f1 := R2.out.frozen 1
    have f2 := R2.out.frozen 2
    have f3 := R2.out.frozen 3
    have f4 := R2.out.frozen 4
    have f5 := R2.out.frozen 5
    have f6 := R2.out.frozen 6
    have f7 := R2.out.frozen 7
    have f8 := R2.out.frozen 8
    go_wp2
    exact bodyPost_ret (v := .agg #[.int .i64 C, .int .i64 0, .int .i64 0, .int .i64 0, .int .i64 0, .int .i64 0, .int .i64 0, .int .i64 0, .slice none 0 0]) (by simp [results, Try.results27, go_sem, r0, r1, r2, r3, r4, r5, r6, r7, r8]) rfl ⟨none, 0, 0, rfl, Own.nil _ _, (((((((((B2.out.setCell (by simp) _).setCell (by simp) _).setCell (by simp) _).setCell (by simp) _).setCell (by simp) _).setCell (by simp) _).setCell (by simp) _).setCell (by simp) _).setCell (by simp) _)⟩
  obtain ⟨hn, _, _, hl⟩ := HP.out hc0
  have HR1 : Hid (R = if flB x.g 4 then rsNo 8 else ⟨0, rfX x len, []⟩) := by rw [HR.out, if_neg (by simpa using hc0)]; rfl
  rw [if_pos hc0]
  subst hc0
  obtain ⟨_, _, n2, _, n4, _⟩ := sgN_parts hn
  have KH := Lib.hid (fun k W (hk : oneB k = true) => has_any x.g k W n4 hk)
  have zb := Lib.hid (sgZ_bd x.g len)
  rw [← HZ.out] at zb
  have X2 := Lib.hid (X1.out.alloc (.cells #[.int .i64 0, .int .i64 z] 46))
  have R2 := Lib.hid (R1.out.alloc (.cells #[.int .i64 0, .int .i64 z] 46))
  have B2 := Lib.hid (B1.out.alloc B1.out.size (.cells #[.int .i64 0, .int .i64 z] 46))
  have I2 := Lib.hid (Box.new w1 46 #[.int .i64 0, .int .i64 z])
  obtain ⟨i, hi⟩ : ∃ i, i = w1.heap.size := ⟨_, rfl⟩
  have hir := Lib.hid (show w.heap.size + 1 < i by rw [hi]; exact R1.out.lt)
  clear HR HP R1 B1 X1
  obtain ⟨_, x0, x1, x2, x3, x4, x5, x6, x7⟩ := X2.out.eight
  obtain ⟨_, i0, i1⟩ := I2.out.two
  go_wp2_with fail
  generalize w1.alloc (.cells #[.int .i64 0, .int .i64 z] 46) = W0 at *
  rw [← hi] at I2 i0 i1 ⊢
  clear hi
  refine (KH.out 4 _ rfl).mono ?_
  rintro e w' ⟨rfl, rfl⟩
  cases m4 : flB x.g 4
  case true =>
    obtain rfl : R = rsNo 8 := by rw [HR1.out, m4]; rfl
    clear HR1 m4 KH
    obtain ⟨_, r0, r1, r2, r3, r4, r5, r6, r7, r8⟩ := R2.out.nine
    have f0 := R2.out.frozen 0
    have f1 := R2.out.frozen 1
    have f2 := R2.out.frozen 2
    have f3 := R2.out.frozen 3
    have f4 := R2.out.frozen 4
    have f5 := R2.out.frozen 5
    have f6 := R2.out.frozen 6
    have f7 := R2.out.frozen 7
    have f8 := R2.out.frozen 8
    go_wp2
    exact bodyPost_ret (v := .agg #[.int .i64 8, .int .i64 0, .int .i64 0, .int .i64 0, .int .i64 0, .int .i64 0, .int .i64 0, .int .i64 0, .slice none 0 0]) (by simp [results, Try.results27, go_sem, r0, r1, r2, r3, r4, r5, r6, r7, r8]) rfl ⟨none, 0, 0, rfl, Own.nil _ _, (((((((((B2.out.setCell (by simp) _).setCell (by simp) _).setCell (by simp) _).setCell (by simp) _).setCell (by simp) _).setCell (by simp) _).setCell (by simp) _).setCell (by simp) _).setCell (by simp) _)⟩
  obtain rfl : R = ⟨0, rfX x len, []⟩ := by rw [HR1.out, m4]; rfl
  clear HR1 m4
  go_wp2_with fail
  have X1 := Lib.hid (X2.out.alloc (.cells #[.int .i64 x.t, .int .i64 x.f, .int .i64 0, .int .i64 0, .int .i64 4, .int .i64 0, .int .i64 0, .slice none 0 0] 25))
  have I1 := Lib.hid (I2.out.alloc (.cells #[.int .i64 x.t, .int .i64 x.f, .int .i64 0, .int .i64 0, .int .i64 4, .int .i64 0, .int .i64 0, .slice none 0 0] 25))
  have R1 := Lib.hid (R2.out.alloc (.cells #[.int .i64 x.t, .int .i64 x.f, .int .i64 0, .int .i64 0, .int .i64 4, .int .i64 0, .int .i64 0, .slice none 0 0] 25))
  have B1 := Lib.hid (B2.out.alloc B2.out.size (.cells #[.int .i64 x.t, .int .i64 x.f, .int .i64 0, .int .i64 0, .int .i64 4, .int .i64 0, .int .i64 0, .slice none 0 0] 25))
  have U1 := Lib.hid (Box.new w' 25 #[.int .i64 x.t, .int .i64 x.f, .int .i64 0, .int .i64 0, .int .i64 4, .int .i64 0, .int .i64 0, .slice none 0 0])
  have hzX := Lib.hid (show w.heap.size < w'.heap.size from X2.out.lt)
  have hzR := Lib.hid (show w.heap.size + 1 < w'.heap.size from R2.out.lt)
  have hzI := Lib.hid (show i < w'.heap.size from I2.out.lt)
  obtain ⟨u, hu⟩ : ∃ u, u = w'.heap.size := ⟨_, rfl⟩
  rw [← hu] at U1 hzX hzR hzI ⊢
  generalize w'.alloc (.cells #[.int .i64 x.t, .int .i64 x.f, .int .i64 0, .int .i64 0, .int .i64 4, .int .i64 0, .int .i64 0, .slice none 0 0] 25) = W1 at *
  clear hu X2 I2 R2 B2 x0 x1 x2 x3 x4 x5 x6 x7 i0 i1
  refine (KH.out 16 _ rfl).mono ?_
  rintro e w'' ⟨rfl, rfl⟩
  obtain ⟨_, x0, x1, x2, x3, x4, x5, x6, x7⟩ := X1.out.eight
  cases m16 : flB x.g 16
  · have HE : Hid (rfX x len = ⟨x.t, x.f, 0, (x.s + z) % 4294967296, 20, 0, 0⟩) := by rw [HZ.out]; unfold rfX; rw [m16]; rfl
    have KA := Lib.hid (fun W => seqAdd_ok x.s z W n2 (by have := zb.out; omega))
    clear m16 x0 x1 x2 x3 x4 x5 x6 x7
    obtain ⟨W1, rfl⟩ : ∃ W1, W1 = w'' := ⟨_, rfl⟩
    have u4 := U1.out.cell 4
    have q4 := U1.out.frozen 4
    simp at u4
    have U2 : Hid (Box (W1.setCell ⟨u, 4, none⟩ (.int .i64 20)) u 25 #[.int .i64 x.t, .int .i64 x.f, .int .i64 0, .int .i64 0, .int .i64 20, .int .i64 0, .int .i64 0, .slice none 0 0]) := U1.out.put 4 _
    have X2 := Lib.hid (X1.out.grown (grown_setCell W1 ⟨u, 4, none⟩ (.int .i64 20)) (by have := hzX.out; simp only [ne_eq, Option.some.injEq]; omega))
    have R2 := Lib.hid (R1.out.grown (grown_setCell W1 ⟨u, 4, none⟩ (.int .i64 20)) (by have := hzR.out; simp only [ne_eq, Option.some.injEq]; omega))
    have I2 := Lib.hid (I1.out.grown (grown_setCell W1 ⟨u, 4, none⟩ (.int .i64 20)) (by have := hzI.out; simp only [ne_eq, Option.some.injEq]; omega))
    have B2 := Lib.hid (B1.out.setCell (p := ⟨u, 4, none⟩) (by have := hzR.out; simp only; omega) (.int .i64 20))
    generalize hW : W1.setCell ⟨u, 4, none⟩ (.int .i64 20) = W2 at *
    clear X1 U1 R1 B1 I1
    obtain ⟨_, x0, x1, x2, x3, x4, x5, x6, x7⟩ := X2.out.eight
    obtain ⟨_, i0, i1⟩ := I2.out.two
    have hfi := fld_ir
    go_wp2_with fail
    clear hW
    refine (KA.out _).mono ?_
    rintro e w3 ⟨rfl, b3⟩
    have U3 := Lib.hid (U2.out.below b3 U2.out.lt)
    have R3 := Lib.hid (R2.out.below b3 R2.out.lt)
    have B3 := Lib.hid (B2.out.trans (b3.mono B2.out.size))
    obtain ⟨W3, rfl⟩ : ∃ W3, W3 = w3 := ⟨_, rfl⟩
    clear b3 U2 R2 B2 X2 I2 KA x0 x1 x2 x3 x4 x5 x6 x7 i0 i1 u4 q4
    generalize hy : (x.s + z) % 4294967296 = y at *
    clear hy
    have u3 := U3.out.cell 3
    have q3 := U3.out.frozen 3
    simp at u3
    have U4 : Hid (Box (W3.setCell ⟨u, 3, none⟩ (.int .i64 y)) u 25 #[.int .i64 x.t, .int .i64 x.f, .int .i64 0, .int .i64 y, .int .i64 20, .int .i64 0, .int .i64 0, .slice none 0 0]) := U3.out.put 3 _
    have R4 := Lib.hid (R3.out.grown (grown_setCell W3 ⟨u, 3, none⟩ (.int .i64 y)) (by have := hzR.out; simp only [ne_eq, Option.some.injEq]; omega))
    have B4 := Lib.hid (B3.out.setCell (p := ⟨u, 3, none⟩) (by have := hzR.out; simp only; omega) (.int .i64 y))
    generalize hW : W3.setCell ⟨u, 3, none⟩ (.int .i64 y) = W4 at *
    clear U3 R3 B3
    obtain ⟨_, y0, y1, y2, y3, y4, y5, y6, y7⟩ := U4.out.eight
    go_wp2_with ((with_reducible change wpList _ _ _ (Oper.mk none (Op.store _ _ _) _ _ _ _ :: _) _ _); refine storeBox_list _ rfl 34 (.tmp 2) (.tmp 41) rfl (w.heap.size + 1) 34 _ #[.int .i64 0, .int .i64 x.t, .int .i64 x.f, .int .i64 0, .int .i64 y, .int .i64 20, .int .i64 0, .int .i64 0, .slice none 0 0] R4.out (by exact rfl) (by exact rfl) (by kernel_rfl) (by exact rfl) (by simp [Value.oneCell']) ?_; intro wS xS gS; have XS := Lib.hid xS; have BS := Lib.hid (B4.out.grown gS B4.out.size (fun k e => by cases e; omega)); clear xS gS)
    exact bodyPost_ret (results_cell_row Try.results27 _ _ _ _ _ _ _ rfl XS.out Try.underlying34 rfl (by kernel_rfl)) rfl ⟨none, 0, 0, by rw [HE.out], Own.nil _ _, BS.out⟩
  · have HE : Hid (rfX x len = ⟨x.t, x.f, x.a, 0, 4, 0, 0⟩) := by unfold rfX; rw [m16]; rfl
    clear m16
    obtain ⟨W1, rfl⟩ : ∃ W1, W1 = w'' := ⟨_, rfl⟩
    have u2 := U1.out.cell 2
    have q2 := U1.out.frozen 2
    simp at u2
    have U2 : Hid (Box (W1.setCell ⟨u, 2, none⟩ (.int .i64 x.a)) u 25 #[.int .i64 x.t, .int .i64 x.f, .int .i64 x.a, .int .i64 0, .int .i64 4, .int .i64 0, .int .i64 0, .slice none 0 0]) := U1.out.put 2 _
    have R2 := Lib.hid (R1.out.grown (grown_setCell W1 ⟨u, 2, none⟩ (.int .i64 x.a)) (by have := hzR.out; simp only [ne_eq, Option.some.injEq]; omega))
    have B2 := Lib.hid (B1.out.setCell (p := ⟨u, 2, none⟩) (by have := hzR.out; simp only; omega) (.int .i64 x.a))
    generalize hW : W1.setCell ⟨u, 2, none⟩ (.int .i64 x.a) = W2 at *
    clear X1 U1 R1 B1 I1
    obtain ⟨_, y0, y1, y2, y3, y4, y5, y6, y7⟩ := U2.out.eight
    go_wp2_with ((with_reducible change wpList _ _ _ (Oper.mk none (Op.store _ _ _) _ _ _ _ :: _) _ _); refine storeBox_list _ rfl 34 (.tmp 2) (.tmp 41) rfl (w.heap.size + 1) 34 _ #[.int .i64 0, .int .i64 x.t, .int .i64 x.f, .int .i64 x.a, .int .i64 0, .int .i64 4, .int .i64 0, .int .i64 0, .slice none 0 0] R2.out (by exact rfl) (by exact rfl) (by kernel_rfl) (by exact rfl) (by simp [Value.oneCell']) ?_; intro wS xS gS; have XS := Lib.hid xS; have BS := Lib.hid (B2.out.grown gS B2.out.size (fun k e => by cases e; omega)); clear xS gS)
    exact bodyPost_ret (results_cell_row Try.results27 _ _ _ _ _ _ _ rfl XS.out Try.underlying34 rfl (by kernel_rfl)) rfl ⟨none, 0, 0, by rw [HE.out], Own.nil _ _, BS.out⟩
end Go.Proofs.Yteaiemckcepphaa
