/-
  ResetFor of the model.
-/
import Derived.Test.YteaiemckcepphaaSgA
namespace Go.Proofs.Yteaiemckcepphaa
open Go.ChangeShapes Go.WideShapes Go.ChangeAt Go.RowKit

/-- the numbers of what refuses a segment -/
def rfX (x : Sg) (n : Nat) : Sg := if flB x.g 16 then ⟨x.t, x.f, x.a, 0, 4, 0, 0⟩ else ⟨x.t, x.f, 0, (x.s + sgZ x.g n) % 4294967296, 20, 0, 0⟩
def rfAns (x : Sg) (n : Nat) : RsA := if ¬ sgC x n = 0 then rsNo (sgC x n) else if flB x.g 4 then rsNo 8 else ⟨0, rfX x n, []⟩
theorem rfAns_rs (x : Sg) (n : Nat) : (rfAns x n).rs = [] := by
  unfold rfAns
  split
  · rfl
  · split <;> rfl
theorem sgZ_bd (g : Int) (n : Nat) : 0 ≤ sgZ g n ∧ sgZ g n ≤ n + 2 := by unfold sgZ; split <;> split <;> omega
def cells8 (x : Sg) : Array Value := #[.int .i64 x.f, .int .i64 x.t, .int .i64 x.s, .int .i64 x.a, .int .i64 x.g, .int .i64 x.w, .int .i64 x.m, .slice none 0 0]

set_option maxRecDepth 20000 in
set_option maxHeartbeats 2000000 in
theorem l5Reset_any (b : Nat) (x : Sg) (a : Option Addr) (len cap : Nat) (w : World) (hx : Box w b 25 #[.int .i64 x.f, .int .i64 x.t, .int .i64 x.s, .int .i64 x.a, .int .i64 x.g, .int .i64 x.w, .int .i64 x.m, .slice a len cap]) (hn : sgN x = true) (hl : len ≤ 520) :
    Calls Try.prog 84 #[.pointer (some ⟨b, 0, none⟩)] w fun e w' => e = .returned (.agg (cells8 (rfX x len))) ∧ Below w.heap.size w w' := by
  obtain ⟨n0, n1, n2, n3, n4, n5, n6⟩ := sgN_parts hn
  have X := Lib.hid hx
  have hlt := hx.lt
  have B0 := Lib.hid ((Below.refl w.heap.size w).alloc (Nat.le_refl _) (.cells #[.int .i64 0, .int .i64 0, .int .i64 0, .int .i64 0, .int .i64 0, .int .i64 0, .int .i64 0, .slice none 0 0] 25))
  have X0 := Lib.hid (hx.alloc (.cells #[.int .i64 0, .int .i64 0, .int .i64 0, .int .i64 0, .int .i64 0, .int .i64 0, .int .i64 0, .slice none 0 0] 25))
  have R0 := Lib.hid (Box.new w 25 #[.int .i64 0, .int .i64 0, .int .i64 0, .int .i64 0, .int .i64 0, .int .i64 0, .int .i64 0, .slice none 0 0])
  obtain ⟨_, x0, x1, x2, x3, x4, x5, x6, x7⟩ := X0.out.eight
  generalize hW : w.alloc (.cells #[.int .i64 0, .int .i64 0, .int .i64 0, .int .i64 0, .int .i64 0, .int .i64 0, .int .i64 0, .slice none 0 0] 25) = W0 at *
  go_enter Try.func84, Try.ntmps84
  go_wp2_with fail
  go_region
  have X1 := Lib.hid (show Box (W0.alloc (.cells #[.int .i64 x.t, .int .i64 x.f, .int .i64 (0), .int .i64 (0), .int .i64 4, .int .i64 0, .int .i64 0, .slice none 0 0] 25)).drew b 25 #[.int .i64 x.f, .int .i64 x.t, .int .i64 x.s, .int .i64 x.a, .int .i64 x.g, .int .i64 x.w, .int .i64 x.m, .slice a len cap] from X0.out.alloc _)
  have U1 := Lib.hid (show Box (W0.alloc (.cells #[.int .i64 x.t, .int .i64 x.f, .int .i64 (0), .int .i64 (0), .int .i64 4, .int .i64 0, .int .i64 0, .slice none 0 0] 25)).drew W0.heap.size 25 #[.int .i64 x.t, .int .i64 x.f, .int .i64 (0), .int .i64 (0), .int .i64 4, .int .i64 0, .int .i64 0, .slice none 0 0] from Box.new W0 25 _)
  have R1 := Lib.hid (show Box (W0.alloc (.cells #[.int .i64 x.t, .int .i64 x.f, .int .i64 (0), .int .i64 (0), .int .i64 4, .int .i64 0, .int .i64 0, .slice none 0 0] 25)).drew w.heap.size 25 #[.int .i64 0, .int .i64 0, .int .i64 0, .int .i64 0, .int .i64 0, .int .i64 0, .int .i64 0, .slice none 0 0] from R0.out.alloc _)
  have B1 := Lib.hid ((B0.out.alloc B0.out.size (.cells #[.int .i64 x.t, .int .i64 x.f, .int .i64 (0), .int .i64 (0), .int .i64 4, .int .i64 0, .int .i64 0, .slice none 0 0] 25)).drew)
  have hzb := Lib.hid (show b < W0.heap.size from X0.out.lt)
  have hzr := Lib.hid (show w.heap.size < W0.heap.size from R0.out.lt)
  obtain ⟨u, hu⟩ : ∃ u, u = W0.heap.size := ⟨_, rfl⟩
  rw [← hu] at U1 hzb hzr ⊢
  generalize (W0.alloc (.cells #[.int .i64 x.t, .int .i64 x.f, .int .i64 (0), .int .i64 (0), .int .i64 4, .int .i64 0, .int .i64 0, .slice none 0 0] 25)).drew = W1 at *
  clear X0 R0 B0 hW hu x0 x1 x2 x3 x4 x5 x6 x7 hx
  go_wp2_with fail
  refine (l5Flag_any b x a len cap 16 _ X1.out n4 (by omega)).mono ?_
  rintro e w' ⟨rfl, rfl⟩
  cases m16 : flB x.g 16
  · have HE : Hid (cells8 (rfX x len) = #[.int .i64 x.t, .int .i64 x.f, .int .i64 (0), .int .i64 ((x.s + sgZ x.g len) % 4294967296), .int .i64 20, .int .i64 0, .int .i64 0, .slice none 0 0]) := by unfold rfX; rw [m16]; rfl
    have zb := sgZ_bd x.g len
    have KZ := Lib.hid (fun W (hW : Box W b 25 #[.int .i64 x.f, .int .i64 x.t, .int .i64 x.s, .int .i64 x.a, .int .i64 x.g, .int .i64 x.w, .int .i64 x.m, .slice a len cap]) => l5Size_any b x a len cap W hW n4 (by omega))
    have KA := Lib.hid (fun W => l1Add_any x.s (sgZ x.g len) W n2.1 n2.2 (by omega) (by omega))
    obtain ⟨z, hz⟩ : ∃ z, z = sgZ x.g len := ⟨_, rfl⟩
    rw [← hz] at KZ KA HE
    clear hz zb m16
    have u4 := U1.out.cell 4
    have q4 := U1.out.frozen 4
    simp at u4
    have U2 : Hid (Box (W1.setCell ⟨u, 4, none⟩ (.int .i64 20)) u 25 #[.int .i64 x.t, .int .i64 x.f, .int .i64 (0), .int .i64 (0), .int .i64 20, .int .i64 0, .int .i64 0, .slice none 0 0]) := U1.out.put 4 _
    have X2 := Lib.hid (X1.out.grown (grown_setCell W1 ⟨u, 4, none⟩ (.int .i64 (20))) (by have := hzb.out; simp only [ne_eq, Option.some.injEq]; omega))
    have R2 := Lib.hid (R1.out.grown (grown_setCell W1 ⟨u, 4, none⟩ (.int .i64 (20))) (by have := hzr.out; simp only [ne_eq, Option.some.injEq]; omega))
    have B2 := Lib.hid (B1.out.setCell (p := ⟨u, 4, none⟩) (by have := hzr.out; simp only; omega) (.int .i64 (20)))
    generalize hW : W1.setCell ⟨u, 4, none⟩ (.int .i64 20) = W2 at *
    clear X1 U1 R1 B1
    obtain ⟨_, x0, x1, x2, x3, x4, x5, x6, x7⟩ := X2.out.eight
    go_wp2_with fail
    clear hW
    have u3 := U2.out.cell 3
    have q3 := U2.out.frozen 3
    simp at u3
    go_region_law (first
      | (go_simp; go_at_call 85; refine (KZ.out _ (show Box W2.drew _ _ _ from X2.out)).mono ?_; rintro e w' ⟨rfl, rfl⟩)
      | (go_simp; go_at_call 109; refine (KA.out _).mono ?_; rintro e w' ⟨rfl, rfl⟩))
    all_goals
      have U3 : Hid (Box (W2.setCell ⟨u, 3, none⟩ (.int .i64 ((x.s + z) % 4294967296))).drew u 25 #[.int .i64 x.t, .int .i64 x.f, .int .i64 (0), .int .i64 ((x.s + z) % 4294967296), .int .i64 20, .int .i64 0, .int .i64 0, .slice none 0 0]) := U2.out.put 3 (.int .i64 ((x.s + z) % 4294967296))
      have R3' := R2.out.grown (grown_setCell W2 ⟨u, 3, none⟩ (.int .i64 ((x.s + z) % 4294967296))) (by have := hzr.out; simp only [ne_eq, Option.some.injEq]; omega)
      have R3 := Lib.hid R3'.drewB
      clear R3'
      have B3 := Lib.hid (B2.out.setCell (p := ⟨u, 3, none⟩) (by have := hzr.out; simp only; omega) (.int .i64 ((x.s + z) % 4294967296)) |>.drew)
      generalize hW : (W2.setCell ⟨u, 3, none⟩ (.int .i64 ((x.s + z) % 4294967296))).drew = W3 at *
      clear X2 U2 R2 B2 KZ KA
      obtain ⟨_, y0, y1, y2, y3, y4, y5, y6, y7⟩ := U3.out.eight
      go_wp2_with ((with_reducible change wpList _ _ _ (Oper.mk none (Op.store _ _ _) _ _ _ _ :: _) _ _); refine storeBox_list _ rfl 25 (.tmp 2) (.tmp 30) rfl w.heap.size 25 _ #[.int .i64 x.t, .int .i64 x.f, .int .i64 (0), .int .i64 ((x.s + z) % 4294967296), .int .i64 20, .int .i64 0, .int .i64 0, .slice none 0 0] R3.out (by exact rfl) (by exact rfl) (by kernel_rfl) (by exact rfl) (by simp [Value.oneCell']) ?_; intro wS xS gS; have XS := Lib.hid xS; have BS := Lib.hid (B3.out.grown gS B3.out.size (fun k e => by cases e; exact Nat.le_refl _)); clear xS gS)
      exact bodyPost_ret (results_cell_row Try.results84 _ _ _ _ _ _ _ rfl XS.out Try.underlying25 rfl (by kernel_rfl)) rfl ⟨by rw [HE.out], BS.out⟩
  · have HE : Hid (cells8 (rfX x len) = #[.int .i64 x.t, .int .i64 x.f, .int .i64 (x.a), .int .i64 (0), .int .i64 4, .int .i64 0, .int .i64 0, .slice none 0 0]) := by unfold rfX; rw [m16]; rfl
    clear m16
    obtain ⟨_, x0, x1, x2, x3, x4, x5, x6, x7⟩ := X1.out.eight
    have u2 := U1.out.cell 2
    have q2 := U1.out.frozen 2
    simp at u2
    have U2 : Hid (Box (W1.setCell ⟨u, 2, none⟩ (.int .i64 x.a)) u 25 #[.int .i64 x.t, .int .i64 x.f, .int .i64 (x.a), .int .i64 (0), .int .i64 4, .int .i64 0, .int .i64 0, .slice none 0 0]) := U1.out.put 2 _
    have X2 := Lib.hid (X1.out.grown (grown_setCell W1 ⟨u, 2, none⟩ (.int .i64 (x.a))) (by have := hzb.out; simp only [ne_eq, Option.some.injEq]; omega))
    have R2 := Lib.hid (R1.out.grown (grown_setCell W1 ⟨u, 2, none⟩ (.int .i64 (x.a))) (by have := hzr.out; simp only [ne_eq, Option.some.injEq]; omega))
    have B2 := Lib.hid (B1.out.setCell (p := ⟨u, 2, none⟩) (by have := hzr.out; simp only; omega) (.int .i64 (x.a)))
    generalize hW : W1.setCell ⟨u, 2, none⟩ (.int .i64 x.a) = W2 at *
    clear X1 U1 R1 B1
    obtain ⟨_, y0, y1, y2, y3, y4, y5, y6, y7⟩ := U2.out.eight
    go_wp2_with ((with_reducible change wpList _ _ _ (Oper.mk none (Op.store _ _ _) _ _ _ _ :: _) _ _); refine storeBox_list _ rfl 25 (.tmp 2) (.tmp 20) rfl w.heap.size 25 _ #[.int .i64 x.t, .int .i64 x.f, .int .i64 (x.a), .int .i64 (0), .int .i64 4, .int .i64 0, .int .i64 0, .slice none 0 0] R2.out (by exact rfl) (by exact rfl) (by kernel_rfl) (by exact rfl) (by simp [Value.oneCell']) ?_; intro wS xS gS; have XS := Lib.hid xS; have BS := Lib.hid (B2.out.grown gS B2.out.size (fun k e => by cases e; exact Nat.le_refl _)); clear xS gS)
    exact bodyPost_ret (results_cell_row Try.results84 _ _ _ _ _ _ _ rfl XS.out Try.underlying25 rfl (by kernel_rfl)) rfl ⟨by rw [HE.out], BS.out⟩

set_option maxRecDepth 20000 in
set_option maxHeartbeats 2000000 in
theorem specResetFor (x : Sg) (a : Option Addr) (len cap : Nat) (w : World) :
    Calls Try.prog 30 #[.agg #[.int .i64 x.f, .int .i64 x.t, .int .i64 x.s, .int .i64 x.a, .int .i64 x.g, .int .i64 x.w, .int .i64 x.m, .slice a len cap]] w (RsRes w (rfAns x len)) := by
  obtain ⟨R, hR⟩ : ∃ R, R = rfAns x len := ⟨_, rfl⟩
  rw [← hR]
  unfold rfAns at hR
  have S := Lib.hid (fun W => specSegmentFault x a len cap W)
  have HP := Lib.hid (fun h : sgC x len = 0 => sgC_parts h)
  obtain ⟨C, hC⟩ : ∃ C, C = sgC x len := ⟨_, rfl⟩
  rw [← hC] at S HP hR
  have HR := Lib.hid hR
  clear hC hR
  have B0 := Lib.hid (((Below.refl w.heap.size w).alloc (Nat.le_refl _) (.cells #[.int .i64 x.f, .int .i64 x.t, .int .i64 x.s, .int .i64 x.a, .int .i64 x.g, .int .i64 x.w, .int .i64 x.m, .slice a len cap] 25)).alloc (by simp) (.cells #[.int .i64 0, .int .i64 0, .int .i64 0, .int .i64 0, .int .i64 0, .int .i64 0, .int .i64 0, .int .i64 0, .slice none 0 0] 34))
  have X0 := Lib.hid ((Box.new w 25 #[.int .i64 x.f, .int .i64 x.t, .int .i64 x.s, .int .i64 x.a, .int .i64 x.g, .int .i64 x.w, .int .i64 x.m, .slice a len cap]).alloc (.cells #[.int .i64 0, .int .i64 0, .int .i64 0, .int .i64 0, .int .i64 0, .int .i64 0, .int .i64 0, .int .i64 0, .slice none 0 0] 34))
  have R0 := Lib.hid (Box.new (w.alloc (.cells #[.int .i64 x.f, .int .i64 x.t, .int .i64 x.s, .int .i64 x.a, .int .i64 x.g, .int .i64 x.w, .int .i64 x.m, .slice a len cap] 25)) 34 #[.int .i64 0, .int .i64 0, .int .i64 0, .int .i64 0, .int .i64 0, .int .i64 0, .int .i64 0, .int .i64 0, .slice none 0 0])
  simp only [World.size_alloc] at R0
  go_enter Try.func30, Try.ntmps30
  go_wp2_with fail
  refine (S.out _).mono ?_
  rintro e w1 ⟨rfl, b1⟩
  have X1 := Lib.hid (X0.out.below b1 X0.out.lt)
  have R1 := Lib.hid (R0.out.below b1 R0.out.lt)
  have B1 := Lib.hid (B0.out.trans (b1.mono B0.out.size))
  clear b1 X0 R0 B0 S
  by_cases hc0 : C = 0
  case neg =>
    obtain rfl : R = rsNo C := by rw [HR.out, if_pos hc0]
    have hne : (C != 0) = true := by simpa using hc0
    clear HR HP hc0
    obtain ⟨_, r0, r1, r2, r3, r4, r5, r6, r7, r8⟩ := R1.out.nine
    have f0 := R1.out.frozen 0
    have f1 := R1.out.frozen 1
    have f2 := R1.out.frozen 2
    have f3 := R1.out.frozen 3
    have f4 := R1.out.frozen 4
    have f5 := R1.out.frozen 5
    have f6 := R1.out.frozen 6
    have f7 := R1.out.frozen 7
    have f8 := R1.out.frozen 8
    go_wp2
    exact bodyPost_ret (v := .agg #[.int .i64 C, .int .i64 0, .int .i64 0, .int .i64 0, .int .i64 0, .int .i64 0, .int .i64 0, .int .i64 0, .slice none 0 0]) (by simp [results, Try.results30, go_sem, r0, r1, r2, r3, r4, r5, r6, r7, r8]) rfl ⟨none, 0, 0, rfl, Own.nil _ _, (((((((((B1.out.setCell (by simp) _).setCell (by simp) _).setCell (by simp) _).setCell (by simp) _).setCell (by simp) _).setCell (by simp) _).setCell (by simp) _).setCell (by simp) _).setCell (by simp) _)⟩
  obtain ⟨hn, _, _, hl⟩ := HP.out hc0
  have HR1 : Hid (R = if flB x.g 4 then rsNo 8 else ⟨0, rfX x len, []⟩) := by rw [HR.out, if_neg (by simpa using hc0)]; rfl
  subst hc0
  have n4 := (sgN_parts hn).2.2.2.2.1
  clear HR HP
  go_wp2_with fail
  refine (l5Flag_any w.heap.size x a len cap 4 _ X1.out n4 (by omega)).mono ?_
  rintro e w' ⟨rfl, rfl⟩
  cases m4 : flB x.g 4
  case true =>
    obtain rfl : R = rsNo 8 := by rw [HR1.out, m4]; rfl
    clear HR1 m4
    obtain ⟨_, r0, r1, r2, r3, r4, r5, r6, r7, r8⟩ := R1.out.nine
    have f0 := R1.out.frozen 0
    have f1 := R1.out.frozen 1
    have f2 := R1.out.frozen 2
    have f3 := R1.out.frozen 3
    have f4 := R1.out.frozen 4
    have f5 := R1.out.frozen 5
    have f6 := R1.out.frozen 6
    have f7 := R1.out.frozen 7
    have f8 := R1.out.frozen 8
    go_wp2
    exact bodyPost_ret (v := .agg #[.int .i64 8, .int .i64 0, .int .i64 0, .int .i64 0, .int .i64 0, .int .i64 0, .int .i64 0, .int .i64 0, .slice none 0 0]) (by simp [results, Try.results30, go_sem, r0, r1, r2, r3, r4, r5, r6, r7, r8]) rfl ⟨none, 0, 0, rfl, Own.nil _ _, (((((((((B1.out.setCell (by simp) _).setCell (by simp) _).setCell (by simp) _).setCell (by simp) _).setCell (by simp) _).setCell (by simp) _).setCell (by simp) _).setCell (by simp) _).setCell (by simp) _)⟩
  obtain rfl : R = ⟨0, rfX x len, []⟩ := by rw [HR1.out, m4]; rfl
  have KR := Lib.hid (l5Reset_any w.heap.size x a len cap w1 X1.out hn hl)
  clear HR1 m4
  generalize rfX x len = y at *
  unfold cells8 at KR
  go_wp2_with fail
  refine KR.out.mono ?_
  rintro e w2 ⟨rfl, b2⟩
  have R2 := Lib.hid (R1.out.below b2 R1.out.lt)
  have B2 := Lib.hid (B1.out.trans (b2.mono B1.out.size))
  clear b2 R1 B1 KR
  obtain ⟨_, r0, r1, r2, r3, r4, r5, r6, r7, r8⟩ := R2.out.nine
  have f0 := R2.out.frozen 0
  have f1 := R2.out.frozen 1
  have f2 := R2.out.frozen 2
  have f3 := R2.out.frozen 3
  have f4 := R2.out.frozen 4
  have f5 := R2.out.frozen 5
  have f6 := R2.out.frozen 6
  have f7 := R2.out.frozen 7
  have f8 := R2.out.frozen 8
  go_wp2
  exact bodyPost_ret (v := .agg #[.int .i64 0, .int .i64 y.f, .int .i64 y.t, .int .i64 y.s, .int .i64 y.a, .int .i64 y.g, .int .i64 y.w, .int .i64 y.m, .slice none 0 0]) (by simp [results, Try.results30, go_sem, r0, r1, r2, r3, r4, r5, r6, r7, r8]) rfl ⟨none, 0, 0, rfl, Own.nil _ _, (((((((((B2.out.setCell (by simp) _).setCell (by simp) _).setCell (by simp) _).setCell (by simp) _).setCell (by simp) _).setCell (by simp) _).setCell (by simp) _).setCell (by simp) _).setCell (by simp) _)⟩
end Go.Proofs.Yteaiemckcepphaa
