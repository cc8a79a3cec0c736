/-
  Draws of segments.
-/
import Derived.Test.YteaiemckcepphaaSgW
namespace Go.Proofs.Yteaiemckcepphaa
open Go.ChangeShapes Go.WideShapes Go.ChangeAt Go.RowKit

theorem sgN_mk {x : Sg} (h : (1 ≤ x.f ∧ x.f ≤ 65535) ∧ (1 ≤ x.t ∧ x.t ≤ 65535) ∧ (0 ≤ x.s ∧ x.s < 4294967296) ∧ (0 ≤ x.a ∧ x.a < 4294967296) ∧ (0 ≤ x.g ∧ x.g ≤ 31) ∧ (0 ≤ x.w ∧ x.w ≤ 65535) ∧ (0 ≤ x.m ∧ x.m ≤ 65535)) : sgN x = true := by
  simp only [sgN, inB, sqB, Bool.and_eq_true, decide_eq_true_eq]
  omega
theorem DS.drop2 {w W : World} {b t : Nat} {a : Option Addr} {len cap : Nat} {zs : List Int} {x y : Bx} {bl : List Bx} {sl : List Sl} (h : DS w W b t a len cap zs (x :: y :: bl) sl) : DS w W b t a len cap zs (x :: bl) sl :=
  ⟨h.src, h.gr, fun z hz => h.bx z (by rcases List.mem_cons.1 hz with rfl | hz; exact List.mem_cons_self ..; exact List.mem_cons_of_mem _ (List.mem_cons_of_mem _ hz)), h.own, h.lt⟩
/-- a segment was drawn, its data in an array of their own -/
def SgDrawn (w : World) (b t : Nat) (a : Option Addr) (len cap : Nat) (zs : List Int) (e : Ending) (w' : World) : Prop :=
  ∃ (x : Sg) (a' : Option Addr) (n c' : Nat) (ys : List Int) (t' : Nat), e = .returned (.agg #[.int .i64 x.f, .int .i64 x.t, .int .i64 x.s, .int .i64 x.a, .int .i64 x.g, .int .i64 x.w, .int .i64 x.m, .slice a' n c']) ∧ sgN x = true ∧ n ≤ 10 ∧ t' ≤ t + 30 ∧ DS w w' b t' a len cap zs [] [⟨a', n, c', ys⟩]

set_option maxRecDepth 20000 in
set_option maxHeartbeats 4000000 in
theorem l5Draw_any (b t : Nat) (a : Option Addr) (len cap : Nat) (zs : List Int) (w : World) (h : Src w b t a len cap zs) (ht : t ≤ 800000) (hl : len ≤ 1048576) :
    Calls Try.prog 62 #[.pointer (some ⟨b, 0, none⟩)] w (SgDrawn w b t a len cap zs) := by
  have htU : 25 ≠ 5 := by decide
  have D0 := Lib.hid ((DS.start h).push 25 #[.int .i64 0, .int .i64 0, .int .i64 0, .int .i64 0, .int .i64 0, .int .i64 0, .int .i64 0, .slice none 0 0])
  clear h
  go_enter Try.func62, Try.ntmps62
  have K := Lib.hid (D0.out.pick (n := 3) [1, 5000, 65535] (1) (65535) rfl rfl (by intro y hy; simp only [List.mem_cons, List.not_mem_nil, or_false] at hy; omega) (by omega) (by omega) (by omega) hl)
  simp only [World.size_alloc] at K
  go_wp2_with fail
  refine K.out.mono ?_
  rintro e w1 ⟨p0, rfl, lp0, up0, d⟩
  have D1 := Lib.hid d
  clear d K D0
  have K := Lib.hid (D1.out.pick (n := 2) [80, 7] (7) (80) rfl rfl (by intro y hy; simp only [List.mem_cons, List.not_mem_nil, or_false] at hy; omega) (by omega) (by omega) (by omega) hl)
  go_wp2_with fail
  refine K.out.mono ?_
  rintro e w2 ⟨p1, rfl, lp1, up1, d⟩
  have D2 := Lib.hid d
  clear d K D1
  have K := Lib.hid (D2.out.seq (by omega) hl)
  go_wp2_with fail
  refine K.out.mono ?_
  rintro e w3 ⟨p2, rfl, lp2, up2, d⟩
  have D3 := Lib.hid d
  clear d K D2
  have K := Lib.hid (D3.out.next 32 (by omega) hl (by omega))
  go_wp2_with fail
  refine K.out.mono ?_
  rintro e w4 ⟨nf, rfl, lnf, unf, d⟩
  have D4 := Lib.hid d
  clear d K D3
  have K := Lib.hid (D4.out.pick (n := 8) [16, 24, 2, 18, 17, 4, 20, nf] (0) (31) rfl rfl (by intro y hy; simp only [List.mem_cons, List.not_mem_nil, or_false] at hy; omega) (by omega) (by omega) (by omega) hl)
  go_wp2_with fail
  refine K.out.mono ?_
  rintro e w5 ⟨p4, rfl, lp4, up4, d⟩
  have D5 := Lib.hid d
  clear d K D4
  have K := Lib.hid (D5.out.pick (n := 3) [0, 100, 65535] (0) (65535) rfl rfl (by intro y hy; simp only [List.mem_cons, List.not_mem_nil, or_false] at hy; omega) (by omega) (by omega) (by omega) hl)
  go_wp2_with fail
  refine K.out.mono ?_
  rintro e w6 ⟨p5, rfl, lp5, up5, d⟩
  have D6 := Lib.hid d
  clear d K D5
  have D7 := Lib.hid (D6.out.push 25 #[.int .i64 p0, .int .i64 p1, .int .i64 p2, .int .i64 0, .int .i64 p4, .int .i64 p5, .int .i64 0, .slice none 0 0])
  have hur := Lib.hid (show w.heap.size < w6.heap.size from (D6.out.bx _ (List.mem_cons_self ..)).1.lt)
  clear D6
  go_wp2_with fail
  generalize w6.alloc (.cells #[.int .i64 p0, .int .i64 p1, .int .i64 p2, .int .i64 0, .int .i64 p4, .int .i64 p5, .int .i64 0, .slice none 0 0] 25) = w7 at *
  generalize w6.heap.size = u at *
  refine (l5Flag_any u ⟨p0, p1, p2, 0, p4, p5, 0⟩ none 0 0 16 _ (D7.out.bx _ (List.mem_cons_self ..)).1 (by simp only; omega) (by omega)).mono ?_
  rintro e w' ⟨rfl, rfl⟩
  cases m16 : flB p4 16
  · go_wp2_with fail
    refine (l5Flag_any u ⟨p0, p1, p2, 0, p4, p5, 0⟩ none 0 0 2 _ (D7.out.bx _ (List.mem_cons_self ..)).1 (by simp only; omega) (by omega)).mono ?_
    rintro e w' ⟨rfl, rfl⟩
    cases m2 : flB p4 2
    · have K := Lib.hid (D7.out.chance 2 (by omega) hl (by omega))
      go_wp2_with fail
      refine K.out.mono ?_
      rintro e w8 ⟨ch, rfl, d⟩
      have D8 := Lib.hid d
      clear d K D7
      cases ch
      · obtain ⟨_, x0, x1, x2, x3, x4, x5, x6, x7⟩ := (D8.out.bx _ (List.mem_cons_self ..)).1.eight
        simp only at x0 x1 x2 x3 x4 x5 x6 x7
        have R := Lib.hid (D8.out.bx _ (List.mem_cons_of_mem _ (List.mem_cons_self ..))).1
        go_wp2_with ((with_reducible change wpList _ _ _ (Oper.mk none (Op.store _ _ _) _ _ _ _ :: _) _ _); refine storeBox_list _ rfl 25 (.tmp 2) (.tmp 38) rfl w.heap.size 25 _ #[.int .i64 p0, .int .i64 p1, .int .i64 p2, .int .i64 0, .int .i64 p4, .int .i64 p5, .int .i64 0, .slice none 0 0] R.out (by exact rfl) (by exact rfl) (by kernel_rfl) (by exact rfl) (by simp [Value.oneCell']) ?_; intro wS xS gS; have XS := Lib.hid xS; have GS := Lib.hid gS; clear xS gS)
        refine bodyPost_ret (results_cell_row Try.results62 _ _ _ _ _ _ _ rfl XS.out Try.underlying25 rfl (by kernel_rfl)) rfl ⟨⟨p0, p1, p2, 0, p4, p5, 0⟩, _, _, _, _, _, rfl, sgN_mk (by simp only; omega), Nat.zero_le _, ?_, ((D8.out.drop2.at R.out htU (Nat.le_refl _) GS.out (by intro y hy; simp only [List.mem_cons, List.not_mem_nil, or_false] at hy; subst hy; have := hur.out; simp only; omega)).drop).give (Own.nil _ _)⟩
        omega
      · have K := Lib.hid (D8.out.pick (n := 3) [1, 2, 10] (1) (10) rfl rfl (by intro y hy; simp only [List.mem_cons, List.not_mem_nil, or_false] at hy; omega) (by omega) (by omega) (by omega) hl)
        go_wp2_with fail
        refine K.out.mono ?_
        rintro e w9 ⟨m, rfl, lm, um, d⟩
        have D9 := Lib.hid d
        clear d K D8
        obtain ⟨n, rfl⟩ := Int.eq_ofNat_of_zero_le (show 0 ≤ m by omega)
        have K := Lib.hid (D9.out.some n (by omega) hl)
        go_wp2_with fail
        refine K.out.mono ?_
        rintro e w10 ⟨aq, cq, yq, rfl, d⟩
        have D10 := Lib.hid d
        clear d K D9
        have x7 := (D10.out.bx _ (List.mem_cons_self ..)).1.cell 7
        have f7 := (D10.out.bx _ (List.mem_cons_self ..)).1.frozen 7
        simp only at x7 f7
        simp at x7
        have D11 : Hid (DS w (w10.setCell ⟨u, 7, none⟩ (.slice aq n cq)) b _ a len cap zs [⟨u, 25, #[.int .i64 p0, .int .i64 p1, .int .i64 p2, .int .i64 0, .int .i64 p4, .int .i64 p5, .int .i64 0, .slice aq n cq]⟩, ⟨w.heap.size, 25, #[.int .i64 0, .int .i64 0, .int .i64 0, .int .i64 0, .int .i64 0, .int .i64 0, .int .i64 0, .slice none 0 0]⟩] _) := D10.out.put htU (by intro y hy; simp only [List.mem_cons, List.not_mem_nil, or_false] at hy; subst hy; have := hur.out; simp only; omega) 7 _
        generalize hW : w10.setCell ⟨u, 7, none⟩ (.slice aq n cq) = w11 at *
        clear D10
        obtain ⟨_, x0, x1, x2, x3, x4, x5, x6, x7⟩ := (D11.out.bx _ (List.mem_cons_self ..)).1.eight
        simp only at x0 x1 x2 x3 x4 x5 x6 x7
        have R := Lib.hid (D11.out.bx _ (List.mem_cons_of_mem _ (List.mem_cons_self ..))).1
        go_wp2_with ((with_reducible change wpList _ _ _ (Oper.mk none (Op.store _ _ _) _ _ _ _ :: _) _ _); refine storeBox_list _ rfl 25 (.tmp 2) (.tmp 38) rfl w.heap.size 25 _ #[.int .i64 p0, .int .i64 p1, .int .i64 p2, .int .i64 0, .int .i64 p4, .int .i64 p5, .int .i64 0, .slice aq n cq] R.out (by exact rfl) (by exact rfl) (by kernel_rfl) (by exact rfl) (by simp [Value.oneCell']) ?_; intro wS xS gS; have XS := Lib.hid xS; have GS := Lib.hid gS; clear xS gS)
        refine bodyPost_ret (results_cell_row Try.results62 _ _ _ _ _ _ _ rfl XS.out Try.underlying25 rfl (by kernel_rfl)) rfl ⟨⟨p0, p1, p2, 0, p4, p5, 0⟩, _, _, _, _, _, rfl, sgN_mk (by simp only; omega), (by omega), ?_, (D11.out.drop2.at R.out htU (Nat.le_refl _) GS.out (by intro y hy; simp only [List.mem_cons, List.not_mem_nil, or_false] at hy; subst hy; have := hur.out; simp only; omega)).drop⟩
        omega
    · have K := Lib.hid (D7.out.pick (n := 4) [0, 536, 100, 65535] (0) (65535) rfl rfl (by intro y hy; simp only [List.mem_cons, List.not_mem_nil, or_false] at hy; omega) (by omega) (by omega) (by omega) hl)
      go_wp2_with fail
      refine K.out.mono ?_
      rintro e w8 ⟨p6, rfl, lp6, up6, d⟩
      have D8 := Lib.hid d
      clear d K D7
      have x6 := (D8.out.bx _ (List.mem_cons_self ..)).1.cell 6
      have f6 := (D8.out.bx _ (List.mem_cons_self ..)).1.frozen 6
      simp only at x6 f6
      simp at x6
      have D9 : Hid (DS w (w8.setCell ⟨u, 6, none⟩ (.int .i64 p6)) b _ a len cap zs [⟨u, 25, #[.int .i64 p0, .int .i64 p1, .int .i64 p2, .int .i64 0, .int .i64 p4, .int .i64 p5, .int .i64 p6, .slice none 0 0]⟩, ⟨w.heap.size, 25, #[.int .i64 0, .int .i64 0, .int .i64 0, .int .i64 0, .int .i64 0, .int .i64 0, .int .i64 0, .slice none 0 0]⟩] _) := D8.out.put htU (by intro y hy; simp only [List.mem_cons, List.not_mem_nil, or_false] at hy; subst hy; have := hur.out; simp only; omega) 6 _
      generalize hW : w8.setCell ⟨u, 6, none⟩ (.int .i64 p6) = w9 at *
      clear D8
      have K := Lib.hid (D9.out.chance 2 (by omega) hl (by omega))
      go_wp2_with fail
      refine K.out.mono ?_
      rintro e w10 ⟨ch, rfl, d⟩
      have D10 := Lib.hid d
      clear d K D9
      clear hW
      cases ch
      · obtain ⟨_, x0, x1, x2, x3, x4, x5, x6, x7⟩ := (D10.out.bx _ (List.mem_cons_self ..)).1.eight
        simp only at x0 x1 x2 x3 x4 x5 x6 x7
        have R := Lib.hid (D10.out.bx _ (List.mem_cons_of_mem _ (List.mem_cons_self ..))).1
        go_wp2_with ((with_reducible change wpList _ _ _ (Oper.mk none (Op.store _ _ _) _ _ _ _ :: _) _ _); refine storeBox_list _ rfl 25 (.tmp 2) (.tmp 38) rfl w.heap.size 25 _ #[.int .i64 p0, .int .i64 p1, .int .i64 p2, .int .i64 0, .int .i64 p4, .int .i64 p5, .int .i64 p6, .slice none 0 0] R.out (by exact rfl) (by exact rfl) (by kernel_rfl) (by exact rfl) (by simp [Value.oneCell']) ?_; intro wS xS gS; have XS := Lib.hid xS; have GS := Lib.hid gS; clear xS gS)
        refine bodyPost_ret (results_cell_row Try.results62 _ _ _ _ _ _ _ rfl XS.out Try.underlying25 rfl (by kernel_rfl)) rfl ⟨⟨p0, p1, p2, 0, p4, p5, p6⟩, _, _, _, _, _, rfl, sgN_mk (by simp only; omega), Nat.zero_le _, ?_, ((D10.out.drop2.at R.out htU (Nat.le_refl _) GS.out (by intro y hy; simp only [List.mem_cons, List.not_mem_nil, or_false] at hy; subst hy; have := hur.out; simp only; omega)).drop).give (Own.nil _ _)⟩
        omega
      · have K := Lib.hid (D10.out.pick (n := 3) [1, 2, 10] (1) (10) rfl rfl (by intro y hy; simp only [List.mem_cons, List.not_mem_nil, or_false] at hy; omega) (by omega) (by omega) (by omega) hl)
        go_wp2_with fail
        refine K.out.mono ?_
        rintro e w11 ⟨m, rfl, lm, um, d⟩
        have D11 := Lib.hid d
        clear d K D10
        obtain ⟨n, rfl⟩ := Int.eq_ofNat_of_zero_le (show 0 ≤ m by omega)
        have K := Lib.hid (D11.out.some n (by omega) hl)
        go_wp2_with fail
        refine K.out.mono ?_
        rintro e w12 ⟨aq, cq, yq, rfl, d⟩
        have D12 := Lib.hid d
        clear d K D11
        have x7 := (D12.out.bx _ (List.mem_cons_self ..)).1.cell 7
        have f7 := (D12.out.bx _ (List.mem_cons_self ..)).1.frozen 7
        simp only at x7 f7
        simp at x7
        have D13 : Hid (DS w (w12.setCell ⟨u, 7, none⟩ (.slice aq n cq)) b _ a len cap zs [⟨u, 25, #[.int .i64 p0, .int .i64 p1, .int .i64 p2, .int .i64 0, .int .i64 p4, .int .i64 p5, .int .i64 p6, .slice aq n cq]⟩, ⟨w.heap.size, 25, #[.int .i64 0, .int .i64 0, .int .i64 0, .int .i64 0, .int .i64 0, .int .i64 0, .int .i64 0, .slice none 0 0]⟩] _) := D12.out.put htU (by intro y hy; simp only [List.mem_cons, List.not_mem_nil, or_false] at hy; subst hy; have := hur.out; simp only; omega) 7 _
        generalize hW : w12.setCell ⟨u, 7, none⟩ (.slice aq n cq) = w13 at *
        clear D12
        obtain ⟨_, x0, x1, x2, x3, x4, x5, x6, x7⟩ := (D13.out.bx _ (List.mem_cons_self ..)).1.eight
        simp only at x0 x1 x2 x3 x4 x5 x6 x7
        have R := Lib.hid (D13.out.bx _ (List.mem_cons_of_mem _ (List.mem_cons_self ..))).1
        go_wp2_with ((with_reducible change wpList _ _ _ (Oper.mk none (Op.store _ _ _) _ _ _ _ :: _) _ _); refine storeBox_list _ rfl 25 (.tmp 2) (.tmp 38) rfl w.heap.size 25 _ #[.int .i64 p0, .int .i64 p1, .int .i64 p2, .int .i64 0, .int .i64 p4, .int .i64 p5, .int .i64 p6, .slice aq n cq] R.out (by exact rfl) (by exact rfl) (by kernel_rfl) (by exact rfl) (by simp [Value.oneCell']) ?_; intro wS xS gS; have XS := Lib.hid xS; have GS := Lib.hid gS; clear xS gS)
        refine bodyPost_ret (results_cell_row Try.results62 _ _ _ _ _ _ _ rfl XS.out Try.underlying25 rfl (by kernel_rfl)) rfl ⟨⟨p0, p1, p2, 0, p4, p5, p6⟩, _, _, _, _, _, rfl, sgN_mk (by simp only; omega), (by omega), ?_, (D13.out.drop2.at R.out htU (Nat.le_refl _) GS.out (by intro y hy; simp only [List.mem_cons, List.not_mem_nil, or_false] at hy; subst hy; have := hur.out; simp only; omega)).drop⟩
        omega
  · have K := Lib.hid (D7.out.seq (by omega) hl)
    go_wp2_with fail
    refine K.out.mono ?_
    rintro e w8 ⟨p3, rfl, lp3, up3, d⟩
    have D8 := Lib.hid d
    clear d K D7
    have x3 := (D8.out.bx _ (List.mem_cons_self ..)).1.cell 3
    have f3 := (D8.out.bx _ (List.mem_cons_self ..)).1.frozen 3
    simp only at x3 f3
    simp at x3
    have D9 : Hid (DS w (w8.setCell ⟨u, 3, none⟩ (.int .i64 p3)) b _ a len cap zs [⟨u, 25, #[.int .i64 p0, .int .i64 p1, .int .i64 p2, .int .i64 p3, .int .i64 p4, .int .i64 p5, .int .i64 0, .slice none 0 0]⟩, ⟨w.heap.size, 25, #[.int .i64 0, .int .i64 0, .int .i64 0, .int .i64 0, .int .i64 0, .int .i64 0, .int .i64 0, .slice none 0 0]⟩] _) := D8.out.put htU (by intro y hy; simp only [List.mem_cons, List.not_mem_nil, or_false] at hy; subst hy; have := hur.out; simp only; omega) 3 _
    generalize hW : w8.setCell ⟨u, 3, none⟩ (.int .i64 p3) = w9 at *
    clear D8
    go_wp2_with fail
    refine (l5Flag_any u ⟨p0, p1, p2, p3, p4, p5, 0⟩ none 0 0 2 _ (D9.out.bx _ (List.mem_cons_self ..)).1 (by simp only; omega) (by omega)).mono ?_
    rintro e w' ⟨rfl, rfl⟩
    clear hW
    cases m2 : flB p4 2
    · have K := Lib.hid (D9.out.chance 2 (by omega) hl (by omega))
      go_wp2_with fail
      refine K.out.mono ?_
      rintro e w10 ⟨ch, rfl, d⟩
      have D10 := Lib.hid d
      clear d K D9
      cases ch
      · obtain ⟨_, x0, x1, x2, x3, x4, x5, x6, x7⟩ := (D10.out.bx _ (List.mem_cons_self ..)).1.eight
        simp only at x0 x1 x2 x3 x4 x5 x6 x7
        have R := Lib.hid (D10.out.bx _ (List.mem_cons_of_mem _ (List.mem_cons_self ..))).1
        go_wp2_with ((with_reducible change wpList _ _ _ (Oper.mk none (Op.store _ _ _) _ _ _ _ :: _) _ _); refine storeBox_list _ rfl 25 (.tmp 2) (.tmp 38) rfl w.heap.size 25 _ #[.int .i64 p0, .int .i64 p1, .int .i64 p2, .int .i64 p3, .int .i64 p4, .int .i64 p5, .int .i64 0, .slice none 0 0] R.out (by exact rfl) (by exact rfl) (by kernel_rfl) (by exact rfl) (by simp [Value.oneCell']) ?_; intro wS xS gS; have XS := Lib.hid xS; have GS := Lib.hid gS; clear xS gS)
        refine bodyPost_ret (results_cell_row Try.results62 _ _ _ _ _ _ _ rfl XS.out Try.underlying25 rfl (by kernel_rfl)) rfl ⟨⟨p0, p1, p2, p3, p4, p5, 0⟩, _, _, _, _, _, rfl, sgN_mk (by simp only; omega), Nat.zero_le _, ?_, ((D10.out.drop2.at R.out htU (Nat.le_refl _) GS.out (by intro y hy; simp only [List.mem_cons, List.not_mem_nil, or_false] at hy; subst hy; have := hur.out; simp only; omega)).drop).give (Own.nil _ _)⟩
        omega
      · have K := Lib.hid (D10.out.pick (n := 3) [1, 2, 10] (1) (10) rfl rfl (by intro y hy; simp only [List.mem_cons, List.not_mem_nil, or_false] at hy; omega) (by omega) (by omega) (by omega) hl)
        go_wp2_with fail
        refine K.out.mono ?_
        rintro e w11 ⟨m, rfl, lm, um, d⟩
        have D11 := Lib.hid d
        clear d K D10
        obtain ⟨n, rfl⟩ := Int.eq_ofNat_of_zero_le (show 0 ≤ m by omega)
        have K := Lib.hid (D11.out.some n (by omega) hl)
        go_wp2_with fail
        refine K.out.mono ?_
        rintro e w12 ⟨aq, cq, yq, rfl, d⟩
        have D12 := Lib.hid d
        clear d K D11
        have x7 := (D12.out.bx _ (List.mem_cons_self ..)).1.cell 7
        have f7 := (D12.out.bx _ (List.mem_cons_self ..)).1.frozen 7
        simp only at x7 f7
        simp at x7
        have D13 : Hid (DS w (w12.setCell ⟨u, 7, none⟩ (.slice aq n cq)) b _ a len cap zs [⟨u, 25, #[.int .i64 p0, .int .i64 p1, .int .i64 p2, .int .i64 p3, .int .i64 p4, .int .i64 p5, .int .i64 0, .slice aq n cq]⟩, ⟨w.heap.size, 25, #[.int .i64 0, .int .i64 0, .int .i64 0, .int .i64 0, .int .i64 0, .int .i64 0, .int .i64 0, .slice none 0 0]⟩] _) := D12.out.put htU (by intro y hy; simp only [List.mem_cons, List.not_mem_nil, or_false] at hy; subst hy; have := hur.out; simp only; omega) 7 _
        generalize hW : w12.setCell ⟨u, 7, none⟩ (.slice aq n cq) = w13 at *
        clear D12
        obtain ⟨_, x0, x1, x2, x3, x4, x5, x6, x7⟩ := (D13.out.bx _ (List.mem_cons_self ..)).1.eight
        simp only at x0 x1 x2 x3 x4 x5 x6 x7
        have R := Lib.hid (D13.out.bx _ (List.mem_cons_of_mem _ (List.mem_cons_self ..))).1
        go_wp2_with ((with_reducible change wpList _ _ _ (Oper.mk none (Op.store _ _ _) _ _ _ _ :: _) _ _); refine storeBox_list _ rfl 25 (.tmp 2) (.tmp 38) rfl w.heap.size 25 _ #[.int .i64 p0, .int .i64 p1, .int .i64 p2, .int .i64 p3, .int .i64 p4, .int .i64 p5, .int .i64 0, .slice aq n cq] R.out (by exact rfl) (by exact rfl) (by kernel_rfl) (by exact rfl) (by simp [Value.oneCell']) ?_; intro wS xS gS; have XS := Lib.hid xS; have GS := Lib.hid gS; clear xS gS)
        refine bodyPost_ret (results_cell_row Try.results62 _ _ _ _ _ _ _ rfl XS.out Try.underlying25 rfl (by kernel_rfl)) rfl ⟨⟨p0, p1, p2, p3, p4, p5, 0⟩, _, _, _, _, _, rfl, sgN_mk (by simp only; omega), (by omega), ?_, (D13.out.drop2.at R.out htU (Nat.le_refl _) GS.out (by intro y hy; simp only [List.mem_cons, List.not_mem_nil, or_false] at hy; subst hy; have := hur.out; simp only; omega)).drop⟩
        omega
    · have K := Lib.hid (D9.out.pick (n := 4) [0, 536, 100, 65535] (0) (65535) rfl rfl (by intro y hy; simp only [List.mem_cons, List.not_mem_nil, or_false] at hy; omega) (by omega) (by omega) (by omega) hl)
      go_wp2_with fail
      refine K.out.mono ?_
      rintro e w10 ⟨p6, rfl, lp6, up6, d⟩
      have D10 := Lib.hid d
      clear d K D9
      have x6 := (D10.out.bx _ (List.mem_cons_self ..)).1.cell 6
      have f6 := (D10.out.bx _ (List.mem_cons_self ..)).1.frozen 6
      simp only at x6 f6
      simp at x6
      have D11 : Hid (DS w (w10.setCell ⟨u, 6, none⟩ (.int .i64 p6)) b _ a len cap zs [⟨u, 25, #[.int .i64 p0, .int .i64 p1, .int .i64 p2, .int .i64 p3, .int .i64 p4, .int .i64 p5, .int .i64 p6, .slice none 0 0]⟩, ⟨w.heap.size, 25, #[.int .i64 0, .int .i64 0, .int .i64 0, .int .i64 0, .int .i64 0, .int .i64 0, .int .i64 0, .slice none 0 0]⟩] _) := D10.out.put htU (by intro y hy; simp only [List.mem_cons, List.not_mem_nil, or_false] at hy; subst hy; have := hur.out; simp only; omega) 6 _
      generalize hW : w10.setCell ⟨u, 6, none⟩ (.int .i64 p6) = w11 at *
      clear D10
      have K := Lib.hid (D11.out.chance 2 (by omega) hl (by omega))
      go_wp2_with fail
      refine K.out.mono ?_
      rintro e w12 ⟨ch, rfl, d⟩
      have D12 := Lib.hid d
      clear d K D11
      clear hW
      cases ch
      · obtain ⟨_, x0, x1, x2, x3, x4, x5, x6, x7⟩ := (D12.out.bx _ (List.mem_cons_self ..)).1.eight
        simp only at x0 x1 x2 x3 x4 x5 x6 x7
        have R := Lib.hid (D12.out.bx _ (List.mem_cons_of_mem _ (List.mem_cons_self ..))).1
        go_wp2_with ((with_reducible change wpList _ _ _ (Oper.mk none (Op.store _ _ _) _ _ _ _ :: _) _ _); refine storeBox_list _ rfl 25 (.tmp 2) (.tmp 38) rfl w.heap.size 25 _ #[.int .i64 p0, .int .i64 p1, .int .i64 p2, .int .i64 p3, .int .i64 p4, .int .i64 p5, .int .i64 p6, .slice none 0 0] R.out (by exact rfl) (by exact rfl) (by kernel_rfl) (by exact rfl) (by simp [Value.oneCell']) ?_; intro wS xS gS; have XS := Lib.hid xS; have GS := Lib.hid gS; clear xS gS)
        refine bodyPost_ret (results_cell_row Try.results62 _ _ _ _ _ _ _ rfl XS.out Try.underlying25 rfl (by kernel_rfl)) rfl ⟨⟨p0, p1, p2, p3, p4, p5, p6⟩, _, _, _, _, _, rfl, sgN_mk (by simp only; omega), Nat.zero_le _, ?_, ((D12.out.drop2.at R.out htU (Nat.le_refl _) GS.out (by intro y hy; simp only [List.mem_cons, List.not_mem_nil, or_false] at hy; subst hy; have := hur.out; simp only; omega)).drop).give (Own.nil _ _)⟩
        omega
      · have K := Lib.hid (D12.out.pick (n := 3) [1, 2, 10] (1) (10) rfl rfl (by intro y hy; simp only [List.mem_cons, List.not_mem_nil, or_false] at hy; omega) (by omega) (by omega) (by omega) hl)
        go_wp2_with fail
        refine K.out.mono ?_
        rintro e w13 ⟨m, rfl, lm, um, d⟩
        have D13 := Lib.hid d
        clear d K D12
        obtain ⟨n, rfl⟩ := Int.eq_ofNat_of_zero_le (show 0 ≤ m by omega)
        have K := Lib.hid (D13.out.some n (by omega) hl)
        go_wp2_with fail
        refine K.out.mono ?_
        rintro e w14 ⟨aq, cq, yq, rfl, d⟩
        have D14 := Lib.hid d
        clear d K D13
        have x7 := (D14.out.bx _ (List.mem_cons_self ..)).1.cell 7
        have f7 := (D14.out.bx _ (List.mem_cons_self ..)).1.frozen 7
        simp only at x7 f7
        simp at x7
        have D15 : Hid (DS w (w14.setCell ⟨u, 7, none⟩ (.slice aq n cq)) b _ a len cap zs [⟨u, 25, #[.int .i64 p0, .int .i64 p1, .int .i64 p2, .int .i64 p3, .int .i64 p4, .int .i64 p5, .int .i64 p6, .slice aq n cq]⟩, ⟨w.heap.size, 25, #[.int .i64 0, .int .i64 0, .int .i64 0, .int .i64 0, .int .i64 0, .int .i64 0, .int .i64 0, .slice none 0 0]⟩] _) := D14.out.put htU (by intro y hy; simp only [List.mem_cons, List.not_mem_nil, or_false] at hy; subst hy; have := hur.out; simp only; omega) 7 _
        generalize hW : w14.setCell ⟨u, 7, none⟩ (.slice aq n cq) = w15 at *
        clear D14
        obtain ⟨_, x0, x1, x2, x3, x4, x5, x6, x7⟩ := (D15.out.bx _ (List.mem_cons_self ..)).1.eight
        simp only at x0 x1 x2 x3 x4 x5 x6 x7
        have R := Lib.hid (D15.out.bx _ (List.mem_cons_of_mem _ (List.mem_cons_self ..))).1
        go_wp2_with ((with_reducible change wpList _ _ _ (Oper.mk none (Op.store _ _ _) _ _ _ _ :: _) _ _); refine storeBox_list _ rfl 25 (.tmp 2) (.tmp 38) rfl w.heap.size 25 _ #[.int .i64 p0, .int .i64 p1, .int .i64 p2, .int .i64 p3, .int .i64 p4, .int .i64 p5, .int .i64 p6, .slice aq n cq] R.out (by exact rfl) (by exact rfl) (by kernel_rfl) (by exact rfl) (by simp [Value.oneCell']) ?_; intro wS xS gS; have XS := Lib.hid xS; have GS := Lib.hid gS; clear xS gS)
        refine bodyPost_ret (results_cell_row Try.results62 _ _ _ _ _ _ _ rfl XS.out Try.underlying25 rfl (by kernel_rfl)) rfl ⟨⟨p0, p1, p2, p3, p4, p5, p6⟩, _, _, _, _, _, rfl, sgN_mk (by simp only; omega), (by omega), ?_, (D15.out.drop2.at R.out htU (Nat.le_refl _) GS.out (by intro y hy; simp only [List.mem_cons, List.not_mem_nil, or_false] at hy; subst hy; have := hur.out; simp only; omega)).drop⟩
        omega
end Go.Proofs.Yteaiemckcepphaa
