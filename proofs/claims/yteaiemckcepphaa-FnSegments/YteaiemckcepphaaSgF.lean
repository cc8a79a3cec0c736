/-
  DrawSegmentFault.
-/
import Derived.Test.YteaiemckcepphaaSgV
namespace Go.Proofs.Yteaiemckcepphaa
open Go.ChangeShapes Go.WideShapes Go.ChangeAt Go.RowKit

/-- some segment, its data in an array of their own -/
def SgAny (w : World) (e : Ending) (w' : World) : Prop :=
  ∃ (x : Sg) (a' : Option Addr) (n c' : Nat) (ys : List Int), e = .returned (.agg #[.int .i64 x.f, .int .i64 x.t, .int .i64 x.s, .int .i64 x.a, .int .i64 x.g, .int .i64 x.w, .int .i64 x.m, .slice a' n c']) ∧ Own w' w.heap.size a' n c' ys ∧ n ≤ 600 ∧ Below w.heap.size w w'

set_option maxRecDepth 20000 in
set_option maxHeartbeats 8000000 in
theorem drawSegmentFault (a : Option Addr) (len cap : Nat) (zs : List Int) (w : World) (hr : Rd w a len cap zs) (hl : len ≤ 1048576) :
    Calls Try.prog 51 #[.slice a len cap] w (SgAny w) := by
  have htU : 25 ≠ 5 := by decide
  have HR := Lib.hid hr
  have B0 := Lib.hid ((Below.refl w.heap.size w).alloc (Nat.le_refl _) (.cells #[.int .i64 0, .int .i64 0, .int .i64 0, .int .i64 0, .int .i64 0, .int .i64 0, .int .i64 0, .slice none 0 0] 25))
  have R0 := Lib.hid (Box.new w 25 #[.int .i64 0, .int .i64 0, .int .i64 0, .int .i64 0, .int .i64 0, .int .i64 0, .int .i64 0, .slice none 0 0])
  clear hr
  go_enter Try.func51, Try.ntmps51
  go_wp2_with fail
  refine (l1Source_any a len cap zs _ (HR.out.alloc _)).mono ?_
  rintro e w1 ⟨rfl, s1, b1⟩
  simp only [World.size_alloc] at s1 b1
  simp only [World.size_alloc]
  have D1 := Lib.hid (DT.start (bl := [⟨w.heap.size, 25, #[.int .i64 0, .int .i64 0, .int .i64 0, .int .i64 0, .int .i64 0, .int .i64 0, .int .i64 0, .slice none 0 0]⟩]) HR.out s1 (B0.out.trans (b1.mono (by simp))) (Nat.le_succ _) (by intro y hy; simp only [List.mem_cons, List.not_mem_nil, or_false] at hy; subst hy; exact ⟨R0.out.below b1 (Nat.lt_succ_self _), Nat.le_refl _, by simp only; omega⟩))
  clear s1 b1 R0 B0
  go_wp2_with fail
  refine (l5Draw_any _ _ a len cap zs _ D1.out.src (by omega) hl).mono ?_
  rintro e w2 ⟨x, a2, n2, c2, ys2, t2, rfl, hn, hn2, ht2, d⟩
  obtain ⟨n0, n1, n2', n3, n4, n5, n6⟩ := sgN_parts hn
  have D2 := Lib.hid (D1.out.drawn d)
  clear d D1
  have D3 := Lib.hid (D2.out.push 25 #[.int .i64 x.f, .int .i64 x.t, .int .i64 x.s, .int .i64 x.a, .int .i64 x.g, .int .i64 x.w, .int .i64 x.m, .slice a2 n2 c2])
  have hur := Lib.hid (show w.heap.size < w2.heap.size from (D2.out.bx _ (List.mem_cons_self ..)).1.lt)
  clear D2
  go_wp2_with fail
  generalize w2.alloc (.cells #[.int .i64 x.f, .int .i64 x.t, .int .i64 x.s, .int .i64 x.a, .int .i64 x.g, .int .i64 x.w, .int .i64 x.m, .slice a2 n2 c2] 25) = w3 at *
  generalize w2.heap.size = u at *
  refine (D3.out.next 14 (by omega) hl (by omega)).mono ?_
  rintro e w4 ⟨k, rfl, lk, uk, d⟩
  have D4 := Lib.hid d
  clear d D3
  by_cases k0 : k = 0
  · subst k0
    have K := Lib.hid (D4.out.pick (n := 2) [0, 65536] (0) (65536) rfl rfl (by intro y hy; simp only [List.mem_cons, List.not_mem_nil, or_false] at hy; omega) (by omega) (by omega) (by omega) hl)
    go_wp2_with fail
    refine K.out.mono ?_
    rintro e w5 ⟨v, rfl, lv, uv, d⟩
    have D5 := Lib.hid d
    clear d K D4
    have x0 := (D5.out.bx _ (List.mem_cons_self ..)).1.cell 0
    have f0 := (D5.out.bx _ (List.mem_cons_self ..)).1.frozen 0
    simp only at x0 f0
    simp at x0
    have D6 : Hid (DT w (w5.setCell ⟨u, 0, none⟩ (.int .i64 v)) _ _ a len cap zs [⟨u, 25, #[.int .i64 v, .int .i64 x.t, .int .i64 x.s, .int .i64 x.a, .int .i64 x.g, .int .i64 x.w, .int .i64 x.m, .slice a2 n2 c2]⟩, ⟨w.heap.size, 25, #[.int .i64 0, .int .i64 0, .int .i64 0, .int .i64 0, .int .i64 0, .int .i64 0, .int .i64 0, .slice none 0 0]⟩] _) := D5.out.put htU (by intro y hy; simp only [List.mem_cons, List.not_mem_nil, or_false] at hy; subst hy; have := hur.out; simp only; omega) 0 _
    generalize hW : w5.setCell ⟨u, 0, none⟩ (.int .i64 v) = w6 at *
    clear D5
    obtain ⟨_, x0, x1, x2, x3, x4, x5, x6, x7⟩ := (D6.out.bx _ (List.mem_cons_self ..)).1.eight
    simp only at x0 x1 x2 x3 x4 x5 x6 x7
    have R := Lib.hid (D6.out.bx _ (List.mem_cons_of_mem _ (List.mem_cons_self ..)))
    go_wp2_with ((with_reducible change wpList _ _ _ (Oper.mk none (Op.store _ _ _) _ _ _ _ :: _) _ _); refine storeBox_list _ rfl 25 (.tmp 2) (.tmp 57) rfl w.heap.size 25 _ #[.int .i64 v, .int .i64 x.t, .int .i64 x.s, .int .i64 x.a, .int .i64 x.g, .int .i64 x.w, .int .i64 x.m, .slice a2 n2 c2] R.out.1 (by exact rfl) (by exact rfl) (by kernel_rfl) (by exact rfl) (by simp [Value.oneCell']) ?_; intro wS xS gS; have XS := Lib.hid xS; have GS := Lib.hid gS; clear xS gS)
    have DF := D6.out.drop2.at R.out.1 htU (Nat.le_refl _) R.out.2.2 GS.out (by intro y hy; simp only [List.mem_cons, List.not_mem_nil, or_false] at hy; subst hy; have := hur.out; simp only; omega)
    exact bodyPost_ret (results_cell_row Try.results51 _ _ _ _ _ _ _ rfl XS.out Try.underlying25 rfl (by kernel_rfl)) rfl ⟨⟨v, x.t, x.s, x.a, x.g, x.w, x.m⟩, _, _, _, _, rfl, (DF.own _ (List.mem_cons_self ..)).1, (by omega), DF.bel⟩
  have e0 : (k == 0) = false := by simpa using k0
  by_cases k1 : k = 1
  · subst k1
    have K := Lib.hid (D4.out.pick (n := 2) [-1, 4294967296] (-1) (4294967296) rfl rfl (by intro y hy; simp only [List.mem_cons, List.not_mem_nil, or_false] at hy; omega) (by omega) (by omega) (by omega) hl)
    go_wp2_with fail
    refine K.out.mono ?_
    rintro e w5 ⟨v, rfl, lv, uv, d⟩
    have D5 := Lib.hid d
    clear d K D4
    have x2 := (D5.out.bx _ (List.mem_cons_self ..)).1.cell 2
    have f2 := (D5.out.bx _ (List.mem_cons_self ..)).1.frozen 2
    simp only at x2 f2
    simp at x2
    have D6 : Hid (DT w (w5.setCell ⟨u, 2, none⟩ (.int .i64 v)) _ _ a len cap zs [⟨u, 25, #[.int .i64 x.f, .int .i64 x.t, .int .i64 v, .int .i64 x.a, .int .i64 x.g, .int .i64 x.w, .int .i64 x.m, .slice a2 n2 c2]⟩, ⟨w.heap.size, 25, #[.int .i64 0, .int .i64 0, .int .i64 0, .int .i64 0, .int .i64 0, .int .i64 0, .int .i64 0, .slice none 0 0]⟩] _) := D5.out.put htU (by intro y hy; simp only [List.mem_cons, List.not_mem_nil, or_false] at hy; subst hy; have := hur.out; simp only; omega) 2 _
    generalize hW : w5.setCell ⟨u, 2, none⟩ (.int .i64 v) = w6 at *
    clear D5
    obtain ⟨_, x0, x1, x2, x3, x4, x5, x6, x7⟩ := (D6.out.bx _ (List.mem_cons_self ..)).1.eight
    simp only at x0 x1 x2 x3 x4 x5 x6 x7
    have R := Lib.hid (D6.out.bx _ (List.mem_cons_of_mem _ (List.mem_cons_self ..)))
    go_wp2_with ((with_reducible change wpList _ _ _ (Oper.mk none (Op.store _ _ _) _ _ _ _ :: _) _ _); refine storeBox_list _ rfl 25 (.tmp 2) (.tmp 57) rfl w.heap.size 25 _ #[.int .i64 x.f, .int .i64 x.t, .int .i64 v, .int .i64 x.a, .int .i64 x.g, .int .i64 x.w, .int .i64 x.m, .slice a2 n2 c2] R.out.1 (by exact rfl) (by exact rfl) (by kernel_rfl) (by exact rfl) (by simp [Value.oneCell']) ?_; intro wS xS gS; have XS := Lib.hid xS; have GS := Lib.hid gS; clear xS gS)
    have DF := D6.out.drop2.at R.out.1 htU (Nat.le_refl _) R.out.2.2 GS.out (by intro y hy; simp only [List.mem_cons, List.not_mem_nil, or_false] at hy; subst hy; have := hur.out; simp only; omega)
    exact bodyPost_ret (results_cell_row Try.results51 _ _ _ _ _ _ _ rfl XS.out Try.underlying25 rfl (by kernel_rfl)) rfl ⟨⟨x.f, x.t, v, x.a, x.g, x.w, x.m⟩, _, _, _, _, rfl, (DF.own _ (List.mem_cons_self ..)).1, (by omega), DF.bel⟩
  have e1 : (k == 1) = false := by simpa using k1
  by_cases k2 : k = 2
  · subst k2
    have K := Lib.hid (D4.out.pick (n := 2) [5, -1] (-1) (5) rfl rfl (by intro y hy; simp only [List.mem_cons, List.not_mem_nil, or_false] at hy; omega) (by omega) (by omega) (by omega) hl)
    go_wp2_with fail
    refine K.out.mono ?_
    rintro e w5 ⟨v, rfl, lv, uv, d⟩
    have D5 := Lib.hid d
    clear d K D4
    have x3 := (D5.out.bx _ (List.mem_cons_self ..)).1.cell 3
    have f3 := (D5.out.bx _ (List.mem_cons_self ..)).1.frozen 3
    simp only at x3 f3
    simp at x3
    have D6 : Hid (DT w (w5.setCell ⟨u, 3, none⟩ (.int .i64 v)) _ _ a len cap zs [⟨u, 25, #[.int .i64 x.f, .int .i64 x.t, .int .i64 x.s, .int .i64 v, .int .i64 x.g, .int .i64 x.w, .int .i64 x.m, .slice a2 n2 c2]⟩, ⟨w.heap.size, 25, #[.int .i64 0, .int .i64 0, .int .i64 0, .int .i64 0, .int .i64 0, .int .i64 0, .int .i64 0, .slice none 0 0]⟩] _) := D5.out.put htU (by intro y hy; simp only [List.mem_cons, List.not_mem_nil, or_false] at hy; subst hy; have := hur.out; simp only; omega) 3 _
    generalize hW : w5.setCell ⟨u, 3, none⟩ (.int .i64 v) = w6 at *
    clear D5
    obtain ⟨_, x0, x1, x2, x3, x4, x5, x6, x7⟩ := (D6.out.bx _ (List.mem_cons_self ..)).1.eight
    simp only at x0 x1 x2 x3 x4 x5 x6 x7
    have R := Lib.hid (D6.out.bx _ (List.mem_cons_of_mem _ (List.mem_cons_self ..)))
    go_wp2_with ((with_reducible change wpList _ _ _ (Oper.mk none (Op.store _ _ _) _ _ _ _ :: _) _ _); refine storeBox_list _ rfl 25 (.tmp 2) (.tmp 57) rfl w.heap.size 25 _ #[.int .i64 x.f, .int .i64 x.t, .int .i64 x.s, .int .i64 v, .int .i64 x.g, .int .i64 x.w, .int .i64 x.m, .slice a2 n2 c2] R.out.1 (by exact rfl) (by exact rfl) (by kernel_rfl) (by exact rfl) (by simp [Value.oneCell']) ?_; intro wS xS gS; have XS := Lib.hid xS; have GS := Lib.hid gS; clear xS gS)
    have DF := D6.out.drop2.at R.out.1 htU (Nat.le_refl _) R.out.2.2 GS.out (by intro y hy; simp only [List.mem_cons, List.not_mem_nil, or_false] at hy; subst hy; have := hur.out; simp only; omega)
    exact bodyPost_ret (results_cell_row Try.results51 _ _ _ _ _ _ _ rfl XS.out Try.underlying25 rfl (by kernel_rfl)) rfl ⟨⟨x.f, x.t, x.s, v, x.g, x.w, x.m⟩, _, _, _, _, rfl, (DF.own _ (List.mem_cons_self ..)).1, (by omega), DF.bel⟩
  have e2 : (k == 2) = false := by simpa using k2
  by_cases k3 : k = 3
  · subst k3
    have K := Lib.hid (D4.out.pick (n := 3) [-1, 32, 0] (-1) (32) rfl rfl (by intro y hy; simp only [List.mem_cons, List.not_mem_nil, or_false] at hy; omega) (by omega) (by omega) (by omega) hl)
    go_wp2_with fail
    refine K.out.mono ?_
    rintro e w5 ⟨v, rfl, lv, uv, d⟩
    have D5 := Lib.hid d
    clear d K D4
    have x4 := (D5.out.bx _ (List.mem_cons_self ..)).1.cell 4
    have f4 := (D5.out.bx _ (List.mem_cons_self ..)).1.frozen 4
    simp only at x4 f4
    simp at x4
    have D6 : Hid (DT w (w5.setCell ⟨u, 4, none⟩ (.int .i64 v)) _ _ a len cap zs [⟨u, 25, #[.int .i64 x.f, .int .i64 x.t, .int .i64 x.s, .int .i64 x.a, .int .i64 v, .int .i64 x.w, .int .i64 x.m, .slice a2 n2 c2]⟩, ⟨w.heap.size, 25, #[.int .i64 0, .int .i64 0, .int .i64 0, .int .i64 0, .int .i64 0, .int .i64 0, .int .i64 0, .slice none 0 0]⟩] _) := D5.out.put htU (by intro y hy; simp only [List.mem_cons, List.not_mem_nil, or_false] at hy; subst hy; have := hur.out; simp only; omega) 4 _
    generalize hW : w5.setCell ⟨u, 4, none⟩ (.int .i64 v) = w6 at *
    clear D5
    obtain ⟨_, x0, x1, x2, x3, x4, x5, x6, x7⟩ := (D6.out.bx _ (List.mem_cons_self ..)).1.eight
    simp only at x0 x1 x2 x3 x4 x5 x6 x7
    have R := Lib.hid (D6.out.bx _ (List.mem_cons_of_mem _ (List.mem_cons_self ..)))
    go_wp2_with ((with_reducible change wpList _ _ _ (Oper.mk none (Op.store _ _ _) _ _ _ _ :: _) _ _); refine storeBox_list _ rfl 25 (.tmp 2) (.tmp 57) rfl w.heap.size 25 _ #[.int .i64 x.f, .int .i64 x.t, .int .i64 x.s, .int .i64 x.a, .int .i64 v, .int .i64 x.w, .int .i64 x.m, .slice a2 n2 c2] R.out.1 (by exact rfl) (by exact rfl) (by kernel_rfl) (by exact rfl) (by simp [Value.oneCell']) ?_; intro wS xS gS; have XS := Lib.hid xS; have GS := Lib.hid gS; clear xS gS)
    have DF := D6.out.drop2.at R.out.1 htU (Nat.le_refl _) R.out.2.2 GS.out (by intro y hy; simp only [List.mem_cons, List.not_mem_nil, or_false] at hy; subst hy; have := hur.out; simp only; omega)
    exact bodyPost_ret (results_cell_row Try.results51 _ _ _ _ _ _ _ rfl XS.out Try.underlying25 rfl (by kernel_rfl)) rfl ⟨⟨x.f, x.t, x.s, x.a, v, x.w, x.m⟩, _, _, _, _, rfl, (DF.own _ (List.mem_cons_self ..)).1, (by omega), DF.bel⟩
  have e3 : (k == 3) = false := by simpa using k3
  by_cases k4 : k = 4
  · subst k4
    have K := Lib.hid (D4.out.pick (n := 2) [5, 65536] (5) (65536) rfl rfl (by intro y hy; simp only [List.mem_cons, List.not_mem_nil, or_false] at hy; omega) (by omega) (by omega) (by omega) hl)
    go_wp2_with fail
    refine K.out.mono ?_
    rintro e w5 ⟨v, rfl, lv, uv, d⟩
    have D5 := Lib.hid d
    clear d K D4
    have x6 := (D5.out.bx _ (List.mem_cons_self ..)).1.cell 6
    have f6 := (D5.out.bx _ (List.mem_cons_self ..)).1.frozen 6
    simp only at x6 f6
    simp at x6
    have D6 : Hid (DT w (w5.setCell ⟨u, 6, none⟩ (.int .i64 v)) _ _ a len cap zs [⟨u, 25, #[.int .i64 x.f, .int .i64 x.t, .int .i64 x.s, .int .i64 x.a, .int .i64 x.g, .int .i64 x.w, .int .i64 v, .slice a2 n2 c2]⟩, ⟨w.heap.size, 25, #[.int .i64 0, .int .i64 0, .int .i64 0, .int .i64 0, .int .i64 0, .int .i64 0, .int .i64 0, .slice none 0 0]⟩] _) := D5.out.put htU (by intro y hy; simp only [List.mem_cons, List.not_mem_nil, or_false] at hy; subst hy; have := hur.out; simp only; omega) 6 _
    generalize hW : w5.setCell ⟨u, 6, none⟩ (.int .i64 v) = w6 at *
    clear D5
    obtain ⟨_, x0, x1, x2, x3, x4, x5, x6, x7⟩ := (D6.out.bx _ (List.mem_cons_self ..)).1.eight
    simp only at x0 x1 x2 x3 x4 x5 x6 x7
    have R := Lib.hid (D6.out.bx _ (List.mem_cons_of_mem _ (List.mem_cons_self ..)))
    go_wp2_with ((with_reducible change wpList _ _ _ (Oper.mk none (Op.store _ _ _) _ _ _ _ :: _) _ _); refine storeBox_list _ rfl 25 (.tmp 2) (.tmp 57) rfl w.heap.size 25 _ #[.int .i64 x.f, .int .i64 x.t, .int .i64 x.s, .int .i64 x.a, .int .i64 x.g, .int .i64 x.w, .int .i64 v, .slice a2 n2 c2] R.out.1 (by exact rfl) (by exact rfl) (by kernel_rfl) (by exact rfl) (by simp [Value.oneCell']) ?_; intro wS xS gS; have XS := Lib.hid xS; have GS := Lib.hid gS; clear xS gS)
    have DF := D6.out.drop2.at R.out.1 htU (Nat.le_refl _) R.out.2.2 GS.out (by intro y hy; simp only [List.mem_cons, List.not_mem_nil, or_false] at hy; subst hy; have := hur.out; simp only; omega)
    exact bodyPost_ret (results_cell_row Try.results51 _ _ _ _ _ _ _ rfl XS.out Try.underlying25 rfl (by kernel_rfl)) rfl ⟨⟨x.f, x.t, x.s, x.a, x.g, x.w, v⟩, _, _, _, _, rfl, (DF.own _ (List.mem_cons_self ..)).1, (by omega), DF.bel⟩
  have e4 : (k == 4) = false := by simpa using k4
  by_cases k5 : k = 5
  · subst k5
    have K := Lib.hid (D4.out.chance 2 (by omega) hl (by omega))
    go_wp2_with fail
    refine K.out.mono ?_
    rintro e w5 ⟨ch, rfl, d⟩
    have D5 := Lib.hid d
    clear d K D4
    cases ch
    · obtain ⟨_, x0, x1, x2, x3, x4, x5, x6, x7⟩ := (D5.out.bx _ (List.mem_cons_self ..)).1.eight
      simp only at x0 x1 x2 x3 x4 x5 x6 x7
      have R := Lib.hid (D5.out.bx _ (List.mem_cons_of_mem _ (List.mem_cons_self ..)))
      go_wp2_with ((with_reducible change wpList _ _ _ (Oper.mk none (Op.store _ _ _) _ _ _ _ :: _) _ _); refine storeBox_list _ rfl 25 (.tmp 2) (.tmp 57) rfl w.heap.size 25 _ #[.int .i64 x.f, .int .i64 x.t, .int .i64 x.s, .int .i64 x.a, .int .i64 x.g, .int .i64 x.w, .int .i64 x.m, .slice a2 n2 c2] R.out.1 (by exact rfl) (by exact rfl) (by kernel_rfl) (by exact rfl) (by simp [Value.oneCell']) ?_; intro wS xS gS; have XS := Lib.hid xS; have GS := Lib.hid gS; clear xS gS)
      have DF := D5.out.drop2.at R.out.1 htU (Nat.le_refl _) R.out.2.2 GS.out (by intro y hy; simp only [List.mem_cons, List.not_mem_nil, or_false] at hy; subst hy; have := hur.out; simp only; omega)
      exact bodyPost_ret (results_cell_row Try.results51 _ _ _ _ _ _ _ rfl XS.out Try.underlying25 rfl (by kernel_rfl)) rfl ⟨⟨x.f, x.t, x.s, x.a, x.g, x.w, x.m⟩, _, _, _, _, rfl, (DF.own _ (List.mem_cons_self ..)).1, (by omega), DF.bel⟩
    · have K := Lib.hid (D5.out.pick (n := 2) [520, 521] (520) (521) rfl rfl (by intro y hy; simp only [List.mem_cons, List.not_mem_nil, or_false] at hy; omega) (by omega) (by omega) (by omega) hl)
      go_wp2_with fail
      refine K.out.mono ?_
      rintro e w6 ⟨m, rfl, lm, um, d⟩
      have D6 := Lib.hid d
      clear d K D5
      obtain ⟨n, rfl⟩ := Int.eq_ofNat_of_zero_le (show 0 ≤ m by omega)
      have K := Lib.hid (D6.out.some n (by omega) hl)
      go_wp2_with fail
      refine K.out.mono ?_
      rintro e w7 ⟨aq, cq, yq, rfl, d⟩
      have D7 := Lib.hid d
      clear d K D6
      have x7 := (D7.out.bx _ (List.mem_cons_self ..)).1.cell 7
      have f7 := (D7.out.bx _ (List.mem_cons_self ..)).1.frozen 7
      simp only at x7 f7
      simp at x7
      have D8 : Hid (DT w (w7.setCell ⟨u, 7, none⟩ (.slice aq n cq)) _ _ a len cap zs [⟨u, 25, #[.int .i64 x.f, .int .i64 x.t, .int .i64 x.s, .int .i64 x.a, .int .i64 x.g, .int .i64 x.w, .int .i64 x.m, .slice aq n cq]⟩, ⟨w.heap.size, 25, #[.int .i64 0, .int .i64 0, .int .i64 0, .int .i64 0, .int .i64 0, .int .i64 0, .int .i64 0, .slice none 0 0]⟩] _) := D7.out.put htU (by intro y hy; simp only [List.mem_cons, List.not_mem_nil, or_false] at hy; subst hy; have := hur.out; simp only; omega) 7 _
      generalize hW : w7.setCell ⟨u, 7, none⟩ (.slice aq n cq) = w8 at *
      clear D7
      obtain ⟨_, x0, x1, x2, x3, x4, x5, x6, x7⟩ := (D8.out.bx _ (List.mem_cons_self ..)).1.eight
      simp only at x0 x1 x2 x3 x4 x5 x6 x7
      have R := Lib.hid (D8.out.bx _ (List.mem_cons_of_mem _ (List.mem_cons_self ..)))
      go_wp2_with ((with_reducible change wpList _ _ _ (Oper.mk none (Op.store _ _ _) _ _ _ _ :: _) _ _); refine storeBox_list _ rfl 25 (.tmp 2) (.tmp 57) rfl w.heap.size 25 _ #[.int .i64 x.f, .int .i64 x.t, .int .i64 x.s, .int .i64 x.a, .int .i64 x.g, .int .i64 x.w, .int .i64 x.m, .slice aq n cq] R.out.1 (by exact rfl) (by exact rfl) (by kernel_rfl) (by exact rfl) (by simp [Value.oneCell']) ?_; intro wS xS gS; have XS := Lib.hid xS; have GS := Lib.hid gS; clear xS gS)
      have DF := D8.out.drop2.at R.out.1 htU (Nat.le_refl _) R.out.2.2 GS.out (by intro y hy; simp only [List.mem_cons, List.not_mem_nil, or_false] at hy; subst hy; have := hur.out; simp only; omega)
      exact bodyPost_ret (results_cell_row Try.results51 _ _ _ _ _ _ _ rfl XS.out Try.underlying25 rfl (by kernel_rfl)) rfl ⟨⟨x.f, x.t, x.s, x.a, x.g, x.w, x.m⟩, _, _, _, _, rfl, (DF.own _ (List.mem_cons_self ..)).1, (by omega), DF.bel⟩
  have e5 : (k == 5) = false := by simpa using k5
  by_cases k6 : k = 6
  · subst k6
    have K := Lib.hid (D4.out.pick (n := 2) [-1, 65536] (-1) (65536) rfl rfl (by intro y hy; simp only [List.mem_cons, List.not_mem_nil, or_false] at hy; omega) (by omega) (by omega) (by omega) hl)
    go_wp2_with fail
    refine K.out.mono ?_
    rintro e w5 ⟨v, rfl, lv, uv, d⟩
    have D5 := Lib.hid d
    clear d K D4
    have x5 := (D5.out.bx _ (List.mem_cons_self ..)).1.cell 5
    have f5 := (D5.out.bx _ (List.mem_cons_self ..)).1.frozen 5
    simp only at x5 f5
    simp at x5
    have D6 : Hid (DT w (w5.setCell ⟨u, 5, none⟩ (.int .i64 v)) _ _ a len cap zs [⟨u, 25, #[.int .i64 x.f, .int .i64 x.t, .int .i64 x.s, .int .i64 x.a, .int .i64 x.g, .int .i64 v, .int .i64 x.m, .slice a2 n2 c2]⟩, ⟨w.heap.size, 25, #[.int .i64 0, .int .i64 0, .int .i64 0, .int .i64 0, .int .i64 0, .int .i64 0, .int .i64 0, .slice none 0 0]⟩] _) := D5.out.put htU (by intro y hy; simp only [List.mem_cons, List.not_mem_nil, or_false] at hy; subst hy; have := hur.out; simp only; omega) 5 _
    generalize hW : w5.setCell ⟨u, 5, none⟩ (.int .i64 v) = w6 at *
    clear D5
    obtain ⟨_, x0, x1, x2, x3, x4, x5, x6, x7⟩ := (D6.out.bx _ (List.mem_cons_self ..)).1.eight
    simp only at x0 x1 x2 x3 x4 x5 x6 x7
    have R := Lib.hid (D6.out.bx _ (List.mem_cons_of_mem _ (List.mem_cons_self ..)))
    go_wp2_with ((with_reducible change wpList _ _ _ (Oper.mk none (Op.store _ _ _) _ _ _ _ :: _) _ _); refine storeBox_list _ rfl 25 (.tmp 2) (.tmp 57) rfl w.heap.size 25 _ #[.int .i64 x.f, .int .i64 x.t, .int .i64 x.s, .int .i64 x.a, .int .i64 x.g, .int .i64 v, .int .i64 x.m, .slice a2 n2 c2] R.out.1 (by exact rfl) (by exact rfl) (by kernel_rfl) (by exact rfl) (by simp [Value.oneCell']) ?_; intro wS xS gS; have XS := Lib.hid xS; have GS := Lib.hid gS; clear xS gS)
    have DF := D6.out.drop2.at R.out.1 htU (Nat.le_refl _) R.out.2.2 GS.out (by intro y hy; simp only [List.mem_cons, List.not_mem_nil, or_false] at hy; subst hy; have := hur.out; simp only; omega)
    exact bodyPost_ret (results_cell_row Try.results51 _ _ _ _ _ _ _ rfl XS.out Try.underlying25 rfl (by kernel_rfl)) rfl ⟨⟨x.f, x.t, x.s, x.a, x.g, v, x.m⟩, _, _, _, _, rfl, (DF.own _ (List.mem_cons_self ..)).1, (by omega), DF.bel⟩
  have e6 : (k == 6) = false := by simpa using k6
  obtain ⟨_, x0, x1, x2, x3, x4, x5, x6, x7⟩ := (D4.out.bx _ (List.mem_cons_self ..)).1.eight
  simp only at x0 x1 x2 x3 x4 x5 x6 x7
  have R := Lib.hid (D4.out.bx _ (List.mem_cons_of_mem _ (List.mem_cons_self ..)))
  go_wp2_with ((with_reducible change wpList _ _ _ (Oper.mk none (Op.store _ _ _) _ _ _ _ :: _) _ _); refine storeBox_list _ rfl 25 (.tmp 2) (.tmp 57) rfl w.heap.size 25 _ #[.int .i64 x.f, .int .i64 x.t, .int .i64 x.s, .int .i64 x.a, .int .i64 x.g, .int .i64 x.w, .int .i64 x.m, .slice a2 n2 c2] R.out.1 (by exact rfl) (by exact rfl) (by kernel_rfl) (by exact rfl) (by simp [Value.oneCell']) ?_; intro wS xS gS; have XS := Lib.hid xS; have GS := Lib.hid gS; clear xS gS)
  have DF := D4.out.drop2.at R.out.1 htU (Nat.le_refl _) R.out.2.2 GS.out (by intro y hy; simp only [List.mem_cons, List.not_mem_nil, or_false] at hy; subst hy; have := hur.out; simp only; omega)
  exact bodyPost_ret (results_cell_row Try.results51 _ _ _ _ _ _ _ rfl XS.out Try.underlying25 rfl (by kernel_rfl)) rfl ⟨⟨x.f, x.t, x.s, x.a, x.g, x.w, x.m⟩, _, _, _, _, rfl, (DF.own _ (List.mem_cons_self ..)).1, (by omega), DF.bel⟩
end Go.Proofs.Yteaiemckcepphaa
