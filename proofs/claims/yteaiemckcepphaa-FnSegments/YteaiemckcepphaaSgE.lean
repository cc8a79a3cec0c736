/-
  DrawResetFor, DrawHasFlag, DrawPackSegment.
-/
import Derived.Test.YteaiemckcepphaaSgF
import Derived.Test.YteaiemckcepphaaMD
namespace Go.Proofs.Yteaiemckcepphaa
open Go.ChangeShapes Go.WideShapes Go.ChangeAt Go.RowKit

theorem DT.below {w W W' : World} {b t : Nat} {a : Option Addr} {len cap : Nat} {zs : List Int} {bl : List Bx} {sl : List Sl} (h : DT w W b t a len cap zs bl sl) (hb : Below W.heap.size W W') : DT w W' b t a len cap zs bl sl :=
  ⟨h.src.below hb, h.bel.trans (hb.mono h.bel.size), h.lo, fun x hx => ⟨(h.bx x hx).1.below hb (h.bx x hx).1.lt, (h.bx x hx).2⟩, fun s hs => ⟨(h.own s hs).1.below hb, (h.own s hs).2⟩, h.rd⟩
theorem DT.bent {w W : World} {b t : Nat} {a : Option Addr} {len cap : Nat} {zs : List Int} {bl : List Bx} {sl : List Sl} (h : DT w W b t a len cap zs bl sl) (ht : t ≤ 800000) (hl : len ≤ 1048576) :
    Calls Try.prog 50 #[.pointer (Option.some ⟨b, 0, Option.none⟩)] W fun e w' => ∃ r : Int, e = .returned (.int .i64 r) ∧ -1 ≤ r ∧ r ≤ 4294967296 ∧ DT w w' b (t + 2) a len cap zs bl sl := by
  refine (l4BentIp_any b t a len cap zs W h.src ht hl).mono ?_
  rintro e w' ⟨r, rfl, h1, h2, h3, h4⟩
  exact ⟨r, rfl, h1, h2, h.step h3 h4⟩

set_option maxHeartbeats 2000000 in
theorem drawResetFor (a : Option Addr) (len cap : Nat) (zs : List Int) (w : World) (hr : Rd w a len cap zs) (hl : len ≤ 1048576) :
    Calls Try.prog 26 #[.slice a len cap] w (SgAny w) := by
  have htU : 25 ≠ 5 := by decide
  have HR := Lib.hid hr
  have B0 := Lib.hid ((Below.refl w.heap.size w).alloc (Nat.le_refl _) (.cells #[.int .i64 0, .int .i64 0, .int .i64 0, .int .i64 0, .int .i64 0, .int .i64 0, .int .i64 0, .slice none 0 0] 25))
  have R0 := Lib.hid (Box.new w 25 #[.int .i64 0, .int .i64 0, .int .i64 0, .int .i64 0, .int .i64 0, .int .i64 0, .int .i64 0, .slice none 0 0])
  clear hr
  go_enter Try.func26, Try.ntmps26
  go_wp2_with fail
  refine (drawSegmentFault a len cap zs _ (HR.out.alloc _) hl).mono ?_
  rintro e w1 ⟨x, a2, n2, c2, ys2, rfl, o2, hn2, b1⟩
  have R1 := Lib.hid (R0.out.below b1 R0.out.lt)
  have B1 := Lib.hid (B0.out.trans (b1.mono B0.out.size))
  have O1 := Lib.hid (o2.rebase B0.out.size)
  clear o2 b1 R0 B0
  go_wp2_with ((with_reducible change wpList _ _ _ (Oper.mk none (Op.store _ _ _) _ _ _ _ :: _) _ _); refine storeBox_list _ rfl 25 (.tmp 2) (.tmp 4) rfl w.heap.size 25 _ #[.int .i64 x.f, .int .i64 x.t, .int .i64 x.s, .int .i64 x.a, .int .i64 x.g, .int .i64 x.w, .int .i64 x.m, .slice a2 n2 c2] R1.out (by exact rfl) (by exact rfl) (by kernel_rfl) (by exact rfl) (by simp [Value.oneCell']) ?_; intro wS xS gS; have XS := Lib.hid xS; have GS := Lib.hid gS; clear xS gS)
  exact bodyPost_ret (results_cell_row Try.results26 _ _ _ _ _ _ _ rfl XS.out Try.underlying25 rfl (by kernel_rfl)) rfl ⟨x, _, _, _, _, rfl, O1.out.offBox R1.out htU GS.out, hn2, B1.out.grown GS.out B1.out.size (fun k e => by cases e; exact Nat.le_refl _)⟩

/-- some segment and a number -/
def SgFlag (w : World) (e : Ending) (w' : World) : Prop :=
  ∃ (x : Sg) (a' : Option Addr) (n c' : Nat) (ys : List Int) (k : Int), e = .returned (.tuple #[.agg #[.int .i64 x.f, .int .i64 x.t, .int .i64 x.s, .int .i64 x.a, .int .i64 x.g, .int .i64 x.w, .int .i64 x.m, .slice a' n c'], .int .i64 k]) ∧ Own w' w.heap.size a' n c' ys ∧ n ≤ 600 ∧ Below w.heap.size w w'
set_option maxRecDepth 20000 in
set_option maxHeartbeats 2000000 in
theorem drawHasFlag (a : Option Addr) (len cap : Nat) (zs : List Int) (w : World) (hr : Rd w a len cap zs) (hl : len ≤ 1048576) :
    Calls Try.prog 29 #[.slice a len cap] w (SgFlag w) := by
  have htU : 25 ≠ 5 := by decide
  have HR := Lib.hid hr
  have B0 := Lib.hid ((Below.refl w.heap.size w).alloc (Nat.le_refl _) (.cells #[.int .i64 0, .int .i64 0, .int .i64 0, .int .i64 0, .int .i64 0, .int .i64 0, .int .i64 0, .slice none 0 0] 25))
  have R0 := Lib.hid (Box.new w 25 #[.int .i64 0, .int .i64 0, .int .i64 0, .int .i64 0, .int .i64 0, .int .i64 0, .int .i64 0, .slice none 0 0])
  clear hr
  go_enter Try.func29, Try.ntmps29
  go_wp2_with fail
  refine (drawSegmentFault a len cap zs _ (HR.out.alloc _) hl).mono ?_
  rintro e w1 ⟨x, a2, n2, c2, ys2, rfl, o2, hn2, b1⟩
  have R1 := Lib.hid (R0.out.below b1 R0.out.lt)
  have B1 := Lib.hid (B0.out.trans (b1.mono B0.out.size))
  have O1 := Lib.hid (o2.rebase B0.out.size)
  clear o2 b1 R0 B0
  go_wp2_with fail
  refine (l1Later_any 2 a len cap zs _ (HR.out.below B1.out) (by omega)).mono ?_
  rintro e w2 ⟨rfl, s2, b2⟩
  have hz := R1.out.lt
  have D2 := Lib.hid ((DT.start (bl := [⟨w.heap.size, 25, #[.int .i64 0, .int .i64 0, .int .i64 0, .int .i64 0, .int .i64 0, .int .i64 0, .int .i64 0, .slice none 0 0]⟩]) HR.out s2 (B1.out.trans (b2.mono B1.out.size)) B1.out.size (by intro y hy; simp only [List.mem_cons, List.not_mem_nil, or_false] at hy; subst hy; exact ⟨R1.out.below b2 hz, Nat.le_refl _, by simp only; omega⟩)).give (s := ⟨a2, n2, c2, ys2⟩) (O1.out.below b2) (fun y hy => by have := (O1.out.lt y hy).2; omega))
  clear s2 b2 O1 R1 B1 hz
  have K := Lib.hid (D2.out.pick (n := 8) [1, 2, 4, 8, 16, 0, 3, 32] 0 32 rfl rfl (by intro y hy; simp only [List.mem_cons, List.not_mem_nil, or_false] at hy; omega) (by omega) (by omega) (by omega) hl)
  go_wp2_with fail
  refine K.out.mono ?_
  rintro e w3 ⟨k, rfl, lk, uk, d⟩
  have D3 := Lib.hid d
  clear d K D2
  have R := Lib.hid (D3.out.bx _ (List.mem_cons_self ..))
  go_wp2_with ((with_reducible change wpList _ _ _ (Oper.mk none (Op.store _ _ _) _ _ _ _ :: _) _ _); refine storeBox_list _ rfl 25 (.tmp 2) (.tmp 5) rfl w.heap.size 25 _ #[.int .i64 x.f, .int .i64 x.t, .int .i64 x.s, .int .i64 x.a, .int .i64 x.g, .int .i64 x.w, .int .i64 x.m, .slice a2 n2 c2] R.out.1 (by exact rfl) (by exact rfl) (by kernel_rfl) (by exact rfl) (by simp [Value.oneCell']) ?_; intro wS xS gS; have XS := Lib.hid xS; have GS := Lib.hid gS; clear xS gS)
  have DF := D3.out.drop.at R.out.1 htU (Nat.le_refl _) R.out.2.2 GS.out (fun y hy => by cases hy)
  obtain ⟨_, q0, q1, q2, q3, q4, q5, q6, q7⟩ := XS.out.eight
  exact bodyPost_ret (v := .tuple #[.agg #[.int .i64 x.f, .int .i64 x.t, .int .i64 x.s, .int .i64 x.a, .int .i64 x.g, .int .i64 x.w, .int .i64 x.m, .slice a2 n2 c2], .int .i64 k]) (by simp [results, Try.results29, go_sem, q0, q1, q2, q3, q4, q5, q6, q7]) rfl ⟨x, _, _, _, _, k, rfl, (DF.own _ (List.mem_cons_self ..)).1, hn2, DF.bel⟩

/-- two numbers and some segment -/
def TwoSg (w : World) (e : Ending) (w' : World) : Prop :=
  ∃ (f t : Int) (x : Sg) (a' : Option Addr) (n c' : Nat) (ys : List Int), e = .returned (.tuple #[.int .i64 f, .int .i64 t, .agg #[.int .i64 x.f, .int .i64 x.t, .int .i64 x.s, .int .i64 x.a, .int .i64 x.g, .int .i64 x.w, .int .i64 x.m, .slice a' n c']]) ∧ Own w' w.heap.size a' n c' ys ∧ n ≤ 600 ∧ Below w.heap.size w w'
set_option maxRecDepth 20000 in
set_option maxHeartbeats 2000000 in
theorem drawPackSegment (a : Option Addr) (len cap : Nat) (zs : List Int) (w : World) (hr : Rd w a len cap zs) (hl : len ≤ 1048576) :
    Calls Try.prog 13 #[.slice a len cap] w (TwoSg w) := by
  have htU : 25 ≠ 5 := by decide
  have HR := Lib.hid hr
  have B1 := Lib.hid ((Below.refl w.heap.size w).alloc (Nat.le_refl _) (.cells #[.int .i64 0, .int .i64 0, .int .i64 0, .int .i64 0, .int .i64 0, .int .i64 0, .int .i64 0, .slice none 0 0] 25))
  have R1 := Lib.hid (Box.new w 25 #[.int .i64 0, .int .i64 0, .int .i64 0, .int .i64 0, .int .i64 0, .int .i64 0, .int .i64 0, .slice none 0 0])
  clear hr
  go_enter Try.func13, Try.ntmps13
  go_wp2_with fail
  refine (l1Later_any 3 a len cap zs _ (HR.out.alloc _) (by omega)).mono ?_
  rintro e w2 ⟨rfl, s2, b2⟩
  have hz := R1.out.lt
  have D2 := Lib.hid (DT.start (bl := [⟨w.heap.size, 25, #[.int .i64 0, .int .i64 0, .int .i64 0, .int .i64 0, .int .i64 0, .int .i64 0, .int .i64 0, .slice none 0 0]⟩]) HR.out s2 (B1.out.trans (b2.mono B1.out.size)) B1.out.size (by intro y hy; simp only [List.mem_cons, List.not_mem_nil, or_false] at hy; subst hy; exact ⟨R1.out.below b2 hz, Nat.le_refl _, by simp only; omega⟩))
  clear s2 b2 R1 B1 hz
  simp only [World.size_alloc] at D2
  simp only [World.size_alloc]
  go_wp2_with fail
  refine (D2.out.bent (by omega) hl).mono ?_
  rintro e w3 ⟨f, rfl, lf, uf, d⟩
  have D3 := Lib.hid d
  clear d D2
  go_wp2_with fail
  refine (D3.out.bent (by omega) hl).mono ?_
  rintro e w4 ⟨t, rfl, lt, ut, d⟩
  have D4 := Lib.hid d
  clear d D3
  go_wp2_with fail
  refine (drawSegmentFault a len cap zs _ D4.out.src.rd hl).mono ?_
  rintro e w5 ⟨x, a2, n2, c2, ys2, rfl, o2, hn2, b5⟩
  have D5 := Lib.hid ((D4.out.below b5).give (s := ⟨a2, n2, c2, ys2⟩) (o2.rebase D4.out.bel.size) (fun y hy => by have := (o2.lt y hy).1; have := D4.out.src.box.lt; omega))
  clear o2 b5 D4
  have R := Lib.hid (D5.out.bx _ (List.mem_cons_self ..))
  go_wp2_with ((with_reducible change wpList _ _ _ (Oper.mk none (Op.store _ _ _) _ _ _ _ :: _) _ _); refine storeBox_list _ rfl 25 (.tmp 4) (.tmp 13) rfl w.heap.size 25 _ #[.int .i64 x.f, .int .i64 x.t, .int .i64 x.s, .int .i64 x.a, .int .i64 x.g, .int .i64 x.w, .int .i64 x.m, .slice a2 n2 c2] R.out.1 (by exact rfl) (by exact rfl) (by kernel_rfl) (by exact rfl) (by simp [Value.oneCell']) ?_; intro wS xS gS; have XS := Lib.hid xS; have GS := Lib.hid gS; clear xS gS)
  have DF := D5.out.drop.at R.out.1 htU (Nat.le_refl _) R.out.2.2 GS.out (fun y hy => by cases hy)
  obtain ⟨_, q0, q1, q2, q3, q4, q5, q6, q7⟩ := XS.out.eight
  exact bodyPost_ret (v := .tuple #[.int .i64 f, .int .i64 t, .agg #[.int .i64 x.f, .int .i64 x.t, .int .i64 x.s, .int .i64 x.a, .int .i64 x.g, .int .i64 x.w, .int .i64 x.m, .slice a2 n2 c2]]) (by simp [results, Try.results13, go_sem, q0, q1, q2, q3, q4, q5, q6, q7]) rfl ⟨f, t, x, _, _, _, _, rfl, (DF.own _ (List.mem_cons_self ..)).1, hn2, DF.bel⟩
end Go.Proofs.Yteaiemckcepphaa
