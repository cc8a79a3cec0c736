/-
  DrawSameSegments.
-/
import Derived.Test.YteaiemckcepphaaSgE
namespace Go.Proofs.Yteaiemckcepphaa
open Go.ChangeShapes Go.WideShapes Go.ChangeAt Go.RowKit

theorem DT.sub {w W : World} {b t : Nat} {a : Option Addr} {len cap : Nat} {zs : List Int} {bl bl' : List Bx} {sl : List Sl} (h : DT w W b t a len cap zs bl sl) (hs : ∀ x ∈ bl', x ∈ bl) : DT w W b t a len cap zs bl' sl :=
  ⟨h.src, h.bel, h.lo, fun x hx => h.bx x (hs x hx), h.own, h.rd⟩
theorem DT.drewT {w W : World} {b t : Nat} {a : Option Addr} {len cap : Nat} {zs : List Int} {bl : List Bx} {sl : List Sl} (h : DT w W b t a len cap zs bl sl) : DT w W.drew b t a len cap zs bl sl :=
  ⟨⟨h.src.box.drewB, h.src.rd.drew, h.src.lt⟩, h.bel.drew, h.lo, fun x hx => ⟨(h.bx x hx).1.drewB, (h.bx x hx).2⟩, fun s hs => ⟨(h.own s hs).1.drew, (h.own s hs).2⟩, h.rd⟩
/-- two segments, their data readable -/
def TwoSgs (w : World) (e : Ending) (w' : World) : Prop :=
  ∃ (x : Sg) (a1 : Option Addr) (n1 c1 : Nat) (ys1 : List Int) (y : Sg) (a' : Option Addr) (n c' : Nat) (ys : List Int), e = .returned (.tuple #[.agg #[.int .i64 x.f, .int .i64 x.t, .int .i64 x.s, .int .i64 x.a, .int .i64 x.g, .int .i64 x.w, .int .i64 x.m, .slice a1 n1 c1], .agg #[.int .i64 y.f, .int .i64 y.t, .int .i64 y.s, .int .i64 y.a, .int .i64 y.g, .int .i64 y.w, .int .i64 y.m, .slice a' n c']]) ∧ Rd w' a1 n1 c1 ys1 ∧ Rd w' a' n c' ys ∧ Below w.heap.size w w'

set_option maxRecDepth 20000 in
set_option maxHeartbeats 8000000 in
theorem drawSameSegments (a : Option Addr) (len cap : Nat) (zs : List Int) (w : World) (hr : Rd w a len cap zs) (hl : len ≤ 1048576) :
    Calls Try.prog 17 #[.slice a len cap] w (TwoSgs w) := by
  have htU : 25 ≠ 5 := by decide
  have HR := Lib.hid hr
  have B0 := Lib.hid (((Below.refl w.heap.size w).alloc (Nat.le_refl _) (.cells #[.int .i64 0, .int .i64 0, .int .i64 0, .int .i64 0, .int .i64 0, .int .i64 0, .int .i64 0, .slice none 0 0] 25)).alloc (by simp) (.cells #[.int .i64 0, .int .i64 0, .int .i64 0, .int .i64 0, .int .i64 0, .int .i64 0, .int .i64 0, .slice none 0 0] 25))
  have R01 := Lib.hid ((Box.new w 25 #[.int .i64 0, .int .i64 0, .int .i64 0, .int .i64 0, .int .i64 0, .int .i64 0, .int .i64 0, .slice none 0 0]).alloc (.cells #[.int .i64 0, .int .i64 0, .int .i64 0, .int .i64 0, .int .i64 0, .int .i64 0, .int .i64 0, .slice none 0 0] 25))
  have R02 := Lib.hid (Box.new (w.alloc (.cells #[.int .i64 0, .int .i64 0, .int .i64 0, .int .i64 0, .int .i64 0, .int .i64 0, .int .i64 0, .slice none 0 0] 25)) 25 #[.int .i64 0, .int .i64 0, .int .i64 0, .int .i64 0, .int .i64 0, .int .i64 0, .int .i64 0, .slice none 0 0])
  simp only [World.size_alloc] at R02
  clear hr
  go_enter Try.func17, Try.ntmps17
  go_wp2_with fail
  refine (l1Source_any a len cap zs _ ((HR.out.alloc _).alloc _)).mono ?_
  rintro e w1 ⟨rfl, s1, b1⟩
  simp only [World.size_alloc] at s1 b1
  simp only [World.size_alloc]
  have D1 := Lib.hid (DT.start (bl := [⟨w.heap.size + 1, 25, #[.int .i64 0, .int .i64 0, .int .i64 0, .int .i64 0, .int .i64 0, .int .i64 0, .int .i64 0, .slice none 0 0]⟩, ⟨w.heap.size, 25, #[.int .i64 0, .int .i64 0, .int .i64 0, .int .i64 0, .int .i64 0, .int .i64 0, .int .i64 0, .slice none 0 0]⟩]) HR.out s1 (B0.out.trans (b1.mono (by omega))) (by omega) (by intro y hy; simp only [List.mem_cons, List.not_mem_nil, or_false] at hy; rcases hy with rfl | rfl; exact ⟨R02.out.below b1 (by first | omega | (simp only; omega)), by first | omega | (simp only; omega), by first | omega | (simp only; omega)⟩; exact ⟨R01.out.below b1 (by first | omega | (simp only; omega)), Nat.le_refl _, by first | omega | (simp only; omega)⟩))
  clear s1 b1 R01 R02 B0
  go_wp2_with fail
  refine (l5Draw_any _ _ a len cap zs _ D1.out.src (by omega) hl).mono ?_
  rintro e w2 ⟨x, a2, n2, c2, ys2, t2, rfl, hn, hn2, ht2, d⟩
  have D2 := Lib.hid (D1.out.drawn d)
  clear d D1 hn
  have D3 := Lib.hid (D2.out.push 25 #[.int .i64 x.f, .int .i64 x.t, .int .i64 x.s, .int .i64 x.a, .int .i64 x.g, .int .i64 x.w, .int .i64 x.m, .slice a2 n2 c2])
  have hur := Lib.hid (show w.heap.size + 1 < w2.heap.size from (D2.out.bx _ (List.mem_cons_self ..)).1.lt)
  clear D2
  go_wp2_with fail
  generalize w2.alloc (.cells #[.int .i64 x.f, .int .i64 x.t, .int .i64 x.s, .int .i64 x.a, .int .i64 x.g, .int .i64 x.w, .int .i64 x.m, .slice a2 n2 c2] 25) = w3 at *
  generalize w2.heap.size = u at *
  refine (D3.out.chance 2 (by omega) hl (by omega)).mono ?_
  rintro e w4 ⟨ch, rfl, d⟩
  have D4 := Lib.hid d
  clear d D3
  cases ch
  case false =>
    have SS := Lib.hid (show ∀ W, Hid (Box W u 25 #[.int .i64 x.f, .int .i64 x.t, .int .i64 x.s, .int .i64 x.a, .int .i64 x.g, .int .i64 x.w, .int .i64 x.m, .slice a2 n2 c2]) → W.cell? ⟨u, 0, none⟩ = some (.int .i64 x.f) ∧ W.cell? ⟨u, 1, none⟩ = some (.int .i64 x.t) ∧ W.cell? ⟨u, 2, none⟩ = some (.int .i64 x.s) ∧ W.cell? ⟨u, 3, none⟩ = some (.int .i64 x.a) ∧ W.cell? ⟨u, 4, none⟩ = some (.int .i64 x.g) ∧ W.cell? ⟨u, 5, none⟩ = some (.int .i64 x.w) ∧ W.cell? ⟨u, 6, none⟩ = some (.int .i64 x.m) ∧ W.cell? ⟨u, 7, none⟩ = some (.slice a2 n2 c2) from fun W h => h.out.eight.2)
    have DD := Lib.hid (D4.out.drewT)
    have hU := Lib.hid (DD.out.bx _ (List.mem_cons_self ..)).1
    simp only at hU
    go_wp2_with fail
    refine wp_region_held_drew (S := fun W => W.cell? ⟨u, 0, none⟩ = some (.int .i64 x.f) ∧ W.cell? ⟨u, 1, none⟩ = some (.int .i64 x.t) ∧ W.cell? ⟨u, 2, none⟩ = some (.int .i64 x.s) ∧ W.cell? ⟨u, 3, none⟩ = some (.int .i64 x.a) ∧ W.cell? ⟨u, 4, none⟩ = some (.int .i64 x.g) ∧ W.cell? ⟨u, 5, none⟩ = some (.int .i64 x.w) ∧ W.cell? ⟨u, 6, none⟩ = some (.int .i64 x.m) ∧ W.cell? ⟨u, 7, none⟩ = some (.slice a2 n2 c2)) (by kernel_rfl) (SS.out _ hU) (fun hHeld => ?_)
    refine wpAnyH_take (i := 0) (v := ?_) (by simp only [List.getElem?_toArray, List.getElem?_cons_zero]; exact rfl) (by kernel_rfl) (by kernel_rfl) (by kernel_rfl) (by exact fun _ _ _ h => h) (Or.inl ⟨by rfl, ?_⟩) hHeld ?_
    rotate_left
    · intro w' hSw
      obtain ⟨s0, s1, s2, s3, s4, s5, s6, s7⟩ := hSw
      go_simp
      try with_reducible rfl
    try simp only [Act.put, List.setIfInBounds_toArray, List.set_cons_zero, List.set_cons_succ]
    refine wpAnyH_take (i := 1) (v := ?_) (by simp only [List.getElem?_toArray, List.getElem?_cons_zero, List.getElem?_cons_succ]; exact rfl) (by kernel_rfl) (by kernel_rfl) (by kernel_rfl) (by exact fun _ _ _ h => h) (Or.inl ⟨by rfl, ?_⟩) hHeld ?_
    rotate_left
    · intro w' hSw
      obtain _s := hSw
      go_simp
      try with_reducible rfl
    try simp only [Act.put, List.setIfInBounds_toArray, List.set_cons_zero, List.set_cons_succ]
    refine wpAnyH_ready (rs := [2]) (by kernel_rfl) (by simp) ?_
    refine (AllReadyH.cons (by simp only [List.getElem?_toArray, List.getElem?_cons_zero, List.getElem?_cons_succ]; exact rfl) (fun K hK => ?_) AllReadyH.nil)
    refine want_none (by exact rfl) ?_
    go_wp2_with fail
    refine (drawSegmentFault a len cap zs _ DD.out.src.rd hl).mono ?_
    rintro e w5 ⟨y, a3, n3, c3, ys3, rfl, o3, hn3, b5⟩
    have D5 := Lib.hid ((DD.out.below b5).give (s := ⟨a3, n3, c3, ys3⟩) (o3.rebase DD.out.bel.size) (fun y hy => by have := (o3.lt y hy).1; have := DD.out.src.box.lt; omega))
    clear o3 b5 DD D4 hU
    go_wp2_with fail
    refine hK.out _ _ (SS.out _ (Lib.hid (D5.out.bx _ (List.mem_cons_self ..)).1)) (fun hHeld => ?_)
    clear hK K
    try simp only [Act.put, List.setIfInBounds_toArray, List.set_cons_zero, List.set_cons_succ]
    refine wpAnyH_ready (rs := [3]) (by kernel_rfl) (by simp) ?_
    refine (AllReadyH.cons (by simp only [List.getElem?_toArray, List.getElem?_cons_zero, List.getElem?_cons_succ]; exact rfl) (fun K hK => ?_) AllReadyH.nil)
    refine storeBox_step _ rfl 25 (.tmp 2) (.tmp 20) rfl (w.heap.size) 25 _ #[.int .i64 x.f, .int .i64 x.t, .int .i64 x.s, .int .i64 x.a, .int .i64 x.g, .int .i64 x.w, .int .i64 x.m, .slice a2 n2 c2] (D5.out.bx _ (List.mem_cons_of_mem _ (List.mem_cons_of_mem _ (List.mem_cons_self ..)))).1 (by exact rfl) (by exact rfl) (by kernel_rfl) (by exact rfl) (by simp [Value.oneCell']) ?_
    intro wA xwA gwA
    have DA := Lib.hid ((D5.out.sub (bl' := [⟨u, 25, #[.int .i64 x.f, .int .i64 x.t, .int .i64 x.s, .int .i64 x.a, .int .i64 x.g, .int .i64 x.w, .int .i64 x.m, .slice a2 n2 c2]⟩, ⟨w.heap.size + 1, 25, #[.int .i64 0, .int .i64 0, .int .i64 0, .int .i64 0, .int .i64 0, .int .i64 0, .int .i64 0, .slice none 0 0]⟩]) (by intro z hz; simp only [List.mem_cons, List.not_mem_nil, or_false] at hz ⊢; rcases hz with rfl | rfl <;> simp)).at (D5.out.bx _ (List.mem_cons_of_mem _ (List.mem_cons_of_mem _ (List.mem_cons_self ..)))).1 htU (Nat.le_refl _) (D5.out.bx _ (List.mem_cons_of_mem _ (List.mem_cons_of_mem _ (List.mem_cons_self ..)))).2.2 gwA (by intro z hz; simp only [List.mem_cons, List.not_mem_nil, or_false] at hz; have := hur.out; rcases hz with rfl | rfl <;> simp only <;> omega))
    have XA := Lib.hid xwA
    clear xwA gwA D5
    refine hK.out _ _ (SS.out _ (Lib.hid (DA.out.bx _ (List.mem_cons_self ..)).1)) (fun hHeld => ?_)
    clear hK K
    try simp only [Act.put]
    try simp only [Act.put, List.setIfInBounds_toArray, List.set_cons_zero, List.set_cons_succ]
    refine wpAnyH_ready (rs := [4]) (by kernel_rfl) (by simp) ?_
    refine (AllReadyH.cons (by simp only [List.getElem?_toArray, List.getElem?_cons_zero, List.getElem?_cons_succ]; exact rfl) (fun K hK => ?_) AllReadyH.nil)
    refine storeBox_step _ rfl 25 (.tmp 3) (.tmp 22) rfl (w.heap.size + 1) 25 _ #[.int .i64 y.f, .int .i64 y.t, .int .i64 y.s, .int .i64 y.a, .int .i64 y.g, .int .i64 y.w, .int .i64 y.m, .slice a3 n3 c3] (DA.out.bx _ (List.mem_cons_of_mem _ (List.mem_cons_self ..))).1 (by exact rfl) (by exact rfl) (by kernel_rfl) (by exact rfl) (by simp [Value.oneCell']) ?_
    intro wB xwB gwB
    have DB := Lib.hid ((DA.out.sub (bl' := [⟨u, 25, #[.int .i64 x.f, .int .i64 x.t, .int .i64 x.s, .int .i64 x.a, .int .i64 x.g, .int .i64 x.w, .int .i64 x.m, .slice a2 n2 c2]⟩]) (by intro z hz; simp only [List.mem_cons, List.not_mem_nil, or_false] at hz ⊢; subst hz; simp)).at (DA.out.bx _ (List.mem_cons_of_mem _ (List.mem_cons_self ..))).1 htU (Nat.le_succ _) (DA.out.bx _ (List.mem_cons_of_mem _ (List.mem_cons_self ..))).2.2 gwB (by intro z hz; simp only [List.mem_cons, List.not_mem_nil, or_false] at hz; have := hur.out; subst hz; simp only; omega))
    have XAB := Lib.hid (XA.out.grown gwB (by simp))
    have XB := Lib.hid xwB
    clear xwB gwB DA XA
    refine hK.out _ _ (SS.out _ (Lib.hid (DB.out.bx _ (List.mem_cons_self ..)).1)) (fun hHeld => ?_)
    clear hK K hHeld
    try simp only [Act.put]
    refine wpAnyH_done (by kernel_rfl) ?_ _
    go_wp2
    obtain ⟨_, p0, p1, p2, p3, p4, p5, p6, p7⟩ := XAB.out.eight
    obtain ⟨_, q0, q1, q2, q3, q4, q5, q6, q7⟩ := XB.out.eight
    exact bodyPost_ret (v := .tuple #[.agg #[.int .i64 x.f, .int .i64 x.t, .int .i64 x.s, .int .i64 x.a, .int .i64 x.g, .int .i64 x.w, .int .i64 x.m, .slice a2 n2 c2], .agg #[.int .i64 y.f, .int .i64 y.t, .int .i64 y.s, .int .i64 y.a, .int .i64 y.g, .int .i64 y.w, .int .i64 y.m, .slice a3 n3 c3]]) (by simp [results, Try.results17, go_sem, p0, p1, p2, p3, p4, p5, p6, p7, q0, q1, q2, q3, q4, q5, q6, q7]) rfl ⟨_, _, _, _, _, _, _, _, _, _, rfl, (DB.out.own _ (List.mem_cons_of_mem _ (List.mem_cons_self ..))).1.rd, (DB.out.own _ (List.mem_cons_self ..)).1.rd, DB.out.bel⟩
  case true =>
    obtain ⟨_, x0, x1, x2, x3, x4, x5, x6, x7⟩ := (D4.out.bx _ (List.mem_cons_self ..)).1.eight
    simp only at x0 x1 x2 x3 x4 x5 x6 x7
    have D5 := Lib.hid (D4.out.push 25 #[.int .i64 x.f, .int .i64 x.t, .int .i64 x.s, .int .i64 x.a, .int .i64 x.g, .int .i64 x.w, .int .i64 x.m, .slice a2 n2 c2])
    have hvu := Lib.hid (show u < w4.heap.size from (D4.out.bx _ (List.mem_cons_self ..)).1.lt)
    clear D4
    obtain ⟨_, z0, z1, z2, z3, z4, z5, z6, z7⟩ := (D5.out.bx _ (List.mem_cons_of_mem _ (List.mem_cons_self ..))).1.eight
    simp only at z7
    go_wp2_with fail
    generalize w4.alloc (.cells #[.int .i64 x.f, .int .i64 x.t, .int .i64 x.s, .int .i64 x.a, .int .i64 x.g, .int .i64 x.w, .int .i64 x.m, .slice a2 n2 c2] 25) = w5 at *
    generalize w4.heap.size = v at *
    refine (l1Copy_any a2 n2 c2 ys2 w5 (D5.out.own _ (List.mem_cons_self ..)).1.rd (by omega)).mono ?_
    rintro e w6 ⟨a6, c6, rfl, o6, b6⟩
    have D6 := Lib.hid ((D5.out.below b6).give (s := ⟨a6, n2, c6, ys2⟩) (o6.rebase D5.out.bel.size) (fun y hy => by have := (o6.lt y hy).1; have := D5.out.src.box.lt; omega))
    clear o6 b6 D5 x0 x1 x2 x3 x4 x5 x6 x7 z0 z1 z2 z3 z4 z5 z6 z7
    have y7 := (D6.out.bx _ (List.mem_cons_self ..)).1.cell 7
    have f7 := (D6.out.bx _ (List.mem_cons_self ..)).1.frozen 7
    simp only at y7 f7
    simp at y7
    have D7 : Hid (DT w (w6.setCell ⟨v, 7, none⟩ (.slice a6 n2 c6)) _ _ a len cap zs [⟨v, 25, #[.int .i64 x.f, .int .i64 x.t, .int .i64 x.s, .int .i64 x.a, .int .i64 x.g, .int .i64 x.w, .int .i64 x.m, .slice a6 n2 c6]⟩, ⟨u, 25, #[.int .i64 x.f, .int .i64 x.t, .int .i64 x.s, .int .i64 x.a, .int .i64 x.g, .int .i64 x.w, .int .i64 x.m, .slice a2 n2 c2]⟩, ⟨w.heap.size + 1, 25, #[.int .i64 0, .int .i64 0, .int .i64 0, .int .i64 0, .int .i64 0, .int .i64 0, .int .i64 0, .slice none 0 0]⟩, ⟨w.heap.size, 25, #[.int .i64 0, .int .i64 0, .int .i64 0, .int .i64 0, .int .i64 0, .int .i64 0, .int .i64 0, .slice none 0 0]⟩] _) := D6.out.put htU (by intro z hz; simp only [List.mem_cons, List.not_mem_nil, or_false] at hz; have := hur.out; have := hvu.out; rcases hz with rfl | rfl | rfl <;> simp only <;> omega) 7 _
    generalize hW : w6.setCell ⟨v, 7, none⟩ (.slice a6 n2 c6) = w7 at *
    clear D6
    have SS := Lib.hid (show ∀ W, Hid (Box W u 25 #[.int .i64 x.f, .int .i64 x.t, .int .i64 x.s, .int .i64 x.a, .int .i64 x.g, .int .i64 x.w, .int .i64 x.m, .slice a2 n2 c2]) → Hid (Box W v 25 #[.int .i64 x.f, .int .i64 x.t, .int .i64 x.s, .int .i64 x.a, .int .i64 x.g, .int .i64 x.w, .int .i64 x.m, .slice a6 n2 c6]) → W.cell? ⟨u, 0, none⟩ = some (.int .i64 x.f) ∧ W.cell? ⟨u, 1, none⟩ = some (.int .i64 x.t) ∧ W.cell? ⟨u, 2, none⟩ = some (.int .i64 x.s) ∧ W.cell? ⟨u, 3, none⟩ = some (.int .i64 x.a) ∧ W.cell? ⟨u, 4, none⟩ = some (.int .i64 x.g) ∧ W.cell? ⟨u, 5, none⟩ = some (.int .i64 x.w) ∧ W.cell? ⟨u, 6, none⟩ = some (.int .i64 x.m) ∧ W.cell? ⟨u, 7, none⟩ = some (.slice a2 n2 c2) ∧ W.cell? ⟨v, 0, none⟩ = some (.int .i64 x.f) ∧ W.cell? ⟨v, 1, none⟩ = some (.int .i64 x.t) ∧ W.cell? ⟨v, 2, none⟩ = some (.int .i64 x.s) ∧ W.cell? ⟨v, 3, none⟩ = some (.int .i64 x.a) ∧ W.cell? ⟨v, 4, none⟩ = some (.int .i64 x.g) ∧ W.cell? ⟨v, 5, none⟩ = some (.int .i64 x.w) ∧ W.cell? ⟨v, 6, none⟩ = some (.int .i64 x.m) ∧ W.cell? ⟨v, 7, none⟩ = some (.slice a6 n2 c6) from fun W h k => by obtain ⟨_, s0, s1, s2, s3, s4, s5, s6, s7⟩ := h.out.eight; exact ⟨s0, s1, s2, s3, s4, s5, s6, s7, k.out.eight.2⟩)
    go_wp2_with fail
    clear hW
    have DD := Lib.hid (D7.out.drewT)
    have hV := Lib.hid (DD.out.bx _ (List.mem_cons_self ..)).1
    have hU := Lib.hid (DD.out.bx _ (List.mem_cons_of_mem _ (List.mem_cons_self ..))).1
    simp only at hU hV
    refine wp_region_held_drew (S := fun W => W.cell? ⟨u, 0, none⟩ = some (.int .i64 x.f) ∧ W.cell? ⟨u, 1, none⟩ = some (.int .i64 x.t) ∧ W.cell? ⟨u, 2, none⟩ = some (.int .i64 x.s) ∧ W.cell? ⟨u, 3, none⟩ = some (.int .i64 x.a) ∧ W.cell? ⟨u, 4, none⟩ = some (.int .i64 x.g) ∧ W.cell? ⟨u, 5, none⟩ = some (.int .i64 x.w) ∧ W.cell? ⟨u, 6, none⟩ = some (.int .i64 x.m) ∧ W.cell? ⟨u, 7, none⟩ = some (.slice a2 n2 c2) ∧ W.cell? ⟨v, 0, none⟩ = some (.int .i64 x.f) ∧ W.cell? ⟨v, 1, none⟩ = some (.int .i64 x.t) ∧ W.cell? ⟨v, 2, none⟩ = some (.int .i64 x.s) ∧ W.cell? ⟨v, 3, none⟩ = some (.int .i64 x.a) ∧ W.cell? ⟨v, 4, none⟩ = some (.int .i64 x.g) ∧ W.cell? ⟨v, 5, none⟩ = some (.int .i64 x.w) ∧ W.cell? ⟨v, 6, none⟩ = some (.int .i64 x.m) ∧ W.cell? ⟨v, 7, none⟩ = some (.slice a6 n2 c6)) (by kernel_rfl) (SS.out _ hU hV) (fun hHeld => ?_)
    clear hU hV D7
    refine wpAnyH_take (i := 0) (v := ?_) (by simp only [List.getElem?_toArray, List.getElem?_cons_zero]; exact rfl) (by kernel_rfl) (by kernel_rfl) (by kernel_rfl) (by exact fun _ _ _ h => h) (Or.inl ⟨by rfl, ?_⟩) hHeld ?_
    rotate_left
    · intro w' hSw
      obtain ⟨s0, s1, s2, s3, s4, s5, s6, s7, r0, r1, r2, r3, r4, r5, r6, r7⟩ := hSw
      go_simp
      try with_reducible rfl
    try simp only [Act.put, List.setIfInBounds_toArray, List.set_cons_zero, List.set_cons_succ]
    refine wpAnyH_take (i := 1) (v := ?_) (by simp only [List.getElem?_toArray, List.getElem?_cons_zero, List.getElem?_cons_succ]; exact rfl) (by kernel_rfl) (by kernel_rfl) (by kernel_rfl) (by exact fun _ _ _ h => h) (Or.inl ⟨by rfl, ?_⟩) hHeld ?_
    rotate_left
    · intro w' hSw
      obtain ⟨s0, s1, s2, s3, s4, s5, s6, s7, r0, r1, r2, r3, r4, r5, r6, r7⟩ := hSw
      go_simp
      try with_reducible rfl
    try simp only [Act.put, List.setIfInBounds_toArray, List.set_cons_zero, List.set_cons_succ]
    refine wpAnyH_ready (rs := [2]) (by kernel_rfl) (by simp) ?_
    refine (AllReadyH.cons (by simp only [List.getElem?_toArray, List.getElem?_cons_zero, List.getElem?_cons_succ]; exact rfl) (fun K hK => ?_) AllReadyH.nil)
    refine storeBox_step _ rfl 25 (.tmp 2) (.tmp 18) rfl (w.heap.size) 25 _ #[.int .i64 x.f, .int .i64 x.t, .int .i64 x.s, .int .i64 x.a, .int .i64 x.g, .int .i64 x.w, .int .i64 x.m, .slice a2 n2 c2] (DD.out.bx _ (List.mem_cons_of_mem _ (List.mem_cons_of_mem _ (List.mem_cons_of_mem _ (List.mem_cons_self ..))))).1 (by exact rfl) (by exact rfl) (by kernel_rfl) (by exact rfl) (by simp [Value.oneCell']) ?_
    intro wA xwA gwA
    have DA := Lib.hid ((DD.out.sub (bl' := [⟨v, 25, #[.int .i64 x.f, .int .i64 x.t, .int .i64 x.s, .int .i64 x.a, .int .i64 x.g, .int .i64 x.w, .int .i64 x.m, .slice a6 n2 c6]⟩, ⟨u, 25, #[.int .i64 x.f, .int .i64 x.t, .int .i64 x.s, .int .i64 x.a, .int .i64 x.g, .int .i64 x.w, .int .i64 x.m, .slice a2 n2 c2]⟩, ⟨w.heap.size + 1, 25, #[.int .i64 0, .int .i64 0, .int .i64 0, .int .i64 0, .int .i64 0, .int .i64 0, .int .i64 0, .slice none 0 0]⟩]) (by intro z hz; simp only [List.mem_cons, List.not_mem_nil, or_false] at hz ⊢; rcases hz with rfl | rfl | rfl <;> simp)).at (DD.out.bx _ (List.mem_cons_of_mem _ (List.mem_cons_of_mem _ (List.mem_cons_of_mem _ (List.mem_cons_self ..))))).1 htU (Nat.le_refl _) (DD.out.bx _ (List.mem_cons_of_mem _ (List.mem_cons_of_mem _ (List.mem_cons_of_mem _ (List.mem_cons_self ..))))).2.2 gwA (by intro z hz; simp only [List.mem_cons, List.not_mem_nil, or_false] at hz; have := hur.out; have := hvu.out; rcases hz with rfl | rfl | rfl <;> simp only <;> omega))
    have XA := Lib.hid xwA
    clear xwA gwA DD
    refine hK.out _ _ (SS.out _ (Lib.hid (DA.out.bx _ (List.mem_cons_of_mem _ (List.mem_cons_self ..))).1) (Lib.hid (DA.out.bx _ (List.mem_cons_self ..)).1)) (fun hHeld => ?_)
    clear hK K
    try simp only [Act.put]
    try simp only [Act.put, List.setIfInBounds_toArray, List.set_cons_zero, List.set_cons_succ]
    refine wpAnyH_ready (rs := [3]) (by kernel_rfl) (by simp) ?_
    refine (AllReadyH.cons (by simp only [List.getElem?_toArray, List.getElem?_cons_zero, List.getElem?_cons_succ]; exact rfl) (fun K hK => ?_) AllReadyH.nil)
    refine storeBox_step _ rfl 25 (.tmp 3) (.tmp 19) rfl (w.heap.size + 1) 25 _ #[.int .i64 x.f, .int .i64 x.t, .int .i64 x.s, .int .i64 x.a, .int .i64 x.g, .int .i64 x.w, .int .i64 x.m, .slice a6 n2 c6] (DA.out.bx _ (List.mem_cons_of_mem _ (List.mem_cons_of_mem _ (List.mem_cons_self ..)))).1 (by exact rfl) (by exact rfl) (by kernel_rfl) (by exact rfl) (by simp [Value.oneCell']) ?_
    intro wB xwB gwB
    have DB := Lib.hid ((DA.out.sub (bl' := [⟨v, 25, #[.int .i64 x.f, .int .i64 x.t, .int .i64 x.s, .int .i64 x.a, .int .i64 x.g, .int .i64 x.w, .int .i64 x.m, .slice a6 n2 c6]⟩, ⟨u, 25, #[.int .i64 x.f, .int .i64 x.t, .int .i64 x.s, .int .i64 x.a, .int .i64 x.g, .int .i64 x.w, .int .i64 x.m, .slice a2 n2 c2]⟩]) (by intro z hz; simp only [List.mem_cons, List.not_mem_nil, or_false] at hz ⊢; rcases hz with rfl | rfl <;> simp)).at (DA.out.bx _ (List.mem_cons_of_mem _ (List.mem_cons_of_mem _ (List.mem_cons_self ..)))).1 htU (Nat.le_succ _) (DA.out.bx _ (List.mem_cons_of_mem _ (List.mem_cons_of_mem _ (List.mem_cons_self ..)))).2.2 gwB (by intro z hz; simp only [List.mem_cons, List.not_mem_nil, or_false] at hz; have := hur.out; have := hvu.out; rcases hz with rfl | rfl <;> simp only <;> omega))
    have XAB := Lib.hid (XA.out.grown gwB (by simp))
    have XB := Lib.hid xwB
    clear xwB gwB DA XA
    refine hK.out _ _ (SS.out _ (Lib.hid (DB.out.bx _ (List.mem_cons_of_mem _ (List.mem_cons_self ..))).1) (Lib.hid (DB.out.bx _ (List.mem_cons_self ..)).1)) (fun hHeld => ?_)
    clear hK K hHeld
    try simp only [Act.put]
    refine wpAnyH_done (by kernel_rfl) ?_ _
    go_wp2
    obtain ⟨_, p0, p1, p2, p3, p4, p5, p6, p7⟩ := XAB.out.eight
    obtain ⟨_, q0, q1, q2, q3, q4, q5, q6, q7⟩ := XB.out.eight
    exact bodyPost_ret (v := .tuple #[.agg #[.int .i64 x.f, .int .i64 x.t, .int .i64 x.s, .int .i64 x.a, .int .i64 x.g, .int .i64 x.w, .int .i64 x.m, .slice a2 n2 c2], .agg #[.int .i64 x.f, .int .i64 x.t, .int .i64 x.s, .int .i64 x.a, .int .i64 x.g, .int .i64 x.w, .int .i64 x.m, .slice a6 n2 c6]]) (by simp [results, Try.results17, go_sem, p0, p1, p2, p3, p4, p5, p6, p7, q0, q1, q2, q3, q4, q5, q6, q7]) rfl ⟨_, _, _, _, _, _, _, _, _, _, rfl, (DB.out.own _ (List.mem_cons_of_mem _ (List.mem_cons_self ..))).1.rd, (DB.out.own _ (List.mem_cons_self ..)).1.rd, DB.out.bel⟩
end Go.Proofs.Yteaiemckcepphaa
