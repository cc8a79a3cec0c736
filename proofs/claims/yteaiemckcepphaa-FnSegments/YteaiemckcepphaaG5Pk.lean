/-
  packOptions, packSegmentHead and PackSegment of the program, and the law of PackSegment.
-/
import Derived.Test.YteaiemckcepphaaG5Flt
import Derived.Test.YteaiemckcepphaaMC
import Derived.Test.YteaiemckcepphaaSgP
namespace Go.Proofs.Yteaiemckcepphaa
open Go.ChangeShapes Go.WideShapes Go.ChangeAt Go.RowKit

theorem own_lit24 (w : World) (base : Nat) (hb : base ≤ w.heap.size) : Own (w.alloc (.cells #[.int .u8 2, .int .u8 4] 5)) base (some ⟨w.heap.size, 0, none⟩) 2 2 [2, 4] :=
  ⟨World.ownsRow_lit w #[.int .u8 2, .int .u8 4] 2 hb (by unfold maxLen; omega) rfl, by intro n hn; simp at hn; omega⟩
/-- a segment's head ahead of its options, without the sum -/
def sgHd (T : Int) (x : Sg) : List Int := be x.f 2 ++ be x.t 2 ++ be x.s 4 ++ be x.a 4 ++ [T, x.g] ++ be x.w 2 ++ [0, 0, 0, 0]
theorem sgHd_len (T : Int) (x : Sg) : (sgHd T x).length = 20 := by simp [sgHd, be_len]

set_option maxRecDepth 20000 in
set_option maxHeartbeats 1000000 in
theorem packOptions_any (m : Int) (w : World) (hm : 0 ≤ m ∧ m ≤ 65535) :
    Calls Try.prog 54 #[.int .i64 m] w (FreshA w (sgO m)) := by
  have K := Lib.hid (show ∀ W, Calls Try.prog 59 #[.int .i64 m, .int .i64 2] W (Packed W 0 (be m 2)) from fun W => implPack_ok m 2 W (by omega) (by omega) (by simp only [Int.reducePow]; omega))
  obtain ⟨L, hL⟩ : ∃ L, L = sgO m := ⟨_, rfl⟩
  rw [← hL]
  by_cases h0 : m = 0
  · have HL : Hid (L = []) := by rw [hL, sgO, if_pos h0]; rfl
    subst h0
    clear hL hm K
    go_enter Try.func54, Try.ntmps54
    go_wp2
    go_ret
    exact ⟨none, 0, 0, rfl, by rw [HL.out]; exact Own.nil _ _, Below.refl _ _⟩
  · have HL : Hid (L = [2, 4] ++ be m 2) := by rw [hL, sgO, if_neg h0]; rfl
    have h0' : (m == 0) = false := by simpa using h0
    clear hL h0 hm
    have hfb := fld_br
    have O0 := Lib.hid (own_lit24 w w.heap.size (Nat.le_refl _))
    have B0 := Lib.hid ((Below.refl w.heap.size w).alloc (Nat.le_refl _) (.cells #[.int .u8 2, .int .u8 4] 5))
    go_enter Try.func54, Try.ntmps54
    go_wp2_with fail
    generalize hW : w.alloc (.cells #[.int .u8 2, .int .u8 4] 5) = W0 at *
    refine (K.out _).mono ?_
    rintro e w1 ⟨a1, l1, c1, rfl, o1, b1⟩
    obtain rfl : l1 = 2 := o1.length.symm.trans (be_len 2 _)
    have O1 := Lib.hid o1.rd
    have P1 := Lib.hid (O0.out.below b1)
    have B1 := Lib.hid (B0.out.trans (b1.mono B0.out.size))
    clear o1 b1 hW O0 B0
    go_wp2_with fail
    refine (concat2 _ _ _ _ _ _ _ _ _ _ _ (Box.new _ _ _) (P1.out.rd.alloc _) (O1.out.alloc _) (by omega)).mono ?_
    rintro e w2 ⟨a2, l2, c2, rfl, o2, b2⟩
    have B2 := Lib.hid ((B1.out.alloc B1.out.size _).trans (b2.mono (B1.out.alloc B1.out.size _).size))
    have O2 := Lib.hid (o2.rebase (show w.heap.size ≤ _ from by have := B1.out.size; simp; omega))
    clear o2 b2 O1 B1 P1
    go_wp2
    go_ret
    exact ⟨_, _, _, rfl, by rw [HL.out]; exact O2.out, B2.out⟩

set_option maxRecDepth 20000 in
set_option maxHeartbeats 8000000 in
theorem segHead_0 (x : Sg) (a : Option Addr) (len cap : Nat) (w : World) (hn : sgN x = true) :
    Calls Try.prog 56 #[.agg #[.int .i64 x.f, .int .i64 x.t, .int .i64 x.s, .int .i64 x.a, .int .i64 x.g, .int .i64 x.w, .int .i64 x.m, .slice a len cap], .int .i64 0] w (FreshA w (sgHd 80 x)) := by
  obtain ⟨h0, h1, h2, h3, hg, h5, h6⟩ := sgN_parts hn
  have K0 := Lib.hid (show ∀ W, Calls Try.prog 59 #[.int .i64 x.f, .int .i64 2] W (Packed W 0 (be x.f 2)) from fun W => implPack_ok x.f 2 W (by omega) (by omega) (by simp only [Int.reducePow]; omega))
  have K1 := Lib.hid (show ∀ W, Calls Try.prog 59 #[.int .i64 x.t, .int .i64 2] W (Packed W 0 (be x.t 2)) from fun W => implPack_ok x.t 2 W (by omega) (by omega) (by simp only [Int.reducePow]; omega))
  have K2 := Lib.hid (show ∀ W, Calls Try.prog 59 #[.int .i64 x.s, .int .i64 4] W (Packed W 0 (be x.s 4)) from fun W => implPack_ok x.s 4 W (by omega) (by omega) (by simp only [Int.reducePow]; omega))
  have K3 := Lib.hid (show ∀ W, Calls Try.prog 59 #[.int .i64 x.a, .int .i64 4] W (Packed W 0 (be x.a 4)) from fun W => implPack_ok x.a 4 W (by omega) (by omega) (by simp only [Int.reducePow]; omega))
  have K4 := Lib.hid (show ∀ W, Calls Try.prog 59 #[.int .i64 x.w, .int .i64 2] W (Packed W 0 (be x.w 2)) from fun W => implPack_ok x.w 2 W (by omega) (by omega) (by simp only [Int.reducePow]; omega))
  obtain ⟨L, hL⟩ : ∃ L, L = sgHd 80 x := ⟨_, rfl⟩
  have HL : Hid (L = be x.f 2 ++ be x.t 2 ++ be x.s 4 ++ be x.a 4 ++ [80, x.g] ++ be x.w 2 ++ [0, 0, 0, 0]) := hL
  rw [← hL]
  clear hL h0 h1 h2 h3 h5 h6 hn
  have hfb := fld_br
  have hwg : IntKind.u8.wrap x.g = x.g := u8_in _ (by omega)
  have B0 := Lib.hid ((Below.refl w.heap.size w).alloc (Nat.le_refl _) (.cells #[.int .i64 x.f, .int .i64 x.t, .int .i64 x.s, .int .i64 x.a, .int .i64 x.g, .int .i64 x.w, .int .i64 x.m, .slice a len cap] 25))
  have X0 := Lib.hid (Box.new w 25 #[.int .i64 x.f, .int .i64 x.t, .int .i64 x.s, .int .i64 x.a, .int .i64 x.g, .int .i64 x.w, .int .i64 x.m, .slice a len cap])
  go_enter Try.func56, Try.ntmps56
  go_wp2_with fail
  obtain ⟨n0, hn0⟩ : ∃ n0, n0 = w.heap.size := ⟨_, rfl⟩
  generalize w.alloc (.cells #[.int .i64 x.f, .int .i64 x.t, .int .i64 x.s, .int .i64 x.a, .int .i64 x.g, .int .i64 x.w, .int .i64 x.m, .slice a len cap] 25) = W0 at *
  have SS := Lib.hid (show ∀ W, Hid (Below W0.heap.size W0 W) → W.cell? ⟨w.heap.size, 0, none⟩ = some (.int .i64 x.f) ∧ W.cell? ⟨w.heap.size, 1, none⟩ = some (.int .i64 x.t) ∧ W.cell? ⟨w.heap.size, 2, none⟩ = some (.int .i64 x.s) ∧ W.cell? ⟨w.heap.size, 3, none⟩ = some (.int .i64 x.a) ∧ W.cell? ⟨w.heap.size, 4, none⟩ = some (.int .i64 x.g) ∧ W.cell? ⟨w.heap.size, 5, none⟩ = some (.int .i64 x.w) ∧ Hid (Below W0.heap.size W0 W) from fun W h => by
    obtain ⟨_, x0, x1, x2, x3, x4, x5, _⟩ := (X0.out.below h.out X0.out.lt).eight
    exact ⟨x0, x1, x2, x3, x4, x5, h⟩)
  have T1 := Lib.hid (Below.refl W0.heap.size W0)
  have hnn := Lib.hid hn0
  have hn0 : n0 ≤ W0.heap.size := by rw [hnn.out]; exact B0.out.size
  have TD := kDrew T1
  refine wp_region_held_drew (S := fun W => W.cell? ⟨w.heap.size, 0, none⟩ = some (.int .i64 x.f) ∧ W.cell? ⟨w.heap.size, 1, none⟩ = some (.int .i64 x.t) ∧ W.cell? ⟨w.heap.size, 2, none⟩ = some (.int .i64 x.s) ∧ W.cell? ⟨w.heap.size, 3, none⟩ = some (.int .i64 x.a) ∧ W.cell? ⟨w.heap.size, 4, none⟩ = some (.int .i64 x.g) ∧ W.cell? ⟨w.heap.size, 5, none⟩ = some (.int .i64 x.w) ∧ Hid (Below W0.heap.size W0 W)) (by kernel_rfl) (SS.out _ TD) (fun hHeld => ?_)
  refine wpAnyH_take (i := 0) (v := ?_) (by simp only [List.getElem?_toArray, List.getElem?_cons_zero]; exact rfl) (by kernel_rfl) (by kernel_rfl) (by kernel_rfl) (by exact fun _ _ _ h => h) (Or.inl ⟨by rfl, ?_⟩) hHeld ?_
  rotate_left
  · intro w' hSw
    obtain ⟨s0, s1, s2, s3, s4, s5, _⟩ := hSw
    go_simp
    try with_reducible rfl
  try simp only [Act.put, List.setIfInBounds_toArray, List.set_cons_zero, List.set_cons_succ]
  refine wpAnyH_take (i := 1) (v := ?_) (by simp only [List.getElem?_toArray, List.getElem?_cons_zero, List.getElem?_cons_succ]; exact rfl) (by kernel_rfl) (by kernel_rfl) (by kernel_rfl) (by exact fun _ _ _ h => h) (Or.inl ⟨by rfl, ?_⟩) hHeld ?_
  rotate_left
  · intro w' hSw
    obtain ⟨s0, s1, s2, s3, s4, s5, _⟩ := hSw
    go_simp
    try with_reducible rfl
  try simp only [Act.put, List.setIfInBounds_toArray, List.set_cons_zero, List.set_cons_succ]
  refine wpAnyH_take (i := 4) (v := ?_) (by simp only [List.getElem?_toArray, List.getElem?_cons_zero, List.getElem?_cons_succ]; exact rfl) (by kernel_rfl) (by kernel_rfl) (by kernel_rfl) (by exact fun _ _ _ h => h) (Or.inl ⟨by rfl, ?_⟩) hHeld ?_
  rotate_left
  · intro w' hSw
    obtain ⟨s0, s1, s2, s3, s4, s5, _⟩ := hSw
    go_simp
    try with_reducible rfl
  try simp only [Act.put, List.setIfInBounds_toArray, List.set_cons_zero, List.set_cons_succ]
  refine wpAnyH_take (i := 5) (v := ?_) (by simp only [List.getElem?_toArray, List.getElem?_cons_zero, List.getElem?_cons_succ]; exact rfl) (by kernel_rfl) (by kernel_rfl) (by kernel_rfl) (by exact fun _ _ _ h => h) (Or.inl ⟨by rfl, ?_⟩) hHeld ?_
  rotate_left
  · intro w' hSw
    obtain ⟨s0, s1, s2, s3, s4, s5, _⟩ := hSw
    go_simp
    try with_reducible rfl
  try simp only [Act.put, List.setIfInBounds_toArray, List.set_cons_zero, List.set_cons_succ]
  refine wpAnyH_take (i := 8) (v := ?_) (by simp only [List.getElem?_toArray, List.getElem?_cons_zero, List.getElem?_cons_succ]; exact rfl) (by kernel_rfl) (by kernel_rfl) (by kernel_rfl) (by exact fun _ _ _ h => h) (Or.inl ⟨by rfl, ?_⟩) hHeld ?_
  rotate_left
  · intro w' hSw
    obtain ⟨s0, s1, s2, s3, s4, s5, _⟩ := hSw
    go_simp
    try with_reducible rfl
  try simp only [Act.put, List.setIfInBounds_toArray, List.set_cons_zero, List.set_cons_succ]
  refine wpAnyH_take (i := 9) (v := ?_) (by simp only [List.getElem?_toArray, List.getElem?_cons_zero, List.getElem?_cons_succ]; exact rfl) (by kernel_rfl) (by kernel_rfl) (by kernel_rfl) (by exact fun _ _ _ h => h) (Or.inl ⟨by rfl, ?_⟩) hHeld ?_
  rotate_left
  · intro w' hSw
    obtain ⟨s0, s1, s2, s3, s4, s5, _⟩ := hSw
    go_simp
    try with_reducible rfl
  try simp only [Act.put, List.setIfInBounds_toArray, List.set_cons_zero, List.set_cons_succ]
  refine wpAnyH_take (i := 12) (v := ?_) (by simp only [List.getElem?_toArray, List.getElem?_cons_zero, List.getElem?_cons_succ]; exact rfl) (by kernel_rfl) (by kernel_rfl) (by kernel_rfl) (by exact fun _ _ _ h => h) (Or.inl ⟨by rfl, ?_⟩) hHeld ?_
  rotate_left
  · intro w' hSw
    obtain ⟨s0, s1, s2, s3, s4, s5, _⟩ := hSw
    go_simp
    try with_reducible rfl
  try simp only [Act.put, List.setIfInBounds_toArray, List.set_cons_zero, List.set_cons_succ]
  refine wpAnyH_take (i := 13) (v := ?_) (by simp only [List.getElem?_toArray, List.getElem?_cons_zero, List.getElem?_cons_succ]; exact rfl) (by kernel_rfl) (by kernel_rfl) (by kernel_rfl) (by exact fun _ _ _ h => h) (Or.inl ⟨by rfl, ?_⟩) hHeld ?_
  rotate_left
  · intro w' hSw
    obtain ⟨s0, s1, s2, s3, s4, s5, _⟩ := hSw
    go_simp
    try with_reducible rfl
  try simp only [Act.put, List.setIfInBounds_toArray, List.set_cons_zero, List.set_cons_succ]
  refine wpAnyH_take (i := 16) (v := ?_) (by simp only [List.getElem?_toArray, List.getElem?_cons_zero, List.getElem?_cons_succ]; exact rfl) (by kernel_rfl) (by kernel_rfl) (by kernel_rfl) (by exact fun _ _ _ h => h) (Or.inl ⟨by rfl, ?_⟩) hHeld ?_
  rotate_left
  · intro w' hSw
    obtain ⟨s0, s1, s2, s3, s4, s5, _⟩ := hSw
    go_simp
    try with_reducible rfl
  try simp only [Act.put, List.setIfInBounds_toArray, List.set_cons_zero, List.set_cons_succ]
  refine wpAnyH_take (i := 17) (v := ?_) (by simp only [List.getElem?_toArray, List.getElem?_cons_zero, List.getElem?_cons_succ]; exact rfl) (by kernel_rfl) (by kernel_rfl) (by kernel_rfl) (by exact fun _ _ _ h => h) (Or.inl ⟨by rfl, ?_⟩) hHeld ?_
  rotate_left
  · intro w' hSw
    obtain ⟨s0, s1, s2, s3, s4, s5, _⟩ := hSw
    go_simp
    try with_reducible rfl
  try simp only [Act.put, List.setIfInBounds_toArray, List.set_cons_zero, List.set_cons_succ]
  refine wpAnyH_take (i := 18) (v := ?_) (by simp only [List.getElem?_toArray, List.getElem?_cons_zero, List.getElem?_cons_succ]; exact rfl) (by kernel_rfl) (by kernel_rfl) (by kernel_rfl) (by exact fun _ _ _ h => h) (Or.inl ⟨by rfl, ?_⟩) hHeld ?_
  rotate_left
  · intro w' hSw
    obtain ⟨s0, s1, s2, s3, s4, s5, _⟩ := hSw
    go_simp
    try with_reducible rfl
  try simp only [Act.put, List.setIfInBounds_toArray, List.set_cons_zero, List.set_cons_succ]
  refine wpAnyH_take (i := 19) (v := ?_) (by simp only [List.getElem?_toArray, List.getElem?_cons_zero, List.getElem?_cons_succ]; exact rfl) (by kernel_rfl) (by kernel_rfl) (by kernel_rfl) (by exact fun _ _ _ h => h) (Or.inl ⟨by rfl, ?_⟩) hHeld ?_
  rotate_left
  · intro w' hSw
    obtain ⟨s0, s1, s2, s3, s4, s5, _⟩ := hSw
    go_simp
    try with_reducible rfl
  try simp only [Act.put, List.setIfInBounds_toArray, List.set_cons_zero, List.set_cons_succ]
  refine wpAnyH_take (i := 20) (v := ?_) (by simp only [List.getElem?_toArray, List.getElem?_cons_zero, List.getElem?_cons_succ]; exact rfl) (by kernel_rfl) (by kernel_rfl) (by kernel_rfl) (by exact fun _ _ _ h => h) (Or.inl ⟨by rfl, ?_⟩) hHeld ?_
  rotate_left
  · intro w' hSw
    obtain ⟨s0, s1, s2, s3, s4, s5, _⟩ := hSw
    go_simp
    try with_reducible rfl
  try simp only [Act.put, List.setIfInBounds_toArray, List.set_cons_zero, List.set_cons_succ]
  refine wpAnyH_take (i := 22) (v := ?_) (by simp only [List.getElem?_toArray, List.getElem?_cons_zero, List.getElem?_cons_succ]; exact rfl) (by kernel_rfl) (by kernel_rfl) (by kernel_rfl) (by exact fun _ _ _ h => h) (Or.inl ⟨by rfl, ?_⟩) hHeld ?_
  rotate_left
  · intro w' hSw
    obtain ⟨s0, s1, s2, s3, s4, s5, _⟩ := hSw
    go_simp
    try with_reducible rfl
  try simp only [Act.put, List.setIfInBounds_toArray, List.set_cons_zero, List.set_cons_succ]
  refine wpAnyH_take (i := 23) (v := ?_) (by simp only [List.getElem?_toArray, List.getElem?_cons_zero, List.getElem?_cons_succ]; exact rfl) (by kernel_rfl) (by kernel_rfl) (by kernel_rfl) (by exact fun _ _ _ h => h) (Or.inl ⟨by rfl, ?_⟩) hHeld ?_
  rotate_left
  · intro w' hSw
    obtain ⟨s0, s1, s2, s3, s4, s5, _⟩ := hSw
    go_simp
    try with_reducible rfl
  try simp only [Act.put, List.setIfInBounds_toArray, List.set_cons_zero, List.set_cons_succ]
  refine flow_go (Inv := fun listed ac W => ∃ v4 v12 v13 v16 v17 v20 v21 v24 v25 v31 v34 v35 v36 v37 v38 : Value, ac = { tmps := #[.agg #[.int .i64 x.f, .int .i64 x.t, .int .i64 x.s, .int .i64 x.a, .int .i64 x.g, .int .i64 x.w, .int .i64 x.m, .slice a len cap], .int .i64 0, .pointer (some ⟨w.heap.size, 0, none⟩), _, v4, .int .i64 80, _, _, _, _, .pointer (some ⟨w.heap.size, 0, none⟩), .int .i64 x.f, v12, v13, .pointer (some ⟨w.heap.size, 1, none⟩), .int .i64 x.t, v16, v17, .pointer (some ⟨w.heap.size, 2, none⟩), .int .i64 x.s, v20, v21, .pointer (some ⟨w.heap.size, 3, none⟩), .int .i64 x.a, v24, v25, .int .i64 80, .int .u8 80, .pointer (some ⟨w.heap.size, 4, none⟩), .int .i64 x.g, .int .u8 x.g, v31, .pointer (some ⟨w.heap.size, 5, none⟩), .int .i64 x.w, v34, v35, v36, v37, v38], defers := [] } ∧ Hid (Below W0.heap.size W0 W) ∧ Fl listed 2 (BrV W n0 v12 2 (be x.f 2)) ∧ Fl listed 3 (SlV W n0 v13 2 (be x.f 2)) ∧ Fl listed 6 (BrV W n0 v16 2 (be x.t 2)) ∧ Fl listed 7 (SlV W n0 v17 2 (be x.t 2)) ∧ Fl listed 10 (BrV W n0 v20 4 (be x.s 4)) ∧ Fl listed 11 (SlV W n0 v21 4 (be x.s 4)) ∧ Fl listed 14 (BrV W n0 v24 4 (be x.a 4)) ∧ Fl listed 15 (SlV W n0 v25 4 (be x.a 4)) ∧ Fl listed 21 (SlV W n0 v31 2 [80, x.g]) ∧ Fl listed 24 (BrV W n0 v34 2 (be x.w 2)) ∧ Fl listed 25 (SlV W n0 v35 2 (be x.w 2)) ∧ Fl listed 26 (SlV W n0 v36 4 [0, 0, 0, 0]) ∧ Fl listed 27 (CatV W v37 7 L) ∧ Fl listed 28 (AnyV W n0 v38 L) ∧ Fl listed 29 (AnyV W n0 v4 L)) [2, 3, 6, 7, 10, 11, 14, 15, 21, 24, 25, 26, 27, 28, 29] (by kernel_rfl) (by kernel_rfl) ⟨_, _, _, _, _, _, _, _, _, _, _, _, _, _, _, rfl, TD, Fl.not (by kernel_rfl), Fl.not (by kernel_rfl), Fl.not (by kernel_rfl), Fl.not (by kernel_rfl), Fl.not (by kernel_rfl), Fl.not (by kernel_rfl), Fl.not (by kernel_rfl), Fl.not (by kernel_rfl), Fl.not (by kernel_rfl), Fl.not (by kernel_rfl), Fl.not (by kernel_rfl), Fl.not (by kernel_rfl), Fl.not (by kernel_rfl), Fl.not (by kernel_rfl), Fl.not (by kernel_rfl)⟩
    (FlowAll.cons [] (by simp only [List.getElem?_toArray, List.getElem?_cons_zero, List.getElem?_cons_succ]; exact rfl) (by kernel_rfl) (fun listed ac W hI hu hd K hK => ?_)
      (FlowAll.cons [2] (by simp only [List.getElem?_toArray, List.getElem?_cons_zero, List.getElem?_cons_succ]; exact rfl) (by kernel_rfl) (fun listed ac W hI hu hd K hK => ?_)
      (FlowAll.cons [] (by simp only [List.getElem?_toArray, List.getElem?_cons_zero, List.getElem?_cons_succ]; exact rfl) (by kernel_rfl) (fun listed ac W hI hu hd K hK => ?_)
      (FlowAll.cons [6] (by simp only [List.getElem?_toArray, List.getElem?_cons_zero, List.getElem?_cons_succ]; exact rfl) (by kernel_rfl) (fun listed ac W hI hu hd K hK => ?_)
      (FlowAll.cons [] (by simp only [List.getElem?_toArray, List.getElem?_cons_zero, List.getElem?_cons_succ]; exact rfl) (by kernel_rfl) (fun listed ac W hI hu hd K hK => ?_)
      (FlowAll.cons [10] (by simp only [List.getElem?_toArray, List.getElem?_cons_zero, List.getElem?_cons_succ]; exact rfl) (by kernel_rfl) (fun listed ac W hI hu hd K hK => ?_)
      (FlowAll.cons [] (by simp only [List.getElem?_toArray, List.getElem?_cons_zero, List.getElem?_cons_succ]; exact rfl) (by kernel_rfl) (fun listed ac W hI hu hd K hK => ?_)
      (FlowAll.cons [14] (by simp only [List.getElem?_toArray, List.getElem?_cons_zero, List.getElem?_cons_succ]; exact rfl) (by kernel_rfl) (fun listed ac W hI hu hd K hK => ?_)
      (FlowAll.cons [] (by simp only [List.getElem?_toArray, List.getElem?_cons_zero, List.getElem?_cons_succ]; exact rfl) (by kernel_rfl) (fun listed ac W hI hu hd K hK => ?_)
      (FlowAll.cons [] (by simp only [List.getElem?_toArray, List.getElem?_cons_zero, List.getElem?_cons_succ]; exact rfl) (by kernel_rfl) (fun listed ac W hI hu hd K hK => ?_)
      (FlowAll.cons [24] (by simp only [List.getElem?_toArray, List.getElem?_cons_zero, List.getElem?_cons_succ]; exact rfl) (by kernel_rfl) (fun listed ac W hI hu hd K hK => ?_)
      (FlowAll.cons [] (by simp only [List.getElem?_toArray, List.getElem?_cons_zero, List.getElem?_cons_succ]; exact rfl) (by kernel_rfl) (fun listed ac W hI hu hd K hK => ?_)
      (FlowAll.cons [3, 7, 11, 15, 21, 25, 26] (by simp only [List.getElem?_toArray, List.getElem?_cons_zero, List.getElem?_cons_succ]; exact rfl) (by kernel_rfl) (fun listed ac W hI hu hd K hK => ?_)
      (FlowAll.cons [27] (by simp only [List.getElem?_toArray, List.getElem?_cons_zero, List.getElem?_cons_succ]; exact rfl) (by kernel_rfl) (fun listed ac W hI hu hd K hK => ?_)
      (FlowAll.cons [28] (by simp only [List.getElem?_toArray, List.getElem?_cons_zero, List.getElem?_cons_succ]; exact rfl) (by kernel_rfl) (fun listed ac W hI hu hd K hK => ?_)
      FlowAll.nil)))))))))))))))
    (fun listed ac W hI hall => ?_)
  · obtain ⟨v4, v12, v13, v16, v17, v20, v21, v24, v25, v31, v34, v35, v36, v37, v38, rfl, TB, f2, f3, f6, f7, f10, f11, f14, f15, f21, f24, f25, f26, f27, f28, f29⟩ := hI
    have hnW : n0 ≤ W.heap.size := Nat.le_trans hn0 (kSize TB)
    refine want_none (by exact rfl) ?_
    go_wp2_with fail
    refine (K0.out _).mono ?_
    intro e w' hp
    obtain ⟨v, rfl, hv, hb0⟩ := BrV.of_packed hp (be_len 2 _) hnW
    go_wp2_with fail
    have hb : Below W.heap.size W _ := hb0
    have TB' := kCall hb (kSize TB) TB
    refine hK.out _ _ (SS.out _ TB') ?_
    exact ⟨_, _, _, _, _, _, _, _, _, _, _, _, _, _, _, rfl, TB', Fl.new (hv), f3.keep (by decide) (SlV.below hb), f6.keep (by decide) (BrV.below hb), f7.keep (by decide) (SlV.below hb), f10.keep (by decide) (BrV.below hb), f11.keep (by decide) (SlV.below hb), f14.keep (by decide) (BrV.below hb), f15.keep (by decide) (SlV.below hb), f21.keep (by decide) (SlV.below hb), f24.keep (by decide) (BrV.below hb), f25.keep (by decide) (SlV.below hb), f26.keep (by decide) (SlV.below hb), f27.keep (by decide) (CatV.below hb), f28.keep (by decide) (AnyV.below hb), f29.keep (by decide) (AnyV.below hb)⟩
  · obtain ⟨v4, v12, v13, v16, v17, v20, v21, v24, v25, v31, v34, v35, v36, v37, v38, rfl, TB, f2, f3, f6, f7, f10, f11, f14, f15, f21, f24, f25, f26, f27, f28, f29⟩ := hI
    have hnW : n0 ≤ W.heap.size := Nat.le_trans hn0 (kSize TB)
    obtain ⟨a12, c12, rfl, o12⟩ := f2.get (hd 2 (by simp))
    refine want_none (by exact rfl) ?_
    go_wp2_with fail
    refine hK.out _ _ (SS.out _ TB) ?_
    exact ⟨_, _, _, _, _, _, _, _, _, _, _, _, _, _, _, rfl, TB, f2.keep (by decide) id, Fl.new (⟨_, _, rfl, o12⟩), f6.keep (by decide) id, f7.keep (by decide) id, f10.keep (by decide) id, f11.keep (by decide) id, f14.keep (by decide) id, f15.keep (by decide) id, f21.keep (by decide) id, f24.keep (by decide) id, f25.keep (by decide) id, f26.keep (by decide) id, f27.keep (by decide) id, f28.keep (by decide) id, f29.keep (by decide) id⟩
  · obtain ⟨v4, v12, v13, v16, v17, v20, v21, v24, v25, v31, v34, v35, v36, v37, v38, rfl, TB, f2, f3, f6, f7, f10, f11, f14, f15, f21, f24, f25, f26, f27, f28, f29⟩ := hI
    have hnW : n0 ≤ W.heap.size := Nat.le_trans hn0 (kSize TB)
    refine want_none (by exact rfl) ?_
    go_wp2_with fail
    refine (K1.out _).mono ?_
    intro e w' hp
    obtain ⟨v, rfl, hv, hb0⟩ := BrV.of_packed hp (be_len 2 _) hnW
    go_wp2_with fail
    have hb : Below W.heap.size W _ := hb0
    have TB' := kCall hb (kSize TB) TB
    refine hK.out _ _ (SS.out _ TB') ?_
    exact ⟨_, _, _, _, _, _, _, _, _, _, _, _, _, _, _, rfl, TB', f2.keep (by decide) (BrV.below hb), f3.keep (by decide) (SlV.below hb), Fl.new (hv), f7.keep (by decide) (SlV.below hb), f10.keep (by decide) (BrV.below hb), f11.keep (by decide) (SlV.below hb), f14.keep (by decide) (BrV.below hb), f15.keep (by decide) (SlV.below hb), f21.keep (by decide) (SlV.below hb), f24.keep (by decide) (BrV.below hb), f25.keep (by decide) (SlV.below hb), f26.keep (by decide) (SlV.below hb), f27.keep (by decide) (CatV.below hb), f28.keep (by decide) (AnyV.below hb), f29.keep (by decide) (AnyV.below hb)⟩
  · obtain ⟨v4, v12, v13, v16, v17, v20, v21, v24, v25, v31, v34, v35, v36, v37, v38, rfl, TB, f2, f3, f6, f7, f10, f11, f14, f15, f21, f24, f25, f26, f27, f28, f29⟩ := hI
    have hnW : n0 ≤ W.heap.size := Nat.le_trans hn0 (kSize TB)
    obtain ⟨a16, c16, rfl, o16⟩ := f6.get (hd 6 (by simp))
    refine want_none (by exact rfl) ?_
    go_wp2_with fail
    refine hK.out _ _ (SS.out _ TB) ?_
    exact ⟨_, _, _, _, _, _, _, _, _, _, _, _, _, _, _, rfl, TB, f2.keep (by decide) id, f3.keep (by decide) id, f6.keep (by decide) id, Fl.new (⟨_, _, rfl, o16⟩), f10.keep (by decide) id, f11.keep (by decide) id, f14.keep (by decide) id, f15.keep (by decide) id, f21.keep (by decide) id, f24.keep (by decide) id, f25.keep (by decide) id, f26.keep (by decide) id, f27.keep (by decide) id, f28.keep (by decide) id, f29.keep (by decide) id⟩
  · obtain ⟨v4, v12, v13, v16, v17, v20, v21, v24, v25, v31, v34, v35, v36, v37, v38, rfl, TB, f2, f3, f6, f7, f10, f11, f14, f15, f21, f24, f25, f26, f27, f28, f29⟩ := hI
    have hnW : n0 ≤ W.heap.size := Nat.le_trans hn0 (kSize TB)
    refine want_none (by exact rfl) ?_
    go_wp2_with fail
    refine (K2.out _).mono ?_
    intro e w' hp
    obtain ⟨v, rfl, hv, hb0⟩ := BrV.of_packed hp (be_len 4 _) hnW
    go_wp2_with fail
    have hb : Below W.heap.size W _ := hb0
    have TB' := kCall hb (kSize TB) TB
    refine hK.out _ _ (SS.out _ TB') ?_
    exact ⟨_, _, _, _, _, _, _, _, _, _, _, _, _, _, _, rfl, TB', f2.keep (by decide) (BrV.below hb), f3.keep (by decide) (SlV.below hb), f6.keep (by decide) (BrV.below hb), f7.keep (by decide) (SlV.below hb), Fl.new (hv), f11.keep (by decide) (SlV.below hb), f14.keep (by decide) (BrV.below hb), f15.keep (by decide) (SlV.below hb), f21.keep (by decide) (SlV.below hb), f24.keep (by decide) (BrV.below hb), f25.keep (by decide) (SlV.below hb), f26.keep (by decide) (SlV.below hb), f27.keep (by decide) (CatV.below hb), f28.keep (by decide) (AnyV.below hb), f29.keep (by decide) (AnyV.below hb)⟩
  · obtain ⟨v4, v12, v13, v16, v17, v20, v21, v24, v25, v31, v34, v35, v36, v37, v38, rfl, TB, f2, f3, f6, f7, f10, f11, f14, f15, f21, f24, f25, f26, f27, f28, f29⟩ := hI
    have hnW : n0 ≤ W.heap.size := Nat.le_trans hn0 (kSize TB)
    obtain ⟨a20, c20, rfl, o20⟩ := f10.get (hd 10 (by simp))
    refine want_none (by exact rfl) ?_
    go_wp2_with fail
    refine hK.out _ _ (SS.out _ TB) ?_
    exact ⟨_, _, _, _, _, _, _, _, _, _, _, _, _, _, _, rfl, TB, f2.keep (by decide) id, f3.keep (by decide) id, f6.keep (by decide) id, f7.keep (by decide) id, f10.keep (by decide) id, Fl.new (⟨_, _, rfl, o20⟩), f14.keep (by decide) id, f15.keep (by decide) id, f21.keep (by decide) id, f24.keep (by decide) id, f25.keep (by decide) id, f26.keep (by decide) id, f27.keep (by decide) id, f28.keep (by decide) id, f29.keep (by decide) id⟩
  · obtain ⟨v4, v12, v13, v16, v17, v20, v21, v24, v25, v31, v34, v35, v36, v37, v38, rfl, TB, f2, f3, f6, f7, f10, f11, f14, f15, f21, f24, f25, f26, f27, f28, f29⟩ := hI
    have hnW : n0 ≤ W.heap.size := Nat.le_trans hn0 (kSize TB)
    refine want_none (by exact rfl) ?_
    go_wp2_with fail
    refine (K3.out _).mono ?_
    intro e w' hp
    obtain ⟨v, rfl, hv, hb0⟩ := BrV.of_packed hp (be_len 4 _) hnW
    go_wp2_with fail
    have hb : Below W.heap.size W _ := hb0
    have TB' := kCall hb (kSize TB) TB
    refine hK.out _ _ (SS.out _ TB') ?_
    exact ⟨_, _, _, _, _, _, _, _, _, _, _, _, _, _, _, rfl, TB', f2.keep (by decide) (BrV.below hb), f3.keep (by decide) (SlV.below hb), f6.keep (by decide) (BrV.below hb), f7.keep (by decide) (SlV.below hb), f10.keep (by decide) (BrV.below hb), f11.keep (by decide) (SlV.below hb), Fl.new (hv), f15.keep (by decide) (SlV.below hb), f21.keep (by decide) (SlV.below hb), f24.keep (by decide) (BrV.below hb), f25.keep (by decide) (SlV.below hb), f26.keep (by decide) (SlV.below hb), f27.keep (by decide) (CatV.below hb), f28.keep (by decide) (AnyV.below hb), f29.keep (by decide) (AnyV.below hb)⟩
  · obtain ⟨v4, v12, v13, v16, v17, v20, v21, v24, v25, v31, v34, v35, v36, v37, v38, rfl, TB, f2, f3, f6, f7, f10, f11, f14, f15, f21, f24, f25, f26, f27, f28, f29⟩ := hI
    have hnW : n0 ≤ W.heap.size := Nat.le_trans hn0 (kSize TB)
    obtain ⟨a24, c24, rfl, o24⟩ := f14.get (hd 14 (by simp))
    refine want_none (by exact rfl) ?_
    go_wp2_with fail
    refine hK.out _ _ (SS.out _ TB) ?_
    exact ⟨_, _, _, _, _, _, _, _, _, _, _, _, _, _, _, rfl, TB, f2.keep (by decide) id, f3.keep (by decide) id, f6.keep (by decide) id, f7.keep (by decide) id, f10.keep (by decide) id, f11.keep (by decide) id, f14.keep (by decide) id, Fl.new (⟨_, _, rfl, o24⟩), f21.keep (by decide) id, f24.keep (by decide) id, f25.keep (by decide) id, f26.keep (by decide) id, f27.keep (by decide) id, f28.keep (by decide) id, f29.keep (by decide) id⟩
  · obtain ⟨v4, v12, v13, v16, v17, v20, v21, v24, v25, v31, v34, v35, v36, v37, v38, rfl, TB, f2, f3, f6, f7, f10, f11, f14, f15, f21, f24, f25, f26, f27, f28, f29⟩ := hI
    have hnW : n0 ≤ W.heap.size := Nat.le_trans hn0 (kSize TB)
    refine want_none (by exact rfl) ?_
    go_wp2_with fail
    have hb : Below W.heap.size W _ := bAlloc W (.cells #[.int .u8 80, .int .u8 x.g] 5)
    have TB' := kCall hb (kSize TB) TB
    refine hK.out _ _ (SS.out _ TB') ?_
    exact ⟨_, _, _, _, _, _, _, _, _, _, _, _, _, _, _, rfl, TB', f2.keep (by decide) (BrV.below hb), f3.keep (by decide) (SlV.below hb), f6.keep (by decide) (BrV.below hb), f7.keep (by decide) (SlV.below hb), f10.keep (by decide) (BrV.below hb), f11.keep (by decide) (SlV.below hb), f14.keep (by decide) (BrV.below hb), f15.keep (by decide) (SlV.below hb), Fl.new (SlV.lit hnW 2 rfl (by intro n hn; simp at hn; omega) (by unfold maxLen; omega) _ rfl), f24.keep (by decide) (BrV.below hb), f25.keep (by decide) (SlV.below hb), f26.keep (by decide) (SlV.below hb), f27.keep (by decide) (CatV.below hb), f28.keep (by decide) (AnyV.below hb), f29.keep (by decide) (AnyV.below hb)⟩
  · obtain ⟨v4, v12, v13, v16, v17, v20, v21, v24, v25, v31, v34, v35, v36, v37, v38, rfl, TB, f2, f3, f6, f7, f10, f11, f14, f15, f21, f24, f25, f26, f27, f28, f29⟩ := hI
    have hnW : n0 ≤ W.heap.size := Nat.le_trans hn0 (kSize TB)
    refine want_none (by exact rfl) ?_
    go_wp2_with fail
    refine (K4.out _).mono ?_
    intro e w' hp
    obtain ⟨v, rfl, hv, hb0⟩ := BrV.of_packed hp (be_len 2 _) hnW
    go_wp2_with fail
    have hb : Below W.heap.size W _ := hb0
    have TB' := kCall hb (kSize TB) TB
    refine hK.out _ _ (SS.out _ TB') ?_
    exact ⟨_, _, _, _, _, _, _, _, _, _, _, _, _, _, _, rfl, TB', f2.keep (by decide) (BrV.below hb), f3.keep (by decide) (SlV.below hb), f6.keep (by decide) (BrV.below hb), f7.keep (by decide) (SlV.below hb), f10.keep (by decide) (BrV.below hb), f11.keep (by decide) (SlV.below hb), f14.keep (by decide) (BrV.below hb), f15.keep (by decide) (SlV.below hb), f21.keep (by decide) (SlV.below hb), Fl.new (hv), f25.keep (by decide) (SlV.below hb), f26.keep (by decide) (SlV.below hb), f27.keep (by decide) (CatV.below hb), f28.keep (by decide) (AnyV.below hb), f29.keep (by decide) (AnyV.below hb)⟩
  · obtain ⟨v4, v12, v13, v16, v17, v20, v21, v24, v25, v31, v34, v35, v36, v37, v38, rfl, TB, f2, f3, f6, f7, f10, f11, f14, f15, f21, f24, f25, f26, f27, f28, f29⟩ := hI
    have hnW : n0 ≤ W.heap.size := Nat.le_trans hn0 (kSize TB)
    obtain ⟨a34, c34, rfl, o34⟩ := f24.get (hd 24 (by simp))
    refine want_none (by exact rfl) ?_
    go_wp2_with fail
    refine hK.out _ _ (SS.out _ TB) ?_
    exact ⟨_, _, _, _, _, _, _, _, _, _, _, _, _, _, _, rfl, TB, f2.keep (by decide) id, f3.keep (by decide) id, f6.keep (by decide) id, f7.keep (by decide) id, f10.keep (by decide) id, f11.keep (by decide) id, f14.keep (by decide) id, f15.keep (by decide) id, f21.keep (by decide) id, f24.keep (by decide) id, Fl.new (⟨_, _, rfl, o34⟩), f26.keep (by decide) id, f27.keep (by decide) id, f28.keep (by decide) id, f29.keep (by decide) id⟩
  · obtain ⟨v4, v12, v13, v16, v17, v20, v21, v24, v25, v31, v34, v35, v36, v37, v38, rfl, TB, f2, f3, f6, f7, f10, f11, f14, f15, f21, f24, f25, f26, f27, f28, f29⟩ := hI
    have hnW : n0 ≤ W.heap.size := Nat.le_trans hn0 (kSize TB)
    refine want_none (by exact rfl) ?_
    go_wp2_with fail
    have hb : Below W.heap.size W _ := bAlloc W (.cells #[.int .u8 0, .int .u8 0, .int .u8 0, .int .u8 0] 5)
    have TB' := kCall hb (kSize TB) TB
    refine hK.out _ _ (SS.out _ TB') ?_
    exact ⟨_, _, _, _, _, _, _, _, _, _, _, _, _, _, _, rfl, TB', f2.keep (by decide) (BrV.below hb), f3.keep (by decide) (SlV.below hb), f6.keep (by decide) (BrV.below hb), f7.keep (by decide) (SlV.below hb), f10.keep (by decide) (BrV.below hb), f11.keep (by decide) (SlV.below hb), f14.keep (by decide) (BrV.below hb), f15.keep (by decide) (SlV.below hb), f21.keep (by decide) (SlV.below hb), f24.keep (by decide) (BrV.below hb), f25.keep (by decide) (SlV.below hb), Fl.new (SlV.lit hnW 4 rfl (by intro n hn; simp at hn; omega) (by unfold maxLen; omega) _ rfl), f27.keep (by decide) (CatV.below hb), f28.keep (by decide) (AnyV.below hb), f29.keep (by decide) (AnyV.below hb)⟩
  · obtain ⟨v4, v12, v13, v16, v17, v20, v21, v24, v25, v31, v34, v35, v36, v37, v38, rfl, TB, f2, f3, f6, f7, f10, f11, f14, f15, f21, f24, f25, f26, f27, f28, f29⟩ := hI
    have hnW : n0 ≤ W.heap.size := Nat.le_trans hn0 (kSize TB)
    obtain ⟨a13, c13, rfl, o13⟩ := f3.get (hd 3 (by simp))
    obtain ⟨a17, c17, rfl, o17⟩ := f7.get (hd 7 (by simp))
    obtain ⟨a21, c21, rfl, o21⟩ := f11.get (hd 11 (by simp))
    obtain ⟨a25, c25, rfl, o25⟩ := f15.get (hd 15 (by simp))
    obtain ⟨a31, c31, rfl, o31⟩ := f21.get (hd 21 (by simp))
    obtain ⟨a35, c35, rfl, o35⟩ := f25.get (hd 25 (by simp))
    obtain ⟨a36, c36, rfl, o36⟩ := f26.get (hd 26 (by simp))
    refine want_none (by exact rfl) ?_
    go_wp2_with fail
    have hb : Below W.heap.size W _ := bAlloc W (.cells #[.slice a13 2 c13, .slice a17 2 c17, .slice a21 4 c21, .slice a25 4 c25, .slice a31 2 c31, .slice a35 2 c35, .slice a36 4 c36] 22)
    have TB' := kCall hb (kSize TB) TB
    refine hK.out _ _ (SS.out _ TB') ?_
    exact ⟨_, _, _, _, _, _, _, _, _, _, _, _, _, _, _, rfl, TB', f2.keep (by decide) (BrV.below hb), f3.keep (by decide) (SlV.below hb), f6.keep (by decide) (BrV.below hb), f7.keep (by decide) (SlV.below hb), f10.keep (by decide) (BrV.below hb), f11.keep (by decide) (SlV.below hb), f14.keep (by decide) (BrV.below hb), f15.keep (by decide) (SlV.below hb), f21.keep (by decide) (SlV.below hb), f24.keep (by decide) (BrV.below hb), f25.keep (by decide) (SlV.below hb), f26.keep (by decide) (SlV.below hb), Fl.new (⟨_, [⟨a13, 2, c13, be x.f 2⟩, ⟨a17, 2, c17, be x.t 2⟩, ⟨a21, 4, c21, be x.s 4⟩, ⟨a25, 4, c25, be x.a 4⟩, ⟨a31, 2, c31, [80, x.g]⟩, ⟨a35, 2, c35, be x.w 2⟩, ⟨a36, 4, c36, [0, 0, 0, 0]⟩], rfl, rfl, sls_box (Box.new _ _ _) (by intro s hs; simp only [List.mem_cons, List.not_mem_nil, or_false] at hs; rcases hs with rfl | rfl | rfl | rfl | rfl | rfl | rfl; exact o13.rd.below hb; exact o17.rd.below hb; exact o21.rd.below hb; exact o25.rd.below hb; exact o31.rd.below hb; exact o35.rd.below hb; exact o36.rd.below hb), by rw [HL.out]; simp [catZ], by simp only [sumN]; omega⟩), f28.keep (by decide) (AnyV.below hb), f29.keep (by decide) (AnyV.below hb)⟩
  · obtain ⟨v4, v12, v13, v16, v17, v20, v21, v24, v25, v31, v34, v35, v36, v37, v38, rfl, TB, f2, f3, f6, f7, f10, f11, f14, f15, f21, f24, f25, f26, f27, f28, f29⟩ := hI
    have hnW : n0 ≤ W.heap.size := Nat.le_trans hn0 (kSize TB)
    obtain ⟨g, ss, rfl, hs, hS, hZ, hT⟩ := f27.get (hd 27 (by simp))
    refine want_none (by exact rfl) ?_
    go_wp2_with fail
    refine (catV_call hs hS hZ hT).mono ?_
    rintro e w' ⟨a', l', c', rfl, o', hb0⟩
    go_wp2_with fail
    have hb : Below W.heap.size W _ := hb0
    have TB' := kCall hb (kSize TB) TB
    refine hK.out _ _ (SS.out _ TB') ?_
    exact ⟨_, _, _, _, _, _, _, _, _, _, _, _, _, _, _, rfl, TB', f2.keep (by decide) (BrV.below hb), f3.keep (by decide) (SlV.below hb), f6.keep (by decide) (BrV.below hb), f7.keep (by decide) (SlV.below hb), f10.keep (by decide) (BrV.below hb), f11.keep (by decide) (SlV.below hb), f14.keep (by decide) (BrV.below hb), f15.keep (by decide) (SlV.below hb), f21.keep (by decide) (SlV.below hb), f24.keep (by decide) (BrV.below hb), f25.keep (by decide) (SlV.below hb), f26.keep (by decide) (SlV.below hb), f27.keep (by decide) (CatV.below hb), Fl.new (⟨_, _, _, rfl, o'.rebase hnW⟩), f29.keep (by decide) (AnyV.below hb)⟩
  · obtain ⟨v4, v12, v13, v16, v17, v20, v21, v24, v25, v31, v34, v35, v36, v37, v38, rfl, TB, f2, f3, f6, f7, f10, f11, f14, f15, f21, f24, f25, f26, f27, f28, f29⟩ := hI
    have hnW : n0 ≤ W.heap.size := Nat.le_trans hn0 (kSize TB)
    obtain ⟨a38, l38, c38, rfl, o38⟩ := f28.get (hd 28 (by simp))
    refine want_none (by exact rfl) ?_
    go_wp2_with fail
    refine hK.out _ _ (SS.out _ TB) ?_
    exact ⟨_, _, _, _, _, _, _, _, _, _, _, _, _, _, _, rfl, TB, f2.keep (by decide) id, f3.keep (by decide) id, f6.keep (by decide) id, f7.keep (by decide) id, f10.keep (by decide) id, f11.keep (by decide) id, f14.keep (by decide) id, f15.keep (by decide) id, f21.keep (by decide) id, f24.keep (by decide) id, f25.keep (by decide) id, f26.keep (by decide) id, f27.keep (by decide) id, f28.keep (by decide) id, Fl.new (⟨_, _, _, rfl, o38⟩)⟩
  · obtain ⟨v4, v12, v13, v16, v17, v20, v21, v24, v25, v31, v34, v35, v36, v37, v38, rfl, TB, f2, f3, f6, f7, f10, f11, f14, f15, f21, f24, f25, f26, f27, f28, f29⟩ := hI
    have hnW : n0 ≤ W.heap.size := Nat.le_trans hn0 (kSize TB)
    obtain ⟨a2, l2, c2, rfl, o2⟩ := f29.get (hall 29 (by decide))
    have O2 := Lib.hid (show Own W w.heap.size a2 l2 c2 L by rw [← hnn.out]; exact o2)
    have B2 := Lib.hid (B0.out.trans (TB.out.mono B0.out.size))
    clear o2 f2 f3 f6 f7 f10 f11 f14 f15 f21 f24 f25 f26 f27 f28 f29 TB hall
    go_wp2
    go_ret
    exact ⟨a2, l2, c2, rfl, O2.out, B2.out⟩

set_option maxRecDepth 20000 in
set_option maxHeartbeats 8000000 in
theorem segHead_4 (x : Sg) (a : Option Addr) (len cap : Nat) (w : World) (hn : sgN x = true) :
    Calls Try.prog 56 #[.agg #[.int .i64 x.f, .int .i64 x.t, .int .i64 x.s, .int .i64 x.a, .int .i64 x.g, .int .i64 x.w, .int .i64 x.m, .slice a len cap], .int .i64 4] w (FreshA w (sgHd 96 x)) := by
  obtain ⟨h0, h1, h2, h3, hg, h5, h6⟩ := sgN_parts hn
  have K0 := Lib.hid (show ∀ W, Calls Try.prog 59 #[.int .i64 x.f, .int .i64 2] W (Packed W 0 (be x.f 2)) from fun W => implPack_ok x.f 2 W (by omega) (by omega) (by simp only [Int.reducePow]; omega))
  have K1 := Lib.hid (show ∀ W, Calls Try.prog 59 #[.int .i64 x.t, .int .i64 2] W (Packed W 0 (be x.t 2)) from fun W => implPack_ok x.t 2 W (by omega) (by omega) (by simp only [Int.reducePow]; omega))
  have K2 := Lib.hid (show ∀ W, Calls Try.prog 59 #[.int .i64 x.s, .int .i64 4] W (Packed W 0 (be x.s 4)) from fun W => implPack_ok x.s 4 W (by omega) (by omega) (by simp only [Int.reducePow]; omega))
  have K3 := Lib.hid (show ∀ W, Calls Try.prog 59 #[.int .i64 x.a, .int .i64 4] W (Packed W 0 (be x.a 4)) from fun W => implPack_ok x.a 4 W (by omega) (by omega) (by simp only [Int.reducePow]; omega))
  have K4 := Lib.hid (show ∀ W, Calls Try.prog 59 #[.int .i64 x.w, .int .i64 2] W (Packed W 0 (be x.w 2)) from fun W => implPack_ok x.w 2 W (by omega) (by omega) (by simp only [Int.reducePow]; omega))
  obtain ⟨L, hL⟩ : ∃ L, L = sgHd 96 x := ⟨_, rfl⟩
  have HL : Hid (L = be x.f 2 ++ be x.t 2 ++ be x.s 4 ++ be x.a 4 ++ [96, x.g] ++ be x.w 2 ++ [0, 0, 0, 0]) := hL
  rw [← hL]
  clear hL h0 h1 h2 h3 h5 h6 hn
  have hfb := fld_br
  have hwg : IntKind.u8.wrap x.g = x.g := u8_in _ (by omega)
  have B0 := Lib.hid ((Below.refl w.heap.size w).alloc (Nat.le_refl _) (.cells #[.int .i64 x.f, .int .i64 x.t, .int .i64 x.s, .int .i64 x.a, .int .i64 x.g, .int .i64 x.w, .int .i64 x.m, .slice a len cap] 25))
  have X0 := Lib.hid (Box.new w 25 #[.int .i64 x.f, .int .i64 x.t, .int .i64 x.s, .int .i64 x.a, .int .i64 x.g, .int .i64 x.w, .int .i64 x.m, .slice a len cap])
  go_enter Try.func56, Try.ntmps56
  go_wp2_with fail
  obtain ⟨n0, hn0⟩ : ∃ n0, n0 = w.heap.size := ⟨_, rfl⟩
  generalize w.alloc (.cells #[.int .i64 x.f, .int .i64 x.t, .int .i64 x.s, .int .i64 x.a, .int .i64 x.g, .int .i64 x.w, .int .i64 x.m, .slice a len cap] 25) = W0 at *
  have SS := Lib.hid (show ∀ W, Hid (Below W0.heap.size W0 W) → W.cell? ⟨w.heap.size, 0, none⟩ = some (.int .i64 x.f) ∧ W.cell? ⟨w.heap.size, 1, none⟩ = some (.int .i64 x.t) ∧ W.cell? ⟨w.heap.size, 2, none⟩ = some (.int .i64 x.s) ∧ W.cell? ⟨w.heap.size, 3, none⟩ = some (.int .i64 x.a) ∧ W.cell? ⟨w.heap.size, 4, none⟩ = some (.int .i64 x.g) ∧ W.cell? ⟨w.heap.size, 5, none⟩ = some (.int .i64 x.w) ∧ Hid (Below W0.heap.size W0 W) from fun W h => by
    obtain ⟨_, x0, x1, x2, x3, x4, x5, _⟩ := (X0.out.below h.out X0.out.lt).eight
    exact ⟨x0, x1, x2, x3, x4, x5, h⟩)
  have T1 := Lib.hid (Below.refl W0.heap.size W0)
  have hnn := Lib.hid hn0
  have hn0 : n0 ≤ W0.heap.size := by rw [hnn.out]; exact B0.out.size
  have TD := kDrew T1
  refine wp_region_held_drew (S := fun W => W.cell? ⟨w.heap.size, 0, none⟩ = some (.int .i64 x.f) ∧ W.cell? ⟨w.heap.size, 1, none⟩ = some (.int .i64 x.t) ∧ W.cell? ⟨w.heap.size, 2, none⟩ = some (.int .i64 x.s) ∧ W.cell? ⟨w.heap.size, 3, none⟩ = some (.int .i64 x.a) ∧ W.cell? ⟨w.heap.size, 4, none⟩ = some (.int .i64 x.g) ∧ W.cell? ⟨w.heap.size, 5, none⟩ = some (.int .i64 x.w) ∧ Hid (Below W0.heap.size W0 W)) (by kernel_rfl) (SS.out _ TD) (fun hHeld => ?_)
  refine wpAnyH_take (i := 0) (v := ?_) (by simp only [List.getElem?_toArray, List.getElem?_cons_zero]; exact rfl) (by kernel_rfl) (by kernel_rfl) (by kernel_rfl) (by exact fun _ _ _ h => h) (Or.inl ⟨by rfl, ?_⟩) hHeld ?_
  rotate_left
  · intro w' hSw
    obtain ⟨s0, s1, s2, s3, s4, s5, _⟩ := hSw
    go_simp
    try with_reducible rfl
  try simp only [Act.put, List.setIfInBounds_toArray, List.set_cons_zero, List.set_cons_succ]
  refine wpAnyH_take (i := 1) (v := ?_) (by simp only [List.getElem?_toArray, List.getElem?_cons_zero, List.getElem?_cons_succ]; exact rfl) (by kernel_rfl) (by kernel_rfl) (by kernel_rfl) (by exact fun _ _ _ h => h) (Or.inl ⟨by rfl, ?_⟩) hHeld ?_
  rotate_left
  · intro w' hSw
    obtain ⟨s0, s1, s2, s3, s4, s5, _⟩ := hSw
    go_simp
    try with_reducible rfl
  try simp only [Act.put, List.setIfInBounds_toArray, List.set_cons_zero, List.set_cons_succ]
  refine wpAnyH_take (i := 4) (v := ?_) (by simp only [List.getElem?_toArray, List.getElem?_cons_zero, List.getElem?_cons_succ]; exact rfl) (by kernel_rfl) (by kernel_rfl) (by kernel_rfl) (by exact fun _ _ _ h => h) (Or.inl ⟨by rfl, ?_⟩) hHeld ?_
  rotate_left
  · intro w' hSw
    obtain ⟨s0, s1, s2, s3, s4, s5, _⟩ := hSw
    go_simp
    try with_reducible rfl
  try simp only [Act.put, List.setIfInBounds_toArray, List.set_cons_zero, List.set_cons_succ]
  refine wpAnyH_take (i := 5) (v := ?_) (by simp only [List.getElem?_toArray, List.getElem?_cons_zero, List.getElem?_cons_succ]; exact rfl) (by kernel_rfl) (by kernel_rfl) (by kernel_rfl) (by exact fun _ _ _ h => h) (Or.inl ⟨by rfl, ?_⟩) hHeld ?_
  rotate_left
  · intro w' hSw
    obtain ⟨s0, s1, s2, s3, s4, s5, _⟩ := hSw
    go_simp
    try with_reducible rfl
  try simp only [Act.put, List.setIfInBounds_toArray, List.set_cons_zero, List.set_cons_succ]
  refine wpAnyH_take (i := 8) (v := ?_) (by simp only [List.getElem?_toArray, List.getElem?_cons_zero, List.getElem?_cons_succ]; exact rfl) (by kernel_rfl) (by kernel_rfl) (by kernel_rfl) (by exact fun _ _ _ h => h) (Or.inl ⟨by rfl, ?_⟩) hHeld ?_
  rotate_left
  · intro w' hSw
    obtain ⟨s0, s1, s2, s3, s4, s5, _⟩ := hSw
    go_simp
    try with_reducible rfl
  try simp only [Act.put, List.setIfInBounds_toArray, List.set_cons_zero, List.set_cons_succ]
  refine wpAnyH_take (i := 9) (v := ?_) (by simp only [List.getElem?_toArray, List.getElem?_cons_zero, List.getElem?_cons_succ]; exact rfl) (by kernel_rfl) (by kernel_rfl) (by kernel_rfl) (by exact fun _ _ _ h => h) (Or.inl ⟨by rfl, ?_⟩) hHeld ?_
  rotate_left
  · intro w' hSw
    obtain ⟨s0, s1, s2, s3, s4, s5, _⟩ := hSw
    go_simp
    try with_reducible rfl
  try simp only [Act.put, List.setIfInBounds_toArray, List.set_cons_zero, List.set_cons_succ]
  refine wpAnyH_take (i := 12) (v := ?_) (by simp only [List.getElem?_toArray, List.getElem?_cons_zero, List.getElem?_cons_succ]; exact rfl) (by kernel_rfl) (by kernel_rfl) (by kernel_rfl) (by exact fun _ _ _ h => h) (Or.inl ⟨by rfl, ?_⟩) hHeld ?_
  rotate_left
  · intro w' hSw
    obtain ⟨s0, s1, s2, s3, s4, s5, _⟩ := hSw
    go_simp
    try with_reducible rfl
  try simp only [Act.put, List.setIfInBounds_toArray, List.set_cons_zero, List.set_cons_succ]
  refine wpAnyH_take (i := 13) (v := ?_) (by simp only [List.getElem?_toArray, List.getElem?_cons_zero, List.getElem?_cons_succ]; exact rfl) (by kernel_rfl) (by kernel_rfl) (by kernel_rfl) (by exact fun _ _ _ h => h) (Or.inl ⟨by rfl, ?_⟩) hHeld ?_
  rotate_left
  · intro w' hSw
    obtain ⟨s0, s1, s2, s3, s4, s5, _⟩ := hSw
    go_simp
    try with_reducible rfl
  try simp only [Act.put, List.setIfInBounds_toArray, List.set_cons_zero, List.set_cons_succ]
  refine wpAnyH_take (i := 16) (v := ?_) (by simp only [List.getElem?_toArray, List.getElem?_cons_zero, List.getElem?_cons_succ]; exact rfl) (by kernel_rfl) (by kernel_rfl) (by kernel_rfl) (by exact fun _ _ _ h => h) (Or.inl ⟨by rfl, ?_⟩) hHeld ?_
  rotate_left
  · intro w' hSw
    obtain ⟨s0, s1, s2, s3, s4, s5, _⟩ := hSw
    go_simp
    try with_reducible rfl
  try simp only [Act.put, List.setIfInBounds_toArray, List.set_cons_zero, List.set_cons_succ]
  refine wpAnyH_take (i := 17) (v := ?_) (by simp only [List.getElem?_toArray, List.getElem?_cons_zero, List.getElem?_cons_succ]; exact rfl) (by kernel_rfl) (by kernel_rfl) (by kernel_rfl) (by exact fun _ _ _ h => h) (Or.inl ⟨by rfl, ?_⟩) hHeld ?_
  rotate_left
  · intro w' hSw
    obtain ⟨s0, s1, s2, s3, s4, s5, _⟩ := hSw
    go_simp
    try with_reducible rfl
  try simp only [Act.put, List.setIfInBounds_toArray, List.set_cons_zero, List.set_cons_succ]
  refine wpAnyH_take (i := 18) (v := ?_) (by simp only [List.getElem?_toArray, List.getElem?_cons_zero, List.getElem?_cons_succ]; exact rfl) (by kernel_rfl) (by kernel_rfl) (by kernel_rfl) (by exact fun _ _ _ h => h) (Or.inl ⟨by rfl, ?_⟩) hHeld ?_
  rotate_left
  · intro w' hSw
    obtain ⟨s0, s1, s2, s3, s4, s5, _⟩ := hSw
    go_simp
    try with_reducible rfl
  try simp only [Act.put, List.setIfInBounds_toArray, List.set_cons_zero, List.set_cons_succ]
  refine wpAnyH_take (i := 19) (v := ?_) (by simp only [List.getElem?_toArray, List.getElem?_cons_zero, List.getElem?_cons_succ]; exact rfl) (by kernel_rfl) (by kernel_rfl) (by kernel_rfl) (by exact fun _ _ _ h => h) (Or.inl ⟨by rfl, ?_⟩) hHeld ?_
  rotate_left
  · intro w' hSw
    obtain ⟨s0, s1, s2, s3, s4, s5, _⟩ := hSw
    go_simp
    try with_reducible rfl
  try simp only [Act.put, List.setIfInBounds_toArray, List.set_cons_zero, List.set_cons_succ]
  refine wpAnyH_take (i := 20) (v := ?_) (by simp only [List.getElem?_toArray, List.getElem?_cons_zero, List.getElem?_cons_succ]; exact rfl) (by kernel_rfl) (by kernel_rfl) (by kernel_rfl) (by exact fun _ _ _ h => h) (Or.inl ⟨by rfl, ?_⟩) hHeld ?_
  rotate_left
  · intro w' hSw
    obtain ⟨s0, s1, s2, s3, s4, s5, _⟩ := hSw
    go_simp
    try with_reducible rfl
  try simp only [Act.put, List.setIfInBounds_toArray, List.set_cons_zero, List.set_cons_succ]
  refine wpAnyH_take (i := 22) (v := ?_) (by simp only [List.getElem?_toArray, List.getElem?_cons_zero, List.getElem?_cons_succ]; exact rfl) (by kernel_rfl) (by kernel_rfl) (by kernel_rfl) (by exact fun _ _ _ h => h) (Or.inl ⟨by rfl, ?_⟩) hHeld ?_
  rotate_left
  · intro w' hSw
    obtain ⟨s0, s1, s2, s3, s4, s5, _⟩ := hSw
    go_simp
    try with_reducible rfl
  try simp only [Act.put, List.setIfInBounds_toArray, List.set_cons_zero, List.set_cons_succ]
  refine wpAnyH_take (i := 23) (v := ?_) (by simp only [List.getElem?_toArray, List.getElem?_cons_zero, List.getElem?_cons_succ]; exact rfl) (by kernel_rfl) (by kernel_rfl) (by kernel_rfl) (by exact fun _ _ _ h => h) (Or.inl ⟨by rfl, ?_⟩) hHeld ?_
  rotate_left
  · intro w' hSw
    obtain ⟨s0, s1, s2, s3, s4, s5, _⟩ := hSw
    go_simp
    try with_reducible rfl
  try simp only [Act.put, List.setIfInBounds_toArray, List.set_cons_zero, List.set_cons_succ]
  refine flow_go (Inv := fun listed ac W => ∃ v4 v12 v13 v16 v17 v20 v21 v24 v25 v31 v34 v35 v36 v37 v38 : Value, ac = { tmps := #[.agg #[.int .i64 x.f, .int .i64 x.t, .int .i64 x.s, .int .i64 x.a, .int .i64 x.g, .int .i64 x.w, .int .i64 x.m, .slice a len cap], .int .i64 4, .pointer (some ⟨w.heap.size, 0, none⟩), _, v4, .int .i64 96, _, _, _, _, .pointer (some ⟨w.heap.size, 0, none⟩), .int .i64 x.f, v12, v13, .pointer (some ⟨w.heap.size, 1, none⟩), .int .i64 x.t, v16, v17, .pointer (some ⟨w.heap.size, 2, none⟩), .int .i64 x.s, v20, v21, .pointer (some ⟨w.heap.size, 3, none⟩), .int .i64 x.a, v24, v25, .int .i64 96, .int .u8 96, .pointer (some ⟨w.heap.size, 4, none⟩), .int .i64 x.g, .int .u8 x.g, v31, .pointer (some ⟨w.heap.size, 5, none⟩), .int .i64 x.w, v34, v35, v36, v37, v38], defers := [] } ∧ Hid (Below W0.heap.size W0 W) ∧ Fl listed 2 (BrV W n0 v12 2 (be x.f 2)) ∧ Fl listed 3 (SlV W n0 v13 2 (be x.f 2)) ∧ Fl listed 6 (BrV W n0 v16 2 (be x.t 2)) ∧ Fl listed 7 (SlV W n0 v17 2 (be x.t 2)) ∧ Fl listed 10 (BrV W n0 v20 4 (be x.s 4)) ∧ Fl listed 11 (SlV W n0 v21 4 (be x.s 4)) ∧ Fl listed 14 (BrV W n0 v24 4 (be x.a 4)) ∧ Fl listed 15 (SlV W n0 v25 4 (be x.a 4)) ∧ Fl listed 21 (SlV W n0 v31 2 [96, x.g]) ∧ Fl listed 24 (BrV W n0 v34 2 (be x.w 2)) ∧ Fl listed 25 (SlV W n0 v35 2 (be x.w 2)) ∧ Fl listed 26 (SlV W n0 v36 4 [0, 0, 0, 0]) ∧ Fl listed 27 (CatV W v37 7 L) ∧ Fl listed 28 (AnyV W n0 v38 L) ∧ Fl listed 29 (AnyV W n0 v4 L)) [2, 3, 6, 7, 10, 11, 14, 15, 21, 24, 25, 26, 27, 28, 29] (by kernel_rfl) (by kernel_rfl) ⟨_, _, _, _, _, _, _, _, _, _, _, _, _, _, _, rfl, TD, Fl.not (by kernel_rfl), Fl.not (by kernel_rfl), Fl.not (by kernel_rfl), Fl.not (by kernel_rfl), Fl.not (by kernel_rfl), Fl.not (by kernel_rfl), Fl.not (by kernel_rfl), Fl.not (by kernel_rfl), Fl.not (by kernel_rfl), Fl.not (by kernel_rfl), Fl.not (by kernel_rfl), Fl.not (by kernel_rfl), Fl.not (by kernel_rfl), Fl.not (by kernel_rfl), Fl.not (by kernel_rfl)⟩
    (FlowAll.cons [] (by simp only [List.getElem?_toArray, List.getElem?_cons_zero, List.getElem?_cons_succ]; exact rfl) (by kernel_rfl) (fun listed ac W hI hu hd K hK => ?_)
      (FlowAll.cons [2] (by simp only [List.getElem?_toArray, List.getElem?_cons_zero, List.getElem?_cons_succ]; exact rfl) (by kernel_rfl) (fun listed ac W hI hu hd K hK => ?_)
      (FlowAll.cons [] (by simp only [List.getElem?_toArray, List.getElem?_cons_zero, List.getElem?_cons_succ]; exact rfl) (by kernel_rfl) (fun listed ac W hI hu hd K hK => ?_)
      (FlowAll.cons [6] (by simp only [List.getElem?_toArray, List.getElem?_cons_zero, List.getElem?_cons_succ]; exact rfl) (by kernel_rfl) (fun listed ac W hI hu hd K hK => ?_)
      (FlowAll.cons [] (by simp only [List.getElem?_toArray, List.getElem?_cons_zero, List.getElem?_cons_succ]; exact rfl) (by kernel_rfl) (fun listed ac W hI hu hd K hK => ?_)
      (FlowAll.cons [10] (by simp only [List.getElem?_toArray, List.getElem?_cons_zero, List.getElem?_cons_succ]; exact rfl) (by kernel_rfl) (fun listed ac W hI hu hd K hK => ?_)
      (FlowAll.cons [] (by simp only [List.getElem?_toArray, List.getElem?_cons_zero, List.getElem?_cons_succ]; exact rfl) (by kernel_rfl) (fun listed ac W hI hu hd K hK => ?_)
      (FlowAll.cons [14] (by simp only [List.getElem?_toArray, List.getElem?_cons_zero, List.getElem?_cons_succ]; exact rfl) (by kernel_rfl) (fun listed ac W hI hu hd K hK => ?_)
      (FlowAll.cons [] (by simp only [List.getElem?_toArray, List.getElem?_cons_zero, List.getElem?_cons_succ]; exact rfl) (by kernel_rfl) (fun listed ac W hI hu hd K hK => ?_)
      (FlowAll.cons [] (by simp only [List.getElem?_toArray, List.getElem?_cons_zero, List.getElem?_cons_succ]; exact rfl) (by kernel_rfl) (fun listed ac W hI hu hd K hK => ?_)
      (FlowAll.cons [24] (by simp only [List.getElem?_toArray, List.getElem?_cons_zero, List.getElem?_cons_succ]; exact rfl) (by kernel_rfl) (fun listed ac W hI hu hd K hK => ?_)
      (FlowAll.cons [] (by simp only [List.getElem?_toArray, List.getElem?_cons_zero, List.getElem?_cons_succ]; exact rfl) (by kernel_rfl) (fun listed ac W hI hu hd K hK => ?_)
      (FlowAll.cons [3, 7, 11, 15, 21, 25, 26] (by simp only [List.getElem?_toArray, List.getElem?_cons_zero, List.getElem?_cons_succ]; exact rfl) (by kernel_rfl) (fun listed ac W hI hu hd K hK => ?_)
      (FlowAll.cons [27] (by simp only [List.getElem?_toArray, List.getElem?_cons_zero, List.getElem?_cons_succ]; exact rfl) (by kernel_rfl) (fun listed ac W hI hu hd K hK => ?_)
      (FlowAll.cons [28] (by simp only [List.getElem?_toArray, List.getElem?_cons_zero, List.getElem?_cons_succ]; exact rfl) (by kernel_rfl) (fun listed ac W hI hu hd K hK => ?_)
      FlowAll.nil)))))))))))))))
    (fun listed ac W hI hall => ?_)
  · obtain ⟨v4, v12, v13, v16, v17, v20, v21, v24, v25, v31, v34, v35, v36, v37, v38, rfl, TB, f2, f3, f6, f7, f10, f11, f14, f15, f21, f24, f25, f26, f27, f28, f29⟩ := hI
    have hnW : n0 ≤ W.heap.size := Nat.le_trans hn0 (kSize TB)
    refine want_none (by exact rfl) ?_
    go_wp2_with fail
    refine (K0.out _).mono ?_
    intro e w' hp
    obtain ⟨v, rfl, hv, hb0⟩ := BrV.of_packed hp (be_len 2 _) hnW
    go_wp2_with fail
    have hb : Below W.heap.size W _ := hb0
    have TB' := kCall hb (kSize TB) TB
    refine hK.out _ _ (SS.out _ TB') ?_
    exact ⟨_, _, _, _, _, _, _, _, _, _, _, _, _, _, _, rfl, TB', Fl.new (hv), f3.keep (by decide) (SlV.below hb), f6.keep (by decide) (BrV.below hb), f7.keep (by decide) (SlV.below hb), f10.keep (by decide) (BrV.below hb), f11.keep (by decide) (SlV.below hb), f14.keep (by decide) (BrV.below hb), f15.keep (by decide) (SlV.below hb), f21.keep (by decide) (SlV.below hb), f24.keep (by decide) (BrV.below hb), f25.keep (by decide) (SlV.below hb), f26.keep (by decide) (SlV.below hb), f27.keep (by decide) (CatV.below hb), f28.keep (by decide) (AnyV.below hb), f29.keep (by decide) (AnyV.below hb)⟩
  · obtain ⟨v4, v12, v13, v16, v17, v20, v21, v24, v25, v31, v34, v35, v36, v37, v38, rfl, TB, f2, f3, f6, f7, f10, f11, f14, f15, f21, f24, f25, f26, f27, f28, f29⟩ := hI
    have hnW : n0 ≤ W.heap.size := Nat.le_trans hn0 (kSize TB)
    obtain ⟨a12, c12, rfl, o12⟩ := f2.get (hd 2 (by simp))
    refine want_none (by exact rfl) ?_
    go_wp2_with fail
    refine hK.out _ _ (SS.out _ TB) ?_
    exact ⟨_, _, _, _, _, _, _, _, _, _, _, _, _, _, _, rfl, TB, f2.keep (by decide) id, Fl.new (⟨_, _, rfl, o12⟩), f6.keep (by decide) id, f7.keep (by decide) id, f10.keep (by decide) id, f11.keep (by decide) id, f14.keep (by decide) id, f15.keep (by decide) id, f21.keep (by decide) id, f24.keep (by decide) id, f25.keep (by decide) id, f26.keep (by decide) id, f27.keep (by decide) id, f28.keep (by decide) id, f29.keep (by decide) id⟩
  · obtain ⟨v4, v12, v13, v16, v17, v20, v21, v24, v25, v31, v34, v35, v36, v37, v38, rfl, TB, f2, f3, f6, f7, f10, f11, f14, f15, f21, f24, f25, f26, f27, f28, f29⟩ := hI
    have hnW : n0 ≤ W.heap.size := Nat.le_trans hn0 (kSize TB)
    refine want_none (by exact rfl) ?_
    go_wp2_with fail
    refine (K1.out _).mono ?_
    intro e w' hp
    obtain ⟨v, rfl, hv, hb0⟩ := BrV.of_packed hp (be_len 2 _) hnW
    go_wp2_with fail
    have hb : Below W.heap.size W _ := hb0
    have TB' := kCall hb (kSize TB) TB
    refine hK.out _ _ (SS.out _ TB') ?_
    exact ⟨_, _, _, _, _, _, _, _, _, _, _, _, _, _, _, rfl, TB', f2.keep (by decide) (BrV.below hb), f3.keep (by decide) (SlV.below hb), Fl.new (hv), f7.keep (by decide) (SlV.below hb), f10.keep (by decide) (BrV.below hb), f11.keep (by decide) (SlV.below hb), f14.keep (by decide) (BrV.below hb), f15.keep (by decide) (SlV.below hb), f21.keep (by decide) (SlV.below hb), f24.keep (by decide) (BrV.below hb), f25.keep (by decide) (SlV.below hb), f26.keep (by decide) (SlV.below hb), f27.keep (by decide) (CatV.below hb), f28.keep (by decide) (AnyV.below hb), f29.keep (by decide) (AnyV.below hb)⟩
  · obtain ⟨v4, v12, v13, v16, v17, v20, v21, v24, v25, v31, v34, v35, v36, v37, v38, rfl, TB, f2, f3, f6, f7, f10, f11, f14, f15, f21, f24, f25, f26, f27, f28, f29⟩ := hI
    have hnW : n0 ≤ W.heap.size := Nat.le_trans hn0 (kSize TB)
    obtain ⟨a16, c16, rfl, o16⟩ := f6.get (hd 6 (by simp))
    refine want_none (by exact rfl) ?_
    go_wp2_with fail
    refine hK.out _ _ (SS.out _ TB) ?_
    exact ⟨_, _, _, _, _, _, _, _, _, _, _, _, _, _, _, rfl, TB, f2.keep (by decide) id, f3.keep (by decide) id, f6.keep (by decide) id, Fl.new (⟨_, _, rfl, o16⟩), f10.keep (by decide) id, f11.keep (by decide) id, f14.keep (by decide) id, f15.keep (by decide) id, f21.keep (by decide) id, f24.keep (by decide) id, f25.keep (by decide) id, f26.keep (by decide) id, f27.keep (by decide) id, f28.keep (by decide) id, f29.keep (by decide) id⟩
  · obtain ⟨v4, v12, v13, v16, v17, v20, v21, v24, v25, v31, v34, v35, v36, v37, v38, rfl, TB, f2, f3, f6, f7, f10, f11, f14, f15, f21, f24, f25, f26, f27, f28, f29⟩ := hI
    have hnW : n0 ≤ W.heap.size := Nat.le_trans hn0 (kSize TB)
    refine want_none (by exact rfl) ?_
    go_wp2_with fail
    refine (K2.out _).mono ?_
    intro e w' hp
    obtain ⟨v, rfl, hv, hb0⟩ := BrV.of_packed hp (be_len 4 _) hnW
    go_wp2_with fail
    have hb : Below W.heap.size W _ := hb0
    have TB' := kCall hb (kSize TB) TB
    refine hK.out _ _ (SS.out _ TB') ?_
    exact ⟨_, _, _, _, _, _, _, _, _, _, _, _, _, _, _, rfl, TB', f2.keep (by decide) (BrV.below hb), f3.keep (by decide) (SlV.below hb), f6.keep (by decide) (BrV.below hb), f7.keep (by decide) (SlV.below hb), Fl.new (hv), f11.keep (by decide) (SlV.below hb), f14.keep (by decide) (BrV.below hb), f15.keep (by decide) (SlV.below hb), f21.keep (by decide) (SlV.below hb), f24.keep (by decide) (BrV.below hb), f25.keep (by decide) (SlV.below hb), f26.keep (by decide) (SlV.below hb), f27.keep (by decide) (CatV.below hb), f28.keep (by decide) (AnyV.below hb), f29.keep (by decide) (AnyV.below hb)⟩
  · obtain ⟨v4, v12, v13, v16, v17, v20, v21, v24, v25, v31, v34, v35, v36, v37, v38, rfl, TB, f2, f3, f6, f7, f10, f11, f14, f15, f21, f24, f25, f26, f27, f28, f29⟩ := hI
    have hnW : n0 ≤ W.heap.size := Nat.le_trans hn0 (kSize TB)
    obtain ⟨a20, c20, rfl, o20⟩ := f10.get (hd 10 (by simp))
    refine want_none (by exact rfl) ?_
    go_wp2_with fail
    refine hK.out _ _ (SS.out _ TB) ?_
    exact ⟨_, _, _, _, _, _, _, _, _, _, _, _, _, _, _, rfl, TB, f2.keep (by decide) id, f3.keep (by decide) id, f6.keep (by decide) id, f7.keep (by decide) id, f10.keep (by decide) id, Fl.new (⟨_, _, rfl, o20⟩), f14.keep (by decide) id, f15.keep (by decide) id, f21.keep (by decide) id, f24.keep (by decide) id, f25.keep (by decide) id, f26.keep (by decide) id, f27.keep (by decide) id, f28.keep (by decide) id, f29.keep (by decide) id⟩
  · obtain ⟨v4, v12, v13, v16, v17, v20, v21, v24, v25, v31, v34, v35, v36, v37, v38, rfl, TB, f2, f3, f6, f7, f10, f11, f14, f15, f21, f24, f25, f26, f27, f28, f29⟩ := hI
    have hnW : n0 ≤ W.heap.size := Nat.le_trans hn0 (kSize TB)
    refine want_none (by exact rfl) ?_
    go_wp2_with fail
    refine (K3.out _).mono ?_
    intro e w' hp
    obtain ⟨v, rfl, hv, hb0⟩ := BrV.of_packed hp (be_len 4 _) hnW
    go_wp2_with fail
    have hb : Below W.heap.size W _ := hb0
    have TB' := kCall hb (kSize TB) TB
    refine hK.out _ _ (SS.out _ TB') ?_
    exact ⟨_, _, _, _, _, _, _, _, _, _, _, _, _, _, _, rfl, TB', f2.keep (by decide) (BrV.below hb), f3.keep (by decide) (SlV.below hb), f6.keep (by decide) (BrV.below hb), f7.keep (by decide) (SlV.below hb), f10.keep (by decide) (BrV.below hb), f11.keep (by decide) (SlV.below hb), Fl.new (hv), f15.keep (by decide) (SlV.below hb), f21.keep (by decide) (SlV.below hb), f24.keep (by decide) (BrV.below hb), f25.keep (by decide) (SlV.below hb), f26.keep (by decide) (SlV.below hb), f27.keep (by decide) (CatV.below hb), f28.keep (by decide) (AnyV.below hb), f29.keep (by decide) (AnyV.below hb)⟩
  · obtain ⟨v4, v12, v13, v16, v17, v20, v21, v24, v25, v31, v34, v35, v36, v37, v38, rfl, TB, f2, f3, f6, f7, f10, f11, f14, f15, f21, f24, f25, f26, f27, f28, f29⟩ := hI
    have hnW : n0 ≤ W.heap.size := Nat.le_trans hn0 (kSize TB)
    obtain ⟨a24, c24, rfl, o24⟩ := f14.get (hd 14 (by simp))
    refine want_none (by exact rfl) ?_
    go_wp2_with fail
    refine hK.out _ _ (SS.out _ TB) ?_
    exact ⟨_, _, _, _, _, _, _, _, _, _, _, _, _, _, _, rfl, TB, f2.keep (by decide) id, f3.keep (by decide) id, f6.keep (by decide) id, f7.keep (by decide) id, f10.keep (by decide) id, f11.keep (by decide) id, f14.keep (by decide) id, Fl.new (⟨_, _, rfl, o24⟩), f21.keep (by decide) id, f24.keep (by decide) id, f25.keep (by decide) id, f26.keep (by decide) id, f27.keep (by decide) id, f28.keep (by decide) id, f29.keep (by decide) id⟩
  · obtain ⟨v4, v12, v13, v16, v17, v20, v21, v24, v25, v31, v34, v35, v36, v37, v38, rfl, TB, f2, f3, f6, f7, f10, f11, f14, f15, f21, f24, f25, f26, f27, f28, f29⟩ := hI
    have hnW : n0 ≤ W.heap.size := Nat.le_trans hn0 (kSize TB)
    refine want_none (by exact rfl) ?_
    go_wp2_with fail
    have hb : Below W.heap.size W _ := bAlloc W (.cells #[.int .u8 96, .int .u8 x.g] 5)
    have TB' := kCall hb (kSize TB) TB
    refine hK.out _ _ (SS.out _ TB') ?_
    exact ⟨_, _, _, _, _, _, _, _, _, _, _, _, _, _, _, rfl, TB', f2.keep (by decide) (BrV.below hb), f3.keep (by decide) (SlV.below hb), f6.keep (by decide) (BrV.below hb), f7.keep (by decide) (SlV.below hb), f10.keep (by decide) (BrV.below hb), f11.keep (by decide) (SlV.below hb), f14.keep (by decide) (BrV.below hb), f15.keep (by decide) (SlV.below hb), Fl.new (SlV.lit hnW 2 rfl (by intro n hn; simp at hn; omega) (by unfold maxLen; omega) _ rfl), f24.keep (by decide) (BrV.below hb), f25.keep (by decide) (SlV.below hb), f26.keep (by decide) (SlV.below hb), f27.keep (by decide) (CatV.below hb), f28.keep (by decide) (AnyV.below hb), f29.keep (by decide) (AnyV.below hb)⟩
  · obtain ⟨v4, v12, v13, v16, v17, v20, v21, v24, v25, v31, v34, v35, v36, v37, v38, rfl, TB, f2, f3, f6, f7, f10, f11, f14, f15, f21, f24, f25, f26, f27, f28, f29⟩ := hI
    have hnW : n0 ≤ W.heap.size := Nat.le_trans hn0 (kSize TB)
    refine want_none (by exact rfl) ?_
    go_wp2_with fail
    refine (K4.out _).mono ?_
    intro e w' hp
    obtain ⟨v, rfl, hv, hb0⟩ := BrV.of_packed hp (be_len 2 _) hnW
    go_wp2_with fail
    have hb : Below W.heap.size W _ := hb0
    have TB' := kCall hb (kSize TB) TB
    refine hK.out _ _ (SS.out _ TB') ?_
    exact ⟨_, _, _, _, _, _, _, _, _, _, _, _, _, _, _, rfl, TB', f2.keep (by decide) (BrV.below hb), f3.keep (by decide) (SlV.below hb), f6.keep (by decide) (BrV.below hb), f7.keep (by decide) (SlV.below hb), f10.keep (by decide) (BrV.below hb), f11.keep (by decide) (SlV.below hb), f14.keep (by decide) (BrV.below hb), f15.keep (by decide) (SlV.below hb), f21.keep (by decide) (SlV.below hb), Fl.new (hv), f25.keep (by decide) (SlV.below hb), f26.keep (by decide) (SlV.below hb), f27.keep (by decide) (CatV.below hb), f28.keep (by decide) (AnyV.below hb), f29.keep (by decide) (AnyV.below hb)⟩
  · obtain ⟨v4, v12, v13, v16, v17, v20, v21, v24, v25, v31, v34, v35, v36, v37, v38, rfl, TB, f2, f3, f6, f7, f10, f11, f14, f15, f21, f24, f25, f26, f27, f28, f29⟩ := hI
    have hnW : n0 ≤ W.heap.size := Nat.le_trans hn0 (kSize TB)
    obtain ⟨a34, c34, rfl, o34⟩ := f24.get (hd 24 (by simp))
    refine want_none (by exact rfl) ?_
    go_wp2_with fail
    refine hK.out _ _ (SS.out _ TB) ?_
    exact ⟨_, _, _, _, _, _, _, _, _, _, _, _, _, _, _, rfl, TB, f2.keep (by decide) id, f3.keep (by decide) id, f6.keep (by decide) id, f7.keep (by decide) id, f10.keep (by decide) id, f11.keep (by decide) id, f14.keep (by decide) id, f15.keep (by decide) id, f21.keep (by decide) id, f24.keep (by decide) id, Fl.new (⟨_, _, rfl, o34⟩), f26.keep (by decide) id, f27.keep (by decide) id, f28.keep (by decide) id, f29.keep (by decide) id⟩
  · obtain ⟨v4, v12, v13, v16, v17, v20, v21, v24, v25, v31, v34, v35, v36, v37, v38, rfl, TB, f2, f3, f6, f7, f10, f11, f14, f15, f21, f24, f25, f26, f27, f28, f29⟩ := hI
    have hnW : n0 ≤ W.heap.size := Nat.le_trans hn0 (kSize TB)
    refine want_none (by exact rfl) ?_
    go_wp2_with fail
    have hb : Below W.heap.size W _ := bAlloc W (.cells #[.int .u8 0, .int .u8 0, .int .u8 0, .int .u8 0] 5)
    have TB' := kCall hb (kSize TB) TB
    refine hK.out _ _ (SS.out _ TB') ?_
    exact ⟨_, _, _, _, _, _, _, _, _, _, _, _, _, _, _, rfl, TB', f2.keep (by decide) (BrV.below hb), f3.keep (by decide) (SlV.below hb), f6.keep (by decide) (BrV.below hb), f7.keep (by decide) (SlV.below hb), f10.keep (by decide) (BrV.below hb), f11.keep (by decide) (SlV.below hb), f14.keep (by decide) (BrV.below hb), f15.keep (by decide) (SlV.below hb), f21.keep (by decide) (SlV.below hb), f24.keep (by decide) (BrV.below hb), f25.keep (by decide) (SlV.below hb), Fl.new (SlV.lit hnW 4 rfl (by intro n hn; simp at hn; omega) (by unfold maxLen; omega) _ rfl), f27.keep (by decide) (CatV.below hb), f28.keep (by decide) (AnyV.below hb), f29.keep (by decide) (AnyV.below hb)⟩
  · obtain ⟨v4, v12, v13, v16, v17, v20, v21, v24, v25, v31, v34, v35, v36, v37, v38, rfl, TB, f2, f3, f6, f7, f10, f11, f14, f15, f21, f24, f25, f26, f27, f28, f29⟩ := hI
    have hnW : n0 ≤ W.heap.size := Nat.le_trans hn0 (kSize TB)
    obtain ⟨a13, c13, rfl, o13⟩ := f3.get (hd 3 (by simp))
    obtain ⟨a17, c17, rfl, o17⟩ := f7.get (hd 7 (by simp))
    obtain ⟨a21, c21, rfl, o21⟩ := f11.get (hd 11 (by simp))
    obtain ⟨a25, c25, rfl, o25⟩ := f15.get (hd 15 (by simp))
    obtain ⟨a31, c31, rfl, o31⟩ := f21.get (hd 21 (by simp))
    obtain ⟨a35, c35, rfl, o35⟩ := f25.get (hd 25 (by simp))
    obtain ⟨a36, c36, rfl, o36⟩ := f26.get (hd 26 (by simp))
    refine want_none (by exact rfl) ?_
    go_wp2_with fail
    have hb : Below W.heap.size W _ := bAlloc W (.cells #[.slice a13 2 c13, .slice a17 2 c17, .slice a21 4 c21, .slice a25 4 c25, .slice a31 2 c31, .slice a35 2 c35, .slice a36 4 c36] 22)
    have TB' := kCall hb (kSize TB) TB
    refine hK.out _ _ (SS.out _ TB') ?_
    exact ⟨_, _, _, _, _, _, _, _, _, _, _, _, _, _, _, rfl, TB', f2.keep (by decide) (BrV.below hb), f3.keep (by decide) (SlV.below hb), f6.keep (by decide) (BrV.below hb), f7.keep (by decide) (SlV.below hb), f10.keep (by decide) (BrV.below hb), f11.keep (by decide) (SlV.below hb), f14.keep (by decide) (BrV.below hb), f15.keep (by decide) (SlV.below hb), f21.keep (by decide) (SlV.below hb), f24.keep (by decide) (BrV.below hb), f25.keep (by decide) (SlV.below hb), f26.keep (by decide) (SlV.below hb), Fl.new (⟨_, [⟨a13, 2, c13, be x.f 2⟩, ⟨a17, 2, c17, be x.t 2⟩, ⟨a21, 4, c21, be x.s 4⟩, ⟨a25, 4, c25, be x.a 4⟩, ⟨a31, 2, c31, [96, x.g]⟩, ⟨a35, 2, c35, be x.w 2⟩, ⟨a36, 4, c36, [0, 0, 0, 0]⟩], rfl, rfl, sls_box (Box.new _ _ _) (by intro s hs; simp only [List.mem_cons, List.not_mem_nil, or_false] at hs; rcases hs with rfl | rfl | rfl | rfl | rfl | rfl | rfl; exact o13.rd.below hb; exact o17.rd.below hb; exact o21.rd.below hb; exact o25.rd.below hb; exact o31.rd.below hb; exact o35.rd.below hb; exact o36.rd.below hb), by rw [HL.out]; simp [catZ], by simp only [sumN]; omega⟩), f28.keep (by decide) (AnyV.below hb), f29.keep (by decide) (AnyV.below hb)⟩
  · obtain ⟨v4, v12, v13, v16, v17, v20, v21, v24, v25, v31, v34, v35, v36, v37, v38, rfl, TB, f2, f3, f6, f7, f10, f11, f14, f15, f21, f24, f25, f26, f27, f28, f29⟩ := hI
    have hnW : n0 ≤ W.heap.size := Nat.le_trans hn0 (kSize TB)
    obtain ⟨g, ss, rfl, hs, hS, hZ, hT⟩ := f27.get (hd 27 (by simp))
    refine want_none (by exact rfl) ?_
    go_wp2_with fail
    refine (catV_call hs hS hZ hT).mono ?_
    rintro e w' ⟨a', l', c', rfl, o', hb0⟩
    go_wp2_with fail
    have hb : Below W.heap.size W _ := hb0
    have TB' := kCall hb (kSize TB) TB
    refine hK.out _ _ (SS.out _ TB') ?_
    exact ⟨_, _, _, _, _, _, _, _, _, _, _, _, _, _, _, rfl, TB', f2.keep (by decide) (BrV.below hb), f3.keep (by decide) (SlV.below hb), f6.keep (by decide) (BrV.below hb), f7.keep (by decide) (SlV.below hb), f10.keep (by decide) (BrV.below hb), f11.keep (by decide) (SlV.below hb), f14.keep (by decide) (BrV.below hb), f15.keep (by decide) (SlV.below hb), f21.keep (by decide) (SlV.below hb), f24.keep (by decide) (BrV.below hb), f25.keep (by decide) (SlV.below hb), f26.keep (by decide) (SlV.below hb), f27.keep (by decide) (CatV.below hb), Fl.new (⟨_, _, _, rfl, o'.rebase hnW⟩), f29.keep (by decide) (AnyV.below hb)⟩
  · obtain ⟨v4, v12, v13, v16, v17, v20, v21, v24, v25, v31, v34, v35, v36, v37, v38, rfl, TB, f2, f3, f6, f7, f10, f11, f14, f15, f21, f24, f25, f26, f27, f28, f29⟩ := hI
    have hnW : n0 ≤ W.heap.size := Nat.le_trans hn0 (kSize TB)
    obtain ⟨a38, l38, c38, rfl, o38⟩ := f28.get (hd 28 (by simp))
    refine want_none (by exact rfl) ?_
    go_wp2_with fail
    refine hK.out _ _ (SS.out _ TB) ?_
    exact ⟨_, _, _, _, _, _, _, _, _, _, _, _, _, _, _, rfl, TB, f2.keep (by decide) id, f3.keep (by decide) id, f6.keep (by decide) id, f7.keep (by decide) id, f10.keep (by decide) id, f11.keep (by decide) id, f14.keep (by decide) id, f15.keep (by decide) id, f21.keep (by decide) id, f24.keep (by decide) id, f25.keep (by decide) id, f26.keep (by decide) id, f27.keep (by decide) id, f28.keep (by decide) id, Fl.new (⟨_, _, _, rfl, o38⟩)⟩
  · obtain ⟨v4, v12, v13, v16, v17, v20, v21, v24, v25, v31, v34, v35, v36, v37, v38, rfl, TB, f2, f3, f6, f7, f10, f11, f14, f15, f21, f24, f25, f26, f27, f28, f29⟩ := hI
    have hnW : n0 ≤ W.heap.size := Nat.le_trans hn0 (kSize TB)
    obtain ⟨a2, l2, c2, rfl, o2⟩ := f29.get (hall 29 (by decide))
    have O2 := Lib.hid (show Own W w.heap.size a2 l2 c2 L by rw [← hnn.out]; exact o2)
    have B2 := Lib.hid (B0.out.trans (TB.out.mono B0.out.size))
    clear o2 f2 f3 f6 f7 f10 f11 f14 f15 f21 f24 f25 f26 f27 f28 f29 TB hall
    go_wp2
    go_ret
    exact ⟨a2, l2, c2, rfl, O2.out, B2.out⟩

theorem segHead_any (x : Sg) (a : Option Addr) (len cap n : Nat) (w : World) (hn : sgN x = true) (hl : n = (sgO x.m).length) :
    Calls Try.prog 56 #[.agg #[.int .i64 x.f, .int .i64 x.t, .int .i64 x.s, .int .i64 x.a, .int .i64 x.g, .int .i64 x.w, .int .i64 x.m, .slice a len cap], .int .i64 n] w (FreshA w (sgHd (sgT x.m) x)) := by
  rw [sgO_len] at hl
  unfold sgT
  by_cases hm : x.m = 0
  · rw [if_pos hm] at hl ⊢
    subst hl
    exact segHead_0 x a len cap w hn
  · rw [if_neg hm] at hl ⊢
    subst hl
    exact segHead_4 x a len cap w hn
theorem sgH_cut (x : Sg) (zs : List Int) : sgH x zs = sgHd (sgT x.m) x ++ sgO x.m ++ zs := rfl
theorem sgL_splice (f t : Int) (x : Sg) (zs : List Int) (v : Int) (hv : v = dgSum f t 6 (sgH x zs)) (hb : 0 ≤ v ∧ v ≤ 65535) : sgL f t x zs = splice (sgH x zs) 16 (be v 2) := by
  rw [be2 v hb, hv]
  exact set2_splice 16 _ _ _ (by rw [sgH_len]; omega)
set_option maxRecDepth 20000 in
set_option maxHeartbeats 8000000 in
theorem implPackSegment (f t : Int) (x : Sg) (a : Option Addr) (len cap : Nat) (zs : List Int) (w : World) (hr : Rd w a len cap zs) :
    Calls Try.prog 14 #[.int .i64 f, .int .i64 t, .agg #[.int .i64 x.f, .int .i64 x.t, .int .i64 x.s, .int .i64 x.a, .int .i64 x.g, .int .i64 x.w, .int .i64 x.m, .slice a len cap]] w (Packed w (psC f t x zs.length) (psP f t x zs)) := by
  obtain ⟨q, hq⟩ : ∃ q, q = (inB f 0 4294967295 && inB t 0 4294967295) := ⟨_, rfl⟩
  obtain ⟨c, hc⟩ : ∃ c, c = sgC x len := ⟨_, rfl⟩
  obtain ⟨C, hC⟩ : ∃ C, C = psC f t x zs.length := ⟨_, rfl⟩
  obtain ⟨L, hL⟩ : ∃ L, L = psP f t x zs := ⟨_, rfl⟩
  rw [← hC, ← hL]
  have hCq : psC f t x zs.length = if q then c else 3 := by rw [psC, hq, hc, hr.length]; rfl
  have H3 : Hid (q = false → C = 3 ∧ L = []) := fun h => by
    rw [h] at hCq
    refine ⟨by rw [hC, hCq]; rfl, ?_⟩
    rw [hL, psP, if_neg (by rw [hCq]; simp)]
  have H2 : Hid (q = true → c ≠ 0 → C = c ∧ L = []) := fun h h' => by
    rw [h] at hCq
    refine ⟨by rw [hC, hCq]; rfl, ?_⟩
    rw [hL, psP, if_neg (by rw [hCq]; simpa using h')]
  have H1 : Hid (q = true → c = 0 → C = 0 ∧ L = sgL f t x zs) := fun h h' => by
    rw [h, h'] at hCq
    refine ⟨by rw [hC, hCq]; rfl, ?_⟩
    rw [hL, psP, if_pos (by rw [hCq]; rfl)]
  have HP : Hid (q = true → ∀ m : Nat, m ≤ 560 → phB f t 6 m = true) := fun h m hm => by
    unfold phB ipB
    rw [← hq, h, in_t (show (0 : Int) ≤ 6 ∧ (6 : Int) ≤ 255 by omega), in_t (show (0 : Int) ≤ (m : Int) ∧ (m : Int) ≤ 65535 by omega)]
    rfl
  have HD : Hid (c = 0 → sgN x = true ∧ len ≤ 520) := fun h => by
    have := sgC_parts (hc ▸ h)
    exact ⟨this.1, this.2.2.2⟩
  have HQ := Lib.hid hq
  have KF := Lib.hid (fun W => implSegmentFault x a len cap W)
  rw [← hc] at KF
  have HR0 := Lib.hid hr
  have B0 := Lib.hid (((Below.refl w.heap.size w).alloc (Nat.le_refl _) (.cells #[.int .i64 x.f, .int .i64 x.t, .int .i64 x.s, .int .i64 x.a, .int .i64 x.g, .int .i64 x.w, .int .i64 x.m, .slice a len cap] 25)).alloc (by simp) (.cells #[.int .i64 0, .slice none 0 0] 29))
  have X0 := Lib.hid ((Box.new w 25 #[.int .i64 x.f, .int .i64 x.t, .int .i64 x.s, .int .i64 x.a, .int .i64 x.g, .int .i64 x.w, .int .i64 x.m, .slice a len cap]).alloc (.cells #[.int .i64 0, .slice none 0 0] 29))
  have R0 := Lib.hid (Box.new (w.alloc (.cells #[.int .i64 x.f, .int .i64 x.t, .int .i64 x.s, .int .i64 x.a, .int .i64 x.g, .int .i64 x.w, .int .i64 x.m, .slice a len cap] 25)) 29 #[.int .i64 0, .slice none 0 0])
  simp only [World.size_alloc] at R0
  clear hq hc hC hL hCq hr
  go_enter Try.func14, Try.ntmps14
  go_wp2_with fail
  refine (ipBound_any f _).mono ?_
  rintro e w1 ⟨rfl, b1⟩
  have R1 := Lib.hid (R0.out.below b1 R0.out.lt)
  have X1 := Lib.hid (X0.out.below b1 X0.out.lt)
  have B1 := Lib.hid (B0.out.trans (b1.mono B0.out.size))
  clear b1 R0 X0 B0
  go_wp2_with fail
  refine (ipBound_any t _).mono ?_
  rintro e w2 ⟨rfl, b2⟩
  have R2 := Lib.hid (R1.out.below b2 R1.out.lt)
  have X2 := Lib.hid (X1.out.below b2 X1.out.lt)
  have B2 := Lib.hid (B1.out.trans (b2.mono B1.out.size))
  clear b2 R1 X1 B1
  go_wp2_with fail
  refine (within2 _ _ _ _ _ _ _ _ _ (Box.new _ _ _)).mono ?_
  rintro e w3 ⟨rfl, b3⟩
  have R3 := Lib.hid ((R2.out.alloc _).below b3 (R2.out.alloc _).lt)
  have X3 := Lib.hid ((X2.out.alloc _).below b3 (X2.out.alloc _).lt)
  have B3 := Lib.hid ((B2.out.alloc B2.out.size _).trans (b3.mono (B2.out.alloc B2.out.size _).size))
  clear b3 R2 X2 B2
  rw [← HQ.out]
  cases q
  · obtain ⟨rfl, rfl⟩ := H3.out rfl
    obtain ⟨_, r0, r1⟩ := R3.out.two
    have f0 := R3.out.frozen 0
    have f1 := R3.out.frozen 1
    go_wp2
    exact bodyPost_ret (v := .agg #[.int .i64 3, .slice none 0 0]) (by simp [results, Try.results14, go_sem, r0, r1]) rfl ⟨none, 0, 0, rfl, Own.nil _ _, (B3.out.setCell (by simp) _).setCell (by simp) _⟩
  obtain ⟨_, x0, x1, x2, x3, x4, x5, x6, x7⟩ := X3.out.eight
  go_wp2_with fail
  refine (KF.out _).mono ?_
  rintro e w4 ⟨rfl, b4⟩
  have R4 := Lib.hid (R3.out.below b4 R3.out.lt)
  have X4 := Lib.hid (X3.out.below b4 X3.out.lt)
  have B4 := Lib.hid (B3.out.trans (b4.mono B3.out.size))
  clear b4 R3 X3 B3 KF x0 x1 x2 x3 x4 x5 x6 x7
  by_cases hc0 : c = 0
  case neg =>
    obtain ⟨rfl, rfl⟩ := H2.out (by simp) hc0
    have hne : (C != 0) = true := by simpa using hc0
    obtain ⟨_, r0, r1⟩ := R4.out.two
    have f0 := R4.out.frozen 0
    have f1 := R4.out.frozen 1
    clear H1 H2 H3 HP HD HQ hc0
    go_wp2
    exact bodyPost_ret (v := .agg #[.int .i64 C, .slice none 0 0]) (by simp [results, Try.results14, go_sem, r0, r1]) rfl ⟨none, 0, 0, rfl, Own.nil _ _, (B4.out.setCell (by simp) _).setCell (by simp) _⟩
  obtain ⟨hn, hl⟩ := HD.out hc0
  obtain ⟨rfl, hLL⟩ := H1.out (by simp) hc0
  have HPP := Lib.hid (HP.out (by simp))
  subst hc0
  have hmm := (sgN_parts hn).2.2.2.2.2.2
  have KO := Lib.hid (fun W => packOptions_any x.m W hmm)
  have KH0 := Lib.hid (fun n W (h : n = (sgO x.m).length) => segHead_any x a len cap n W hn h)
  have HOL := Lib.hid (sgO_len x.m)
  obtain ⟨s, hs⟩ : ∃ s, s = dgSum f t 6 (sgH x zs) := ⟨_, rfl⟩
  have hsb : 0 ≤ s ∧ s ≤ 65535 := by rw [hs]; exact sumV_bd _
  have HS : Hid (sumV (pseudoL f t 6 (sgH x zs).length ++ sgH x zs) = s) := hs.symm
  have HLL := Lib.hid (hLL.trans (sgL_splice f t x zs s hs hsb))
  have HHL := Lib.hid (sgHd_len (sgT x.m) x)
  rw [sgH_cut] at HS HLL
  clear hs hLL H1 H2 H3 HP HD HQ hn hmm
  have HOB := Lib.hid (show (sgO x.m).length ≤ 4 by rw [HOL.out]; split <;> omega)
  clear HOL
  generalize sgHd (sgT x.m) x = H at *
  generalize sgO x.m = O at *
  obtain ⟨D, hD⟩ : ∃ D, D = H ++ O ++ zs := ⟨_, rfl⟩
  rw [← hD] at HS HLL
  have HL := Lib.hid hD
  clear hD
  obtain ⟨_, x0, x1, x2, x3, x4, x5, x6, x7⟩ := X4.out.eight
  go_wp2_with fail
  refine (KO.out _).mono ?_
  rintro e W5 ⟨ao, lo, co, rfl, oo, b5⟩
  have hlo : lo = O.length := oo.length.symm
  have hlo4 : lo ≤ 4 := by rw [hlo]; exact HOB.out
  have KH := Lib.hid (fun W => KH0.out lo W hlo)
  have HDL : Hid (D.length = 20 + lo + len) := by rw [HL.out, List.length_append, List.length_append, HHL.out, HR0.out.length, hlo]; rfl
  have RO := Lib.hid oo.rd
  have R5 := Lib.hid (R4.out.below b5 R4.out.lt)
  have X5 := Lib.hid (X4.out.below b5 X4.out.lt)
  have B5 := Lib.hid (B4.out.trans (b5.mono B4.out.size))
  have HR := Lib.hid (HR0.out.below B5.out)
  clear b5 oo R4 X4 B4 x0 x1 x2 x3 x4 x5 x6 x7 KO KH0 HR0 hlo HOB
  obtain ⟨_, x0, x1, x2, x3, x4, x5, x6, x7⟩ := X5.out.eight
  go_wp2_with fail
  clear x0 x1 x2 x3 x4 x5 x6 x7
  obtain ⟨n0, hn0⟩ : ∃ n0, n0 = w.heap.size := ⟨_, rfl⟩
  have SS := Lib.hid (show ∀ W, Hid (Below W5.heap.size W5 W) → W.cell? ⟨w.heap.size, 0, none⟩ = some (.int .i64 x.f) ∧ W.cell? ⟨w.heap.size, 1, none⟩ = some (.int .i64 x.t) ∧ W.cell? ⟨w.heap.size, 2, none⟩ = some (.int .i64 x.s) ∧ W.cell? ⟨w.heap.size, 3, none⟩ = some (.int .i64 x.a) ∧ W.cell? ⟨w.heap.size, 4, none⟩ = some (.int .i64 x.g) ∧ W.cell? ⟨w.heap.size, 5, none⟩ = some (.int .i64 x.w) ∧ W.cell? ⟨w.heap.size, 6, none⟩ = some (.int .i64 x.m) ∧ W.cell? ⟨w.heap.size, 7, none⟩ = some (.slice a len cap) ∧ Hid (Below W5.heap.size W5 W) from fun W h => by
    obtain ⟨_, x0, x1, x2, x3, x4, x5, x6, x7⟩ := (X5.out.below h.out X5.out.lt).eight
    exact ⟨x0, x1, x2, x3, x4, x5, x6, x7, h⟩)
  have T1 := Lib.hid (Below.refl W5.heap.size W5)
  have hnn := Lib.hid hn0
  have hn0 : n0 ≤ W5.heap.size := by rw [hnn.out]; exact B5.out.size
  have TD := kDrew T1
  refine wp_region_held_drew (S := fun W => W.cell? ⟨w.heap.size, 0, none⟩ = some (.int .i64 x.f) ∧ W.cell? ⟨w.heap.size, 1, none⟩ = some (.int .i64 x.t) ∧ W.cell? ⟨w.heap.size, 2, none⟩ = some (.int .i64 x.s) ∧ W.cell? ⟨w.heap.size, 3, none⟩ = some (.int .i64 x.a) ∧ W.cell? ⟨w.heap.size, 4, none⟩ = some (.int .i64 x.g) ∧ W.cell? ⟨w.heap.size, 5, none⟩ = some (.int .i64 x.w) ∧ W.cell? ⟨w.heap.size, 6, none⟩ = some (.int .i64 x.m) ∧ W.cell? ⟨w.heap.size, 7, none⟩ = some (.slice a len cap) ∧ Hid (Below W5.heap.size W5 W)) (by kernel_rfl) (SS.out _ TD) (fun hHeld => ?_)
  refine wpAnyH_take (i := 0) (v := ?_) (by simp only [List.getElem?_toArray, List.getElem?_cons_zero]; exact rfl) (by kernel_rfl) (by kernel_rfl) (by kernel_rfl) (by exact fun _ _ _ h => h) (Or.inl ⟨by rfl, ?_⟩) hHeld ?_
  rotate_left
  · intro w' hSw
    obtain ⟨s0, s1, s2, s3, s4, s5, s6, s7, _⟩ := hSw
    go_simp
    try with_reducible rfl
  try simp only [Act.put, List.setIfInBounds_toArray, List.set_cons_zero, List.set_cons_succ]
  refine wpAnyH_take (i := 1) (v := ?_) (by simp only [List.getElem?_toArray, List.getElem?_cons_zero, List.getElem?_cons_succ]; exact rfl) (by kernel_rfl) (by kernel_rfl) (by kernel_rfl) (by exact fun _ _ _ h => h) (Or.inl ⟨by rfl, ?_⟩) hHeld ?_
  rotate_left
  · intro w' hSw
    obtain ⟨s0, s1, s2, s3, s4, s5, s6, s7, _⟩ := hSw
    go_simp
    try with_reducible rfl
  try simp only [Act.put, List.setIfInBounds_toArray, List.set_cons_zero, List.set_cons_succ]
  refine wpAnyH_take (i := 2) (v := ?_) (by simp only [List.getElem?_toArray, List.getElem?_cons_zero, List.getElem?_cons_succ]; exact rfl) (by kernel_rfl) (by kernel_rfl) (by kernel_rfl) (by exact fun _ _ _ h => h) (Or.inl ⟨by rfl, ?_⟩) hHeld ?_
  rotate_left
  · intro w' hSw
    obtain ⟨s0, s1, s2, s3, s4, s5, s6, s7, _⟩ := hSw
    go_simp
    try with_reducible rfl
  try simp only [Act.put, List.setIfInBounds_toArray, List.set_cons_zero, List.set_cons_succ]
  refine wpAnyH_take (i := 4) (v := ?_) (by simp only [List.getElem?_toArray, List.getElem?_cons_zero, List.getElem?_cons_succ]; exact rfl) (by kernel_rfl) (by kernel_rfl) (by kernel_rfl) (by exact fun _ _ _ h => h) (Or.inl ⟨by rfl, ?_⟩) hHeld ?_
  rotate_left
  · intro w' hSw
    obtain ⟨s0, s1, s2, s3, s4, s5, s6, s7, _⟩ := hSw
    go_simp
    try with_reducible rfl
  try simp only [Act.put, List.setIfInBounds_toArray, List.set_cons_zero, List.set_cons_succ]
  refine wpAnyH_take (i := 5) (v := ?_) (by simp only [List.getElem?_toArray, List.getElem?_cons_zero, List.getElem?_cons_succ]; exact rfl) (by kernel_rfl) (by kernel_rfl) (by kernel_rfl) (by exact fun _ _ _ h => h) (Or.inl ⟨by rfl, ?_⟩) hHeld ?_
  rotate_left
  · intro w' hSw
    obtain ⟨s0, s1, s2, s3, s4, s5, s6, s7, _⟩ := hSw
    go_simp
    try with_reducible rfl
  try simp only [Act.put, List.setIfInBounds_toArray, List.set_cons_zero, List.set_cons_succ]
  refine wpAnyH_take (i := 6) (v := ?_) (by simp only [List.getElem?_toArray, List.getElem?_cons_zero, List.getElem?_cons_succ]; exact rfl) (by kernel_rfl) (by kernel_rfl) (by kernel_rfl) (by exact fun _ _ _ h => h) (Or.inl ⟨by rfl, ?_⟩) hHeld ?_
  rotate_left
  · intro w' hSw
    obtain ⟨s0, s1, s2, s3, s4, s5, s6, s7, _⟩ := hSw
    go_simp
    try with_reducible rfl
  try simp only [Act.put, List.setIfInBounds_toArray, List.set_cons_zero, List.set_cons_succ]
  refine flow_go (Inv := fun listed ac W => ∃ v9 v31 v35 v36 : Value, ac = { tmps := #[_, _, _, _, _, .pointer (some ⟨w.heap.size, 0, none⟩), _, _, .slice ao lo co, v9, _, _, _, _, _, _, _, _, _, _, _, _, _, _, _, _, _, _, .agg #[.int .i64 x.f, .int .i64 x.t, .int .i64 x.s, .int .i64 x.a, .int .i64 x.g, .int .i64 x.w, .int .i64 x.m, .slice a len cap], .slice ao lo co, .int .i64 lo, v31, .slice ao lo co, .pointer (some ⟨w.heap.size, 7, none⟩), .slice a len cap, v35, v36, _, _, _, _, _, _, _, _, _, _, _, _, _, _], defers := [] } ∧ Hid (Below W5.heap.size W5 W) ∧ Fl listed 3 (SlV W n0 v31 20 H) ∧ Fl listed 7 (CatV W v35 3 D) ∧ Fl listed 8 (AnyV W n0 v36 D) ∧ Fl listed 9 (AnyV W n0 v9 D)) [3, 7, 8, 9] (by kernel_rfl) (by kernel_rfl) ⟨_, _, _, _, rfl, TD, Fl.not (by kernel_rfl), Fl.not (by kernel_rfl), Fl.not (by kernel_rfl), Fl.not (by kernel_rfl)⟩
    (FlowAll.cons [] (by simp only [List.getElem?_toArray, List.getElem?_cons_zero, List.getElem?_cons_succ]; exact rfl) (by kernel_rfl) (fun listed ac W hI hu hd K hK => ?_)
      (FlowAll.cons [3] (by simp only [List.getElem?_toArray, List.getElem?_cons_zero, List.getElem?_cons_succ]; exact rfl) (by kernel_rfl) (fun listed ac W hI hu hd K hK => ?_)
      (FlowAll.cons [7] (by simp only [List.getElem?_toArray, List.getElem?_cons_zero, List.getElem?_cons_succ]; exact rfl) (by kernel_rfl) (fun listed ac W hI hu hd K hK => ?_)
      (FlowAll.cons [8] (by simp only [List.getElem?_toArray, List.getElem?_cons_zero, List.getElem?_cons_succ]; exact rfl) (by kernel_rfl) (fun listed ac W hI hu hd K hK => ?_)
      FlowAll.nil))))
    (fun listed ac W hI hall => ?_)
  · obtain ⟨v9, v31, v35, v36, rfl, TB, f3, f7, f8, f9⟩ := hI
    have hnW : n0 ≤ W.heap.size := Nat.le_trans hn0 (kSize TB)
    refine want_none (by exact rfl) ?_
    go_wp2_with fail
    refine (KH.out _).mono ?_
    rintro e w' ⟨a', l', c', rfl, o', hb0⟩
    obtain rfl : l' = 20 := o'.length.symm.trans HHL.out
    go_wp2_with fail
    have hb : Below W.heap.size W _ := hb0
    have TB' := kCall hb (kSize TB) TB
    refine hK.out _ _ (SS.out _ TB') ?_
    exact ⟨_, _, _, _, rfl, TB', Fl.new (⟨_, _, rfl, o'.rebase hnW⟩), f7.keep (by decide) (CatV.below hb), f8.keep (by decide) (AnyV.below hb), f9.keep (by decide) (AnyV.below hb)⟩
  · obtain ⟨v9, v31, v35, v36, rfl, TB, f3, f7, f8, f9⟩ := hI
    have hnW : n0 ≤ W.heap.size := Nat.le_trans hn0 (kSize TB)
    obtain ⟨a31, c31, rfl, o31⟩ := f3.get (hd 3 (by simp))
    refine want_none (by exact rfl) ?_
    go_wp2_with fail
    have hb : Below W.heap.size W _ := bAlloc W (.cells #[.slice a31 20 c31, .slice ao lo co, .slice a len cap] 22)
    have TB' := kCall hb (kSize TB) TB
    refine hK.out _ _ (SS.out _ TB') ?_
    exact ⟨_, _, _, _, rfl, TB', f3.keep (by decide) (SlV.below hb), Fl.new (⟨_, [⟨a31, 20, c31, H⟩, ⟨ao, lo, co, O⟩, ⟨a, len, cap, zs⟩], rfl, rfl, sls_box (Box.new _ _ _) (by intro s hs; simp only [List.mem_cons, List.not_mem_nil, or_false] at hs; rcases hs with rfl | rfl | rfl; exact o31.rd.below hb; exact (RO.out.below TB.out).below hb; exact (HR.out.below TB.out).below hb), by rw [HL.out]; simp [catZ], by simp only [sumN]; omega⟩), f8.keep (by decide) (AnyV.below hb), f9.keep (by decide) (AnyV.below hb)⟩
  · obtain ⟨v9, v31, v35, v36, rfl, TB, f3, f7, f8, f9⟩ := hI
    have hnW : n0 ≤ W.heap.size := Nat.le_trans hn0 (kSize TB)
    obtain ⟨g, ss, rfl, hs, hS, hZ, hT⟩ := f7.get (hd 7 (by simp))
    refine want_none (by exact rfl) ?_
    go_wp2_with fail
    refine (catV_call hs hS hZ hT).mono ?_
    rintro e w' ⟨a', l', c', rfl, o', hb0⟩
    go_wp2_with fail
    have hb : Below W.heap.size W _ := hb0
    have TB' := kCall hb (kSize TB) TB
    refine hK.out _ _ (SS.out _ TB') ?_
    exact ⟨_, _, _, _, rfl, TB', f3.keep (by decide) (SlV.below hb), f7.keep (by decide) (CatV.below hb), Fl.new (⟨_, _, _, rfl, o'.rebase hnW⟩), f9.keep (by decide) (AnyV.below hb)⟩
  · obtain ⟨v9, v31, v35, v36, rfl, TB, f3, f7, f8, f9⟩ := hI
    have hnW : n0 ≤ W.heap.size := Nat.le_trans hn0 (kSize TB)
    obtain ⟨a36, l36, c36, rfl, o36⟩ := f8.get (hd 8 (by simp))
    refine want_none (by exact rfl) ?_
    go_wp2_with fail
    refine hK.out _ _ (SS.out _ TB) ?_
    exact ⟨_, _, _, _, rfl, TB, f3.keep (by decide) id, f7.keep (by decide) id, f8.keep (by decide) id, Fl.new (⟨_, _, _, rfl, o36⟩)⟩
  obtain ⟨v9, v31, v35, v36, rfl, TB, f3, f7, f8, f9⟩ := hI
  have hnW : n0 ≤ W.heap.size := Nat.le_trans hn0 (kSize TB)
  obtain ⟨a5, l5, c5, rfl, o5⟩ := f9.get (hall 9 (by decide))
  have R6 := Lib.hid (R5.out.below TB.out R5.out.lt)
  have B6 := Lib.hid (B5.out.trans (TB.out.mono B5.out.size))
  have O6 := Lib.hid (show Own W w.heap.size a5 l5 c5 D by rw [← hnn.out]; exact o5)
  have hlt5 := Lib.hid (fun x (hx : a5 = some x) => Nat.le_of_lt_succ (Nat.lt_succ_of_le (o5.lt x hx).1))
  clear o5 f3 f7 f8 f9 TB hall SS KH X5 R5 B5 RO HR
  obtain ⟨N, hN⟩ : ∃ N, N = 20 + lo + len := ⟨_, rfl⟩
  rw [← hN] at HDL
  obtain rfl : l5 = N := O6.out.length.symm.trans HDL.out
  have hN1 : 20 ≤ l5 := by omega
  have hN2 : l5 ≤ 544 := by omega
  clear hN hlo4 hl
  rcases O6.out.shape with ⟨_, h0, _⟩ | ⟨g, rfl⟩
  · omega
  have hgg : Hid (¬ g = w.heap.size + 1) := O6.out.ne_box R6.out (by decide)
  go_wp2_with fail
  refine (withHead_any f t 6 _ _ _ _ _ O6.out.rd (HPP.out _ (by omega)) (by omega)).mono ?_
  rintro e w7 ⟨a7, l7, c7, rfl, o7, b7⟩
  have R7 := Lib.hid (R6.out.below b7 R6.out.lt)
  have B7 := Lib.hid (B6.out.trans (b7.mono B6.out.size))
  have O7 := Lib.hid (O6.out.below b7)
  have KS : Hid (Calls Try.prog 57 #[.slice a7 l7 c7] w7 fun e w' => e = .returned (.agg #[.int .i64 0, .int .i64 s]) ∧ Below w7.heap.size w7 w') := by
    have hz : (pseudoL f t 6 D.length ++ D).length ≤ 700 := by rw [List.length_append, pseudoL_len, HDL.out]; omega
    have := implSum _ _ _ _ w7 o7.rd
    simp only [smC, smV, hz, if_true] at this
    rw [HS.out] at this
    exact this
  clear b7 o7 R6 B6 O6
  have hfi := fld_ir
  have hfb := fld_br
  go_wp2_with fail
  refine KS.out.mono ?_
  rintro e w8 ⟨rfl, b8⟩
  have R8 := Lib.hid (R7.out.below b8 R7.out.lt)
  have B8' := Lib.hid (B7.out.trans (b8.mono B7.out.size))
  have O8 := Lib.hid (O7.out.below b8)
  clear b8 R7 B7 O7 KS HS
  have KP := Lib.hid (show ∀ W, Calls Try.prog 59 #[.int .i64 s, .int .i64 2] W (Packed W 0 (be s 2)) from fun W => implPack_ok s 2 W hsb.1 (by omega) (by simp only [Int.reducePow]; omega))
  have cmx := Lib.hid O8.out.max
  have hi16 : (16 : Int) ≤ (l5 : Int) := by omega
  have hc16 : ¬ c5 = 16 := by have := cmx.out; omega
  go_wp2_with fail
  go_region_law (first
    | (refine copy_step _ rfl (.tmp 44) (.tmp 47) rfl _ g l5 c5 16 (l5 - 16) _ _ o9 rfl (by omega) _ _ _ _ rfl r9 (by omega) ?_; intro w9 o10 g10)
    | (go_simp; go_at_call 59; refine (KP.out _).mono ?_; rintro e w9' ⟨a9, l9, k9, rfl, p9, b9⟩; have o9 := O8.out.drew.below b9; have r9 := p9.rd; obtain rfl : 2 = l9 := (be_len 2 _).symm.trans p9.length))
  have b9' := (Below.refl _ w8).drew.trans (b9.mono (Nat.le_refl _))
  have R9 := (R8.out.below b9' R8.out.lt).grown g10 (by have := hgg.out; simp only [ne_eq, Option.some.injEq]; omega)
  have hg0 : w.heap.size ≤ g := (o9.lt _ rfl).1
  have B9 := Lib.hid ((B8'.out.trans (b9'.mono B8'.out.size)).grown g10 (Nat.le_trans B8'.out.size b9'.size) (fun k e => by cases e; exact hg0))
  have O9 : Hid (Own w9 w.heap.size (some ⟨g, 0, none⟩) l5 c5 L) := by rw [HLL.out]; exact o10
  obtain ⟨_, r1, r2⟩ := R9.two
  have f0 := R9.frozen 0
  have f1 := R9.frozen 1
  clear o10 g10 p9 r9 o9 b9 b9' R9 O8 R8 B8' hfi hfb KP HLL
  go_wp2
  refine bodyPost_ret (v := .agg #[.int .i64 0, .slice (some ⟨g, 0, none⟩) l5 c5]) (by simp [results, Try.results14, go_sem, r1, r2]) rfl ⟨_, _, _, rfl, ?_, (B9.out.setCell (by simp) _).setCell (by simp) _⟩
  exact (O9.out.setOther _ _ (by rintro x hx; cases hx; exact hgg.out)).setOther _ _ (by rintro x hx; cases hx; exact hgg.out)

theorem packSegment_law (f t : Int) (x : Sg) (a : Option Addr) (len cap : Nat) (zs : List Int) (w : World) (hr : Rd w a len cap zs) :
    Calls Try.prog 8 #[.int .i64 f, .int .i64 t, .agg #[.int .i64 x.f, .int .i64 x.t, .int .i64 x.s, .int .i64 x.a, .int .i64 x.g, .int .i64 x.w, .int .i64 x.m, .slice a len cap]] w fun e w' => e = .returned (.bool true) ∧ Below w.heap.size w w' :=
  exactPackSegment f t x.f x.t x.s x.a x.g x.w x.m a len cap zs w hr (psC f t x zs.length) (psP f t x zs) (psP_len f t x zs) (fun a' l' c' W h => specPackSegment f t x a' l' c' zs W h) (fun a' l' c' W h => implPackSegment f t x a' l' c' zs W h)
end Go.Proofs.Yteaiemckcepphaa
