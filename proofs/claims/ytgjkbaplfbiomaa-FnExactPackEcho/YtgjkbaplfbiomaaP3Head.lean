/-
  The head of a packet, packed by the program.
-/
import Derived.Test.YtgjkbaplfbiomaaFlow
import Derived.Test.YtgjkbaplfbiomaaPkP
import Derived.Test.YtgjkbaplfbiomaaArr
namespace Go.Proofs.Ytgjkbaplfbiomaa
open Go.ChangeShapes Go.WideShapes Go.ChangeAt Go.RowKit

/-- a slice of bytes zs in an array of its own, of whatever length -/
def AnyV (W : World) (n0 : Nat) (v : Value) (zs : List Int) : Prop := ∃ a l c, v = .slice a l c ∧ Own W n0 a l c zs
theorem AnyV.below {W W' : World} {n0 : Nat} {v : Value} {zs : List Int} (hb : Below W.heap.size W W') (h : AnyV W n0 v zs) : AnyV W' n0 v zs := by
  obtain ⟨a, l, c, e, o⟩ := h
  exact ⟨a, l, c, e, o.below hb⟩
theorem catV_call {W : World} {g n : Nat} {ss : List Sl} {zs : List Int} (hs : ss.length = n) (hS : Sls W g ss) (hZ : catZ ss = zs) (hT : sumN ss ≤ 1048576) (hn : n ≤ 1000 := by omega) :
    Calls Try.prog 56 #[.slice (some ⟨g, 0, none⟩) n n] W (FreshA W zs) := by
  subst hs hZ
  exact concat_any g ss W hS hn hT

set_option maxRecDepth 20000 in
set_option maxHeartbeats 4000000 in
theorem packetHead_any (kf kt kp kl : Int) (a : Option Addr) (len cap : Nat) (w : World) (h0 : 0 ≤ kf ∧ kf < 4294967296) (h1 : 0 ≤ kt ∧ kt < 4294967296) (h2 : 0 ≤ kp ∧ kp ≤ 255) (h3 : 0 ≤ kl ∧ kl ≤ 255) (hl : len ≤ 560) :
    Calls Try.prog 55 #[.agg #[.int .i64 kf, .int .i64 kt, .int .i64 kp, .int .i64 kl, .slice a len cap]] w (FreshA w (packH kf kt kp kl len)) := by
  have K0 := Lib.hid (show ∀ W, Calls Try.prog 69 #[.int .i64 (20 + len), .int .i64 2] W (Packed W 0 (be (20 + len) 2)) from fun W => implPack_ok (20 + len) 2 W (by omega) (by omega) (by simp only [Int.reducePow]; omega))
  have K1 := Lib.hid (show ∀ W, Calls Try.prog 69 #[.int .i64 16384, .int .i64 2] W (Packed W 0 (be 16384 2)) from fun W => implPack_ok 16384 2 W (by omega) (by omega) (by simp only [Int.reducePow]; omega))
  have K2 := Lib.hid (show ∀ W, Calls Try.prog 69 #[.int .i64 kf, .int .i64 4] W (Packed W 0 (be kf 4)) from fun W => implPack_ok kf 4 W h0.1 (by omega) (by simp only [Int.reducePow]; omega))
  have K3 := Lib.hid (show ∀ W, Calls Try.prog 69 #[.int .i64 kt, .int .i64 4] W (Packed W 0 (be kt 4)) from fun W => implPack_ok kt 4 W h1.1 (by omega) (by simp only [Int.reducePow]; omega))
  obtain ⟨L, hL⟩ : ∃ L, L = packH kf kt kp kl len := ⟨_, rfl⟩
  have HL : Hid (L = [69, 0] ++ be (20 + len) 2 ++ [0, 0] ++ be 16384 2 ++ [kl, kp, 0, 0] ++ be kf 4 ++ be kt 4) := by rw [hL, packH]; simp [Hid, be]
  rw [← hL]
  clear hL h0 h1
  have hfb := fld_br
  have hwr : IntKind.i64.wrap (20 + (len : Int)) = 20 + len := IntWalk.i64_in _ (by omega)
  have u1 := u8_in kp h2
  have u2 := u8_in kl h3
  have B0 := Lib.hid ((Below.refl w.heap.size w).alloc (Nat.le_refl _) (.cells #[.int .i64 kf, .int .i64 kt, .int .i64 kp, .int .i64 kl, .slice a len cap] 25))
  have X0 := Lib.hid (Box.new w 25 #[.int .i64 kf, .int .i64 kt, .int .i64 kp, .int .i64 kl, .slice a len cap])
  go_enter Try.func55, Try.ntmps55
  go_wp2_with fail
  obtain ⟨n0, hn0⟩ : ∃ n0, n0 = w.heap.size := ⟨_, rfl⟩
  generalize w.alloc (.cells #[.int .i64 kf, .int .i64 kt, .int .i64 kp, .int .i64 kl, .slice a len cap] 25) = W0 at *
  have SS := Lib.hid (show ∀ W, Hid (Below W0.heap.size W0 W) → W.cell? ⟨w.heap.size, 0, none⟩ = some (.int .i64 kf) ∧ W.cell? ⟨w.heap.size, 1, none⟩ = some (.int .i64 kt) ∧ W.cell? ⟨w.heap.size, 2, none⟩ = some (.int .i64 kp) ∧ W.cell? ⟨w.heap.size, 3, none⟩ = some (.int .i64 kl) ∧ W.cell? ⟨w.heap.size, 4, none⟩ = some (.slice a len cap) ∧ Hid (Below W0.heap.size W0 W) from fun W h => by
    obtain ⟨_, x0, x1, x2, x3, x4⟩ := (X0.out.below h.out X0.out.lt).five
    exact ⟨x0, x1, x2, x3, x4, h⟩)
  have T1 := Lib.hid (Below.refl W0.heap.size W0)
  have hnn := Lib.hid hn0
  have hn0 : n0 ≤ W0.heap.size := by rw [hnn.out]; exact B0.out.size
  have TD := kDrew T1
  refine wp_region_held_drew (S := fun W => W.cell? ⟨w.heap.size, 0, none⟩ = some (.int .i64 kf) ∧ W.cell? ⟨w.heap.size, 1, none⟩ = some (.int .i64 kt) ∧ W.cell? ⟨w.heap.size, 2, none⟩ = some (.int .i64 kp) ∧ W.cell? ⟨w.heap.size, 3, none⟩ = some (.int .i64 kl) ∧ W.cell? ⟨w.heap.size, 4, none⟩ = some (.slice a len cap) ∧ Hid (Below W0.heap.size W0 W)) (by kernel_rfl) (SS.out _ TD) (fun hHeld => ?_)
  refine wpAnyH_take (i := 1) (v := ?_) (by simp only [List.getElem?_toArray, List.getElem?_cons_zero, List.getElem?_cons_succ]; exact rfl) (by kernel_rfl) (by kernel_rfl) (by kernel_rfl) (by exact fun _ _ _ h => h) (Or.inl ⟨by rfl, ?_⟩) hHeld ?_
  rotate_left
  · intro w' hSw
    obtain ⟨s0, s1, s2, s3, s4, _⟩ := hSw
    go_simp
    try with_reducible rfl
  try simp only [Act.put, List.setIfInBounds_toArray, List.set_cons_zero, List.set_cons_succ]
  refine wpAnyH_take (i := 2) (v := ?_) (by simp only [List.getElem?_toArray, List.getElem?_cons_zero, List.getElem?_cons_succ]; exact rfl) (by kernel_rfl) (by kernel_rfl) (by kernel_rfl) (by exact fun _ _ _ h => h) (Or.inl ⟨by rfl, ?_⟩) hHeld ?_
  rotate_left
  · intro w' hSw
    obtain ⟨s0, s1, s2, s3, s4, _⟩ := hSw
    go_simp
    try with_reducible rfl
  try simp only [Act.put, List.setIfInBounds_toArray, List.set_cons_zero, List.set_cons_succ]
  refine wpAnyH_take (i := 3) (v := ?_) (by simp only [List.getElem?_toArray, List.getElem?_cons_zero, List.getElem?_cons_succ]; exact rfl) (by kernel_rfl) (by kernel_rfl) (by kernel_rfl) (by exact fun _ _ _ h => h) (Or.inl ⟨by rfl, ?_⟩) hHeld ?_
  rotate_left
  · intro w' hSw
    obtain ⟨s0, s1, s2, s3, s4, _⟩ := hSw
    go_simp
    try with_reducible rfl
  try simp only [Act.put, List.setIfInBounds_toArray, List.set_cons_zero, List.set_cons_succ]
  refine wpAnyH_take (i := 4) (v := ?_) (by simp only [List.getElem?_toArray, List.getElem?_cons_zero, List.getElem?_cons_succ]; exact rfl) (by kernel_rfl) (by kernel_rfl) (by kernel_rfl) (by exact fun _ _ _ h => h) (Or.inl ⟨by rfl, ?_⟩) hHeld ?_
  rotate_left
  · intro w' hSw
    obtain ⟨s0, s1, s2, s3, s4, _⟩ := hSw
    go_simp
    try with_reducible rfl
  try simp only [Act.put, List.setIfInBounds_toArray, List.set_cons_zero, List.set_cons_succ]
  refine wpAnyH_take (i := 10) (v := ?_) (by simp only [List.getElem?_toArray, List.getElem?_cons_zero, List.getElem?_cons_succ]; exact rfl) (by kernel_rfl) (by kernel_rfl) (by kernel_rfl) (by exact fun _ _ _ h => h) (Or.inl ⟨by rfl, ?_⟩) hHeld ?_
  rotate_left
  · intro w' hSw
    obtain ⟨s0, s1, s2, s3, s4, _⟩ := hSw
    go_simp
    try with_reducible rfl
  try simp only [Act.put, List.setIfInBounds_toArray, List.set_cons_zero, List.set_cons_succ]
  refine wpAnyH_take (i := 11) (v := ?_) (by simp only [List.getElem?_toArray, List.getElem?_cons_zero, List.getElem?_cons_succ]; exact rfl) (by kernel_rfl) (by kernel_rfl) (by kernel_rfl) (by exact fun _ _ _ h => h) (Or.inl ⟨by rfl, ?_⟩) hHeld ?_
  rotate_left
  · intro w' hSw
    obtain ⟨s0, s1, s2, s3, s4, _⟩ := hSw
    go_simp
    try with_reducible rfl
  try simp only [Act.put, List.setIfInBounds_toArray, List.set_cons_zero, List.set_cons_succ]
  refine wpAnyH_take (i := 12) (v := ?_) (by simp only [List.getElem?_toArray, List.getElem?_cons_zero, List.getElem?_cons_succ]; exact rfl) (by kernel_rfl) (by kernel_rfl) (by kernel_rfl) (by exact fun _ _ _ h => h) (Or.inl ⟨by rfl, ?_⟩) hHeld ?_
  rotate_left
  · intro w' hSw
    obtain ⟨s0, s1, s2, s3, s4, _⟩ := hSw
    go_simp
    try with_reducible rfl
  try simp only [Act.put, List.setIfInBounds_toArray, List.set_cons_zero, List.set_cons_succ]
  refine wpAnyH_take (i := 13) (v := ?_) (by simp only [List.getElem?_toArray, List.getElem?_cons_zero, List.getElem?_cons_succ]; exact rfl) (by kernel_rfl) (by kernel_rfl) (by kernel_rfl) (by exact fun _ _ _ h => h) (Or.inl ⟨by rfl, ?_⟩) hHeld ?_
  rotate_left
  · intro w' hSw
    obtain ⟨s0, s1, s2, s3, s4, _⟩ := hSw
    go_simp
    try with_reducible rfl
  try simp only [Act.put, List.setIfInBounds_toArray, List.set_cons_zero, List.set_cons_succ]
  refine wpAnyH_take (i := 14) (v := ?_) (by simp only [List.getElem?_toArray, List.getElem?_cons_zero, List.getElem?_cons_succ]; exact rfl) (by kernel_rfl) (by kernel_rfl) (by kernel_rfl) (by exact fun _ _ _ h => h) (Or.inl ⟨by rfl, ?_⟩) hHeld ?_
  rotate_left
  · intro w' hSw
    obtain ⟨s0, s1, s2, s3, s4, _⟩ := hSw
    go_simp
    try with_reducible rfl
  try simp only [Act.put, List.setIfInBounds_toArray, List.set_cons_zero, List.set_cons_succ]
  refine wpAnyH_take (i := 15) (v := ?_) (by simp only [List.getElem?_toArray, List.getElem?_cons_zero, List.getElem?_cons_succ]; exact rfl) (by kernel_rfl) (by kernel_rfl) (by kernel_rfl) (by exact fun _ _ _ h => h) (Or.inl ⟨by rfl, ?_⟩) hHeld ?_
  rotate_left
  · intro w' hSw
    obtain ⟨s0, s1, s2, s3, s4, _⟩ := hSw
    go_simp
    try with_reducible rfl
  try simp only [Act.put, List.setIfInBounds_toArray, List.set_cons_zero, List.set_cons_succ]
  refine wpAnyH_take (i := 17) (v := ?_) (by simp only [List.getElem?_toArray, List.getElem?_cons_zero, List.getElem?_cons_succ]; exact rfl) (by kernel_rfl) (by kernel_rfl) (by kernel_rfl) (by exact fun _ _ _ h => h) (Or.inl ⟨by rfl, ?_⟩) hHeld ?_
  rotate_left
  · intro w' hSw
    obtain ⟨s0, s1, s2, s3, s4, _⟩ := hSw
    go_simp
    try with_reducible rfl
  try simp only [Act.put, List.setIfInBounds_toArray, List.set_cons_zero, List.set_cons_succ]
  refine wpAnyH_take (i := 18) (v := ?_) (by simp only [List.getElem?_toArray, List.getElem?_cons_zero, List.getElem?_cons_succ]; exact rfl) (by kernel_rfl) (by kernel_rfl) (by kernel_rfl) (by exact fun _ _ _ h => h) (Or.inl ⟨by rfl, ?_⟩) hHeld ?_
  rotate_left
  · intro w' hSw
    obtain ⟨s0, s1, s2, s3, s4, _⟩ := hSw
    go_simp
    try with_reducible rfl
  try simp only [Act.put, List.setIfInBounds_toArray, List.set_cons_zero, List.set_cons_succ]
  refine wpAnyH_take (i := 21) (v := ?_) (by simp only [List.getElem?_toArray, List.getElem?_cons_zero, List.getElem?_cons_succ]; exact rfl) (by kernel_rfl) (by kernel_rfl) (by kernel_rfl) (by exact fun _ _ _ h => h) (Or.inl ⟨by rfl, ?_⟩) hHeld ?_
  rotate_left
  · intro w' hSw
    obtain ⟨s0, s1, s2, s3, s4, _⟩ := hSw
    go_simp
    try with_reducible rfl
  try simp only [Act.put, List.setIfInBounds_toArray, List.set_cons_zero, List.set_cons_succ]
  refine wpAnyH_take (i := 22) (v := ?_) (by simp only [List.getElem?_toArray, List.getElem?_cons_zero, List.getElem?_cons_succ]; exact rfl) (by kernel_rfl) (by kernel_rfl) (by kernel_rfl) (by exact fun _ _ _ h => h) (Or.inl ⟨by rfl, ?_⟩) hHeld ?_
  rotate_left
  · intro w' hSw
    obtain ⟨s0, s1, s2, s3, s4, _⟩ := hSw
    go_simp
    try with_reducible rfl
  try simp only [Act.put, List.setIfInBounds_toArray, List.set_cons_zero, List.set_cons_succ]
  refine flow_go (Inv := fun listed ac W => ∃ v2 v3 v8 v9 v10 v11 v12 v19 v22 v23 v26 v27 v28 v29 : Value, ac = { tmps := #[.agg #[.int .i64 kf, .int .i64 kt, .int .i64 kp, .int .i64 kl, .slice a len cap], .pointer (some ⟨w.heap.size, 0, none⟩), v2, v3, .pointer (some ⟨w.heap.size, 4, none⟩), .slice a len cap, .int .i64 len, .int .i64 (20 + len), v8, v9, v10, v11, v12, .pointer (some ⟨w.heap.size, 3, none⟩), .int .i64 kl, .int .u8 kl, .pointer (some ⟨w.heap.size, 2, none⟩), .int .i64 kp, .int .u8 kp, v19, .pointer (some ⟨w.heap.size, 0, none⟩), .int .i64 kf, v22, v23, .pointer (some ⟨w.heap.size, 1, none⟩), .int .i64 kt, v26, v27, v28, v29], defers := [] } ∧ Hid (Below W0.heap.size W0 W) ∧ Fl listed 0 (SlV W n0 v3 2 [69, 0]) ∧ Fl listed 5 (BrV W n0 v8 2 (be (20 + len) 2)) ∧ Fl listed 6 (SlV W n0 v9 2 (be (20 + len) 2)) ∧ Fl listed 7 (SlV W n0 v10 2 [0, 0]) ∧ Fl listed 8 (BrV W n0 v11 2 (be 16384 2)) ∧ Fl listed 9 (SlV W n0 v12 2 (be 16384 2)) ∧ Fl listed 16 (SlV W n0 v19 4 [kl, kp, 0, 0]) ∧ Fl listed 19 (BrV W n0 v22 4 (be kf 4)) ∧ Fl listed 20 (SlV W n0 v23 4 (be kf 4)) ∧ Fl listed 23 (BrV W n0 v26 4 (be kt 4)) ∧ Fl listed 24 (SlV W n0 v27 4 (be kt 4)) ∧ Fl listed 25 (CatV W v28 7 L) ∧ Fl listed 26 (AnyV W n0 v29 L) ∧ Fl listed 27 (AnyV W n0 v2 L)) [0, 5, 6, 7, 8, 9, 16, 19, 20, 23, 24, 25, 26, 27] (by kernel_rfl) (by kernel_rfl) ⟨_, _, _, _, _, _, _, _, _, _, _, _, _, _, rfl, TD, Fl.not (by kernel_rfl), Fl.not (by kernel_rfl), Fl.not (by kernel_rfl), Fl.not (by kernel_rfl), Fl.not (by kernel_rfl), Fl.not (by kernel_rfl), Fl.not (by kernel_rfl), Fl.not (by kernel_rfl), Fl.not (by kernel_rfl), Fl.not (by kernel_rfl), Fl.not (by kernel_rfl), Fl.not (by kernel_rfl), Fl.not (by kernel_rfl), Fl.not (by kernel_rfl)⟩
    (FlowAll.cons [] (by simp only [List.getElem?_toArray, List.getElem?_cons_zero]; exact rfl) (by kernel_rfl) (fun listed ac W hI hd K hK => ?_)
      (FlowAll.cons [] (by simp only [List.getElem?_toArray, List.getElem?_cons_zero, List.getElem?_cons_succ]; exact rfl) (by kernel_rfl) (fun listed ac W hI hd K hK => ?_)
      (FlowAll.cons [5] (by simp only [List.getElem?_toArray, List.getElem?_cons_zero, List.getElem?_cons_succ]; exact rfl) (by kernel_rfl) (fun listed ac W hI hd K hK => ?_)
      (FlowAll.cons [] (by simp only [List.getElem?_toArray, List.getElem?_cons_zero, List.getElem?_cons_succ]; exact rfl) (by kernel_rfl) (fun listed ac W hI hd K hK => ?_)
      (FlowAll.cons [] (by simp only [List.getElem?_toArray, List.getElem?_cons_zero, List.getElem?_cons_succ]; exact rfl) (by kernel_rfl) (fun listed ac W hI hd K hK => ?_)
      (FlowAll.cons [8] (by simp only [List.getElem?_toArray, List.getElem?_cons_zero, List.getElem?_cons_succ]; exact rfl) (by kernel_rfl) (fun listed ac W hI hd K hK => ?_)
      (FlowAll.cons [] (by simp only [List.getElem?_toArray, List.getElem?_cons_zero, List.getElem?_cons_succ]; exact rfl) (by kernel_rfl) (fun listed ac W hI hd K hK => ?_)
      (FlowAll.cons [] (by simp only [List.getElem?_toArray, List.getElem?_cons_zero, List.getElem?_cons_succ]; exact rfl) (by kernel_rfl) (fun listed ac W hI hd K hK => ?_)
      (FlowAll.cons [19] (by simp only [List.getElem?_toArray, List.getElem?_cons_zero, List.getElem?_cons_succ]; exact rfl) (by kernel_rfl) (fun listed ac W hI hd K hK => ?_)
      (FlowAll.cons [] (by simp only [List.getElem?_toArray, List.getElem?_cons_zero, List.getElem?_cons_succ]; exact rfl) (by kernel_rfl) (fun listed ac W hI hd K hK => ?_)
      (FlowAll.cons [23] (by simp only [List.getElem?_toArray, List.getElem?_cons_zero, List.getElem?_cons_succ]; exact rfl) (by kernel_rfl) (fun listed ac W hI hd K hK => ?_)
      (FlowAll.cons [0, 6, 7, 9, 16, 20, 24] (by simp only [List.getElem?_toArray, List.getElem?_cons_zero, List.getElem?_cons_succ]; exact rfl) (by kernel_rfl) (fun listed ac W hI hd K hK => ?_)
      (FlowAll.cons [25] (by simp only [List.getElem?_toArray, List.getElem?_cons_zero, List.getElem?_cons_succ]; exact rfl) (by kernel_rfl) (fun listed ac W hI hd K hK => ?_)
      (FlowAll.cons [26] (by simp only [List.getElem?_toArray, List.getElem?_cons_zero, List.getElem?_cons_succ]; exact rfl) (by kernel_rfl) (fun listed ac W hI hd K hK => ?_)
      FlowAll.nil))))))))))))))
    (fun listed ac W hI hall => ?_)
  · obtain ⟨v2, v3, v8, v9, v10, v11, v12, v19, v22, v23, v26, v27, v28, v29, rfl, TB, f0, f5, f6, f7, f8, f9, f16, f19, f20, f23, f24, f25, f26, f27⟩ := hI
    refine want_none (by exact rfl) ?_
    go_wp2_with fail
    have hb : Below W.heap.size W _ := bAlloc W (.cells #[.int .u8 69, .int .u8 0] 5)
    have TB' := kCall hb (kSize TB) TB
    refine hK.out _ _ (SS.out _ TB') ?_
    exact ⟨_, _, _, _, _, _, _, _, _, _, _, _, _, _, rfl, TB', Fl.new (SlV.lit (Nat.le_trans hn0 (kSize TB)) 2 rfl (by intro n hn; simp at hn; omega) (by unfold maxLen; omega) _ rfl), f5.keep (by decide) (BrV.below hb), f6.keep (by decide) (SlV.below hb), f7.keep (by decide) (SlV.below hb), f8.keep (by decide) (BrV.below hb), f9.keep (by decide) (SlV.below hb), f16.keep (by decide) (SlV.below hb), f19.keep (by decide) (BrV.below hb), f20.keep (by decide) (SlV.below hb), f23.keep (by decide) (BrV.below hb), f24.keep (by decide) (SlV.below hb), f25.keep (by decide) (CatV.below hb), f26.keep (by decide) (AnyV.below hb), f27.keep (by decide) (AnyV.below hb)⟩
  · obtain ⟨v2, v3, v8, v9, v10, v11, v12, v19, v22, v23, v26, v27, v28, v29, rfl, TB, f0, f5, f6, f7, f8, f9, f16, f19, f20, f23, f24, f25, f26, f27⟩ := hI
    refine want_none (by exact rfl) ?_
    go_wp2_with fail
    refine (K0.out _).mono ?_
    intro e w' hp
    obtain ⟨v, rfl, hv, hb0⟩ := BrV.of_packed hp (be_len 2 _) (Nat.le_trans hn0 (kSize TB))
    go_wp2_with fail
    have hb : Below W.heap.size W _ := hb0
    have TB' := kCall hb (kSize TB) TB
    refine hK.out _ _ (SS.out _ TB') ?_
    exact ⟨_, _, _, _, _, _, _, _, _, _, _, _, _, _, rfl, TB', f0.keep (by decide) (SlV.below hb), Fl.new (hv), f6.keep (by decide) (SlV.below hb), f7.keep (by decide) (SlV.below hb), f8.keep (by decide) (BrV.below hb), f9.keep (by decide) (SlV.below hb), f16.keep (by decide) (SlV.below hb), f19.keep (by decide) (BrV.below hb), f20.keep (by decide) (SlV.below hb), f23.keep (by decide) (BrV.below hb), f24.keep (by decide) (SlV.below hb), f25.keep (by decide) (CatV.below hb), f26.keep (by decide) (AnyV.below hb), f27.keep (by decide) (AnyV.below hb)⟩
  · obtain ⟨v2, v3, v8, v9, v10, v11, v12, v19, v22, v23, v26, v27, v28, v29, rfl, TB, f0, f5, f6, f7, f8, f9, f16, f19, f20, f23, f24, f25, f26, f27⟩ := hI
    obtain ⟨a8, c8, rfl, o8⟩ := f5.get (hd 5 (by simp))
    refine want_none (by exact rfl) ?_
    go_wp2_with fail
    refine hK.out _ _ (SS.out _ TB) ?_
    exact ⟨_, _, _, _, _, _, _, _, _, _, _, _, _, _, rfl, TB, f0.keep (by decide) id, f5.keep (by decide) id, Fl.new (⟨_, _, rfl, o8⟩), f7.keep (by decide) id, f8.keep (by decide) id, f9.keep (by decide) id, f16.keep (by decide) id, f19.keep (by decide) id, f20.keep (by decide) id, f23.keep (by decide) id, f24.keep (by decide) id, f25.keep (by decide) id, f26.keep (by decide) id, f27.keep (by decide) id⟩
  · obtain ⟨v2, v3, v8, v9, v10, v11, v12, v19, v22, v23, v26, v27, v28, v29, rfl, TB, f0, f5, f6, f7, f8, f9, f16, f19, f20, f23, f24, f25, f26, f27⟩ := hI
    refine want_none (by exact rfl) ?_
    go_wp2_with fail
    have hb : Below W.heap.size W _ := bAlloc W (.cells #[.int .u8 0, .int .u8 0] 5)
    have TB' := kCall hb (kSize TB) TB
    refine hK.out _ _ (SS.out _ TB') ?_
    exact ⟨_, _, _, _, _, _, _, _, _, _, _, _, _, _, rfl, TB', f0.keep (by decide) (SlV.below hb), f5.keep (by decide) (BrV.below hb), f6.keep (by decide) (SlV.below hb), Fl.new (SlV.lit (Nat.le_trans hn0 (kSize TB)) 2 rfl (by intro n hn; simp at hn; omega) (by unfold maxLen; omega) _ rfl), f8.keep (by decide) (BrV.below hb), f9.keep (by decide) (SlV.below hb), f16.keep (by decide) (SlV.below hb), f19.keep (by decide) (BrV.below hb), f20.keep (by decide) (SlV.below hb), f23.keep (by decide) (BrV.below hb), f24.keep (by decide) (SlV.below hb), f25.keep (by decide) (CatV.below hb), f26.keep (by decide) (AnyV.below hb), f27.keep (by decide) (AnyV.below hb)⟩
  · obtain ⟨v2, v3, v8, v9, v10, v11, v12, v19, v22, v23, v26, v27, v28, v29, rfl, TB, f0, f5, f6, f7, f8, f9, f16, f19, f20, f23, f24, f25, f26, f27⟩ := hI
    refine want_none (by exact rfl) ?_
    go_wp2_with fail
    refine (K1.out _).mono ?_
    intro e w' hp
    obtain ⟨v, rfl, hv, hb0⟩ := BrV.of_packed hp (be_len 2 _) (Nat.le_trans hn0 (kSize TB))
    go_wp2_with fail
    have hb : Below W.heap.size W _ := hb0
    have TB' := kCall hb (kSize TB) TB
    refine hK.out _ _ (SS.out _ TB') ?_
    exact ⟨_, _, _, _, _, _, _, _, _, _, _, _, _, _, rfl, TB', f0.keep (by decide) (SlV.below hb), f5.keep (by decide) (BrV.below hb), f6.keep (by decide) (SlV.below hb), f7.keep (by decide) (SlV.below hb), Fl.new (hv), f9.keep (by decide) (SlV.below hb), f16.keep (by decide) (SlV.below hb), f19.keep (by decide) (BrV.below hb), f20.keep (by decide) (SlV.below hb), f23.keep (by decide) (BrV.below hb), f24.keep (by decide) (SlV.below hb), f25.keep (by decide) (CatV.below hb), f26.keep (by decide) (AnyV.below hb), f27.keep (by decide) (AnyV.below hb)⟩
  · obtain ⟨v2, v3, v8, v9, v10, v11, v12, v19, v22, v23, v26, v27, v28, v29, rfl, TB, f0, f5, f6, f7, f8, f9, f16, f19, f20, f23, f24, f25, f26, f27⟩ := hI
    obtain ⟨a11, c11, rfl, o11⟩ := f8.get (hd 8 (by simp))
    refine want_none (by exact rfl) ?_
    go_wp2_with fail
    refine hK.out _ _ (SS.out _ TB) ?_
    exact ⟨_, _, _, _, _, _, _, _, _, _, _, _, _, _, rfl, TB, f0.keep (by decide) id, f5.keep (by decide) id, f6.keep (by decide) id, f7.keep (by decide) id, f8.keep (by decide) id, Fl.new (⟨_, _, rfl, o11⟩), f16.keep (by decide) id, f19.keep (by decide) id, f20.keep (by decide) id, f23.keep (by decide) id, f24.keep (by decide) id, f25.keep (by decide) id, f26.keep (by decide) id, f27.keep (by decide) id⟩
  · obtain ⟨v2, v3, v8, v9, v10, v11, v12, v19, v22, v23, v26, v27, v28, v29, rfl, TB, f0, f5, f6, f7, f8, f9, f16, f19, f20, f23, f24, f25, f26, f27⟩ := hI
    refine want_none (by exact rfl) ?_
    go_wp2_with fail
    have hb : Below W.heap.size W _ := bAlloc W (.cells #[.int .u8 kl, .int .u8 kp, .int .u8 0, .int .u8 0] 5)
    have TB' := kCall hb (kSize TB) TB
    refine hK.out _ _ (SS.out _ TB') ?_
    exact ⟨_, _, _, _, _, _, _, _, _, _, _, _, _, _, rfl, TB', f0.keep (by decide) (SlV.below hb), f5.keep (by decide) (BrV.below hb), f6.keep (by decide) (SlV.below hb), f7.keep (by decide) (SlV.below hb), f8.keep (by decide) (BrV.below hb), f9.keep (by decide) (SlV.below hb), Fl.new (SlV.lit (Nat.le_trans hn0 (kSize TB)) 4 rfl (by intro n hn; simp at hn; omega) (by unfold maxLen; omega) _ rfl), f19.keep (by decide) (BrV.below hb), f20.keep (by decide) (SlV.below hb), f23.keep (by decide) (BrV.below hb), f24.keep (by decide) (SlV.below hb), f25.keep (by decide) (CatV.below hb), f26.keep (by decide) (AnyV.below hb), f27.keep (by decide) (AnyV.below hb)⟩
  · obtain ⟨v2, v3, v8, v9, v10, v11, v12, v19, v22, v23, v26, v27, v28, v29, rfl, TB, f0, f5, f6, f7, f8, f9, f16, f19, f20, f23, f24, f25, f26, f27⟩ := hI
    refine want_none (by exact rfl) ?_
    go_wp2_with fail
    refine (K2.out _).mono ?_
    intro e w' hp
    obtain ⟨v, rfl, hv, hb0⟩ := BrV.of_packed hp (be_len 4 _) (Nat.le_trans hn0 (kSize TB))
    go_wp2_with fail
    have hb : Below W.heap.size W _ := hb0
    have TB' := kCall hb (kSize TB) TB
    refine hK.out _ _ (SS.out _ TB') ?_
    exact ⟨_, _, _, _, _, _, _, _, _, _, _, _, _, _, rfl, TB', f0.keep (by decide) (SlV.below hb), f5.keep (by decide) (BrV.below hb), f6.keep (by decide) (SlV.below hb), f7.keep (by decide) (SlV.below hb), f8.keep (by decide) (BrV.below hb), f9.keep (by decide) (SlV.below hb), f16.keep (by decide) (SlV.below hb), Fl.new (hv), f20.keep (by decide) (SlV.below hb), f23.keep (by decide) (BrV.below hb), f24.keep (by decide) (SlV.below hb), f25.keep (by decide) (CatV.below hb), f26.keep (by decide) (AnyV.below hb), f27.keep (by decide) (AnyV.below hb)⟩
  · obtain ⟨v2, v3, v8, v9, v10, v11, v12, v19, v22, v23, v26, v27, v28, v29, rfl, TB, f0, f5, f6, f7, f8, f9, f16, f19, f20, f23, f24, f25, f26, f27⟩ := hI
    obtain ⟨a22, c22, rfl, o22⟩ := f19.get (hd 19 (by simp))
    refine want_none (by exact rfl) ?_
    go_wp2_with fail
    refine hK.out _ _ (SS.out _ TB) ?_
    exact ⟨_, _, _, _, _, _, _, _, _, _, _, _, _, _, rfl, TB, f0.keep (by decide) id, f5.keep (by decide) id, f6.keep (by decide) id, f7.keep (by decide) id, f8.keep (by decide) id, f9.keep (by decide) id, f16.keep (by decide) id, f19.keep (by decide) id, Fl.new (⟨_, _, rfl, o22⟩), f23.keep (by decide) id, f24.keep (by decide) id, f25.keep (by decide) id, f26.keep (by decide) id, f27.keep (by decide) id⟩
  · obtain ⟨v2, v3, v8, v9, v10, v11, v12, v19, v22, v23, v26, v27, v28, v29, rfl, TB, f0, f5, f6, f7, f8, f9, f16, f19, f20, f23, f24, f25, f26, f27⟩ := hI
    refine want_none (by exact rfl) ?_
    go_wp2_with fail
    refine (K3.out _).mono ?_
    intro e w' hp
    obtain ⟨v, rfl, hv, hb0⟩ := BrV.of_packed hp (be_len 4 _) (Nat.le_trans hn0 (kSize TB))
    go_wp2_with fail
    have hb : Below W.heap.size W _ := hb0
    have TB' := kCall hb (kSize TB) TB
    refine hK.out _ _ (SS.out _ TB') ?_
    exact ⟨_, _, _, _, _, _, _, _, _, _, _, _, _, _, rfl, TB', f0.keep (by decide) (SlV.below hb), f5.keep (by decide) (BrV.below hb), f6.keep (by decide) (SlV.below hb), f7.keep (by decide) (SlV.below hb), f8.keep (by decide) (BrV.below hb), f9.keep (by decide) (SlV.below hb), f16.keep (by decide) (SlV.below hb), f19.keep (by decide) (BrV.below hb), f20.keep (by decide) (SlV.below hb), Fl.new (hv), f24.keep (by decide) (SlV.below hb), f25.keep (by decide) (CatV.below hb), f26.keep (by decide) (AnyV.below hb), f27.keep (by decide) (AnyV.below hb)⟩
  · obtain ⟨v2, v3, v8, v9, v10, v11, v12, v19, v22, v23, v26, v27, v28, v29, rfl, TB, f0, f5, f6, f7, f8, f9, f16, f19, f20, f23, f24, f25, f26, f27⟩ := hI
    obtain ⟨a26, c26, rfl, o26⟩ := f23.get (hd 23 (by simp))
    refine want_none (by exact rfl) ?_
    go_wp2_with fail
    refine hK.out _ _ (SS.out _ TB) ?_
    exact ⟨_, _, _, _, _, _, _, _, _, _, _, _, _, _, rfl, TB, f0.keep (by decide) id, f5.keep (by decide) id, f6.keep (by decide) id, f7.keep (by decide) id, f8.keep (by decide) id, f9.keep (by decide) id, f16.keep (by decide) id, f19.keep (by decide) id, f20.keep (by decide) id, f23.keep (by decide) id, Fl.new (⟨_, _, rfl, o26⟩), f25.keep (by decide) id, f26.keep (by decide) id, f27.keep (by decide) id⟩
  · obtain ⟨v2, v3, v8, v9, v10, v11, v12, v19, v22, v23, v26, v27, v28, v29, rfl, TB, f0, f5, f6, f7, f8, f9, f16, f19, f20, f23, f24, f25, f26, f27⟩ := hI
    obtain ⟨a3, c3, rfl, o3⟩ := f0.get (hd 0 (by simp))
    obtain ⟨a9, c9, rfl, o9⟩ := f6.get (hd 6 (by simp))
    obtain ⟨a10, c10, rfl, o10⟩ := f7.get (hd 7 (by simp))
    obtain ⟨a12, c12, rfl, o12⟩ := f9.get (hd 9 (by simp))
    obtain ⟨a19, c19, rfl, o19⟩ := f16.get (hd 16 (by simp))
    obtain ⟨a23, c23, rfl, o23⟩ := f20.get (hd 20 (by simp))
    obtain ⟨a27, c27, rfl, o27⟩ := f24.get (hd 24 (by simp))
    refine want_none (by exact rfl) ?_
    go_wp2_with fail
    have hb : Below W.heap.size W _ := bAlloc W (.cells #[.slice a3 2 c3, .slice a9 2 c9, .slice a10 2 c10, .slice a12 2 c12, .slice a19 4 c19, .slice a23 4 c23, .slice a27 4 c27] 22)
    have TB' := kCall hb (kSize TB) TB
    refine hK.out _ _ (SS.out _ TB') ?_
    exact ⟨_, _, _, _, _, _, _, _, _, _, _, _, _, _, rfl, TB', f0.keep (by decide) (SlV.below hb), f5.keep (by decide) (BrV.below hb), f6.keep (by decide) (SlV.below hb), f7.keep (by decide) (SlV.below hb), f8.keep (by decide) (BrV.below hb), f9.keep (by decide) (SlV.below hb), f16.keep (by decide) (SlV.below hb), f19.keep (by decide) (BrV.below hb), f20.keep (by decide) (SlV.below hb), f23.keep (by decide) (BrV.below hb), f24.keep (by decide) (SlV.below hb), Fl.new (⟨_, [⟨a3, 2, c3, [69, 0]⟩, ⟨a9, 2, c9, be (20 + len) 2⟩, ⟨a10, 2, c10, [0, 0]⟩, ⟨a12, 2, c12, be 16384 2⟩, ⟨a19, 4, c19, [kl, kp, 0, 0]⟩, ⟨a23, 4, c23, be kf 4⟩, ⟨a27, 4, c27, be kt 4⟩], rfl, rfl, sls_box (Box.new _ _ _) (by intro s hs; simp only [List.mem_cons, List.not_mem_nil, or_false] at hs; rcases hs with rfl | rfl | rfl | rfl | rfl | rfl | rfl; exact o3.rd.below hb; exact o9.rd.below hb; exact o10.rd.below hb; exact o12.rd.below hb; exact o19.rd.below hb; exact o23.rd.below hb; exact o27.rd.below hb), by rw [HL.out]; simp [catZ], by simp only [sumN]; omega⟩), f26.keep (by decide) (AnyV.below hb), f27.keep (by decide) (AnyV.below hb)⟩
  · obtain ⟨v2, v3, v8, v9, v10, v11, v12, v19, v22, v23, v26, v27, v28, v29, rfl, TB, f0, f5, f6, f7, f8, f9, f16, f19, f20, f23, f24, f25, f26, f27⟩ := hI
    obtain ⟨g, ss, rfl, hs, hS, hZ, hT⟩ := f25.get (hd 25 (by simp))
    refine want_none (by exact rfl) ?_
    go_wp2_with fail
    refine (catV_call hs hS hZ hT).mono ?_
    rintro e w' ⟨a', l', c', rfl, o', hb0⟩
    go_wp2_with fail
    have hb : Below W.heap.size W _ := hb0
    have TB' := kCall hb (kSize TB) TB
    refine hK.out _ _ (SS.out _ TB') ?_
    exact ⟨_, _, _, _, _, _, _, _, _, _, _, _, _, _, rfl, TB', f0.keep (by decide) (SlV.below hb), f5.keep (by decide) (BrV.below hb), f6.keep (by decide) (SlV.below hb), f7.keep (by decide) (SlV.below hb), f8.keep (by decide) (BrV.below hb), f9.keep (by decide) (SlV.below hb), f16.keep (by decide) (SlV.below hb), f19.keep (by decide) (BrV.below hb), f20.keep (by decide) (SlV.below hb), f23.keep (by decide) (BrV.below hb), f24.keep (by decide) (SlV.below hb), f25.keep (by decide) (CatV.below hb), Fl.new (⟨_, _, _, rfl, o'.rebase (Nat.le_trans hn0 (kSize TB))⟩), f27.keep (by decide) (AnyV.below hb)⟩
  · obtain ⟨v2, v3, v8, v9, v10, v11, v12, v19, v22, v23, v26, v27, v28, v29, rfl, TB, f0, f5, f6, f7, f8, f9, f16, f19, f20, f23, f24, f25, f26, f27⟩ := hI
    obtain ⟨a29, l29, c29, rfl, o29⟩ := f26.get (hd 26 (by simp))
    refine want_none (by exact rfl) ?_
    go_wp2_with fail
    refine hK.out _ _ (SS.out _ TB) ?_
    exact ⟨_, _, _, _, _, _, _, _, _, _, _, _, _, _, rfl, TB, f0.keep (by decide) id, f5.keep (by decide) id, f6.keep (by decide) id, f7.keep (by decide) id, f8.keep (by decide) id, f9.keep (by decide) id, f16.keep (by decide) id, f19.keep (by decide) id, f20.keep (by decide) id, f23.keep (by decide) id, f24.keep (by decide) id, f25.keep (by decide) id, f26.keep (by decide) id, Fl.new (⟨_, _, _, rfl, o29⟩)⟩
  · obtain ⟨v2, v3, v8, v9, v10, v11, v12, v19, v22, v23, v26, v27, v28, v29, rfl, TB, f0, f5, f6, f7, f8, f9, f16, f19, f20, f23, f24, f25, f26, f27⟩ := hI
    obtain ⟨a2, l2, c2, rfl, o2⟩ := f27.get (hall 27 (by decide))
    have O2 := Lib.hid (show Own W w.heap.size a2 l2 c2 L by rw [← hnn.out]; exact o2)
    have B2 := Lib.hid (B0.out.trans (TB.out.mono B0.out.size))
    clear o2 f0 f5 f6 f7 f8 f9 f16 f19 f20 f23 f24 f25 f26 f27 TB hall
    go_wp2
    go_ret
    exact ⟨a2, l2, c2, rfl, O2.out, B2.out⟩
end Go.Proofs.Ytgjkbaplfbiomaa
