/-
  withPseudoHead, packWithoutSum and PackDatagram of the program, and the law of PackDatagram.
  ReadFrame of the program.
  isSumRight, datagramIn and ReadDatagram of the program, and the law of ReadDatagram.
  The law FnDatagrams, at the landed program.
-/
import Derived.Test.YtmcllaefjgdbeaaDatagramsM3
import Derived.Test.YtmcllaefjgdbeaaDatagramsM1
import Derived.Test.YtmcllaefjgdbeaaDatagramsM2
import Derived.Test.YtmcllaefjgdbeaaDatagramsM0
namespace Go.Proofs.Ytmcllaefjgdbeaa
open Go.ChangeShapes Go.WideShapes Go.ChangeAt Go.RowKit

set_option maxRecDepth 20000 in
set_option maxHeartbeats 1000000 in
theorem withHead_any (f t p : Int) (a : Option Addr) (len cap : Nat) (zs : List Int) (w : World) (hr : Rd w a len cap zs) (hp : phB f t p len = true) (hl : len ≤ 1000) :
    Calls Try.prog 46 #[.int .i64 f, .int .i64 t, .int .i64 p, .slice a len cap] w (FreshA w (pseudoL f t p zs.length ++ zs)) := by
  have K := Lib.hid (fun W => implPseudoHead f t p len W)
  rw [phC, phP, if_pos hp, if_pos hp] at K
  rw [hr.length]
  have HL := Lib.hid (pseudoL_len f t p len)
  generalize pseudoL f t p len = L at *
  have HR := Lib.hid hr
  have hfb := fld_br
  clear hr hp
  go_enter Try.func46, Try.ntmps46
  go_wp2_with fail
  refine (K.out _).mono ?_
  rintro e w1 ⟨a1, l1, c1, rfl, o1, b1⟩
  obtain rfl : l1 = 12 := o1.length.symm.trans HL.out
  have O1 := Lib.hid o1.rd
  have B1 := Lib.hid b1
  clear o1 b1
  go_wp2_with fail
  refine (concat2 _ _ _ _ _ _ _ _ _ _ _ (Box.new _ _ _) (O1.out.alloc _) ((HR.out.below B1.out).alloc _) (by omega)).mono ?_
  rintro e w2 ⟨a2, l2, c2, rfl, o2, b2⟩
  have B2 := Lib.hid ((B1.out.alloc B1.out.size _).trans (b2.mono (B1.out.alloc B1.out.size _).size))
  have O2 := Lib.hid (o2.rebase (show w.heap.size ≤ _ from by have := B1.out.size; simp; omega))
  clear o2 b2 O1 B1
  go_wp2
  go_ret
  exact ⟨_, _, _, rfl, O2.out, B2.out⟩

set_option maxRecDepth 20000 in
set_option maxHeartbeats 4000000 in
theorem withoutSum_any (df dt : Int) (a : Option Addr) (len cap : Nat) (zs : List Int) (w : World) (hr : Rd w a len cap zs) (h0 : 0 ≤ df ∧ df ≤ 65535) (h1 : 0 ≤ dt ∧ dt ≤ 65535) (hl : len ≤ 552) :
    Calls Try.prog 44 #[.agg #[.int .i64 df, .int .i64 dt, .slice a len cap]] w (FreshA w (dgH df dt zs)) := by
  have K0 := Lib.hid (show ∀ W, Calls Try.prog 47 #[.int .i64 df, .int .i64 2] W (Packed W 0 (be df 2)) from fun W => implPack_ok df 2 W h0.1 (by omega) (by simp only [Int.reducePow]; omega))
  have K1 := Lib.hid (show ∀ W, Calls Try.prog 47 #[.int .i64 dt, .int .i64 2] W (Packed W 0 (be dt 2)) from fun W => implPack_ok dt 2 W h1.1 (by omega) (by simp only [Int.reducePow]; omega))
  have K2 := Lib.hid (show ∀ W, Calls Try.prog 47 #[.int .i64 (8 + len), .int .i64 2] W (Packed W 0 (be (8 + len) 2)) from fun W => implPack_ok (8 + len) 2 W (by omega) (by omega) (by simp only [Int.reducePow]; omega))
  obtain ⟨L, hL⟩ : ∃ L, L = dgH df dt zs := ⟨_, rfl⟩
  have HL : Hid (L = be df 2 ++ be dt 2 ++ be (8 + len) 2 ++ [0, 0] ++ zs) := by rw [hL, dgH, hr.length]; rfl
  rw [← hL]
  have HR := Lib.hid (hr.alloc (.cells #[.int .i64 df, .int .i64 dt, .slice a len cap] 25))
  clear hL h0 h1 hr
  have hfb := fld_br
  have hwr : IntKind.i64.wrap (8 + (len : Int)) = 8 + len := IntWalk.i64_in _ (by omega)
  have B0 := Lib.hid ((Below.refl w.heap.size w).alloc (Nat.le_refl _) (.cells #[.int .i64 df, .int .i64 dt, .slice a len cap] 25))
  have X0 := Lib.hid (Box.new w 25 #[.int .i64 df, .int .i64 dt, .slice a len cap])
  go_enter Try.func44, Try.ntmps44
  go_wp2_with fail
  obtain ⟨n0, hn0⟩ : ∃ n0, n0 = w.heap.size := ⟨_, rfl⟩
  generalize w.alloc (.cells #[.int .i64 df, .int .i64 dt, .slice a len cap] 25) = W0 at *
  have SS := Lib.hid (show ∀ W, Hid (Below W0.heap.size W0 W) → W.cell? ⟨w.heap.size, 0, none⟩ = some (.int .i64 df) ∧ W.cell? ⟨w.heap.size, 1, none⟩ = some (.int .i64 dt) ∧ W.cell? ⟨w.heap.size, 2, none⟩ = some (.slice a len cap) ∧ Hid (Below W0.heap.size W0 W) from fun W h => by
    obtain ⟨_, x0, x1, x2⟩ := (X0.out.below h.out X0.out.lt).three
    exact ⟨x0, x1, x2, h⟩)
  have T1 := Lib.hid (Below.refl W0.heap.size W0)
  have hnn := Lib.hid hn0
  have hn0 : n0 ≤ W0.heap.size := by rw [hnn.out]; exact B0.out.size
  have TD := kDrew T1
  refine wp_region_held_drew (S := fun W => W.cell? ⟨w.heap.size, 0, none⟩ = some (.int .i64 df) ∧ W.cell? ⟨w.heap.size, 1, none⟩ = some (.int .i64 dt) ∧ W.cell? ⟨w.heap.size, 2, none⟩ = some (.slice a len cap) ∧ Hid (Below W0.heap.size W0 W)) (by kernel_rfl) (SS.out _ TD) (fun hHeld => ?_)
  refine wpAnyH_take (i := 0) (v := ?_) (by simp only [List.getElem?_toArray, List.getElem?_cons_zero]; exact rfl) (by kernel_rfl) (by kernel_rfl) (by kernel_rfl) (by exact fun _ _ _ h => h) (Or.inl ⟨by rfl, ?_⟩) hHeld ?_
  rotate_left
  · intro w' hSw
    obtain ⟨s0, s1, s2, _⟩ := hSw
    go_simp
    try with_reducible rfl
  try simp only [Act.put, List.setIfInBounds_toArray, List.set_cons_zero, List.set_cons_succ]
  refine wpAnyH_take (i := 1) (v := ?_) (by simp only [List.getElem?_toArray, List.getElem?_cons_zero, List.getElem?_cons_succ]; exact rfl) (by kernel_rfl) (by kernel_rfl) (by kernel_rfl) (by exact fun _ _ _ h => h) (Or.inl ⟨by rfl, ?_⟩) hHeld ?_
  rotate_left
  · intro w' hSw
    obtain ⟨s0, s1, s2, _⟩ := hSw
    go_simp
    try with_reducible rfl
  try simp only [Act.put, List.setIfInBounds_toArray, List.set_cons_zero, List.set_cons_succ]
  refine wpAnyH_take (i := 4) (v := ?_) (by simp only [List.getElem?_toArray, List.getElem?_cons_zero, List.getElem?_cons_succ]; exact rfl) (by kernel_rfl) (by kernel_rfl) (by kernel_rfl) (by exact fun _ _ _ h => h) (Or.inl ⟨by rfl, ?_⟩) hHeld ?_
  rotate_left
  · intro w' hSw
    obtain ⟨s0, s1, s2, _⟩ := hSw
    go_simp
    try with_reducible rfl
  try simp only [Act.put, List.setIfInBounds_toArray, List.set_cons_zero, List.set_cons_succ]
  refine wpAnyH_take (i := 5) (v := ?_) (by simp only [List.getElem?_toArray, List.getElem?_cons_zero, List.getElem?_cons_succ]; exact rfl) (by kernel_rfl) (by kernel_rfl) (by kernel_rfl) (by exact fun _ _ _ h => h) (Or.inl ⟨by rfl, ?_⟩) hHeld ?_
  rotate_left
  · intro w' hSw
    obtain ⟨s0, s1, s2, _⟩ := hSw
    go_simp
    try with_reducible rfl
  try simp only [Act.put, List.setIfInBounds_toArray, List.set_cons_zero, List.set_cons_succ]
  refine wpAnyH_take (i := 8) (v := ?_) (by simp only [List.getElem?_toArray, List.getElem?_cons_zero, List.getElem?_cons_succ]; exact rfl) (by kernel_rfl) (by kernel_rfl) (by kernel_rfl) (by exact fun _ _ _ h => h) (Or.inl ⟨by rfl, ?_⟩) hHeld ?_
  rotate_left
  · intro w' hSw
    obtain ⟨s0, s1, s2, _⟩ := hSw
    go_simp
    try with_reducible rfl
  try simp only [Act.put, List.setIfInBounds_toArray, List.set_cons_zero, List.set_cons_succ]
  refine wpAnyH_take (i := 9) (v := ?_) (by simp only [List.getElem?_toArray, List.getElem?_cons_zero, List.getElem?_cons_succ]; exact rfl) (by kernel_rfl) (by kernel_rfl) (by kernel_rfl) (by exact fun _ _ _ h => h) (Or.inl ⟨by rfl, ?_⟩) hHeld ?_
  rotate_left
  · intro w' hSw
    obtain ⟨s0, s1, s2, _⟩ := hSw
    go_simp
    try with_reducible rfl
  try simp only [Act.put, List.setIfInBounds_toArray, List.set_cons_zero, List.set_cons_succ]
  refine wpAnyH_take (i := 10) (v := ?_) (by simp only [List.getElem?_toArray, List.getElem?_cons_zero, List.getElem?_cons_succ]; exact rfl) (by kernel_rfl) (by kernel_rfl) (by kernel_rfl) (by exact fun _ _ _ h => h) (Or.inl ⟨by rfl, ?_⟩) hHeld ?_
  rotate_left
  · intro w' hSw
    obtain ⟨s0, s1, s2, _⟩ := hSw
    go_simp
    try with_reducible rfl
  try simp only [Act.put, List.setIfInBounds_toArray, List.set_cons_zero, List.set_cons_succ]
  refine wpAnyH_take (i := 11) (v := ?_) (by simp only [List.getElem?_toArray, List.getElem?_cons_zero, List.getElem?_cons_succ]; exact rfl) (by kernel_rfl) (by kernel_rfl) (by kernel_rfl) (by exact fun _ _ _ h => h) (Or.inl ⟨by rfl, ?_⟩) hHeld ?_
  rotate_left
  · intro w' hSw
    obtain ⟨s0, s1, s2, _⟩ := hSw
    go_simp
    try with_reducible rfl
  try simp only [Act.put, List.setIfInBounds_toArray, List.set_cons_zero, List.set_cons_succ]
  refine wpAnyH_take (i := 15) (v := ?_) (by simp only [List.getElem?_toArray, List.getElem?_cons_zero, List.getElem?_cons_succ]; exact rfl) (by kernel_rfl) (by kernel_rfl) (by kernel_rfl) (by exact fun _ _ _ h => h) (Or.inl ⟨by rfl, ?_⟩) hHeld ?_
  rotate_left
  · intro w' hSw
    obtain ⟨s0, s1, s2, _⟩ := hSw
    go_simp
    try with_reducible rfl
  try simp only [Act.put, List.setIfInBounds_toArray, List.set_cons_zero, List.set_cons_succ]
  refine wpAnyH_take (i := 16) (v := ?_) (by simp only [List.getElem?_toArray, List.getElem?_cons_zero, List.getElem?_cons_succ]; exact rfl) (by kernel_rfl) (by kernel_rfl) (by kernel_rfl) (by exact fun _ _ _ h => h) (Or.inl ⟨by rfl, ?_⟩) hHeld ?_
  rotate_left
  · intro w' hSw
    obtain ⟨s0, s1, s2, _⟩ := hSw
    go_simp
    try with_reducible rfl
  try simp only [Act.put, List.setIfInBounds_toArray, List.set_cons_zero, List.set_cons_succ]
  refine flow_go (Inv := fun listed ac W => ∃ v2 v5 v6 v9 v10 v15 v16 v17 v20 v21 : Value, ac = { tmps := #[.agg #[.int .i64 df, .int .i64 dt, .slice a len cap], .pointer (some ⟨w.heap.size, 0, none⟩), v2, .pointer (some ⟨w.heap.size, 0, none⟩), .int .i64 df, v5, v6, .pointer (some ⟨w.heap.size, 1, none⟩), .int .i64 dt, v9, v10, .pointer (some ⟨w.heap.size, 2, none⟩), .slice a len cap, .int .i64 len, .int .i64 (8 + len), v15, v16, v17, .pointer (some ⟨w.heap.size, 2, none⟩), .slice a len cap, v20, v21], defers := [] } ∧ Hid (Below W0.heap.size W0 W) ∧ Fl listed 2 (BrV W n0 v5 2 (be df 2)) ∧ Fl listed 3 (SlV W n0 v6 2 (be df 2)) ∧ Fl listed 6 (BrV W n0 v9 2 (be dt 2)) ∧ Fl listed 7 (SlV W n0 v10 2 (be dt 2)) ∧ Fl listed 12 (BrV W n0 v15 2 (be (8 + len) 2)) ∧ Fl listed 13 (SlV W n0 v16 2 (be (8 + len) 2)) ∧ Fl listed 14 (SlV W n0 v17 2 [0, 0]) ∧ Fl listed 17 (CatV W v20 5 L) ∧ Fl listed 18 (AnyV W n0 v21 L) ∧ Fl listed 19 (AnyV W n0 v2 L)) [2, 3, 6, 7, 12, 13, 14, 17, 18, 19] (by kernel_rfl) (by kernel_rfl) ⟨_, _, _, _, _, _, _, _, _, _, rfl, TD, Fl.not (by kernel_rfl), Fl.not (by kernel_rfl), Fl.not (by kernel_rfl), Fl.not (by kernel_rfl), Fl.not (by kernel_rfl), Fl.not (by kernel_rfl), Fl.not (by kernel_rfl), Fl.not (by kernel_rfl), Fl.not (by kernel_rfl), Fl.not (by kernel_rfl)⟩
    (FlowAll.cons [] (by simp only [List.getElem?_toArray, List.getElem?_cons_zero, List.getElem?_cons_succ]; exact rfl) (by kernel_rfl) (fun listed ac W hI hu hd K hK => ?_)
      (FlowAll.cons [2] (by simp only [List.getElem?_toArray, List.getElem?_cons_zero, List.getElem?_cons_succ]; exact rfl) (by kernel_rfl) (fun listed ac W hI hu hd K hK => ?_)
      (FlowAll.cons [] (by simp only [List.getElem?_toArray, List.getElem?_cons_zero, List.getElem?_cons_succ]; exact rfl) (by kernel_rfl) (fun listed ac W hI hu hd K hK => ?_)
      (FlowAll.cons [6] (by simp only [List.getElem?_toArray, List.getElem?_cons_zero, List.getElem?_cons_succ]; exact rfl) (by kernel_rfl) (fun listed ac W hI hu hd K hK => ?_)
      (FlowAll.cons [] (by simp only [List.getElem?_toArray, List.getElem?_cons_zero, List.getElem?_cons_succ]; exact rfl) (by kernel_rfl) (fun listed ac W hI hu hd K hK => ?_)
      (FlowAll.cons [12] (by simp only [List.getElem?_toArray, List.getElem?_cons_zero, List.getElem?_cons_succ]; exact rfl) (by kernel_rfl) (fun listed ac W hI hu hd K hK => ?_)
      (FlowAll.cons [] (by simp only [List.getElem?_toArray, List.getElem?_cons_zero, List.getElem?_cons_succ]; exact rfl) (by kernel_rfl) (fun listed ac W hI hu hd K hK => ?_)
      (FlowAll.cons [3, 7, 13, 14] (by simp only [List.getElem?_toArray, List.getElem?_cons_zero, List.getElem?_cons_succ]; exact rfl) (by kernel_rfl) (fun listed ac W hI hu hd K hK => ?_)
      (FlowAll.cons [17] (by simp only [List.getElem?_toArray, List.getElem?_cons_zero, List.getElem?_cons_succ]; exact rfl) (by kernel_rfl) (fun listed ac W hI hu hd K hK => ?_)
      (FlowAll.cons [18] (by simp only [List.getElem?_toArray, List.getElem?_cons_zero, List.getElem?_cons_succ]; exact rfl) (by kernel_rfl) (fun listed ac W hI hu hd K hK => ?_)
      FlowAll.nil))))))))))
    (fun listed ac W hI hall => ?_)
  · obtain ⟨v2, v5, v6, v9, v10, v15, v16, v17, v20, v21, rfl, TB, f2, f3, f6, f7, f12, f13, f14, f17, f18, f19⟩ := hI
    have hnW : n0 ≤ W.heap.size := Nat.le_trans hn0 (kSize TB)
    refine want_none (by exact rfl) ?_
    go_wp2_with fail
    refine (K0.out _).mono ?_
    intro e w' hp
    obtain ⟨v, rfl, hv, hb0⟩ := BrV.of_packed hp (be_len 2 _) hnW
    go_wp2_with fail
    have hb : Below W.heap.size W _ := hb0
    have TB' := kCall hb (kSize TB) TB
    refine hK.out _ _ (SS.out _ TB') ?_
    exact ⟨_, _, _, _, _, _, _, _, _, _, rfl, TB', Fl.new (hv), f3.keep (by decide) (SlV.below hb), f6.keep (by decide) (BrV.below hb), f7.keep (by decide) (SlV.below hb), f12.keep (by decide) (BrV.below hb), f13.keep (by decide) (SlV.below hb), f14.keep (by decide) (SlV.below hb), f17.keep (by decide) (CatV.below hb), f18.keep (by decide) (AnyV.below hb), f19.keep (by decide) (AnyV.below hb)⟩
  · obtain ⟨v2, v5, v6, v9, v10, v15, v16, v17, v20, v21, rfl, TB, f2, f3, f6, f7, f12, f13, f14, f17, f18, f19⟩ := hI
    have hnW : n0 ≤ W.heap.size := Nat.le_trans hn0 (kSize TB)
    obtain ⟨a5, c5, rfl, o5⟩ := f2.get (hd 2 (by simp))
    refine want_none (by exact rfl) ?_
    go_wp2_with fail
    refine hK.out _ _ (SS.out _ TB) ?_
    exact ⟨_, _, _, _, _, _, _, _, _, _, rfl, TB, f2.keep (by decide) id, Fl.new (⟨_, _, rfl, o5⟩), f6.keep (by decide) id, f7.keep (by decide) id, f12.keep (by decide) id, f13.keep (by decide) id, f14.keep (by decide) id, f17.keep (by decide) id, f18.keep (by decide) id, f19.keep (by decide) id⟩
  · obtain ⟨v2, v5, v6, v9, v10, v15, v16, v17, v20, v21, rfl, TB, f2, f3, f6, f7, f12, f13, f14, f17, f18, f19⟩ := hI
    have hnW : n0 ≤ W.heap.size := Nat.le_trans hn0 (kSize TB)
    refine want_none (by exact rfl) ?_
    go_wp2_with fail
    refine (K1.out _).mono ?_
    intro e w' hp
    obtain ⟨v, rfl, hv, hb0⟩ := BrV.of_packed hp (be_len 2 _) hnW
    go_wp2_with fail
    have hb : Below W.heap.size W _ := hb0
    have TB' := kCall hb (kSize TB) TB
    refine hK.out _ _ (SS.out _ TB') ?_
    exact ⟨_, _, _, _, _, _, _, _, _, _, rfl, TB', f2.keep (by decide) (BrV.below hb), f3.keep (by decide) (SlV.below hb), Fl.new (hv), f7.keep (by decide) (SlV.below hb), f12.keep (by decide) (BrV.below hb), f13.keep (by decide) (SlV.below hb), f14.keep (by decide) (SlV.below hb), f17.keep (by decide) (CatV.below hb), f18.keep (by decide) (AnyV.below hb), f19.keep (by decide) (AnyV.below hb)⟩
  · obtain ⟨v2, v5, v6, v9, v10, v15, v16, v17, v20, v21, rfl, TB, f2, f3, f6, f7, f12, f13, f14, f17, f18, f19⟩ := hI
    have hnW : n0 ≤ W.heap.size := Nat.le_trans hn0 (kSize TB)
    obtain ⟨a9, c9, rfl, o9⟩ := f6.get (hd 6 (by simp))
    refine want_none (by exact rfl) ?_
    go_wp2_with fail
    refine hK.out _ _ (SS.out _ TB) ?_
    exact ⟨_, _, _, _, _, _, _, _, _, _, rfl, TB, f2.keep (by decide) id, f3.keep (by decide) id, f6.keep (by decide) id, Fl.new (⟨_, _, rfl, o9⟩), f12.keep (by decide) id, f13.keep (by decide) id, f14.keep (by decide) id, f17.keep (by decide) id, f18.keep (by decide) id, f19.keep (by decide) id⟩
  · obtain ⟨v2, v5, v6, v9, v10, v15, v16, v17, v20, v21, rfl, TB, f2, f3, f6, f7, f12, f13, f14, f17, f18, f19⟩ := hI
    have hnW : n0 ≤ W.heap.size := Nat.le_trans hn0 (kSize TB)
    refine want_none (by exact rfl) ?_
    go_wp2_with fail
    refine (K2.out _).mono ?_
    intro e w' hp
    obtain ⟨v, rfl, hv, hb0⟩ := BrV.of_packed hp (be_len 2 _) hnW
    go_wp2_with fail
    have hb : Below W.heap.size W _ := hb0
    have TB' := kCall hb (kSize TB) TB
    refine hK.out _ _ (SS.out _ TB') ?_
    exact ⟨_, _, _, _, _, _, _, _, _, _, rfl, TB', f2.keep (by decide) (BrV.below hb), f3.keep (by decide) (SlV.below hb), f6.keep (by decide) (BrV.below hb), f7.keep (by decide) (SlV.below hb), Fl.new (hv), f13.keep (by decide) (SlV.below hb), f14.keep (by decide) (SlV.below hb), f17.keep (by decide) (CatV.below hb), f18.keep (by decide) (AnyV.below hb), f19.keep (by decide) (AnyV.below hb)⟩
  · obtain ⟨v2, v5, v6, v9, v10, v15, v16, v17, v20, v21, rfl, TB, f2, f3, f6, f7, f12, f13, f14, f17, f18, f19⟩ := hI
    have hnW : n0 ≤ W.heap.size := Nat.le_trans hn0 (kSize TB)
    obtain ⟨a15, c15, rfl, o15⟩ := f12.get (hd 12 (by simp))
    refine want_none (by exact rfl) ?_
    go_wp2_with fail
    refine hK.out _ _ (SS.out _ TB) ?_
    exact ⟨_, _, _, _, _, _, _, _, _, _, rfl, TB, f2.keep (by decide) id, f3.keep (by decide) id, f6.keep (by decide) id, f7.keep (by decide) id, f12.keep (by decide) id, Fl.new (⟨_, _, rfl, o15⟩), f14.keep (by decide) id, f17.keep (by decide) id, f18.keep (by decide) id, f19.keep (by decide) id⟩
  · obtain ⟨v2, v5, v6, v9, v10, v15, v16, v17, v20, v21, rfl, TB, f2, f3, f6, f7, f12, f13, f14, f17, f18, f19⟩ := hI
    have hnW : n0 ≤ W.heap.size := Nat.le_trans hn0 (kSize TB)
    refine want_none (by exact rfl) ?_
    go_wp2_with fail
    have hb : Below W.heap.size W _ := bAlloc W (.cells #[.int .u8 0, .int .u8 0] 5)
    have TB' := kCall hb (kSize TB) TB
    refine hK.out _ _ (SS.out _ TB') ?_
    exact ⟨_, _, _, _, _, _, _, _, _, _, rfl, TB', f2.keep (by decide) (BrV.below hb), f3.keep (by decide) (SlV.below hb), f6.keep (by decide) (BrV.below hb), f7.keep (by decide) (SlV.below hb), f12.keep (by decide) (BrV.below hb), f13.keep (by decide) (SlV.below hb), Fl.new (SlV.lit hnW 2 rfl (by intro n hn; simp at hn; omega) (by unfold maxLen; omega) _ rfl), f17.keep (by decide) (CatV.below hb), f18.keep (by decide) (AnyV.below hb), f19.keep (by decide) (AnyV.below hb)⟩
  · obtain ⟨v2, v5, v6, v9, v10, v15, v16, v17, v20, v21, rfl, TB, f2, f3, f6, f7, f12, f13, f14, f17, f18, f19⟩ := hI
    have hnW : n0 ≤ W.heap.size := Nat.le_trans hn0 (kSize TB)
    obtain ⟨a6, c6, rfl, o6⟩ := f3.get (hd 3 (by simp))
    obtain ⟨a10, c10, rfl, o10⟩ := f7.get (hd 7 (by simp))
    obtain ⟨a16, c16, rfl, o16⟩ := f13.get (hd 13 (by simp))
    obtain ⟨a17, c17, rfl, o17⟩ := f14.get (hd 14 (by simp))
    refine want_none (by exact rfl) ?_
    go_wp2_with fail
    have hb : Below W.heap.size W _ := bAlloc W (.cells #[.slice a6 2 c6, .slice a10 2 c10, .slice a16 2 c16, .slice a17 2 c17, .slice a len cap] 22)
    have TB' := kCall hb (kSize TB) TB
    refine hK.out _ _ (SS.out _ TB') ?_
    exact ⟨_, _, _, _, _, _, _, _, _, _, rfl, TB', f2.keep (by decide) (BrV.below hb), f3.keep (by decide) (SlV.below hb), f6.keep (by decide) (BrV.below hb), f7.keep (by decide) (SlV.below hb), f12.keep (by decide) (BrV.below hb), f13.keep (by decide) (SlV.below hb), f14.keep (by decide) (SlV.below hb), Fl.new (⟨_, [⟨a6, 2, c6, be df 2⟩, ⟨a10, 2, c10, be dt 2⟩, ⟨a16, 2, c16, be (8 + len) 2⟩, ⟨a17, 2, c17, [0, 0]⟩, ⟨a, len, cap, zs⟩], rfl, rfl, sls_box (Box.new _ _ _) (by intro s hs; simp only [List.mem_cons, List.not_mem_nil, or_false] at hs; rcases hs with rfl | rfl | rfl | rfl | rfl; exact o6.rd.below hb; exact o10.rd.below hb; exact o16.rd.below hb; exact o17.rd.below hb; exact (HR.out.below TB.out).below hb), by rw [HL.out]; simp [catZ], by simp only [sumN]; omega⟩), f18.keep (by decide) (AnyV.below hb), f19.keep (by decide) (AnyV.below hb)⟩
  · obtain ⟨v2, v5, v6, v9, v10, v15, v16, v17, v20, v21, rfl, TB, f2, f3, f6, f7, f12, f13, f14, f17, f18, f19⟩ := hI
    have hnW : n0 ≤ W.heap.size := Nat.le_trans hn0 (kSize TB)
    obtain ⟨g, ss, rfl, hs, hS, hZ, hT⟩ := f17.get (hd 17 (by simp))
    refine want_none (by exact rfl) ?_
    go_wp2_with fail
    refine (catV_call hs hS hZ hT).mono ?_
    rintro e w' ⟨a', l', c', rfl, o', hb0⟩
    go_wp2_with fail
    have hb : Below W.heap.size W _ := hb0
    have TB' := kCall hb (kSize TB) TB
    refine hK.out _ _ (SS.out _ TB') ?_
    exact ⟨_, _, _, _, _, _, _, _, _, _, rfl, TB', f2.keep (by decide) (BrV.below hb), f3.keep (by decide) (SlV.below hb), f6.keep (by decide) (BrV.below hb), f7.keep (by decide) (SlV.below hb), f12.keep (by decide) (BrV.below hb), f13.keep (by decide) (SlV.below hb), f14.keep (by decide) (SlV.below hb), f17.keep (by decide) (CatV.below hb), Fl.new (⟨_, _, _, rfl, o'.rebase hnW⟩), f19.keep (by decide) (AnyV.below hb)⟩
  · obtain ⟨v2, v5, v6, v9, v10, v15, v16, v17, v20, v21, rfl, TB, f2, f3, f6, f7, f12, f13, f14, f17, f18, f19⟩ := hI
    have hnW : n0 ≤ W.heap.size := Nat.le_trans hn0 (kSize TB)
    obtain ⟨a21, l21, c21, rfl, o21⟩ := f18.get (hd 18 (by simp))
    refine want_none (by exact rfl) ?_
    go_wp2_with fail
    refine hK.out _ _ (SS.out _ TB) ?_
    exact ⟨_, _, _, _, _, _, _, _, _, _, rfl, TB, f2.keep (by decide) id, f3.keep (by decide) id, f6.keep (by decide) id, f7.keep (by decide) id, f12.keep (by decide) id, f13.keep (by decide) id, f14.keep (by decide) id, f17.keep (by decide) id, f18.keep (by decide) id, Fl.new (⟨_, _, _, rfl, o21⟩)⟩
  · obtain ⟨v2, v5, v6, v9, v10, v15, v16, v17, v20, v21, rfl, TB, f2, f3, f6, f7, f12, f13, f14, f17, f18, f19⟩ := hI
    have hnW : n0 ≤ W.heap.size := Nat.le_trans hn0 (kSize TB)
    obtain ⟨a2, l2, c2, rfl, o2⟩ := f19.get (hall 19 (by decide))
    have O2 := Lib.hid (show Own W w.heap.size a2 l2 c2 L by rw [← hnn.out]; exact o2)
    have B2 := Lib.hid (B0.out.trans (TB.out.mono B0.out.size))
    clear o2 f2 f3 f6 f7 f12 f13 f14 f17 f18 f19 TB hall
    go_wp2
    go_ret
    exact ⟨a2, l2, c2, rfl, O2.out, B2.out⟩

theorem dgL_splice (f t df dt : Int) (zs : List Int) (v : Int) (hv : v = dgT (dgSum f t 17 (dgH df dt zs))) (hb : 0 ≤ v ∧ v ≤ 65535) : dgL f t df dt zs = splice (dgH df dt zs) 6 (be v 2) := by
  rw [be2 v hb, hv]
  exact set2_splice 6 _ _ _ (by rw [dgH_len]; omega)
set_option maxRecDepth 20000 in
set_option maxHeartbeats 4000000 in
theorem implPackDatagram (f t df dt : Int) (a : Option Addr) (len cap : Nat) (zs : List Int) (w : World) (hr : Rd w a len cap zs) :
    Calls Try.prog 11 #[.int .i64 f, .int .i64 t, .agg #[.int .i64 df, .int .i64 dt, .slice a len cap]] w (Packed w (pdC f t df dt zs.length) (pdP f t df dt zs)) := by
  obtain ⟨q, hq⟩ : ∃ q, q = (inB f 0 4294967295 && inB t 0 4294967295) := ⟨_, rfl⟩
  obtain ⟨c, hc⟩ : ∃ c, c = dgC df dt len := ⟨_, rfl⟩
  obtain ⟨C, hC⟩ : ∃ C, C = pdC f t df dt zs.length := ⟨_, rfl⟩
  obtain ⟨L, hL⟩ : ∃ L, L = pdP f t df dt zs := ⟨_, rfl⟩
  rw [← hC, ← hL]
  have hCq : pdC f t df dt zs.length = if q then c else 3 := by rw [pdC, hq, hc, hr.length]; rfl
  have H3 : Hid (q = false → C = 3 ∧ L = []) := fun h => by
    rw [h] at hCq
    refine ⟨by rw [hC, hCq]; rfl, ?_⟩
    rw [hL, pdP, if_neg (by rw [hCq]; simp)]
  have H2 : Hid (q = true → c ≠ 0 → C = c ∧ L = []) := fun h h' => by
    rw [h] at hCq
    refine ⟨by rw [hC, hCq]; rfl, ?_⟩
    rw [hL, pdP, if_neg (by rw [hCq]; simpa using h')]
  have H1 : Hid (q = true → c = 0 → C = 0 ∧ L = dgL f t df dt zs) := fun h h' => by
    rw [h, h'] at hCq
    refine ⟨by rw [hC, hCq]; rfl, ?_⟩
    rw [hL, pdP, if_pos (by rw [hCq]; rfl)]
  have HP : Hid (q = true → c = 0 → len ≤ 552 → ∀ m : Nat, m ≤ 560 → phB f t 17 m = true) := fun h _ _ m hm => by
    unfold phB ipB
    rw [← hq, h, in_t (show (0 : Int) ≤ 17 ∧ (17 : Int) ≤ 255 by omega), in_t (show (0 : Int) ≤ (m : Int) ∧ (m : Int) ≤ 65535 by omega)]
    rfl
  have HD : Hid (c = 0 → (1 ≤ df ∧ df ≤ 65535) ∧ (1 ≤ dt ∧ dt ≤ 65535) ∧ len ≤ 552) := fun h => dgC_parts (hc ▸ h)
  have HQ := Lib.hid hq
  have KF := Lib.hid (fun W => implDatagramFault df dt a len cap W)
  rw [← hc] at KF
  have HR := Lib.hid hr
  have B0 := Lib.hid (((Below.refl w.heap.size w).alloc (Nat.le_refl _) (.cells #[.int .i64 df, .int .i64 dt, .slice a len cap] 25)).alloc (by simp) (.cells #[.int .i64 0, .slice none 0 0] 29))
  have X0 := Lib.hid ((Box.new w 25 #[.int .i64 df, .int .i64 dt, .slice a len cap]).alloc (.cells #[.int .i64 0, .slice none 0 0] 29))
  have R0 := Lib.hid (Box.new (w.alloc (.cells #[.int .i64 df, .int .i64 dt, .slice a len cap] 25)) 29 #[.int .i64 0, .slice none 0 0])
  simp only [World.size_alloc] at R0
  clear hq hc hC hL hCq hr
  go_enter Try.func11, Try.ntmps11
  go_wp2_with fail
  refine (ipBound_any f _).mono ?_
  rintro e w1 ⟨rfl, b1⟩
  have R1 := Lib.hid (R0.out.below b1 R0.out.lt)
  have X1 := Lib.hid (X0.out.below b1 X0.out.lt)
  have B1 := Lib.hid (B0.out.trans (b1.mono B0.out.size))
  clear b1 R0 X0 B0
  go_wp2_with fail
  refine (ipBound_any t _).mono ?_
  rintro e w2 ⟨rfl, b2⟩
  have R2 := Lib.hid (R1.out.below b2 R1.out.lt)
  have X2 := Lib.hid (X1.out.below b2 X1.out.lt)
  have B2 := Lib.hid (B1.out.trans (b2.mono B1.out.size))
  clear b2 R1 X1 B1
  go_wp2_with fail
  refine (within2 _ _ _ _ _ _ _ _ _ (Box.new _ _ _)).mono ?_
  rintro e w3 ⟨rfl, b3⟩
  have R3 := Lib.hid ((R2.out.alloc _).below b3 (R2.out.alloc _).lt)
  have X3 := Lib.hid ((X2.out.alloc _).below b3 (X2.out.alloc _).lt)
  have B3 := Lib.hid ((B2.out.alloc B2.out.size _).trans (b3.mono (B2.out.alloc B2.out.size _).size))
  clear b3 R2 X2 B2
  rw [← HQ.out]
  cases q
  · obtain ⟨rfl, rfl⟩ := H3.out rfl
    obtain ⟨_, r0, r1⟩ := R3.out.two
    have f0 := R3.out.frozen 0
    have f1 := R3.out.frozen 1
    go_wp2
    exact bodyPost_ret (v := .agg #[.int .i64 3, .slice none 0 0]) (by simp [results, Try.results11, go_sem, r0, r1]) rfl ⟨none, 0, 0, rfl, Own.nil _ _, (B3.out.setCell (by simp) _).setCell (by simp) _⟩
  obtain ⟨_, x0, x1, x2⟩ := X3.out.three
  go_wp2_with fail
  refine (KF.out _).mono ?_
  rintro e w4 ⟨rfl, b4⟩
  have R4 := Lib.hid (R3.out.below b4 R3.out.lt)
  have X4 := Lib.hid (X3.out.below b4 X3.out.lt)
  have B4 := Lib.hid (B3.out.trans (b4.mono B3.out.size))
  clear b4 R3 X3 B3 KF x0 x1 x2
  by_cases hc0 : c = 0
  case neg =>
    obtain ⟨rfl, rfl⟩ := H2.out (by simp) hc0
    have hne : (C != 0) = true := by simpa using hc0
    obtain ⟨_, r0, r1⟩ := R4.out.two
    have f0 := R4.out.frozen 0
    have f1 := R4.out.frozen 1
    clear H1 H2 H3 HP HD HQ hc0
    go_wp2
    exact bodyPost_ret (v := .agg #[.int .i64 C, .slice none 0 0]) (by simp [results, Try.results11, go_sem, r0, r1]) rfl ⟨none, 0, 0, rfl, Own.nil _ _, (B4.out.setCell (by simp) _).setCell (by simp) _⟩
  obtain ⟨h0, h1, h2⟩ := HD.out hc0
  obtain ⟨rfl, hLL⟩ := H1.out (by simp) hc0
  have HPP := Lib.hid (HP.out (by simp) hc0 h2)
  subst hc0
  have KW := Lib.hid (fun W (hW : Rd W a len cap zs) => withoutSum_any df dt a len cap zs W hW (by omega) (by omega) h2)
  have HLn := Lib.hid (show (dgH df dt zs).length = 8 + len by rw [dgH_len, HR.out.length])
  have hvb := dgT_bd (dgSum f t 17 (dgH df dt zs)) (sumV_bd _)
  obtain ⟨s, hs⟩ : ∃ s, s = dgSum f t 17 (dgH df dt zs) := ⟨_, rfl⟩
  have hsb : 0 ≤ s ∧ s ≤ 65535 := by rw [hs]; exact sumV_bd _
  rw [← hs] at hvb
  have HS : Hid (sumV (pseudoL f t 17 (dgH df dt zs).length ++ dgH df dt zs) = s) := hs.symm
  have HLL := Lib.hid (hLL.trans (dgL_splice f t df dt zs (dgT s) (by rw [hs]) hvb))
  clear hs hLL H1 H2 H3 HP HD HQ h0 h1
  generalize dgH df dt zs = D at *
  obtain ⟨_, x0, x1, x2⟩ := X4.out.three
  go_wp2_with fail
  refine (KW.out _ (HR.out.below B4.out)).mono ?_
  rintro e w5 ⟨a5, l5, c5, rfl, o5, b5⟩
  obtain rfl : l5 = 8 + len := o5.length.symm.trans HLn.out
  rcases o5.shape with ⟨_, h0, _⟩ | ⟨g, rfl⟩
  · omega
  have hg := (o5.lt _ rfl).1
  dsimp only at hg
  have hs4 := B4.out.size
  have hr4 := R4.out.lt
  have hgg : w.heap.size + 1 < g := by omega
  have R5 := Lib.hid (R4.out.below b5 R4.out.lt)
  have B5 := Lib.hid (B4.out.trans (b5.mono B4.out.size))
  have O5 := Lib.hid (o5.rebase hs4)
  clear b5 o5 R4 X4 B4 x0 x1 x2 KW hg hs4 hr4
  go_wp2_with fail
  refine (withHead_any f t 17 _ _ _ _ _ O5.out.rd (HPP.out _ (by omega)) (by omega)).mono ?_
  rintro e w6 ⟨a6, l6, c6, rfl, o6, b6⟩
  have R6 := Lib.hid (R5.out.below b6 R5.out.lt)
  have B6 := Lib.hid (B5.out.trans (b6.mono B5.out.size))
  have O6 := Lib.hid (O5.out.below b6)
  have P6 := Lib.hid o6.rd
  clear b6 o6 R5 B5 O5
  have KS : Hid (Calls Try.prog 45 #[.slice a6 l6 c6] w6 fun e w' => e = .returned (.agg #[.int .i64 0, .int .i64 s]) ∧ Below w6.heap.size w6 w') := by
    have hz : (pseudoL f t 17 D.length ++ D).length ≤ 700 := by rw [List.length_append, pseudoL_len, HLn.out]; omega
    have := implSum _ _ _ _ w6 P6.out
    simp only [smC, smV, hz, if_true] at this
    rw [HS.out] at this
    exact this
  have hfi := fld_ir
  have hfb := fld_br
  go_wp2_with fail
  refine KS.out.mono ?_
  rintro e w7 ⟨rfl, b7⟩
  have R7 := Lib.hid (R6.out.below b7 R6.out.lt)
  have B7 := Lib.hid (B6.out.trans (b7.mono B6.out.size))
  have O7 := Lib.hid (O6.out.below b7)
  clear b7 R6 B6 O6 P6 KS HS
  have KP := Lib.hid (show ∀ W, Calls Try.prog 47 #[.int .i64 (dgT s), .int .i64 2] W (Packed W 0 (be (dgT s) 2)) from fun W => implPack_ok (dgT s) 2 W hvb.1 (by omega) (by simp only [Int.reducePow]; omega))
  have hdT : Hid (dgT s = if s = 0 then 65535 else s) := rfl
  have cmx := Lib.hid O7.out.max
  have hi6 : (6 : Int) ≤ ((8 + len : Nat) : Int) := by omega
  have hi6' : (6 : Int) ≤ 8 + (len : Int) := by omega
  have hc6 : ¬ c5 = 6 := by have := cmx.out; omega
  generalize dgT s = v at *
  by_cases hs0 : s = 0
  · have hv : v = 65535 := by have := hdT.out; rwa [if_pos hs0] at this
    subst hs0 hv
    clear hdT
    go_wp2_with fail
    go_region_law (first
      | (refine copy_step _ rfl (.tmp 35) (.tmp 38) rfl _ g (8 + len) c5 6 (8 + len - 6) _ _ o8 rfl (by omega) _ _ _ _ rfl r8 (by omega) ?_; intro w9 o9 g9)
      | (go_simp; go_at_call 47; refine (KP.out _).mono ?_; rintro e w8 ⟨a8, l8, k8, rfl, p8, b8⟩; have o8 := O7.out.drew.below b8; have r8 := p8.rd; obtain rfl : 2 = l8 := (be_len 2 _).symm.trans p8.length))
    have b8' := (Below.refl _ w7).drew.trans (b8.mono (Nat.le_refl _))
    have R9 := (R7.out.below b8' R7.out.lt).grown g9 (by simp only [ne_eq, Option.some.injEq]; omega)
    have B9 := Lib.hid ((B7.out.trans (b8'.mono B7.out.size)).grown g9 (Nat.le_trans B7.out.size b8'.size) (fun k e => by cases e; omega))
    have O9 : Hid (Own w9 w.heap.size (some ⟨g, 0, none⟩) (8 + len) c5 L) := by rw [HLL.out]; exact o9
    obtain ⟨_, r1, r2⟩ := R9.two
    have f0 := R9.frozen 0
    have f1 := R9.frozen 1
    clear o9 g9 p8 r8 o8 b8 b8' R9 O7 R7 B7 hfi hfb KP HLL
    go_wp2
    refine bodyPost_ret (v := .agg #[.int .i64 0, .slice (some ⟨g, 0, none⟩) (8 + len) c5]) (by simp [results, Try.results11, go_sem, r1, r2]) rfl ⟨_, _, _, rfl, ?_, (B9.out.setCell (by simp) _).setCell (by simp) _⟩
    exact (O9.out.setOther _ _ (by rintro x hx; cases hx; simp; omega)).setOther _ _ (by rintro x hx; cases hx; simp; omega)
  · have hv : v = s := by have := hdT.out; rwa [if_neg hs0] at this
    have hne : (s == 0) = false := by simpa using hs0
    subst hv
    clear hdT hs0
    go_wp2_with fail
    go_region_law (first
      | (refine copy_step _ rfl (.tmp 35) (.tmp 38) rfl _ g (8 + len) c5 6 (8 + len - 6) _ _ o8 rfl (by omega) _ _ _ _ rfl r8 (by omega) ?_; intro w9 o9 g9)
      | (go_simp; go_at_call 47; refine (KP.out _).mono ?_; rintro e w8 ⟨a8, l8, k8, rfl, p8, b8⟩; have o8 := O7.out.drew.below b8; have r8 := p8.rd; obtain rfl : 2 = l8 := (be_len 2 _).symm.trans p8.length))
    have b8' := (Below.refl _ w7).drew.trans (b8.mono (Nat.le_refl _))
    have R9 := (R7.out.below b8' R7.out.lt).grown g9 (by simp only [ne_eq, Option.some.injEq]; omega)
    have B9 := Lib.hid ((B7.out.trans (b8'.mono B7.out.size)).grown g9 (Nat.le_trans B7.out.size b8'.size) (fun k e => by cases e; omega))
    have O9 : Hid (Own w9 w.heap.size (some ⟨g, 0, none⟩) (8 + len) c5 L) := by rw [HLL.out]; exact o9
    obtain ⟨_, r1, r2⟩ := R9.two
    have f0 := R9.frozen 0
    have f1 := R9.frozen 1
    clear o9 g9 p8 r8 o8 b8 b8' R9 O7 R7 B7 hfi hfb KP HLL
    go_wp2
    refine bodyPost_ret (v := .agg #[.int .i64 0, .slice (some ⟨g, 0, none⟩) (8 + len) c5]) (by simp [results, Try.results11, go_sem, r1, r2]) rfl ⟨_, _, _, rfl, ?_, (B9.out.setCell (by simp) _).setCell (by simp) _⟩
    exact (O9.out.setOther _ _ (by rintro x hx; cases hx; simp; omega)).setOther _ _ (by rintro x hx; cases hx; simp; omega)

theorem packDatagram_law (f t df dt : Int) (a : Option Addr) (len cap : Nat) (zs : List Int) (w : World) (hr : Rd w a len cap zs) :
    Calls Try.prog 6 #[.int .i64 f, .int .i64 t, .agg #[.int .i64 df, .int .i64 dt, .slice a len cap]] w fun e w' => e = .returned (.bool true) ∧ Below w.heap.size w w' :=
  exactPackDatagram f t df dt a len cap zs w hr (pdC f t df dt zs.length) (pdP f t df dt zs) (pdP_len f t df dt zs) (fun a' l' c' W h => specPackDatagram f t df dt a' l' c' zs W h) (fun a' l' c' W h => implPackDatagram f t df dt a' l' c' zs W h)
end Go.Proofs.Ytmcllaefjgdbeaa

namespace Go.Proofs.Ytmcllaefjgdbeaa
open Go.ChangeShapes Go.WideShapes Go.ChangeAt Go.RowKit

theorem rdTo_take (zs : List Int) (A n : Nat) : ∀ k, A + k ≤ n → rdTo (zs.take n) A k = rdTo zs A k
  | 0, _ => rfl
  | k + 1, h => by
    simp only [rdTo]
    rw [rdTo_take zs A n k (by omega), List.getD_eq_getElem?_getD, List.getD_eq_getElem?_getD, List.getElem?_take, if_pos (by omega)]
theorem rdTo_drop (zs : List Int) (A n : Nat) : ∀ k, rdTo (zs.drop n) A k = rdTo zs (n + A) k
  | 0 => rfl
  | k + 1 => by
    simp only [rdTo]
    rw [rdTo_drop zs A n k, List.getD_eq_getElem?_getD, List.getD_eq_getElem?_getD, List.getElem?_drop, Nat.add_assoc]

set_option maxHeartbeats 1000000 in
theorem bclone_any (a : Option Addr) (len cap : Nat) (zs : List Int) (w : World) (h : Rd w a len cap zs) (hl : len ≤ 1048576) :
    Calls Try.prog 79 #[.slice a len cap] w (Fresh w len zs) := by
  cases a with
  | none =>
    obtain ⟨rfl, rfl⟩ := h.nil rfl
    have hz := Lib.hid (List.length_eq_zero_iff.1 h.length)
    clear h
    have q := Lib.run_eql_slice_nil (P := Try.prog) w 22 5 none 0 0 0 0 Try.underlying22
    go_enter Try.func79, Try.ntmps79
    go_wp2
    go_ret
    exact ⟨none, 0, rfl, by rw [hz.out]; exact Own.nil _ _, Below.refl _ _⟩
  | some x =>
    have o0 := own_lit w w.heap.size (Nat.le_refl _)
    have r0 := h.alloc (.cells #[] 5)
    have q := Lib.run_eql_slice_nil (P := Try.prog) w 22 5 (some x) len cap 0 0 Try.underlying22
    go_enter Try.func79, Try.ntmps79
    go_wp2_with (at_builtin; refine append_bytes _ rfl (.tmp 5) (.tmp 6) rfl w.heap.size _ _ _ [] rfl o0 (some x) len cap zs rfl r0 (by simp) (by omega) ?_; intro a' c' w' ho hg)
    go_ret
    refine ⟨a', c', by simp [Array.getD], by simpa using ho, ?_⟩
    exact ((Below.refl _ _).alloc (Nat.le_refl _) _).grown hg (by simp) (fun k e => by simp [Value.ownBlock] at e; omega)

theorem take6 (zs : List Int) (n : Nat) (h : n + 6 ≤ zs.length) : ∃ y0 y1 y2 y3 y4 y5, (zs.drop n).take 6 = [y0, y1, y2, y3, y4, y5] := by
  have hl : ((zs.drop n).take 6).length = 6 := by simp; omega
  match h' : (zs.drop n).take 6, hl with
  | [y0, y1, y2, y3, y4, y5], _ => exact ⟨y0, y1, y2, y3, y4, y5, rfl⟩

end Go.Proofs.Ytmcllaefjgdbeaa

namespace Go.Proofs.Ytmcllaefjgdbeaa
open Go.ChangeShapes Go.WideShapes Go.ChangeAt Go.RowKit

theorem readWord_l4 (a : Option Addr) (len cap A S : Nat) (x y v : Int) (zs : List Int) (w : World) (h : Rd w a len cap zs) (hx : (A : Int) = x) (hy : (S : Int) = y) (hS1 : 1 ≤ S) (hS2 : S ≤ 6) (hA : A + S ≤ len) (hv : rdTo zs A S = v) :
    Calls Try.prog 54 #[.slice a len cap, .int .i64 x, .int .i64 y] w fun e w' => e = .returned (.agg #[.int .i64 0, .int .i64 v]) ∧ Below w.heap.size w w' := by
  subst hx hy hv
  exact implRead_ok a len cap A S zs w h hS1 hS2 hA
theorem isSummed_l4 (a : Option Addr) (len cap : Nat) (zs : List Int) (b : Bool) (w : World) (h : Rd w a len cap zs) (hl : len ≤ 700) (hb : decide (sumV zs = 0) = b) :
    Calls Try.prog 78 #[.slice a len cap] w fun e w' => e = .returned (.bool b) ∧ Below w.heap.size w w' := by
  have := implIs a len cap zs w h
  rw [isS, h.length, decide_eq_true hl, Bool.true_and, hb] at this
  exact this
theorem Box.four' {w : World} {b : Nat} {t : TypeId} {x0 x1 x2 x3 : Value} (h : Box w b t #[x0, x1, x2, x3]) : b < w.heap.size ∧ w.cell? ⟨b, 0, none⟩ = some x0 ∧ w.cell? ⟨b, 1, none⟩ = some x1 ∧ w.cell? ⟨b, 2, none⟩ = some x2 ∧ w.cell? ⟨b, 3, none⟩ = some x3 := ⟨h.lt, h.cell 0, h.cell 1, h.cell 2, h.cell 3⟩

theorem dgC_three (m1 m2 : Int) (n : Nat) (h : n ≤ 552) (hn : ¬ dgC m1 m2 n = 0) : dgC m1 m2 n = 3 := by
  unfold dgC at hn ⊢
  by_cases hb : dgB m1 m2 = true
  · rw [if_pos hb, if_pos h] at hn; exact absurd rfl hn
  · rw [if_neg hb]
theorem rg_ip {f t : Int} {zs : List Int} (h0 : (ipB f && ipB t) = false) : rgAns f t zs = rgNo 3 := by unfold rgAns; rw [if_pos h0]
theorem rg_len {f t : Int} {zs : List Int} (h0 : (ipB f && ipB t) = true) (h1 : dlOk zs.length = false) : rgAns f t zs = rgNo 2 := by unfold rgAns; rw [if_neg (by rw [h0]; simp), if_pos h1]
theorem rg_form {f t : Int} {zs : List Int} (h0 : (ipB f && ipB t) = true) (h1 : dlOk zs.length = true) (h2 : ¬ rdTo zs 4 2 = zs.length) : rgAns f t zs = rgNo 1 := by unfold rgAns; rw [if_neg (by rw [h0]; simp), if_neg (by rw [h1]; simp), if_pos h2]
theorem rg_sum {f t : Int} {zs : List Int} (h0 : (ipB f && ipB t) = true) (h1 : dlOk zs.length = true) (h2 : rdTo zs 4 2 = zs.length) (h3 : ((rdTo zs 6 2 == 0) || decide (dgSum f t 17 zs = 0)) = false) : rgAns f t zs = rgNo 6 := by
  simp only [Bool.or_eq_false_iff, beq_eq_false_iff_ne, decide_eq_false_iff_not, ne_eq] at h3
  unfold rgAns; rw [if_neg (by rw [h0]; simp), if_neg (by rw [h1]; simp), if_neg (by simpa using h2), if_pos h3]
theorem rg_fin {f t : Int} {zs : List Int} (h0 : (ipB f && ipB t) = true) (h1 : dlOk zs.length = true) (h2 : rdTo zs 4 2 = zs.length) (h3 : ((rdTo zs 6 2 == 0) || decide (dgSum f t 17 zs = 0)) = true) : rgAns f t zs = if ¬ dgC (rdTo zs 0 2) (rdTo zs 2 2) (zs.length - 8) = 0 then rgNo 3 else ⟨0, rdTo zs 0 2, rdTo zs 2 2, zs.drop 8⟩ := by
  simp only [Bool.or_eq_true, beq_iff_eq, decide_eq_true_eq] at h3
  unfold rgAns; rw [if_neg (by rw [h0]; simp), if_neg (by rw [h1]; simp), if_neg (by simpa using h2), if_neg (fun k => by rcases h3 with h' | h'; exact k.1 h'; exact k.2 h')]

set_option maxHeartbeats 1000000 in
theorem isSumRight_any (f t : Int) (a : Option Addr) (len cap : Nat) (zs : List Int) (q : Bool) (w : World) (hr : Rd w a len cap zs) (hp : phB f t 17 len = true) (h1 : 8 ≤ len) (h2 : len ≤ 560) (hq : q = ((rdTo zs 6 2 == 0) || decide (dgSum f t 17 zs = 0))) :
    Calls Try.prog 55 #[.int .i64 f, .int .i64 t, .slice a len cap] w fun e w' => e = .returned (.bool q) ∧ Below w.heap.size w w' := by
  obtain ⟨m, hm⟩ : ∃ m, rdTo zs 6 2 = m := ⟨_, rfl⟩
  rw [hm] at hq
  have K := Lib.hid (readWord_l4 a len cap 6 2 6 2 m zs w hr rfl rfl (by omega) (by omega) (by omega) hm)
  obtain ⟨s, hs⟩ : ∃ s, decide (dgSum f t 17 zs = 0) = s := ⟨_, rfl⟩
  rw [hs] at hq
  have HS : Hid (decide (sumV (pseudoL f t 17 zs.length ++ zs) = 0) = s) := hs
  have KW := Lib.hid (fun W (hW : Below w.heap.size w W) => withHead_any f t 17 a len cap zs W (hr.below hW) hp (by omega))
  have HL := Lib.hid (show (pseudoL f t 17 zs.length ++ zs).length ≤ 700 by rw [List.length_append, pseudoL_len, hr.length]; omega)
  have hfi := fld_ir
  have HQ := Lib.hid hq
  clear hr hm hs hp hq
  generalize pseudoL f t 17 zs.length ++ zs = D at *
  cases m0 : (m == 0)
  · have HQ' : Hid (q = s) := by rw [HQ.out, m0]; rfl
    go_enter Try.func55, Try.ntmps55
    go_wp2_with fail
    refine K.out.mono ?_
    rintro e w1 ⟨rfl, b1⟩
    have B1 := Lib.hid b1
    clear b1 K
    go_wp2_with fail
    refine (KW.out _ B1.out).mono ?_
    rintro e w2 ⟨a2, l2, c2, rfl, o2, b2⟩
    have B2 := Lib.hid (B1.out.trans (b2.mono B1.out.size))
    have KI := Lib.hid (isSummed_l4 a2 l2 c2 D s w2 o2.rd (by rw [← o2.length]; exact HL.out) HS.out)
    clear b2 B1 o2 KW
    go_wp2_with fail
    refine KI.out.mono ?_
    rintro e w3 ⟨rfl, b3⟩
    have B3 := Lib.hid (B2.out.trans (b3.mono B2.out.size))
    clear b3 B2 KI
    go_wp2
    go_ret
    exact ⟨ret_b HQ'.out.symm, B3.out⟩
  · have HQ' : Hid (q = true) := by rw [HQ.out, m0]; rfl
    go_enter Try.func55, Try.ntmps55
    go_wp2_with fail
    refine K.out.mono ?_
    rintro e w1 ⟨rfl, b1⟩
    have B1 := Lib.hid b1
    clear b1 K
    go_wp2
    go_ret
    exact ⟨ret_b HQ'.out.symm, B1.out⟩

set_option maxRecDepth 20000 in
set_option maxHeartbeats 4000000 in
theorem datagramIn_ok1 (a : Option Addr) (len cap : Nat) (zs : List Int) (w : World) (hr : Rd w a len cap zs) (h1 : 8 ≤ len) (h2 : len ≤ 560) (hcap : ¬ cap = 8) :
    Calls Try.prog 56 #[.slice a len cap] w (DatagramOut w (rdTo zs 0 2) (rdTo zs 2 2) (zs.drop 8)) := by
  have hle := hr.le
  have hmx := hr.max
  rcases hr.cells with h0 | ⟨ba, off, rfl, hc⟩
  · omega
  have i8l : (8 : Int) ≤ len := by omega
  have hfi := fld_ir
  obtain ⟨m1, hm1⟩ : ∃ m, rdTo zs 0 2 = m := ⟨_, rfl⟩
  obtain ⟨m2, hm2⟩ : ∃ m, rdTo zs 2 2 = m := ⟨_, rfl⟩
  obtain ⟨ys, hys⟩ : ∃ ys, zs.drop 8 = ys := ⟨_, rfl⟩
  have K3 := Lib.hid (fun W (hW : Below w.heap.size w W) => readWord_l4 _ len cap 0 2 0 2 m1 zs W (hr.below hW) rfl rfl (by omega) (by omega) (by omega) hm1)
  have K4 := Lib.hid (fun W (hW : Below w.heap.size w W) => readWord_l4 _ len cap 2 2 2 2 m2 zs W (hr.below hW) rfl rfl (by omega) (by omega) (by omega) hm2)
  have HD := Lib.hid (show ∀ W, Below w.heap.size w W → Rd W (some ⟨ba, off + 8, none⟩) (len - 8) (cap - 8) ys from fun W hW => by rw [← hys]; exact (hr.below hW).from 8 _ _ _ (by omega) rfl rfl rfl)
  have KD := Lib.hid (fun W (hW : Below w.heap.size w W) => bclone_any (some ⟨ba, off + 8, none⟩) (len - 8) (cap - 8) ys W (HD.out W hW) (by omega))
  have SS := Lib.hid (show ∀ W, Hid (Below w.heap.size w W) → Hid (Below w.heap.size w W) from fun W h => h)
  rw [hm1, hm2, hys]
  clear hr hc hm1 hm2 hys HD
  have hrn : w.heap.size < w.heap.size + 1 := Nat.lt_succ_self _
  have hn1 : w.heap.size ≤ w.heap.size + 1 := Nat.le_succ _
  generalize hn0 : w.heap.size + 1 = n0 at hrn hn1
  have B1 := Lib.hid ((Below.refl w.heap.size w).alloc (Nat.le_refl _) (.cells #[.int .i64 0, .int .i64 0, .slice none 0 0] 25))
  have X1 := Lib.hid (Box.new w 25 #[.int .i64 0, .int .i64 0, .slice none 0 0])
  go_enter Try.func56, Try.ntmps56
  go_wp2_with fail
  have TD := kDrew B1
  refine wp_region_held_drew (S := fun W => Hid (Below w.heap.size w W)) (by kernel_rfl) (SS.out _ TD) (fun hHeld => ?_)
  refine wpAnyH_take (i := 0) (v := ?_) (by simp only [List.getElem?_toArray, List.getElem?_cons_zero]; exact rfl) (by kernel_rfl) (by kernel_rfl) (by kernel_rfl) (by exact fun _ _ _ h => h) (Or.inl ⟨by rfl, ?_⟩) hHeld ?_
  rotate_left
  · intro w' hSw
    obtain _s := hSw
    go_simp
    try with_reducible rfl
  try simp only [Act.put, List.setIfInBounds_toArray, List.set_cons_zero, List.set_cons_succ]
  refine wpAnyH_take (i := 3) (v := ?_) (by simp only [List.getElem?_toArray, List.getElem?_cons_zero, List.getElem?_cons_succ]; exact rfl) (by kernel_rfl) (by kernel_rfl) (by kernel_rfl) (by exact fun _ _ _ h => h) (Or.inl ⟨by rfl, ?_⟩) hHeld ?_
  rotate_left
  · intro w' hSw
    obtain _s := hSw
    go_simp
    try with_reducible rfl
  try simp only [Act.put, List.setIfInBounds_toArray, List.set_cons_zero, List.set_cons_succ]
  refine wpAnyH_take (i := 6) (v := ?_) (by simp only [List.getElem?_toArray, List.getElem?_cons_zero, List.getElem?_cons_succ]; exact rfl) (by kernel_rfl) (by kernel_rfl) (by kernel_rfl) (by exact fun _ _ _ h => h) (Or.inl ⟨by rfl, ?_⟩) hHeld ?_
  rotate_left
  · intro w' hSw
    obtain _s := hSw
    go_simp
    try with_reducible rfl
  try simp only [Act.put, List.setIfInBounds_toArray, List.set_cons_zero, List.set_cons_succ]
  refine wpAnyH_take (i := 7) (v := ?_) (by simp only [List.getElem?_toArray, List.getElem?_cons_zero, List.getElem?_cons_succ]; exact rfl) (by kernel_rfl) (by kernel_rfl) (by kernel_rfl) (by exact fun _ _ _ h => h) (Or.inl ⟨by rfl, ?_⟩) hHeld ?_
  rotate_left
  · intro w' hSw
    obtain _s := hSw
    go_simp
    try with_reducible rfl
  try simp only [Act.put, List.setIfInBounds_toArray, List.set_cons_zero, List.set_cons_succ]
  refine flow_go (Inv := fun listed ac W => ∃ v4 v5 v7 v8 v11 v12 : Value, ac = { tmps := #[.slice (some ⟨ba, off, none⟩) len cap, _, .pointer (some ⟨w.heap.size, 0, none⟩), .slice (some ⟨ba, off, none⟩) len cap, v4, v5, .slice (some ⟨ba, off, none⟩) len cap, v7, v8, .slice (some ⟨ba, off, none⟩) len cap, .slice (some ⟨ba, off + 8, none⟩) (len - 8) (cap - 8), v11, v12], defers := [] } ∧ Hid (Below w.heap.size w W) ∧ Hid (∃ vs : Array Value, Box W w.heap.size 25 vs ∧ vs.size = 3) ∧ Fl listed 1 (EqV v4 (.agg #[.int .i64 0, .int .i64 m1])) ∧ Fl listed 2 (EqV v5 (.int .i64 m1)) ∧ Fl listed 4 (EqV v7 (.agg #[.int .i64 0, .int .i64 m2])) ∧ Fl listed 5 (EqV v8 (.int .i64 m2)) ∧ Fl listed 8 (SlV W n0 v11 (len - 8) ys) ∧ Fl listed 9 (AgV W n0 v12 #[.int .i64 m1, .int .i64 m2] (len - 8) ys) ∧ Fl listed 10 (BxV W n0 w.heap.size 25 #[.int .i64 m1, .int .i64 m2] (len - 8) ys)) [1, 2, 4, 5, 8, 9, 10] (by kernel_rfl) (by kernel_rfl) ⟨_, _, _, _, _, _, rfl, TD, ⟨_, (show Box _ _ _ _ from X1.out), rfl⟩, Fl.not (by kernel_rfl), Fl.not (by kernel_rfl), Fl.not (by kernel_rfl), Fl.not (by kernel_rfl), Fl.not (by kernel_rfl), Fl.not (by kernel_rfl), Fl.not (by kernel_rfl)⟩
    (FlowAll.cons [] (by simp only [List.getElem?_toArray, List.getElem?_cons_zero, List.getElem?_cons_succ]; exact rfl) (by kernel_rfl) (fun listed ac W hI hu hd K hK => ?_)
      (FlowAll.cons [1] (by simp only [List.getElem?_toArray, List.getElem?_cons_zero, List.getElem?_cons_succ]; exact rfl) (by kernel_rfl) (fun listed ac W hI hu hd K hK => ?_)
      (FlowAll.cons [] (by simp only [List.getElem?_toArray, List.getElem?_cons_zero, List.getElem?_cons_succ]; exact rfl) (by kernel_rfl) (fun listed ac W hI hu hd K hK => ?_)
      (FlowAll.cons [4] (by simp only [List.getElem?_toArray, List.getElem?_cons_zero, List.getElem?_cons_succ]; exact rfl) (by kernel_rfl) (fun listed ac W hI hu hd K hK => ?_)
      (FlowAll.cons [] (by simp only [List.getElem?_toArray, List.getElem?_cons_zero, List.getElem?_cons_succ]; exact rfl) (by kernel_rfl) (fun listed ac W hI hu hd K hK => ?_)
      (FlowAll.cons [2, 5, 8] (by simp only [List.getElem?_toArray, List.getElem?_cons_zero, List.getElem?_cons_succ]; exact rfl) (by kernel_rfl) (fun listed ac W hI hu hd K hK => ?_)
      (FlowAll.cons [9] (by simp only [List.getElem?_toArray, List.getElem?_cons_zero, List.getElem?_cons_succ]; exact rfl) (by kernel_rfl) (fun listed ac W hI hu hd K hK => ?_)
      FlowAll.nil)))))))
    (fun listed ac W hI hall => ?_)
  · obtain ⟨v4, v5, v7, v8, v11, v12, rfl, TB, XB, f1, f2, f4, f5, f8, f9, f10⟩ := hI
    obtain ⟨vsR, xR, sR⟩ := XB.out
    have hnW : n0 ≤ W.heap.size := by have := xR.lt; omega
    refine want_none (by exact rfl) ?_
    go_wp2_with fail
    refine (K3.out _ TB.out).mono ?_
    rintro e w' ⟨rfl, hb0⟩
    go_wp2_with fail
    have hb : Below W.heap.size W _ := hb0
    have TB' := kCall hb (kSize TB) TB
    refine hK.out _ _ (SS.out _ TB') ?_
    exact ⟨_, _, _, _, _, _, rfl, TB', ⟨_, xR.below hb xR.lt, sR⟩, Fl.new (EqV.rfl _), f2.keep (by decide) (keepE hb), f4.keep (by decide) (keepE hb), f5.keep (by decide) (keepE hb), f8.keep (by decide) (SlV.below hb), f9.keep (by decide) (AgV.below hb), f10.keep (by decide) (BxV.below hb)⟩
  · obtain ⟨v4, v5, v7, v8, v11, v12, rfl, TB, XB, f1, f2, f4, f5, f8, f9, f10⟩ := hI
    obtain ⟨vsR, xR, sR⟩ := XB.out
    have hnW : n0 ≤ W.heap.size := by have := xR.lt; omega
    obtain ⟨rfl⟩ := f1.get (hd 1 (by simp))
    refine want_none (by exact rfl) ?_
    go_wp2_with fail
    refine hK.out _ _ (SS.out _ TB) ?_
    exact ⟨_, _, _, _, _, _, rfl, TB, XB, f1.keep (by decide) id, Fl.new (EqV.rfl _), f4.keep (by decide) id, f5.keep (by decide) id, f8.keep (by decide) id, f9.keep (by decide) id, f10.keep (by decide) id⟩
  · obtain ⟨v4, v5, v7, v8, v11, v12, rfl, TB, XB, f1, f2, f4, f5, f8, f9, f10⟩ := hI
    obtain ⟨vsR, xR, sR⟩ := XB.out
    have hnW : n0 ≤ W.heap.size := by have := xR.lt; omega
    refine want_none (by exact rfl) ?_
    go_wp2_with fail
    refine (K4.out _ TB.out).mono ?_
    rintro e w' ⟨rfl, hb0⟩
    go_wp2_with fail
    have hb : Below W.heap.size W _ := hb0
    have TB' := kCall hb (kSize TB) TB
    refine hK.out _ _ (SS.out _ TB') ?_
    exact ⟨_, _, _, _, _, _, rfl, TB', ⟨_, xR.below hb xR.lt, sR⟩, f1.keep (by decide) (keepE hb), f2.keep (by decide) (keepE hb), Fl.new (EqV.rfl _), f5.keep (by decide) (keepE hb), f8.keep (by decide) (SlV.below hb), f9.keep (by decide) (AgV.below hb), f10.keep (by decide) (BxV.below hb)⟩
  · obtain ⟨v4, v5, v7, v8, v11, v12, rfl, TB, XB, f1, f2, f4, f5, f8, f9, f10⟩ := hI
    obtain ⟨vsR, xR, sR⟩ := XB.out
    have hnW : n0 ≤ W.heap.size := by have := xR.lt; omega
    obtain ⟨rfl⟩ := f4.get (hd 4 (by simp))
    refine want_none (by exact rfl) ?_
    go_wp2_with fail
    refine hK.out _ _ (SS.out _ TB) ?_
    exact ⟨_, _, _, _, _, _, rfl, TB, XB, f1.keep (by decide) id, f2.keep (by decide) id, f4.keep (by decide) id, Fl.new (EqV.rfl _), f8.keep (by decide) id, f9.keep (by decide) id, f10.keep (by decide) id⟩
  · obtain ⟨v4, v5, v7, v8, v11, v12, rfl, TB, XB, f1, f2, f4, f5, f8, f9, f10⟩ := hI
    obtain ⟨vsR, xR, sR⟩ := XB.out
    have hnW : n0 ≤ W.heap.size := by have := xR.lt; omega
    refine want_none (by exact rfl) ?_
    go_wp2_with fail
    refine (KD.out _ TB.out).mono ?_
    rintro e w' ⟨a', c', rfl, o', hb0⟩
    go_wp2_with fail
    have hb : Below W.heap.size W _ := hb0
    have TB' := kCall hb (kSize TB) TB
    refine hK.out _ _ (SS.out _ TB') ?_
    exact ⟨_, _, _, _, _, _, rfl, TB', ⟨_, xR.below hb xR.lt, sR⟩, f1.keep (by decide) (keepE hb), f2.keep (by decide) (keepE hb), f4.keep (by decide) (keepE hb), f5.keep (by decide) (keepE hb), Fl.new (⟨_, _, rfl, o'.rebase hnW⟩), f9.keep (by decide) (AgV.below hb), f10.keep (by decide) (BxV.below hb)⟩
  · obtain ⟨v4, v5, v7, v8, v11, v12, rfl, TB, XB, f1, f2, f4, f5, f8, f9, f10⟩ := hI
    obtain ⟨vsR, xR, sR⟩ := XB.out
    have hnW : n0 ≤ W.heap.size := by have := xR.lt; omega
    obtain ⟨rfl⟩ := f2.get (hd 2 (by simp))
    obtain ⟨rfl⟩ := f5.get (hd 5 (by simp))
    obtain ⟨a11, c11, rfl, o11⟩ := f8.get (hd 8 (by simp))
    refine want_none (by exact rfl) ?_
    go_wp2_with fail
    refine hK.out _ _ (SS.out _ TB) ?_
    exact ⟨_, _, _, _, _, _, rfl, TB, XB, f1.keep (by decide) id, f2.keep (by decide) id, f4.keep (by decide) id, f5.keep (by decide) id, f8.keep (by decide) id, Fl.new (⟨_, _, rfl, o11⟩), f10.keep (by decide) id⟩
  · obtain ⟨v4, v5, v7, v8, v11, v12, rfl, TB, XB, f1, f2, f4, f5, f8, f9, f10⟩ := hI
    obtain ⟨vsR, xR, sR⟩ := XB.out
    have hnW : n0 ≤ W.heap.size := by have := xR.lt; omega
    obtain ⟨a12, c12, rfl, o12⟩ := f9.get (hd 9 (by simp))
    refine storeBox_step _ rfl 25 (.tmp 2) (.tmp 12) rfl w.heap.size 25 vsR (#[.int .i64 m1, .int .i64 m2] ++ #[.slice a12 (len - 8) c12]) xR (by exact rfl) (by exact rfl) (by kernel_rfl) (sR.trans rfl) (by simp [Value.oneCell']) ?_
    intro wS xS gS
    simp only [Act.put]
    have TB' := kGrownB gS TB (Nat.le_refl _)
    refine hK.out _ _ (SS.out _ TB') ?_
    exact ⟨_, _, _, _, _, _, rfl, TB', ⟨_, xS, rfl⟩, f1.keep (by decide) (id), f2.keep (by decide) (id), f4.keep (by decide) (id), f5.keep (by decide) (id), f8.keep (by decide) (SlV.grown gS hrn), f9.keep (by decide) (AgV.grown gS hrn), Fl.new (⟨_, _, xS, o12.grown gS (fun x hx e => by have := (o12.lt x hx).1; simp only [Option.some.injEq] at e; omega)⟩)⟩
  · obtain ⟨v4, v5, v7, v8, v11, v12, rfl, TB, XB, f1, f2, f4, f5, f8, f9, f10⟩ := hI
    obtain ⟨vsR, xR, sR⟩ := XB.out
    have hnW : n0 ≤ W.heap.size := by have := xR.lt; omega
    obtain ⟨a5, c5, x5, o5⟩ := f10.get (hall 10 (by decide))
    have X5 := Lib.hid x5
    have O5 := Lib.hid (o5.rebase hn1)
    have T5 := TB
    clear x5 o5 xR sR XB hall TB SS f1 f2 f4 f5 f8 f9 f10
    go_wp2
    exact bodyPost_ret (results_cell_row Try.results56 _ _ _ _ _ _ _ rfl X5.out Try.underlying25 rfl (by kernel_rfl)) rfl ⟨_, _, _, rfl, O5.out, T5.out⟩

set_option maxRecDepth 20000 in
set_option maxHeartbeats 4000000 in
theorem datagramIn_ok2 (a : Option Addr) (zs : List Int) (w : World) (hr : Rd w a 8 8 zs) :
    Calls Try.prog 56 #[.slice a 8 8] w (DatagramOut w (rdTo zs 0 2) (rdTo zs 2 2) (zs.drop 8)) := by
  have hle := hr.le
  have hmx := hr.max
  rcases hr.cells with h0 | ⟨ba, off, rfl, hc⟩
  · omega
  have hfi := fld_ir
  obtain ⟨m1, hm1⟩ : ∃ m, rdTo zs 0 2 = m := ⟨_, rfl⟩
  obtain ⟨m2, hm2⟩ : ∃ m, rdTo zs 2 2 = m := ⟨_, rfl⟩
  obtain ⟨ys, hys⟩ : ∃ ys, zs.drop 8 = ys := ⟨_, rfl⟩
  have K3 := Lib.hid (fun W (hW : Below w.heap.size w W) => readWord_l4 _ 8 8 0 2 0 2 m1 zs W (hr.below hW) rfl rfl (by omega) (by omega) (by omega) hm1)
  have K4 := Lib.hid (fun W (hW : Below w.heap.size w W) => readWord_l4 _ 8 8 2 2 2 2 m2 zs W (hr.below hW) rfl rfl (by omega) (by omega) (by omega) hm2)
  have HD := Lib.hid (show ∀ W, Below w.heap.size w W → Rd W (some ⟨ba, off, none⟩) 0 0 ys from fun W hW => by rw [← hys]; exact rd_tail8' (hr.below hW))
  have KD := Lib.hid (fun W (hW : Below w.heap.size w W) => bclone_any (some ⟨ba, off, none⟩) 0 0 ys W (HD.out W hW) (by omega))
  have SS := Lib.hid (show ∀ W, Hid (Below w.heap.size w W) → Hid (Below w.heap.size w W) from fun W h => h)
  rw [hm1, hm2, hys]
  clear hr hc hm1 hm2 hys HD
  have hrn : w.heap.size < w.heap.size + 1 := Nat.lt_succ_self _
  have hn1 : w.heap.size ≤ w.heap.size + 1 := Nat.le_succ _
  generalize hn0 : w.heap.size + 1 = n0 at hrn hn1
  have B1 := Lib.hid ((Below.refl w.heap.size w).alloc (Nat.le_refl _) (.cells #[.int .i64 0, .int .i64 0, .slice none 0 0] 25))
  have X1 := Lib.hid (Box.new w 25 #[.int .i64 0, .int .i64 0, .slice none 0 0])
  go_enter Try.func56, Try.ntmps56
  go_wp2_with fail
  have TD := kDrew B1
  refine wp_region_held_drew (S := fun W => Hid (Below w.heap.size w W)) (by kernel_rfl) (SS.out _ TD) (fun hHeld => ?_)
  refine wpAnyH_take (i := 0) (v := ?_) (by simp only [List.getElem?_toArray, List.getElem?_cons_zero]; exact rfl) (by kernel_rfl) (by kernel_rfl) (by kernel_rfl) (by exact fun _ _ _ h => h) (Or.inl ⟨by rfl, ?_⟩) hHeld ?_
  rotate_left
  · intro w' hSw
    obtain _s := hSw
    go_simp
    try with_reducible rfl
  try simp only [Act.put, List.setIfInBounds_toArray, List.set_cons_zero, List.set_cons_succ]
  refine wpAnyH_take (i := 3) (v := ?_) (by simp only [List.getElem?_toArray, List.getElem?_cons_zero, List.getElem?_cons_succ]; exact rfl) (by kernel_rfl) (by kernel_rfl) (by kernel_rfl) (by exact fun _ _ _ h => h) (Or.inl ⟨by rfl, ?_⟩) hHeld ?_
  rotate_left
  · intro w' hSw
    obtain _s := hSw
    go_simp
    try with_reducible rfl
  try simp only [Act.put, List.setIfInBounds_toArray, List.set_cons_zero, List.set_cons_succ]
  refine wpAnyH_take (i := 6) (v := ?_) (by simp only [List.getElem?_toArray, List.getElem?_cons_zero, List.getElem?_cons_succ]; exact rfl) (by kernel_rfl) (by kernel_rfl) (by kernel_rfl) (by exact fun _ _ _ h => h) (Or.inl ⟨by rfl, ?_⟩) hHeld ?_
  rotate_left
  · intro w' hSw
    obtain _s := hSw
    go_simp
    try with_reducible rfl
  try simp only [Act.put, List.setIfInBounds_toArray, List.set_cons_zero, List.set_cons_succ]
  refine wpAnyH_take (i := 7) (v := ?_) (by simp only [List.getElem?_toArray, List.getElem?_cons_zero, List.getElem?_cons_succ]; exact rfl) (by kernel_rfl) (by kernel_rfl) (by kernel_rfl) (by exact fun _ _ _ h => h) (Or.inl ⟨by rfl, ?_⟩) hHeld ?_
  rotate_left
  · intro w' hSw
    obtain _s := hSw
    go_simp
    try with_reducible rfl
  try simp only [Act.put, List.setIfInBounds_toArray, List.set_cons_zero, List.set_cons_succ]
  refine flow_go (Inv := fun listed ac W => ∃ v4 v5 v7 v8 v11 v12 : Value, ac = { tmps := #[.slice (some ⟨ba, off, none⟩) 8 8, _, .pointer (some ⟨w.heap.size, 0, none⟩), .slice (some ⟨ba, off, none⟩) 8 8, v4, v5, .slice (some ⟨ba, off, none⟩) 8 8, v7, v8, .slice (some ⟨ba, off, none⟩) 8 8, .slice (some ⟨ba, off, none⟩) 0 0, v11, v12], defers := [] } ∧ Hid (Below w.heap.size w W) ∧ Hid (∃ vs : Array Value, Box W w.heap.size 25 vs ∧ vs.size = 3) ∧ Fl listed 1 (EqV v4 (.agg #[.int .i64 0, .int .i64 m1])) ∧ Fl listed 2 (EqV v5 (.int .i64 m1)) ∧ Fl listed 4 (EqV v7 (.agg #[.int .i64 0, .int .i64 m2])) ∧ Fl listed 5 (EqV v8 (.int .i64 m2)) ∧ Fl listed 8 (SlV W n0 v11 (0) ys) ∧ Fl listed 9 (AgV W n0 v12 #[.int .i64 m1, .int .i64 m2] (0) ys) ∧ Fl listed 10 (BxV W n0 w.heap.size 25 #[.int .i64 m1, .int .i64 m2] (0) ys)) [1, 2, 4, 5, 8, 9, 10] (by kernel_rfl) (by kernel_rfl) ⟨_, _, _, _, _, _, rfl, TD, ⟨_, (show Box _ _ _ _ from X1.out), rfl⟩, Fl.not (by kernel_rfl), Fl.not (by kernel_rfl), Fl.not (by kernel_rfl), Fl.not (by kernel_rfl), Fl.not (by kernel_rfl), Fl.not (by kernel_rfl), Fl.not (by kernel_rfl)⟩
    (FlowAll.cons [] (by simp only [List.getElem?_toArray, List.getElem?_cons_zero, List.getElem?_cons_succ]; exact rfl) (by kernel_rfl) (fun listed ac W hI hu hd K hK => ?_)
      (FlowAll.cons [1] (by simp only [List.getElem?_toArray, List.getElem?_cons_zero, List.getElem?_cons_succ]; exact rfl) (by kernel_rfl) (fun listed ac W hI hu hd K hK => ?_)
      (FlowAll.cons [] (by simp only [List.getElem?_toArray, List.getElem?_cons_zero, List.getElem?_cons_succ]; exact rfl) (by kernel_rfl) (fun listed ac W hI hu hd K hK => ?_)
      (FlowAll.cons [4] (by simp only [List.getElem?_toArray, List.getElem?_cons_zero, List.getElem?_cons_succ]; exact rfl) (by kernel_rfl) (fun listed ac W hI hu hd K hK => ?_)
      (FlowAll.cons [] (by simp only [List.getElem?_toArray, List.getElem?_cons_zero, List.getElem?_cons_succ]; exact rfl) (by kernel_rfl) (fun listed ac W hI hu hd K hK => ?_)
      (FlowAll.cons [2, 5, 8] (by simp only [List.getElem?_toArray, List.getElem?_cons_zero, List.getElem?_cons_succ]; exact rfl) (by kernel_rfl) (fun listed ac W hI hu hd K hK => ?_)
      (FlowAll.cons [9] (by simp only [List.getElem?_toArray, List.getElem?_cons_zero, List.getElem?_cons_succ]; exact rfl) (by kernel_rfl) (fun listed ac W hI hu hd K hK => ?_)
      FlowAll.nil)))))))
    (fun listed ac W hI hall => ?_)
  · obtain ⟨v4, v5, v7, v8, v11, v12, rfl, TB, XB, f1, f2, f4, f5, f8, f9, f10⟩ := hI
    obtain ⟨vsR, xR, sR⟩ := XB.out
    have hnW : n0 ≤ W.heap.size := by have := xR.lt; omega
    refine want_none (by exact rfl) ?_
    go_wp2_with fail
    refine (K3.out _ TB.out).mono ?_
    rintro e w' ⟨rfl, hb0⟩
    go_wp2_with fail
    have hb : Below W.heap.size W _ := hb0
    have TB' := kCall hb (kSize TB) TB
    refine hK.out _ _ (SS.out _ TB') ?_
    exact ⟨_, _, _, _, _, _, rfl, TB', ⟨_, xR.below hb xR.lt, sR⟩, Fl.new (EqV.rfl _), f2.keep (by decide) (keepE hb), f4.keep (by decide) (keepE hb), f5.keep (by decide) (keepE hb), f8.keep (by decide) (SlV.below hb), f9.keep (by decide) (AgV.below hb), f10.keep (by decide) (BxV.below hb)⟩
  · obtain ⟨v4, v5, v7, v8, v11, v12, rfl, TB, XB, f1, f2, f4, f5, f8, f9, f10⟩ := hI
    obtain ⟨vsR, xR, sR⟩ := XB.out
    have hnW : n0 ≤ W.heap.size := by have := xR.lt; omega
    obtain ⟨rfl⟩ := f1.get (hd 1 (by simp))
    refine want_none (by exact rfl) ?_
    go_wp2_with fail
    refine hK.out _ _ (SS.out _ TB) ?_
    exact ⟨_, _, _, _, _, _, rfl, TB, XB, f1.keep (by decide) id, Fl.new (EqV.rfl _), f4.keep (by decide) id, f5.keep (by decide) id, f8.keep (by decide) id, f9.keep (by decide) id, f10.keep (by decide) id⟩
  · obtain ⟨v4, v5, v7, v8, v11, v12, rfl, TB, XB, f1, f2, f4, f5, f8, f9, f10⟩ := hI
    obtain ⟨vsR, xR, sR⟩ := XB.out
    have hnW : n0 ≤ W.heap.size := by have := xR.lt; omega
    refine want_none (by exact rfl) ?_
    go_wp2_with fail
    refine (K4.out _ TB.out).mono ?_
    rintro e w' ⟨rfl, hb0⟩
    go_wp2_with fail
    have hb : Below W.heap.size W _ := hb0
    have TB' := kCall hb (kSize TB) TB
    refine hK.out _ _ (SS.out _ TB') ?_
    exact ⟨_, _, _, _, _, _, rfl, TB', ⟨_, xR.below hb xR.lt, sR⟩, f1.keep (by decide) (keepE hb), f2.keep (by decide) (keepE hb), Fl.new (EqV.rfl _), f5.keep (by decide) (keepE hb), f8.keep (by decide) (SlV.below hb), f9.keep (by decide) (AgV.below hb), f10.keep (by decide) (BxV.below hb)⟩
  · obtain ⟨v4, v5, v7, v8, v11, v12, rfl, TB, XB, f1, f2, f4, f5, f8, f9, f10⟩ := hI
    obtain ⟨vsR, xR, sR⟩ := XB.out
    have hnW : n0 ≤ W.heap.size := by have := xR.lt; omega
    obtain ⟨rfl⟩ := f4.get (hd 4 (by simp))
    refine want_none (by exact rfl) ?_
    go_wp2_with fail
    refine hK.out _ _ (SS.out _ TB) ?_
    exact ⟨_, _, _, _, _, _, rfl, TB, XB, f1.keep (by decide) id, f2.keep (by decide) id, f4.keep (by decide) id, Fl.new (EqV.rfl _), f8.keep (by decide) id, f9.keep (by decide) id, f10.keep (by decide) id⟩
  · obtain ⟨v4, v5, v7, v8, v11, v12, rfl, TB, XB, f1, f2, f4, f5, f8, f9, f10⟩ := hI
    obtain ⟨vsR, xR, sR⟩ := XB.out
    have hnW : n0 ≤ W.heap.size := by have := xR.lt; omega
    refine want_none (by exact rfl) ?_
    go_wp2_with fail
    refine (KD.out _ TB.out).mono ?_
    rintro e w' ⟨a', c', rfl, o', hb0⟩
    go_wp2_with fail
    have hb : Below W.heap.size W _ := hb0
    have TB' := kCall hb (kSize TB) TB
    refine hK.out _ _ (SS.out _ TB') ?_
    exact ⟨_, _, _, _, _, _, rfl, TB', ⟨_, xR.below hb xR.lt, sR⟩, f1.keep (by decide) (keepE hb), f2.keep (by decide) (keepE hb), f4.keep (by decide) (keepE hb), f5.keep (by decide) (keepE hb), Fl.new (⟨_, _, rfl, o'.rebase hnW⟩), f9.keep (by decide) (AgV.below hb), f10.keep (by decide) (BxV.below hb)⟩
  · obtain ⟨v4, v5, v7, v8, v11, v12, rfl, TB, XB, f1, f2, f4, f5, f8, f9, f10⟩ := hI
    obtain ⟨vsR, xR, sR⟩ := XB.out
    have hnW : n0 ≤ W.heap.size := by have := xR.lt; omega
    obtain ⟨rfl⟩ := f2.get (hd 2 (by simp))
    obtain ⟨rfl⟩ := f5.get (hd 5 (by simp))
    obtain ⟨a11, c11, rfl, o11⟩ := f8.get (hd 8 (by simp))
    refine want_none (by exact rfl) ?_
    go_wp2_with fail
    refine hK.out _ _ (SS.out _ TB) ?_
    exact ⟨_, _, _, _, _, _, rfl, TB, XB, f1.keep (by decide) id, f2.keep (by decide) id, f4.keep (by decide) id, f5.keep (by decide) id, f8.keep (by decide) id, Fl.new (⟨_, _, rfl, o11⟩), f10.keep (by decide) id⟩
  · obtain ⟨v4, v5, v7, v8, v11, v12, rfl, TB, XB, f1, f2, f4, f5, f8, f9, f10⟩ := hI
    obtain ⟨vsR, xR, sR⟩ := XB.out
    have hnW : n0 ≤ W.heap.size := by have := xR.lt; omega
    obtain ⟨a12, c12, rfl, o12⟩ := f9.get (hd 9 (by simp))
    refine storeBox_step _ rfl 25 (.tmp 2) (.tmp 12) rfl w.heap.size 25 vsR (#[.int .i64 m1, .int .i64 m2] ++ #[.slice a12 (0) c12]) xR (by exact rfl) (by exact rfl) (by kernel_rfl) (sR.trans rfl) (by simp [Value.oneCell']) ?_
    intro wS xS gS
    simp only [Act.put]
    have TB' := kGrownB gS TB (Nat.le_refl _)
    refine hK.out _ _ (SS.out _ TB') ?_
    exact ⟨_, _, _, _, _, _, rfl, TB', ⟨_, xS, rfl⟩, f1.keep (by decide) (id), f2.keep (by decide) (id), f4.keep (by decide) (id), f5.keep (by decide) (id), f8.keep (by decide) (SlV.grown gS hrn), f9.keep (by decide) (AgV.grown gS hrn), Fl.new (⟨_, _, xS, o12.grown gS (fun x hx e => by have := (o12.lt x hx).1; simp only [Option.some.injEq] at e; omega)⟩)⟩
  · obtain ⟨v4, v5, v7, v8, v11, v12, rfl, TB, XB, f1, f2, f4, f5, f8, f9, f10⟩ := hI
    obtain ⟨vsR, xR, sR⟩ := XB.out
    have hnW : n0 ≤ W.heap.size := by have := xR.lt; omega
    obtain ⟨a5, c5, x5, o5⟩ := f10.get (hall 10 (by decide))
    have X5 := Lib.hid x5
    have O5 := Lib.hid (o5.rebase hn1)
    have T5 := TB
    clear x5 o5 xR sR XB hall TB SS f1 f2 f4 f5 f8 f9 f10
    go_wp2
    exact bodyPost_ret (results_cell_row Try.results56 _ _ _ _ _ _ _ rfl X5.out Try.underlying25 rfl (by kernel_rfl)) rfl ⟨_, _, _, rfl, O5.out, T5.out⟩

theorem datagramIn_any (a : Option Addr) (len cap : Nat) (zs : List Int) (w : World) (hr : Rd w a len cap zs) (h1 : 8 ≤ len) (h2 : len ≤ 560) :
    Calls Try.prog 56 #[.slice a len cap] w (DatagramOut w (rdTo zs 0 2) (rdTo zs 2 2) (zs.drop 8)) := by
  by_cases hcap : cap = 8
  · have hle := hr.le
    obtain rfl : len = 8 := by omega
    subst hcap
    exact datagramIn_ok2 a zs w hr
  · exact datagramIn_ok1 a len cap zs w hr h1 h2 hcap

set_option maxRecDepth 20000 in
set_option maxHeartbeats 4000000 in
theorem implReadDatagram (f t : Int) (a : Option Addr) (len cap : Nat) (zs : List Int) (w : World) (hr : Rd w a len cap zs) :
    Calls Try.prog 13 #[.int .i64 f, .int .i64 t, .slice a len cap] w (RgRes w (rgAns f t zs)) := by
  obtain ⟨q, hq⟩ : ∃ q, q = (inB f 0 4294967295 && inB t 0 4294967295) := ⟨_, rfl⟩
  obtain ⟨A, hA⟩ : ∃ A, A = rgAns f t zs := ⟨_, rfl⟩
  rw [← hA]
  have hl := hr.length
  have hip : (ipB f && ipB t) = q := hq.symm
  have HA := Lib.hid hA
  have HIP := Lib.hid hip
  have HQ := Lib.hid hq
  have HR := Lib.hid hr
  have hml : len ≤ maxLen := Nat.le_trans hr.le hr.max
  unfold maxLen at hml
  have B0 := Lib.hid ((Below.refl w.heap.size w).alloc (Nat.le_refl _) (.cells #[.int .i64 0, .int .i64 0, .int .i64 0, .slice none 0 0] 34))
  have R0 := Lib.hid (Box.new w 34 #[.int .i64 0, .int .i64 0, .int .i64 0, .slice none 0 0])
  have HPH : Hid (q = true → len ≤ 560 → phB f t 17 len = true) := fun h hm => by
    unfold phB ipB
    rw [← hq, h, in_t (show (0 : Int) ≤ 17 ∧ (17 : Int) ≤ 255 by omega), in_t (show (0 : Int) ≤ (len : Int) ∧ (len : Int) ≤ 65535 by omega)]
    rfl
  clear hq hip hA hr
  go_enter Try.func13, Try.ntmps13
  go_wp2_with fail
  refine (ipBound_any f _).mono ?_
  rintro e w1 ⟨rfl, b1⟩
  have R1 := Lib.hid (R0.out.below b1 R0.out.lt)
  have B1 := Lib.hid (B0.out.trans (b1.mono B0.out.size))
  clear b1 R0 B0
  go_wp2_with fail
  refine (ipBound_any t _).mono ?_
  rintro e w2 ⟨rfl, b2⟩
  have R2 := Lib.hid (R1.out.below b2 R1.out.lt)
  have B2 := Lib.hid (B1.out.trans (b2.mono B1.out.size))
  clear b2 R1 B1
  go_wp2_with fail
  refine (within2 _ _ _ _ _ _ _ _ _ (Box.new _ _ _)).mono ?_
  rintro e w3 ⟨rfl, b3⟩
  have R3 := Lib.hid ((R2.out.alloc _).below b3 (R2.out.alloc _).lt)
  have B3 := Lib.hid ((B2.out.alloc B2.out.size _).trans (b3.mono (B2.out.alloc B2.out.size _).size))
  clear b3 R2 B2
  rw [← HQ.out]
  cases q
  · obtain rfl : A = rgNo 3 := HA.out.trans (rg_ip HIP.out)
    obtain ⟨_, r0, r1, r2, r3⟩ := R3.out.four'
    have f0 := R3.out.frozen 0
    have f1 := R3.out.frozen 1
    have f2 := R3.out.frozen 2
    have f3 := R3.out.frozen 3
    go_wp2
    exact bodyPost_ret (v := .agg #[.int .i64 3, .int .i64 0, .int .i64 0, .slice none 0 0]) (by simp [results, Try.results13, go_sem, r0, r1, r2, r3]) rfl ⟨none, 0, 0, rfl, Own.nil _ _, (((B3.out.setCell (by simp) _).setCell (by simp) _).setCell (by simp) _).setCell (by simp) _⟩
  clear HQ
  rcases Nat.lt_or_ge len 8 with h1 | h1
  · obtain rfl : A = rgNo 2 := HA.out.trans (rg_len HIP.out (by unfold dlOk; exact decide_eq_false (by omega)))
    have e1 : decide ((len : Int) < 8) = true := decide_eq_true (by omega)
    clear HA HPH HIP
    obtain ⟨_, r0, r1, r2, r3⟩ := R3.out.four'
    have f0 := R3.out.frozen 0
    have f1 := R3.out.frozen 1
    have f2 := R3.out.frozen 2
    have f3 := R3.out.frozen 3
    go_wp2
    exact bodyPost_ret (v := .agg #[.int .i64 2, .int .i64 0, .int .i64 0, .slice none 0 0]) (by simp [results, Try.results13, go_sem, r0, r1, r2, r3]) rfl ⟨none, 0, 0, rfl, Own.nil _ _, (((B3.out.setCell (by simp) _).setCell (by simp) _).setCell (by simp) _).setCell (by simp) _⟩
  rcases Nat.lt_or_ge 560 len with h2 | h2
  · obtain rfl : A = rgNo 2 := HA.out.trans (rg_len HIP.out (by unfold dlOk; exact decide_eq_false (by omega)))
    have e1 : decide ((len : Int) < 8) = false := decide_eq_false (by omega)
    have e2 : decide ((560 : Int) < len) = true := decide_eq_true (by omega)
    clear HA HPH HIP
    obtain ⟨_, r0, r1, r2, r3⟩ := R3.out.four'
    have f0 := R3.out.frozen 0
    have f1 := R3.out.frozen 1
    have f2 := R3.out.frozen 2
    have f3 := R3.out.frozen 3
    go_wp2
    exact bodyPost_ret (v := .agg #[.int .i64 2, .int .i64 0, .int .i64 0, .slice none 0 0]) (by simp [results, Try.results13, go_sem, r0, r1, r2, r3]) rfl ⟨none, 0, 0, rfl, Own.nil _ _, (((B3.out.setCell (by simp) _).setCell (by simp) _).setCell (by simp) _).setCell (by simp) _⟩
  have HDL := Lib.hid (show dlOk zs.length = true by unfold dlOk; exact decide_eq_true (by omega))
  have HPP := Lib.hid (HPH.out (by simp) h2)
  have e1 : decide ((len : Int) < 8) = false := decide_eq_false (by omega)
  have e2 : decide ((560 : Int) < len) = false := decide_eq_false (by omega)
  obtain ⟨k, hk⟩ : ∃ k, rdTo zs 4 2 = k := ⟨_, rfl⟩
  have KK := Lib.hid (readWord_l4 a len cap 4 2 4 2 k zs w3 (HR.out.below B3.out) rfl rfl (by omega) (by omega) (by omega) hk)
  have hfi := fld_ir
  have HK := Lib.hid hk
  clear HPH hk
  go_wp2_with fail
  refine KK.out.mono ?_
  rintro e w4 ⟨rfl, b4⟩
  have R4 := Lib.hid (R3.out.below b4 R3.out.lt)
  have B4 := Lib.hid (B3.out.trans (b4.mono B3.out.size))
  clear b4 R3 B3 KK
  by_cases hkl : k = len
  case neg =>
    obtain rfl : A = rgNo 1 := HA.out.trans (rg_form HIP.out HDL.out (by rw [HK.out, hl]; exact hkl))
    have hne : (k != (len : Int)) = true := by simpa using hkl
    clear HA HPP hkl HK HIP HDL
    obtain ⟨_, r0, r1, r2, r3⟩ := R4.out.four'
    have f0 := R4.out.frozen 0
    have f1 := R4.out.frozen 1
    have f2 := R4.out.frozen 2
    have f3 := R4.out.frozen 3
    go_wp2
    exact bodyPost_ret (v := .agg #[.int .i64 1, .int .i64 0, .int .i64 0, .slice none 0 0]) (by simp [results, Try.results13, go_sem, r0, r1, r2, r3]) rfl ⟨none, 0, 0, rfl, Own.nil _ _, (((B4.out.setCell (by simp) _).setCell (by simp) _).setCell (by simp) _).setCell (by simp) _⟩
  have hne : (k != (len : Int)) = false := by simpa using hkl
  have HK2 := Lib.hid (show rdTo zs 4 2 = zs.length by rw [HK.out, hl]; exact hkl)
  obtain ⟨s, hs⟩ : ∃ s, s = ((rdTo zs 6 2 == 0) || decide (dgSum f t 17 zs = 0)) := ⟨_, rfl⟩
  have KS := Lib.hid (isSumRight_any f t a len cap zs s w4 (HR.out.below B4.out) HPP.out h1 h2 hs)
  have H6 : Hid (s = false → A = rgNo 6) := fun h => HA.out.trans (rg_sum HIP.out HDL.out HK2.out (by rw [← hs, h]))
  have H7 : Hid (s = true → A = if ¬ dgC (rdTo zs 0 2) (rdTo zs 2 2) (len - 8) = 0 then rgNo 3 else ⟨0, rdTo zs 0 2, rdTo zs 2 2, zs.drop 8⟩) := fun h => by
    have := rg_fin HIP.out HDL.out HK2.out (by rw [← hs, h])
    rw [HA.out, this, hl]
  clear HA HIP HK HK2 HDL hs hkl HPP
  go_wp2_with fail
  refine KS.out.mono ?_
  rintro e w5 ⟨rfl, b5⟩
  have R5 := Lib.hid (R4.out.below b5 R4.out.lt)
  have B5 := Lib.hid (B4.out.trans (b5.mono B4.out.size))
  clear b5 R4 B4 KS
  cases s
  · obtain rfl : A = rgNo 6 := H6.out rfl
    clear H6 H7
    obtain ⟨_, r0, r1, r2, r3⟩ := R5.out.four'
    have f0 := R5.out.frozen 0
    have f1 := R5.out.frozen 1
    have f2 := R5.out.frozen 2
    have f3 := R5.out.frozen 3
    go_wp2
    exact bodyPost_ret (v := .agg #[.int .i64 6, .int .i64 0, .int .i64 0, .slice none 0 0]) (by simp [results, Try.results13, go_sem, r0, r1, r2, r3]) rfl ⟨none, 0, 0, rfl, Own.nil _ _, (((B5.out.setCell (by simp) _).setCell (by simp) _).setCell (by simp) _).setCell (by simp) _⟩
  have HA4 := Lib.hid (H7.out rfl)
  have KD := Lib.hid (datagramIn_any a len cap zs w5 (HR.out.below B5.out) h1 h2)
  have HD8 := Lib.hid (show (zs.drop 8).length = len - 8 by rw [List.length_drop, hl])
  clear H6 H7
  generalize rdTo zs 0 2 = m1 at *
  generalize rdTo zs 2 2 = m2 at *
  generalize zs.drop 8 = ys at *
  go_wp2_with fail
  refine KD.out.mono ?_
  rintro e w6 ⟨a6, l6, c6, rfl, o6, b6⟩
  obtain rfl : l6 = len - 8 := o6.length.symm.trans HD8.out
  have R6 := Lib.hid ((R5.out.below b6 R5.out.lt).alloc (.cells #[.int .i64 m1, .int .i64 m2, .slice a6 (len - 8) c6] 25))
  have B6' := B5.out.trans (b6.mono B5.out.size)
  have B6 := Lib.hid (B6'.alloc B6'.size (.cells #[.int .i64 m1, .int .i64 m2, .slice a6 (len - 8) c6] 25))
  have X6 := Lib.hid (Box.new w6 25 #[.int .i64 m1, .int .i64 m2, .slice a6 (len - 8) c6])
  have hn6 : Hid (∀ x, a6 = some x → ¬ x.block = w.heap.size) := fun x hx e => by
    have := (o6.lt x hx).1
    have := R5.out.lt
    omega
  have O6 := Lib.hid ((o6.rebase B5.out.size).alloc (.cells #[.int .i64 m1, .int .i64 m2, .slice a6 (len - 8) c6] 25))
  have KF := Lib.hid (fun W => implDatagramFault m1 m2 a6 (len - 8) c6 W)
  clear b6 o6 R5 B5 KD B6'
  generalize hW6 : w6.alloc (.cells #[.int .i64 m1, .int .i64 m2, .slice a6 (len - 8) c6] 25) = W6 at *
  obtain ⟨_, x0, x1, x2⟩ := X6.out.three
  go_wp2_with fail
  refine (KF.out _).mono ?_
  rintro e w7 ⟨rfl, b7⟩
  have R7 := Lib.hid (R6.out.below b7 R6.out.lt)
  have X7 := Lib.hid (X6.out.below b7 X6.out.lt)
  have B7 := Lib.hid (B6.out.trans (b7.mono B6.out.size))
  have O7 := Lib.hid (O6.out.below b7)
  have H3 := Lib.hid (dgC_three m1 m2 (len - 8) (by omega))
  clear b7 R6 X6 B6 O6 KF hW6 x0 x1 x2
  by_cases hc : dgC m1 m2 (len - 8) = 0
  case neg =>
    obtain rfl : A = rgNo 3 := by rw [HA4.out, if_pos hc]
    rw [H3.out hc]
    clear HA4 H3 hc
    obtain ⟨_, r0, r1, r2, r3⟩ := R7.out.four'
    have f0 := R7.out.frozen 0
    have f1 := R7.out.frozen 1
    have f2 := R7.out.frozen 2
    have f3 := R7.out.frozen 3
    go_wp2
    exact bodyPost_ret (v := .agg #[.int .i64 3, .int .i64 0, .int .i64 0, .slice none 0 0]) (by simp [results, Try.results13, go_sem, r0, r1, r2, r3]) rfl ⟨none, 0, 0, rfl, Own.nil _ _, (((B7.out.setCell (by simp) _).setCell (by simp) _).setCell (by simp) _).setCell (by simp) _⟩
  obtain rfl : A = ⟨0, m1, m2, ys⟩ := by rw [HA4.out, if_neg (by simpa using hc)]
  rw [hc]
  clear HA4 H3 hc
  obtain ⟨_, x0, x1, x2⟩ := X7.out.three
  obtain ⟨_, r0, r1, r2, r3⟩ := R7.out.four'
  have f0 := R7.out.frozen 0
  have f1 := R7.out.frozen 1
  have f2 := R7.out.frozen 2
  have f3 := R7.out.frozen 3
  go_wp2
  refine bodyPost_ret (v := .agg #[.int .i64 0, .int .i64 m1, .int .i64 m2, .slice a6 (len - 8) c6]) (by simp [results, Try.results13, go_sem, r0, r1, r2, r3]) rfl ⟨_, _, _, rfl, ?_, (((B7.out.setCell (by simp) _).setCell (by simp) _).setCell (by simp) _).setCell (by simp) _⟩
  exact (((O7.out.setOther _ _ hn6.out).setOther _ _ hn6.out).setOther _ _ hn6.out).setOther _ _ hn6.out

theorem readDatagram_law (f t : Int) (a : Option Addr) (len cap : Nat) (zs : List Int) (w : World) (hr : Rd w a len cap zs) :
    Calls Try.prog 7 #[.int .i64 f, .int .i64 t, .slice a len cap] w fun e w' => e = .returned (.bool true) ∧ Below w.heap.size w w' :=
  exactReadDatagram f t a len cap zs (rgAns f t zs).c (rgAns f t zs).f (rgAns f t zs).t (rgAns f t zs).rs w hr (fun a' l' c' W h => specReadDatagram f t a' l' c' zs W h) (fun a' l' c' W h => implReadDatagram f t a' l' c' zs W h) (rgAns_len f t zs)
end Go.Proofs.Ytmcllaefjgdbeaa

namespace Go.Proofs.Ytmcllaefjgdbeaa
open Go.ChangeShapes Go.WideShapes Go.ChangeAt Go.RowKit
theorem datagrams_holds (a : Option Addr) (len cap : Nat) (zs : List Int) (w : World) (hr : Rd w a len cap zs) :
    Calls Try.prog 3 #[.slice a len cap] w fun e w' => e = .returned (.bool true) ∧ Below w.heap.size w w' :=
  datagrams_law a len cap zs w hr implPackDatagram implReadDatagram implPseudoHead implDatagramFault implSameDatagrams
end Go.Proofs.Ytmcllaefjgdbeaa
