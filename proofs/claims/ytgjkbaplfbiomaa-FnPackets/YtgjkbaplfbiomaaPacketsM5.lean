/-
  PackEcho of the program, and its law.
  The law FnPackets.
-/
import Derived.Test.YtgjkbaplfbiomaaPacketsM4
import Derived.Test.YtgjkbaplfbiomaaPacketsM2
import Derived.Test.YtgjkbaplfbiomaaPacketsM3
import Derived.Deep.DeepCutAuto
namespace Go.Proofs.Ytgjkbaplfbiomaa
open Go.ChangeShapes Go.WideShapes Go.ChangeAt Go.RowKit

set_option maxRecDepth 20000 in
set_option maxHeartbeats 4000000 in
theorem implPackEcho_false (ei es : Int) (a : Option Addr) (len cap : Nat) (zs : List Int) (w : World) (hr : Rd w a len cap zs) (hk : echoC ei es len = 0) :
    Calls Try.prog 17 #[.agg #[.bool false, .int .i64 ei, .int .i64 es, .slice a len cap]] w (Packed w 0 (echoL false ei es zs)) := by
  obtain ⟨h0, h1, h2⟩ := echoC_parts hk
  have S := Lib.hid (fun W => implEchoFault false ei es a len cap W)
  rw [hk] at S
  have K1 := Lib.hid (show ∀ W, Calls Try.prog 69 #[.int .i64 ei, .int .i64 2] W (Packed W 0 (be ei 2)) from fun W => implPack_ok ei 2 W h0.1 (by omega) (by simp only [Int.reducePow]; omega))
  have K2 := Lib.hid (show ∀ W, Calls Try.prog 69 #[.int .i64 es, .int .i64 2] W (Packed W 0 (be es 2)) from fun W => implPack_ok es 2 W h1.1 (by omega) (by simp only [Int.reducePow]; omega))
  obtain ⟨L, hL⟩ : ∃ L, L = [8, 0, 0, 0] ++ be ei 2 ++ be es 2 ++ zs := ⟨_, rfl⟩
  have HL := Lib.hid hL
  have hlen : L.length = 8 + len := by rw [hL]; simp [be_len, hr.length]; omega
  have hE : echoL false ei es zs = sealB L 2 := by rw [hL, echoL]; rfl
  rw [hE]
  have KS := Lib.hid (fun (s : Option Addr) (l c : Nat) (W : World) (hR : Rd W s l c L) => show Calls Try.prog 54 #[.slice s l c, .int .i64 2] W (Packed W 0 (sealB L 2)) from implSeal_ok s l c 2 _ W hR (by have := hR.length; omega) (by have := hR.length; omega) (by omega))
  have HR := Lib.hid hr
  have B0 := Lib.hid (((Below.refl w.heap.size w).alloc (Nat.le_refl _) (.cells #[.bool false, .int .i64 ei, .int .i64 es, .slice a len cap] 35)).alloc (by simp) (.cells #[.int .i64 0, .slice none 0 0] 28))
  have X0 := Lib.hid ((Box.new w 35 #[.bool false, .int .i64 ei, .int .i64 es, .slice a len cap]).alloc (.cells #[.int .i64 0, .slice none 0 0] 28))
  have R0 := Lib.hid (Box.new (w.alloc (.cells #[.bool false, .int .i64 ei, .int .i64 es, .slice a len cap] 35)) 28 #[.int .i64 0, .slice none 0 0])
  simp only [World.size_alloc] at R0
  have hfb := fld_br
  clear hL hE h0 h1 hr hk hlen
  generalize sealB L 2 = LS at *
  go_enter Try.func17, Try.ntmps17
  go_wp2_with fail
  refine (S.out _).mono ?_
  rintro e W0 ⟨rfl, b1⟩
  have X1 := Lib.hid (X0.out.below b1 X0.out.lt)
  have R1 := Lib.hid (R0.out.below b1 R0.out.lt)
  have B1 := Lib.hid (B0.out.trans (b1.mono B0.out.size))
  clear b1 X0 R0 B0 S
  obtain ⟨_, x0, x1, x2, x3⟩ := X1.out.four
  go_wp2_with fail
  clear x0 x1 x2 x3
  have SS := Lib.hid (show ∀ W, Hid (Below W0.heap.size W0 W) → W.cell? ⟨w.heap.size, 1, none⟩ = some (.int .i64 ei) ∧ W.cell? ⟨w.heap.size, 2, none⟩ = some (.int .i64 es) ∧ W.cell? ⟨w.heap.size, 3, none⟩ = some (.slice a len cap) ∧ Hid (Below W0.heap.size W0 W) from fun W h => by
    obtain ⟨_, _, x1, x2, x3⟩ := (X1.out.below h.out X1.out.lt).four
    exact ⟨x1, x2, x3, h⟩)
  have T1 := Lib.hid (Below.refl W0.heap.size W0)
  have HR := Lib.hid (HR.out.below B1.out)
  obtain ⟨n0, hnn⟩ : ∃ n0, n0 = w.heap.size := ⟨_, rfl⟩
  have hn0 : n0 ≤ W0.heap.size := by rw [hnn]; exact B1.out.size
  have hnn := Lib.hid hnn
  have TD := kDrew T1
  refine wp_region_held_drew (S := fun W => W.cell? ⟨w.heap.size, 1, none⟩ = some (.int .i64 ei) ∧ W.cell? ⟨w.heap.size, 2, none⟩ = some (.int .i64 es) ∧ W.cell? ⟨w.heap.size, 3, none⟩ = some (.slice a len cap) ∧ Hid (Below W0.heap.size W0 W)) (by kernel_rfl) (SS.out _ TD) (fun hHeld => ?_)
  refine wpAnyH_take (i := 0) (v := ?_) (by simp only [List.getElem?_toArray, List.getElem?_cons_zero]; exact rfl) (by kernel_rfl) (by kernel_rfl) (by kernel_rfl) (by exact fun _ _ _ h => h) (Or.inl ⟨by rfl, ?_⟩) hHeld ?_
  rotate_left
  · intro w' hSw
    obtain ⟨s0, s1, s2, _⟩ := hSw
    go_simp
    try with_reducible rfl
  try simp only [Act.put, List.setIfInBounds_toArray, List.set_cons_zero, List.set_cons_succ]
  refine wpAnyH_take (i := 2) (v := ?_) (by simp only [List.getElem?_toArray, List.getElem?_cons_zero, List.getElem?_cons_succ]; exact rfl) (by kernel_rfl) (by kernel_rfl) (by kernel_rfl) (by exact fun _ _ _ h => h) (Or.inl ⟨by rfl, ?_⟩) hHeld ?_
  rotate_left
  · intro w' hSw
    obtain ⟨s0, s1, s2, _⟩ := hSw
    go_simp
    try with_reducible rfl
  try simp only [Act.put, List.setIfInBounds_toArray, List.set_cons_zero, List.set_cons_succ]
  refine wpAnyH_take (i := 3) (v := ?_) (by simp only [List.getElem?_toArray, List.getElem?_cons_zero, List.getElem?_cons_succ]; exact rfl) (by kernel_rfl) (by kernel_rfl) (by kernel_rfl) (by exact fun _ _ _ h => h) (Or.inl ⟨by rfl, ?_⟩) hHeld ?_
  rotate_left
  · intro w' hSw
    obtain ⟨s0, s1, s2, _⟩ := hSw
    go_simp
    try with_reducible rfl
  try simp only [Act.put, List.setIfInBounds_toArray, List.set_cons_zero, List.set_cons_succ]
  refine wpAnyH_take (i := 6) (v := ?_) (by simp only [List.getElem?_toArray, List.getElem?_cons_zero, List.getElem?_cons_succ]; exact rfl) (by kernel_rfl) (by kernel_rfl) (by kernel_rfl) (by exact fun _ _ _ h => h) (Or.inl ⟨by rfl, ?_⟩) hHeld ?_
  rotate_left
  · intro w' hSw
    obtain ⟨s0, s1, s2, _⟩ := hSw
    go_simp
    try with_reducible rfl
  try simp only [Act.put, List.setIfInBounds_toArray, List.set_cons_zero, List.set_cons_succ]
  refine wpAnyH_take (i := 7) (v := ?_) (by simp only [List.getElem?_toArray, List.getElem?_cons_zero, List.getElem?_cons_succ]; exact rfl) (by kernel_rfl) (by kernel_rfl) (by kernel_rfl) (by exact fun _ _ _ h => h) (Or.inl ⟨by rfl, ?_⟩) hHeld ?_
  rotate_left
  · intro w' hSw
    obtain ⟨s0, s1, s2, _⟩ := hSw
    go_simp
    try with_reducible rfl
  try simp only [Act.put, List.setIfInBounds_toArray, List.set_cons_zero, List.set_cons_succ]
  refine wpAnyH_take (i := 10) (v := ?_) (by simp only [List.getElem?_toArray, List.getElem?_cons_zero, List.getElem?_cons_succ]; exact rfl) (by kernel_rfl) (by kernel_rfl) (by kernel_rfl) (by exact fun _ _ _ h => h) (Or.inl ⟨by rfl, ?_⟩) hHeld ?_
  rotate_left
  · intro w' hSw
    obtain ⟨s0, s1, s2, _⟩ := hSw
    go_simp
    try with_reducible rfl
  try simp only [Act.put, List.setIfInBounds_toArray, List.set_cons_zero, List.set_cons_succ]
  refine wpAnyH_take (i := 11) (v := ?_) (by simp only [List.getElem?_toArray, List.getElem?_cons_zero, List.getElem?_cons_succ]; exact rfl) (by kernel_rfl) (by kernel_rfl) (by kernel_rfl) (by exact fun _ _ _ h => h) (Or.inl ⟨by rfl, ?_⟩) hHeld ?_
  rotate_left
  · intro w' hSw
    obtain ⟨s0, s1, s2, _⟩ := hSw
    go_simp
    try with_reducible rfl
  try simp only [Act.put, List.setIfInBounds_toArray, List.set_cons_zero, List.set_cons_succ]
  refine flow_go (Inv := fun listed ac W => ∃ v5 v15 v18 v19 v22 v23 v26 v27 : Value, ac = { tmps := #[.agg #[.bool false, .int .i64 ei, .int .i64 es, .slice a len cap], .pointer (some ⟨w.heap.size, 0, none⟩), .pointer (some ⟨w.heap.size + 1, 0, none⟩), .int .i64 0, .int .u8 8, v5, .agg #[.bool false, .int .i64 ei, .int .i64 es, .slice a len cap], .int .i64 0, .int .i64 0, .bool false, undef, undef, .pointer (some ⟨w.heap.size, 0, none⟩), .bool false, .int .u8 8, v15, .pointer (some ⟨w.heap.size, 1, none⟩), .int .i64 ei, v18, v19, .pointer (some ⟨w.heap.size, 2, none⟩), .int .i64 es, v22, v23, .pointer (some ⟨w.heap.size, 3, none⟩), .slice a len cap, v26, v27, undef, undef], defers := [] } ∧ Hid (Below W0.heap.size W0 W) ∧ Fl listed 1 (SlV W n0 v15 4 [8, 0, 0, 0]) ∧ Fl listed 4 (BrV W n0 v18 2 (be ei 2)) ∧ Fl listed 5 (SlV W n0 v19 2 (be ei 2)) ∧ Fl listed 8 (BrV W n0 v22 2 (be es 2)) ∧ Fl listed 9 (SlV W n0 v23 2 (be es 2)) ∧ Fl listed 12 (CatV W v26 4 L) ∧ Fl listed 13 (AnyV W n0 v27 L) ∧ Fl listed 14 (AnyV W n0 v5 L)) [1, 4, 5, 8, 9, 12, 13, 14] (by kernel_rfl) (by kernel_rfl) ⟨_, _, _, _, _, _, _, _, rfl, TD, Fl.not (by kernel_rfl), Fl.not (by kernel_rfl), Fl.not (by kernel_rfl), Fl.not (by kernel_rfl), Fl.not (by kernel_rfl), Fl.not (by kernel_rfl), Fl.not (by kernel_rfl), Fl.not (by kernel_rfl)⟩
    (FlowAll.cons [] (by simp only [List.getElem?_toArray, List.getElem?_cons_zero, List.getElem?_cons_succ]; exact rfl) (by kernel_rfl) (fun listed ac W hI hu hd K hK => ?_)
      (FlowAll.cons [] (by simp only [List.getElem?_toArray, List.getElem?_cons_zero, List.getElem?_cons_succ]; exact rfl) (by kernel_rfl) (fun listed ac W hI hu hd K hK => ?_)
      (FlowAll.cons [4] (by simp only [List.getElem?_toArray, List.getElem?_cons_zero, List.getElem?_cons_succ]; exact rfl) (by kernel_rfl) (fun listed ac W hI hu hd K hK => ?_)
      (FlowAll.cons [] (by simp only [List.getElem?_toArray, List.getElem?_cons_zero, List.getElem?_cons_succ]; exact rfl) (by kernel_rfl) (fun listed ac W hI hu hd K hK => ?_)
      (FlowAll.cons [8] (by simp only [List.getElem?_toArray, List.getElem?_cons_zero, List.getElem?_cons_succ]; exact rfl) (by kernel_rfl) (fun listed ac W hI hu hd K hK => ?_)
      (FlowAll.cons [1, 5, 9] (by simp only [List.getElem?_toArray, List.getElem?_cons_zero, List.getElem?_cons_succ]; exact rfl) (by kernel_rfl) (fun listed ac W hI hu hd K hK => ?_)
      (FlowAll.cons [12] (by simp only [List.getElem?_toArray, List.getElem?_cons_zero, List.getElem?_cons_succ]; exact rfl) (by kernel_rfl) (fun listed ac W hI hu hd K hK => ?_)
      (FlowAll.cons [13] (by simp only [List.getElem?_toArray, List.getElem?_cons_zero, List.getElem?_cons_succ]; exact rfl) (by kernel_rfl) (fun listed ac W hI hu hd K hK => ?_)
      FlowAll.nil))))))))
    (fun listed ac W hI hall => ?_)
  · obtain ⟨v5, v15, v18, v19, v22, v23, v26, v27, rfl, TB, f1, f4, f5, f8, f9, f12, f13, f14⟩ := hI
    have hnW : n0 ≤ W.heap.size := Nat.le_trans hn0 (kSize TB)
    refine want_none (by exact rfl) ?_
    go_wp2_with fail
    have hb : Below W.heap.size W _ := bAlloc W (.cells #[.int .u8 8, .int .u8 0, .int .u8 0, .int .u8 0] 5)
    have TB' := kCall hb (kSize TB) TB
    refine hK.out _ _ (SS.out _ TB') ?_
    exact ⟨_, _, _, _, _, _, _, _, rfl, TB', Fl.new (SlV.lit hnW 4 rfl (by intro n hn; simp at hn; omega) (by unfold maxLen; omega) _ rfl), f4.keep (by decide) (BrV.below hb), f5.keep (by decide) (SlV.below hb), f8.keep (by decide) (BrV.below hb), f9.keep (by decide) (SlV.below hb), f12.keep (by decide) (CatV.below hb), f13.keep (by decide) (AnyV.below hb), f14.keep (by decide) (AnyV.below hb)⟩
  · obtain ⟨v5, v15, v18, v19, v22, v23, v26, v27, rfl, TB, f1, f4, f5, f8, f9, f12, f13, f14⟩ := hI
    have hnW : n0 ≤ W.heap.size := Nat.le_trans hn0 (kSize TB)
    refine want_none (by exact rfl) ?_
    go_wp2_with fail
    refine (K1.out _).mono ?_
    intro e w' hp
    obtain ⟨v, rfl, hv, hb0⟩ := BrV.of_packed hp (be_len 2 _) hnW
    go_wp2_with fail
    have hb : Below W.heap.size W _ := hb0
    have TB' := kCall hb (kSize TB) TB
    refine hK.out _ _ (SS.out _ TB') ?_
    exact ⟨_, _, _, _, _, _, _, _, rfl, TB', f1.keep (by decide) (SlV.below hb), Fl.new (hv), f5.keep (by decide) (SlV.below hb), f8.keep (by decide) (BrV.below hb), f9.keep (by decide) (SlV.below hb), f12.keep (by decide) (CatV.below hb), f13.keep (by decide) (AnyV.below hb), f14.keep (by decide) (AnyV.below hb)⟩
  · obtain ⟨v5, v15, v18, v19, v22, v23, v26, v27, rfl, TB, f1, f4, f5, f8, f9, f12, f13, f14⟩ := hI
    have hnW : n0 ≤ W.heap.size := Nat.le_trans hn0 (kSize TB)
    obtain ⟨a18, c18, rfl, o18⟩ := f4.get (hd 4 (by simp))
    refine want_none (by exact rfl) ?_
    go_wp2_with fail
    refine hK.out _ _ (SS.out _ TB) ?_
    exact ⟨_, _, _, _, _, _, _, _, rfl, TB, f1.keep (by decide) id, f4.keep (by decide) id, Fl.new (⟨_, _, rfl, o18⟩), f8.keep (by decide) id, f9.keep (by decide) id, f12.keep (by decide) id, f13.keep (by decide) id, f14.keep (by decide) id⟩
  · obtain ⟨v5, v15, v18, v19, v22, v23, v26, v27, rfl, TB, f1, f4, f5, f8, f9, f12, f13, f14⟩ := hI
    have hnW : n0 ≤ W.heap.size := Nat.le_trans hn0 (kSize TB)
    refine want_none (by exact rfl) ?_
    go_wp2_with fail
    refine (K2.out _).mono ?_
    intro e w' hp
    obtain ⟨v, rfl, hv, hb0⟩ := BrV.of_packed hp (be_len 2 _) hnW
    go_wp2_with fail
    have hb : Below W.heap.size W _ := hb0
    have TB' := kCall hb (kSize TB) TB
    refine hK.out _ _ (SS.out _ TB') ?_
    exact ⟨_, _, _, _, _, _, _, _, rfl, TB', f1.keep (by decide) (SlV.below hb), f4.keep (by decide) (BrV.below hb), f5.keep (by decide) (SlV.below hb), Fl.new (hv), f9.keep (by decide) (SlV.below hb), f12.keep (by decide) (CatV.below hb), f13.keep (by decide) (AnyV.below hb), f14.keep (by decide) (AnyV.below hb)⟩
  · obtain ⟨v5, v15, v18, v19, v22, v23, v26, v27, rfl, TB, f1, f4, f5, f8, f9, f12, f13, f14⟩ := hI
    have hnW : n0 ≤ W.heap.size := Nat.le_trans hn0 (kSize TB)
    obtain ⟨a22, c22, rfl, o22⟩ := f8.get (hd 8 (by simp))
    refine want_none (by exact rfl) ?_
    go_wp2_with fail
    refine hK.out _ _ (SS.out _ TB) ?_
    exact ⟨_, _, _, _, _, _, _, _, rfl, TB, f1.keep (by decide) id, f4.keep (by decide) id, f5.keep (by decide) id, f8.keep (by decide) id, Fl.new (⟨_, _, rfl, o22⟩), f12.keep (by decide) id, f13.keep (by decide) id, f14.keep (by decide) id⟩
  · obtain ⟨v5, v15, v18, v19, v22, v23, v26, v27, rfl, TB, f1, f4, f5, f8, f9, f12, f13, f14⟩ := hI
    have hnW : n0 ≤ W.heap.size := Nat.le_trans hn0 (kSize TB)
    obtain ⟨a15, c15, rfl, o15⟩ := f1.get (hd 1 (by simp))
    obtain ⟨a19, c19, rfl, o19⟩ := f5.get (hd 5 (by simp))
    obtain ⟨a23, c23, rfl, o23⟩ := f9.get (hd 9 (by simp))
    refine want_none (by exact rfl) ?_
    go_wp2_with fail
    have hb : Below W.heap.size W _ := bAlloc W (.cells #[.slice a15 4 c15, .slice a19 2 c19, .slice a23 2 c23, .slice a len cap] 22)
    have TB' := kCall hb (kSize TB) TB
    refine hK.out _ _ (SS.out _ TB') ?_
    exact ⟨_, _, _, _, _, _, _, _, rfl, TB', f1.keep (by decide) (SlV.below hb), f4.keep (by decide) (BrV.below hb), f5.keep (by decide) (SlV.below hb), f8.keep (by decide) (BrV.below hb), f9.keep (by decide) (SlV.below hb), Fl.new (⟨_, [⟨a15, 4, c15, [8, 0, 0, 0]⟩, ⟨a19, 2, c19, be ei 2⟩, ⟨a23, 2, c23, be es 2⟩, ⟨a, len, cap, zs⟩], rfl, rfl, sls_box (Box.new _ _ _) (by intro s hs; simp only [List.mem_cons, List.not_mem_nil, or_false] at hs; rcases hs with rfl | rfl | rfl | rfl; exact o15.rd.below hb; exact o19.rd.below hb; exact o23.rd.below hb; exact (HR.out.below TB.out).below hb), by rw [HL.out]; simp [catZ], by simp only [sumN]; omega⟩), f13.keep (by decide) (AnyV.below hb), f14.keep (by decide) (AnyV.below hb)⟩
  · obtain ⟨v5, v15, v18, v19, v22, v23, v26, v27, rfl, TB, f1, f4, f5, f8, f9, f12, f13, f14⟩ := hI
    have hnW : n0 ≤ W.heap.size := Nat.le_trans hn0 (kSize TB)
    obtain ⟨g, ss, rfl, hs, hS, hZ, hT⟩ := f12.get (hd 12 (by simp))
    refine want_none (by exact rfl) ?_
    go_wp2_with fail
    refine (catV_call hs hS hZ hT).mono ?_
    rintro e w' ⟨a', l', c', rfl, o', hb0⟩
    go_wp2_with fail
    have hb : Below W.heap.size W _ := hb0
    have TB' := kCall hb (kSize TB) TB
    refine hK.out _ _ (SS.out _ TB') ?_
    exact ⟨_, _, _, _, _, _, _, _, rfl, TB', f1.keep (by decide) (SlV.below hb), f4.keep (by decide) (BrV.below hb), f5.keep (by decide) (SlV.below hb), f8.keep (by decide) (BrV.below hb), f9.keep (by decide) (SlV.below hb), f12.keep (by decide) (CatV.below hb), Fl.new (⟨_, _, _, rfl, o'.rebase hnW⟩), f14.keep (by decide) (AnyV.below hb)⟩
  · obtain ⟨v5, v15, v18, v19, v22, v23, v26, v27, rfl, TB, f1, f4, f5, f8, f9, f12, f13, f14⟩ := hI
    have hnW : n0 ≤ W.heap.size := Nat.le_trans hn0 (kSize TB)
    obtain ⟨a27, l27, c27, rfl, o27⟩ := f13.get (hd 13 (by simp))
    refine want_none (by exact rfl) ?_
    go_wp2_with fail
    refine hK.out _ _ (SS.out _ TB) ?_
    exact ⟨_, _, _, _, _, _, _, _, rfl, TB, f1.keep (by decide) id, f4.keep (by decide) id, f5.keep (by decide) id, f8.keep (by decide) id, f9.keep (by decide) id, f12.keep (by decide) id, f13.keep (by decide) id, Fl.new (⟨_, _, _, rfl, o27⟩)⟩
  · obtain ⟨v5, v15, v18, v19, v22, v23, v26, v27, rfl, TB, f1, f4, f5, f8, f9, f12, f13, f14⟩ := hI
    have hnW : n0 ≤ W.heap.size := Nat.le_trans hn0 (kSize TB)
    obtain ⟨a5, l5, c5, rfl, o5⟩ := f14.get (hall 14 (by decide))
    have O5 := Lib.hid o5
    have T5 := TB
    clear o5 f1 f4 f5 f8 f9 f12 f13 f14 TB hall SS
    go_wp2_with fail
    refine (KS.out _ _ _ _ O5.out.rd).mono ?_
    rintro e w6 ⟨a6, l6, c6, rfl, o6, b6⟩
    have R6 := ((R1.out.below T5.out R1.out.lt).below b6 (R1.out.below T5.out R1.out.lt).lt)
    obtain ⟨r0, r1, r2⟩ := R6.two
    have q0 := R6.frozen 0
    have q1 := R6.frozen 1
    have B5 := B1.out.trans (T5.out.mono B1.out.size)
    have hs5 := B5.size
    have hr5 := (R1.out.below T5.out R1.out.lt).lt
    have B6 := Lib.hid (B5.trans (b6.mono hs5))
    have hn : Hid (∀ x, a6 = some x → ¬ x.block = w.heap.size + 1) := fun x hx e => by
      have := (o6.lt x hx).1
      omega
    have O6 := Lib.hid (o6.rebase hs5)
    clear o6 b6 O5 B5 R6 hs5 hr5 T5
    go_wp2
    refine bodyPost_ret (v := .agg #[.int .i64 0, .slice a6 l6 c6]) (by simp [results, Try.results17, go_sem, r1, r2]) rfl ⟨_, _, _, rfl, ?_, (B6.out.setCell (by simp) _).setCell (by simp) _⟩
    exact (O6.out.setOther _ _ hn.out).setOther _ _ hn.out

set_option maxRecDepth 20000 in
set_option maxHeartbeats 4000000 in
theorem implPackEcho_true (ei es : Int) (a : Option Addr) (len cap : Nat) (zs : List Int) (w : World) (hr : Rd w a len cap zs) (hk : echoC ei es len = 0) :
    Calls Try.prog 17 #[.agg #[.bool true, .int .i64 ei, .int .i64 es, .slice a len cap]] w (Packed w 0 (echoL true ei es zs)) := by
  obtain ⟨h0, h1, h2⟩ := echoC_parts hk
  have S := Lib.hid (fun W => implEchoFault true ei es a len cap W)
  rw [hk] at S
  have K1 := Lib.hid (show ∀ W, Calls Try.prog 69 #[.int .i64 ei, .int .i64 2] W (Packed W 0 (be ei 2)) from fun W => implPack_ok ei 2 W h0.1 (by omega) (by simp only [Int.reducePow]; omega))
  have K2 := Lib.hid (show ∀ W, Calls Try.prog 69 #[.int .i64 es, .int .i64 2] W (Packed W 0 (be es 2)) from fun W => implPack_ok es 2 W h1.1 (by omega) (by simp only [Int.reducePow]; omega))
  obtain ⟨L, hL⟩ : ∃ L, L = [0, 0, 0, 0] ++ be ei 2 ++ be es 2 ++ zs := ⟨_, rfl⟩
  have HL := Lib.hid hL
  have hlen : L.length = 8 + len := by rw [hL]; simp [be_len, hr.length]; omega
  have hE : echoL true ei es zs = sealB L 2 := by rw [hL, echoL]; rfl
  rw [hE]
  have KS := Lib.hid (fun (s : Option Addr) (l c : Nat) (W : World) (hR : Rd W s l c L) => show Calls Try.prog 54 #[.slice s l c, .int .i64 2] W (Packed W 0 (sealB L 2)) from implSeal_ok s l c 2 _ W hR (by have := hR.length; omega) (by have := hR.length; omega) (by omega))
  have HR := Lib.hid hr
  have B0 := Lib.hid (((Below.refl w.heap.size w).alloc (Nat.le_refl _) (.cells #[.bool true, .int .i64 ei, .int .i64 es, .slice a len cap] 35)).alloc (by simp) (.cells #[.int .i64 0, .slice none 0 0] 28))
  have X0 := Lib.hid ((Box.new w 35 #[.bool true, .int .i64 ei, .int .i64 es, .slice a len cap]).alloc (.cells #[.int .i64 0, .slice none 0 0] 28))
  have R0 := Lib.hid (Box.new (w.alloc (.cells #[.bool true, .int .i64 ei, .int .i64 es, .slice a len cap] 35)) 28 #[.int .i64 0, .slice none 0 0])
  simp only [World.size_alloc] at R0
  have hfb := fld_br
  clear hL hE h0 h1 hr hk hlen
  generalize sealB L 2 = LS at *
  go_enter Try.func17, Try.ntmps17
  go_wp2_with fail
  refine (S.out _).mono ?_
  rintro e W0 ⟨rfl, b1⟩
  have X1 := Lib.hid (X0.out.below b1 X0.out.lt)
  have R1 := Lib.hid (R0.out.below b1 R0.out.lt)
  have B1 := Lib.hid (B0.out.trans (b1.mono B0.out.size))
  clear b1 X0 R0 B0 S
  obtain ⟨_, x0, x1, x2, x3⟩ := X1.out.four
  go_wp2_with fail
  clear x0 x1 x2 x3
  have SS := Lib.hid (show ∀ W, Hid (Below W0.heap.size W0 W) → W.cell? ⟨w.heap.size, 1, none⟩ = some (.int .i64 ei) ∧ W.cell? ⟨w.heap.size, 2, none⟩ = some (.int .i64 es) ∧ W.cell? ⟨w.heap.size, 3, none⟩ = some (.slice a len cap) ∧ Hid (Below W0.heap.size W0 W) from fun W h => by
    obtain ⟨_, _, x1, x2, x3⟩ := (X1.out.below h.out X1.out.lt).four
    exact ⟨x1, x2, x3, h⟩)
  have T1 := Lib.hid (Below.refl W0.heap.size W0)
  have HR := Lib.hid (HR.out.below B1.out)
  obtain ⟨n0, hnn⟩ : ∃ n0, n0 = w.heap.size := ⟨_, rfl⟩
  have hn0 : n0 ≤ W0.heap.size := by rw [hnn]; exact B1.out.size
  have hnn := Lib.hid hnn
  have TD := kDrew T1
  refine wp_region_held_drew (S := fun W => W.cell? ⟨w.heap.size, 1, none⟩ = some (.int .i64 ei) ∧ W.cell? ⟨w.heap.size, 2, none⟩ = some (.int .i64 es) ∧ W.cell? ⟨w.heap.size, 3, none⟩ = some (.slice a len cap) ∧ Hid (Below W0.heap.size W0 W)) (by kernel_rfl) (SS.out _ TD) (fun hHeld => ?_)
  refine wpAnyH_take (i := 0) (v := ?_) (by simp only [List.getElem?_toArray, List.getElem?_cons_zero]; exact rfl) (by kernel_rfl) (by kernel_rfl) (by kernel_rfl) (by exact fun _ _ _ h => h) (Or.inl ⟨by rfl, ?_⟩) hHeld ?_
  rotate_left
  · intro w' hSw
    obtain ⟨s0, s1, s2, _⟩ := hSw
    go_simp
    try with_reducible rfl
  try simp only [Act.put, List.setIfInBounds_toArray, List.set_cons_zero, List.set_cons_succ]
  refine wpAnyH_take (i := 2) (v := ?_) (by simp only [List.getElem?_toArray, List.getElem?_cons_zero, List.getElem?_cons_succ]; exact rfl) (by kernel_rfl) (by kernel_rfl) (by kernel_rfl) (by exact fun _ _ _ h => h) (Or.inl ⟨by rfl, ?_⟩) hHeld ?_
  rotate_left
  · intro w' hSw
    obtain ⟨s0, s1, s2, _⟩ := hSw
    go_simp
    try with_reducible rfl
  try simp only [Act.put, List.setIfInBounds_toArray, List.set_cons_zero, List.set_cons_succ]
  refine wpAnyH_take (i := 3) (v := ?_) (by simp only [List.getElem?_toArray, List.getElem?_cons_zero, List.getElem?_cons_succ]; exact rfl) (by kernel_rfl) (by kernel_rfl) (by kernel_rfl) (by exact fun _ _ _ h => h) (Or.inl ⟨by rfl, ?_⟩) hHeld ?_
  rotate_left
  · intro w' hSw
    obtain ⟨s0, s1, s2, _⟩ := hSw
    go_simp
    try with_reducible rfl
  try simp only [Act.put, List.setIfInBounds_toArray, List.set_cons_zero, List.set_cons_succ]
  refine wpAnyH_take (i := 6) (v := ?_) (by simp only [List.getElem?_toArray, List.getElem?_cons_zero, List.getElem?_cons_succ]; exact rfl) (by kernel_rfl) (by kernel_rfl) (by kernel_rfl) (by exact fun _ _ _ h => h) (Or.inl ⟨by rfl, ?_⟩) hHeld ?_
  rotate_left
  · intro w' hSw
    obtain ⟨s0, s1, s2, _⟩ := hSw
    go_simp
    try with_reducible rfl
  try simp only [Act.put, List.setIfInBounds_toArray, List.set_cons_zero, List.set_cons_succ]
  refine wpAnyH_take (i := 7) (v := ?_) (by simp only [List.getElem?_toArray, List.getElem?_cons_zero, List.getElem?_cons_succ]; exact rfl) (by kernel_rfl) (by kernel_rfl) (by kernel_rfl) (by exact fun _ _ _ h => h) (Or.inl ⟨by rfl, ?_⟩) hHeld ?_
  rotate_left
  · intro w' hSw
    obtain ⟨s0, s1, s2, _⟩ := hSw
    go_simp
    try with_reducible rfl
  try simp only [Act.put, List.setIfInBounds_toArray, List.set_cons_zero, List.set_cons_succ]
  refine wpAnyH_take (i := 10) (v := ?_) (by simp only [List.getElem?_toArray, List.getElem?_cons_zero, List.getElem?_cons_succ]; exact rfl) (by kernel_rfl) (by kernel_rfl) (by kernel_rfl) (by exact fun _ _ _ h => h) (Or.inl ⟨by rfl, ?_⟩) hHeld ?_
  rotate_left
  · intro w' hSw
    obtain ⟨s0, s1, s2, _⟩ := hSw
    go_simp
    try with_reducible rfl
  try simp only [Act.put, List.setIfInBounds_toArray, List.set_cons_zero, List.set_cons_succ]
  refine wpAnyH_take (i := 11) (v := ?_) (by simp only [List.getElem?_toArray, List.getElem?_cons_zero, List.getElem?_cons_succ]; exact rfl) (by kernel_rfl) (by kernel_rfl) (by kernel_rfl) (by exact fun _ _ _ h => h) (Or.inl ⟨by rfl, ?_⟩) hHeld ?_
  rotate_left
  · intro w' hSw
    obtain ⟨s0, s1, s2, _⟩ := hSw
    go_simp
    try with_reducible rfl
  try simp only [Act.put, List.setIfInBounds_toArray, List.set_cons_zero, List.set_cons_succ]
  refine flow_go (Inv := fun listed ac W => ∃ v5 v15 v18 v19 v22 v23 v26 v27 : Value, ac = { tmps := #[.agg #[.bool true, .int .i64 ei, .int .i64 es, .slice a len cap], .pointer (some ⟨w.heap.size, 0, none⟩), .pointer (some ⟨w.heap.size + 1, 0, none⟩), .int .i64 0, .int .u8 0, v5, .agg #[.bool true, .int .i64 ei, .int .i64 es, .slice a len cap], .int .i64 0, .int .i64 0, .bool false, undef, undef, .pointer (some ⟨w.heap.size, 0, none⟩), .bool true, .int .u8 0, v15, .pointer (some ⟨w.heap.size, 1, none⟩), .int .i64 ei, v18, v19, .pointer (some ⟨w.heap.size, 2, none⟩), .int .i64 es, v22, v23, .pointer (some ⟨w.heap.size, 3, none⟩), .slice a len cap, v26, v27, undef, undef], defers := [] } ∧ Hid (Below W0.heap.size W0 W) ∧ Fl listed 1 (SlV W n0 v15 4 [0, 0, 0, 0]) ∧ Fl listed 4 (BrV W n0 v18 2 (be ei 2)) ∧ Fl listed 5 (SlV W n0 v19 2 (be ei 2)) ∧ Fl listed 8 (BrV W n0 v22 2 (be es 2)) ∧ Fl listed 9 (SlV W n0 v23 2 (be es 2)) ∧ Fl listed 12 (CatV W v26 4 L) ∧ Fl listed 13 (AnyV W n0 v27 L) ∧ Fl listed 14 (AnyV W n0 v5 L)) [1, 4, 5, 8, 9, 12, 13, 14] (by kernel_rfl) (by kernel_rfl) ⟨_, _, _, _, _, _, _, _, rfl, TD, Fl.not (by kernel_rfl), Fl.not (by kernel_rfl), Fl.not (by kernel_rfl), Fl.not (by kernel_rfl), Fl.not (by kernel_rfl), Fl.not (by kernel_rfl), Fl.not (by kernel_rfl), Fl.not (by kernel_rfl)⟩
    (FlowAll.cons [] (by simp only [List.getElem?_toArray, List.getElem?_cons_zero, List.getElem?_cons_succ]; exact rfl) (by kernel_rfl) (fun listed ac W hI hu hd K hK => ?_)
      (FlowAll.cons [] (by simp only [List.getElem?_toArray, List.getElem?_cons_zero, List.getElem?_cons_succ]; exact rfl) (by kernel_rfl) (fun listed ac W hI hu hd K hK => ?_)
      (FlowAll.cons [4] (by simp only [List.getElem?_toArray, List.getElem?_cons_zero, List.getElem?_cons_succ]; exact rfl) (by kernel_rfl) (fun listed ac W hI hu hd K hK => ?_)
      (FlowAll.cons [] (by simp only [List.getElem?_toArray, List.getElem?_cons_zero, List.getElem?_cons_succ]; exact rfl) (by kernel_rfl) (fun listed ac W hI hu hd K hK => ?_)
      (FlowAll.cons [8] (by simp only [List.getElem?_toArray, List.getElem?_cons_zero, List.getElem?_cons_succ]; exact rfl) (by kernel_rfl) (fun listed ac W hI hu hd K hK => ?_)
      (FlowAll.cons [1, 5, 9] (by simp only [List.getElem?_toArray, List.getElem?_cons_zero, List.getElem?_cons_succ]; exact rfl) (by kernel_rfl) (fun listed ac W hI hu hd K hK => ?_)
      (FlowAll.cons [12] (by simp only [List.getElem?_toArray, List.getElem?_cons_zero, List.getElem?_cons_succ]; exact rfl) (by kernel_rfl) (fun listed ac W hI hu hd K hK => ?_)
      (FlowAll.cons [13] (by simp only [List.getElem?_toArray, List.getElem?_cons_zero, List.getElem?_cons_succ]; exact rfl) (by kernel_rfl) (fun listed ac W hI hu hd K hK => ?_)
      FlowAll.nil))))))))
    (fun listed ac W hI hall => ?_)
  · obtain ⟨v5, v15, v18, v19, v22, v23, v26, v27, rfl, TB, f1, f4, f5, f8, f9, f12, f13, f14⟩ := hI
    have hnW : n0 ≤ W.heap.size := Nat.le_trans hn0 (kSize TB)
    refine want_none (by exact rfl) ?_
    go_wp2_with fail
    have hb : Below W.heap.size W _ := bAlloc W (.cells #[.int .u8 0, .int .u8 0, .int .u8 0, .int .u8 0] 5)
    have TB' := kCall hb (kSize TB) TB
    refine hK.out _ _ (SS.out _ TB') ?_
    exact ⟨_, _, _, _, _, _, _, _, rfl, TB', Fl.new (SlV.lit hnW 4 rfl (by intro n hn; simp at hn; omega) (by unfold maxLen; omega) _ rfl), f4.keep (by decide) (BrV.below hb), f5.keep (by decide) (SlV.below hb), f8.keep (by decide) (BrV.below hb), f9.keep (by decide) (SlV.below hb), f12.keep (by decide) (CatV.below hb), f13.keep (by decide) (AnyV.below hb), f14.keep (by decide) (AnyV.below hb)⟩
  · obtain ⟨v5, v15, v18, v19, v22, v23, v26, v27, rfl, TB, f1, f4, f5, f8, f9, f12, f13, f14⟩ := hI
    have hnW : n0 ≤ W.heap.size := Nat.le_trans hn0 (kSize TB)
    refine want_none (by exact rfl) ?_
    go_wp2_with fail
    refine (K1.out _).mono ?_
    intro e w' hp
    obtain ⟨v, rfl, hv, hb0⟩ := BrV.of_packed hp (be_len 2 _) hnW
    go_wp2_with fail
    have hb : Below W.heap.size W _ := hb0
    have TB' := kCall hb (kSize TB) TB
    refine hK.out _ _ (SS.out _ TB') ?_
    exact ⟨_, _, _, _, _, _, _, _, rfl, TB', f1.keep (by decide) (SlV.below hb), Fl.new (hv), f5.keep (by decide) (SlV.below hb), f8.keep (by decide) (BrV.below hb), f9.keep (by decide) (SlV.below hb), f12.keep (by decide) (CatV.below hb), f13.keep (by decide) (AnyV.below hb), f14.keep (by decide) (AnyV.below hb)⟩
  · obtain ⟨v5, v15, v18, v19, v22, v23, v26, v27, rfl, TB, f1, f4, f5, f8, f9, f12, f13, f14⟩ := hI
    have hnW : n0 ≤ W.heap.size := Nat.le_trans hn0 (kSize TB)
    obtain ⟨a18, c18, rfl, o18⟩ := f4.get (hd 4 (by simp))
    refine want_none (by exact rfl) ?_
    go_wp2_with fail
    refine hK.out _ _ (SS.out _ TB) ?_
    exact ⟨_, _, _, _, _, _, _, _, rfl, TB, f1.keep (by decide) id, f4.keep (by decide) id, Fl.new (⟨_, _, rfl, o18⟩), f8.keep (by decide) id, f9.keep (by decide) id, f12.keep (by decide) id, f13.keep (by decide) id, f14.keep (by decide) id⟩
  · obtain ⟨v5, v15, v18, v19, v22, v23, v26, v27, rfl, TB, f1, f4, f5, f8, f9, f12, f13, f14⟩ := hI
    have hnW : n0 ≤ W.heap.size := Nat.le_trans hn0 (kSize TB)
    refine want_none (by exact rfl) ?_
    go_wp2_with fail
    refine (K2.out _).mono ?_
    intro e w' hp
    obtain ⟨v, rfl, hv, hb0⟩ := BrV.of_packed hp (be_len 2 _) hnW
    go_wp2_with fail
    have hb : Below W.heap.size W _ := hb0
    have TB' := kCall hb (kSize TB) TB
    refine hK.out _ _ (SS.out _ TB') ?_
    exact ⟨_, _, _, _, _, _, _, _, rfl, TB', f1.keep (by decide) (SlV.below hb), f4.keep (by decide) (BrV.below hb), f5.keep (by decide) (SlV.below hb), Fl.new (hv), f9.keep (by decide) (SlV.below hb), f12.keep (by decide) (CatV.below hb), f13.keep (by decide) (AnyV.below hb), f14.keep (by decide) (AnyV.below hb)⟩
  · obtain ⟨v5, v15, v18, v19, v22, v23, v26, v27, rfl, TB, f1, f4, f5, f8, f9, f12, f13, f14⟩ := hI
    have hnW : n0 ≤ W.heap.size := Nat.le_trans hn0 (kSize TB)
    obtain ⟨a22, c22, rfl, o22⟩ := f8.get (hd 8 (by simp))
    refine want_none (by exact rfl) ?_
    go_wp2_with fail
    refine hK.out _ _ (SS.out _ TB) ?_
    exact ⟨_, _, _, _, _, _, _, _, rfl, TB, f1.keep (by decide) id, f4.keep (by decide) id, f5.keep (by decide) id, f8.keep (by decide) id, Fl.new (⟨_, _, rfl, o22⟩), f12.keep (by decide) id, f13.keep (by decide) id, f14.keep (by decide) id⟩
  · obtain ⟨v5, v15, v18, v19, v22, v23, v26, v27, rfl, TB, f1, f4, f5, f8, f9, f12, f13, f14⟩ := hI
    have hnW : n0 ≤ W.heap.size := Nat.le_trans hn0 (kSize TB)
    obtain ⟨a15, c15, rfl, o15⟩ := f1.get (hd 1 (by simp))
    obtain ⟨a19, c19, rfl, o19⟩ := f5.get (hd 5 (by simp))
    obtain ⟨a23, c23, rfl, o23⟩ := f9.get (hd 9 (by simp))
    refine want_none (by exact rfl) ?_
    go_wp2_with fail
    have hb : Below W.heap.size W _ := bAlloc W (.cells #[.slice a15 4 c15, .slice a19 2 c19, .slice a23 2 c23, .slice a len cap] 22)
    have TB' := kCall hb (kSize TB) TB
    refine hK.out _ _ (SS.out _ TB') ?_
    exact ⟨_, _, _, _, _, _, _, _, rfl, TB', f1.keep (by decide) (SlV.below hb), f4.keep (by decide) (BrV.below hb), f5.keep (by decide) (SlV.below hb), f8.keep (by decide) (BrV.below hb), f9.keep (by decide) (SlV.below hb), Fl.new (⟨_, [⟨a15, 4, c15, [0, 0, 0, 0]⟩, ⟨a19, 2, c19, be ei 2⟩, ⟨a23, 2, c23, be es 2⟩, ⟨a, len, cap, zs⟩], rfl, rfl, sls_box (Box.new _ _ _) (by intro s hs; simp only [List.mem_cons, List.not_mem_nil, or_false] at hs; rcases hs with rfl | rfl | rfl | rfl; exact o15.rd.below hb; exact o19.rd.below hb; exact o23.rd.below hb; exact (HR.out.below TB.out).below hb), by rw [HL.out]; simp [catZ], by simp only [sumN]; omega⟩), f13.keep (by decide) (AnyV.below hb), f14.keep (by decide) (AnyV.below hb)⟩
  · obtain ⟨v5, v15, v18, v19, v22, v23, v26, v27, rfl, TB, f1, f4, f5, f8, f9, f12, f13, f14⟩ := hI
    have hnW : n0 ≤ W.heap.size := Nat.le_trans hn0 (kSize TB)
    obtain ⟨g, ss, rfl, hs, hS, hZ, hT⟩ := f12.get (hd 12 (by simp))
    refine want_none (by exact rfl) ?_
    go_wp2_with fail
    refine (catV_call hs hS hZ hT).mono ?_
    rintro e w' ⟨a', l', c', rfl, o', hb0⟩
    go_wp2_with fail
    have hb : Below W.heap.size W _ := hb0
    have TB' := kCall hb (kSize TB) TB
    refine hK.out _ _ (SS.out _ TB') ?_
    exact ⟨_, _, _, _, _, _, _, _, rfl, TB', f1.keep (by decide) (SlV.below hb), f4.keep (by decide) (BrV.below hb), f5.keep (by decide) (SlV.below hb), f8.keep (by decide) (BrV.below hb), f9.keep (by decide) (SlV.below hb), f12.keep (by decide) (CatV.below hb), Fl.new (⟨_, _, _, rfl, o'.rebase hnW⟩), f14.keep (by decide) (AnyV.below hb)⟩
  · obtain ⟨v5, v15, v18, v19, v22, v23, v26, v27, rfl, TB, f1, f4, f5, f8, f9, f12, f13, f14⟩ := hI
    have hnW : n0 ≤ W.heap.size := Nat.le_trans hn0 (kSize TB)
    obtain ⟨a27, l27, c27, rfl, o27⟩ := f13.get (hd 13 (by simp))
    refine want_none (by exact rfl) ?_
    go_wp2_with fail
    refine hK.out _ _ (SS.out _ TB) ?_
    exact ⟨_, _, _, _, _, _, _, _, rfl, TB, f1.keep (by decide) id, f4.keep (by decide) id, f5.keep (by decide) id, f8.keep (by decide) id, f9.keep (by decide) id, f12.keep (by decide) id, f13.keep (by decide) id, Fl.new (⟨_, _, _, rfl, o27⟩)⟩
  · obtain ⟨v5, v15, v18, v19, v22, v23, v26, v27, rfl, TB, f1, f4, f5, f8, f9, f12, f13, f14⟩ := hI
    have hnW : n0 ≤ W.heap.size := Nat.le_trans hn0 (kSize TB)
    obtain ⟨a5, l5, c5, rfl, o5⟩ := f14.get (hall 14 (by decide))
    have O5 := Lib.hid o5
    have T5 := TB
    clear o5 f1 f4 f5 f8 f9 f12 f13 f14 TB hall SS
    go_wp2_with fail
    refine (KS.out _ _ _ _ O5.out.rd).mono ?_
    rintro e w6 ⟨a6, l6, c6, rfl, o6, b6⟩
    have R6 := ((R1.out.below T5.out R1.out.lt).below b6 (R1.out.below T5.out R1.out.lt).lt)
    obtain ⟨r0, r1, r2⟩ := R6.two
    have q0 := R6.frozen 0
    have q1 := R6.frozen 1
    have B5 := B1.out.trans (T5.out.mono B1.out.size)
    have hs5 := B5.size
    have hr5 := (R1.out.below T5.out R1.out.lt).lt
    have B6 := Lib.hid (B5.trans (b6.mono hs5))
    have hn : Hid (∀ x, a6 = some x → ¬ x.block = w.heap.size + 1) := fun x hx e => by
      have := (o6.lt x hx).1
      omega
    have O6 := Lib.hid (o6.rebase hs5)
    clear o6 b6 O5 B5 R6 hs5 hr5 T5
    go_wp2
    refine bodyPost_ret (v := .agg #[.int .i64 0, .slice a6 l6 c6]) (by simp [results, Try.results17, go_sem, r1, r2]) rfl ⟨_, _, _, rfl, ?_, (B6.out.setCell (by simp) _).setCell (by simp) _⟩
    exact (O6.out.setOther _ _ hn.out).setOther _ _ hn.out

set_option maxHeartbeats 1000000 in
theorem implPackEcho (er : Bool) (ei es : Int) (a : Option Addr) (len cap : Nat) (zs : List Int) (w : World) (hr : Rd w a len cap zs) :
    Calls Try.prog 17 #[.agg #[.bool er, .int .i64 ei, .int .i64 es, .slice a len cap]] w (Packed w (echoC ei es zs.length) (echoP er ei es zs)) := by
  rw [hr.length]
  by_cases hk : echoC ei es len = 0
  · have hp : echoP er ei es zs = echoL er ei es zs := by unfold echoP; rw [hr.length, if_pos hk]
    rw [hk, hp]
    cases er with
    | false => exact implPackEcho_false ei es a len cap zs w hr hk
    | true => exact implPackEcho_true ei es a len cap zs w hr hk
  · have hp : echoP er ei es zs = [] := by unfold echoP; rw [hr.length, if_neg hk]
    have hne : (echoC ei es len != 0) = true := by simpa using hk
    have S := Lib.hid (fun W => implEchoFault er ei es a len cap W)
    have B0 := Lib.hid (((Below.refl w.heap.size w).alloc (Nat.le_refl _) (.cells #[.bool er, .int .i64 ei, .int .i64 es, .slice a len cap] 35)).alloc (by simp) (.cells #[.int .i64 0, .slice none 0 0] 28))
    have R0 := Lib.hid (Box.new (w.alloc (.cells #[.bool er, .int .i64 ei, .int .i64 es, .slice a len cap] 35)) 28 #[.int .i64 0, .slice none 0 0])
    rw [hp]
    clear hk hp hr
    generalize echoC ei es len = c at *
    go_enter Try.func17, Try.ntmps17
    go_wp2_with fail
    refine (S.out _).mono ?_
    rintro e w1 ⟨rfl, b1⟩
    have R1 := R0.out.below b1 R0.out.lt
    simp only [World.size_alloc] at R1
    obtain ⟨z2, r20, r21⟩ := R1.two
    have f0 := R1.frozen 0
    have f1 := R1.frozen 1
    have B1 := Lib.hid (B0.out.trans (b1.mono B0.out.size))
    clear b1 R0 B0 R1
    go_wp2
    exact bodyPost_ret (v := .agg #[.int .i64 c, .slice none 0 0]) (by simp [results, Try.results17, go_sem, r20, r21]) rfl ⟨none, 0, 0, rfl, Own.nil _ _, (B1.out.setCell (by simp) _).setCell (by simp) _⟩

theorem packEcho_law (er : Bool) (ei es : Int) (a : Option Addr) (len cap : Nat) (zs : List Int) (w : World) (hr : Rd w a len cap zs) :
    Calls Try.prog 8 #[.agg #[.bool er, .int .i64 ei, .int .i64 es, .slice a len cap]] w fun e w' => e = .returned (.bool true) ∧ Below w.heap.size w w' :=
  exactPackEcho er ei es a len cap zs w hr (echoC ei es zs.length) (echoP er ei es zs) (echoP_len er ei es zs) (fun a' l' c' W h => specPackEcho er ei es a' l' c' zs W h) (fun a' l' c' W h => implPackEcho er ei es a' l' c' zs W h)
end Go.Proofs.Ytgjkbaplfbiomaa

namespace Go.Proofs.Ytgjkbaplfbiomaa
open Go.ChangeShapes Go.WideShapes Go.ChangeAt Go.RowKit

/-- these slices read as these bytes -/
def Rs (l : List (Option Addr × Nat × Nat × List Int)) (W : World) : Prop := ∀ x ∈ l, Rd W x.1 x.2.1 x.2.2.1 x.2.2.2
def Kp (bl : List (Nat × TypeId × Array Value)) (rl : List (Option Addr × Nat × Nat × List Int)) (W : World) : Prop := Bs bl W ∧ Rs rl W
theorem Kp.below {bl : List (Nat × TypeId × Array Value)} {rl : List (Option Addr × Nat × Nat × List Int)} {W W' : World} (hb : Below W.heap.size W W') (h : Kp bl rl W) : Kp bl rl W' :=
  ⟨fun x hx => (h.1 x hx).below hb (h.1 x hx).lt, fun x hx => (h.2 x hx).below hb⟩
theorem Kp.box {bl : List (Nat × TypeId × Array Value)} {rl : List (Option Addr × Nat × Nat × List Int)} {W : World} (h : Kp bl rl W) (t : TypeId) (cs : Array Value) : Kp ((W.heap.size, t, cs) :: bl) rl (W.alloc (.cells cs t)) :=
  ⟨fun x hx => by
    rcases List.mem_cons.1 hx with rfl | hx
    · exact Box.new W t cs
    · exact (h.1 x hx).alloc _, fun x hx => (h.2 x hx).alloc _⟩
theorem Kp.rd {bl : List (Nat × TypeId × Array Value)} {rl : List (Option Addr × Nat × Nat × List Int)} {W : World} (h : Kp bl rl W) {a : Option Addr} {l c : Nat} {zs : List Int} (r : Rd W a l c zs) : Kp bl ((a, l, c, zs) :: rl) W :=
  ⟨h.1, fun x hx => by
    rcases List.mem_cons.1 hx with rfl | hx
    · exact r
    · exact h.2 x hx⟩
theorem Kp.drew {bl : List (Nat × TypeId × Array Value)} {rl : List (Option Addr × Nat × Nat × List Int)} {W : World} (h : Kp bl rl W) : Kp bl rl W.drew := h.below (Below.refl _ W).drew
theorem want_yes {o : Oper} {y : Nat → Option Bool} {A B : Prop} (h : Region.wanted o y = true) (hA : A) : if Region.wanted o y = true then A else B := by
  rw [if_pos h]
  exact hA
theorem fld_br0 (w : World) (c : Int) (a : Option Addr) (l k : Nat) : (Instr.field 28 (.agg #[.int .i64 c, .slice a l k]) 0).run Try.prog w = .ok (.int .i64 c) w := by
  simp [Instr.field, asAgg, go_sem]
theorem fld_pr0 (w : World) (c f t p l : Int) (a : Option Addr) (n k : Nat) : (Instr.field 32 (.agg #[.int .i64 c, .int .i64 f, .int .i64 t, .int .i64 p, .int .i64 l, .slice a n k]) 0).run Try.prog w = .ok (.int .i64 c) w := by
  simp [Instr.field, asAgg, go_sem]
theorem fld_pr1 (w : World) (c f t p l : Int) (a : Option Addr) (n k : Nat) : (Instr.field 32 (.agg #[.int .i64 c, .int .i64 f, .int .i64 t, .int .i64 p, .int .i64 l, .slice a n k]) 1).run Try.prog w = .ok (.agg #[.int .i64 f, .int .i64 t, .int .i64 p, .int .i64 l, .slice a n k]) w := by
  simp [Instr.field, asAgg, go_sem]
theorem fld_er0 (w : World) (c : Int) (r : Bool) (i s : Int) (a : Option Addr) (n k : Nat) : (Instr.field 39 (.agg #[.int .i64 c, .bool r, .int .i64 i, .int .i64 s, .slice a n k]) 0).run Try.prog w = .ok (.int .i64 c) w := by
  simp [Instr.field, asAgg, go_sem]
theorem pow_u8 (k : Nat) (hk : k < 8) : IntKind.u8.wrap (2 ^ k : Int) = 2 ^ k := by
  obtain rfl | rfl | rfl | rfl | rfl | rfl | rfl | rfl : k = 0 ∨ k = 1 ∨ k = 2 ∨ k = 3 ∨ k = 4 ∨ k = 5 ∨ k = 6 ∨ k = 7 := by omega
  all_goals (rw [IntKind.wrap_u8]; rfl)
theorem pow_mod (k : Nat) (hk : k < 8) : (2 ^ k % 256 : Int) = 2 ^ k := by
  obtain rfl | rfl | rfl | rfl | rfl | rfl | rfl | rfl : k = 0 ∨ k = 1 ∨ k = 2 ∨ k = 3 ∨ k = 4 ∨ k = 5 ∨ k = 6 ∨ k = 7 := by omega
  all_goals rfl
theorem sameP_self (kf kt kp kl : Int) (zs : List Int) : sameP kf kt kp kl zs kf kt kp kl zs = true := by simp [sameP, eqL]

set_option maxRecDepth 100000 in
set_option maxHeartbeats 8000000 in
theorem packets_law (a : Option Addr) (len cap : Nat) (zs : List Int) (w : World) (hr : Rd w a len cap zs) :
    Calls Try.prog 3 #[.slice a len cap] w fun e w' => e = .returned (.bool true) ∧ Below w.heap.size w w' := by
  by_cases hl : len ≤ 1048576
  case neg =>
    have K := Lib.hid (lwBig_t a len cap w hl)
    clear hr
    go_enter Try.func3, Try.ntmps3
    go_wp2_with fail
    refine K.out.mono ?_
    rintro e w' ⟨rfl, rfl⟩
    go_wp2
    go_ret
    exact ⟨rfl, Below.refl _ _⟩
  have KL := Lib.hid (lwBig_f a len cap w hl)
  have KP : Hid (Kp [] [(a, len, cap, zs)] w) := ⟨fun x hx => (by cases hx), fun x hx => (by rcases List.mem_cons.1 hx with rfl | hx; exact hr; cases hx)⟩
  have T := Lib.hid (Below.refl w.heap.size w)
  clear hr
  go_enter Try.func3, Try.ntmps3
  go_wp2_with fail
  refine KL.out.mono ?_
  rintro e w' ⟨rfl, rfl⟩
  clear KL
  go_wp2_with fail
  refine (drawPackPacket a len cap zs _ (KP.out.2 _ (List.Mem.head _)) hl).mono ?_
  rintro e w1 ⟨kf, kt, kp, kl, a1, n1, c1, z1, rfl, _, hn1, o1, hb⟩
  replace T := Lib.hid (T.out.trans (hb.mono T.out.size))
  replace KP := Lib.hid (KP.out.below hb)
  replace KP := Lib.hid (KP.out.rd o1.rd)
  have H1 := Lib.hid o1.length
  clear o1
  clear hb
  replace T := Lib.hid (T.out.alloc T.out.size (.cells #[.int .i64 kf, .int .i64 kt, .int .i64 kp, .int .i64 kl, .slice a1 n1 c1] 25))
  replace KP := Lib.hid (KP.out.box 25 #[.int .i64 kf, .int .i64 kt, .int .i64 kp, .int .i64 kl, .slice a1 n1 c1])
  generalize hW : w1.alloc (.cells #[.int .i64 kf, .int .i64 kt, .int .i64 kp, .int .i64 kl, .slice a1 n1 c1] 25) = W at *
  have q0 := (KP.out.1 _ (List.Mem.head _)).cell 0
  have q1 := (KP.out.1 _ (List.Mem.head _)).cell 1
  have q2 := (KP.out.1 _ (List.Mem.head _)).cell 2
  have q3 := (KP.out.1 _ (List.Mem.head _)).cell 3
  have q4 := (KP.out.1 _ (List.Mem.head _)).cell 4
  go_wp2_with fail
  clear hW q0 q1 q2 q3 q4
  generalize w1.heap.size = b3 at *
  refine (implPackPacket kf kt kp kl a1 n1 c1 z1 _ (KP.out.2 _ (List.Mem.head _))).mono ?_
  rintro e w1 ⟨a2, n2, c2, rfl, o2, hb⟩
  replace T := Lib.hid (T.out.trans (hb.mono T.out.size))
  replace KP := Lib.hid (KP.out.below hb)
  replace KP := Lib.hid (KP.out.rd o2.rd)
  clear o2
  generalize hcb : packC kf kt kp kl z1.length = cb at *
  generalize hzb : packP kf kt kp kl z1 = zb at *
  have HCB := Lib.hid hcb
  have HZB := Lib.hid hzb
  clear hcb hzb
  clear hb
  replace T := Lib.hid (T.out.alloc T.out.size (.cells #[.int .i64 cb, .slice a2 n2 c2] 28))
  replace KP := Lib.hid (KP.out.box 28 #[.int .i64 cb, .slice a2 n2 c2])
  generalize hW : w1.alloc (.cells #[.int .i64 cb, .slice a2 n2 c2] 28) = W at *
  go_wp2_with fail
  clear hW 
  generalize w1.heap.size = b4 at *
  refine (drawReadPacket a len cap zs _ (KP.out.2 _ (List.Mem.tail _ (List.Mem.tail _ (List.Mem.head _)))) hl).mono ?_
  rintro e w1 ⟨a3, n3, c3, z3, rfl, hn3, r3, hb⟩
  replace T := Lib.hid (T.out.trans (hb.mono T.out.size))
  replace KP := Lib.hid (KP.out.below hb)
  replace KP := Lib.hid (KP.out.rd r3)
  clear r3
  clear hb
  go_wp2_with fail
  refine (implReadPacket a3 n3 c3 z3 _ (KP.out.2 _ (List.Mem.head _))).mono ?_
  rintro e w1 ⟨a4, n4, c4, rfl, o4, hb⟩
  replace T := Lib.hid (T.out.trans (hb.mono T.out.size))
  replace KP := Lib.hid (KP.out.below hb)
  replace KP := Lib.hid (KP.out.rd o4.rd)
  clear o4
  generalize hrr : rpAns z3 = rr at *
  have HRR := Lib.hid hrr
  clear hrr
  clear hb
  replace T := Lib.hid (T.out.alloc T.out.size (.cells #[.int .i64 rr.c, .int .i64 rr.f, .int .i64 rr.t, .int .i64 rr.p, .int .i64 rr.l, .slice a4 n4 c4] 32))
  replace KP := Lib.hid (KP.out.box 32 #[.int .i64 rr.c, .int .i64 rr.f, .int .i64 rr.t, .int .i64 rr.p, .int .i64 rr.l, .slice a4 n4 c4])
  generalize hW : w1.alloc (.cells #[.int .i64 rr.c, .int .i64 rr.f, .int .i64 rr.t, .int .i64 rr.p, .int .i64 rr.l, .slice a4 n4 c4] 32) = W at *
  go_wp2_with fail
  clear hW 
  generalize w1.heap.size = b6 at *
  refine (drawPackEcho a len cap zs _ (KP.out.2 _ (List.Mem.tail _ (List.Mem.tail _ (List.Mem.tail _ (List.Mem.tail _ (List.Mem.head _)))))) hl).mono ?_
  rintro e w1 ⟨er, ei, es, a5, n5, c5, z5, rfl, _, hn5, o5, hb⟩
  replace T := Lib.hid (T.out.trans (hb.mono T.out.size))
  replace KP := Lib.hid (KP.out.below hb)
  replace KP := Lib.hid (KP.out.rd o5.rd)
  have H5 := Lib.hid o5.length
  clear o5
  clear hb
  replace T := Lib.hid (T.out.alloc T.out.size (.cells #[.bool er, .int .i64 ei, .int .i64 es, .slice a5 n5 c5] 35))
  replace KP := Lib.hid (KP.out.box 35 #[.bool er, .int .i64 ei, .int .i64 es, .slice a5 n5 c5])
  generalize hW : w1.alloc (.cells #[.bool er, .int .i64 ei, .int .i64 es, .slice a5 n5 c5] 35) = W at *
  have q0 := (KP.out.1 _ (List.Mem.head _)).cell 0
  have q1 := (KP.out.1 _ (List.Mem.head _)).cell 1
  have q2 := (KP.out.1 _ (List.Mem.head _)).cell 2
  have q3 := (KP.out.1 _ (List.Mem.head _)).cell 3
  go_wp2_with fail
  clear hW q0 q1 q2 q3
  generalize w1.heap.size = b7 at *
  refine (implPackEcho er ei es a5 n5 c5 z5 _ (KP.out.2 _ (List.Mem.head _))).mono ?_
  rintro e w1 ⟨a6, n6, c6, rfl, o6, hb⟩
  replace T := Lib.hid (T.out.trans (hb.mono T.out.size))
  replace KP := Lib.hid (KP.out.below hb)
  replace KP := Lib.hid (KP.out.rd o6.rd)
  clear o6
  generalize hcx : echoC ei es z5.length = cx at *
  generalize hzx : echoP er ei es z5 = zx at *
  have HCX := Lib.hid hcx
  have HZX := Lib.hid hzx
  clear hcx hzx
  clear hb
  replace T := Lib.hid (T.out.alloc T.out.size (.cells #[.int .i64 cx, .slice a6 n6 c6] 28))
  replace KP := Lib.hid (KP.out.box 28 #[.int .i64 cx, .slice a6 n6 c6])
  generalize hW : w1.alloc (.cells #[.int .i64 cx, .slice a6 n6 c6] 28) = W at *
  go_wp2_with fail
  clear hW 
  generalize w1.heap.size = b8 at *
  refine (drawReadEcho a len cap zs _ (KP.out.2 _ (List.Mem.tail _ (List.Mem.tail _ (List.Mem.tail _ (List.Mem.tail _ (List.Mem.tail _ (List.Mem.tail _ (List.Mem.head _)))))))) hl).mono ?_
  rintro e w1 ⟨a7, n7, c7, z7, rfl, hn7, r7, hb⟩
  replace T := Lib.hid (T.out.trans (hb.mono T.out.size))
  replace KP := Lib.hid (KP.out.below hb)
  replace KP := Lib.hid (KP.out.rd r7)
  clear r7
  clear hb
  go_wp2_with fail
  refine (implReadEcho a7 n7 c7 z7 _ (KP.out.2 _ (List.Mem.head _))).mono ?_
  rintro e w1 ⟨a8, n8, c8, rfl, o8, hb⟩
  replace T := Lib.hid (T.out.trans (hb.mono T.out.size))
  replace KP := Lib.hid (KP.out.below hb)
  replace KP := Lib.hid (KP.out.rd o8.rd)
  have H8 := Lib.hid o8.length
  clear o8
  generalize hyy : reAns z7 = yy at *
  have HYY := Lib.hid hyy
  clear hyy
  clear hb
  replace T := Lib.hid (T.out.alloc T.out.size (.cells #[.int .i64 yy.c, .bool yy.r, .int .i64 yy.i, .int .i64 yy.s, .slice a8 n8 c8] 39))
  replace KP := Lib.hid (KP.out.box 39 #[.int .i64 yy.c, .bool yy.r, .int .i64 yy.i, .int .i64 yy.s, .slice a8 n8 c8])
  generalize hW : w1.alloc (.cells #[.int .i64 yy.c, .bool yy.r, .int .i64 yy.i, .int .i64 yy.s, .slice a8 n8 c8] 39) = W at *
  go_wp2_with fail
  clear hW 
  generalize w1.heap.size = b10 at *
  refine (drawSamePackets a len cap zs _ (KP.out.2 _ (List.Mem.tail _ (List.Mem.tail _ (List.Mem.tail _ (List.Mem.tail _ (List.Mem.tail _ (List.Mem.tail _ (List.Mem.tail _ (List.Mem.tail _ (List.Mem.head _)))))))))) hl).mono ?_
  rintro e w1 ⟨uf, ut, up, ul, a9, n9, c9, z9, vf, vt, vp, vl, a10, n10, c10, z10, rfl, r9, r10, hb⟩
  replace T := Lib.hid (T.out.trans (hb.mono T.out.size))
  replace KP := Lib.hid (((KP.out.below hb).rd r9).rd r10)
  clear hb r9 r10
  replace T := Lib.hid ((T.out.alloc T.out.size (.cells #[.int .i64 uf, .int .i64 ut, .int .i64 up, .int .i64 ul, .slice a9 n9 c9] 25)).alloc (by have := T.out.size; simp; omega) (.cells #[.int .i64 vf, .int .i64 vt, .int .i64 vp, .int .i64 vl, .slice a10 n10 c10] 25))
  replace KP := Lib.hid ((KP.out.box 25 #[.int .i64 uf, .int .i64 ut, .int .i64 up, .int .i64 ul, .slice a9 n9 c9]).box 25 #[.int .i64 vf, .int .i64 vt, .int .i64 vp, .int .i64 vl, .slice a10 n10 c10])
  simp only [World.size_alloc] at KP
  generalize hW : (w1.alloc (.cells #[.int .i64 uf, .int .i64 ut, .int .i64 up, .int .i64 ul, .slice a9 n9 c9] 25)).alloc (.cells #[.int .i64 vf, .int .i64 vt, .int .i64 vp, .int .i64 vl, .slice a10 n10 c10] 25) = W at *
  go_upto_region 12 with (fail)
  clear hW
  generalize hb12 : w1.heap.size + 1 = b12 at *
  generalize w1.heap.size = b11 at *
  clear hb12
  obtain ⟨bl, hbl⟩ : ∃ bl : List (Nat × TypeId × Array Value), bl = [(b12, 25, #[.int .i64 vf, .int .i64 vt, .int .i64 vp, .int .i64 vl, .slice a10 n10 c10]), (b11, 25, #[.int .i64 uf, .int .i64 ut, .int .i64 up, .int .i64 ul, .slice a9 n9 c9]), (b10, 39, #[.int .i64 yy.c, .bool yy.r, .int .i64 yy.i, .int .i64 yy.s, .slice a8 n8 c8]), (b8, 28, #[.int .i64 cx, .slice a6 n6 c6]), (b7, 35, #[.bool er, .int .i64 ei, .int .i64 es, .slice a5 n5 c5]), (b6, 32, #[.int .i64 rr.c, .int .i64 rr.f, .int .i64 rr.t, .int .i64 rr.p, .int .i64 rr.l, .slice a4 n4 c4]), (b4, 28, #[.int .i64 cb, .slice a2 n2 c2]), (b3, 25, #[.int .i64 kf, .int .i64 kt, .int .i64 kp, .int .i64 kl, .slice a1 n1 c1])] := ⟨_, rfl⟩
  obtain ⟨rl, hrl⟩ : ∃ rl : List (Option Addr × Nat × Nat × List Int), rl = [(a10, n10, c10, z10), (a9, n9, c9, z9), (a8, n8, c8, yy.rs), (a7, n7, c7, z7), (a6, n6, c6, zx), (a5, n5, c5, z5), (a4, n4, c4, rr.rs), (a3, n3, c3, z3), (a2, n2, c2, zb), (a1, n1, c1, z1), (a, len, cap, zs)] := ⟨_, rfl⟩
  rw [← hbl, ← hrl] at KP
  have Gb12 := Lib.hid (show ∀ W, Hid (Kp bl rl W) → Box W b12 25 #[.int .i64 vf, .int .i64 vt, .int .i64 vp, .int .i64 vl, .slice a10 n10 c10] from fun W h => by rw [hbl] at h; exact h.out.1 _ (List.Mem.head _))
  have Gb11 := Lib.hid (show ∀ W, Hid (Kp bl rl W) → Box W b11 25 #[.int .i64 uf, .int .i64 ut, .int .i64 up, .int .i64 ul, .slice a9 n9 c9] from fun W h => by rw [hbl] at h; exact h.out.1 _ (List.Mem.tail _ (List.Mem.head _)))
  have Gb10 := Lib.hid (show ∀ W, Hid (Kp bl rl W) → Box W b10 39 #[.int .i64 yy.c, .bool yy.r, .int .i64 yy.i, .int .i64 yy.s, .slice a8 n8 c8] from fun W h => by rw [hbl] at h; exact h.out.1 _ (List.Mem.tail _ (List.Mem.tail _ (List.Mem.head _))))
  have Gb8 := Lib.hid (show ∀ W, Hid (Kp bl rl W) → Box W b8 28 #[.int .i64 cx, .slice a6 n6 c6] from fun W h => by rw [hbl] at h; exact h.out.1 _ (List.Mem.tail _ (List.Mem.tail _ (List.Mem.tail _ (List.Mem.head _)))))
  have Gb7 := Lib.hid (show ∀ W, Hid (Kp bl rl W) → Box W b7 35 #[.bool er, .int .i64 ei, .int .i64 es, .slice a5 n5 c5] from fun W h => by rw [hbl] at h; exact h.out.1 _ (List.Mem.tail _ (List.Mem.tail _ (List.Mem.tail _ (List.Mem.tail _ (List.Mem.head _))))))
  have Gb6 := Lib.hid (show ∀ W, Hid (Kp bl rl W) → Box W b6 32 #[.int .i64 rr.c, .int .i64 rr.f, .int .i64 rr.t, .int .i64 rr.p, .int .i64 rr.l, .slice a4 n4 c4] from fun W h => by rw [hbl] at h; exact h.out.1 _ (List.Mem.tail _ (List.Mem.tail _ (List.Mem.tail _ (List.Mem.tail _ (List.Mem.tail _ (List.Mem.head _)))))))
  have Gb4 := Lib.hid (show ∀ W, Hid (Kp bl rl W) → Box W b4 28 #[.int .i64 cb, .slice a2 n2 c2] from fun W h => by rw [hbl] at h; exact h.out.1 _ (List.Mem.tail _ (List.Mem.tail _ (List.Mem.tail _ (List.Mem.tail _ (List.Mem.tail _ (List.Mem.tail _ (List.Mem.head _))))))))
  have Gb3 := Lib.hid (show ∀ W, Hid (Kp bl rl W) → Box W b3 25 #[.int .i64 kf, .int .i64 kt, .int .i64 kp, .int .i64 kl, .slice a1 n1 c1] from fun W h => by rw [hbl] at h; exact h.out.1 _ (List.Mem.tail _ (List.Mem.tail _ (List.Mem.tail _ (List.Mem.tail _ (List.Mem.tail _ (List.Mem.tail _ (List.Mem.tail _ (List.Mem.head _)))))))))
  have Ga10 := Lib.hid (show ∀ W, Hid (Kp bl rl W) → Rd W a10 n10 c10 z10 from fun W h => by rw [hrl] at h; exact h.out.2 _ (List.Mem.head _))
  have Ga9 := Lib.hid (show ∀ W, Hid (Kp bl rl W) → Rd W a9 n9 c9 z9 from fun W h => by rw [hrl] at h; exact h.out.2 _ (List.Mem.tail _ (List.Mem.head _)))
  have Ga8 := Lib.hid (show ∀ W, Hid (Kp bl rl W) → Rd W a8 n8 c8 yy.rs from fun W h => by rw [hrl] at h; exact h.out.2 _ (List.Mem.tail _ (List.Mem.tail _ (List.Mem.head _))))
  have Ga7 := Lib.hid (show ∀ W, Hid (Kp bl rl W) → Rd W a7 n7 c7 z7 from fun W h => by rw [hrl] at h; exact h.out.2 _ (List.Mem.tail _ (List.Mem.tail _ (List.Mem.tail _ (List.Mem.head _)))))
  have Ga6 := Lib.hid (show ∀ W, Hid (Kp bl rl W) → Rd W a6 n6 c6 zx from fun W h => by rw [hrl] at h; exact h.out.2 _ (List.Mem.tail _ (List.Mem.tail _ (List.Mem.tail _ (List.Mem.tail _ (List.Mem.head _))))))
  have Ga5 := Lib.hid (show ∀ W, Hid (Kp bl rl W) → Rd W a5 n5 c5 z5 from fun W h => by rw [hrl] at h; exact h.out.2 _ (List.Mem.tail _ (List.Mem.tail _ (List.Mem.tail _ (List.Mem.tail _ (List.Mem.tail _ (List.Mem.head _)))))))
  have Ga4 := Lib.hid (show ∀ W, Hid (Kp bl rl W) → Rd W a4 n4 c4 rr.rs from fun W h => by rw [hrl] at h; exact h.out.2 _ (List.Mem.tail _ (List.Mem.tail _ (List.Mem.tail _ (List.Mem.tail _ (List.Mem.tail _ (List.Mem.tail _ (List.Mem.head _))))))))
  have Ga3 := Lib.hid (show ∀ W, Hid (Kp bl rl W) → Rd W a3 n3 c3 z3 from fun W h => by rw [hrl] at h; exact h.out.2 _ (List.Mem.tail _ (List.Mem.tail _ (List.Mem.tail _ (List.Mem.tail _ (List.Mem.tail _ (List.Mem.tail _ (List.Mem.tail _ (List.Mem.head _)))))))))
  have Ga2 := Lib.hid (show ∀ W, Hid (Kp bl rl W) → Rd W a2 n2 c2 zb from fun W h => by rw [hrl] at h; exact h.out.2 _ (List.Mem.tail _ (List.Mem.tail _ (List.Mem.tail _ (List.Mem.tail _ (List.Mem.tail _ (List.Mem.tail _ (List.Mem.tail _ (List.Mem.tail _ (List.Mem.head _))))))))))
  have Ga1 := Lib.hid (show ∀ W, Hid (Kp bl rl W) → Rd W a1 n1 c1 z1 from fun W h => by rw [hrl] at h; exact h.out.2 _ (List.Mem.tail _ (List.Mem.tail _ (List.Mem.tail _ (List.Mem.tail _ (List.Mem.tail _ (List.Mem.tail _ (List.Mem.tail _ (List.Mem.tail _ (List.Mem.tail _ (List.Mem.head _)))))))))))
  have Ga := Lib.hid (show ∀ W, Hid (Kp bl rl W) → Rd W a len cap zs from fun W h => by rw [hrl] at h; exact h.out.2 _ (List.Mem.tail _ (List.Mem.tail _ (List.Mem.tail _ (List.Mem.tail _ (List.Mem.tail _ (List.Mem.tail _ (List.Mem.tail _ (List.Mem.tail _ (List.Mem.tail _ (List.Mem.tail _ (List.Mem.head _))))))))))))
  clear hbl hrl
  have KA := Lib.hid (show ∀ W, Hid (Kp bl rl W) → Calls Try.prog 21 #[.agg #[.int .i64 kf, .int .i64 kt, .int .i64 kp, .int .i64 kl, .slice a1 n1 c1]] W (Packed W cb zb) from fun W h => by have := specPackPacket kf kt kp kl a1 n1 c1 z1 W (Ga1.out W h); rw [HCB.out, HZB.out] at this; exact this)
  have KB := Lib.hid (show ∀ W, Hid (Kp bl rl W) → Calls Try.prog 22 #[.slice a3 n3 c3] W (RpRes W rr) from fun W h => by have := specReadPacket a3 n3 c3 z3 W (Ga3.out W h); rw [HRR.out] at this; exact this)
  have KC := Lib.hid (show ∀ W, Hid (Kp bl rl W) → Calls Try.prog 24 #[.agg #[.bool er, .int .i64 ei, .int .i64 es, .slice a5 n5 c5]] W (Packed W cx zx) from fun W h => by have := specPackEcho er ei es a5 n5 c5 z5 W (Ga5.out W h); rw [HCX.out, HZX.out] at this; exact this)
  have KD := Lib.hid (show ∀ W, Hid (Kp bl rl W) → Calls Try.prog 25 #[.slice a7 n7 c7] W (ReRes W yy) from fun W h => by have := specReadEcho a7 n7 c7 z7 W (Ga7.out W h); rw [HYY.out] at this; exact this)
  have KE := Lib.hid (show ∀ W, Hid (Kp bl rl W) → Calls Try.prog 26 #[.agg #[.int .i64 kf, .int .i64 kt, .int .i64 kp, .int .i64 kl, .slice a1 n1 c1]] W (fun e w' => e = .returned (.int .i64 cb) ∧ Below W.heap.size W w') from fun W h => by have := implPacketFault kf kt kp kl a1 n1 c1 W; rw [← H1.out, HCB.out, H1.out] at this; exact this)
  have KF := Lib.hid (show ∀ W, Hid (Kp bl rl W) → Calls Try.prog 27 #[.agg #[.bool er, .int .i64 ei, .int .i64 es, .slice a5 n5 c5]] W (fun e w' => e = .returned (.int .i64 cx) ∧ Below W.heap.size W w') from fun W h => by have := implEchoFault er ei es a5 n5 c5 W; rw [← H5.out, HCX.out, H5.out] at this; exact this)
  obtain ⟨q, hq⟩ : ∃ q, sameP uf ut up ul z9 vf vt vp vl z10 = q := ⟨_, rfl⟩
  have KG := Lib.hid (show ∀ W, Hid (Kp bl rl W) → Calls Try.prog 23 #[.agg #[.int .i64 uf, .int .i64 ut, .int .i64 up, .int .i64 ul, .slice a9 n9 c9], .agg #[.int .i64 vf, .int .i64 vt, .int .i64 vp, .int .i64 vl, .slice a10 n10 c10]] W (fun e w' => e = .returned (.bool q) ∧ Below W.heap.size W w') from fun W h => by rw [← hq]; exact implSamePackets uf ut up ul a9 n9 c9 z9 vf vt vp vl a10 n10 c10 z10 W (Ga9.out W h) (Ga10.out W h))
  have KH := Lib.hid (show ∀ W, Hid (Kp bl rl W) → Calls Try.prog 28 #[.agg #[.int .i64 uf, .int .i64 ut, .int .i64 up, .int .i64 ul, .slice a9 n9 c9], .agg #[.int .i64 vf, .int .i64 vt, .int .i64 vp, .int .i64 vl, .slice a10 n10 c10]] W (fun e w' => e = .returned (.bool q) ∧ Below W.heap.size W w') from fun W h => by rw [← hq]; exact specSamePackets uf ut up ul a9 n9 c9 z9 vf vt vp vl a10 n10 c10 z10 W (Ga9.out W h) (Ga10.out W h))
  have KI := Lib.hid (show ∀ W (a' : Option Addr) (n' c' : Nat), Hid (Kp bl rl W) → Rd W a' n' c' rr.rs → Calls Try.prog 23 #[.agg #[.int .i64 rr.f, .int .i64 rr.t, .int .i64 rr.p, .int .i64 rr.l, .slice a4 n4 c4], .agg #[.int .i64 rr.f, .int .i64 rr.t, .int .i64 rr.p, .int .i64 rr.l, .slice a' n' c']] W (fun e w' => e = .returned (.bool true) ∧ Below W.heap.size W w') from fun W a' n' c' h h' => by have := implSamePackets rr.f rr.t rr.p rr.l a4 n4 c4 rr.rs rr.f rr.t rr.p rr.l a' n' c' rr.rs W (Ga4.out W h) h'; rw [sameP_self] at this; exact this)
  clear hq
  have hf0 := fld_br0
  have hf1 := fld_pr0
  have hf2 := fld_pr1
  have hf3 := fld_er0
  go_cut [99] (fun v wx => v = .bool false ∧ Hid (Below w.heap.size w wx) ∧ Hid (Kp bl rl wx))
  case first =>
    as_aux_lemma =>
      have SS := Lib.hid (show ∀ W, Hid (Kp bl rl W) → W.cell? ⟨b3, 0, none⟩ = some (.int .i64 kf) ∧ W.cell? ⟨b3, 1, none⟩ = some (.int .i64 kt) ∧ W.cell? ⟨b3, 2, none⟩ = some (.int .i64 kp) ∧ W.cell? ⟨b3, 3, none⟩ = some (.int .i64 kl) ∧ W.cell? ⟨b3, 4, none⟩ = some (.slice a1 n1 c1) ∧ W.cell? ⟨b4, 0, none⟩ = some (.int .i64 cb) ∧ W.cell? ⟨b6, 0, none⟩ = some (.int .i64 rr.c) ∧ W.cell? ⟨b6, 1, none⟩ = some (.int .i64 rr.f) ∧ W.cell? ⟨b6, 2, none⟩ = some (.int .i64 rr.t) ∧ W.cell? ⟨b6, 3, none⟩ = some (.int .i64 rr.p) ∧ W.cell? ⟨b6, 4, none⟩ = some (.int .i64 rr.l) ∧ W.cell? ⟨b6, 5, none⟩ = some (.slice a4 n4 c4) ∧ W.cell? ⟨b7, 0, none⟩ = some (.bool er) ∧ W.cell? ⟨b7, 1, none⟩ = some (.int .i64 ei) ∧ W.cell? ⟨b7, 2, none⟩ = some (.int .i64 es) ∧ W.cell? ⟨b7, 3, none⟩ = some (.slice a5 n5 c5) ∧ W.cell? ⟨b8, 0, none⟩ = some (.int .i64 cx) ∧ W.cell? ⟨b10, 0, none⟩ = some (.int .i64 yy.c) ∧ W.cell? ⟨b11, 0, none⟩ = some (.int .i64 uf) ∧ W.cell? ⟨b11, 1, none⟩ = some (.int .i64 ut) ∧ W.cell? ⟨b11, 2, none⟩ = some (.int .i64 up) ∧ W.cell? ⟨b11, 3, none⟩ = some (.int .i64 ul) ∧ W.cell? ⟨b11, 4, none⟩ = some (.slice a9 n9 c9) ∧ W.cell? ⟨b12, 0, none⟩ = some (.int .i64 vf) ∧ W.cell? ⟨b12, 1, none⟩ = some (.int .i64 vt) ∧ W.cell? ⟨b12, 2, none⟩ = some (.int .i64 vp) ∧ W.cell? ⟨b12, 3, none⟩ = some (.int .i64 vl) ∧ W.cell? ⟨b12, 4, none⟩ = some (.slice a10 n10 c10) ∧ Hid (Kp bl rl W) from fun W h => ⟨(Gb3.out W h).cell 0, (Gb3.out W h).cell 1, (Gb3.out W h).cell 2, (Gb3.out W h).cell 3, (Gb3.out W h).cell 4, (Gb4.out W h).cell 0, (Gb6.out W h).cell 0, (Gb6.out W h).cell 1, (Gb6.out W h).cell 2, (Gb6.out W h).cell 3, (Gb6.out W h).cell 4, (Gb6.out W h).cell 5, (Gb7.out W h).cell 0, (Gb7.out W h).cell 1, (Gb7.out W h).cell 2, (Gb7.out W h).cell 3, (Gb8.out W h).cell 0, (Gb10.out W h).cell 0, (Gb11.out W h).cell 0, (Gb11.out W h).cell 1, (Gb11.out W h).cell 2, (Gb11.out W h).cell 3, (Gb11.out W h).cell 4, (Gb12.out W h).cell 0, (Gb12.out W h).cell 1, (Gb12.out W h).cell 2, (Gb12.out W h).cell 3, (Gb12.out W h).cell 4, h⟩)
      replace T := Lib.hid T.out.drew
      replace KP := Lib.hid KP.out.drew
      refine wp_region_held_drew (S := fun W => W.cell? ⟨b3, 0, none⟩ = some (.int .i64 kf) ∧ W.cell? ⟨b3, 1, none⟩ = some (.int .i64 kt) ∧ W.cell? ⟨b3, 2, none⟩ = some (.int .i64 kp) ∧ W.cell? ⟨b3, 3, none⟩ = some (.int .i64 kl) ∧ W.cell? ⟨b3, 4, none⟩ = some (.slice a1 n1 c1) ∧ W.cell? ⟨b4, 0, none⟩ = some (.int .i64 cb) ∧ W.cell? ⟨b6, 0, none⟩ = some (.int .i64 rr.c) ∧ W.cell? ⟨b6, 1, none⟩ = some (.int .i64 rr.f) ∧ W.cell? ⟨b6, 2, none⟩ = some (.int .i64 rr.t) ∧ W.cell? ⟨b6, 3, none⟩ = some (.int .i64 rr.p) ∧ W.cell? ⟨b6, 4, none⟩ = some (.int .i64 rr.l) ∧ W.cell? ⟨b6, 5, none⟩ = some (.slice a4 n4 c4) ∧ W.cell? ⟨b7, 0, none⟩ = some (.bool er) ∧ W.cell? ⟨b7, 1, none⟩ = some (.int .i64 ei) ∧ W.cell? ⟨b7, 2, none⟩ = some (.int .i64 es) ∧ W.cell? ⟨b7, 3, none⟩ = some (.slice a5 n5 c5) ∧ W.cell? ⟨b8, 0, none⟩ = some (.int .i64 cx) ∧ W.cell? ⟨b10, 0, none⟩ = some (.int .i64 yy.c) ∧ W.cell? ⟨b11, 0, none⟩ = some (.int .i64 uf) ∧ W.cell? ⟨b11, 1, none⟩ = some (.int .i64 ut) ∧ W.cell? ⟨b11, 2, none⟩ = some (.int .i64 up) ∧ W.cell? ⟨b11, 3, none⟩ = some (.int .i64 ul) ∧ W.cell? ⟨b11, 4, none⟩ = some (.slice a9 n9 c9) ∧ W.cell? ⟨b12, 0, none⟩ = some (.int .i64 vf) ∧ W.cell? ⟨b12, 1, none⟩ = some (.int .i64 vt) ∧ W.cell? ⟨b12, 2, none⟩ = some (.int .i64 vp) ∧ W.cell? ⟨b12, 3, none⟩ = some (.int .i64 vl) ∧ W.cell? ⟨b12, 4, none⟩ = some (.slice a10 n10 c10) ∧ Hid (Kp bl rl W)) (by kernel_rfl) (SS.out _ KP) (fun hHeld => ?_)
      refine wpAnyH_take (i := 0) (v := ?_) (by simp only [List.getElem?_toArray, List.getElem?_cons_zero]; exact rfl) (by kernel_rfl) (by kernel_rfl) (by kernel_rfl) (by exact fun _ _ _ h => h) (Or.inl ⟨by rfl, ?_⟩) hHeld ?_
      rotate_left
      · intro w' hSw
        clear hSw
        go_simp
        try with_reducible rfl
      try simp only [Act.put, List.setIfInBounds_toArray, List.set_cons_zero, List.set_cons_succ]
      refine wpAnyH_take (i := 1) (v := ?_) (by simp only [List.getElem?_toArray, List.getElem?_cons_zero, List.getElem?_cons_succ]; exact rfl) (by kernel_rfl) (by kernel_rfl) (by kernel_rfl) (by exact fun _ _ _ h => h) (Or.inl ⟨by rfl, ?_⟩) hHeld ?_
      rotate_left
      · intro w' hSw
        obtain ⟨_, _, _, _, _, s5, _, _, _, _, _, _, _, _, _, _, _, _, _, _, _, _, _, _, _, _, _, _, _⟩ := hSw
        go_simp
        try with_reducible rfl
      try simp only [Act.put, List.setIfInBounds_toArray, List.set_cons_zero, List.set_cons_succ]
      refine wpAnyH_take (i := 2) (v := ?_) (by simp only [List.getElem?_toArray, List.getElem?_cons_zero, List.getElem?_cons_succ]; exact rfl) (by kernel_rfl) (by kernel_rfl) (by kernel_rfl) (by exact fun _ _ _ h => h) (Or.inl ⟨by rfl, ?_⟩) hHeld ?_
      rotate_left
      · intro w' hSw
        obtain ⟨s0, s1, s2, s3, s4, _, _, _, _, _, _, _, _, _, _, _, _, _, _, _, _, _, _, _, _, _, _, _, _⟩ := hSw
        go_simp
        try with_reducible rfl
      try simp only [Act.put, List.setIfInBounds_toArray, List.set_cons_zero, List.set_cons_succ]
      refine wpAnyH_ready (rs := [3]) (by kernel_rfl) (by simp) ?_
      refine (AllReadyH.cons (by simp only [List.getElem?_toArray, List.getElem?_cons_zero, List.getElem?_cons_succ]; exact rfl) (fun K hK => ?_) AllReadyH.nil)
      refine want_none (by exact rfl) ?_
      go_wp2_with fail
      refine (KA.out _ KP).mono ?_
      rintro e w1 ⟨x1, y1, k1, rfl, _, hb⟩
      replace T := Lib.hid (T.out.trans (hb.mono T.out.size))
      replace KP := Lib.hid (KP.out.below hb)
      clear hb
      go_wp2_with fail
      refine hK.out _ _ (SS.out _ KP) (fun hHeld => ?_)
      clear hK K
      try simp only [Act.put, List.setIfInBounds_toArray, List.set_cons_zero, List.set_cons_succ]
      refine wpAnyH_take (i := 4) (v := ?_) (by simp only [List.getElem?_toArray, List.getElem?_cons_zero, List.getElem?_cons_succ]; exact rfl) (by kernel_rfl) (by kernel_rfl) (by kernel_rfl) (by exact fun _ _ _ h => h) (Or.inl ⟨by rfl, ?_⟩) hHeld ?_
      rotate_left
      · intro w' hSw
        clear hSw
        go_simp
        try with_reducible rfl
      try simp only [Act.put, List.setIfInBounds_toArray, List.set_cons_zero, List.set_cons_succ]
      refine wpAnyH_take (i := 5) (v := ?_) (by simp only [List.getElem?_toArray, List.getElem?_cons_zero, List.getElem?_cons_succ]; exact rfl) (by kernel_rfl) (by kernel_rfl) (by kernel_rfl) (by exact fun _ _ _ h => h) (Or.inl ⟨by rfl, ?_⟩) hHeld ?_
      rotate_left
      · intro w' hSw
        clear hSw
        go_simp
        try with_reducible rfl
      try simp only [Act.put, List.setIfInBounds_toArray, List.set_cons_zero, List.set_cons_succ]
      refine wpAnyH_take (i := 6) (v := ?_) (by simp only [List.getElem?_toArray, List.getElem?_cons_zero, List.getElem?_cons_succ]; exact rfl) (by kernel_rfl) (by kernel_rfl) (by kernel_rfl) (by exact fun _ _ _ h => h) (Or.inl ⟨by rfl, ?_⟩) hHeld ?_
      rotate_left
      · intro w' hSw
        clear hSw
        go_simp
        try with_reducible rfl
      try simp only [Act.put, List.setIfInBounds_toArray, List.set_cons_zero, List.set_cons_succ]
      refine wpAnyH_take (i := 7) (v := ?_) (by simp only [List.getElem?_toArray, List.getElem?_cons_zero, List.getElem?_cons_succ]; exact rfl) (by kernel_rfl) (by kernel_rfl) (by kernel_rfl) (by exact fun _ _ _ h => h) (Or.inl ⟨by rfl, ?_⟩) hHeld ?_
      rotate_left
      · intro w' hSw
        clear hSw
        go_simp
        try with_reducible rfl
      try simp only [Act.put, List.setIfInBounds_toArray, List.set_cons_zero, List.set_cons_succ]
      refine wpAnyH_take (i := 8) (v := ?_) (by simp only [List.getElem?_toArray, List.getElem?_cons_zero, List.getElem?_cons_succ]; exact rfl) (by kernel_rfl) (by kernel_rfl) (by kernel_rfl) (by exact fun _ _ _ h => h) (Or.inl ⟨by rfl, ?_⟩) hHeld ?_
      rotate_left
      · intro w' hSw
        obtain ⟨_, _, _, _, _, _, s6, _, _, _, _, _, _, _, _, _, _, _, _, _, _, _, _, _, _, _, _, _, _⟩ := hSw
        go_simp
        try with_reducible rfl
      try simp only [Act.put, List.setIfInBounds_toArray, List.set_cons_zero, List.set_cons_succ]
      refine wpAnyH_take (i := 9) (v := ?_) (by simp only [List.getElem?_toArray, List.getElem?_cons_zero, List.getElem?_cons_succ]; exact rfl) (by kernel_rfl) (by kernel_rfl) (by kernel_rfl) (by exact fun _ _ _ h => h) (Or.inl ⟨by rfl, ?_⟩) hHeld ?_
      rotate_left
      · intro w' hSw
        clear hSw
        go_simp
        try with_reducible rfl
      try simp only [Act.put, List.setIfInBounds_toArray, List.set_cons_zero, List.set_cons_succ]
      refine wpAnyH_ready (rs := [10]) (by kernel_rfl) (by simp) ?_
      refine (AllReadyH.cons (by simp only [List.getElem?_toArray, List.getElem?_cons_zero, List.getElem?_cons_succ]; exact rfl) (fun K hK => ?_) AllReadyH.nil)
      refine want_yes (by rfl) ?_
      go_wp2_with fail
      refine (KB.out _ KP).mono ?_
      rintro e w1 ⟨x2, y2, k2, rfl, _, hb⟩
      replace T := Lib.hid (T.out.trans (hb.mono T.out.size))
      replace KP := Lib.hid (KP.out.below hb)
      clear hb
      go_wp2_with fail
      refine hK.out _ _ (SS.out _ KP) (fun hHeld => ?_)
      clear hK K
      try simp only [Act.put, List.setIfInBounds_toArray, List.set_cons_zero, List.set_cons_succ]
      refine wpAnyH_take (i := 11) (v := ?_) (by simp only [List.getElem?_toArray, List.getElem?_cons_zero, List.getElem?_cons_succ]; exact rfl) (by kernel_rfl) (by kernel_rfl) (by kernel_rfl) (by exact fun _ _ _ h => h) (Or.inl ⟨by rfl, ?_⟩) hHeld ?_
      rotate_left
      · intro w' hSw
        clear hSw
        go_simp
        try with_reducible rfl
      try simp only [Act.put, List.setIfInBounds_toArray, List.set_cons_zero, List.set_cons_succ]
      refine wpAnyH_take (i := 12) (v := ?_) (by simp only [List.getElem?_toArray, List.getElem?_cons_zero, List.getElem?_cons_succ]; exact rfl) (by kernel_rfl) (by kernel_rfl) (by kernel_rfl) (by exact fun _ _ _ h => h) (Or.inl ⟨by rfl, ?_⟩) hHeld ?_
      rotate_left
      · intro w' hSw
        clear hSw
        go_simp
        try with_reducible rfl
      try simp only [Act.put, List.setIfInBounds_toArray, List.set_cons_zero, List.set_cons_succ]
      refine wpAnyH_take (i := 13) (v := ?_) (by simp only [List.getElem?_toArray, List.getElem?_cons_zero, List.getElem?_cons_succ]; exact rfl) (by kernel_rfl) (by kernel_rfl) (by kernel_rfl) (by exact fun _ _ _ h => h) (Or.inl ⟨by rfl, ?_⟩) hHeld ?_
      rotate_left
      · intro w' hSw
        clear hSw
        go_simp
        try with_reducible rfl
      try simp only [Act.put, List.setIfInBounds_toArray, List.set_cons_zero, List.set_cons_succ]
      refine wpAnyH_take (i := 14) (v := ?_) (by simp only [List.getElem?_toArray, List.getElem?_cons_zero, List.getElem?_cons_succ]; exact rfl) (by kernel_rfl) (by kernel_rfl) (by kernel_rfl) (by exact fun _ _ _ h => h) (Or.inl ⟨by rfl, ?_⟩) hHeld ?_
      rotate_left
      · intro w' hSw
        clear hSw
        go_simp
        try with_reducible rfl
      try simp only [Act.put, List.setIfInBounds_toArray, List.set_cons_zero, List.set_cons_succ]
      refine wpAnyH_take (i := 15) (v := ?_) (by simp only [List.getElem?_toArray, List.getElem?_cons_zero, List.getElem?_cons_succ]; exact rfl) (by kernel_rfl) (by kernel_rfl) (by kernel_rfl) (by exact fun _ _ _ h => h) (Or.inl ⟨by rfl, ?_⟩) hHeld ?_
      rotate_left
      · intro w' hSw
        clear hSw
        go_simp
        try with_reducible rfl
      try simp only [Act.put, List.setIfInBounds_toArray, List.set_cons_zero, List.set_cons_succ]
      refine wpAnyH_take (i := 16) (v := ?_) (by simp only [List.getElem?_toArray, List.getElem?_cons_zero, List.getElem?_cons_succ]; exact rfl) (by kernel_rfl) (by kernel_rfl) (by kernel_rfl) (by exact fun _ _ _ h => h) (Or.inl ⟨by rfl, ?_⟩) hHeld ?_
      rotate_left
      · intro w' hSw
        obtain ⟨_, _, _, _, _, _, _, s7, s8, s9, s10, s11, _, _, _, _, _, _, _, _, _, _, _, _, _, _, _, _, _⟩ := hSw
        go_simp
        try with_reducible rfl
      try simp only [Act.put, List.setIfInBounds_toArray, List.set_cons_zero, List.set_cons_succ]
      refine wpAnyH_take (i := 17) (v := ?_) (by simp only [List.getElem?_toArray, List.getElem?_cons_zero, List.getElem?_cons_succ]; exact rfl) (by kernel_rfl) (by kernel_rfl) (by kernel_rfl) (by exact fun _ _ _ h => h) (Or.inl ⟨by rfl, ?_⟩) hHeld ?_
      rotate_left
      · intro w' hSw
        clear hSw
        go_simp
        try with_reducible rfl
      try simp only [Act.put, List.setIfInBounds_toArray, List.set_cons_zero, List.set_cons_succ]
      refine wpAnyH_ready (rs := [18]) (by kernel_rfl) (by simp) ?_
      refine (AllReadyH.cons (by simp only [List.getElem?_toArray, List.getElem?_cons_zero, List.getElem?_cons_succ]; exact rfl) (fun K hK => ?_) AllReadyH.nil)
      refine want_yes (by rfl) ?_
      go_wp2_with fail
      refine (KB.out _ KP).mono ?_
      rintro e w1 ⟨x3, y3, k3, rfl, o3, hb⟩
      replace T := Lib.hid (T.out.trans (hb.mono T.out.size))
      replace KP := Lib.hid (KP.out.below hb)
      have O3 := Lib.hid o3.rd
      clear o3
      clear hb
      go_wp2_with fail
      refine hK.out _ _ (SS.out _ KP) (fun hHeld => ?_)
      clear hK K
      try simp only [Act.put, List.setIfInBounds_toArray, List.set_cons_zero, List.set_cons_succ]
      refine wpAnyH_take (i := 19) (v := ?_) (by simp only [List.getElem?_toArray, List.getElem?_cons_zero, List.getElem?_cons_succ]; exact rfl) (by kernel_rfl) (by kernel_rfl) (by kernel_rfl) (by exact fun _ _ _ h => h) (Or.inl ⟨by rfl, ?_⟩) hHeld ?_
      rotate_left
      · intro w' hSw
        clear hSw
        go_simp
        try with_reducible rfl
      try simp only [Act.put, List.setIfInBounds_toArray, List.set_cons_zero, List.set_cons_succ]
      refine wpAnyH_ready (rs := [20]) (by kernel_rfl) (by simp) ?_
      refine (AllReadyH.cons (by simp only [List.getElem?_toArray, List.getElem?_cons_zero, List.getElem?_cons_succ]; exact rfl) (fun K hK => ?_) AllReadyH.nil)
      refine want_yes (by rfl) ?_
      go_wp2_with fail
      refine (KI.out _ _ _ _ KP O3.out).mono ?_
      rintro e w1 ⟨rfl, hb⟩
      replace T := Lib.hid (T.out.trans (hb.mono T.out.size))
      replace KP := Lib.hid (KP.out.below hb)
      clear O3
      clear hb
      go_wp2_with fail
      refine hK.out _ _ (SS.out _ KP) (fun hHeld => ?_)
      clear hK K
      try simp only [Act.put, List.setIfInBounds_toArray, List.set_cons_zero, List.set_cons_succ]
      refine wpAnyH_take (i := 21) (v := ?_) (by simp only [List.getElem?_toArray, List.getElem?_cons_zero, List.getElem?_cons_succ]; exact rfl) (by kernel_rfl) (by kernel_rfl) (by kernel_rfl) (by exact fun _ _ _ h => h) (Or.inl ⟨by rfl, ?_⟩) hHeld ?_
      rotate_left
      · intro w' hSw
        clear hSw
        go_simp
        try with_reducible rfl
      try simp only [Act.put, List.setIfInBounds_toArray, List.set_cons_zero, List.set_cons_succ]
      refine wpAnyH_take (i := 22) (v := ?_) (by simp only [List.getElem?_toArray, List.getElem?_cons_zero, List.getElem?_cons_succ]; exact rfl) (by kernel_rfl) (by kernel_rfl) (by kernel_rfl) (by exact fun _ _ _ h => h) (Or.inl ⟨by rfl, ?_⟩) hHeld ?_
      rotate_left
      · intro w' hSw
        clear hSw
        go_simp
        try with_reducible rfl
      try simp only [Act.put, List.setIfInBounds_toArray, List.set_cons_zero, List.set_cons_succ]
      refine wpAnyH_take (i := 23) (v := ?_) (by simp only [List.getElem?_toArray, List.getElem?_cons_zero, List.getElem?_cons_succ]; exact rfl) (by kernel_rfl) (by kernel_rfl) (by kernel_rfl) (by exact fun _ _ _ h => h) (Or.inl ⟨by rfl, ?_⟩) hHeld ?_
      rotate_left
      · intro w' hSw
        clear hSw
        go_simp
        try with_reducible rfl
      try simp only [Act.put, List.setIfInBounds_toArray, List.set_cons_zero, List.set_cons_succ]
      refine wpAnyH_take (i := 24) (v := ?_) (by simp only [List.getElem?_toArray, List.getElem?_cons_zero, List.getElem?_cons_succ]; exact rfl) (by kernel_rfl) (by kernel_rfl) (by kernel_rfl) (by exact fun _ _ _ h => h) (Or.inl ⟨by rfl, ?_⟩) hHeld ?_
      rotate_left
      · intro w' hSw
        clear hSw
        go_simp
        try with_reducible rfl
      try simp only [Act.put, List.setIfInBounds_toArray, List.set_cons_zero, List.set_cons_succ]
      refine wpAnyH_take (i := 25) (v := ?_) (by simp only [List.getElem?_toArray, List.getElem?_cons_zero, List.getElem?_cons_succ]; exact rfl) (by kernel_rfl) (by kernel_rfl) (by kernel_rfl) (by exact fun _ _ _ h => h) (Or.inl ⟨by rfl, ?_⟩) hHeld ?_
      rotate_left
      · intro w' hSw
        obtain ⟨_, _, _, _, _, _, _, _, _, _, _, _, _, _, _, _, s16, _, _, _, _, _, _, _, _, _, _, _, _⟩ := hSw
        go_simp
        try with_reducible rfl
      try simp only [Act.put, List.setIfInBounds_toArray, List.set_cons_zero, List.set_cons_succ]
      refine wpAnyH_take (i := 26) (v := ?_) (by simp only [List.getElem?_toArray, List.getElem?_cons_zero, List.getElem?_cons_succ]; exact rfl) (by kernel_rfl) (by kernel_rfl) (by kernel_rfl) (by exact fun _ _ _ h => h) (Or.inl ⟨by rfl, ?_⟩) hHeld ?_
      rotate_left
      · intro w' hSw
        obtain ⟨_, _, _, _, _, _, _, _, _, _, _, _, s12, s13, s14, s15, _, _, _, _, _, _, _, _, _, _, _, _, _⟩ := hSw
        go_simp
        try with_reducible rfl
      try simp only [Act.put, List.setIfInBounds_toArray, List.set_cons_zero, List.set_cons_succ]
      refine wpAnyH_ready (rs := [27]) (by kernel_rfl) (by simp) ?_
      refine (AllReadyH.cons (by simp only [List.getElem?_toArray, List.getElem?_cons_zero, List.getElem?_cons_succ]; exact rfl) (fun K hK => ?_) AllReadyH.nil)
      refine want_yes (by rfl) ?_
      go_wp2_with fail
      refine (KC.out _ KP).mono ?_
      rintro e w1 ⟨x4, y4, k4, rfl, _, hb⟩
      replace T := Lib.hid (T.out.trans (hb.mono T.out.size))
      replace KP := Lib.hid (KP.out.below hb)
      clear hb
      go_wp2_with fail
      refine hK.out _ _ (SS.out _ KP) (fun hHeld => ?_)
      clear hK K
      try simp only [Act.put, List.setIfInBounds_toArray, List.set_cons_zero, List.set_cons_succ]
      refine wpAnyH_take (i := 28) (v := ?_) (by simp only [List.getElem?_toArray, List.getElem?_cons_zero, List.getElem?_cons_succ]; exact rfl) (by kernel_rfl) (by kernel_rfl) (by kernel_rfl) (by exact fun _ _ _ h => h) (Or.inl ⟨by rfl, ?_⟩) hHeld ?_
      rotate_left
      · intro w' hSw
        clear hSw
        go_simp
        try with_reducible rfl
      try simp only [Act.put, List.setIfInBounds_toArray, List.set_cons_zero, List.set_cons_succ]
      refine wpAnyH_take (i := 29) (v := ?_) (by simp only [List.getElem?_toArray, List.getElem?_cons_zero, List.getElem?_cons_succ]; exact rfl) (by kernel_rfl) (by kernel_rfl) (by kernel_rfl) (by exact fun _ _ _ h => h) (Or.inl ⟨by rfl, ?_⟩) hHeld ?_
      rotate_left
      · intro w' hSw
        clear hSw
        go_simp
        try with_reducible rfl
      try simp only [Act.put, List.setIfInBounds_toArray, List.set_cons_zero, List.set_cons_succ]
      refine wpAnyH_take (i := 30) (v := ?_) (by simp only [List.getElem?_toArray, List.getElem?_cons_zero, List.getElem?_cons_succ]; exact rfl) (by kernel_rfl) (by kernel_rfl) (by kernel_rfl) (by exact fun _ _ _ h => h) (Or.inl ⟨by rfl, ?_⟩) hHeld ?_
      rotate_left
      · intro w' hSw
        clear hSw
        go_simp
        try with_reducible rfl
      try simp only [Act.put, List.setIfInBounds_toArray, List.set_cons_zero, List.set_cons_succ]
      refine wpAnyH_take (i := 31) (v := ?_) (by simp only [List.getElem?_toArray, List.getElem?_cons_zero, List.getElem?_cons_succ]; exact rfl) (by kernel_rfl) (by kernel_rfl) (by kernel_rfl) (by exact fun _ _ _ h => h) (Or.inl ⟨by rfl, ?_⟩) hHeld ?_
      rotate_left
      · intro w' hSw
        clear hSw
        go_simp
        try with_reducible rfl
      try simp only [Act.put, List.setIfInBounds_toArray, List.set_cons_zero, List.set_cons_succ]
      refine wpAnyH_take (i := 32) (v := ?_) (by simp only [List.getElem?_toArray, List.getElem?_cons_zero, List.getElem?_cons_succ]; exact rfl) (by kernel_rfl) (by kernel_rfl) (by kernel_rfl) (by exact fun _ _ _ h => h) (Or.inl ⟨by rfl, ?_⟩) hHeld ?_
      rotate_left
      · intro w' hSw
        clear hSw
        go_simp
        try with_reducible rfl
      try simp only [Act.put, List.setIfInBounds_toArray, List.set_cons_zero, List.set_cons_succ]
      refine wpAnyH_take (i := 33) (v := ?_) (by simp only [List.getElem?_toArray, List.getElem?_cons_zero, List.getElem?_cons_succ]; exact rfl) (by kernel_rfl) (by kernel_rfl) (by kernel_rfl) (by exact fun _ _ _ h => h) (Or.inl ⟨by rfl, ?_⟩) hHeld ?_
      rotate_left
      · intro w' hSw
        obtain ⟨_, _, _, _, _, _, _, _, _, _, _, _, _, _, _, _, _, s17, _, _, _, _, _, _, _, _, _, _, _⟩ := hSw
        go_simp
        try with_reducible rfl
      try simp only [Act.put, List.setIfInBounds_toArray, List.set_cons_zero, List.set_cons_succ]
      refine wpAnyH_take (i := 34) (v := ?_) (by simp only [List.getElem?_toArray, List.getElem?_cons_zero, List.getElem?_cons_succ]; exact rfl) (by kernel_rfl) (by kernel_rfl) (by kernel_rfl) (by exact fun _ _ _ h => h) (Or.inl ⟨by rfl, ?_⟩) hHeld ?_
      rotate_left
      · intro w' hSw
        clear hSw
        go_simp
        try with_reducible rfl
      try simp only [Act.put, List.setIfInBounds_toArray, List.set_cons_zero, List.set_cons_succ]
      refine wpAnyH_ready (rs := [35]) (by kernel_rfl) (by simp) ?_
      refine (AllReadyH.cons (by simp only [List.getElem?_toArray, List.getElem?_cons_zero, List.getElem?_cons_succ]; exact rfl) (fun K hK => ?_) AllReadyH.nil)
      refine want_yes (by rfl) ?_
      go_wp2_with fail
      refine (KD.out _ KP).mono ?_
      rintro e w1 ⟨x5, y5, k5, rfl, _, hb⟩
      replace T := Lib.hid (T.out.trans (hb.mono T.out.size))
      replace KP := Lib.hid (KP.out.below hb)
      clear hb
      go_wp2_with fail
      refine hK.out _ _ (SS.out _ KP) (fun hHeld => ?_)
      clear hK K
      try simp only [Act.put, List.setIfInBounds_toArray, List.set_cons_zero, List.set_cons_succ]
      refine wpAnyH_take (i := 36) (v := ?_) (by simp only [List.getElem?_toArray, List.getElem?_cons_zero, List.getElem?_cons_succ]; exact rfl) (by kernel_rfl) (by kernel_rfl) (by kernel_rfl) (by exact fun _ _ _ h => h) (Or.inl ⟨by rfl, ?_⟩) hHeld ?_
      rotate_left
      · intro w' hSw
        clear hSw
        go_simp
        try with_reducible rfl
      try simp only [Act.put, List.setIfInBounds_toArray, List.set_cons_zero, List.set_cons_succ]
      refine wpAnyH_take (i := 37) (v := ?_) (by simp only [List.getElem?_toArray, List.getElem?_cons_zero, List.getElem?_cons_succ]; exact rfl) (by kernel_rfl) (by kernel_rfl) (by kernel_rfl) (by exact fun _ _ _ h => h) (Or.inl ⟨by rfl, ?_⟩) hHeld ?_
      rotate_left
      · intro w' hSw
        clear hSw
        go_simp
        try with_reducible rfl
      try simp only [Act.put, List.setIfInBounds_toArray, List.set_cons_zero, List.set_cons_succ]
      refine wpAnyH_take (i := 38) (v := ?_) (by simp only [List.getElem?_toArray, List.getElem?_cons_zero, List.getElem?_cons_succ]; exact rfl) (by kernel_rfl) (by kernel_rfl) (by kernel_rfl) (by exact fun _ _ _ h => h) (Or.inl ⟨by rfl, ?_⟩) hHeld ?_
      rotate_left
      · intro w' hSw
        clear hSw
        go_simp
        try with_reducible rfl
      try simp only [Act.put, List.setIfInBounds_toArray, List.set_cons_zero, List.set_cons_succ]
      refine wpAnyH_take (i := 39) (v := ?_) (by simp only [List.getElem?_toArray, List.getElem?_cons_zero, List.getElem?_cons_succ]; exact rfl) (by kernel_rfl) (by kernel_rfl) (by kernel_rfl) (by exact fun _ _ _ h => h) (Or.inl ⟨by rfl, ?_⟩) hHeld ?_
      rotate_left
      · intro w' hSw
        clear hSw
        go_simp
        try with_reducible rfl
      try simp only [Act.put, List.setIfInBounds_toArray, List.set_cons_zero, List.set_cons_succ]
      refine wpAnyH_take (i := 40) (v := ?_) (by simp only [List.getElem?_toArray, List.getElem?_cons_zero, List.getElem?_cons_succ]; exact rfl) (by kernel_rfl) (by kernel_rfl) (by kernel_rfl) (by exact fun _ _ _ h => h) (Or.inl ⟨by rfl, ?_⟩) hHeld ?_
      rotate_left
      · intro w' hSw
        obtain ⟨s0, s1, s2, s3, s4, _, _, _, _, _, _, _, _, _, _, _, _, _, _, _, _, _, _, _, _, _, _, _, _⟩ := hSw
        go_simp
        try with_reducible rfl
      try simp only [Act.put, List.setIfInBounds_toArray, List.set_cons_zero, List.set_cons_succ]
      refine wpAnyH_take (i := 42) (v := ?_) (by simp only [List.getElem?_toArray, List.getElem?_cons_zero, List.getElem?_cons_succ]; exact rfl) (by kernel_rfl) (by kernel_rfl) (by kernel_rfl) (by exact fun _ _ _ h => h) (Or.inl ⟨by rfl, ?_⟩) hHeld ?_
      rotate_left
      · intro w' hSw
        clear hSw
        go_simp
        try with_reducible rfl
      try simp only [Act.put, List.setIfInBounds_toArray, List.set_cons_zero, List.set_cons_succ]
      refine wpAnyH_take (i := 43) (v := ?_) (by simp only [List.getElem?_toArray, List.getElem?_cons_zero, List.getElem?_cons_succ]; exact rfl) (by kernel_rfl) (by kernel_rfl) (by kernel_rfl) (by exact fun _ _ _ h => h) (Or.inl ⟨by rfl, ?_⟩) hHeld ?_
      rotate_left
      · intro w' hSw
        obtain ⟨_, _, _, _, _, s5, _, _, _, _, _, _, _, _, _, _, _, _, _, _, _, _, _, _, _, _, _, _, _⟩ := hSw
        go_simp
        try with_reducible rfl
      try simp only [Act.put, List.setIfInBounds_toArray, List.set_cons_zero, List.set_cons_succ]
      refine wpAnyH_ready (rs := [41]) (by kernel_rfl) (by simp) ?_
      refine (AllReadyH.cons (by simp only [List.getElem?_toArray, List.getElem?_cons_zero, List.getElem?_cons_succ]; exact rfl) (fun K hK => ?_) AllReadyH.nil)
      refine want_yes (by rfl) ?_
      go_wp2_with fail
      refine (KE.out _ KP).mono ?_
      rintro e w1 ⟨rfl, hb⟩
      replace T := Lib.hid (T.out.trans (hb.mono T.out.size))
      replace KP := Lib.hid (KP.out.below hb)
      clear hb
      go_wp2_with fail
      refine hK.out _ _ (SS.out _ KP) (fun hHeld => ?_)
      clear hK K
      try simp only [Act.put, List.setIfInBounds_toArray, List.set_cons_zero, List.set_cons_succ]
      refine wpAnyH_take (i := 44) (v := ?_) (by simp only [List.getElem?_toArray, List.getElem?_cons_zero, List.getElem?_cons_succ]; exact rfl) (by kernel_rfl) (by kernel_rfl) (by kernel_rfl) (by exact fun _ _ _ h => h) (Or.inl ⟨by rfl, ?_⟩) hHeld ?_
      rotate_left
      · intro w' hSw
        clear hSw
        go_simp
        try with_reducible rfl
      try simp only [Act.put, List.setIfInBounds_toArray, List.set_cons_zero, List.set_cons_succ]
      refine wpAnyH_take (i := 45) (v := ?_) (by simp only [List.getElem?_toArray, List.getElem?_cons_zero, List.getElem?_cons_succ]; exact rfl) (by kernel_rfl) (by kernel_rfl) (by kernel_rfl) (by exact fun _ _ _ h => h) (Or.inl ⟨by rfl, ?_⟩) hHeld ?_
      rotate_left
      · intro w' hSw
        clear hSw
        go_simp
        try with_reducible rfl
      try simp only [Act.put, List.setIfInBounds_toArray, List.set_cons_zero, List.set_cons_succ]
      refine wpAnyH_take (i := 46) (v := ?_) (by simp only [List.getElem?_toArray, List.getElem?_cons_zero, List.getElem?_cons_succ]; exact rfl) (by kernel_rfl) (by kernel_rfl) (by kernel_rfl) (by exact fun _ _ _ h => h) (Or.inl ⟨by rfl, ?_⟩) hHeld ?_
      rotate_left
      · intro w' hSw
        clear hSw
        go_simp
        try with_reducible rfl
      try simp only [Act.put, List.setIfInBounds_toArray, List.set_cons_zero, List.set_cons_succ]
      refine wpAnyH_take (i := 47) (v := ?_) (by simp only [List.getElem?_toArray, List.getElem?_cons_zero, List.getElem?_cons_succ]; exact rfl) (by kernel_rfl) (by kernel_rfl) (by kernel_rfl) (by exact fun _ _ _ h => h) (Or.inl ⟨by rfl, ?_⟩) hHeld ?_
      rotate_left
      · intro w' hSw
        obtain ⟨_, _, _, _, _, _, _, _, _, _, _, _, s12, s13, s14, s15, _, _, _, _, _, _, _, _, _, _, _, _, _⟩ := hSw
        go_simp
        try with_reducible rfl
      try simp only [Act.put, List.setIfInBounds_toArray, List.set_cons_zero, List.set_cons_succ]
      refine wpAnyH_take (i := 49) (v := ?_) (by simp only [List.getElem?_toArray, List.getElem?_cons_zero, List.getElem?_cons_succ]; exact rfl) (by kernel_rfl) (by kernel_rfl) (by kernel_rfl) (by exact fun _ _ _ h => h) (Or.inl ⟨by rfl, ?_⟩) hHeld ?_
      rotate_left
      · intro w' hSw
        clear hSw
        go_simp
        try with_reducible rfl
      try simp only [Act.put, List.setIfInBounds_toArray, List.set_cons_zero, List.set_cons_succ]
      refine wpAnyH_take (i := 50) (v := ?_) (by simp only [List.getElem?_toArray, List.getElem?_cons_zero, List.getElem?_cons_succ]; exact rfl) (by kernel_rfl) (by kernel_rfl) (by kernel_rfl) (by exact fun _ _ _ h => h) (Or.inl ⟨by rfl, ?_⟩) hHeld ?_
      rotate_left
      · intro w' hSw
        obtain ⟨_, _, _, _, _, _, _, _, _, _, _, _, _, _, _, _, s16, _, _, _, _, _, _, _, _, _, _, _, _⟩ := hSw
        go_simp
        try with_reducible rfl
      try simp only [Act.put, List.setIfInBounds_toArray, List.set_cons_zero, List.set_cons_succ]
      refine wpAnyH_ready (rs := [48]) (by kernel_rfl) (by simp) ?_
      refine (AllReadyH.cons (by simp only [List.getElem?_toArray, List.getElem?_cons_zero, List.getElem?_cons_succ]; exact rfl) (fun K hK => ?_) AllReadyH.nil)
      refine want_yes (by rfl) ?_
      go_wp2_with fail
      refine (KF.out _ KP).mono ?_
      rintro e w1 ⟨rfl, hb⟩
      replace T := Lib.hid (T.out.trans (hb.mono T.out.size))
      replace KP := Lib.hid (KP.out.below hb)
      clear hb
      go_wp2_with fail
      refine hK.out _ _ (SS.out _ KP) (fun hHeld => ?_)
      clear hK K
      try simp only [Act.put, List.setIfInBounds_toArray, List.set_cons_zero, List.set_cons_succ]
      refine wpAnyH_take (i := 51) (v := ?_) (by simp only [List.getElem?_toArray, List.getElem?_cons_zero, List.getElem?_cons_succ]; exact rfl) (by kernel_rfl) (by kernel_rfl) (by kernel_rfl) (by exact fun _ _ _ h => h) (Or.inl ⟨by rfl, ?_⟩) hHeld ?_
      rotate_left
      · intro w' hSw
        clear hSw
        go_simp
        try with_reducible rfl
      try simp only [Act.put, List.setIfInBounds_toArray, List.set_cons_zero, List.set_cons_succ]
      refine wpAnyH_take (i := 52) (v := ?_) (by simp only [List.getElem?_toArray, List.getElem?_cons_zero, List.getElem?_cons_succ]; exact rfl) (by kernel_rfl) (by kernel_rfl) (by kernel_rfl) (by exact fun _ _ _ h => h) (Or.inl ⟨by rfl, ?_⟩) hHeld ?_
      rotate_left
      · intro w' hSw
        clear hSw
        go_simp
        try with_reducible rfl
      try simp only [Act.put, List.setIfInBounds_toArray, List.set_cons_zero, List.set_cons_succ]
      refine wpAnyH_take (i := 53) (v := ?_) (by simp only [List.getElem?_toArray, List.getElem?_cons_zero, List.getElem?_cons_succ]; exact rfl) (by kernel_rfl) (by kernel_rfl) (by kernel_rfl) (by exact fun _ _ _ h => h) (Or.inl ⟨by rfl, ?_⟩) hHeld ?_
      rotate_left
      · intro w' hSw
        clear hSw
        go_simp
        try with_reducible rfl
      try simp only [Act.put, List.setIfInBounds_toArray, List.set_cons_zero, List.set_cons_succ]
      refine wpAnyH_take (i := 54) (v := ?_) (by simp only [List.getElem?_toArray, List.getElem?_cons_zero, List.getElem?_cons_succ]; exact rfl) (by kernel_rfl) (by kernel_rfl) (by kernel_rfl) (by exact fun _ _ _ h => h) (Or.inl ⟨by rfl, ?_⟩) hHeld ?_
      rotate_left
      · intro w' hSw
        obtain ⟨_, _, _, _, _, _, _, _, _, _, _, _, _, _, _, _, _, _, s18, s19, s20, s21, s22, _, _, _, _, _, _⟩ := hSw
        go_simp
        try with_reducible rfl
      try simp only [Act.put, List.setIfInBounds_toArray, List.set_cons_zero, List.set_cons_succ]
      refine wpAnyH_take (i := 55) (v := ?_) (by simp only [List.getElem?_toArray, List.getElem?_cons_zero, List.getElem?_cons_succ]; exact rfl) (by kernel_rfl) (by kernel_rfl) (by kernel_rfl) (by exact fun _ _ _ h => h) (Or.inl ⟨by rfl, ?_⟩) hHeld ?_
      rotate_left
      · intro w' hSw
        obtain ⟨_, _, _, _, _, _, _, _, _, _, _, _, _, _, _, _, _, _, _, _, _, _, _, s23, s24, s25, s26, s27, _⟩ := hSw
        go_simp
        try with_reducible rfl
      try simp only [Act.put, List.setIfInBounds_toArray, List.set_cons_zero, List.set_cons_succ]
      refine wpAnyH_take (i := 57) (v := ?_) (by simp only [List.getElem?_toArray, List.getElem?_cons_zero, List.getElem?_cons_succ]; exact rfl) (by kernel_rfl) (by kernel_rfl) (by kernel_rfl) (by exact fun _ _ _ h => h) (Or.inl ⟨by rfl, ?_⟩) hHeld ?_
      rotate_left
      · intro w' hSw
        obtain ⟨_, _, _, _, _, _, _, _, _, _, _, _, _, _, _, _, _, _, s18, s19, s20, s21, s22, _, _, _, _, _, _⟩ := hSw
        go_simp
        try with_reducible rfl
      try simp only [Act.put, List.setIfInBounds_toArray, List.set_cons_zero, List.set_cons_succ]
      refine wpAnyH_take (i := 58) (v := ?_) (by simp only [List.getElem?_toArray, List.getElem?_cons_zero, List.getElem?_cons_succ]; exact rfl) (by kernel_rfl) (by kernel_rfl) (by kernel_rfl) (by exact fun _ _ _ h => h) (Or.inl ⟨by rfl, ?_⟩) hHeld ?_
      rotate_left
      · intro w' hSw
        obtain ⟨_, _, _, _, _, _, _, _, _, _, _, _, _, _, _, _, _, _, _, _, _, _, _, s23, s24, s25, s26, s27, _⟩ := hSw
        go_simp
        try with_reducible rfl
      try simp only [Act.put, List.setIfInBounds_toArray, List.set_cons_zero, List.set_cons_succ]
      refine wpAnyH_ready (rs := [56]) (by kernel_rfl) (by simp) ?_
      refine (AllReadyH.cons (by simp only [List.getElem?_toArray, List.getElem?_cons_zero, List.getElem?_cons_succ]; exact rfl) (fun K hK => ?_) AllReadyH.nil)
      refine want_yes (by rfl) ?_
      go_wp2_with fail
      refine (KG.out _ KP).mono ?_
      rintro e w1 ⟨rfl, hb⟩
      replace T := Lib.hid (T.out.trans (hb.mono T.out.size))
      replace KP := Lib.hid (KP.out.below hb)
      clear hb
      go_wp2_with fail
      refine hK.out _ _ (SS.out _ KP) (fun hHeld => ?_)
      clear hK K
      try simp only [Act.put, List.setIfInBounds_toArray, List.set_cons_zero, List.set_cons_succ]
      refine wpAnyH_ready (rs := [59]) (by kernel_rfl) (by simp) ?_
      refine (AllReadyH.cons (by simp only [List.getElem?_toArray, List.getElem?_cons_zero, List.getElem?_cons_succ]; exact rfl) (fun K hK => ?_) AllReadyH.nil)
      refine want_yes (by rfl) ?_
      go_wp2_with fail
      refine (KH.out _ KP).mono ?_
      rintro e w1 ⟨rfl, hb⟩
      replace T := Lib.hid (T.out.trans (hb.mono T.out.size))
      replace KP := Lib.hid (KP.out.below hb)
      clear hb
      go_wp2_with fail
      refine hK.out _ _ (SS.out _ KP) (fun hHeld => ?_)
      clear hK K
      try simp only [Act.put, List.setIfInBounds_toArray, List.set_cons_zero, List.set_cons_succ]
      refine wpAnyH_take (i := 60) (v := ?_) (by simp only [List.getElem?_toArray, List.getElem?_cons_zero, List.getElem?_cons_succ]; exact rfl) (by kernel_rfl) (by kernel_rfl) (by kernel_rfl) (by exact fun _ _ _ h => h) (Or.inl ⟨by rfl, ?_⟩) hHeld ?_
      rotate_left
      · intro w' hSw
        clear hSw
        go_simp
        try with_reducible rfl
      try simp only [Act.put, List.setIfInBounds_toArray, List.set_cons_zero, List.set_cons_succ]
      refine wpAnyH_take (i := 61) (v := ?_) (by simp only [List.getElem?_toArray, List.getElem?_cons_zero, List.getElem?_cons_succ]; exact rfl) (by kernel_rfl) (by kernel_rfl) (by kernel_rfl) (by exact fun _ _ _ h => h) (Or.inl ⟨by rfl, ?_⟩) hHeld ?_
      rotate_left
      · intro w' hSw
        clear hSw
        go_simp
        try with_reducible rfl
      try simp only [Act.put, List.setIfInBounds_toArray, List.set_cons_zero, List.set_cons_succ]
      refine wpAnyH_done (by kernel_rfl) ?_ _
      go_wp2_with fail
      go_meet
      exact ⟨rfl, T, KP⟩
  case rest =>
    as_aux_lemma =>
      obtain ⟨rfl, T, KP⟩ := hcut
      clear KA KB KC KD KE KF KG KH KI
      have x8 := (Gb8.out _ KP).cell 0
      go_upto_if 102 with (fail)
      clear x8
      go_cut [] (fun wx => Hid (Below w.heap.size w wx) ∧ Hid (Kp bl rl wx))
      case first =>
        as_aux_lemma =>
          by_cases hx : cx = 0
          · subst hx
            have hzx : zx = echoL er ei es z5 := by have := HZX.out; unfold echoP at this; rw [if_pos HCX.out] at this; exact this.symm
            have KR := Lib.hid (show ∀ W, Hid (Kp bl rl W) → Calls Try.prog 19 #[.slice a6 n6 c6] W (ReRes W ⟨0, er, ei, es, z5⟩) from fun W h => by have := implReadEcho a6 n6 c6 zx W (Ga6.out W h); rw [hzx, reAns_pack er ei es z5 HCX.out] at this; exact this)
            have y8 := (Gb8.out _ KP).cell 1
            clear hzx
            go_wp2_with fail
            clear y8
            refine (KR.out _ KP).mono ?_
            rintro e w1 ⟨a13, n13, c13, rfl, o13, hb⟩
            replace T := Lib.hid (T.out.trans (hb.mono T.out.size))
            replace KP := Lib.hid (KP.out.below hb)
            replace T := Lib.hid (T.out.alloc T.out.size (.cells #[.int .i64 0, .bool er, .int .i64 ei, .int .i64 es, .slice a13 n13 c13] 39))
            have X13 := Lib.hid (Box.new w1 39 #[.int .i64 0, .bool er, .int .i64 ei, .int .i64 es, .slice a13 n13 c13])
            have O13 := Lib.hid (o13.rd.alloc (.cells #[.int .i64 0, .bool er, .int .i64 ei, .int .i64 es, .slice a13 n13 c13] 39))
            replace KP : Hid (Kp bl rl _) := Lib.hid (KP.out.below (bAlloc w1 (.cells #[.int .i64 0, .bool er, .int .i64 ei, .int .i64 es, .slice a13 n13 c13] 39)))
            clear hb o13 KR
            generalize hW : w1.alloc (.cells #[.int .i64 0, .bool er, .int .i64 ei, .int .i64 es, .slice a13 n13 c13] 39) = W at *
            obtain ⟨_, q0, q1, q2, q3, q4⟩ := X13.out.five
            obtain ⟨_, r0, r1, r2, r3⟩ := (Gb7.out _ KP).four
            have KS := Lib.hid (lwSame_t a13 a5 n13 c13 n5 c5 z5 W O13.out (Ga5.out _ KP))
            go_wp2_with fail
            clear hW q0 q1 q2 q3 q4 r0 r1 r2 r3
            refine KS.out.mono ?_
            rintro e w2 ⟨rfl, rfl⟩
            go_wp2_with fail
            go_meet
            exact ⟨T, KP⟩
          · have e1 : (cx == 0) = false := by simpa using hx
            go_wp2_with fail
            go_meet
            exact ⟨T, KP⟩
      case rest =>
        as_aux_lemma =>
          obtain ⟨T, KP⟩ := hcut
          have x10 := (Gb10.out _ KP).cell 0
          have y10 := (Gb10.out _ KP).cell 4
          go_upto_region 18 with (fail)
          go_cut [154] (fun v wx => v = .bool false ∧ Hid (Below w.heap.size w wx) ∧ Hid (Kp bl rl wx))
          case first =>
            as_aux_lemma =>
              by_cases hy : yy.c = 0
              · have h9 := reAns_rest z7 (by rw [HYY.out]; exact hy)
                rw [HYY.out, H8.out] at h9
                have h10 := (Ga7.out _ KP).length
                have h11 : n8 = n7 - 8 ∧ 8 ≤ n7 := by omega
                have e1 : (yy.c == 0) = true := by simpa using hy
                have e2 : (((n8 : Int)) != (n7 : Int) - 8) = false := by simp; omega
                have e3 : IntKind.i64.wrap ((n7 : Int) - 8) = (n7 : Int) - 8 := IntWalk.i64_in _ (by omega)
                clear h9 h10 h11 hy
                go_wp2_with fail
                go_meet
                exact ⟨rfl, T, KP⟩
              · have e1 : (yy.c == 0) = false := by simpa using hy
                clear hy
                go_wp2_with fail
                go_meet
                exact ⟨rfl, T, KP⟩
          case rest =>
            as_aux_lemma =>
              obtain ⟨rfl, T, KP⟩ := hcut
              have x4 := (Gb4.out _ KP).cell 0
              by_cases hb0 : cb = 0
              · subst hb0
                clear x4
                have hpc := HCB.out
                have hzb : zb = packL kf kt kp kl z1 := by have := HZB.out; unfold packP at this; rw [if_pos hpc] at this; exact this.symm
                obtain ⟨bk1, bk2, bk3, bk4, bk5, _⟩ := pack_back kf kt kp kl z1 hpc
                have hn2 : n2 = 20 + n1 := by rw [← (Ga2.out _ KP).length, hzb, bk1, H1.out]
                have HS0 := Lib.hid (show sumV (zb.take 20) = 0 by rw [hzb]; exact bk5)
                have KR := Lib.hid (show ∀ W, Hid (Kp bl rl W) → Calls Try.prog 15 #[.slice a2 n2 c2] W (RpRes W ⟨0, kf, kt, kp, kl, z1⟩) from fun W h => by have := implReadPacket a2 n2 c2 zb W (Ga2.out W h); rw [hzb, rpAns_pack kf kt kp kl z1 hpc] at this; exact this)
                have KM := Lib.hid (show ∀ W (a' : Option Addr) (n' c' : Nat), Hid (Kp bl rl W) → Rd W a' n' c' z1 → Calls Try.prog 23 #[.agg #[.int .i64 kf, .int .i64 kt, .int .i64 kp, .int .i64 kl, .slice a' n' c'], .agg #[.int .i64 kf, .int .i64 kt, .int .i64 kp, .int .i64 kl, .slice a1 n1 c1]] W (fun e w' => e = .returned (.bool true) ∧ Below W.heap.size W w') from fun W a' n' c' h h' => by have := implSamePackets kf kt kp kl a' n' c' z1 kf kt kp kl a1 n1 c1 z1 W h' (Ga1.out W h); rw [sameP_self] at this; exact this)
                have e2 : ((n2 : Int) != 20 + (n1 : Int)) = false := by simp; omega
                have e3 : IntKind.i64.wrap (20 + (n1 : Int)) = 20 + (n1 : Int) := IntWalk.i64_in _ (by omega)
                have HN2 := Lib.hid hn2
                clear hpc hzb bk1 bk2 bk3 bk4 bk5 hn2
                have x4 := (Gb4.out _ KP).cell 0
                go_upto_region 22 with (fail)
                clear x4
                go_cut [181] (fun v wx => v = .bool false ∧ Hid (Below w.heap.size w wx) ∧ Hid (Kp bl rl wx))
                case first =>
                  as_aux_lemma =>
                    have SS := Lib.hid (show ∀ W, Hid (Kp bl rl W) → W.cell? ⟨b3, 0, none⟩ = some (.int .i64 kf) ∧ W.cell? ⟨b3, 1, none⟩ = some (.int .i64 kt) ∧ W.cell? ⟨b3, 2, none⟩ = some (.int .i64 kp) ∧ W.cell? ⟨b3, 3, none⟩ = some (.int .i64 kl) ∧ W.cell? ⟨b3, 4, none⟩ = some (.slice a1 n1 c1) ∧ W.cell? ⟨b4, 1, none⟩ = some (.slice a2 n2 c2) ∧ Hid (Kp bl rl W) from fun W h => ⟨(Gb3.out W h).cell 0, (Gb3.out W h).cell 1, (Gb3.out W h).cell 2, (Gb3.out W h).cell 3, (Gb3.out W h).cell 4, (Gb4.out W h).cell 1, h⟩)
                    replace T := Lib.hid T.out.drew
                    replace KP := Lib.hid KP.out.drew
                    refine wp_region_held_drew (S := fun W => W.cell? ⟨b3, 0, none⟩ = some (.int .i64 kf) ∧ W.cell? ⟨b3, 1, none⟩ = some (.int .i64 kt) ∧ W.cell? ⟨b3, 2, none⟩ = some (.int .i64 kp) ∧ W.cell? ⟨b3, 3, none⟩ = some (.int .i64 kl) ∧ W.cell? ⟨b3, 4, none⟩ = some (.slice a1 n1 c1) ∧ W.cell? ⟨b4, 1, none⟩ = some (.slice a2 n2 c2) ∧ Hid (Kp bl rl W)) (by kernel_rfl) (SS.out _ KP) (fun hHeld => ?_)
                    refine wpAnyH_take (i := 0) (v := ?_) (by simp only [List.getElem?_toArray, List.getElem?_cons_zero]; exact rfl) (by kernel_rfl) (by kernel_rfl) (by kernel_rfl) (by exact fun _ _ _ h => h) (Or.inl ⟨by rfl, ?_⟩) hHeld ?_
                    rotate_left
                    · intro w' hSw
                      clear hSw
                      go_simp
                      try with_reducible rfl
                    try simp only [Act.put, List.setIfInBounds_toArray, List.set_cons_zero, List.set_cons_succ]
                    refine wpAnyH_take (i := 1) (v := ?_) (by simp only [List.getElem?_toArray, List.getElem?_cons_zero, List.getElem?_cons_succ]; exact rfl) (by kernel_rfl) (by kernel_rfl) (by kernel_rfl) (by exact fun _ _ _ h => h) (Or.inl ⟨by rfl, ?_⟩) hHeld ?_
                    rotate_left
                    · intro w' hSw
                      obtain ⟨_, _, _, _, _, s5, _⟩ := hSw
                      go_simp
                      try with_reducible rfl
                    try simp only [Act.put, List.setIfInBounds_toArray, List.set_cons_zero, List.set_cons_succ]
                    refine wpAnyH_take (i := 2) (v := ?_) (by simp only [List.getElem?_toArray, List.getElem?_cons_zero, List.getElem?_cons_succ]; exact rfl) (by kernel_rfl) (by kernel_rfl) (by kernel_rfl) (by exact fun _ _ _ h => h) (Or.inl ⟨by rfl, ?_⟩) hHeld ?_
                    rotate_left
                    · intro w' hSw
                      clear hSw
                      go_simp
                      try with_reducible rfl
                    try simp only [Act.put, List.setIfInBounds_toArray, List.set_cons_zero, List.set_cons_succ]
                    refine wpAnyH_take (i := 3) (v := ?_) (by simp only [List.getElem?_toArray, List.getElem?_cons_zero, List.getElem?_cons_succ]; exact rfl) (by kernel_rfl) (by kernel_rfl) (by kernel_rfl) (by exact fun _ _ _ h => h) (Or.inl ⟨by rfl, ?_⟩) hHeld ?_
                    rotate_left
                    · intro w' hSw
                      clear hSw
                      go_simp
                      try with_reducible rfl
                    try simp only [Act.put, List.setIfInBounds_toArray, List.set_cons_zero, List.set_cons_succ]
                    refine wpAnyH_take (i := 4) (v := ?_) (by simp only [List.getElem?_toArray, List.getElem?_cons_zero, List.getElem?_cons_succ]; exact rfl) (by kernel_rfl) (by kernel_rfl) (by kernel_rfl) (by exact fun _ _ _ h => h) (Or.inl ⟨by rfl, ?_⟩) hHeld ?_
                    rotate_left
                    · intro w' hSw
                      obtain ⟨_, _, _, _, s4, _, _⟩ := hSw
                      go_simp
                      try with_reducible rfl
                    try simp only [Act.put, List.setIfInBounds_toArray, List.set_cons_zero, List.set_cons_succ]
                    refine wpAnyH_take (i := 5) (v := ?_) (by simp only [List.getElem?_toArray, List.getElem?_cons_zero, List.getElem?_cons_succ]; exact rfl) (by kernel_rfl) (by kernel_rfl) (by kernel_rfl) (by exact fun _ _ _ h => h) (Or.inl ⟨by rfl, ?_⟩) hHeld ?_
                    rotate_left
                    · intro w' hSw
                      clear hSw
                      go_simp
                      try with_reducible rfl
                    try simp only [Act.put, List.setIfInBounds_toArray, List.set_cons_zero, List.set_cons_succ]
                    refine wpAnyH_take (i := 6) (v := ?_) (by simp only [List.getElem?_toArray, List.getElem?_cons_zero, List.getElem?_cons_succ]; exact rfl) (by kernel_rfl) (by kernel_rfl) (by kernel_rfl) (by exact fun _ _ _ h => h) (Or.inl ⟨by rfl, ?_⟩) hHeld ?_
                    rotate_left
                    · intro w' hSw
                      clear hSw
                      go_simp
                      try with_reducible rfl
                    try simp only [Act.put, List.setIfInBounds_toArray, List.set_cons_zero, List.set_cons_succ]
                    refine wpAnyH_take (i := 7) (v := ?_) (by simp only [List.getElem?_toArray, List.getElem?_cons_zero, List.getElem?_cons_succ]; exact rfl) (by kernel_rfl) (by kernel_rfl) (by kernel_rfl) (by exact fun _ _ _ h => h) (Or.inl ⟨by rfl, ?_⟩) hHeld ?_
                    rotate_left
                    · intro w' hSw
                      clear hSw
                      go_simp
                      try with_reducible rfl
                    try simp only [Act.put, List.setIfInBounds_toArray, List.set_cons_zero, List.set_cons_succ]
                    refine wpAnyH_take (i := 8) (v := ?_) (by simp only [List.getElem?_toArray, List.getElem?_cons_zero, List.getElem?_cons_succ]; exact rfl) (by kernel_rfl) (by kernel_rfl) (by kernel_rfl) (by exact fun _ _ _ h => h) (Or.inl ⟨by rfl, ?_⟩) hHeld ?_
                    rotate_left
                    · intro w' hSw
                      clear hSw
                      go_simp
                      try with_reducible rfl
                    try simp only [Act.put, List.setIfInBounds_toArray, List.set_cons_zero, List.set_cons_succ]
                    refine wpAnyH_take (i := 9) (v := ?_) (by simp only [List.getElem?_toArray, List.getElem?_cons_zero, List.getElem?_cons_succ]; exact rfl) (by kernel_rfl) (by kernel_rfl) (by kernel_rfl) (by exact fun _ _ _ h => h) (Or.inl ⟨by rfl, ?_⟩) hHeld ?_
                    rotate_left
                    · intro w' hSw
                      clear hSw
                      go_simp
                      try with_reducible rfl
                    try simp only [Act.put, List.setIfInBounds_toArray, List.set_cons_zero, List.set_cons_succ]
                    refine wpAnyH_take (i := 10) (v := ?_) (by simp only [List.getElem?_toArray, List.getElem?_cons_zero, List.getElem?_cons_succ]; exact rfl) (by kernel_rfl) (by kernel_rfl) (by kernel_rfl) (by exact fun _ _ _ h => h) (Or.inl ⟨by rfl, ?_⟩) hHeld ?_
                    rotate_left
                    · intro w' hSw
                      obtain ⟨_, _, _, _, _, s5, _⟩ := hSw
                      go_simp
                      try with_reducible rfl
                    try simp only [Act.put, List.setIfInBounds_toArray, List.set_cons_zero, List.set_cons_succ]
                    refine wpAnyH_take (i := 13) (v := ?_) (by simp only [List.getElem?_toArray, List.getElem?_cons_zero, List.getElem?_cons_succ]; exact rfl) (by kernel_rfl) (by kernel_rfl) (by kernel_rfl) (by exact fun _ _ _ h => h) (Or.inl ⟨by rfl, ?_⟩) hHeld ?_
                    rotate_left
                    · intro w' hSw
                      obtain ⟨s0, s1, s2, s3, s4, _, _⟩ := hSw
                      go_simp
                      try with_reducible rfl
                    try simp only [Act.put, List.setIfInBounds_toArray, List.set_cons_zero, List.set_cons_succ]
                    refine wpAnyH_ready (rs := [11]) (by kernel_rfl) (by simp) ?_
                    refine (AllReadyH.cons (by simp only [List.getElem?_toArray, List.getElem?_cons_zero, List.getElem?_cons_succ]; exact rfl) (fun K hK => ?_) AllReadyH.nil)
                    refine want_yes (by rfl) ?_
                    go_wp2_with fail
                    refine (KR.out _ KP).mono ?_
                    rintro e w1 ⟨x1, y1, k1, rfl, o1, hb⟩
                    replace T := Lib.hid (T.out.trans (hb.mono T.out.size))
                    replace KP := Lib.hid (KP.out.below hb)
                    have O1 := Lib.hid o1.rd
                    clear o1
                    clear hb
                    go_wp2_with fail
                    refine hK.out _ _ (SS.out _ KP) (fun hHeld => ?_)
                    clear hK K
                    try simp only [Act.put, List.setIfInBounds_toArray, List.set_cons_zero, List.set_cons_succ]
                    refine wpAnyH_take (i := 12) (v := ?_) (by simp only [List.getElem?_toArray, List.getElem?_cons_zero, List.getElem?_cons_succ]; exact rfl) (by kernel_rfl) (by kernel_rfl) (by kernel_rfl) (by exact fun _ _ _ h => h) (Or.inl ⟨by rfl, ?_⟩) hHeld ?_
                    rotate_left
                    · intro w' hSw
                      clear hSw
                      go_simp
                      try with_reducible rfl
                    try simp only [Act.put, List.setIfInBounds_toArray, List.set_cons_zero, List.set_cons_succ]
                    refine wpAnyH_ready (rs := [14]) (by kernel_rfl) (by simp) ?_
                    refine (AllReadyH.cons (by simp only [List.getElem?_toArray, List.getElem?_cons_zero, List.getElem?_cons_succ]; exact rfl) (fun K hK => ?_) AllReadyH.nil)
                    refine want_yes (by rfl) ?_
                    go_wp2_with fail
                    refine (KM.out _ _ _ _ KP O1.out).mono ?_
                    rintro e w1 ⟨rfl, hb⟩
                    replace T := Lib.hid (T.out.trans (hb.mono T.out.size))
                    replace KP := Lib.hid (KP.out.below hb)
                    clear O1
                    clear hb
                    go_wp2_with fail
                    refine hK.out _ _ (SS.out _ KP) (fun hHeld => ?_)
                    clear hK K
                    try simp only [Act.put, List.setIfInBounds_toArray, List.set_cons_zero, List.set_cons_succ]
                    refine wpAnyH_take (i := 15) (v := ?_) (by simp only [List.getElem?_toArray, List.getElem?_cons_zero, List.getElem?_cons_succ]; exact rfl) (by kernel_rfl) (by kernel_rfl) (by kernel_rfl) (by exact fun _ _ _ h => h) (Or.inl ⟨by rfl, ?_⟩) hHeld ?_
                    rotate_left
                    · intro w' hSw
                      clear hSw
                      go_simp
                      try with_reducible rfl
                    try simp only [Act.put, List.setIfInBounds_toArray, List.set_cons_zero, List.set_cons_succ]
                    refine wpAnyH_take (i := 16) (v := ?_) (by simp only [List.getElem?_toArray, List.getElem?_cons_zero, List.getElem?_cons_succ]; exact rfl) (by kernel_rfl) (by kernel_rfl) (by kernel_rfl) (by exact fun _ _ _ h => h) (Or.inl ⟨by rfl, ?_⟩) hHeld ?_
                    rotate_left
                    · intro w' hSw
                      clear hSw
                      go_simp
                      try with_reducible rfl
                    try simp only [Act.put, List.setIfInBounds_toArray, List.set_cons_zero, List.set_cons_succ]
                    refine wpAnyH_take (i := 17) (v := ?_) (by simp only [List.getElem?_toArray, List.getElem?_cons_zero, List.getElem?_cons_succ]; exact rfl) (by kernel_rfl) (by kernel_rfl) (by kernel_rfl) (by exact fun _ _ _ h => h) (Or.inl ⟨by rfl, ?_⟩) hHeld ?_
                    rotate_left
                    · intro w' hSw
                      clear hSw
                      go_simp
                      try with_reducible rfl
                    try simp only [Act.put, List.setIfInBounds_toArray, List.set_cons_zero, List.set_cons_succ]
                    refine wpAnyH_take (i := 18) (v := ?_) (by simp only [List.getElem?_toArray, List.getElem?_cons_zero, List.getElem?_cons_succ]; exact rfl) (by kernel_rfl) (by kernel_rfl) (by kernel_rfl) (by exact fun _ _ _ h => h) (Or.inl ⟨by rfl, ?_⟩) hHeld ?_
                    rotate_left
                    · intro w' hSw
                      clear hSw
                      go_simp
                      try with_reducible rfl
                    try simp only [Act.put, List.setIfInBounds_toArray, List.set_cons_zero, List.set_cons_succ]
                    refine wpAnyH_take (i := 19) (v := ?_) (by simp only [List.getElem?_toArray, List.getElem?_cons_zero, List.getElem?_cons_succ]; exact rfl) (by kernel_rfl) (by kernel_rfl) (by kernel_rfl) (by exact fun _ _ _ h => h) (Or.inl ⟨by rfl, ?_⟩) hHeld ?_
                    rotate_left
                    · intro w' hSw
                      obtain ⟨_, _, _, _, _, s5, _⟩ := hSw
                      go_simp
                      try with_reducible rfl
                    try simp only [Act.put, List.setIfInBounds_toArray, List.set_cons_zero, List.set_cons_succ]
                    refine wpAnyH_ready (rs := [20]) (by kernel_rfl) (by simp) ?_
                    refine (AllReadyH.cons (by simp only [List.getElem?_toArray, List.getElem?_cons_zero, List.getElem?_cons_succ]; exact rfl) (fun K hK => ?_) AllReadyH.nil)
                    refine want_yes (by rfl) ?_
                    go_wp2_with fail
                    refine (KR.out _ KP).mono ?_
                    rintro e w1 ⟨x2, y2, k2, rfl, _, hb⟩
                    replace T := Lib.hid (T.out.trans (hb.mono T.out.size))
                    replace KP := Lib.hid (KP.out.below hb)
                    clear hb
                    go_wp2_with fail
                    refine hK.out _ _ (SS.out _ KP) (fun hHeld => ?_)
                    clear hK K
                    try simp only [Act.put, List.setIfInBounds_toArray, List.set_cons_zero, List.set_cons_succ]
                    refine wpAnyH_take (i := 21) (v := ?_) (by simp only [List.getElem?_toArray, List.getElem?_cons_zero, List.getElem?_cons_succ]; exact rfl) (by kernel_rfl) (by kernel_rfl) (by kernel_rfl) (by exact fun _ _ _ h => h) (Or.inl ⟨by rfl, ?_⟩) hHeld ?_
                    rotate_left
                    · intro w' hSw
                      clear hSw
                      go_simp
                      try with_reducible rfl
                    try simp only [Act.put, List.setIfInBounds_toArray, List.set_cons_zero, List.set_cons_succ]
                    refine wpAnyH_take (i := 22) (v := ?_) (by simp only [List.getElem?_toArray, List.getElem?_cons_zero, List.getElem?_cons_succ]; exact rfl) (by kernel_rfl) (by kernel_rfl) (by kernel_rfl) (by exact fun _ _ _ h => h) (Or.inl ⟨by rfl, ?_⟩) hHeld ?_
                    rotate_left
                    · intro w' hSw
                      clear hSw
                      go_simp
                      try with_reducible rfl
                    try simp only [Act.put, List.setIfInBounds_toArray, List.set_cons_zero, List.set_cons_succ]
                    refine wpAnyH_take (i := 23) (v := ?_) (by simp only [List.getElem?_toArray, List.getElem?_cons_zero, List.getElem?_cons_succ]; exact rfl) (by kernel_rfl) (by kernel_rfl) (by kernel_rfl) (by exact fun _ _ _ h => h) (Or.inl ⟨by rfl, ?_⟩) hHeld ?_
                    rotate_left
                    · intro w' hSw
                      clear hSw
                      go_simp
                      try with_reducible rfl
                    try simp only [Act.put, List.setIfInBounds_toArray, List.set_cons_zero, List.set_cons_succ]
                    refine wpAnyH_done (by kernel_rfl) ?_ _
                    go_wp2_with fail
                    go_meet
                    exact ⟨rfl, T, KP⟩
                case rest =>
                  as_aux_lemma =>
                    obtain ⟨rfl, T, KP⟩ := hcut
                    have zwc := Lib.hid T.out.size
                    clear KR KM e2 e3
                    have y4 : (wc.alloc (.cells #[] 5)).cell? ⟨b4, 1, none⟩ = some (.slice a2 n2 c2) := ((Gb4.out _ KP).alloc (.cells #[] 5)).cell 1
                    have o0 := own_lit wc wc.heap.size (Nat.le_refl _)
                    have r0 := (Ga2.out _ KP).alloc (.cells #[] 5)
                    have H8B := Lib.hid (Ga2.out _ KP).b8
                    have HZL := Lib.hid (Ga2.out _ KP).length
                    have hn2b : 20 ≤ n2 ∧ n2 ≤ 581 := by have := HN2.out; omega
                    go_wp2_with (at_builtin; refine append_bytes _ rfl (.tmp 182) (.tmp 184) rfl wc.heap.size _ _ _ [] rfl o0 a2 n2 c2 zb rfl r0 (by simp) (by omega) ?_; intro a14 c14 w9 o9 g9; simp only [List.nil_append, Nat.zero_add] at o9; have O9 := Lib.hid o9; have B9 := Lib.hid (((Below.refl wc.heap.size wc).alloc (Nat.le_refl _) (.cells #[] 5)).grown g9 (by simp) (fun k e => by simp [Value.ownBlock] at e; omega)); clear o9 g9)
                    clear y4 o0 r0
                    replace T := Lib.hid (T.out.trans (B9.out.mono T.out.size))
                    have RA := Lib.hid (Ga.out _ (Lib.hid (KP.out.below B9.out)))
                    rcases O9.out.shape with ⟨_, h0, _⟩ | ⟨g, rfl⟩
                    · omega
                    have gB := O9.out.lt _ rfl
                    dsimp only at gB
                    have KT := Lib.hid (fun W (hW : Rd W a len cap zs) => lwAt_any 2 20 a len cap zs W hW (by omega) (by omega) (by omega) hl)
                    have KU := Lib.hid (fun W (hW : Rd W a len cap zs) => lwAt_any 3 8 a len cap zs W hW (by omega) (by omega) (by omega) hl)
                    have T := Lib.hid T.out.drew
                    have RA := Lib.hid RA.out.drew
                    have O9 := Lib.hid O9.out.drew
                    clear B9 KP
                    refine wp_region_held_drew (S := fun _ => True) (by kernel_rfl) trivial (fun hHeld => ?_)
                    refine wpAnyH_take (i := 0) (v := ?_) (by simp only [List.getElem?_toArray, List.getElem?_cons_zero]; exact rfl) (by kernel_rfl) (by kernel_rfl) (by kernel_rfl) (by exact fun _ _ _ h => h) (Or.inl ⟨by rfl, ?_⟩) hHeld ?_
                    rotate_left
                    · intro w' hSw
                      clear hSw
                      go_simp
                      try with_reducible rfl
                    try simp only [Act.put, List.setIfInBounds_toArray, List.set_cons_zero, List.set_cons_succ]
                    refine wpAnyH_take (i := 1) (v := ?_) (by simp only [List.getElem?_toArray, List.getElem?_cons_zero, List.getElem?_cons_succ]; exact rfl) (by kernel_rfl) (by kernel_rfl) (by kernel_rfl) (by exact fun _ _ _ h => h) (Or.inl ⟨by rfl, ?_⟩) hHeld ?_
                    rotate_left
                    · intro w' hSw
                      clear hSw
                      go_simp
                      try with_reducible rfl
                    try simp only [Act.put, List.setIfInBounds_toArray, List.set_cons_zero, List.set_cons_succ]
                    refine wpAnyH_take (i := 5) (v := ?_) (by simp only [List.getElem?_toArray, List.getElem?_cons_zero, List.getElem?_cons_succ]; exact rfl) (by kernel_rfl) (by kernel_rfl) (by kernel_rfl) (by exact fun _ _ _ h => h) (Or.inl ⟨by rfl, ?_⟩) hHeld ?_
                    rotate_left
                    · intro w' hSw
                      clear hSw
                      go_simp
                      try with_reducible rfl
                    try simp only [Act.put, List.setIfInBounds_toArray, List.set_cons_zero, List.set_cons_succ]
                    refine wpAnyH_ready (rs := [2]) (by kernel_rfl) (by simp) ?_
                    refine (AllReadyH.cons (by simp only [List.getElem?_toArray, List.getElem?_cons_zero, List.getElem?_cons_succ]; exact rfl) (fun K hK => ?_) AllReadyH.nil)
                    refine want_none (by exact rfl) ?_
                    go_wp2_with fail
                    refine (KT.out _ RA.out).mono ?_
                    rintro e w10 ⟨i, rfl, hi, hb⟩
                    have hin : i < n2 := by omega
                    have hii : (i : Int) < n2 := by omega
                    replace T := Lib.hid (T.out.trans (hb.mono T.out.size))
                    replace RA := Lib.hid (RA.out.below hb)
                    replace O9 := Lib.hid (O9.out.below hb)
                    clear hb
                    go_wp2_with fail
                    refine hK.out _ _ trivial (fun hHeld => ?_)
                    clear hK K
                    try simp only [Act.put, List.setIfInBounds_toArray, List.set_cons_zero, List.set_cons_succ]
                    refine wpAnyH_take (i := 3) (v := ?_) (by simp only [List.getElem?_toArray, List.getElem?_cons_zero, List.getElem?_cons_succ]; exact rfl) (by kernel_rfl) (by kernel_rfl) (by kernel_rfl) (by exact fun _ _ _ h => h) (Or.inl ⟨by rfl, ?_⟩) hHeld ?_
                    rotate_left
                    · intro w' hSw
                      clear hSw
                      go_simp
                      try with_reducible rfl
                    try simp only [Act.put, List.setIfInBounds_toArray, List.set_cons_zero, List.set_cons_succ]
                    refine wpAnyH_ready (rs := [4, 6]) (by kernel_rfl) (by simp) ?_
                    refine (AllReadyH.cons (by simp only [List.getElem?_toArray, List.getElem?_cons_zero, List.getElem?_cons_succ]; exact rfl) (fun K hK => ?_) (AllReadyH.cons (by simp only [List.getElem?_toArray, List.getElem?_cons_zero, List.getElem?_cons_succ]; exact rfl) (fun K hK => ?_) AllReadyH.nil))
                    · skip
                      have ck := O9.out.cellAt i hin
                      refine want_none (by exact rfl) ?_
                      go_wp2_with fail
                      refine hK.out _ _ trivial (fun hHeld => ?_)
                      clear hK K ck
                      try simp only [Act.put, List.setIfInBounds_toArray, List.set_cons_zero, List.set_cons_succ]
                      refine wpAnyH_ready (rs := [6]) (by kernel_rfl) (by simp) ?_
                      refine (AllReadyH.cons (by simp only [List.getElem?_toArray, List.getElem?_cons_zero, List.getElem?_cons_succ]; exact rfl) (fun K hK => ?_) AllReadyH.nil)
                      refine want_none (by exact rfl) ?_
                      go_wp2_with fail
                      refine (KU.out _ RA.out).mono ?_
                      rintro e w11 ⟨k, rfl, hk, hb⟩
                      have hk8 : (k : Int) ≤ 8 := by omega
                      have hk0 : (0 : Int) ≤ k := by omega
                      have hku : IntKind.u64.wrap (k : Int) = k := by rw [IntKind.wrap_u64]; omega
                      have hp8 := Lib.hid (show IntKind.u8.wrap (2 ^ k : Int) = 2 ^ k from pow_u8 k hk)
                      replace T := Lib.hid (T.out.trans (hb.mono T.out.size))
                      replace O9 := Lib.hid (O9.out.below hb)
                      clear hb
                      go_wp2_with fail
                      refine hK.out _ _ trivial (fun hHeld => ?_)
                      clear hK K RA
                      try simp only [Act.put, List.setIfInBounds_toArray, List.set_cons_zero, List.set_cons_succ]
                      refine wpAnyH_take (i := 7) (v := ?_) (by simp only [List.getElem?_toArray, List.getElem?_cons_zero, List.getElem?_cons_succ]; exact rfl) (by kernel_rfl) (by kernel_rfl) (by kernel_rfl) (by exact fun _ _ _ h => h) (Or.inl ⟨by rfl, ?_⟩) hHeld ?_
                      rotate_left
                      · intro w' hSw
                        clear hSw
                        go_simp
                        try with_reducible rfl
                      try simp only [Act.put, List.setIfInBounds_toArray, List.set_cons_zero, List.set_cons_succ]
                      refine wpAnyH_take (i := 8) (v := ?_) (by simp only [List.getElem?_toArray, List.getElem?_cons_zero, List.getElem?_cons_succ]; exact rfl) (by kernel_rfl) (by kernel_rfl) (by kernel_rfl) (by exact fun _ _ _ h => h) (Or.inl ⟨by rfl, ?_⟩) hHeld ?_
                      rotate_left
                      · intro w' hSw
                        clear hSw
                        go_simp
                        try with_reducible rfl
                      try simp only [Act.put, List.setIfInBounds_toArray, List.set_cons_zero, List.set_cons_succ]
                      refine wpAnyH_take (i := 9) (v := ?_) (by simp only [List.getElem?_toArray, List.getElem?_cons_zero, List.getElem?_cons_succ]; exact rfl) (by kernel_rfl) (by kernel_rfl) (by kernel_rfl) (by exact fun _ _ _ h => h) (Or.inl ⟨by rfl, ?_⟩) hHeld ?_
                      rotate_left
                      · intro w' hSw
                        clear hSw
                        go_simp
                        try with_reducible rfl
                      try simp only [Act.put, List.setIfInBounds_toArray, List.set_cons_zero, List.set_cons_succ]
                      refine wpAnyH_take (i := 10) (v := ?_) (by simp only [List.getElem?_toArray, List.getElem?_cons_zero, List.getElem?_cons_succ]; exact rfl) (by kernel_rfl) (by kernel_rfl) (by kernel_rfl) (by exact fun _ _ _ h => h) (Or.inl ⟨by rfl, ?_⟩) hHeld ?_
                      rotate_left
                      · intro w' hSw
                        clear hSw
                        go_simp
                        try with_reducible rfl
                      try simp only [Act.put, List.setIfInBounds_toArray, List.set_cons_zero, List.set_cons_succ]
                      refine wpAnyH_ready (rs := [11]) (by kernel_rfl) (by simp) ?_
                      refine (AllReadyH.cons (by simp only [List.getElem?_toArray, List.getElem?_cons_zero, List.getElem?_cons_succ]; exact rfl) (fun K hK => ?_) AllReadyH.nil)
                      have ck := O9.out.cellAt i hin
                      have fk := O9.out.frozenAt i
                      refine want_none (by exact rfl) ?_
                      go_wp2_with fail
                      clear ck fk
                      have OS := O9.out.set i (bits .xor .u8 (zb[i]?.getD 0) (2 ^ k % 256)) (bits_within .xor .u8 _ _)
                      have HT : ¬ (rpAns (zb.set i (bits .xor .u8 (zb[i]?.getD 0) (2 ^ k % 256)))).c = 0 := by
                        rw [pow_mod k hk, ← List.getD_eq_getElem?_getD]
                        exact bit_told zb i k hi hk H8B.out (by rw [HZL.out]; omega) HS0.out
                      have e9 : ((rpAns (zb.set i (bits .xor .u8 (zb[i]?.getD 0) (2 ^ k % 256)))).c != 0) = true := by simpa using HT
                      have KV := Lib.hid (implReadPacket _ n2 c14 _ _ OS.1.rd)
                      replace T := Lib.hid (T.out.setCell (p := ⟨g, i, none⟩) (by show w.heap.size ≤ g; have := zwc.out; omega) (.int .u8 (bits .xor .u8 (zb[i]?.getD 0) (2 ^ k % 256))))
                      clear OS HT
                      generalize rpAns (zb.set i (bits .xor .u8 (zb[i]?.getD 0) (2 ^ k % 256))) = ra at *
                      refine hK.out _ _ trivial (fun hHeld => ?_)
                      clear hK K
                      try simp only [Act.put]
                      refine wpAnyH_done (by kernel_rfl) ?_ _
                      go_wp2_with fail
                      refine KV.out.mono ?_
                      rintro e w12 ⟨x12, y12, z12, rfl, _, hb⟩
                      replace T := Lib.hid (T.out.trans (hb.mono T.out.size))
                      clear hb KV
                      go_wp2
                      go_ret
                      exact ⟨rfl, T.out⟩
                    · skip
                      refine want_none (by exact rfl) ?_
                      go_wp2_with fail
                      refine (KU.out _ RA.out).mono ?_
                      rintro e w11 ⟨k, rfl, hk, hb⟩
                      have hk8 : (k : Int) ≤ 8 := by omega
                      have hk0 : (0 : Int) ≤ k := by omega
                      have hku : IntKind.u64.wrap (k : Int) = k := by rw [IntKind.wrap_u64]; omega
                      have hp8 := Lib.hid (show IntKind.u8.wrap (2 ^ k : Int) = 2 ^ k from pow_u8 k hk)
                      replace T := Lib.hid (T.out.trans (hb.mono T.out.size))
                      replace O9 := Lib.hid (O9.out.below hb)
                      clear hb
                      go_wp2_with fail
                      refine hK.out _ _ trivial (fun hHeld => ?_)
                      clear hK K RA
                      try simp only [Act.put, List.setIfInBounds_toArray, List.set_cons_zero, List.set_cons_succ]
                      refine wpAnyH_take (i := 7) (v := ?_) (by simp only [List.getElem?_toArray, List.getElem?_cons_zero, List.getElem?_cons_succ]; exact rfl) (by kernel_rfl) (by kernel_rfl) (by kernel_rfl) (by exact fun _ _ _ h => h) (Or.inl ⟨by rfl, ?_⟩) hHeld ?_
                      rotate_left
                      · intro w' hSw
                        clear hSw
                        go_simp
                        try with_reducible rfl
                      try simp only [Act.put, List.setIfInBounds_toArray, List.set_cons_zero, List.set_cons_succ]
                      refine wpAnyH_take (i := 8) (v := ?_) (by simp only [List.getElem?_toArray, List.getElem?_cons_zero, List.getElem?_cons_succ]; exact rfl) (by kernel_rfl) (by kernel_rfl) (by kernel_rfl) (by exact fun _ _ _ h => h) (Or.inl ⟨by rfl, ?_⟩) hHeld ?_
                      rotate_left
                      · intro w' hSw
                        clear hSw
                        go_simp
                        try with_reducible rfl
                      try simp only [Act.put, List.setIfInBounds_toArray, List.set_cons_zero, List.set_cons_succ]
                      refine wpAnyH_ready (rs := [4]) (by kernel_rfl) (by simp) ?_
                      refine (AllReadyH.cons (by simp only [List.getElem?_toArray, List.getElem?_cons_zero, List.getElem?_cons_succ]; exact rfl) (fun K hK => ?_) AllReadyH.nil)
                      have ck := O9.out.cellAt i hin
                      refine want_none (by exact rfl) ?_
                      go_wp2_with fail
                      refine hK.out _ _ trivial (fun hHeld => ?_)
                      clear hK K ck
                      try simp only [Act.put, List.setIfInBounds_toArray, List.set_cons_zero, List.set_cons_succ]
                      refine wpAnyH_take (i := 9) (v := ?_) (by simp only [List.getElem?_toArray, List.getElem?_cons_zero, List.getElem?_cons_succ]; exact rfl) (by kernel_rfl) (by kernel_rfl) (by kernel_rfl) (by exact fun _ _ _ h => h) (Or.inl ⟨by rfl, ?_⟩) hHeld ?_
                      rotate_left
                      · intro w' hSw
                        clear hSw
                        go_simp
                        try with_reducible rfl
                      try simp only [Act.put, List.setIfInBounds_toArray, List.set_cons_zero, List.set_cons_succ]
                      refine wpAnyH_take (i := 10) (v := ?_) (by simp only [List.getElem?_toArray, List.getElem?_cons_zero, List.getElem?_cons_succ]; exact rfl) (by kernel_rfl) (by kernel_rfl) (by kernel_rfl) (by exact fun _ _ _ h => h) (Or.inl ⟨by rfl, ?_⟩) hHeld ?_
                      rotate_left
                      · intro w' hSw
                        clear hSw
                        go_simp
                        try with_reducible rfl
                      try simp only [Act.put, List.setIfInBounds_toArray, List.set_cons_zero, List.set_cons_succ]
                      refine wpAnyH_ready (rs := [11]) (by kernel_rfl) (by simp) ?_
                      refine (AllReadyH.cons (by simp only [List.getElem?_toArray, List.getElem?_cons_zero, List.getElem?_cons_succ]; exact rfl) (fun K hK => ?_) AllReadyH.nil)
                      have ck := O9.out.cellAt i hin
                      have fk := O9.out.frozenAt i
                      refine want_none (by exact rfl) ?_
                      go_wp2_with fail
                      clear ck fk
                      have OS := O9.out.set i (bits .xor .u8 (zb[i]?.getD 0) (2 ^ k % 256)) (bits_within .xor .u8 _ _)
                      have HT : ¬ (rpAns (zb.set i (bits .xor .u8 (zb[i]?.getD 0) (2 ^ k % 256)))).c = 0 := by
                        rw [pow_mod k hk, ← List.getD_eq_getElem?_getD]
                        exact bit_told zb i k hi hk H8B.out (by rw [HZL.out]; omega) HS0.out
                      have e9 : ((rpAns (zb.set i (bits .xor .u8 (zb[i]?.getD 0) (2 ^ k % 256)))).c != 0) = true := by simpa using HT
                      have KV := Lib.hid (implReadPacket _ n2 c14 _ _ OS.1.rd)
                      replace T := Lib.hid (T.out.setCell (p := ⟨g, i, none⟩) (by show w.heap.size ≤ g; have := zwc.out; omega) (.int .u8 (bits .xor .u8 (zb[i]?.getD 0) (2 ^ k % 256))))
                      clear OS HT
                      generalize rpAns (zb.set i (bits .xor .u8 (zb[i]?.getD 0) (2 ^ k % 256))) = ra at *
                      refine hK.out _ _ trivial (fun hHeld => ?_)
                      clear hK K
                      try simp only [Act.put]
                      refine wpAnyH_done (by kernel_rfl) ?_ _
                      go_wp2_with fail
                      refine KV.out.mono ?_
                      rintro e w12 ⟨x12, y12, z12, rfl, _, hb⟩
                      replace T := Lib.hid (T.out.trans (hb.mono T.out.size))
                      clear hb KV
                      go_wp2
                      go_ret
                      exact ⟨rfl, T.out⟩
              · have e1 : (cb != 0) = true := by simpa using hb0
                clear hb0
                go_wp2
                go_ret
                exact ⟨rfl, T.out⟩
end Go.Proofs.Ytgjkbaplfbiomaa
