/-
  PackEcho of the program, and its law.
-/
import Derived.Test.YtgjkbaplfbiomaaP3Head
import Derived.Test.YtgjkbaplfbiomaaP3Flt
import Derived.Test.YtgjkbaplfbiomaaPkE
import Derived.Test.YtgjkbaplfbiomaaSealS
namespace Go.Proofs.Ytgjkbaplfbiomaa
open Go.ChangeShapes Go.WideShapes Go.ChangeAt Go.RowKit

set_option maxRecDepth 20000 in
set_option maxHeartbeats 4000000 in
theorem implPackEcho_false (ei es : Int) (a : Option Addr) (len cap : Nat) (zs : List Int) (w : World) (hr : Rd w a len cap zs) (hk : echoC ei es len = 0) :
    Calls Try.prog 17 #[.agg #[.bool false, .int .i64 ei, .int .i64 es, .slice a len cap]] w (Packed w 0 (echoL false ei es zs)) := by
  obtain ⟨h0, h1, h2⟩ := echoC_parts hk
  have S := Lib.hid (fun W => implEchoFault false ei es a len cap W)
  rw [hk] at S
  have K1 := Lib.hid (show ∀ W, Calls Try.prog 69 #[.int .i64 ei, .int .i64 2] W (Packed W 0 (be ei 2)) from fun W => implPack_ok ei 2 W h0.1 (by omega) (by simp only [Int.reducePow]; omega))
  have K2 := Lib.hid (show ∀ W, Calls Try.prog 69 #[.int .i64 es, .int .i64 2] W (Packed W 0 (be es 2)) from fun W => implPack_ok es 2 W h1.1 (by omega) (by simp only [Int.reducePow]; omega))
  obtain ⟨L, hL⟩ : ∃ L, L = [8, 0, 0, 0] ++ be ei 2 ++ be es 2 ++ zs := ⟨_, rfl⟩
  have HL := Lib.hid hL
  have hlen : L.length = 8 + len := by rw [hL]; simp [be_len, hr.length]; omega
  have hE : echoL false ei es zs = sealB L 2 := by rw [hL, echoL]; rfl
  rw [hE]
  have KS := Lib.hid (fun (s : Option Addr) (l c : Nat) (W : World) (hR : Rd W s l c L) => show Calls Try.prog 54 #[.slice s l c, .int .i64 2] W (Packed W 0 (sealB L 2)) from implSeal_ok s l c 2 _ W hR (by have := hR.length; omega) (by have := hR.length; omega) (by omega))
  have HR := Lib.hid hr
  have B0 := Lib.hid (((Below.refl w.heap.size w).alloc (Nat.le_refl _) (.cells #[.bool false, .int .i64 ei, .int .i64 es, .slice a len cap] 35)).alloc (by simp) (.cells #[.int .i64 0, .slice none 0 0] 28))
  have X0 := Lib.hid ((Box.new w 35 #[.bool false, .int .i64 ei, .int .i64 es, .slice a len cap]).alloc (.cells #[.int .i64 0, .slice none 0 0] 28))
  have R0 := Lib.hid (Box.new (w.alloc (.cells #[.bool false, .int .i64 ei, .int .i64 es, .slice a len cap] 35)) 28 #[.int .i64 0, .slice none 0 0])
  simp only [World.size_alloc] at R0
  have hfb := fld_br
  clear hL hE h0 h1 hr hk hlen
  generalize sealB L 2 = LS at *
  go_enter Try.func17, Try.ntmps17
  go_wp2_with fail
  refine (S.out _).mono ?_
  rintro e W0 ⟨rfl, b1⟩
  have X1 := Lib.hid (X0.out.below b1 X0.out.lt)
  have R1 := Lib.hid (R0.out.below b1 R0.out.lt)
  have B1 := Lib.hid (B0.out.trans (b1.mono B0.out.size))
  clear b1 X0 R0 B0 S
  obtain ⟨_, x0, x1, x2, x3⟩ := X1.out.four
  go_wp2_with fail
  clear x0 x1 x2 x3
  have SS := Lib.hid (show ∀ W, Hid (Below W0.heap.size W0 W) → W.cell? ⟨w.heap.size, 1, none⟩ = some (.int .i64 ei) ∧ W.cell? ⟨w.heap.size, 2, none⟩ = some (.int .i64 es) ∧ W.cell? ⟨w.heap.size, 3, none⟩ = some (.slice a len cap) ∧ Hid (Below W0.heap.size W0 W) from fun W h => by
    obtain ⟨_, _, x1, x2, x3⟩ := (X1.out.below h.out X1.out.lt).four
    exact ⟨x1, x2, x3, h⟩)
  have T1 := Lib.hid (Below.refl W0.heap.size W0)
  have HR := Lib.hid (HR.out.below B1.out)
  obtain ⟨n0, hnn⟩ : ∃ n0, n0 = w.heap.size := ⟨_, rfl⟩
  have hn0 : n0 ≤ W0.heap.size := by rw [hnn]; exact B1.out.size
  have hnn := Lib.hid hnn
  have TD := kDrew T1
  refine wp_region_held_drew (S := fun W => W.cell? ⟨w.heap.size, 1, none⟩ = some (.int .i64 ei) ∧ W.cell? ⟨w.heap.size, 2, none⟩ = some (.int .i64 es) ∧ W.cell? ⟨w.heap.size, 3, none⟩ = some (.slice a len cap) ∧ Hid (Below W0.heap.size W0 W)) (by kernel_rfl) (SS.out _ TD) (fun hHeld => ?_)
  refine wpAnyH_take (i := 0) (v := ?_) (by simp only [List.getElem?_toArray, List.getElem?_cons_zero]; exact rfl) (by kernel_rfl) (by kernel_rfl) (by kernel_rfl) (by exact fun _ _ _ h => h) (Or.inl ⟨by rfl, ?_⟩) hHeld ?_
  rotate_left
  · intro w' hSw
    obtain ⟨s0, s1, s2, _⟩ := hSw
    go_simp
    try with_reducible rfl
  try simp only [Act.put, List.setIfInBounds_toArray, List.set_cons_zero, List.set_cons_succ]
  refine wpAnyH_take (i := 2) (v := ?_) (by simp only [List.getElem?_toArray, List.getElem?_cons_zero, List.getElem?_cons_succ]; exact rfl) (by kernel_rfl) (by kernel_rfl) (by kernel_rfl) (by exact fun _ _ _ h => h) (Or.inl ⟨by rfl, ?_⟩) hHeld ?_
  rotate_left
  · intro w' hSw
    obtain ⟨s0, s1, s2, _⟩ := hSw
    go_simp
    try with_reducible rfl
  try simp only [Act.put, List.setIfInBounds_toArray, List.set_cons_zero, List.set_cons_succ]
  refine wpAnyH_take (i := 3) (v := ?_) (by simp only [List.getElem?_toArray, List.getElem?_cons_zero, List.getElem?_cons_succ]; exact rfl) (by kernel_rfl) (by kernel_rfl) (by kernel_rfl) (by exact fun _ _ _ h => h) (Or.inl ⟨by rfl, ?_⟩) hHeld ?_
  rotate_left
  · intro w' hSw
    obtain ⟨s0, s1, s2, _⟩ := hSw
    go_simp
    try with_reducible rfl
  try simp only [Act.put, List.setIfInBounds_toArray, List.set_cons_zero, List.set_cons_succ]
  refine wpAnyH_take (i := 6) (v := ?_) (by simp only [List.getElem?_toArray, List.getElem?_cons_zero, List.getElem?_cons_succ]; exact rfl) (by kernel_rfl) (by kernel_rfl) (by kernel_rfl) (by exact fun _ _ _ h => h) (Or.inl ⟨by rfl, ?_⟩) hHeld ?_
  rotate_left
  · intro w' hSw
    obtain ⟨s0, s1, s2, _⟩ := hSw
    go_simp
    try with_reducible rfl
  try simp only [Act.put, List.setIfInBounds_toArray, List.set_cons_zero, List.set_cons_succ]
  refine wpAnyH_take (i := 7) (v := ?_) (by simp only [List.getElem?_toArray, List.getElem?_cons_zero, List.getElem?_cons_succ]; exact rfl) (by kernel_rfl) (by kernel_rfl) (by kernel_rfl) (by exact fun _ _ _ h => h) (Or.inl ⟨by rfl, ?_⟩) hHeld ?_
  rotate_left
  · intro w' hSw
    obtain ⟨s0, s1, s2, _⟩ := hSw
    go_simp
    try with_reducible rfl
  try simp only [Act.put, List.setIfInBounds_toArray, List.set_cons_zero, List.set_cons_succ]
  refine wpAnyH_take (i := 10) (v := ?_) (by simp only [List.getElem?_toArray, List.getElem?_cons_zero, List.getElem?_cons_succ]; exact rfl) (by kernel_rfl) (by kernel_rfl) (by kernel_rfl) (by exact fun _ _ _ h => h) (Or.inl ⟨by rfl, ?_⟩) hHeld ?_
  rotate_left
  · intro w' hSw
    obtain ⟨s0, s1, s2, _⟩ := hSw
    go_simp
    try with_reducible rfl
  try simp only [Act.put, List.setIfInBounds_toArray, List.set_cons_zero, List.set_cons_succ]
  refine wpAnyH_take (i := 11) (v := ?_) (by simp only [List.getElem?_toArray, List.getElem?_cons_zero, List.getElem?_cons_succ]; exact rfl) (by kernel_rfl) (by kernel_rfl) (by kernel_rfl) (by exact fun _ _ _ h => h) (Or.inl ⟨by rfl, ?_⟩) hHeld ?_
  rotate_left
  · intro w' hSw
    obtain ⟨s0, s1, s2, _⟩ := hSw
    go_simp
    try with_reducible rfl
  try simp only [Act.put, List.setIfInBounds_toArray, List.set_cons_zero, List.set_cons_succ]
  refine flow_go (Inv := fun listed ac W => ∃ v5 v15 v18 v19 v22 v23 v26 v27 : Value, ac = { tmps := #[.agg #[.bool false, .int .i64 ei, .int .i64 es, .slice a len cap], .pointer (some ⟨w.heap.size, 0, none⟩), .pointer (some ⟨w.heap.size + 1, 0, none⟩), .int .i64 0, .int .u8 8, v5, .agg #[.bool false, .int .i64 ei, .int .i64 es, .slice a len cap], .int .i64 0, .int .i64 0, .bool false, undef, undef, .pointer (some ⟨w.heap.size, 0, none⟩), .bool false, .int .u8 8, v15, .pointer (some ⟨w.heap.size, 1, none⟩), .int .i64 ei, v18, v19, .pointer (some ⟨w.heap.size, 2, none⟩), .int .i64 es, v22, v23, .pointer (some ⟨w.heap.size, 3, none⟩), .slice a len cap, v26, v27, undef, undef], defers := [] } ∧ Hid (Below W0.heap.size W0 W) ∧ Fl listed 1 (SlV W n0 v15 4 [8, 0, 0, 0]) ∧ Fl listed 4 (BrV W n0 v18 2 (be ei 2)) ∧ Fl listed 5 (SlV W n0 v19 2 (be ei 2)) ∧ Fl listed 8 (BrV W n0 v22 2 (be es 2)) ∧ Fl listed 9 (SlV W n0 v23 2 (be es 2)) ∧ Fl listed 12 (CatV W v26 4 L) ∧ Fl listed 13 (AnyV W n0 v27 L) ∧ Fl listed 14 (AnyV W n0 v5 L)) [1, 4, 5, 8, 9, 12, 13, 14] (by kernel_rfl) (by kernel_rfl) ⟨_, _, _, _, _, _, _, _, rfl, TD, Fl.not (by kernel_rfl), Fl.not (by kernel_rfl), Fl.not (by kernel_rfl), Fl.not (by kernel_rfl), Fl.not (by kernel_rfl), Fl.not (by kernel_rfl), Fl.not (by kernel_rfl), Fl.not (by kernel_rfl)⟩
    (FlowAll.cons [] (by simp only [List.getElem?_toArray, List.getElem?_cons_zero, List.getElem?_cons_succ]; exact rfl) (by kernel_rfl) (fun listed ac W hI hd K hK => ?_)
      (FlowAll.cons [] (by simp only [List.getElem?_toArray, List.getElem?_cons_zero, List.getElem?_cons_succ]; exact rfl) (by kernel_rfl) (fun listed ac W hI hd K hK => ?_)
      (FlowAll.cons [4] (by simp only [List.getElem?_toArray, List.getElem?_cons_zero, List.getElem?_cons_succ]; exact rfl) (by kernel_rfl) (fun listed ac W hI hd K hK => ?_)
      (FlowAll.cons [] (by simp only [List.getElem?_toArray, List.getElem?_cons_zero, List.getElem?_cons_succ]; exact rfl) (by kernel_rfl) (fun listed ac W hI hd K hK => ?_)
      (FlowAll.cons [8] (by simp only [List.getElem?_toArray, List.getElem?_cons_zero, List.getElem?_cons_succ]; exact rfl) (by kernel_rfl) (fun listed ac W hI hd K hK => ?_)
      (FlowAll.cons [1, 5, 9] (by simp only [List.getElem?_toArray, List.getElem?_cons_zero, List.getElem?_cons_succ]; exact rfl) (by kernel_rfl) (fun listed ac W hI hd K hK => ?_)
      (FlowAll.cons [12] (by simp only [List.getElem?_toArray, List.getElem?_cons_zero, List.getElem?_cons_succ]; exact rfl) (by kernel_rfl) (fun listed ac W hI hd K hK => ?_)
      (FlowAll.cons [13] (by simp only [List.getElem?_toArray, List.getElem?_cons_zero, List.getElem?_cons_succ]; exact rfl) (by kernel_rfl) (fun listed ac W hI hd K hK => ?_)
      FlowAll.nil))))))))
    (fun listed ac W hI hall => ?_)
  · obtain ⟨v5, v15, v18, v19, v22, v23, v26, v27, rfl, TB, f1, f4, f5, f8, f9, f12, f13, f14⟩ := hI
    refine want_none (by exact rfl) ?_
    go_wp2_with fail
    have hb : Below W.heap.size W _ := bAlloc W (.cells #[.int .u8 8, .int .u8 0, .int .u8 0, .int .u8 0] 5)
    have TB' := kCall hb (kSize TB) TB
    refine hK.out _ _ (SS.out _ TB') ?_
    exact ⟨_, _, _, _, _, _, _, _, rfl, TB', Fl.new (SlV.lit (Nat.le_trans hn0 (kSize TB)) 4 rfl (by intro n hn; simp at hn; omega) (by unfold maxLen; omega) _ rfl), f4.keep (by decide) (BrV.below hb), f5.keep (by decide) (SlV.below hb), f8.keep (by decide) (BrV.below hb), f9.keep (by decide) (SlV.below hb), f12.keep (by decide) (CatV.below hb), f13.keep (by decide) (AnyV.below hb), f14.keep (by decide) (AnyV.below hb)⟩
  · obtain ⟨v5, v15, v18, v19, v22, v23, v26, v27, rfl, TB, f1, f4, f5, f8, f9, f12, f13, f14⟩ := hI
    refine want_none (by exact rfl) ?_
    go_wp2_with fail
    refine (K1.out _).mono ?_
    intro e w' hp
    obtain ⟨v, rfl, hv, hb0⟩ := BrV.of_packed hp (be_len 2 _) (Nat.le_trans hn0 (kSize TB))
    go_wp2_with fail
    have hb : Below W.heap.size W _ := hb0
    have TB' := kCall hb (kSize TB) TB
    refine hK.out _ _ (SS.out _ TB') ?_
    exact ⟨_, _, _, _, _, _, _, _, rfl, TB', f1.keep (by decide) (SlV.below hb), Fl.new (hv), f5.keep (by decide) (SlV.below hb), f8.keep (by decide) (BrV.below hb), f9.keep (by decide) (SlV.below hb), f12.keep (by decide) (CatV.below hb), f13.keep (by decide) (AnyV.below hb), f14.keep (by decide) (AnyV.below hb)⟩
  · obtain ⟨v5, v15, v18, v19, v22, v23, v26, v27, rfl, TB, f1, f4, f5, f8, f9, f12, f13, f14⟩ := hI
    obtain ⟨a18, c18, rfl, o18⟩ := f4.get (hd 4 (by simp))
    refine want_none (by exact rfl) ?_
    go_wp2_with fail
    refine hK.out _ _ (SS.out _ TB) ?_
    exact ⟨_, _, _, _, _, _, _, _, rfl, TB, f1.keep (by decide) id, f4.keep (by decide) id, Fl.new (⟨_, _, rfl, o18⟩), f8.keep (by decide) id, f9.keep (by decide) id, f12.keep (by decide) id, f13.keep (by decide) id, f14.keep (by decide) id⟩
  · obtain ⟨v5, v15, v18, v19, v22, v23, v26, v27, rfl, TB, f1, f4, f5, f8, f9, f12, f13, f14⟩ := hI
    refine want_none (by exact rfl) ?_
    go_wp2_with fail
    refine (K2.out _).mono ?_
    intro e w' hp
    obtain ⟨v, rfl, hv, hb0⟩ := BrV.of_packed hp (be_len 2 _) (Nat.le_trans hn0 (kSize TB))
    go_wp2_with fail
    have hb : Below W.heap.size W _ := hb0
    have TB' := kCall hb (kSize TB) TB
    refine hK.out _ _ (SS.out _ TB') ?_
    exact ⟨_, _, _, _, _, _, _, _, rfl, TB', f1.keep (by decide) (SlV.below hb), f4.keep (by decide) (BrV.below hb), f5.keep (by decide) (SlV.below hb), Fl.new (hv), f9.keep (by decide) (SlV.below hb), f12.keep (by decide) (CatV.below hb), f13.keep (by decide) (AnyV.below hb), f14.keep (by decide) (AnyV.below hb)⟩
  · obtain ⟨v5, v15, v18, v19, v22, v23, v26, v27, rfl, TB, f1, f4, f5, f8, f9, f12, f13, f14⟩ := hI
    obtain ⟨a22, c22, rfl, o22⟩ := f8.get (hd 8 (by simp))
    refine want_none (by exact rfl) ?_
    go_wp2_with fail
    refine hK.out _ _ (SS.out _ TB) ?_
    exact ⟨_, _, _, _, _, _, _, _, rfl, TB, f1.keep (by decide) id, f4.keep (by decide) id, f5.keep (by decide) id, f8.keep (by decide) id, Fl.new (⟨_, _, rfl, o22⟩), f12.keep (by decide) id, f13.keep (by decide) id, f14.keep (by decide) id⟩
  · obtain ⟨v5, v15, v18, v19, v22, v23, v26, v27, rfl, TB, f1, f4, f5, f8, f9, f12, f13, f14⟩ := hI
    obtain ⟨a15, c15, rfl, o15⟩ := f1.get (hd 1 (by simp))
    obtain ⟨a19, c19, rfl, o19⟩ := f5.get (hd 5 (by simp))
    obtain ⟨a23, c23, rfl, o23⟩ := f9.get (hd 9 (by simp))
    refine want_none (by exact rfl) ?_
    go_wp2_with fail
    have hb : Below W.heap.size W _ := bAlloc W (.cells #[.slice a15 4 c15, .slice a19 2 c19, .slice a23 2 c23, .slice a len cap] 22)
    have TB' := kCall hb (kSize TB) TB
    refine hK.out _ _ (SS.out _ TB') ?_
    exact ⟨_, _, _, _, _, _, _, _, rfl, TB', f1.keep (by decide) (SlV.below hb), f4.keep (by decide) (BrV.below hb), f5.keep (by decide) (SlV.below hb), f8.keep (by decide) (BrV.below hb), f9.keep (by decide) (SlV.below hb), Fl.new (⟨_, [⟨a15, 4, c15, [8, 0, 0, 0]⟩, ⟨a19, 2, c19, be ei 2⟩, ⟨a23, 2, c23, be es 2⟩, ⟨a, len, cap, zs⟩], rfl, rfl, sls_box (Box.new _ _ _) (by intro s hs; simp only [List.mem_cons, List.not_mem_nil, or_false] at hs; rcases hs with rfl | rfl | rfl | rfl; exact o15.rd.below hb; exact o19.rd.below hb; exact o23.rd.below hb; exact (HR.out.below TB.out).below hb), by rw [HL.out]; simp [catZ], by simp only [sumN]; omega⟩), f13.keep (by decide) (AnyV.below hb), f14.keep (by decide) (AnyV.below hb)⟩
  · obtain ⟨v5, v15, v18, v19, v22, v23, v26, v27, rfl, TB, f1, f4, f5, f8, f9, f12, f13, f14⟩ := hI
    obtain ⟨g, ss, rfl, hs, hS, hZ, hT⟩ := f12.get (hd 12 (by simp))
    refine want_none (by exact rfl) ?_
    go_wp2_with fail
    refine (catV_call hs hS hZ hT).mono ?_
    rintro e w' ⟨a', l', c', rfl, o', hb0⟩
    go_wp2_with fail
    have hb : Below W.heap.size W _ := hb0
    have TB' := kCall hb (kSize TB) TB
    refine hK.out _ _ (SS.out _ TB') ?_
    exact ⟨_, _, _, _, _, _, _, _, rfl, TB', f1.keep (by decide) (SlV.below hb), f4.keep (by decide) (BrV.below hb), f5.keep (by decide) (SlV.below hb), f8.keep (by decide) (BrV.below hb), f9.keep (by decide) (SlV.below hb), f12.keep (by decide) (CatV.below hb), Fl.new (⟨_, _, _, rfl, o'.rebase (Nat.le_trans hn0 (kSize TB))⟩), f14.keep (by decide) (AnyV.below hb)⟩
  · obtain ⟨v5, v15, v18, v19, v22, v23, v26, v27, rfl, TB, f1, f4, f5, f8, f9, f12, f13, f14⟩ := hI
    obtain ⟨a27, l27, c27, rfl, o27⟩ := f13.get (hd 13 (by simp))
    refine want_none (by exact rfl) ?_
    go_wp2_with fail
    refine hK.out _ _ (SS.out _ TB) ?_
    exact ⟨_, _, _, _, _, _, _, _, rfl, TB, f1.keep (by decide) id, f4.keep (by decide) id, f5.keep (by decide) id, f8.keep (by decide) id, f9.keep (by decide) id, f12.keep (by decide) id, f13.keep (by decide) id, Fl.new (⟨_, _, _, rfl, o27⟩)⟩
  · obtain ⟨v5, v15, v18, v19, v22, v23, v26, v27, rfl, TB, f1, f4, f5, f8, f9, f12, f13, f14⟩ := hI
    obtain ⟨a5, l5, c5, rfl, o5⟩ := f14.get (hall 14 (by decide))
    have O5 := Lib.hid o5
    have T5 := TB
    clear o5 f1 f4 f5 f8 f9 f12 f13 f14 TB hall SS
    go_wp2_with fail
    refine (KS.out _ _ _ _ O5.out.rd).mono ?_
    rintro e w6 ⟨a6, l6, c6, rfl, o6, b6⟩
    have R6 := ((R1.out.below T5.out R1.out.lt).below b6 (R1.out.below T5.out R1.out.lt).lt)
    obtain ⟨r0, r1, r2⟩ := R6.two
    have q0 := R6.frozen 0
    have q1 := R6.frozen 1
    have B5 := B1.out.trans (T5.out.mono B1.out.size)
    have hs5 := B5.size
    have hr5 := (R1.out.below T5.out R1.out.lt).lt
    have B6 := Lib.hid (B5.trans (b6.mono hs5))
    have hn : Hid (∀ x, a6 = some x → ¬ x.block = w.heap.size + 1) := fun x hx e => by
      have := (o6.lt x hx).1
      omega
    have O6 := Lib.hid (o6.rebase hs5)
    clear o6 b6 O5 B5 R6 hs5 hr5 T5
    go_wp2
    refine bodyPost_ret (v := .agg #[.int .i64 0, .slice a6 l6 c6]) (by simp [results, Try.results17, go_sem, r1, r2]) rfl ⟨_, _, _, rfl, ?_, (B6.out.setCell (by simp) _).setCell (by simp) _⟩
    exact (O6.out.setOther _ _ hn.out).setOther _ _ hn.out

set_option maxRecDepth 20000 in
set_option maxHeartbeats 4000000 in
theorem implPackEcho_true (ei es : Int) (a : Option Addr) (len cap : Nat) (zs : List Int) (w : World) (hr : Rd w a len cap zs) (hk : echoC ei es len = 0) :
    Calls Try.prog 17 #[.agg #[.bool true, .int .i64 ei, .int .i64 es, .slice a len cap]] w (Packed w 0 (echoL true ei es zs)) := by
  obtain ⟨h0, h1, h2⟩ := echoC_parts hk
  have S := Lib.hid (fun W => implEchoFault true ei es a len cap W)
  rw [hk] at S
  have K1 := Lib.hid (show ∀ W, Calls Try.prog 69 #[.int .i64 ei, .int .i64 2] W (Packed W 0 (be ei 2)) from fun W => implPack_ok ei 2 W h0.1 (by omega) (by simp only [Int.reducePow]; omega))
  have K2 := Lib.hid (show ∀ W, Calls Try.prog 69 #[.int .i64 es, .int .i64 2] W (Packed W 0 (be es 2)) from fun W => implPack_ok es 2 W h1.1 (by omega) (by simp only [Int.reducePow]; omega))
  obtain ⟨L, hL⟩ : ∃ L, L = [0, 0, 0, 0] ++ be ei 2 ++ be es 2 ++ zs := ⟨_, rfl⟩
  have HL := Lib.hid hL
  have hlen : L.length = 8 + len := by rw [hL]; simp [be_len, hr.length]; omega
  have hE : echoL true ei es zs = sealB L 2 := by rw [hL, echoL]; rfl
  rw [hE]
  have KS := Lib.hid (fun (s : Option Addr) (l c : Nat) (W : World) (hR : Rd W s l c L) => show Calls Try.prog 54 #[.slice s l c, .int .i64 2] W (Packed W 0 (sealB L 2)) from implSeal_ok s l c 2 _ W hR (by have := hR.length; omega) (by have := hR.length; omega) (by omega))
  have HR := Lib.hid hr
  have B0 := Lib.hid (((Below.refl w.heap.size w).alloc (Nat.le_refl _) (.cells #[.bool true, .int .i64 ei, .int .i64 es, .slice a len cap] 35)).alloc (by simp) (.cells #[.int .i64 0, .slice none 0 0] 28))
  have X0 := Lib.hid ((Box.new w 35 #[.bool true, .int .i64 ei, .int .i64 es, .slice a len cap]).alloc (.cells #[.int .i64 0, .slice none 0 0] 28))
  have R0 := Lib.hid (Box.new (w.alloc (.cells #[.bool true, .int .i64 ei, .int .i64 es, .slice a len cap] 35)) 28 #[.int .i64 0, .slice none 0 0])
  simp only [World.size_alloc] at R0
  have hfb := fld_br
  clear hL hE h0 h1 hr hk hlen
  generalize sealB L 2 = LS at *
  go_enter Try.func17, Try.ntmps17
  go_wp2_with fail
  refine (S.out _).mono ?_
  rintro e W0 ⟨rfl, b1⟩
  have X1 := Lib.hid (X0.out.below b1 X0.out.lt)
  have R1 := Lib.hid (R0.out.below b1 R0.out.lt)
  have B1 := Lib.hid (B0.out.trans (b1.mono B0.out.size))
  clear b1 X0 R0 B0 S
  obtain ⟨_, x0, x1, x2, x3⟩ := X1.out.four
  go_wp2_with fail
  clear x0 x1 x2 x3
  have SS := Lib.hid (show ∀ W, Hid (Below W0.heap.size W0 W) → W.cell? ⟨w.heap.size, 1, none⟩ = some (.int .i64 ei) ∧ W.cell? ⟨w.heap.size, 2, none⟩ = some (.int .i64 es) ∧ W.cell? ⟨w.heap.size, 3, none⟩ = some (.slice a len cap) ∧ Hid (Below W0.heap.size W0 W) from fun W h => by
    obtain ⟨_, _, x1, x2, x3⟩ := (X1.out.below h.out X1.out.lt).four
    exact ⟨x1, x2, x3, h⟩)
  have T1 := Lib.hid (Below.refl W0.heap.size W0)
  have HR := Lib.hid (HR.out.below B1.out)
  obtain ⟨n0, hnn⟩ : ∃ n0, n0 = w.heap.size := ⟨_, rfl⟩
  have hn0 : n0 ≤ W0.heap.size := by rw [hnn]; exact B1.out.size
  have hnn := Lib.hid hnn
  have TD := kDrew T1
  refine wp_region_held_drew (S := fun W => W.cell? ⟨w.heap.size, 1, none⟩ = some (.int .i64 ei) ∧ W.cell? ⟨w.heap.size, 2, none⟩ = some (.int .i64 es) ∧ W.cell? ⟨w.heap.size, 3, none⟩ = some (.slice a len cap) ∧ Hid (Below W0.heap.size W0 W)) (by kernel_rfl) (SS.out _ TD) (fun hHeld => ?_)
  refine wpAnyH_take (i := 0) (v := ?_) (by simp only [List.getElem?_toArray, List.getElem?_cons_zero]; exact rfl) (by kernel_rfl) (by kernel_rfl) (by kernel_rfl) (by exact fun _ _ _ h => h) (Or.inl ⟨by rfl, ?_⟩) hHeld ?_
  rotate_left
  · intro w' hSw
    obtain ⟨s0, s1, s2, _⟩ := hSw
    go_simp
    try with_reducible rfl
  try simp only [Act.put, List.setIfInBounds_toArray, List.set_cons_zero, List.set_cons_succ]
  refine wpAnyH_take (i := 2) (v := ?_) (by simp only [List.getElem?_toArray, List.getElem?_cons_zero, List.getElem?_cons_succ]; exact rfl) (by kernel_rfl) (by kernel_rfl) (by kernel_rfl) (by exact fun _ _ _ h => h) (Or.inl ⟨by rfl, ?_⟩) hHeld ?_
  rotate_left
  · intro w' hSw
    obtain ⟨s0, s1, s2, _⟩ := hSw
    go_simp
    try with_reducible rfl
  try simp only [Act.put, List.setIfInBounds_toArray, List.set_cons_zero, List.set_cons_succ]
  refine wpAnyH_take (i := 3) (v := ?_) (by simp only [List.getElem?_toArray, List.getElem?_cons_zero, List.getElem?_cons_succ]; exact rfl) (by kernel_rfl) (by kernel_rfl) (by kernel_rfl) (by exact fun _ _ _ h => h) (Or.inl ⟨by rfl, ?_⟩) hHeld ?_
  rotate_left
  · intro w' hSw
    obtain ⟨s0, s1, s2, _⟩ := hSw
    go_simp
    try with_reducible rfl
  try simp only [Act.put, List.setIfInBounds_toArray, List.set_cons_zero, List.set_cons_succ]
  refine wpAnyH_take (i := 6) (v := ?_) (by simp only [List.getElem?_toArray, List.getElem?_cons_zero, List.getElem?_cons_succ]; exact rfl) (by kernel_rfl) (by kernel_rfl) (by kernel_rfl) (by exact fun _ _ _ h => h) (Or.inl ⟨by rfl, ?_⟩) hHeld ?_
  rotate_left
  · intro w' hSw
    obtain ⟨s0, s1, s2, _⟩ := hSw
    go_simp
    try with_reducible rfl
  try simp only [Act.put, List.setIfInBounds_toArray, List.set_cons_zero, List.set_cons_succ]
  refine wpAnyH_take (i := 7) (v := ?_) (by simp only [List.getElem?_toArray, List.getElem?_cons_zero, List.getElem?_cons_succ]; exact rfl) (by kernel_rfl) (by kernel_rfl) (by kernel_rfl) (by exact fun _ _ _ h => h) (Or.inl ⟨by rfl, ?_⟩) hHeld ?_
  rotate_left
  · intro w' hSw
    obtain ⟨s0, s1, s2, _⟩ := hSw
    go_simp
    try with_reducible rfl
  try simp only [Act.put, List.setIfInBounds_toArray, List.set_cons_zero, List.set_cons_succ]
  refine wpAnyH_take (i := 10) (v := ?_) (by simp only [List.getElem?_toArray, List.getElem?_cons_zero, List.getElem?_cons_succ]; exact rfl) (by kernel_rfl) (by kernel_rfl) (by kernel_rfl) (by exact fun _ _ _ h => h) (Or.inl ⟨by rfl, ?_⟩) hHeld ?_
  rotate_left
  · intro w' hSw
    obtain ⟨s0, s1, s2, _⟩ := hSw
    go_simp
    try with_reducible rfl
  try simp only [Act.put, List.setIfInBounds_toArray, List.set_cons_zero, List.set_cons_succ]
  refine wpAnyH_take (i := 11) (v := ?_) (by simp only [List.getElem?_toArray, List.getElem?_cons_zero, List.getElem?_cons_succ]; exact rfl) (by kernel_rfl) (by kernel_rfl) (by kernel_rfl) (by exact fun _ _ _ h => h) (Or.inl ⟨by rfl, ?_⟩) hHeld ?_
  rotate_left
  · intro w' hSw
    obtain ⟨s0, s1, s2, _⟩ := hSw
    go_simp
    try with_reducible rfl
  try simp only [Act.put, List.setIfInBounds_toArray, List.set_cons_zero, List.set_cons_succ]
  refine flow_go (Inv := fun listed ac W => ∃ v5 v15 v18 v19 v22 v23 v26 v27 : Value, ac = { tmps := #[.agg #[.bool true, .int .i64 ei, .int .i64 es, .slice a len cap], .pointer (some ⟨w.heap.size, 0, none⟩), .pointer (some ⟨w.heap.size + 1, 0, none⟩), .int .i64 0, .int .u8 0, v5, .agg #[.bool true, .int .i64 ei, .int .i64 es, .slice a len cap], .int .i64 0, .int .i64 0, .bool false, undef, undef, .pointer (some ⟨w.heap.size, 0, none⟩), .bool true, .int .u8 0, v15, .pointer (some ⟨w.heap.size, 1, none⟩), .int .i64 ei, v18, v19, .pointer (some ⟨w.heap.size, 2, none⟩), .int .i64 es, v22, v23, .pointer (some ⟨w.heap.size, 3, none⟩), .slice a len cap, v26, v27, undef, undef], defers := [] } ∧ Hid (Below W0.heap.size W0 W) ∧ Fl listed 1 (SlV W n0 v15 4 [0, 0, 0, 0]) ∧ Fl listed 4 (BrV W n0 v18 2 (be ei 2)) ∧ Fl listed 5 (SlV W n0 v19 2 (be ei 2)) ∧ Fl listed 8 (BrV W n0 v22 2 (be es 2)) ∧ Fl listed 9 (SlV W n0 v23 2 (be es 2)) ∧ Fl listed 12 (CatV W v26 4 L) ∧ Fl listed 13 (AnyV W n0 v27 L) ∧ Fl listed 14 (AnyV W n0 v5 L)) [1, 4, 5, 8, 9, 12, 13, 14] (by kernel_rfl) (by kernel_rfl) ⟨_, _, _, _, _, _, _, _, rfl, TD, Fl.not (by kernel_rfl), Fl.not (by kernel_rfl), Fl.not (by kernel_rfl), Fl.not (by kernel_rfl), Fl.not (by kernel_rfl), Fl.not (by kernel_rfl), Fl.not (by kernel_rfl), Fl.not (by kernel_rfl)⟩
    (FlowAll.cons [] (by simp only [List.getElem?_toArray, List.getElem?_cons_zero, List.getElem?_cons_succ]; exact rfl) (by kernel_rfl) (fun listed ac W hI hd K hK => ?_)
      (FlowAll.cons [] (by simp only [List.getElem?_toArray, List.getElem?_cons_zero, List.getElem?_cons_succ]; exact rfl) (by kernel_rfl) (fun listed ac W hI hd K hK => ?_)
      (FlowAll.cons [4] (by simp only [List.getElem?_toArray, List.getElem?_cons_zero, List.getElem?_cons_succ]; exact rfl) (by kernel_rfl) (fun listed ac W hI hd K hK => ?_)
      (FlowAll.cons [] (by simp only [List.getElem?_toArray, List.getElem?_cons_zero, List.getElem?_cons_succ]; exact rfl) (by kernel_rfl) (fun listed ac W hI hd K hK => ?_)
      (FlowAll.cons [8] (by simp only [List.getElem?_toArray, List.getElem?_cons_zero, List.getElem?_cons_succ]; exact rfl) (by kernel_rfl) (fun listed ac W hI hd K hK => ?_)
      (FlowAll.cons [1, 5, 9] (by simp only [List.getElem?_toArray, List.getElem?_cons_zero, List.getElem?_cons_succ]; exact rfl) (by kernel_rfl) (fun listed ac W hI hd K hK => ?_)
      (FlowAll.cons [12] (by simp only [List.getElem?_toArray, List.getElem?_cons_zero, List.getElem?_cons_succ]; exact rfl) (by kernel_rfl) (fun listed ac W hI hd K hK => ?_)
      (FlowAll.cons [13] (by simp only [List.getElem?_toArray, List.getElem?_cons_zero, List.getElem?_cons_succ]; exact rfl) (by kernel_rfl) (fun listed ac W hI hd K hK => ?_)
      FlowAll.nil))))))))
    (fun listed ac W hI hall => ?_)
  · obtain ⟨v5, v15, v18, v19, v22, v23, v26, v27, rfl, TB, f1, f4, f5, f8, f9, f12, f13, f14⟩ := hI
    refine want_none (by exact rfl) ?_
    go_wp2_with fail
    have hb : Below W.heap.size W _ := bAlloc W (.cells #[.int .u8 0, .int .u8 0, .int .u8 0, .int .u8 0] 5)
    have TB' := kCall hb (kSize TB) TB
    refine hK.out _ _ (SS.out _ TB') ?_
    exact ⟨_, _, _, _, _, _, _, _, rfl, TB', Fl.new (SlV.lit (Nat.le_trans hn0 (kSize TB)) 4 rfl (by intro n hn; simp at hn; omega) (by unfold maxLen; omega) _ rfl), f4.keep (by decide) (BrV.below hb), f5.keep (by decide) (SlV.below hb), f8.keep (by decide) (BrV.below hb), f9.keep (by decide) (SlV.below hb), f12.keep (by decide) (CatV.below hb), f13.keep (by decide) (AnyV.below hb), f14.keep (by decide) (AnyV.below hb)⟩
  · obtain ⟨v5, v15, v18, v19, v22, v23, v26, v27, rfl, TB, f1, f4, f5, f8, f9, f12, f13, f14⟩ := hI
    refine want_none (by exact rfl) ?_
    go_wp2_with fail
    refine (K1.out _).mono ?_
    intro e w' hp
    obtain ⟨v, rfl, hv, hb0⟩ := BrV.of_packed hp (be_len 2 _) (Nat.le_trans hn0 (kSize TB))
    go_wp2_with fail
    have hb : Below W.heap.size W _ := hb0
    have TB' := kCall hb (kSize TB) TB
    refine hK.out _ _ (SS.out _ TB') ?_
    exact ⟨_, _, _, _, _, _, _, _, rfl, TB', f1.keep (by decide) (SlV.below hb), Fl.new (hv), f5.keep (by decide) (SlV.below hb), f8.keep (by decide) (BrV.below hb), f9.keep (by decide) (SlV.below hb), f12.keep (by decide) (CatV.below hb), f13.keep (by decide) (AnyV.below hb), f14.keep (by decide) (AnyV.below hb)⟩
  · obtain ⟨v5, v15, v18, v19, v22, v23, v26, v27, rfl, TB, f1, f4, f5, f8, f9, f12, f13, f14⟩ := hI
    obtain ⟨a18, c18, rfl, o18⟩ := f4.get (hd 4 (by simp))
    refine want_none (by exact rfl) ?_
    go_wp2_with fail
    refine hK.out _ _ (SS.out _ TB) ?_
    exact ⟨_, _, _, _, _, _, _, _, rfl, TB, f1.keep (by decide) id, f4.keep (by decide) id, Fl.new (⟨_, _, rfl, o18⟩), f8.keep (by decide) id, f9.keep (by decide) id, f12.keep (by decide) id, f13.keep (by decide) id, f14.keep (by decide) id⟩
  · obtain ⟨v5, v15, v18, v19, v22, v23, v26, v27, rfl, TB, f1, f4, f5, f8, f9, f12, f13, f14⟩ := hI
    refine want_none (by exact rfl) ?_
    go_wp2_with fail
    refine (K2.out _).mono ?_
    intro e w' hp
    obtain ⟨v, rfl, hv, hb0⟩ := BrV.of_packed hp (be_len 2 _) (Nat.le_trans hn0 (kSize TB))
    go_wp2_with fail
    have hb : Below W.heap.size W _ := hb0
    have TB' := kCall hb (kSize TB) TB
    refine hK.out _ _ (SS.out _ TB') ?_
    exact ⟨_, _, _, _, _, _, _, _, rfl, TB', f1.keep (by decide) (SlV.below hb), f4.keep (by decide) (BrV.below hb), f5.keep (by decide) (SlV.below hb), Fl.new (hv), f9.keep (by decide) (SlV.below hb), f12.keep (by decide) (CatV.below hb), f13.keep (by decide) (AnyV.below hb), f14.keep (by decide) (AnyV.below hb)⟩
  · obtain ⟨v5, v15, v18, v19, v22, v23, v26, v27, rfl, TB, f1, f4, f5, f8, f9, f12, f13, f14⟩ := hI
    obtain ⟨a22, c22, rfl, o22⟩ := f8.get (hd 8 (by simp))
    refine want_none (by exact rfl) ?_
    go_wp2_with fail
    refine hK.out _ _ (SS.out _ TB) ?_
    exact ⟨_, _, _, _, _, _, _, _, rfl, TB, f1.keep (by decide) id, f4.keep (by decide) id, f5.keep (by decide) id, f8.keep (by decide) id, Fl.new (⟨_, _, rfl, o22⟩), f12.keep (by decide) id, f13.keep (by decide) id, f14.keep (by decide) id⟩
  · obtain ⟨v5, v15, v18, v19, v22, v23, v26, v27, rfl, TB, f1, f4, f5, f8, f9, f12, f13, f14⟩ := hI
    obtain ⟨a15, c15, rfl, o15⟩ := f1.get (hd 1 (by simp))
    obtain ⟨a19, c19, rfl, o19⟩ := f5.get (hd 5 (by simp))
    obtain ⟨a23, c23, rfl, o23⟩ := f9.get (hd 9 (by simp))
    refine want_none (by exact rfl) ?_
    go_wp2_with fail
    have hb : Below W.heap.size W _ := bAlloc W (.cells #[.slice a15 4 c15, .slice a19 2 c19, .slice a23 2 c23, .slice a len cap] 22)
    have TB' := kCall hb (kSize TB) TB
    refine hK.out _ _ (SS.out _ TB') ?_
    exact ⟨_, _, _, _, _, _, _, _, rfl, TB', f1.keep (by decide) (SlV.below hb), f4.keep (by decide) (BrV.below hb), f5.keep (by decide) (SlV.below hb), f8.keep (by decide) (BrV.below hb), f9.keep (by decide) (SlV.below hb), Fl.new (⟨_, [⟨a15, 4, c15, [0, 0, 0, 0]⟩, ⟨a19, 2, c19, be ei 2⟩, ⟨a23, 2, c23, be es 2⟩, ⟨a, len, cap, zs⟩], rfl, rfl, sls_box (Box.new _ _ _) (by intro s hs; simp only [List.mem_cons, List.not_mem_nil, or_false] at hs; rcases hs with rfl | rfl | rfl | rfl; exact o15.rd.below hb; exact o19.rd.below hb; exact o23.rd.below hb; exact (HR.out.below TB.out).below hb), by rw [HL.out]; simp [catZ], by simp only [sumN]; omega⟩), f13.keep (by decide) (AnyV.below hb), f14.keep (by decide) (AnyV.below hb)⟩
  · obtain ⟨v5, v15, v18, v19, v22, v23, v26, v27, rfl, TB, f1, f4, f5, f8, f9, f12, f13, f14⟩ := hI
    obtain ⟨g, ss, rfl, hs, hS, hZ, hT⟩ := f12.get (hd 12 (by simp))
    refine want_none (by exact rfl) ?_
    go_wp2_with fail
    refine (catV_call hs hS hZ hT).mono ?_
    rintro e w' ⟨a', l', c', rfl, o', hb0⟩
    go_wp2_with fail
    have hb : Below W.heap.size W _ := hb0
    have TB' := kCall hb (kSize TB) TB
    refine hK.out _ _ (SS.out _ TB') ?_
    exact ⟨_, _, _, _, _, _, _, _, rfl, TB', f1.keep (by decide) (SlV.below hb), f4.keep (by decide) (BrV.below hb), f5.keep (by decide) (SlV.below hb), f8.keep (by decide) (BrV.below hb), f9.keep (by decide) (SlV.below hb), f12.keep (by decide) (CatV.below hb), Fl.new (⟨_, _, _, rfl, o'.rebase (Nat.le_trans hn0 (kSize TB))⟩), f14.keep (by decide) (AnyV.below hb)⟩
  · obtain ⟨v5, v15, v18, v19, v22, v23, v26, v27, rfl, TB, f1, f4, f5, f8, f9, f12, f13, f14⟩ := hI
    obtain ⟨a27, l27, c27, rfl, o27⟩ := f13.get (hd 13 (by simp))
    refine want_none (by exact rfl) ?_
    go_wp2_with fail
    refine hK.out _ _ (SS.out _ TB) ?_
    exact ⟨_, _, _, _, _, _, _, _, rfl, TB, f1.keep (by decide) id, f4.keep (by decide) id, f5.keep (by decide) id, f8.keep (by decide) id, f9.keep (by decide) id, f12.keep (by decide) id, f13.keep (by decide) id, Fl.new (⟨_, _, _, rfl, o27⟩)⟩
  · obtain ⟨v5, v15, v18, v19, v22, v23, v26, v27, rfl, TB, f1, f4, f5, f8, f9, f12, f13, f14⟩ := hI
    obtain ⟨a5, l5, c5, rfl, o5⟩ := f14.get (hall 14 (by decide))
    have O5 := Lib.hid o5
    have T5 := TB
    clear o5 f1 f4 f5 f8 f9 f12 f13 f14 TB hall SS
    go_wp2_with fail
    refine (KS.out _ _ _ _ O5.out.rd).mono ?_
    rintro e w6 ⟨a6, l6, c6, rfl, o6, b6⟩
    have R6 := ((R1.out.below T5.out R1.out.lt).below b6 (R1.out.below T5.out R1.out.lt).lt)
    obtain ⟨r0, r1, r2⟩ := R6.two
    have q0 := R6.frozen 0
    have q1 := R6.frozen 1
    have B5 := B1.out.trans (T5.out.mono B1.out.size)
    have hs5 := B5.size
    have hr5 := (R1.out.below T5.out R1.out.lt).lt
    have B6 := Lib.hid (B5.trans (b6.mono hs5))
    have hn : Hid (∀ x, a6 = some x → ¬ x.block = w.heap.size + 1) := fun x hx e => by
      have := (o6.lt x hx).1
      omega
    have O6 := Lib.hid (o6.rebase hs5)
    clear o6 b6 O5 B5 R6 hs5 hr5 T5
    go_wp2
    refine bodyPost_ret (v := .agg #[.int .i64 0, .slice a6 l6 c6]) (by simp [results, Try.results17, go_sem, r1, r2]) rfl ⟨_, _, _, rfl, ?_, (B6.out.setCell (by simp) _).setCell (by simp) _⟩
    exact (O6.out.setOther _ _ hn.out).setOther _ _ hn.out

set_option maxHeartbeats 1000000 in
theorem implPackEcho (er : Bool) (ei es : Int) (a : Option Addr) (len cap : Nat) (zs : List Int) (w : World) (hr : Rd w a len cap zs) :
    Calls Try.prog 17 #[.agg #[.bool er, .int .i64 ei, .int .i64 es, .slice a len cap]] w (Packed w (echoC ei es zs.length) (echoP er ei es zs)) := by
  rw [hr.length]
  by_cases hk : echoC ei es len = 0
  · have hp : echoP er ei es zs = echoL er ei es zs := by unfold echoP; rw [hr.length, if_pos hk]
    rw [hk, hp]
    cases er with
    | false => exact implPackEcho_false ei es a len cap zs w hr hk
    | true => exact implPackEcho_true ei es a len cap zs w hr hk
  · have hp : echoP er ei es zs = [] := by unfold echoP; rw [hr.length, if_neg hk]
    have hne : (echoC ei es len != 0) = true := by simpa using hk
    have S := Lib.hid (fun W => implEchoFault er ei es a len cap W)
    have B0 := Lib.hid (((Below.refl w.heap.size w).alloc (Nat.le_refl _) (.cells #[.bool er, .int .i64 ei, .int .i64 es, .slice a len cap] 35)).alloc (by simp) (.cells #[.int .i64 0, .slice none 0 0] 28))
    have R0 := Lib.hid (Box.new (w.alloc (.cells #[.bool er, .int .i64 ei, .int .i64 es, .slice a len cap] 35)) 28 #[.int .i64 0, .slice none 0 0])
    rw [hp]
    clear hk hp hr
    generalize echoC ei es len = c at *
    go_enter Try.func17, Try.ntmps17
    go_wp2_with fail
    refine (S.out _).mono ?_
    rintro e w1 ⟨rfl, b1⟩
    have R1 := R0.out.below b1 R0.out.lt
    simp only [World.size_alloc] at R1
    obtain ⟨z2, r20, r21⟩ := R1.two
    have f0 := R1.frozen 0
    have f1 := R1.frozen 1
    have B1 := Lib.hid (B0.out.trans (b1.mono B0.out.size))
    clear b1 R0 B0 R1
    go_wp2
    exact bodyPost_ret (v := .agg #[.int .i64 c, .slice none 0 0]) (by simp [results, Try.results17, go_sem, r20, r21]) rfl ⟨none, 0, 0, rfl, Own.nil _ _, (B1.out.setCell (by simp) _).setCell (by simp) _⟩

theorem packEcho_law (er : Bool) (ei es : Int) (a : Option Addr) (len cap : Nat) (zs : List Int) (w : World) (hr : Rd w a len cap zs) :
    Calls Try.prog 8 #[.agg #[.bool er, .int .i64 ei, .int .i64 es, .slice a len cap]] w fun e w' => e = .returned (.bool true) ∧ Below w.heap.size w w' :=
  exactPackEcho er ei es a len cap zs w hr (echoC ei es zs.length) (echoP er ei es zs) (echoP_len er ei es zs) (fun a' l' c' W h => specPackEcho er ei es a' l' c' zs W h) (fun a' l' c' W h => implPackEcho er ei es a' l' c' zs W h)
end Go.Proofs.Ytgjkbaplfbiomaa
