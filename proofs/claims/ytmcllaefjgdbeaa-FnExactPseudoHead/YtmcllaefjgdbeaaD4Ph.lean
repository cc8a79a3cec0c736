/-
  PseudoHead of the program and its law; withPseudoHead.
-/
import Derived.Test.YtmcllaefjgdbeaaD4Flt
import Derived.Test.YtmcllaefjgdbeaaArr
import Derived.Test.YtmcllaefjgdbeaaDgX
import Derived.Test.YtmcllaefjgdbeaaPkP
namespace Go.Proofs.Ytmcllaefjgdbeaa
open Go.ChangeShapes Go.WideShapes Go.ChangeAt Go.RowKit

set_option maxRecDepth 20000 in
set_option maxHeartbeats 4000000 in
theorem implPseudoHead (f t p n : Int) (w : World) :
    Calls Try.prog 15 #[.int .i64 f, .int .i64 t, .int .i64 p, .int .i64 n] w (Packed w (phC f t p n) (phP f t p n)) := by
  obtain ⟨q, hq⟩ : ∃ q, q = (inB f 0 4294967295 && inB t 0 4294967295 && inB p 0 255 && inB n 0 65535) := ⟨_, rfl⟩
  obtain ⟨C, hC⟩ : ∃ C, C = phC f t p n := ⟨_, rfl⟩
  obtain ⟨L, hL⟩ : ∃ L, L = phP f t p n := ⟨_, rfl⟩
  rw [← hC, ← hL]
  have HP : Hid ((q = true → (0 ≤ f ∧ f < 4294967296) ∧ (0 ≤ t ∧ t < 4294967296) ∧ (0 ≤ p ∧ p ≤ 255) ∧ (0 ≤ n ∧ n < 65536) ∧ C = 0 ∧ L = pseudoL f t p n) ∧ (q = false → C = 3 ∧ L = [])) := by
    have e : phB f t p n = q := by rw [hq]; rfl
    refine ⟨fun h => ?_, fun h => ?_⟩
    · obtain ⟨h0, h1, h2, h3⟩ := phB_parts (e.trans h)
      exact ⟨h0, h1, h2, h3, by rw [hC, phC, if_pos (e.trans h)], by rw [hL, phP, if_pos (e.trans h)]⟩
    · have h' : ¬ phB f t p n = true := by rw [e, h]; simp
      exact ⟨by rw [hC, phC, if_neg h'], by rw [hL, phP, if_neg h']⟩
  have HQ := Lib.hid hq
  clear hq hC hL
  have B0 := Lib.hid ((((Below.refl w.heap.size w).alloc (Nat.le_refl _) (.cells #[.int .i64 0, .slice none 0 0] 29)).alloc (by simp) (.cells #[.int .i64 p, .int .i64 0, .int .i64 255] 67)).alloc (by simp; omega) (.cells #[.int .i64 n, .int .i64 0, .int .i64 65535] 67))
  have R0 := Lib.hid (((Box.new w 29 #[.int .i64 0, .slice none 0 0]).alloc (.cells #[.int .i64 p, .int .i64 0, .int .i64 255] 67)).alloc (.cells #[.int .i64 n, .int .i64 0, .int .i64 65535] 67))
  have X1 := Lib.hid ((Box.new (w.alloc (.cells #[.int .i64 0, .slice none 0 0] 29)) 67 #[.int .i64 p, .int .i64 0, .int .i64 255]).alloc (.cells #[.int .i64 n, .int .i64 0, .int .i64 65535] 67))
  have X2 := Lib.hid (Box.new ((w.alloc (.cells #[.int .i64 0, .slice none 0 0] 29)).alloc (.cells #[.int .i64 p, .int .i64 0, .int .i64 255] 67)) 67 #[.int .i64 n, .int .i64 0, .int .i64 65535])
  simp only [World.size_alloc] at X1 X2
  go_enter Try.func15, Try.ntmps15
  go_wp2_with fail
  obtain ⟨n0, hn0⟩ : ∃ n0, n0 = w.heap.size := ⟨_, rfl⟩
  generalize (((w.alloc (.cells #[.int .i64 0, .slice none 0 0] 29)).alloc (.cells #[.int .i64 p, .int .i64 0, .int .i64 255] 67)).alloc (.cells #[.int .i64 n, .int .i64 0, .int .i64 65535] 67)) = W0 at *
  have SS := Lib.hid (show ∀ W, Hid (Below W0.heap.size W0 W) → W.cell? ⟨w.heap.size + 1, 0, none⟩ = some (.int .i64 p) ∧ W.cell? ⟨w.heap.size + 1, 1, none⟩ = some (.int .i64 0) ∧ W.cell? ⟨w.heap.size + 1, 2, none⟩ = some (.int .i64 255) ∧ W.cell? ⟨w.heap.size + 1 + 1, 0, none⟩ = some (.int .i64 n) ∧ W.cell? ⟨w.heap.size + 1 + 1, 1, none⟩ = some (.int .i64 0) ∧ W.cell? ⟨w.heap.size + 1 + 1, 2, none⟩ = some (.int .i64 65535) ∧ Hid (Below W0.heap.size W0 W) from fun W h => by
    obtain ⟨_, x0, x1, x2⟩ := (X1.out.below h.out X1.out.lt).three
    obtain ⟨_, y0, y1, y2⟩ := (X2.out.below h.out X2.out.lt).three
    exact ⟨x0, x1, x2, y0, y1, y2, h⟩)
  have T1 := Lib.hid (Below.refl W0.heap.size W0)
  have hnn := Lib.hid hn0
  have hn0 : n0 ≤ W0.heap.size := by rw [hnn.out]; exact B0.out.size
  have TD := kDrew T1
  refine wp_region_held_drew (S := fun W => W.cell? ⟨w.heap.size + 1, 0, none⟩ = some (.int .i64 p) ∧ W.cell? ⟨w.heap.size + 1, 1, none⟩ = some (.int .i64 0) ∧ W.cell? ⟨w.heap.size + 1, 2, none⟩ = some (.int .i64 255) ∧ W.cell? ⟨w.heap.size + 1 + 1, 0, none⟩ = some (.int .i64 n) ∧ W.cell? ⟨w.heap.size + 1 + 1, 1, none⟩ = some (.int .i64 0) ∧ W.cell? ⟨w.heap.size + 1 + 1, 2, none⟩ = some (.int .i64 65535) ∧ Hid (Below W0.heap.size W0 W)) (by kernel_rfl) (SS.out _ TD) (fun hHeld => ?_)
  refine wpAnyH_take (i := 0) (v := ?_) (by simp only [List.getElem?_toArray, List.getElem?_cons_zero]; exact rfl) (by kernel_rfl) (by kernel_rfl) (by kernel_rfl) (by exact fun _ _ _ h => h) (Or.inl ⟨by rfl, ?_⟩) hHeld ?_
  rotate_left
  · intro w' hSw
    obtain ⟨s0, s1, s2, s3, s4, s5, _⟩ := hSw
    go_simp
    try with_reducible rfl
  try simp only [Act.put, List.setIfInBounds_toArray, List.set_cons_zero, List.set_cons_succ]
  refine wpAnyH_take (i := 2) (v := ?_) (by simp only [List.getElem?_toArray, List.getElem?_cons_zero, List.getElem?_cons_succ]; exact rfl) (by kernel_rfl) (by kernel_rfl) (by kernel_rfl) (by exact fun _ _ _ h => h) (Or.inl ⟨by rfl, ?_⟩) hHeld ?_
  rotate_left
  · intro w' hSw
    obtain ⟨s0, s1, s2, s3, s4, s5, _⟩ := hSw
    go_simp
    try with_reducible rfl
  try simp only [Act.put, List.setIfInBounds_toArray, List.set_cons_zero, List.set_cons_succ]
  refine wpAnyH_take (i := 4) (v := ?_) (by simp only [List.getElem?_toArray, List.getElem?_cons_zero, List.getElem?_cons_succ]; exact rfl) (by kernel_rfl) (by kernel_rfl) (by kernel_rfl) (by exact fun _ _ _ h => h) (Or.inl ⟨by rfl, ?_⟩) hHeld ?_
  rotate_left
  · intro w' hSw
    obtain ⟨s0, s1, s2, s3, s4, s5, _⟩ := hSw
    go_simp
    try with_reducible rfl
  try simp only [Act.put, List.setIfInBounds_toArray, List.set_cons_zero, List.set_cons_succ]
  refine wpAnyH_take (i := 5) (v := ?_) (by simp only [List.getElem?_toArray, List.getElem?_cons_zero, List.getElem?_cons_succ]; exact rfl) (by kernel_rfl) (by kernel_rfl) (by kernel_rfl) (by exact fun _ _ _ h => h) (Or.inl ⟨by rfl, ?_⟩) hHeld ?_
  rotate_left
  · intro w' hSw
    obtain ⟨s0, s1, s2, s3, s4, s5, _⟩ := hSw
    go_simp
    try with_reducible rfl
  try simp only [Act.put, List.setIfInBounds_toArray, List.set_cons_zero, List.set_cons_succ]
  refine flow_go (Inv := fun listed ac W => ∃ v16 v18 v21 v22 v23 : Value, ac = { tmps := #[.int .i64 f, .int .i64 t, .int .i64 p, .int .i64 n, undef, undef, undef, undef, .pointer (some ⟨w.heap.size, 0, none⟩), .pointer (some ⟨w.heap.size + 1, 0, none⟩), .pointer (some ⟨w.heap.size + 1 + 1, 0, none⟩), .int .i64 p, .agg #[.int .i64 p, .int .i64 0, .int .i64 255], .int .i64 n, .agg #[.int .i64 n, .int .i64 0, .int .i64 65535], .int .i64 f, v16, .int .i64 t, v18, .agg #[.int .i64 p, .int .i64 0, .int .i64 255], .agg #[.int .i64 n, .int .i64 0, .int .i64 65535], v21, v22, v23, undef, undef, undef, undef, undef, undef, undef, undef, undef, undef, undef, undef, undef, undef, undef, undef], defers := [] } ∧ Hid (Below W0.heap.size W0 W) ∧ Fl listed 1 (EqV v16 (.agg #[.int .i64 f, .int .i64 0, .int .i64 4294967295])) ∧ Fl listed 3 (EqV v18 (.agg #[.int .i64 t, .int .i64 0, .int .i64 4294967295])) ∧ Fl listed 6 (BdV W v21 4 #[.int .i64 f, .int .i64 0, .int .i64 4294967295, .int .i64 t, .int .i64 0, .int .i64 4294967295, .int .i64 p, .int .i64 0, .int .i64 255, .int .i64 n, .int .i64 0, .int .i64 65535]) ∧ Fl listed 7 (EqV v22 (.bool q)) ∧ Fl listed 8 (EqV v23 (.bool (!q)))) [1, 3, 6, 7, 8] (by kernel_rfl) (by kernel_rfl) ⟨_, _, _, _, _, rfl, TD, Fl.not (by kernel_rfl), Fl.not (by kernel_rfl), Fl.not (by kernel_rfl), Fl.not (by kernel_rfl), Fl.not (by kernel_rfl)⟩
    (FlowAll.cons [] (by simp only [List.getElem?_toArray, List.getElem?_cons_zero, List.getElem?_cons_succ]; exact rfl) (by kernel_rfl) (fun listed ac W hI hu hd K hK => ?_)
      (FlowAll.cons [] (by simp only [List.getElem?_toArray, List.getElem?_cons_zero, List.getElem?_cons_succ]; exact rfl) (by kernel_rfl) (fun listed ac W hI hu hd K hK => ?_)
      (FlowAll.cons [1, 3] (by simp only [List.getElem?_toArray, List.getElem?_cons_zero, List.getElem?_cons_succ]; exact rfl) (by kernel_rfl) (fun listed ac W hI hu hd K hK => ?_)
      (FlowAll.cons [6] (by simp only [List.getElem?_toArray, List.getElem?_cons_zero, List.getElem?_cons_succ]; exact rfl) (by kernel_rfl) (fun listed ac W hI hu hd K hK => ?_)
      (FlowAll.cons [7] (by simp only [List.getElem?_toArray, List.getElem?_cons_zero, List.getElem?_cons_succ]; exact rfl) (by kernel_rfl) (fun listed ac W hI hu hd K hK => ?_)
      FlowAll.nil)))))
    (fun listed ac W hI hall => ?_)
  · obtain ⟨v16, v18, v21, v22, v23, rfl, TB, f1, f3, f6, f7, f8⟩ := hI
    have hnW : n0 ≤ W.heap.size := Nat.le_trans hn0 (kSize TB)
    refine want_none (by exact rfl) ?_
    go_wp2_with fail
    refine (ipBound_any f _).mono ?_
    rintro e w' ⟨rfl, hb0⟩
    go_wp2_with fail
    have hb : Below W.heap.size W _ := hb0
    have TB' := kCall hb (kSize TB) TB
    refine hK.out _ _ (SS.out _ TB') ?_
    exact ⟨_, _, _, _, _, rfl, TB', Fl.new (EqV.rfl _), f3.keep (by decide) (keepE hb), f6.keep (by decide) (BdV.below hb), f7.keep (by decide) (keepE hb), f8.keep (by decide) (keepE hb)⟩
  · obtain ⟨v16, v18, v21, v22, v23, rfl, TB, f1, f3, f6, f7, f8⟩ := hI
    have hnW : n0 ≤ W.heap.size := Nat.le_trans hn0 (kSize TB)
    refine want_none (by exact rfl) ?_
    go_wp2_with fail
    refine (ipBound_any t _).mono ?_
    rintro e w' ⟨rfl, hb0⟩
    go_wp2_with fail
    have hb : Below W.heap.size W _ := hb0
    have TB' := kCall hb (kSize TB) TB
    refine hK.out _ _ (SS.out _ TB') ?_
    exact ⟨_, _, _, _, _, rfl, TB', f1.keep (by decide) (keepE hb), Fl.new (EqV.rfl _), f6.keep (by decide) (BdV.below hb), f7.keep (by decide) (keepE hb), f8.keep (by decide) (keepE hb)⟩
  · obtain ⟨v16, v18, v21, v22, v23, rfl, TB, f1, f3, f6, f7, f8⟩ := hI
    have hnW : n0 ≤ W.heap.size := Nat.le_trans hn0 (kSize TB)
    obtain ⟨rfl⟩ := f1.get (hd 1 (by simp))
    obtain ⟨rfl⟩ := f3.get (hd 3 (by simp))
    refine want_none (by exact rfl) ?_
    go_wp2_with fail
    have hb : Below W.heap.size W _ := bAlloc W (.cells #[.int .i64 f, .int .i64 0, .int .i64 4294967295, .int .i64 t, .int .i64 0, .int .i64 4294967295, .int .i64 p, .int .i64 0, .int .i64 255, .int .i64 n, .int .i64 0, .int .i64 65535] 67)
    have TB' := kCall hb (kSize TB) TB
    refine hK.out _ _ (SS.out _ TB') ?_
    exact ⟨_, _, _, _, _, rfl, TB', f1.keep (by decide) (keepE hb), f3.keep (by decide) (keepE hb), Fl.new (BdV.new _ _ _), f7.keep (by decide) (keepE hb), f8.keep (by decide) (keepE hb)⟩
  · obtain ⟨v16, v18, v21, v22, v23, rfl, TB, f1, f3, f6, f7, f8⟩ := hI
    have hnW : n0 ≤ W.heap.size := Nat.le_trans hn0 (kSize TB)
    obtain ⟨g, rfl, xG⟩ := f6.get (hd 6 (by simp))
    refine want_none (by exact rfl) ?_
    go_wp2_with fail
    refine (within4 g _ f 0 4294967295 t 0 4294967295 p 0 255 n 0 65535 _ xG).mono ?_
    rintro e w' ⟨rfl, hb0⟩
    rw [← HQ.out]
    go_wp2_with fail
    have hb : Below W.heap.size W _ := hb0
    have TB' := kCall hb (kSize TB) TB
    refine hK.out _ _ (SS.out _ TB') ?_
    exact ⟨_, _, _, _, _, rfl, TB', f1.keep (by decide) (keepE hb), f3.keep (by decide) (keepE hb), f6.keep (by decide) (BdV.below hb), Fl.new (EqV.rfl _), f8.keep (by decide) (keepE hb)⟩
  · obtain ⟨v16, v18, v21, v22, v23, rfl, TB, f1, f3, f6, f7, f8⟩ := hI
    have hnW : n0 ≤ W.heap.size := Nat.le_trans hn0 (kSize TB)
    obtain ⟨rfl⟩ := f7.get (hd 7 (by simp))
    refine want_none (by exact rfl) ?_
    go_wp2_with fail
    refine hK.out _ _ (SS.out _ TB) ?_
    exact ⟨_, _, _, _, _, rfl, TB, f1.keep (by decide) id, f3.keep (by decide) id, f6.keep (by decide) id, f7.keep (by decide) id, Fl.new (EqV.rfl _)⟩
  · obtain ⟨v16, v18, v21, v22, v23, rfl, TB, f1, f3, f6, f7, f8⟩ := hI
    have hnW : n0 ≤ W.heap.size := Nat.le_trans hn0 (kSize TB)
    obtain ⟨rfl⟩ := f8.get (hall 8 (by decide))
    have B2 := Lib.hid (B0.out.trans (TB.out.mono B0.out.size))
    have R2 := Lib.hid (R0.out.below TB.out R0.out.lt)
    clear f1 f3 f6 f7 f8 TB hall SS X1 X2 T1
    cases q
    · obtain ⟨_, r0, r1⟩ := R2.out.two
      have f0 := R2.out.frozen 0
      have f1 := R2.out.frozen 1
      obtain ⟨rfl, rfl⟩ := HP.out.2 rfl
      go_wp2
      exact bodyPost_ret (v := .agg #[.int .i64 3, .slice none 0 0]) (by simp [results, Try.results15, go_sem, r0, r1]) rfl ⟨none, 0, 0, rfl, Own.nil _ _, (B2.out.setCell (by simp) _).setCell (by simp) _⟩
    obtain ⟨h0, h1, h2, h3, rfl, e1⟩ := HP.out.1 rfl
    have HL := Lib.hid (show L = be f 4 ++ (be t 4 ++ ([0, p] ++ be n 2)) by rw [e1]; simp [pseudoL])
    have K0 := Lib.hid (show ∀ W, Calls Try.prog 47 #[.int .i64 f, .int .i64 4] W (Packed W 0 (be f 4)) from fun W => implPack_ok f 4 W h0.1 (by omega) (by simp only [Int.reducePow]; omega))
    have K1 := Lib.hid (show ∀ W, Calls Try.prog 47 #[.int .i64 t, .int .i64 4] W (Packed W 0 (be t 4)) from fun W => implPack_ok t 4 W h1.1 (by omega) (by simp only [Int.reducePow]; omega))
    have K2 := Lib.hid (show ∀ W, Calls Try.prog 47 #[.int .i64 n, .int .i64 2] W (Packed W 0 (be n 2)) from fun W => implPack_ok n 2 W h3.1 (by omega) (by simp only [Int.reducePow]; omega))
    have u1 := u8_in p h2
    have hfb := fld_br
    have h8 : Hid (B8 [0, p]) := by intro m hm; simp at hm; omega
    clear e1 h0 h1 h2 h3 HP HQ
    go_wp2_with fail
    refine (K0.out _).mono ?_
    rintro e w3 ⟨a3, l3, c3, rfl, o3, b3⟩
    obtain rfl : l3 = 4 := o3.length.symm.trans (be_len 4 _)
    have R3 := Lib.hid (R2.out.below b3 R2.out.lt)
    have B3 := Lib.hid (B2.out.trans (b3.mono B2.out.size))
    have O3 := Lib.hid o3.rd
    clear b3 o3 R2 B2
    go_wp2_with fail
    refine (K1.out _).mono ?_
    rintro e w4 ⟨a4, l4, c4, rfl, o4, b4⟩
    obtain rfl : l4 = 4 := o4.length.symm.trans (be_len 4 _)
    have R4 := Lib.hid (R3.out.below b4 R3.out.lt)
    have B4 := Lib.hid (B3.out.trans (b4.mono B3.out.size))
    replace O3 := Lib.hid (O3.out.below b4)
    have O4 := Lib.hid o4.rd
    clear b4 o4 R3 B3
    go_wp2_with fail
    have R4' := Lib.hid (R4.out.alloc (.cells #[.int .u8 0, .int .u8 p] 5))
    have B4' := Lib.hid (B4.out.alloc B4.out.size (.cells #[.int .u8 0, .int .u8 p] 5))
    replace O3 := Lib.hid (O3.out.alloc (.cells #[.int .u8 0, .int .u8 p] 5))
    replace O4 := Lib.hid (O4.out.alloc (.cells #[.int .u8 0, .int .u8 p] 5))
    have O5 : Hid (Rd _ _ 2 2 [0, p]) := Rd.of_box (off := 0) (Box.new w4 5 #[.int .u8 0, .int .u8 p]) rfl (by unfold maxLen; omega) h8.out (fun i hi => by match i, hi with | 0, _ => rfl | 1, _ => rfl)
    generalize hW4 : w4.alloc (.cells #[.int .u8 0, .int .u8 p] 5) = W4 at *
    clear R4 B4 hW4
    refine (K2.out _).mono ?_
    rintro e w6 ⟨a6, l6, c6, rfl, o6, b6⟩
    obtain rfl : l6 = 2 := o6.length.symm.trans (be_len 2 _)
    have R6 := Lib.hid (R4'.out.below b6 R4'.out.lt)
    have B6 := Lib.hid (B4'.out.trans (b6.mono B4'.out.size))
    replace O3 := Lib.hid (O3.out.below b6)
    replace O4 := Lib.hid (O4.out.below b6)
    replace O5 := Lib.hid (O5.out.below b6)
    have O6 := Lib.hid o6.rd
    clear b6 o6 R4' B4'
    go_wp2_with fail
    refine (concat4 _ _ _ _ _ _ _ _ _ _ _ _ _ _ _ _ _ _ _ (Box.new _ _ _) (O3.out.alloc _) (O4.out.alloc _) (O5.out.alloc _) (O6.out.alloc _) (by omega)).mono ?_
    rintro e w7 ⟨a7, l7, c7, rfl, o7, b7⟩
    have R7 := (R6.out.alloc _).below b7 (R6.out.alloc _).lt
    obtain ⟨r0, r1, r2⟩ := R7.two
    have f0 := R7.frozen 0
    have f1 := R7.frozen 1
    have hs6 := B6.out.size
    have hr6 := R6.out.lt
    have B7 := Lib.hid ((B6.out.alloc hs6 (.cells _ 22)).trans (b7.mono (by simp; omega)))
    have hn : Hid (∀ x, a7 = some x → ¬ x.block = w.heap.size) := fun x hx e => by
      have := (o7.lt x hx).1
      simp at this
      omega
    have O7 : Hid (Own w7 w.heap.size a7 l7 c7 L) := by rw [HL.out]; exact o7.rebase (by simp; omega)
    clear o7 b7 O3 O4 O5 O6 R6 B6 R7 hs6 hr6
    go_wp2
    refine bodyPost_ret (v := .agg #[.int .i64 0, .slice a7 l7 c7]) (by simp [results, Try.results15, go_sem, r1, r2]) rfl ⟨_, _, _, rfl, ?_, (B7.out.setCell (by simp) _).setCell (by simp) _⟩
    exact (O7.out.setOther _ _ hn.out).setOther _ _ hn.out

theorem pseudoHead_law (f t p n : Int) (w : World) : Calls Try.prog 4 #[.int .i64 f, .int .i64 t, .int .i64 p, .int .i64 n] w fun e w' => e = .returned (.bool true) ∧ Below w.heap.size w w' :=
  exactPseudoHead f t p n w (phC f t p n) (phP f t p n) (by unfold phP; split; (rw [pseudoL_len]; omega); simp) (fun W => specPseudoHead f t p n W) (fun W => implPseudoHead f t p n W)
end Go.Proofs.Ytmcllaefjgdbeaa
