/-
  SegmentFault of the program.
-/
import Derived.Test.YteaiemckcepphaaMB
import Derived.Test.YteaiemckcepphaaG5Fl
namespace Go.Proofs.Yteaiemckcepphaa
open Go.ChangeShapes Go.WideShapes Go.ChangeAt Go.RowKit

set_option maxRecDepth 20000 in
set_option maxHeartbeats 8000000 in
theorem implSegmentFault (x : Sg) (a : Option Addr) (len cap : Nat) (w : World) :
    Calls Try.prog 21 #[.agg #[.int .i64 x.f, .int .i64 x.t, .int .i64 x.s, .int .i64 x.a, .int .i64 x.g, .int .i64 x.w, .int .i64 x.m, .slice a len cap]] w fun e w' => e = .returned (.int .i64 (sgC x len)) ∧ Below w.heap.size w w' := by
  obtain ⟨c, hc⟩ : ∃ c, c = sgC x len := ⟨_, rfl⟩
  obtain ⟨q, hq⟩ : ∃ q, q = (inB x.f 1 65535 && inB x.t 1 65535 && inB x.s 0 4294967295 && inB x.a 0 4294967295 && inB x.w 0 65535 && inB x.m 0 65535) := ⟨_, rfl⟩
  have HC : Hid ((q = false → c = 3) ∧ (q = true → inB x.g 0 31 = false → c = 3) ∧ (q = true → inB x.g 0 31 = true → c = if ((x.a != 0) && !flB x.g 16) || ((x.m != 0) && !flB x.g 2) then 1 else if len ≤ 520 then 0 else 2)) := by
    have hn : sgN x = (q && inB x.g 0 31) := by
      rw [hq]; unfold sgN; rw [← sq_in, ← sq_in]
      cases inB x.g 0 31 <;> simp
    refine ⟨fun h => ?_, fun h h' => ?_, fun h h' => ?_⟩ <;> rw [hc, sgC, hn, h]
    · rfl
    · rw [h']; rfl
    · rw [h']; rfl
  have HQ := Lib.hid hq
  rw [← hc]
  clear hc hq
  have KW := Lib.hid (fun W => isWithin_any x.g W)
  have B0 := Lib.hid ((((Below.refl w.heap.size w).alloc (Nat.le_refl _) (.cells #[.int .i64 x.f, .int .i64 x.t, .int .i64 x.s, .int .i64 x.a, .int .i64 x.g, .int .i64 x.w, .int .i64 x.m, .slice a len cap] 25)).alloc (by simp) (.cells #[.int .i64 x.w, .int .i64 0, .int .i64 65535] 73)).alloc (by simp; omega) (.cells #[.int .i64 x.m, .int .i64 0, .int .i64 65535] 73))
  have X0 := Lib.hid (((Box.new w 25 #[.int .i64 x.f, .int .i64 x.t, .int .i64 x.s, .int .i64 x.a, .int .i64 x.g, .int .i64 x.w, .int .i64 x.m, .slice a len cap]).alloc (.cells #[.int .i64 x.w, .int .i64 0, .int .i64 65535] 73)).alloc (.cells #[.int .i64 x.m, .int .i64 0, .int .i64 65535] 73))
  have X1 := Lib.hid ((Box.new (w.alloc (.cells #[.int .i64 x.f, .int .i64 x.t, .int .i64 x.s, .int .i64 x.a, .int .i64 x.g, .int .i64 x.w, .int .i64 x.m, .slice a len cap] 25)) 73 #[.int .i64 x.w, .int .i64 0, .int .i64 65535]).alloc (.cells #[.int .i64 x.m, .int .i64 0, .int .i64 65535] 73))
  have Y1 := Lib.hid (Box.new ((w.alloc (.cells #[.int .i64 x.f, .int .i64 x.t, .int .i64 x.s, .int .i64 x.a, .int .i64 x.g, .int .i64 x.w, .int .i64 x.m, .slice a len cap] 25)).alloc (.cells #[.int .i64 x.w, .int .i64 0, .int .i64 65535] 73)) 73 #[.int .i64 x.m, .int .i64 0, .int .i64 65535])
  simp only [World.size_alloc] at X1 Y1
  go_enter Try.func21, Try.ntmps21
  go_wp2_with fail
  obtain ⟨n0, hn0⟩ : ∃ n0, n0 = w.heap.size := ⟨_, rfl⟩
  generalize ((w.alloc (.cells #[.int .i64 x.f, .int .i64 x.t, .int .i64 x.s, .int .i64 x.a, .int .i64 x.g, .int .i64 x.w, .int .i64 x.m, .slice a len cap] 25)).alloc (.cells #[.int .i64 x.w, .int .i64 0, .int .i64 65535] 73)).alloc (.cells #[.int .i64 x.m, .int .i64 0, .int .i64 65535] 73) = W0 at *
  have SS := Lib.hid (show ∀ W, Hid (Below W0.heap.size W0 W) → W.cell? ⟨w.heap.size, 0, none⟩ = some (.int .i64 x.f) ∧ W.cell? ⟨w.heap.size, 1, none⟩ = some (.int .i64 x.t) ∧ W.cell? ⟨w.heap.size, 2, none⟩ = some (.int .i64 x.s) ∧ W.cell? ⟨w.heap.size, 3, none⟩ = some (.int .i64 x.a) ∧ W.cell? ⟨w.heap.size + 1, 0, none⟩ = some (.int .i64 x.w) ∧ W.cell? ⟨w.heap.size + 1, 1, none⟩ = some (.int .i64 0) ∧ W.cell? ⟨w.heap.size + 1, 2, none⟩ = some (.int .i64 65535) ∧ W.cell? ⟨w.heap.size + 1 + 1, 0, none⟩ = some (.int .i64 x.m) ∧ W.cell? ⟨w.heap.size + 1 + 1, 1, none⟩ = some (.int .i64 0) ∧ W.cell? ⟨w.heap.size + 1 + 1, 2, none⟩ = some (.int .i64 65535) ∧ Hid (Below W0.heap.size W0 W) from fun W h => by
    obtain ⟨_, x0, x1, x2, x3, _⟩ := (X0.out.below h.out X0.out.lt).eight
    obtain ⟨_, y0, y1, y2⟩ := (X1.out.below h.out X1.out.lt).three
    obtain ⟨_, z0, z1, z2⟩ := (Y1.out.below h.out Y1.out.lt).three
    exact ⟨x0, x1, x2, x3, y0, y1, y2, z0, z1, z2, h⟩)
  have T1 := Lib.hid (Below.refl W0.heap.size W0)
  have hnn := Lib.hid hn0
  have hn0 : n0 ≤ W0.heap.size := by rw [hnn.out]; exact B0.out.size
  have TD := kDrew T1
  refine wp_region_held_drew (S := fun W => W.cell? ⟨w.heap.size, 0, none⟩ = some (.int .i64 x.f) ∧ W.cell? ⟨w.heap.size, 1, none⟩ = some (.int .i64 x.t) ∧ W.cell? ⟨w.heap.size, 2, none⟩ = some (.int .i64 x.s) ∧ W.cell? ⟨w.heap.size, 3, none⟩ = some (.int .i64 x.a) ∧ W.cell? ⟨w.heap.size + 1, 0, none⟩ = some (.int .i64 x.w) ∧ W.cell? ⟨w.heap.size + 1, 1, none⟩ = some (.int .i64 0) ∧ W.cell? ⟨w.heap.size + 1, 2, none⟩ = some (.int .i64 65535) ∧ W.cell? ⟨w.heap.size + 1 + 1, 0, none⟩ = some (.int .i64 x.m) ∧ W.cell? ⟨w.heap.size + 1 + 1, 1, none⟩ = some (.int .i64 0) ∧ W.cell? ⟨w.heap.size + 1 + 1, 2, none⟩ = some (.int .i64 65535) ∧ Hid (Below W0.heap.size W0 W)) (by kernel_rfl) (SS.out _ TD) (fun hHeld => ?_)
  refine wpAnyH_take (i := 0) (v := ?_) (by simp only [List.getElem?_toArray, List.getElem?_cons_zero]; exact rfl) (by kernel_rfl) (by kernel_rfl) (by kernel_rfl) (by exact fun _ _ _ h => h) (Or.inl ⟨by rfl, ?_⟩) hHeld ?_
  rotate_left
  · intro w' hSw
    obtain ⟨s0, s1, s2, s3, s4, s5, s6, s7, s8, s9, _⟩ := hSw
    go_simp
    try with_reducible rfl
  try simp only [Act.put, List.setIfInBounds_toArray, List.set_cons_zero, List.set_cons_succ]
  refine wpAnyH_take (i := 1) (v := ?_) (by simp only [List.getElem?_toArray, List.getElem?_cons_zero, List.getElem?_cons_succ]; exact rfl) (by kernel_rfl) (by kernel_rfl) (by kernel_rfl) (by exact fun _ _ _ h => h) (Or.inl ⟨by rfl, ?_⟩) hHeld ?_
  rotate_left
  · intro w' hSw
    obtain ⟨s0, s1, s2, s3, s4, s5, s6, s7, s8, s9, _⟩ := hSw
    go_simp
    try with_reducible rfl
  try simp only [Act.put, List.setIfInBounds_toArray, List.set_cons_zero, List.set_cons_succ]
  refine wpAnyH_take (i := 3) (v := ?_) (by simp only [List.getElem?_toArray, List.getElem?_cons_zero, List.getElem?_cons_succ]; exact rfl) (by kernel_rfl) (by kernel_rfl) (by kernel_rfl) (by exact fun _ _ _ h => h) (Or.inl ⟨by rfl, ?_⟩) hHeld ?_
  rotate_left
  · intro w' hSw
    obtain ⟨s0, s1, s2, s3, s4, s5, s6, s7, s8, s9, _⟩ := hSw
    go_simp
    try with_reducible rfl
  try simp only [Act.put, List.setIfInBounds_toArray, List.set_cons_zero, List.set_cons_succ]
  refine wpAnyH_take (i := 4) (v := ?_) (by simp only [List.getElem?_toArray, List.getElem?_cons_zero, List.getElem?_cons_succ]; exact rfl) (by kernel_rfl) (by kernel_rfl) (by kernel_rfl) (by exact fun _ _ _ h => h) (Or.inl ⟨by rfl, ?_⟩) hHeld ?_
  rotate_left
  · intro w' hSw
    obtain ⟨s0, s1, s2, s3, s4, s5, s6, s7, s8, s9, _⟩ := hSw
    go_simp
    try with_reducible rfl
  try simp only [Act.put, List.setIfInBounds_toArray, List.set_cons_zero, List.set_cons_succ]
  refine wpAnyH_take (i := 6) (v := ?_) (by simp only [List.getElem?_toArray, List.getElem?_cons_zero, List.getElem?_cons_succ]; exact rfl) (by kernel_rfl) (by kernel_rfl) (by kernel_rfl) (by exact fun _ _ _ h => h) (Or.inl ⟨by rfl, ?_⟩) hHeld ?_
  rotate_left
  · intro w' hSw
    obtain ⟨s0, s1, s2, s3, s4, s5, s6, s7, s8, s9, _⟩ := hSw
    go_simp
    try with_reducible rfl
  try simp only [Act.put, List.setIfInBounds_toArray, List.set_cons_zero, List.set_cons_succ]
  refine wpAnyH_take (i := 7) (v := ?_) (by simp only [List.getElem?_toArray, List.getElem?_cons_zero, List.getElem?_cons_succ]; exact rfl) (by kernel_rfl) (by kernel_rfl) (by kernel_rfl) (by exact fun _ _ _ h => h) (Or.inl ⟨by rfl, ?_⟩) hHeld ?_
  rotate_left
  · intro w' hSw
    obtain ⟨s0, s1, s2, s3, s4, s5, s6, s7, s8, s9, _⟩ := hSw
    go_simp
    try with_reducible rfl
  try simp only [Act.put, List.setIfInBounds_toArray, List.set_cons_zero, List.set_cons_succ]
  refine wpAnyH_take (i := 9) (v := ?_) (by simp only [List.getElem?_toArray, List.getElem?_cons_zero, List.getElem?_cons_succ]; exact rfl) (by kernel_rfl) (by kernel_rfl) (by kernel_rfl) (by exact fun _ _ _ h => h) (Or.inl ⟨by rfl, ?_⟩) hHeld ?_
  rotate_left
  · intro w' hSw
    obtain ⟨s0, s1, s2, s3, s4, s5, s6, s7, s8, s9, _⟩ := hSw
    go_simp
    try with_reducible rfl
  try simp only [Act.put, List.setIfInBounds_toArray, List.set_cons_zero, List.set_cons_succ]
  refine wpAnyH_take (i := 10) (v := ?_) (by simp only [List.getElem?_toArray, List.getElem?_cons_zero, List.getElem?_cons_succ]; exact rfl) (by kernel_rfl) (by kernel_rfl) (by kernel_rfl) (by exact fun _ _ _ h => h) (Or.inl ⟨by rfl, ?_⟩) hHeld ?_
  rotate_left
  · intro w' hSw
    obtain ⟨s0, s1, s2, s3, s4, s5, s6, s7, s8, s9, _⟩ := hSw
    go_simp
    try with_reducible rfl
  try simp only [Act.put, List.setIfInBounds_toArray, List.set_cons_zero, List.set_cons_succ]
  refine wpAnyH_take (i := 12) (v := ?_) (by simp only [List.getElem?_toArray, List.getElem?_cons_zero, List.getElem?_cons_succ]; exact rfl) (by kernel_rfl) (by kernel_rfl) (by kernel_rfl) (by exact fun _ _ _ h => h) (Or.inl ⟨by rfl, ?_⟩) hHeld ?_
  rotate_left
  · intro w' hSw
    obtain ⟨s0, s1, s2, s3, s4, s5, s6, s7, s8, s9, _⟩ := hSw
    go_simp
    try with_reducible rfl
  try simp only [Act.put, List.setIfInBounds_toArray, List.set_cons_zero, List.set_cons_succ]
  refine wpAnyH_take (i := 13) (v := ?_) (by simp only [List.getElem?_toArray, List.getElem?_cons_zero, List.getElem?_cons_succ]; exact rfl) (by kernel_rfl) (by kernel_rfl) (by kernel_rfl) (by exact fun _ _ _ h => h) (Or.inl ⟨by rfl, ?_⟩) hHeld ?_
  rotate_left
  · intro w' hSw
    obtain ⟨s0, s1, s2, s3, s4, s5, s6, s7, s8, s9, _⟩ := hSw
    go_simp
    try with_reducible rfl
  try simp only [Act.put, List.setIfInBounds_toArray, List.set_cons_zero, List.set_cons_succ]
  refine flow_go (Inv := fun listed ac W => ∃ v6 v17 v20 v23 v26 v29 v30 : Value, ac = { tmps := #[.agg #[.int .i64 x.f, .int .i64 x.t, .int .i64 x.s, .int .i64 x.a, .int .i64 x.g, .int .i64 x.w, .int .i64 x.m, .slice a len cap], .pointer (some ⟨w.heap.size, 0, none⟩), .int .i64 0, .int .i64 x.g, .pointer (some ⟨w.heap.size + 1, 0, none⟩), .pointer (some ⟨w.heap.size + 1 + 1, 0, none⟩), v6, .pointer (some ⟨w.heap.size, 4, none⟩), .int .i64 x.g, .pointer (some ⟨w.heap.size, 5, none⟩), .int .i64 x.w, .agg #[.int .i64 x.w, .int .i64 0, .int .i64 65535], .pointer (some ⟨w.heap.size, 6, none⟩), .int .i64 x.m, .agg #[.int .i64 x.m, .int .i64 0, .int .i64 65535], .pointer (some ⟨w.heap.size, 0, none⟩), .int .i64 x.f, v17, .pointer (some ⟨w.heap.size, 1, none⟩), .int .i64 x.t, v20, .pointer (some ⟨w.heap.size, 2, none⟩), .int .i64 x.s, v23, .pointer (some ⟨w.heap.size, 3, none⟩), .int .i64 x.a, v26, .agg #[.int .i64 x.w, .int .i64 0, .int .i64 65535], .agg #[.int .i64 x.m, .int .i64 0, .int .i64 65535], v29, v30, undef, undef, undef, undef, undef, undef, undef, undef, undef, undef, undef, undef, undef, undef, undef, undef, undef, undef, undef, undef, undef, undef, undef, undef, undef, undef, undef, undef, undef], defers := [] } ∧ Hid (Below W0.heap.size W0 W) ∧ Fl listed 2 (EqV v17 (.agg #[.int .i64 x.f, .int .i64 1, .int .i64 65535])) ∧ Fl listed 5 (EqV v20 (.agg #[.int .i64 x.t, .int .i64 1, .int .i64 65535])) ∧ Fl listed 8 (EqV v23 (.agg #[.int .i64 x.s, .int .i64 0, .int .i64 4294967295])) ∧ Fl listed 11 (EqV v26 (.agg #[.int .i64 x.a, .int .i64 0, .int .i64 4294967295])) ∧ Fl listed 14 (BdV W v29 6 #[.int .i64 x.f, .int .i64 1, .int .i64 65535, .int .i64 x.t, .int .i64 1, .int .i64 65535, .int .i64 x.s, .int .i64 0, .int .i64 4294967295, .int .i64 x.a, .int .i64 0, .int .i64 4294967295, .int .i64 x.w, .int .i64 0, .int .i64 65535, .int .i64 x.m, .int .i64 0, .int .i64 65535]) ∧ Fl listed 15 (EqV v30 (.bool q)) ∧ Fl listed 16 (EqV v6 (.bool q))) [2, 5, 8, 11, 14, 15, 16] (by kernel_rfl) (by kernel_rfl) ⟨_, _, _, _, _, _, _, rfl, TD, Fl.not (by kernel_rfl), Fl.not (by kernel_rfl), Fl.not (by kernel_rfl), Fl.not (by kernel_rfl), Fl.not (by kernel_rfl), Fl.not (by kernel_rfl), Fl.not (by kernel_rfl)⟩
    (FlowAll.cons [] (by simp only [List.getElem?_toArray, List.getElem?_cons_zero, List.getElem?_cons_succ]; exact rfl) (by kernel_rfl) (fun listed ac W hI hu hd K hK => ?_)
      (FlowAll.cons [] (by simp only [List.getElem?_toArray, List.getElem?_cons_zero, List.getElem?_cons_succ]; exact rfl) (by kernel_rfl) (fun listed ac W hI hu hd K hK => ?_)
      (FlowAll.cons [] (by simp only [List.getElem?_toArray, List.getElem?_cons_zero, List.getElem?_cons_succ]; exact rfl) (by kernel_rfl) (fun listed ac W hI hu hd K hK => ?_)
      (FlowAll.cons [] (by simp only [List.getElem?_toArray, List.getElem?_cons_zero, List.getElem?_cons_succ]; exact rfl) (by kernel_rfl) (fun listed ac W hI hu hd K hK => ?_)
      (FlowAll.cons [2, 5, 8, 11] (by simp only [List.getElem?_toArray, List.getElem?_cons_zero, List.getElem?_cons_succ]; exact rfl) (by kernel_rfl) (fun listed ac W hI hu hd K hK => ?_)
      (FlowAll.cons [14] (by simp only [List.getElem?_toArray, List.getElem?_cons_zero, List.getElem?_cons_succ]; exact rfl) (by kernel_rfl) (fun listed ac W hI hu hd K hK => ?_)
      (FlowAll.cons [15] (by simp only [List.getElem?_toArray, List.getElem?_cons_zero, List.getElem?_cons_succ]; exact rfl) (by kernel_rfl) (fun listed ac W hI hu hd K hK => ?_)
      FlowAll.nil)))))))
    (fun listed ac W hI hall => ?_)
  · obtain ⟨v6, v17, v20, v23, v26, v29, v30, rfl, TB, f2, f5, f8, f11, f14, f15, f16⟩ := hI
    have hnW : n0 ≤ W.heap.size := Nat.le_trans hn0 (kSize TB)
    refine want_none (by exact rfl) ?_
    go_wp2_with fail
    refine (portBound_any x.f _).mono ?_
    rintro e w' ⟨rfl, hb0⟩
    go_wp2_with fail
    have hb : Below W.heap.size W _ := hb0
    have TB' := kCall hb (kSize TB) TB
    refine hK.out _ _ (SS.out _ TB') ?_
    exact ⟨_, _, _, _, _, _, _, rfl, TB', Fl.new (EqV.rfl _), f5.keep (by decide) (keepE hb), f8.keep (by decide) (keepE hb), f11.keep (by decide) (keepE hb), f14.keep (by decide) (BdV.below hb), f15.keep (by decide) (keepE hb), f16.keep (by decide) (keepE hb)⟩
  · obtain ⟨v6, v17, v20, v23, v26, v29, v30, rfl, TB, f2, f5, f8, f11, f14, f15, f16⟩ := hI
    have hnW : n0 ≤ W.heap.size := Nat.le_trans hn0 (kSize TB)
    refine want_none (by exact rfl) ?_
    go_wp2_with fail
    refine (portBound_any x.t _).mono ?_
    rintro e w' ⟨rfl, hb0⟩
    go_wp2_with fail
    have hb : Below W.heap.size W _ := hb0
    have TB' := kCall hb (kSize TB) TB
    refine hK.out _ _ (SS.out _ TB') ?_
    exact ⟨_, _, _, _, _, _, _, rfl, TB', f2.keep (by decide) (keepE hb), Fl.new (EqV.rfl _), f8.keep (by decide) (keepE hb), f11.keep (by decide) (keepE hb), f14.keep (by decide) (BdV.below hb), f15.keep (by decide) (keepE hb), f16.keep (by decide) (keepE hb)⟩
  · obtain ⟨v6, v17, v20, v23, v26, v29, v30, rfl, TB, f2, f5, f8, f11, f14, f15, f16⟩ := hI
    have hnW : n0 ≤ W.heap.size := Nat.le_trans hn0 (kSize TB)
    refine want_none (by exact rfl) ?_
    go_wp2_with fail
    refine (seqBound_any x.s _).mono ?_
    rintro e w' ⟨rfl, hb0⟩
    go_wp2_with fail
    have hb : Below W.heap.size W _ := hb0
    have TB' := kCall hb (kSize TB) TB
    refine hK.out _ _ (SS.out _ TB') ?_
    exact ⟨_, _, _, _, _, _, _, rfl, TB', f2.keep (by decide) (keepE hb), f5.keep (by decide) (keepE hb), Fl.new (EqV.rfl _), f11.keep (by decide) (keepE hb), f14.keep (by decide) (BdV.below hb), f15.keep (by decide) (keepE hb), f16.keep (by decide) (keepE hb)⟩
  · obtain ⟨v6, v17, v20, v23, v26, v29, v30, rfl, TB, f2, f5, f8, f11, f14, f15, f16⟩ := hI
    have hnW : n0 ≤ W.heap.size := Nat.le_trans hn0 (kSize TB)
    refine want_none (by exact rfl) ?_
    go_wp2_with fail
    refine (seqBound_any x.a _).mono ?_
    rintro e w' ⟨rfl, hb0⟩
    go_wp2_with fail
    have hb : Below W.heap.size W _ := hb0
    have TB' := kCall hb (kSize TB) TB
    refine hK.out _ _ (SS.out _ TB') ?_
    exact ⟨_, _, _, _, _, _, _, rfl, TB', f2.keep (by decide) (keepE hb), f5.keep (by decide) (keepE hb), f8.keep (by decide) (keepE hb), Fl.new (EqV.rfl _), f14.keep (by decide) (BdV.below hb), f15.keep (by decide) (keepE hb), f16.keep (by decide) (keepE hb)⟩
  · obtain ⟨v6, v17, v20, v23, v26, v29, v30, rfl, TB, f2, f5, f8, f11, f14, f15, f16⟩ := hI
    have hnW : n0 ≤ W.heap.size := Nat.le_trans hn0 (kSize TB)
    obtain ⟨rfl⟩ := f2.get (hd 2 (by simp))
    obtain ⟨rfl⟩ := f5.get (hd 5 (by simp))
    obtain ⟨rfl⟩ := f8.get (hd 8 (by simp))
    obtain ⟨rfl⟩ := f11.get (hd 11 (by simp))
    refine want_none (by exact rfl) ?_
    go_wp2_with fail
    have hb : Below W.heap.size W _ := bAlloc W (.cells #[.int .i64 x.f, .int .i64 1, .int .i64 65535, .int .i64 x.t, .int .i64 1, .int .i64 65535, .int .i64 x.s, .int .i64 0, .int .i64 4294967295, .int .i64 x.a, .int .i64 0, .int .i64 4294967295, .int .i64 x.w, .int .i64 0, .int .i64 65535, .int .i64 x.m, .int .i64 0, .int .i64 65535] 73)
    have TB' := kCall hb (kSize TB) TB
    refine hK.out _ _ (SS.out _ TB') ?_
    exact ⟨_, _, _, _, _, _, _, rfl, TB', f2.keep (by decide) (keepE hb), f5.keep (by decide) (keepE hb), f8.keep (by decide) (keepE hb), f11.keep (by decide) (keepE hb), Fl.new (BdV.new _ _ _), f15.keep (by decide) (keepE hb), f16.keep (by decide) (keepE hb)⟩
  · obtain ⟨v6, v17, v20, v23, v26, v29, v30, rfl, TB, f2, f5, f8, f11, f14, f15, f16⟩ := hI
    have hnW : n0 ≤ W.heap.size := Nat.le_trans hn0 (kSize TB)
    obtain ⟨g, rfl, xG⟩ := f14.get (hd 14 (by simp))
    refine want_none (by exact rfl) ?_
    go_wp2_with fail
    refine (within6 g _ (x.f) 1 65535 (x.t) 1 65535 (x.s) 0 4294967295 (x.a) 0 4294967295 (x.w) 0 65535 (x.m) 0 65535 _ xG).mono ?_
    rintro e w' ⟨rfl, hb0⟩
    rw [← HQ.out]
    go_wp2_with fail
    have hb : Below W.heap.size W _ := hb0
    have TB' := kCall hb (kSize TB) TB
    refine hK.out _ _ (SS.out _ TB') ?_
    exact ⟨_, _, _, _, _, _, _, rfl, TB', f2.keep (by decide) (keepE hb), f5.keep (by decide) (keepE hb), f8.keep (by decide) (keepE hb), f11.keep (by decide) (keepE hb), f14.keep (by decide) (BdV.below hb), Fl.new (EqV.rfl _), f16.keep (by decide) (keepE hb)⟩
  · obtain ⟨v6, v17, v20, v23, v26, v29, v30, rfl, TB, f2, f5, f8, f11, f14, f15, f16⟩ := hI
    have hnW : n0 ≤ W.heap.size := Nat.le_trans hn0 (kSize TB)
    obtain ⟨rfl⟩ := f15.get (hd 15 (by simp))
    refine want_none (by exact rfl) ?_
    go_wp2_with fail
    refine hK.out _ _ (SS.out _ TB) ?_
    exact ⟨_, _, _, _, _, _, _, rfl, TB, f2.keep (by decide) id, f5.keep (by decide) id, f8.keep (by decide) id, f11.keep (by decide) id, f14.keep (by decide) id, f15.keep (by decide) id, Fl.new (EqV.rfl _)⟩
  obtain ⟨v6, v17, v20, v23, v26, v29, v30, rfl, TB, f2, f5, f8, f11, f14, f15, f16⟩ := hI
  have hnW : n0 ≤ W.heap.size := Nat.le_trans hn0 (kSize TB)
  obtain ⟨rfl⟩ := f16.get (hall 16 (by decide))
  have B2 := Lib.hid (B0.out.trans (TB.out.mono B0.out.size))
  have X2 := Lib.hid (X0.out.below TB.out X0.out.lt)
  obtain ⟨_, _, _, _, x3, x4, _, x6, x7⟩ := X2.out.eight
  clear X2 X0 X1 Y1 B0 SS f2 f5 f8 f11 f14 f15 f16 TB hall
  cases q
  · have HF := Lib.hid (HC.out.1 (by simp))
    go_wp2
    go_ret
    exact ⟨ret_i HF.out.symm, B2.out⟩
  cases m4 : inB x.g 0 31
  · have HF := Lib.hid (HC.out.2.1 (by simp) m4)
    rw [m4] at KW
    go_wp2_with (go_at_call 79; refine (KW.out _).mono ?_; rintro e w' ⟨rfl, rfl⟩)
    go_ret
    exact ⟨ret_i HF.out.symm, B2.out⟩
  rw [m4] at KW
  have hg : 0 ≤ x.g ∧ x.g ≤ 31 := of_decide_eq_true m4
  have HF := Lib.hid (HC.out.2.2 (by simp) m4)
  have KH := Lib.hid (fun k W (hk : oneB k = true) => has_any x.g k W hg hk)
  clear HC m4 hg
  cases m1 : (x.a != 0)
  case' true => cases m16 : flB x.g 16
  all_goals
    cases m2 : (x.m != 0)
  case' false.true => cases m12 : flB x.g 2
  case' true.true.true => cases m12 : flB x.g 2
  case' true.false.true => cases m12 : flB x.g 2
  all_goals
    rcases Nat.lt_or_ge 520 len with hl | hl
  all_goals
    first | (have hl' : len ≤ 520 := by omega) | (have hl' : ¬ len ≤ 520 := by omega)
    go_wp2_with (first | (go_at_call 79; refine (KW.out _).mono ?_; rintro e w' ⟨rfl, rfl⟩) | (go_at_call 80; refine (KH.out _ _ rfl).mono ?_; rintro e w' ⟨rfl, rfl⟩))
    go_ret
    exact ⟨ret_i (by rw [HF.out]; simp [*]), B2.out⟩
end Go.Proofs.Yteaiemckcepphaa
