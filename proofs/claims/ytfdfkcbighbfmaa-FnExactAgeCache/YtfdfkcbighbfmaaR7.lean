/-
  Rows of bounds; RouteFault of the program and of the model.
-/
import Derived.Test.YtfdfkcbighbfmaaFlow
import Derived.Test.YtfdfkcbighbfmaaD4Bd
import Derived.Test.YtfdfkcbighbfmaaFrm
namespace Go.Proofs.Ytfdfkcbighbfmaa
open Go.ChangeShapes Go.WideShapes Go.ChangeAt Go.RowKit

theorem Box.r3 {w : World} {b : Nat} {t : TypeId} {x y z : Value} (h : Box w b t #[x, y, z]) : b < w.heap.size ∧ w.cell? ⟨b, 0, none⟩ = some x ∧ w.cell? ⟨b, 1, none⟩ = some y ∧ w.cell? ⟨b, 2, none⟩ = some z := ⟨h.lt, h.cell 0, h.cell 1, h.cell 2⟩
/-- a row of n bounds, of these cells, in a block of its own -/
def B7V (W : World) (v : Value) (n : Nat) (cs : Array Value) : Prop := ∃ g, v = .slice (some ⟨g, 0, none⟩) n n ∧ Box W g 117 cs
theorem B7V.below {W W' : World} {n : Nat} {v : Value} {cs : Array Value} (hb : Below W.heap.size W W') (h : B7V W v n cs) : B7V W' v n cs := by
  obtain ⟨g, e, x⟩ := h
  exact ⟨g, e, x.below hb x.lt⟩
theorem B7V.new (W : World) (n : Nat) (cs : Array Value) : B7V (W.alloc (.cells cs 117)) (.slice (some ⟨W.heap.size, 0, none⟩) n n) n cs := ⟨_, rfl, Box.new _ _ _⟩

theorem within1r (g : Nat) (t : TypeId) (x0 l0 h0 : Int) (w : World) (h : Box w g t #[.int .i64 x0, .int .i64 l0, .int .i64 h0]) :
    Calls Try.prog 91 #[.slice (some ⟨g, 0, none⟩) 1 1] w fun e w' => e = .returned (.bool (inB x0 l0 h0)) ∧ Below w.heap.size w w' := by
  have := areWithin_any g [⟨x0, l0, h0⟩] w (by
    intro i x hx
    match i with
    | 0 => simp at hx; subst hx; exact ⟨h.cell 0, h.cell 1, h.cell 2⟩
    | k + 1 => simp at hx) (by simp)
  simpa [bdB] using this
theorem within3 (g : Nat) (t : TypeId) (x0 l0 h0 x1 l1 h1 x2 l2 h2 : Int) (w : World) (h : Box w g t #[.int .i64 x0, .int .i64 l0, .int .i64 h0, .int .i64 x1, .int .i64 l1, .int .i64 h1, .int .i64 x2, .int .i64 l2, .int .i64 h2]) :
    Calls Try.prog 91 #[.slice (some ⟨g, 0, none⟩) 3 3] w fun e w' => e = .returned (.bool (inB x0 l0 h0 && inB x1 l1 h1 && inB x2 l2 h2)) ∧ Below w.heap.size w w' := by
  have := areWithin_any g [⟨x0, l0, h0⟩, ⟨x1, l1, h1⟩, ⟨x2, l2, h2⟩] w (by
    intro i x hx
    match i with
    | 0 => simp at hx; subst hx; exact ⟨h.cell 0, h.cell 1, h.cell 2⟩
    | 1 => simp at hx; subst hx; exact ⟨h.cell 3, h.cell 4, h.cell 5⟩
    | 2 => simp at hx; subst hx; exact ⟨h.cell 6, h.cell 7, h.cell 8⟩
    | k + 3 => simp at hx) (by simp)
  simpa [bdB, Bool.and_assoc] using this

def rtB (ip bits gw : Int) : Bool := inB ip 0 4294967295 && inB bits 8 30 && inB gw 0 4294967295
def rtC (ip bits gw : Int) : Int := if rtB ip bits gw then 0 else 3

set_option maxRecDepth 20000 in
set_option maxHeartbeats 4000000 in
theorem implRouteFault (ip bits gw : Int) (w : World) :
    Calls Try.prog 46 #[.agg #[.int .i64 ip, .int .i64 bits, .int .i64 gw]] w fun e w' => e = .returned (.int .i64 (rtC ip bits gw)) ∧ Below w.heap.size w w' := by
  obtain ⟨c, hc⟩ : ∃ c, c = rtC ip bits gw := ⟨_, rfl⟩
  obtain ⟨q, hq⟩ : ∃ q, q = (inB ip 0 4294967295 && inB bits 8 30 && inB gw 0 4294967295) := ⟨_, rfl⟩
  have HC : Hid ((q = true → c = 0) ∧ (q = false → c = 3)) := by
    subst hc hq
    unfold rtC rtB
    exact ⟨fun h => by rw [if_pos h], fun h => by rw [h]; rfl⟩
  have HQ := Lib.hid hq
  rw [← hc]
  clear hc hq
  have B0 := Lib.hid (((Below.refl w.heap.size w).alloc (Nat.le_refl _) (.cells #[.int .i64 ip, .int .i64 bits, .int .i64 gw] 59)).alloc (by simp) (.cells #[.int .i64 bits, .int .i64 8, .int .i64 30] 117))
  have X0 := Lib.hid ((Box.new w 59 #[.int .i64 ip, .int .i64 bits, .int .i64 gw]).alloc (.cells #[.int .i64 bits, .int .i64 8, .int .i64 30] 117))
  have X1 := Lib.hid (Box.new (w.alloc (.cells #[.int .i64 ip, .int .i64 bits, .int .i64 gw] 59)) 117 #[.int .i64 bits, .int .i64 8, .int .i64 30])
  simp only [World.size_alloc] at X1
  go_enter Try.func46, Try.ntmps46
  go_wp2_with fail
  obtain ⟨n0, hn0⟩ : ∃ n0, n0 = w.heap.size := ⟨_, rfl⟩
  generalize (w.alloc (.cells #[.int .i64 ip, .int .i64 bits, .int .i64 gw] 59)).alloc (.cells #[.int .i64 bits, .int .i64 8, .int .i64 30] 117) = W0 at *
  have SS := Lib.hid (show ∀ W, Hid (Below W0.heap.size W0 W) → W.cell? ⟨w.heap.size, 0, none⟩ = some (.int .i64 ip) ∧ W.cell? ⟨w.heap.size, 2, none⟩ = some (.int .i64 gw) ∧ W.cell? ⟨w.heap.size + 1, 0, none⟩ = some (.int .i64 bits) ∧ W.cell? ⟨w.heap.size + 1, 1, none⟩ = some (.int .i64 8) ∧ W.cell? ⟨w.heap.size + 1, 2, none⟩ = some (.int .i64 30) ∧ Hid (Below W0.heap.size W0 W) from fun W h => by
    obtain ⟨_, x0, x1, x2⟩ := (X0.out.below h.out X0.out.lt).r3
    obtain ⟨_, y0, y1, y2⟩ := (X1.out.below h.out X1.out.lt).r3
    exact ⟨x0, x2, y0, y1, y2, h⟩)
  have T1 := Lib.hid (Below.refl W0.heap.size W0)
  have hnn := Lib.hid hn0
  have hn0 : n0 ≤ W0.heap.size := by rw [hnn.out]; exact B0.out.size
  have TD := kDrew T1
  refine wp_region_held_drew (S := fun W => W.cell? ⟨w.heap.size, 0, none⟩ = some (.int .i64 ip) ∧ W.cell? ⟨w.heap.size, 2, none⟩ = some (.int .i64 gw) ∧ W.cell? ⟨w.heap.size + 1, 0, none⟩ = some (.int .i64 bits) ∧ W.cell? ⟨w.heap.size + 1, 1, none⟩ = some (.int .i64 8) ∧ W.cell? ⟨w.heap.size + 1, 2, none⟩ = some (.int .i64 30) ∧ Hid (Below W0.heap.size W0 W)) (by kernel_rfl) (SS.out _ TD) (fun hHeld => ?_)
  refine wpAnyH_take (i := 0) (v := ?_) (by simp only [List.getElem?_toArray, List.getElem?_cons_zero]; exact rfl) (by kernel_rfl) (by kernel_rfl) (by kernel_rfl) (by exact fun _ _ _ h => h) (Or.inl ⟨by rfl, ?_⟩) hHeld ?_
  rotate_left
  · intro w' hSw
    obtain ⟨s0, s1, s2, s3, s4, _⟩ := hSw
    go_simp
    try with_reducible rfl
  try simp only [Act.put, List.setIfInBounds_toArray, List.set_cons_zero, List.set_cons_succ]
  refine wpAnyH_take (i := 1) (v := ?_) (by simp only [List.getElem?_toArray, List.getElem?_cons_zero, List.getElem?_cons_succ]; exact rfl) (by kernel_rfl) (by kernel_rfl) (by kernel_rfl) (by exact fun _ _ _ h => h) (Or.inl ⟨by rfl, ?_⟩) hHeld ?_
  rotate_left
  · intro w' hSw
    obtain ⟨s0, s1, s2, s3, s4, _⟩ := hSw
    go_simp
    try with_reducible rfl
  try simp only [Act.put, List.setIfInBounds_toArray, List.set_cons_zero, List.set_cons_succ]
  refine wpAnyH_take (i := 3) (v := ?_) (by simp only [List.getElem?_toArray, List.getElem?_cons_zero, List.getElem?_cons_succ]; exact rfl) (by kernel_rfl) (by kernel_rfl) (by kernel_rfl) (by exact fun _ _ _ h => h) (Or.inl ⟨by rfl, ?_⟩) hHeld ?_
  rotate_left
  · intro w' hSw
    obtain ⟨s0, s1, s2, s3, s4, _⟩ := hSw
    go_simp
    try with_reducible rfl
  try simp only [Act.put, List.setIfInBounds_toArray, List.set_cons_zero, List.set_cons_succ]
  refine wpAnyH_take (i := 4) (v := ?_) (by simp only [List.getElem?_toArray, List.getElem?_cons_zero, List.getElem?_cons_succ]; exact rfl) (by kernel_rfl) (by kernel_rfl) (by kernel_rfl) (by exact fun _ _ _ h => h) (Or.inl ⟨by rfl, ?_⟩) hHeld ?_
  rotate_left
  · intro w' hSw
    obtain ⟨s0, s1, s2, s3, s4, _⟩ := hSw
    go_simp
    try with_reducible rfl
  try simp only [Act.put, List.setIfInBounds_toArray, List.set_cons_zero, List.set_cons_succ]
  refine wpAnyH_take (i := 5) (v := ?_) (by simp only [List.getElem?_toArray, List.getElem?_cons_zero, List.getElem?_cons_succ]; exact rfl) (by kernel_rfl) (by kernel_rfl) (by kernel_rfl) (by exact fun _ _ _ h => h) (Or.inl ⟨by rfl, ?_⟩) hHeld ?_
  rotate_left
  · intro w' hSw
    obtain ⟨s0, s1, s2, s3, s4, _⟩ := hSw
    go_simp
    try with_reducible rfl
  try simp only [Act.put, List.setIfInBounds_toArray, List.set_cons_zero, List.set_cons_succ]
  refine flow_go (Inv := fun listed ac W => ∃ v9 v13 v14 v15 v16 : Value, ac = { tmps := #[.agg #[.int .i64 ip, .int .i64 bits, .int .i64 gw], .pointer (some ⟨w.heap.size, 0, none⟩), .int .i64 0, .pointer (some ⟨w.heap.size + 1, 0, none⟩), .pointer (some ⟨w.heap.size, 1, none⟩), .int .i64 bits, .agg #[.int .i64 bits, .int .i64 8, .int .i64 30], .pointer (some ⟨w.heap.size, 0, none⟩), .int .i64 ip, v9, .agg #[.int .i64 bits, .int .i64 8, .int .i64 30], .pointer (some ⟨w.heap.size, 2, none⟩), .int .i64 gw, v13, v14, v15, v16], defers := [] } ∧ Hid (Below W0.heap.size W0 W) ∧ Fl listed 2 (EqV v9 (.agg #[.int .i64 ip, .int .i64 0, .int .i64 4294967295])) ∧ Fl listed 6 (EqV v13 (.agg #[.int .i64 gw, .int .i64 0, .int .i64 4294967295])) ∧ Fl listed 7 (B7V W v14 3 #[.int .i64 ip, .int .i64 0, .int .i64 4294967295, .int .i64 bits, .int .i64 8, .int .i64 30, .int .i64 gw, .int .i64 0, .int .i64 4294967295]) ∧ Fl listed 8 (EqV v15 (.bool q)) ∧ Fl listed 9 (EqV v16 (.bool (!q)))) [2, 6, 7, 8, 9] (by kernel_rfl) (by kernel_rfl) ⟨_, _, _, _, _, rfl, TD, Fl.not (by kernel_rfl), Fl.not (by kernel_rfl), Fl.not (by kernel_rfl), Fl.not (by kernel_rfl), Fl.not (by kernel_rfl)⟩
    (FlowAll.cons [] (by simp only [List.getElem?_toArray, List.getElem?_cons_zero, List.getElem?_cons_succ]; exact rfl) (by kernel_rfl) (fun listed ac W hI hu hd K hK => ?_)
      (FlowAll.cons [] (by simp only [List.getElem?_toArray, List.getElem?_cons_zero, List.getElem?_cons_succ]; exact rfl) (by kernel_rfl) (fun listed ac W hI hu hd K hK => ?_)
      (FlowAll.cons [2, 6] (by simp only [List.getElem?_toArray, List.getElem?_cons_zero, List.getElem?_cons_succ]; exact rfl) (by kernel_rfl) (fun listed ac W hI hu hd K hK => ?_)
      (FlowAll.cons [7] (by simp only [List.getElem?_toArray, List.getElem?_cons_zero, List.getElem?_cons_succ]; exact rfl) (by kernel_rfl) (fun listed ac W hI hu hd K hK => ?_)
      (FlowAll.cons [8] (by simp only [List.getElem?_toArray, List.getElem?_cons_zero, List.getElem?_cons_succ]; exact rfl) (by kernel_rfl) (fun listed ac W hI hu hd K hK => ?_)
      FlowAll.nil)))))
    (fun listed ac W hI hall => ?_)
  · obtain ⟨v9, v13, v14, v15, v16, rfl, TB, f2, f6, f7, f8, f9⟩ := hI
    have hnW : n0 ≤ W.heap.size := Nat.le_trans hn0 (kSize TB)
    refine want_none (by exact rfl) ?_
    go_wp2_with fail
    refine (ipBound_any ip _).mono ?_
    rintro e w' ⟨rfl, hb0⟩
    go_wp2_with fail
    have hb : Below W.heap.size W _ := hb0
    have TB' := kCall hb (kSize TB) TB
    refine hK.out _ _ (SS.out _ TB') ?_
    exact ⟨_, _, _, _, _, rfl, TB', Fl.new (EqV.rfl _), f6.keep (by decide) (keepE hb), f7.keep (by decide) (B7V.below hb), f8.keep (by decide) (keepE hb), f9.keep (by decide) (keepE hb)⟩
  · obtain ⟨v9, v13, v14, v15, v16, rfl, TB, f2, f6, f7, f8, f9⟩ := hI
    have hnW : n0 ≤ W.heap.size := Nat.le_trans hn0 (kSize TB)
    refine want_none (by exact rfl) ?_
    go_wp2_with fail
    refine (ipBound_any gw _).mono ?_
    rintro e w' ⟨rfl, hb0⟩
    go_wp2_with fail
    have hb : Below W.heap.size W _ := hb0
    have TB' := kCall hb (kSize TB) TB
    refine hK.out _ _ (SS.out _ TB') ?_
    exact ⟨_, _, _, _, _, rfl, TB', f2.keep (by decide) (keepE hb), Fl.new (EqV.rfl _), f7.keep (by decide) (B7V.below hb), f8.keep (by decide) (keepE hb), f9.keep (by decide) (keepE hb)⟩
  · obtain ⟨v9, v13, v14, v15, v16, rfl, TB, f2, f6, f7, f8, f9⟩ := hI
    have hnW : n0 ≤ W.heap.size := Nat.le_trans hn0 (kSize TB)
    obtain ⟨rfl⟩ := f2.get (hd 2 (by simp))
    obtain ⟨rfl⟩ := f6.get (hd 6 (by simp))
    refine want_none (by exact rfl) ?_
    go_wp2_with fail
    have hb : Below W.heap.size W _ := bAlloc W (.cells #[.int .i64 ip, .int .i64 0, .int .i64 4294967295, .int .i64 bits, .int .i64 8, .int .i64 30, .int .i64 gw, .int .i64 0, .int .i64 4294967295] 117)
    have TB' := kCall hb (kSize TB) TB
    refine hK.out _ _ (SS.out _ TB') ?_
    exact ⟨_, _, _, _, _, rfl, TB', f2.keep (by decide) (keepE hb), f6.keep (by decide) (keepE hb), Fl.new (B7V.new _ _ _), f8.keep (by decide) (keepE hb), f9.keep (by decide) (keepE hb)⟩
  · obtain ⟨v9, v13, v14, v15, v16, rfl, TB, f2, f6, f7, f8, f9⟩ := hI
    have hnW : n0 ≤ W.heap.size := Nat.le_trans hn0 (kSize TB)
    obtain ⟨g, rfl, xG⟩ := f7.get (hd 7 (by simp))
    refine want_none (by exact rfl) ?_
    go_wp2_with fail
    refine (within3 g _ ip 0 4294967295 bits 8 30 gw 0 4294967295 _ xG).mono ?_
    rintro e w' ⟨rfl, hb0⟩
    rw [← HQ.out]
    go_wp2_with fail
    have hb : Below W.heap.size W _ := hb0
    have TB' := kCall hb (kSize TB) TB
    refine hK.out _ _ (SS.out _ TB') ?_
    exact ⟨_, _, _, _, _, rfl, TB', f2.keep (by decide) (keepE hb), f6.keep (by decide) (keepE hb), f7.keep (by decide) (B7V.below hb), Fl.new (EqV.rfl _), f9.keep (by decide) (keepE hb)⟩
  · obtain ⟨v9, v13, v14, v15, v16, rfl, TB, f2, f6, f7, f8, f9⟩ := hI
    have hnW : n0 ≤ W.heap.size := Nat.le_trans hn0 (kSize TB)
    obtain ⟨rfl⟩ := f8.get (hd 8 (by simp))
    refine want_none (by exact rfl) ?_
    go_wp2_with fail
    refine hK.out _ _ (SS.out _ TB) ?_
    exact ⟨_, _, _, _, _, rfl, TB, f2.keep (by decide) id, f6.keep (by decide) id, f7.keep (by decide) id, f8.keep (by decide) id, Fl.new (EqV.rfl _)⟩
  · obtain ⟨v9, v13, v14, v15, v16, rfl, TB, f2, f6, f7, f8, f9⟩ := hI
    have hnW : n0 ≤ W.heap.size := Nat.le_trans hn0 (kSize TB)
    obtain ⟨rfl⟩ := f9.get (hall 9 (by decide))
    have B2 := Lib.hid (B0.out.trans (TB.out.mono B0.out.size))
    clear X0 X1 B0 SS f2 f6 f7 f8 f9 TB hall
    cases q
    · go_wp2
      go_ret
      exact ⟨ret_i (HC.out.2 (by simp)).symm, B2.out⟩
    · go_wp2
      go_ret
      exact ⟨ret_i (HC.out.1 (by simp)).symm, B2.out⟩

set_option maxHeartbeats 1000000 in
theorem specRouteFault (ip bits gw : Int) (w : World) :
    Calls Try.prog 47 #[.agg #[.int .i64 ip, .int .i64 bits, .int .i64 gw]] w fun e w' => e = .returned (.int .i64 (rtC ip bits gw)) ∧ Below w.heap.size w w' := by
  have H : Hid (rtC ip bits gw = if ipB ip && inB bits 8 30 && ipB gw then 0 else 3) := rfl
  generalize rtC ip bits gw = c at *
  cases m0 : ipB ip
  case' true => cases m1 : inB bits 8 30
  case' true.true => cases m2 : ipB gw
  all_goals
    go_enter Try.func47, Try.ntmps47
    go_wp2_with (first | (go_at_call 83; refine (l1In_any _ _ _ _).mono ?_; rintro e w' ⟨rfl, rfl⟩) | (go_at_call 100; refine (l2Ip_any _ _).mono ?_; rintro e w' ⟨rfl, rfl⟩))
    go_ret
    exact ⟨ret_i (by rw [H.out]; simp [*]), (Below.refl _ _).alloc (Nat.le_refl _) _⟩
end Go.Proofs.Ytfdfkcbighbfmaa
