/-
  segmentIn and ReadSegment of the program, and the law of ReadSegment.
-/
import Derived.Test.YteaiemckcepphaaG5Op
import Derived.Test.YteaiemckcepphaaG5Pk
import Derived.Test.YteaiemckcepphaaSgA
import Derived.Test.YteaiemckcepphaaMC
namespace Go.Proofs.Yteaiemckcepphaa
open Go.ChangeShapes Go.WideShapes Go.ChangeAt Go.RowKit

/-- a segment of these numbers and bytes of its own -/
def SgOut (w : World) (x : Sg) (ys : List Int) (e : Ending) (w' : World) : Prop :=
  ∃ a' l' c', e = .returned (.agg #[.int .i64 x.f, .int .i64 x.t, .int .i64 x.s, .int .i64 x.a, .int .i64 x.g, .int .i64 x.w, .int .i64 x.m, .slice a' l' c']) ∧ Own w' w.heap.size a' l' c' ys ∧ Below w.heap.size w w'
theorem rd_none20 {W : World} {ba off : Nat} {zs : List Int} (hr : Rd W (some ⟨ba, off, none⟩) 20 20 zs) : Rd W (some ⟨ba, off, none⟩) 0 0 ((zs.drop 20).take (20 - 20)) := by
  have := (rd_end hr).upto 0 (Nat.le_refl _)
  simpa using this

set_option maxRecDepth 20000 in
set_option maxHeartbeats 8000000 in
theorem segmentIn_1 (a : Option Addr) (len cap h : Nat) (ms : Int) (zs : List Int) (w : World) (hr : Rd w a len cap zs) (h1 : 20 ≤ h) (h2 : h ≤ len) (h3 : len ≤ 560) (hcap : ¬ cap = h) :
    Calls Try.prog 71 #[.slice a len cap, .int .i64 h, .int .i64 ms] w (SgOut w (rsG zs ms) (zs.drop h)) := by
  have hle := hr.le
  have hmx := hr.max
  unfold maxLen at hmx
  rcases hr.cells with h0 | ⟨ba, off, rfl, hc⟩
  · omega
  have i1 : (h : Int) ≤ cap := by omega
  have i3 : (h : Int) ≤ len := by omega
  have i4 : (13 : Int) < len := by omega
  have hfi := fld_ir
  obtain ⟨ys, hys⟩ : ∃ ys, zs.drop h = ys := ⟨_, rfl⟩
  obtain ⟨p0, hp0⟩ : ∃ m, rdTo zs 0 2 = m := ⟨_, rfl⟩
  obtain ⟨p2, hp2⟩ : ∃ m, rdTo zs 2 2 = m := ⟨_, rfl⟩
  obtain ⟨p4, hp4⟩ : ∃ m, rdTo zs 4 4 = m := ⟨_, rfl⟩
  obtain ⟨p8, hp8⟩ : ∃ m, rdTo zs 8 4 = m := ⟨_, rfl⟩
  obtain ⟨p14, hp14⟩ : ∃ m, rdTo zs 14 2 = m := ⟨_, rfl⟩
  obtain ⟨y, hy⟩ : ∃ y, zs.getD 13 0 = y := ⟨_, rfl⟩
  have hyb := hr.getD_bd 13
  rw [hy] at hyb
  obtain ⟨g, hg⟩ : ∃ g, y % 32 = g := ⟨_, rfl⟩
  have hgb : 0 ≤ g ∧ g ≤ 31 := by omega
  have hym : y.tmod 32 = g := by rw [Int.tmod_eq_emod_of_nonneg hyb.1]; exact hg
  have hgu : IntKind.u8.wrap g = g := u8_in _ (by omega)
  have hgw : IntKind.i64.wrap g = g := IntWalk.i64_in _ (by omega)
  obtain ⟨X, hX⟩ : ∃ X, X = rsG zs ms := ⟨_, rfl⟩
  have HX : Hid (∀ b c, flB g 16 = b → flB g 2 = c → X = ⟨p0, p2, p4, if b then p8 else 0, g, p14, if c then ms else 0⟩) := fun b c hb hc' => by rw [hX]; unfold rsG; rw [hy, hg, hp0, hp2, hp4, hp8, hp14, hb, hc']
  have KH := Lib.hid (show ∀ k W, oneB k = true → Calls Try.prog 80 #[.int .i64 g, .int .i64 k] W fun e w' => e = .returned (.bool (flB g k)) ∧ W = w' from fun k W hk => (has_any g k W hgb hk).mono (fun e w' q => ⟨q.1, q.2.symm⟩))
  have K0 := Lib.hid (fun W (hW : Below w.heap.size w W) => readWord_l4 _ len cap 0 2 0 2 p0 zs W (hr.below hW) rfl rfl (by omega) (by omega) (by omega) hp0)
  have K2 := Lib.hid (fun W (hW : Below w.heap.size w W) => readWord_l4 _ len cap 2 2 2 2 p2 zs W (hr.below hW) rfl rfl (by omega) (by omega) (by omega) hp2)
  have K4 := Lib.hid (fun W (hW : Below w.heap.size w W) => readWord_l4 _ len cap 4 4 4 4 p4 zs W (hr.below hW) rfl rfl (by omega) (by omega) (by omega) hp4)
  have K8 := Lib.hid (fun W (hW : Below w.heap.size w W) => readWord_l4 _ len cap 8 4 8 4 p8 zs W (hr.below hW) rfl rfl (by omega) (by omega) (by omega) hp8)
  have K14 := Lib.hid (fun W (hW : Below w.heap.size w W) => readWord_l4 _ len cap 14 2 14 2 p14 zs W (hr.below hW) rfl rfl (by omega) (by omega) (by omega) hp14)
  have HD := Lib.hid (show ∀ W, Below w.heap.size w W → Rd W (some ⟨ba, off + h, none⟩) (len - h) (cap - h) ys from fun W hW => by rw [← hys]; exact (hr.below hW).from h _ _ _ (by omega) rfl rfl rfl)
  have KD := Lib.hid (fun W (hW : Below w.heap.size w W) => bclone_any (some ⟨ba, off + h, none⟩) (len - h) (cap - h) ys W (HD.out W hW) (by omega))
  have SS := Lib.hid (show ∀ W, Hid (Below w.heap.size w W) → Hid (Below w.heap.size w W) from fun W h => h)
  have BB := Lib.hid ((Below.refl w.heap.size w).alloc (Nat.le_refl _) (.cells #[.int .i64 0, .int .i64 0, .int .i64 0, .int .i64 0, .int .i64 0, .int .i64 0, .int .i64 0, .slice none 0 0] 25))
  have X0 := Lib.hid (Box.new w 25 #[.int .i64 0, .int .i64 0, .int .i64 0, .int .i64 0, .int .i64 0, .int .i64 0, .int .i64 0, .slice none 0 0])
  have c13 : (w.alloc (.cells #[.int .i64 0, .int .i64 0, .int .i64 0, .int .i64 0, .int .i64 0, .int .i64 0, .int .i64 0, .slice none 0 0] 25)).cell? ⟨ba, off + 13, none⟩ = some (.int .u8 y) := by rw [← hy]; exact keepB' BB.out (hc 13 (by omega))
  rw [← hX, hys]
  have htU : 25 ≠ 5 := by decide
  clear hr hc hp0 hp2 hp4 hp8 hp14 hys hy hg hX HD
  have hrn : w.heap.size < w.heap.size + 1 := Nat.lt_succ_self _
  have hn1 : w.heap.size ≤ w.heap.size + 1 := Nat.le_succ _
  generalize hn0 : w.heap.size + 1 = n0 at hrn hn1
  go_enter Try.func71, Try.ntmps71
  go_wp2_with fail
  clear c13
  have TD := kDrew BB
  refine wp_region_held_drew (S := fun W => Hid (Below w.heap.size w W)) (by kernel_rfl) (SS.out _ TD) (fun hHeld => ?_)
  refine wpAnyH_take (i := 0) (v := ?_) (by simp only [List.getElem?_toArray, List.getElem?_cons_zero]; exact rfl) (by kernel_rfl) (by kernel_rfl) (by kernel_rfl) (by exact fun _ _ _ h => h) (Or.inl ⟨by rfl, ?_⟩) hHeld ?_
  rotate_left
  · intro w' hSw
    obtain _s := hSw
    go_simp
    try with_reducible rfl
  try simp only [Act.put, List.setIfInBounds_toArray, List.set_cons_zero, List.set_cons_succ]
  refine wpAnyH_take (i := 3) (v := ?_) (by simp only [List.getElem?_toArray, List.getElem?_cons_zero, List.getElem?_cons_succ]; exact rfl) (by kernel_rfl) (by kernel_rfl) (by kernel_rfl) (by exact fun _ _ _ h => h) (Or.inl ⟨by rfl, ?_⟩) hHeld ?_
  rotate_left
  · intro w' hSw
    obtain _s := hSw
    go_simp
    try with_reducible rfl
  try simp only [Act.put, List.setIfInBounds_toArray, List.set_cons_zero, List.set_cons_succ]
  refine wpAnyH_take (i := 6) (v := ?_) (by simp only [List.getElem?_toArray, List.getElem?_cons_zero, List.getElem?_cons_succ]; exact rfl) (by kernel_rfl) (by kernel_rfl) (by kernel_rfl) (by exact fun _ _ _ h => h) (Or.inl ⟨by rfl, ?_⟩) hHeld ?_
  rotate_left
  · intro w' hSw
    obtain _s := hSw
    go_simp
    try with_reducible rfl
  try simp only [Act.put, List.setIfInBounds_toArray, List.set_cons_zero, List.set_cons_succ]
  refine wpAnyH_take (i := 9) (v := ?_) (by simp only [List.getElem?_toArray, List.getElem?_cons_zero, List.getElem?_cons_succ]; exact rfl) (by kernel_rfl) (by kernel_rfl) (by kernel_rfl) (by exact fun _ _ _ h => h) (Or.inl ⟨by rfl, ?_⟩) hHeld ?_
  rotate_left
  · intro w' hSw
    obtain _s := hSw
    go_simp
    try with_reducible rfl
  try simp only [Act.put, List.setIfInBounds_toArray, List.set_cons_zero, List.set_cons_succ]
  refine wpAnyH_take (i := 10) (v := ?_) (by simp only [List.getElem?_toArray, List.getElem?_cons_zero, List.getElem?_cons_succ]; exact rfl) (by kernel_rfl) (by kernel_rfl) (by kernel_rfl) (by exact fun _ _ _ h => h) (Or.inl ⟨by rfl, ?_⟩) hHeld ?_
  rotate_left
  · intro w' hSw
    obtain _s := hSw
    go_simp
    try with_reducible rfl
  try simp only [Act.put, List.setIfInBounds_toArray, List.set_cons_zero, List.set_cons_succ]
  refine wpAnyH_take (i := 13) (v := ?_) (by simp only [List.getElem?_toArray, List.getElem?_cons_zero, List.getElem?_cons_succ]; exact rfl) (by kernel_rfl) (by kernel_rfl) (by kernel_rfl) (by exact fun _ _ _ h => h) (Or.inl ⟨by rfl, ?_⟩) hHeld ?_
  rotate_left
  · intro w' hSw
    obtain _s := hSw
    go_simp
    try with_reducible rfl
  try simp only [Act.put, List.setIfInBounds_toArray, List.set_cons_zero, List.set_cons_succ]
  refine wpAnyH_take (i := 14) (v := ?_) (by simp only [List.getElem?_toArray, List.getElem?_cons_zero, List.getElem?_cons_succ]; exact rfl) (by kernel_rfl) (by kernel_rfl) (by kernel_rfl) (by exact fun _ _ _ h => h) (Or.inl ⟨by rfl, ?_⟩) hHeld ?_
  rotate_left
  · intro w' hSw
    obtain _s := hSw
    go_simp
    try with_reducible rfl
  try simp only [Act.put, List.setIfInBounds_toArray, List.set_cons_zero, List.set_cons_succ]
  refine wpAnyH_take (i := 15) (v := ?_) (by simp only [List.getElem?_toArray, List.getElem?_cons_zero, List.getElem?_cons_succ]; exact rfl) (by kernel_rfl) (by kernel_rfl) (by kernel_rfl) (by exact fun _ _ _ h => h) (Or.inl ⟨by rfl, ?_⟩) hHeld ?_
  rotate_left
  · intro w' hSw
    obtain _s := hSw
    go_simp
    try with_reducible rfl
  try simp only [Act.put, List.setIfInBounds_toArray, List.set_cons_zero, List.set_cons_succ]
  refine flow_go (Inv := fun listed ac W => ∃ v8 v15 v16 v18 v19 v21 v22 v25 v26 v30 v31 : Value, ac = { tmps := #[.slice (some ⟨ba, off, none⟩) len cap, .int .i64 h, .int .i64 ms, _, _, _, .pointer (some ⟨w.heap.size, 0, none⟩), .int .i64 g, v8, _, _, _, _, _, .slice (some ⟨ba, off, none⟩) len cap, v15, v16, .slice (some ⟨ba, off, none⟩) len cap, v18, v19, .slice (some ⟨ba, off, none⟩) len cap, v21, v22, .int .i64 g, .slice (some ⟨ba, off, none⟩) len cap, v25, v26, .slice (some ⟨ba, off, none⟩) len cap, .int .i64 h, .slice (some ⟨ba, off + h, none⟩) (len - h) (cap - h), v30, v31, _, _, _, _, _, _, _, _, _, _, _], defers := [] } ∧ Hid (Below w.heap.size w W) ∧ Hid (∃ vs : Array Value, Box W w.heap.size 25 vs ∧ vs.size = 8) ∧ Fl listed 1 (EqV v15 (.agg #[.int .i64 0, .int .i64 p0])) ∧ Fl listed 2 (EqV v16 (.int .i64 p0)) ∧ Fl listed 4 (EqV v18 (.agg #[.int .i64 0, .int .i64 p2])) ∧ Fl listed 5 (EqV v19 (.int .i64 p2)) ∧ Fl listed 7 (EqV v21 (.agg #[.int .i64 0, .int .i64 p4])) ∧ Fl listed 8 (EqV v22 (.int .i64 p4)) ∧ Fl listed 11 (EqV v25 (.agg #[.int .i64 0, .int .i64 p14])) ∧ Fl listed 12 (EqV v26 (.int .i64 p14)) ∧ Fl listed 16 (SlV W n0 v30 (len - h) ys) ∧ Fl listed 17 (AgV W n0 v31 #[.int .i64 p0, .int .i64 p2, .int .i64 p4, .int .i64 0, .int .i64 g, .int .i64 p14, .int .i64 0] (len - h) ys) ∧ Fl listed 18 (AlV W n0 v8 25 8) ∧ Fl listed 19 (StV W n0 n0 v8 25 #[.int .i64 p0, .int .i64 p2, .int .i64 p4, .int .i64 0, .int .i64 g, .int .i64 p14, .int .i64 0] (len - h) ys ∧ listed.getD 18 false = true)) [1, 2, 4, 5, 7, 8, 11, 12, 16, 17, 18, 19] (by kernel_rfl) (by kernel_rfl) ⟨_, _, _, _, _, _, _, _, _, _, _, rfl, TD, ⟨_, (show Box _ _ _ _ from X0.out), rfl⟩, Fl.not (by kernel_rfl), Fl.not (by kernel_rfl), Fl.not (by kernel_rfl), Fl.not (by kernel_rfl), Fl.not (by kernel_rfl), Fl.not (by kernel_rfl), Fl.not (by kernel_rfl), Fl.not (by kernel_rfl), Fl.not (by kernel_rfl), Fl.not (by kernel_rfl), Fl.not (by kernel_rfl), Fl.not (by kernel_rfl)⟩
    (FlowAll.cons [] (by simp only [List.getElem?_toArray, List.getElem?_cons_zero, List.getElem?_cons_succ]; exact rfl) (by kernel_rfl) (fun listed ac W hI hu hd K hK => ?_)
      (FlowAll.cons [1] (by simp only [List.getElem?_toArray, List.getElem?_cons_zero, List.getElem?_cons_succ]; exact rfl) (by kernel_rfl) (fun listed ac W hI hu hd K hK => ?_)
      (FlowAll.cons [] (by simp only [List.getElem?_toArray, List.getElem?_cons_zero, List.getElem?_cons_succ]; exact rfl) (by kernel_rfl) (fun listed ac W hI hu hd K hK => ?_)
      (FlowAll.cons [4] (by simp only [List.getElem?_toArray, List.getElem?_cons_zero, List.getElem?_cons_succ]; exact rfl) (by kernel_rfl) (fun listed ac W hI hu hd K hK => ?_)
      (FlowAll.cons [] (by simp only [List.getElem?_toArray, List.getElem?_cons_zero, List.getElem?_cons_succ]; exact rfl) (by kernel_rfl) (fun listed ac W hI hu hd K hK => ?_)
      (FlowAll.cons [7] (by simp only [List.getElem?_toArray, List.getElem?_cons_zero, List.getElem?_cons_succ]; exact rfl) (by kernel_rfl) (fun listed ac W hI hu hd K hK => ?_)
      (FlowAll.cons [] (by simp only [List.getElem?_toArray, List.getElem?_cons_zero, List.getElem?_cons_succ]; exact rfl) (by kernel_rfl) (fun listed ac W hI hu hd K hK => ?_)
      (FlowAll.cons [11] (by simp only [List.getElem?_toArray, List.getElem?_cons_zero, List.getElem?_cons_succ]; exact rfl) (by kernel_rfl) (fun listed ac W hI hu hd K hK => ?_)
      (FlowAll.cons [] (by simp only [List.getElem?_toArray, List.getElem?_cons_zero, List.getElem?_cons_succ]; exact rfl) (by kernel_rfl) (fun listed ac W hI hu hd K hK => ?_)
      (FlowAll.cons [2, 5, 8, 12, 16] (by simp only [List.getElem?_toArray, List.getElem?_cons_zero, List.getElem?_cons_succ]; exact rfl) (by kernel_rfl) (fun listed ac W hI hu hd K hK => ?_)
      (FlowAll.cons [] (by simp only [List.getElem?_toArray, List.getElem?_cons_zero, List.getElem?_cons_succ]; exact rfl) (by kernel_rfl) (fun listed ac W hI hu hd K hK => ?_)
      (FlowAll.cons [18, 17] (by simp only [List.getElem?_toArray, List.getElem?_cons_zero, List.getElem?_cons_succ]; exact rfl) (by kernel_rfl) (fun listed ac W hI hu hd K hK => ?_)
      FlowAll.nil))))))))))))
    (fun listed ac W hI hall => ?_)
  · obtain ⟨v8, v15, v16, v18, v19, v21, v22, v25, v26, v30, v31, rfl, TB, XB, f1, f2, f4, f5, f7, f8, f11, f12, f16, f17, f18, f19⟩ := hI
    obtain ⟨vsR, xR, sR⟩ := XB.out
    have hnW : n0 ≤ W.heap.size := by have := xR.lt; omega
    refine want_none (by exact rfl) ?_
    go_wp2_with fail
    refine (K0.out _ TB.out).mono ?_
    rintro e w' ⟨rfl, hb0⟩
    go_wp2_with fail
    have hb : Below W.heap.size W _ := hb0
    have TB' := kCall hb (kSize TB) TB
    refine hK.out _ _ (SS.out _ TB') ?_
    exact ⟨_, _, _, _, _, _, _, _, _, _, _, rfl, TB', ⟨_, xR.below hb xR.lt, sR⟩, Fl.new (EqV.rfl _), f2.keep (by decide) (keepE hb), f4.keep (by decide) (keepE hb), f5.keep (by decide) (keepE hb), f7.keep (by decide) (keepE hb), f8.keep (by decide) (keepE hb), f11.keep (by decide) (keepE hb), f12.keep (by decide) (keepE hb), f16.keep (by decide) (SlV.below hb), f17.keep (by decide) (AgV.below hb), f18.keep (by decide) (AlV.below hb), f19.keep (by decide) (fun h => ⟨StV.below hb h.1, getD_set_true h.2⟩)⟩
  · obtain ⟨v8, v15, v16, v18, v19, v21, v22, v25, v26, v30, v31, rfl, TB, XB, f1, f2, f4, f5, f7, f8, f11, f12, f16, f17, f18, f19⟩ := hI
    obtain ⟨vsR, xR, sR⟩ := XB.out
    have hnW : n0 ≤ W.heap.size := by have := xR.lt; omega
    obtain ⟨rfl⟩ := f1.get (hd 1 (by simp))
    refine want_none (by exact rfl) ?_
    go_wp2_with fail
    refine hK.out _ _ (SS.out _ TB) ?_
    exact ⟨_, _, _, _, _, _, _, _, _, _, _, rfl, TB, XB, f1.keep (by decide) id, Fl.new (EqV.rfl _), f4.keep (by decide) id, f5.keep (by decide) id, f7.keep (by decide) id, f8.keep (by decide) id, f11.keep (by decide) id, f12.keep (by decide) id, f16.keep (by decide) id, f17.keep (by decide) id, f18.keep (by decide) id, f19.keep (by decide) (fun h => ⟨h.1, getD_set_true h.2⟩)⟩
  · obtain ⟨v8, v15, v16, v18, v19, v21, v22, v25, v26, v30, v31, rfl, TB, XB, f1, f2, f4, f5, f7, f8, f11, f12, f16, f17, f18, f19⟩ := hI
    obtain ⟨vsR, xR, sR⟩ := XB.out
    have hnW : n0 ≤ W.heap.size := by have := xR.lt; omega
    refine want_none (by exact rfl) ?_
    go_wp2_with fail
    refine (K2.out _ TB.out).mono ?_
    rintro e w' ⟨rfl, hb0⟩
    go_wp2_with fail
    have hb : Below W.heap.size W _ := hb0
    have TB' := kCall hb (kSize TB) TB
    refine hK.out _ _ (SS.out _ TB') ?_
    exact ⟨_, _, _, _, _, _, _, _, _, _, _, rfl, TB', ⟨_, xR.below hb xR.lt, sR⟩, f1.keep (by decide) (keepE hb), f2.keep (by decide) (keepE hb), Fl.new (EqV.rfl _), f5.keep (by decide) (keepE hb), f7.keep (by decide) (keepE hb), f8.keep (by decide) (keepE hb), f11.keep (by decide) (keepE hb), f12.keep (by decide) (keepE hb), f16.keep (by decide) (SlV.below hb), f17.keep (by decide) (AgV.below hb), f18.keep (by decide) (AlV.below hb), f19.keep (by decide) (fun h => ⟨StV.below hb h.1, getD_set_true h.2⟩)⟩
  · obtain ⟨v8, v15, v16, v18, v19, v21, v22, v25, v26, v30, v31, rfl, TB, XB, f1, f2, f4, f5, f7, f8, f11, f12, f16, f17, f18, f19⟩ := hI
    obtain ⟨vsR, xR, sR⟩ := XB.out
    have hnW : n0 ≤ W.heap.size := by have := xR.lt; omega
    obtain ⟨rfl⟩ := f4.get (hd 4 (by simp))
    refine want_none (by exact rfl) ?_
    go_wp2_with fail
    refine hK.out _ _ (SS.out _ TB) ?_
    exact ⟨_, _, _, _, _, _, _, _, _, _, _, rfl, TB, XB, f1.keep (by decide) id, f2.keep (by decide) id, f4.keep (by decide) id, Fl.new (EqV.rfl _), f7.keep (by decide) id, f8.keep (by decide) id, f11.keep (by decide) id, f12.keep (by decide) id, f16.keep (by decide) id, f17.keep (by decide) id, f18.keep (by decide) id, f19.keep (by decide) (fun h => ⟨h.1, getD_set_true h.2⟩)⟩
  · obtain ⟨v8, v15, v16, v18, v19, v21, v22, v25, v26, v30, v31, rfl, TB, XB, f1, f2, f4, f5, f7, f8, f11, f12, f16, f17, f18, f19⟩ := hI
    obtain ⟨vsR, xR, sR⟩ := XB.out
    have hnW : n0 ≤ W.heap.size := by have := xR.lt; omega
    refine want_none (by exact rfl) ?_
    go_wp2_with fail
    refine (K4.out _ TB.out).mono ?_
    rintro e w' ⟨rfl, hb0⟩
    go_wp2_with fail
    have hb : Below W.heap.size W _ := hb0
    have TB' := kCall hb (kSize TB) TB
    refine hK.out _ _ (SS.out _ TB') ?_
    exact ⟨_, _, _, _, _, _, _, _, _, _, _, rfl, TB', ⟨_, xR.below hb xR.lt, sR⟩, f1.keep (by decide) (keepE hb), f2.keep (by decide) (keepE hb), f4.keep (by decide) (keepE hb), f5.keep (by decide) (keepE hb), Fl.new (EqV.rfl _), f8.keep (by decide) (keepE hb), f11.keep (by decide) (keepE hb), f12.keep (by decide) (keepE hb), f16.keep (by decide) (SlV.below hb), f17.keep (by decide) (AgV.below hb), f18.keep (by decide) (AlV.below hb), f19.keep (by decide) (fun h => ⟨StV.below hb h.1, getD_set_true h.2⟩)⟩
  · obtain ⟨v8, v15, v16, v18, v19, v21, v22, v25, v26, v30, v31, rfl, TB, XB, f1, f2, f4, f5, f7, f8, f11, f12, f16, f17, f18, f19⟩ := hI
    obtain ⟨vsR, xR, sR⟩ := XB.out
    have hnW : n0 ≤ W.heap.size := by have := xR.lt; omega
    obtain ⟨rfl⟩ := f7.get (hd 7 (by simp))
    refine want_none (by exact rfl) ?_
    go_wp2_with fail
    refine hK.out _ _ (SS.out _ TB) ?_
    exact ⟨_, _, _, _, _, _, _, _, _, _, _, rfl, TB, XB, f1.keep (by decide) id, f2.keep (by decide) id, f4.keep (by decide) id, f5.keep (by decide) id, f7.keep (by decide) id, Fl.new (EqV.rfl _), f11.keep (by decide) id, f12.keep (by decide) id, f16.keep (by decide) id, f17.keep (by decide) id, f18.keep (by decide) id, f19.keep (by decide) (fun h => ⟨h.1, getD_set_true h.2⟩)⟩
  · obtain ⟨v8, v15, v16, v18, v19, v21, v22, v25, v26, v30, v31, rfl, TB, XB, f1, f2, f4, f5, f7, f8, f11, f12, f16, f17, f18, f19⟩ := hI
    obtain ⟨vsR, xR, sR⟩ := XB.out
    have hnW : n0 ≤ W.heap.size := by have := xR.lt; omega
    refine want_none (by exact rfl) ?_
    go_wp2_with fail
    refine (K14.out _ TB.out).mono ?_
    rintro e w' ⟨rfl, hb0⟩
    go_wp2_with fail
    have hb : Below W.heap.size W _ := hb0
    have TB' := kCall hb (kSize TB) TB
    refine hK.out _ _ (SS.out _ TB') ?_
    exact ⟨_, _, _, _, _, _, _, _, _, _, _, rfl, TB', ⟨_, xR.below hb xR.lt, sR⟩, f1.keep (by decide) (keepE hb), f2.keep (by decide) (keepE hb), f4.keep (by decide) (keepE hb), f5.keep (by decide) (keepE hb), f7.keep (by decide) (keepE hb), f8.keep (by decide) (keepE hb), Fl.new (EqV.rfl _), f12.keep (by decide) (keepE hb), f16.keep (by decide) (SlV.below hb), f17.keep (by decide) (AgV.below hb), f18.keep (by decide) (AlV.below hb), f19.keep (by decide) (fun h => ⟨StV.below hb h.1, getD_set_true h.2⟩)⟩
  · obtain ⟨v8, v15, v16, v18, v19, v21, v22, v25, v26, v30, v31, rfl, TB, XB, f1, f2, f4, f5, f7, f8, f11, f12, f16, f17, f18, f19⟩ := hI
    obtain ⟨vsR, xR, sR⟩ := XB.out
    have hnW : n0 ≤ W.heap.size := by have := xR.lt; omega
    obtain ⟨rfl⟩ := f11.get (hd 11 (by simp))
    refine want_none (by exact rfl) ?_
    go_wp2_with fail
    refine hK.out _ _ (SS.out _ TB) ?_
    exact ⟨_, _, _, _, _, _, _, _, _, _, _, rfl, TB, XB, f1.keep (by decide) id, f2.keep (by decide) id, f4.keep (by decide) id, f5.keep (by decide) id, f7.keep (by decide) id, f8.keep (by decide) id, f11.keep (by decide) id, Fl.new (EqV.rfl _), f16.keep (by decide) id, f17.keep (by decide) id, f18.keep (by decide) id, f19.keep (by decide) (fun h => ⟨h.1, getD_set_true h.2⟩)⟩
  · obtain ⟨v8, v15, v16, v18, v19, v21, v22, v25, v26, v30, v31, rfl, TB, XB, f1, f2, f4, f5, f7, f8, f11, f12, f16, f17, f18, f19⟩ := hI
    obtain ⟨vsR, xR, sR⟩ := XB.out
    have hnW : n0 ≤ W.heap.size := by have := xR.lt; omega
    refine want_none (by exact rfl) ?_
    go_wp2_with fail
    refine (KD.out _ TB.out).mono ?_
    rintro e w' ⟨a', c', rfl, o', hb0⟩
    go_wp2_with fail
    have hb : Below W.heap.size W _ := hb0
    have TB' := kCall hb (kSize TB) TB
    refine hK.out _ _ (SS.out _ TB') ?_
    exact ⟨_, _, _, _, _, _, _, _, _, _, _, rfl, TB', ⟨_, xR.below hb xR.lt, sR⟩, f1.keep (by decide) (keepE hb), f2.keep (by decide) (keepE hb), f4.keep (by decide) (keepE hb), f5.keep (by decide) (keepE hb), f7.keep (by decide) (keepE hb), f8.keep (by decide) (keepE hb), f11.keep (by decide) (keepE hb), f12.keep (by decide) (keepE hb), Fl.new (⟨_, _, rfl, o'.rebase hnW⟩), f17.keep (by decide) (AgV.below hb), f18.keep (by decide) (AlV.below hb), f19.keep (by decide) (fun h => ⟨StV.below hb h.1, getD_set_true h.2⟩)⟩
  · obtain ⟨v8, v15, v16, v18, v19, v21, v22, v25, v26, v30, v31, rfl, TB, XB, f1, f2, f4, f5, f7, f8, f11, f12, f16, f17, f18, f19⟩ := hI
    obtain ⟨vsR, xR, sR⟩ := XB.out
    have hnW : n0 ≤ W.heap.size := by have := xR.lt; omega
    obtain ⟨rfl⟩ := f2.get (hd 2 (by simp))
    obtain ⟨rfl⟩ := f5.get (hd 5 (by simp))
    obtain ⟨rfl⟩ := f8.get (hd 8 (by simp))
    obtain ⟨rfl⟩ := f12.get (hd 12 (by simp))
    obtain ⟨a30, c30, rfl, o30⟩ := f16.get (hd 16 (by simp))
    refine want_none (by exact rfl) ?_
    go_wp2_with fail
    refine hK.out _ _ (SS.out _ TB) ?_
    exact ⟨_, _, _, _, _, _, _, _, _, _, _, rfl, TB, XB, f1.keep (by decide) id, f2.keep (by decide) id, f4.keep (by decide) id, f5.keep (by decide) id, f7.keep (by decide) id, f8.keep (by decide) id, f11.keep (by decide) id, f12.keep (by decide) id, f16.keep (by decide) id, Fl.new (⟨_, _, rfl, o30⟩), f18.keep (by decide) id, f19.keep (by decide) (fun h => ⟨h.1, getD_set_true h.2⟩)⟩
  · obtain ⟨v8, v15, v16, v18, v19, v21, v22, v25, v26, v30, v31, rfl, TB, XB, f1, f2, f4, f5, f7, f8, f11, f12, f16, f17, f18, f19⟩ := hI
    obtain ⟨vsR, xR, sR⟩ := XB.out
    have hnW : n0 ≤ W.heap.size := by have := xR.lt; omega
    refine want_none (by exact rfl) ?_
    go_wp2_with fail
    have hb : Below W.heap.size W _ := bAlloc W (.cells #[.int .i64 0, .int .i64 0, .int .i64 0, .int .i64 0, .int .i64 0, .int .i64 0, .int .i64 0, .slice none 0 0] 25)
    have TB' := kCall hb (kSize TB) TB
    refine hK.out _ _ (SS.out _ TB') ?_
    exact ⟨_, _, _, _, _, _, _, _, _, _, _, rfl, TB', ⟨_, xR.below hb xR.lt, sR⟩, f1.keep (by decide) (keepE hb), f2.keep (by decide) (keepE hb), f4.keep (by decide) (keepE hb), f5.keep (by decide) (keepE hb), f7.keep (by decide) (keepE hb), f8.keep (by decide) (keepE hb), f11.keep (by decide) (keepE hb), f12.keep (by decide) (keepE hb), f16.keep (by decide) (SlV.below hb), f17.keep (by decide) (AgV.below hb), Fl.new (AlV.new hnW rfl), f19.keep (by decide) (fun h => absurd h.2 (by rw [getD_unlisted hu]; simp))⟩
  · obtain ⟨v8, v15, v16, v18, v19, v21, v22, v25, v26, v30, v31, rfl, TB, XB, f1, f2, f4, f5, f7, f8, f11, f12, f16, f17, f18, f19⟩ := hI
    obtain ⟨vsR, xR, sR⟩ := XB.out
    have hnW : n0 ≤ W.heap.size := by have := xR.lt; omega
    obtain ⟨gN, vsN, rfl, hgN, xN, sN⟩ := f18.get (hd 18 (by simp))
    obtain ⟨a31, c31, rfl, o31⟩ := f17.get (hd 17 (by simp))
    refine storeBox_step _ rfl 25 (.tmp 8) (.tmp 31) rfl gN 25 vsN (#[.int .i64 p0, .int .i64 p2, .int .i64 p4, .int .i64 0, .int .i64 g, .int .i64 p14, .int .i64 0] ++ #[.slice a31 (len - h) c31]) xN (by exact rfl) (by exact rfl) (by kernel_rfl) (sN.trans rfl) (by simp [Value.oneCell']) ?_
    intro wS xS gS
    try simp only [Act.put]
    have TB' := kGrownB gS TB (by omega)
    refine hK.out _ _ (SS.out _ TB') ?_
    exact ⟨_, _, _, _, _, _, _, _, _, _, _, rfl, TB', ⟨_, xR.grown gS (by simp only [ne_eq, Option.some.injEq]; omega), sR⟩, f1.keep (by decide) (id), f2.keep (by decide) (id), f4.keep (by decide) (id), f5.keep (by decide) (id), f7.keep (by decide) (id), f8.keep (by decide) (id), f11.keep (by decide) (id), f12.keep (by decide) (id), f16.keep (by decide) (SlV.off xN htU gS), f17.keep (by decide) (AgV.off xN htU gS), f18.keep (by decide) (fun _ => ⟨_, _, rfl, hgN, xS, rfl⟩), Fl.new (⟨⟨_, _, _, rfl, hgN, xS, o31.offBox xN htU gS⟩, getD_set_true (hd 18 (by simp))⟩)⟩
  obtain ⟨v8, v15, v16, v18, v19, v21, v22, v25, v26, v30, v31, rfl, TB, XB, f1, f2, f4, f5, f7, f8, f11, f12, f16, f17, f18, f19⟩ := hI
  obtain ⟨vsR, xR, sR⟩ := XB.out
  have hnW : n0 ≤ W.heap.size := by have := xR.lt; omega
  obtain ⟨⟨g8, a8, c8, rfl, hg8, x8, o8⟩, _⟩ := f19.get (hall 19 (by decide))
  have X1 := Lib.hid (show Box W g8 25 #[.int .i64 p0, .int .i64 p2, .int .i64 p4, .int .i64 0, .int .i64 g, .int .i64 p14, .int .i64 0, .slice a8 (len - h) c8] by simpa using x8)
  have O1 := Lib.hid o8
  have R1 := Lib.hid xR
  have hsR := Lib.hid sR
  have hg8' : w.heap.size < g8 := by omega
  have hne : Hid (∀ x, a8 = some x → ¬ x.block = g8) := fun x hx => by subst hx; exact o8.ne_box x8 htU
  have B1 := TB
  clear x8 o8 xR sR XB hall TB SS K0 K2 K4 K14 KD f1 f2 f4 f5 f7 f8 f11 f12 f16 f17 f18 f19
  go_wp2_with fail
  refine (KH.out 16 _ rfl).mono ?_
  rintro e w1 ⟨rfl, rfl⟩
  cases m16 : flB g 16
  · go_wp2_with fail
    refine (KH.out 2 _ rfl).mono ?_
    rintro e w2 ⟨rfl, rfl⟩
    cases m2 : flB g 2
    · obtain ⟨_, y0, y1, y2, y3, y4, y5, y6, y7⟩ := X1.out.eight
      go_wp2_with ((with_reducible change wpList _ _ _ (Oper.mk none (Op.store _ _ _) _ _ _ _ :: _) _ _); refine storeBox_list _ rfl 25 (.tmp 6) (.tmp 42) rfl w.heap.size 25 _ #[.int .i64 p0, .int .i64 p2, .int .i64 p4, .int .i64 0, .int .i64 g, .int .i64 p14, .int .i64 0, .slice a8 (len - h) c8] R1.out (by exact rfl) (by exact rfl) (by kernel_rfl) (hsR.out.trans rfl) (by simp [Value.oneCell']) ?_; intro wS xS gS; have XS := Lib.hid xS; have OS := Lib.hid (O1.out.keepOff gS hrn); have BS := Lib.hid (B1.out.grown gS B1.out.size (fun k e => by cases e; exact Nat.le_refl _)); clear xS gS)
      exact bodyPost_ret (results_cell_row Try.results71 _ _ _ _ _ _ _ rfl XS.out Try.underlying25 rfl (by kernel_rfl)) rfl ⟨_, _, _, by obtain rfl := HX.out _ _ m16 m2; rfl, OS.out.rebase hn1, BS.out⟩
    · have u6 := X1.out.cell 6
      have q6 := X1.out.frozen 6
      simp at u6
      have X2 : Hid (Box (W.setCell ⟨g8, 6, none⟩ (.int .i64 ms)) g8 25 #[.int .i64 p0, .int .i64 p2, .int .i64 p4, .int .i64 0, .int .i64 g, .int .i64 p14, .int .i64 ms, .slice a8 (len - h) c8]) := X1.out.put 6 _
      have R2 := Lib.hid (R1.out.grown (grown_setCell W ⟨g8, 6, none⟩ (.int .i64 ms)) (by simp only [ne_eq, Option.some.injEq]; omega))
      have B2 := Lib.hid (B1.out.setCell (p := ⟨g8, 6, none⟩) (by simp only; omega) (.int .i64 ms))
      have O2 : Hid (Own (W.setCell ⟨g8, 6, none⟩ (.int .i64 ms)) n0 a8 (len - h) c8 ys) := O1.out.setOther _ _ hne.out
      generalize hW1 : W.setCell ⟨g8, 6, none⟩ (.int .i64 ms) = V2 at *
      clear X1 R1 B1 O1
      obtain ⟨_, y0, y1, y2, y3, y4, y5, y6, y7⟩ := X2.out.eight
      go_wp2_with ((with_reducible change wpList _ _ _ (Oper.mk none (Op.store _ _ _) _ _ _ _ :: _) _ _); refine storeBox_list _ rfl 25 (.tmp 6) (.tmp 42) rfl w.heap.size 25 _ #[.int .i64 p0, .int .i64 p2, .int .i64 p4, .int .i64 0, .int .i64 g, .int .i64 p14, .int .i64 ms, .slice a8 (len - h) c8] R2.out (by exact rfl) (by exact rfl) (by kernel_rfl) (hsR.out.trans rfl) (by simp [Value.oneCell']) ?_; intro wS xS gS; have XS := Lib.hid xS; have OS := Lib.hid (O2.out.keepOff gS hrn); have BS := Lib.hid (B2.out.grown gS B2.out.size (fun k e => by cases e; exact Nat.le_refl _)); clear xS gS)
      exact bodyPost_ret (results_cell_row Try.results71 _ _ _ _ _ _ _ rfl XS.out Try.underlying25 rfl (by kernel_rfl)) rfl ⟨_, _, _, by obtain rfl := HX.out _ _ m16 m2; rfl, OS.out.rebase hn1, BS.out⟩
  · go_wp2_with fail
    refine (K8.out _ B1.out).mono ?_
    rintro e w9 ⟨rfl, b9⟩
    have X2 := Lib.hid (X1.out.below b9 X1.out.lt)
    have R2 := Lib.hid (R1.out.below b9 R1.out.lt)
    have O2 := Lib.hid (O1.out.below b9)
    have B2 := Lib.hid (B1.out.trans (b9.mono B1.out.size))
    clear b9 X1 R1 O1 B1 K8
    have u3 := X2.out.cell 3
    have q3 := X2.out.frozen 3
    simp at u3
    have X3 : Hid (Box (w9.setCell ⟨g8, 3, none⟩ (.int .i64 p8)) g8 25 #[.int .i64 p0, .int .i64 p2, .int .i64 p4, .int .i64 p8, .int .i64 g, .int .i64 p14, .int .i64 0, .slice a8 (len - h) c8]) := X2.out.put 3 _
    have R3 := Lib.hid (R2.out.grown (grown_setCell w9 ⟨g8, 3, none⟩ (.int .i64 p8)) (by simp only [ne_eq, Option.some.injEq]; omega))
    have B3 := Lib.hid (B2.out.setCell (p := ⟨g8, 3, none⟩) (by simp only; omega) (.int .i64 p8))
    have O3 : Hid (Own (w9.setCell ⟨g8, 3, none⟩ (.int .i64 p8)) n0 a8 (len - h) c8 ys) := O2.out.setOther _ _ hne.out
    generalize hW2 : w9.setCell ⟨g8, 3, none⟩ (.int .i64 p8) = V3 at *
    clear X2 R2 B2 O2
    go_wp2_with fail
    clear hW2
    refine (KH.out 2 _ rfl).mono ?_
    rintro e w2 ⟨rfl, rfl⟩
    cases m2 : flB g 2
    · obtain ⟨_, y0, y1, y2, y3, y4, y5, y6, y7⟩ := X3.out.eight
      go_wp2_with ((with_reducible change wpList _ _ _ (Oper.mk none (Op.store _ _ _) _ _ _ _ :: _) _ _); refine storeBox_list _ rfl 25 (.tmp 6) (.tmp 42) rfl w.heap.size 25 _ #[.int .i64 p0, .int .i64 p2, .int .i64 p4, .int .i64 p8, .int .i64 g, .int .i64 p14, .int .i64 0, .slice a8 (len - h) c8] R3.out (by exact rfl) (by exact rfl) (by kernel_rfl) (hsR.out.trans rfl) (by simp [Value.oneCell']) ?_; intro wS xS gS; have XS := Lib.hid xS; have OS := Lib.hid (O3.out.keepOff gS hrn); have BS := Lib.hid (B3.out.grown gS B3.out.size (fun k e => by cases e; exact Nat.le_refl _)); clear xS gS)
      exact bodyPost_ret (results_cell_row Try.results71 _ _ _ _ _ _ _ rfl XS.out Try.underlying25 rfl (by kernel_rfl)) rfl ⟨_, _, _, by obtain rfl := HX.out _ _ m16 m2; rfl, OS.out.rebase hn1, BS.out⟩
    · have u6 := X3.out.cell 6
      have q6 := X3.out.frozen 6
      simp at u6
      have X4 : Hid (Box (V3.setCell ⟨g8, 6, none⟩ (.int .i64 ms)) g8 25 #[.int .i64 p0, .int .i64 p2, .int .i64 p4, .int .i64 p8, .int .i64 g, .int .i64 p14, .int .i64 ms, .slice a8 (len - h) c8]) := X3.out.put 6 _
      have R4 := Lib.hid (R3.out.grown (grown_setCell V3 ⟨g8, 6, none⟩ (.int .i64 ms)) (by simp only [ne_eq, Option.some.injEq]; omega))
      have B4 := Lib.hid (B3.out.setCell (p := ⟨g8, 6, none⟩) (by simp only; omega) (.int .i64 ms))
      have O4 : Hid (Own (V3.setCell ⟨g8, 6, none⟩ (.int .i64 ms)) n0 a8 (len - h) c8 ys) := O3.out.setOther _ _ hne.out
      generalize hW3 : V3.setCell ⟨g8, 6, none⟩ (.int .i64 ms) = V4 at *
      clear X3 R3 B3 O3
      obtain ⟨_, y0, y1, y2, y3, y4, y5, y6, y7⟩ := X4.out.eight
      go_wp2_with ((with_reducible change wpList _ _ _ (Oper.mk none (Op.store _ _ _) _ _ _ _ :: _) _ _); refine storeBox_list _ rfl 25 (.tmp 6) (.tmp 42) rfl w.heap.size 25 _ #[.int .i64 p0, .int .i64 p2, .int .i64 p4, .int .i64 p8, .int .i64 g, .int .i64 p14, .int .i64 ms, .slice a8 (len - h) c8] R4.out (by exact rfl) (by exact rfl) (by kernel_rfl) (hsR.out.trans rfl) (by simp [Value.oneCell']) ?_; intro wS xS gS; have XS := Lib.hid xS; have OS := Lib.hid (O4.out.keepOff gS hrn); have BS := Lib.hid (B4.out.grown gS B4.out.size (fun k e => by cases e; exact Nat.le_refl _)); clear xS gS)
      exact bodyPost_ret (results_cell_row Try.results71 _ _ _ _ _ _ _ rfl XS.out Try.underlying25 rfl (by kernel_rfl)) rfl ⟨_, _, _, by obtain rfl := HX.out _ _ m16 m2; rfl, OS.out.rebase hn1, BS.out⟩

set_option maxRecDepth 20000 in
set_option maxHeartbeats 8000000 in
theorem segmentIn_2 (a : Option Addr) (h : Nat) (ms : Int) (zs : List Int) (w : World) (hr : Rd w a h h zs) (h1 : 20 ≤ h) (h3 : h ≤ 560) :
    Calls Try.prog 71 #[.slice a h h, .int .i64 h, .int .i64 ms] w (SgOut w (rsG zs ms) (zs.drop h)) := by
  have hle := hr.le
  have hmx := hr.max
  unfold maxLen at hmx
  rcases hr.cells with h0 | ⟨ba, off, rfl, hc⟩
  · omega
  have i1 : (h : Int) ≤ h := by omega
  have i3 : (h : Int) ≤ h := by omega
  have i4 : (13 : Int) < h := by omega
  have hfi := fld_ir
  obtain ⟨ys, hys⟩ : ∃ ys, zs.drop h = ys := ⟨_, rfl⟩
  obtain ⟨p0, hp0⟩ : ∃ m, rdTo zs 0 2 = m := ⟨_, rfl⟩
  obtain ⟨p2, hp2⟩ : ∃ m, rdTo zs 2 2 = m := ⟨_, rfl⟩
  obtain ⟨p4, hp4⟩ : ∃ m, rdTo zs 4 4 = m := ⟨_, rfl⟩
  obtain ⟨p8, hp8⟩ : ∃ m, rdTo zs 8 4 = m := ⟨_, rfl⟩
  obtain ⟨p14, hp14⟩ : ∃ m, rdTo zs 14 2 = m := ⟨_, rfl⟩
  obtain ⟨y, hy⟩ : ∃ y, zs.getD 13 0 = y := ⟨_, rfl⟩
  have hyb := hr.getD_bd 13
  rw [hy] at hyb
  obtain ⟨g, hg⟩ : ∃ g, y % 32 = g := ⟨_, rfl⟩
  have hgb : 0 ≤ g ∧ g ≤ 31 := by omega
  have hym : y.tmod 32 = g := by rw [Int.tmod_eq_emod_of_nonneg hyb.1]; exact hg
  have hgu : IntKind.u8.wrap g = g := u8_in _ (by omega)
  have hgw : IntKind.i64.wrap g = g := IntWalk.i64_in _ (by omega)
  obtain ⟨X, hX⟩ : ∃ X, X = rsG zs ms := ⟨_, rfl⟩
  have HX : Hid (∀ b c, flB g 16 = b → flB g 2 = c → X = ⟨p0, p2, p4, if b then p8 else 0, g, p14, if c then ms else 0⟩) := fun b c hb hc' => by rw [hX]; unfold rsG; rw [hy, hg, hp0, hp2, hp4, hp8, hp14, hb, hc']
  have KH := Lib.hid (show ∀ k W, oneB k = true → Calls Try.prog 80 #[.int .i64 g, .int .i64 k] W fun e w' => e = .returned (.bool (flB g k)) ∧ W = w' from fun k W hk => (has_any g k W hgb hk).mono (fun e w' q => ⟨q.1, q.2.symm⟩))
  have K0 := Lib.hid (fun W (hW : Below w.heap.size w W) => readWord_l4 _ h h 0 2 0 2 p0 zs W (hr.below hW) rfl rfl (by omega) (by omega) (by omega) hp0)
  have K2 := Lib.hid (fun W (hW : Below w.heap.size w W) => readWord_l4 _ h h 2 2 2 2 p2 zs W (hr.below hW) rfl rfl (by omega) (by omega) (by omega) hp2)
  have K4 := Lib.hid (fun W (hW : Below w.heap.size w W) => readWord_l4 _ h h 4 4 4 4 p4 zs W (hr.below hW) rfl rfl (by omega) (by omega) (by omega) hp4)
  have K8 := Lib.hid (fun W (hW : Below w.heap.size w W) => readWord_l4 _ h h 8 4 8 4 p8 zs W (hr.below hW) rfl rfl (by omega) (by omega) (by omega) hp8)
  have K14 := Lib.hid (fun W (hW : Below w.heap.size w W) => readWord_l4 _ h h 14 2 14 2 p14 zs W (hr.below hW) rfl rfl (by omega) (by omega) (by omega) hp14)
  have HD := Lib.hid (show ∀ W, Below w.heap.size w W → Rd W (some ⟨ba, off, none⟩) 0 0 ys from fun W hW => by rw [← hys]; exact rd_end (hr.below hW))
  have KD := Lib.hid (fun W (hW : Below w.heap.size w W) => bclone_any (some ⟨ba, off, none⟩) 0 0 ys W (HD.out W hW) (by omega))
  have SS := Lib.hid (show ∀ W, Hid (Below w.heap.size w W) → Hid (Below w.heap.size w W) from fun W h => h)
  have BB := Lib.hid ((Below.refl w.heap.size w).alloc (Nat.le_refl _) (.cells #[.int .i64 0, .int .i64 0, .int .i64 0, .int .i64 0, .int .i64 0, .int .i64 0, .int .i64 0, .slice none 0 0] 25))
  have X0 := Lib.hid (Box.new w 25 #[.int .i64 0, .int .i64 0, .int .i64 0, .int .i64 0, .int .i64 0, .int .i64 0, .int .i64 0, .slice none 0 0])
  have c13 : (w.alloc (.cells #[.int .i64 0, .int .i64 0, .int .i64 0, .int .i64 0, .int .i64 0, .int .i64 0, .int .i64 0, .slice none 0 0] 25)).cell? ⟨ba, off + 13, none⟩ = some (.int .u8 y) := by rw [← hy]; exact keepB' BB.out (hc 13 (by omega))
  rw [← hX, hys]
  have htU : 25 ≠ 5 := by decide
  clear hr hc hp0 hp2 hp4 hp8 hp14 hys hy hg hX HD
  have hrn : w.heap.size < w.heap.size + 1 := Nat.lt_succ_self _
  have hn1 : w.heap.size ≤ w.heap.size + 1 := Nat.le_succ _
  generalize hn0 : w.heap.size + 1 = n0 at hrn hn1
  go_enter Try.func71, Try.ntmps71
  go_wp2_with fail
  clear c13
  have TD := kDrew BB
  refine wp_region_held_drew (S := fun W => Hid (Below w.heap.size w W)) (by kernel_rfl) (SS.out _ TD) (fun hHeld => ?_)
  refine wpAnyH_take (i := 0) (v := ?_) (by simp only [List.getElem?_toArray, List.getElem?_cons_zero]; exact rfl) (by kernel_rfl) (by kernel_rfl) (by kernel_rfl) (by exact fun _ _ _ h => h) (Or.inl ⟨by rfl, ?_⟩) hHeld ?_
  rotate_left
  · intro w' hSw
    obtain _s := hSw
    go_simp
    try with_reducible rfl
  try simp only [Act.put, List.setIfInBounds_toArray, List.set_cons_zero, List.set_cons_succ]
  refine wpAnyH_take (i := 3) (v := ?_) (by simp only [List.getElem?_toArray, List.getElem?_cons_zero, List.getElem?_cons_succ]; exact rfl) (by kernel_rfl) (by kernel_rfl) (by kernel_rfl) (by exact fun _ _ _ h => h) (Or.inl ⟨by rfl, ?_⟩) hHeld ?_
  rotate_left
  · intro w' hSw
    obtain _s := hSw
    go_simp
    try with_reducible rfl
  try simp only [Act.put, List.setIfInBounds_toArray, List.set_cons_zero, List.set_cons_succ]
  refine wpAnyH_take (i := 6) (v := ?_) (by simp only [List.getElem?_toArray, List.getElem?_cons_zero, List.getElem?_cons_succ]; exact rfl) (by kernel_rfl) (by kernel_rfl) (by kernel_rfl) (by exact fun _ _ _ h => h) (Or.inl ⟨by rfl, ?_⟩) hHeld ?_
  rotate_left
  · intro w' hSw
    obtain _s := hSw
    go_simp
    try with_reducible rfl
  try simp only [Act.put, List.setIfInBounds_toArray, List.set_cons_zero, List.set_cons_succ]
  refine wpAnyH_take (i := 9) (v := ?_) (by simp only [List.getElem?_toArray, List.getElem?_cons_zero, List.getElem?_cons_succ]; exact rfl) (by kernel_rfl) (by kernel_rfl) (by kernel_rfl) (by exact fun _ _ _ h => h) (Or.inl ⟨by rfl, ?_⟩) hHeld ?_
  rotate_left
  · intro w' hSw
    obtain _s := hSw
    go_simp
    try with_reducible rfl
  try simp only [Act.put, List.setIfInBounds_toArray, List.set_cons_zero, List.set_cons_succ]
  refine wpAnyH_take (i := 10) (v := ?_) (by simp only [List.getElem?_toArray, List.getElem?_cons_zero, List.getElem?_cons_succ]; exact rfl) (by kernel_rfl) (by kernel_rfl) (by kernel_rfl) (by exact fun _ _ _ h => h) (Or.inl ⟨by rfl, ?_⟩) hHeld ?_
  rotate_left
  · intro w' hSw
    obtain _s := hSw
    go_simp
    try with_reducible rfl
  try simp only [Act.put, List.setIfInBounds_toArray, List.set_cons_zero, List.set_cons_succ]
  refine wpAnyH_take (i := 13) (v := ?_) (by simp only [List.getElem?_toArray, List.getElem?_cons_zero, List.getElem?_cons_succ]; exact rfl) (by kernel_rfl) (by kernel_rfl) (by kernel_rfl) (by exact fun _ _ _ h => h) (Or.inl ⟨by rfl, ?_⟩) hHeld ?_
  rotate_left
  · intro w' hSw
    obtain _s := hSw
    go_simp
    try with_reducible rfl
  try simp only [Act.put, List.setIfInBounds_toArray, List.set_cons_zero, List.set_cons_succ]
  refine wpAnyH_take (i := 14) (v := ?_) (by simp only [List.getElem?_toArray, List.getElem?_cons_zero, List.getElem?_cons_succ]; exact rfl) (by kernel_rfl) (by kernel_rfl) (by kernel_rfl) (by exact fun _ _ _ h => h) (Or.inl ⟨by rfl, ?_⟩) hHeld ?_
  rotate_left
  · intro w' hSw
    obtain _s := hSw
    go_simp
    try with_reducible rfl
  try simp only [Act.put, List.setIfInBounds_toArray, List.set_cons_zero, List.set_cons_succ]
  refine wpAnyH_take (i := 15) (v := ?_) (by simp only [List.getElem?_toArray, List.getElem?_cons_zero, List.getElem?_cons_succ]; exact rfl) (by kernel_rfl) (by kernel_rfl) (by kernel_rfl) (by exact fun _ _ _ h => h) (Or.inl ⟨by rfl, ?_⟩) hHeld ?_
  rotate_left
  · intro w' hSw
    obtain _s := hSw
    go_simp
    try with_reducible rfl
  try simp only [Act.put, List.setIfInBounds_toArray, List.set_cons_zero, List.set_cons_succ]
  refine flow_go (Inv := fun listed ac W => ∃ v8 v15 v16 v18 v19 v21 v22 v25 v26 v30 v31 : Value, ac = { tmps := #[.slice (some ⟨ba, off, none⟩) h h, .int .i64 h, .int .i64 ms, _, _, _, .pointer (some ⟨w.heap.size, 0, none⟩), .int .i64 g, v8, _, _, _, _, _, .slice (some ⟨ba, off, none⟩) h h, v15, v16, .slice (some ⟨ba, off, none⟩) h h, v18, v19, .slice (some ⟨ba, off, none⟩) h h, v21, v22, .int .i64 g, .slice (some ⟨ba, off, none⟩) h h, v25, v26, .slice (some ⟨ba, off, none⟩) h h, .int .i64 h, .slice (some ⟨ba, off, none⟩) 0 0, v30, v31, _, _, _, _, _, _, _, _, _, _, _], defers := [] } ∧ Hid (Below w.heap.size w W) ∧ Hid (∃ vs : Array Value, Box W w.heap.size 25 vs ∧ vs.size = 8) ∧ Fl listed 1 (EqV v15 (.agg #[.int .i64 0, .int .i64 p0])) ∧ Fl listed 2 (EqV v16 (.int .i64 p0)) ∧ Fl listed 4 (EqV v18 (.agg #[.int .i64 0, .int .i64 p2])) ∧ Fl listed 5 (EqV v19 (.int .i64 p2)) ∧ Fl listed 7 (EqV v21 (.agg #[.int .i64 0, .int .i64 p4])) ∧ Fl listed 8 (EqV v22 (.int .i64 p4)) ∧ Fl listed 11 (EqV v25 (.agg #[.int .i64 0, .int .i64 p14])) ∧ Fl listed 12 (EqV v26 (.int .i64 p14)) ∧ Fl listed 16 (SlV W n0 v30 (0) ys) ∧ Fl listed 17 (AgV W n0 v31 #[.int .i64 p0, .int .i64 p2, .int .i64 p4, .int .i64 0, .int .i64 g, .int .i64 p14, .int .i64 0] (0) ys) ∧ Fl listed 18 (AlV W n0 v8 25 8) ∧ Fl listed 19 (StV W n0 n0 v8 25 #[.int .i64 p0, .int .i64 p2, .int .i64 p4, .int .i64 0, .int .i64 g, .int .i64 p14, .int .i64 0] (0) ys ∧ listed.getD 18 false = true)) [1, 2, 4, 5, 7, 8, 11, 12, 16, 17, 18, 19] (by kernel_rfl) (by kernel_rfl) ⟨_, _, _, _, _, _, _, _, _, _, _, rfl, TD, ⟨_, (show Box _ _ _ _ from X0.out), rfl⟩, Fl.not (by kernel_rfl), Fl.not (by kernel_rfl), Fl.not (by kernel_rfl), Fl.not (by kernel_rfl), Fl.not (by kernel_rfl), Fl.not (by kernel_rfl), Fl.not (by kernel_rfl), Fl.not (by kernel_rfl), Fl.not (by kernel_rfl), Fl.not (by kernel_rfl), Fl.not (by kernel_rfl), Fl.not (by kernel_rfl)⟩
    (FlowAll.cons [] (by simp only [List.getElem?_toArray, List.getElem?_cons_zero, List.getElem?_cons_succ]; exact rfl) (by kernel_rfl) (fun listed ac W hI hu hd K hK => ?_)
      (FlowAll.cons [1] (by simp only [List.getElem?_toArray, List.getElem?_cons_zero, List.getElem?_cons_succ]; exact rfl) (by kernel_rfl) (fun listed ac W hI hu hd K hK => ?_)
      (FlowAll.cons [] (by simp only [List.getElem?_toArray, List.getElem?_cons_zero, List.getElem?_cons_succ]; exact rfl) (by kernel_rfl) (fun listed ac W hI hu hd K hK => ?_)
      (FlowAll.cons [4] (by simp only [List.getElem?_toArray, List.getElem?_cons_zero, List.getElem?_cons_succ]; exact rfl) (by kernel_rfl) (fun listed ac W hI hu hd K hK => ?_)
      (FlowAll.cons [] (by simp only [List.getElem?_toArray, List.getElem?_cons_zero, List.getElem?_cons_succ]; exact rfl) (by kernel_rfl) (fun listed ac W hI hu hd K hK => ?_)
      (FlowAll.cons [7] (by simp only [List.getElem?_toArray, List.getElem?_cons_zero, List.getElem?_cons_succ]; exact rfl) (by kernel_rfl) (fun listed ac W hI hu hd K hK => ?_)
      (FlowAll.cons [] (by simp only [List.getElem?_toArray, List.getElem?_cons_zero, List.getElem?_cons_succ]; exact rfl) (by kernel_rfl) (fun listed ac W hI hu hd K hK => ?_)
      (FlowAll.cons [11] (by simp only [List.getElem?_toArray, List.getElem?_cons_zero, List.getElem?_cons_succ]; exact rfl) (by kernel_rfl) (fun listed ac W hI hu hd K hK => ?_)
      (FlowAll.cons [] (by simp only [List.getElem?_toArray, List.getElem?_cons_zero, List.getElem?_cons_succ]; exact rfl) (by kernel_rfl) (fun listed ac W hI hu hd K hK => ?_)
      (FlowAll.cons [2, 5, 8, 12, 16] (by simp only [List.getElem?_toArray, List.getElem?_cons_zero, List.getElem?_cons_succ]; exact rfl) (by kernel_rfl) (fun listed ac W hI hu hd K hK => ?_)
      (FlowAll.cons [] (by simp only [List.getElem?_toArray, List.getElem?_cons_zero, List.getElem?_cons_succ]; exact rfl) (by kernel_rfl) (fun listed ac W hI hu hd K hK => ?_)
      (FlowAll.cons [18, 17] (by simp only [List.getElem?_toArray, List.getElem?_cons_zero, List.getElem?_cons_succ]; exact rfl) (by kernel_rfl) (fun listed ac W hI hu hd K hK => ?_)
      FlowAll.nil))))))))))))
    (fun listed ac W hI hall => ?_)
  · obtain ⟨v8, v15, v16, v18, v19, v21, v22, v25, v26, v30, v31, rfl, TB, XB, f1, f2, f4, f5, f7, f8, f11, f12, f16, f17, f18, f19⟩ := hI
    obtain ⟨vsR, xR, sR⟩ := XB.out
    have hnW : n0 ≤ W.heap.size := by have := xR.lt; omega
    refine want_none (by exact rfl) ?_
    go_wp2_with fail
    refine (K0.out _ TB.out).mono ?_
    rintro e w' ⟨rfl, hb0⟩
    go_wp2_with fail
    have hb : Below W.heap.size W _ := hb0
    have TB' := kCall hb (kSize TB) TB
    refine hK.out _ _ (SS.out _ TB') ?_
    exact ⟨_, _, _, _, _, _, _, _, _, _, _, rfl, TB', ⟨_, xR.below hb xR.lt, sR⟩, Fl.new (EqV.rfl _), f2.keep (by decide) (keepE hb), f4.keep (by decide) (keepE hb), f5.keep (by decide) (keepE hb), f7.keep (by decide) (keepE hb), f8.keep (by decide) (keepE hb), f11.keep (by decide) (keepE hb), f12.keep (by decide) (keepE hb), f16.keep (by decide) (SlV.below hb), f17.keep (by decide) (AgV.below hb), f18.keep (by decide) (AlV.below hb), f19.keep (by decide) (fun h => ⟨StV.below hb h.1, getD_set_true h.2⟩)⟩
  · obtain ⟨v8, v15, v16, v18, v19, v21, v22, v25, v26, v30, v31, rfl, TB, XB, f1, f2, f4, f5, f7, f8, f11, f12, f16, f17, f18, f19⟩ := hI
    obtain ⟨vsR, xR, sR⟩ := XB.out
    have hnW : n0 ≤ W.heap.size := by have := xR.lt; omega
    obtain ⟨rfl⟩ := f1.get (hd 1 (by simp))
    refine want_none (by exact rfl) ?_
    go_wp2_with fail
    refine hK.out _ _ (SS.out _ TB) ?_
    exact ⟨_, _, _, _, _, _, _, _, _, _, _, rfl, TB, XB, f1.keep (by decide) id, Fl.new (EqV.rfl _), f4.keep (by decide) id, f5.keep (by decide) id, f7.keep (by decide) id, f8.keep (by decide) id, f11.keep (by decide) id, f12.keep (by decide) id, f16.keep (by decide) id, f17.keep (by decide) id, f18.keep (by decide) id, f19.keep (by decide) (fun h => ⟨h.1, getD_set_true h.2⟩)⟩
  · obtain ⟨v8, v15, v16, v18, v19, v21, v22, v25, v26, v30, v31, rfl, TB, XB, f1, f2, f4, f5, f7, f8, f11, f12, f16, f17, f18, f19⟩ := hI
    obtain ⟨vsR, xR, sR⟩ := XB.out
    have hnW : n0 ≤ W.heap.size := by have := xR.lt; omega
    refine want_none (by exact rfl) ?_
    go_wp2_with fail
    refine (K2.out _ TB.out).mono ?_
    rintro e w' ⟨rfl, hb0⟩
    go_wp2_with fail
    have hb : Below W.heap.size W _ := hb0
    have TB' := kCall hb (kSize TB) TB
    refine hK.out _ _ (SS.out _ TB') ?_
    exact ⟨_, _, _, _, _, _, _, _, _, _, _, rfl, TB', ⟨_, xR.below hb xR.lt, sR⟩, f1.keep (by decide) (keepE hb), f2.keep (by decide) (keepE hb), Fl.new (EqV.rfl _), f5.keep (by decide) (keepE hb), f7.keep (by decide) (keepE hb), f8.keep (by decide) (keepE hb), f11.keep (by decide) (keepE hb), f12.keep (by decide) (keepE hb), f16.keep (by decide) (SlV.below hb), f17.keep (by decide) (AgV.below hb), f18.keep (by decide) (AlV.below hb), f19.keep (by decide) (fun h => ⟨StV.below hb h.1, getD_set_true h.2⟩)⟩
  · obtain ⟨v8, v15, v16, v18, v19, v21, v22, v25, v26, v30, v31, rfl, TB, XB, f1, f2, f4, f5, f7, f8, f11, f12, f16, f17, f18, f19⟩ := hI
    obtain ⟨vsR, xR, sR⟩ := XB.out
    have hnW : n0 ≤ W.heap.size := by have := xR.lt; omega
    obtain ⟨rfl⟩ := f4.get (hd 4 (by simp))
    refine want_none (by exact rfl) ?_
    go_wp2_with fail
    refine hK.out _ _ (SS.out _ TB) ?_
    exact ⟨_, _, _, _, _, _, _, _, _, _, _, rfl, TB, XB, f1.keep (by decide) id, f2.keep (by decide) id, f4.keep (by decide) id, Fl.new (EqV.rfl _), f7.keep (by decide) id, f8.keep (by decide) id, f11.keep (by decide) id, f12.keep (by decide) id, f16.keep (by decide) id, f17.keep (by decide) id, f18.keep (by decide) id, f19.keep (by decide) (fun h => ⟨h.1, getD_set_true h.2⟩)⟩
  · obtain ⟨v8, v15, v16, v18, v19, v21, v22, v25, v26, v30, v31, rfl, TB, XB, f1, f2, f4, f5, f7, f8, f11, f12, f16, f17, f18, f19⟩ := hI
    obtain ⟨vsR, xR, sR⟩ := XB.out
    have hnW : n0 ≤ W.heap.size := by have := xR.lt; omega
    refine want_none (by exact rfl) ?_
    go_wp2_with fail
    refine (K4.out _ TB.out).mono ?_
    rintro e w' ⟨rfl, hb0⟩
    go_wp2_with fail
    have hb : Below W.heap.size W _ := hb0
    have TB' := kCall hb (kSize TB) TB
    refine hK.out _ _ (SS.out _ TB') ?_
    exact ⟨_, _, _, _, _, _, _, _, _, _, _, rfl, TB', ⟨_, xR.below hb xR.lt, sR⟩, f1.keep (by decide) (keepE hb), f2.keep (by decide) (keepE hb), f4.keep (by decide) (keepE hb), f5.keep (by decide) (keepE hb), Fl.new (EqV.rfl _), f8.keep (by decide) (keepE hb), f11.keep (by decide) (keepE hb), f12.keep (by decide) (keepE hb), f16.keep (by decide) (SlV.below hb), f17.keep (by decide) (AgV.below hb), f18.keep (by decide) (AlV.below hb), f19.keep (by decide) (fun h => ⟨StV.below hb h.1, getD_set_true h.2⟩)⟩
  · obtain ⟨v8, v15, v16, v18, v19, v21, v22, v25, v26, v30, v31, rfl, TB, XB, f1, f2, f4, f5, f7, f8, f11, f12, f16, f17, f18, f19⟩ := hI
    obtain ⟨vsR, xR, sR⟩ := XB.out
    have hnW : n0 ≤ W.heap.size := by have := xR.lt; omega
    obtain ⟨rfl⟩ := f7.get (hd 7 (by simp))
    refine want_none (by exact rfl) ?_
    go_wp2_with fail
    refine hK.out _ _ (SS.out _ TB) ?_
    exact ⟨_, _, _, _, _, _, _, _, _, _, _, rfl, TB, XB, f1.keep (by decide) id, f2.keep (by decide) id, f4.keep (by decide) id, f5.keep (by decide) id, f7.keep (by decide) id, Fl.new (EqV.rfl _), f11.keep (by decide) id, f12.keep (by decide) id, f16.keep (by decide) id, f17.keep (by decide) id, f18.keep (by decide) id, f19.keep (by decide) (fun h => ⟨h.1, getD_set_true h.2⟩)⟩
  · obtain ⟨v8, v15, v16, v18, v19, v21, v22, v25, v26, v30, v31, rfl, TB, XB, f1, f2, f4, f5, f7, f8, f11, f12, f16, f17, f18, f19⟩ := hI
    obtain ⟨vsR, xR, sR⟩ := XB.out
    have hnW : n0 ≤ W.heap.size := by have := xR.lt; omega
    refine want_none (by exact rfl) ?_
    go_wp2_with fail
    refine (K14.out _ TB.out).mono ?_
    rintro e w' ⟨rfl, hb0⟩
    go_wp2_with fail
    have hb : Below W.heap.size W _ := hb0
    have TB' := kCall hb (kSize TB) TB
    refine hK.out _ _ (SS.out _ TB') ?_
    exact ⟨_, _, _, _, _, _, _, _, _, _, _, rfl, TB', ⟨_, xR.below hb xR.lt, sR⟩, f1.keep (by decide) (keepE hb), f2.keep (by decide) (keepE hb), f4.keep (by decide) (keepE hb), f5.keep (by decide) (keepE hb), f7.keep (by decide) (keepE hb), f8.keep (by decide) (keepE hb), Fl.new (EqV.rfl _), f12.keep (by decide) (keepE hb), f16.keep (by decide) (SlV.below hb), f17.keep (by decide) (AgV.below hb), f18.keep (by decide) (AlV.below hb), f19.keep (by decide) (fun h => ⟨StV.below hb h.1, getD_set_true h.2⟩)⟩
  · obtain ⟨v8, v15, v16, v18, v19, v21, v22, v25, v26, v30, v31, rfl, TB, XB, f1, f2, f4, f5, f7, f8, f11, f12, f16, f17, f18, f19⟩ := hI
    obtain ⟨vsR, xR, sR⟩ := XB.out
    have hnW : n0 ≤ W.heap.size := by have := xR.lt; omega
    obtain ⟨rfl⟩ := f11.get (hd 11 (by simp))
    refine want_none (by exact rfl) ?_
    go_wp2_with fail
    refine hK.out _ _ (SS.out _ TB) ?_
    exact ⟨_, _, _, _, _, _, _, _, _, _, _, rfl, TB, XB, f1.keep (by decide) id, f2.keep (by decide) id, f4.keep (by decide) id, f5.keep (by decide) id, f7.keep (by decide) id, f8.keep (by decide) id, f11.keep (by decide) id, Fl.new (EqV.rfl _), f16.keep (by decide) id, f17.keep (by decide) id, f18.keep (by decide) id, f19.keep (by decide) (fun h => ⟨h.1, getD_set_true h.2⟩)⟩
  · obtain ⟨v8, v15, v16, v18, v19, v21, v22, v25, v26, v30, v31, rfl, TB, XB, f1, f2, f4, f5, f7, f8, f11, f12, f16, f17, f18, f19⟩ := hI
    obtain ⟨vsR, xR, sR⟩ := XB.out
    have hnW : n0 ≤ W.heap.size := by have := xR.lt; omega
    refine want_none (by exact rfl) ?_
    go_wp2_with fail
    refine (KD.out _ TB.out).mono ?_
    rintro e w' ⟨a', c', rfl, o', hb0⟩
    go_wp2_with fail
    have hb : Below W.heap.size W _ := hb0
    have TB' := kCall hb (kSize TB) TB
    refine hK.out _ _ (SS.out _ TB') ?_
    exact ⟨_, _, _, _, _, _, _, _, _, _, _, rfl, TB', ⟨_, xR.below hb xR.lt, sR⟩, f1.keep (by decide) (keepE hb), f2.keep (by decide) (keepE hb), f4.keep (by decide) (keepE hb), f5.keep (by decide) (keepE hb), f7.keep (by decide) (keepE hb), f8.keep (by decide) (keepE hb), f11.keep (by decide) (keepE hb), f12.keep (by decide) (keepE hb), Fl.new (⟨_, _, rfl, o'.rebase hnW⟩), f17.keep (by decide) (AgV.below hb), f18.keep (by decide) (AlV.below hb), f19.keep (by decide) (fun h => ⟨StV.below hb h.1, getD_set_true h.2⟩)⟩
  · obtain ⟨v8, v15, v16, v18, v19, v21, v22, v25, v26, v30, v31, rfl, TB, XB, f1, f2, f4, f5, f7, f8, f11, f12, f16, f17, f18, f19⟩ := hI
    obtain ⟨vsR, xR, sR⟩ := XB.out
    have hnW : n0 ≤ W.heap.size := by have := xR.lt; omega
    obtain ⟨rfl⟩ := f2.get (hd 2 (by simp))
    obtain ⟨rfl⟩ := f5.get (hd 5 (by simp))
    obtain ⟨rfl⟩ := f8.get (hd 8 (by simp))
    obtain ⟨rfl⟩ := f12.get (hd 12 (by simp))
    obtain ⟨a30, c30, rfl, o30⟩ := f16.get (hd 16 (by simp))
    refine want_none (by exact rfl) ?_
    go_wp2_with fail
    refine hK.out _ _ (SS.out _ TB) ?_
    exact ⟨_, _, _, _, _, _, _, _, _, _, _, rfl, TB, XB, f1.keep (by decide) id, f2.keep (by decide) id, f4.keep (by decide) id, f5.keep (by decide) id, f7.keep (by decide) id, f8.keep (by decide) id, f11.keep (by decide) id, f12.keep (by decide) id, f16.keep (by decide) id, Fl.new (⟨_, _, rfl, o30⟩), f18.keep (by decide) id, f19.keep (by decide) (fun h => ⟨h.1, getD_set_true h.2⟩)⟩
  · obtain ⟨v8, v15, v16, v18, v19, v21, v22, v25, v26, v30, v31, rfl, TB, XB, f1, f2, f4, f5, f7, f8, f11, f12, f16, f17, f18, f19⟩ := hI
    obtain ⟨vsR, xR, sR⟩ := XB.out
    have hnW : n0 ≤ W.heap.size := by have := xR.lt; omega
    refine want_none (by exact rfl) ?_
    go_wp2_with fail
    have hb : Below W.heap.size W _ := bAlloc W (.cells #[.int .i64 0, .int .i64 0, .int .i64 0, .int .i64 0, .int .i64 0, .int .i64 0, .int .i64 0, .slice none 0 0] 25)
    have TB' := kCall hb (kSize TB) TB
    refine hK.out _ _ (SS.out _ TB') ?_
    exact ⟨_, _, _, _, _, _, _, _, _, _, _, rfl, TB', ⟨_, xR.below hb xR.lt, sR⟩, f1.keep (by decide) (keepE hb), f2.keep (by decide) (keepE hb), f4.keep (by decide) (keepE hb), f5.keep (by decide) (keepE hb), f7.keep (by decide) (keepE hb), f8.keep (by decide) (keepE hb), f11.keep (by decide) (keepE hb), f12.keep (by decide) (keepE hb), f16.keep (by decide) (SlV.below hb), f17.keep (by decide) (AgV.below hb), Fl.new (AlV.new hnW rfl), f19.keep (by decide) (fun h => absurd h.2 (by rw [getD_unlisted hu]; simp))⟩
  · obtain ⟨v8, v15, v16, v18, v19, v21, v22, v25, v26, v30, v31, rfl, TB, XB, f1, f2, f4, f5, f7, f8, f11, f12, f16, f17, f18, f19⟩ := hI
    obtain ⟨vsR, xR, sR⟩ := XB.out
    have hnW : n0 ≤ W.heap.size := by have := xR.lt; omega
    obtain ⟨gN, vsN, rfl, hgN, xN, sN⟩ := f18.get (hd 18 (by simp))
    obtain ⟨a31, c31, rfl, o31⟩ := f17.get (hd 17 (by simp))
    refine storeBox_step _ rfl 25 (.tmp 8) (.tmp 31) rfl gN 25 vsN (#[.int .i64 p0, .int .i64 p2, .int .i64 p4, .int .i64 0, .int .i64 g, .int .i64 p14, .int .i64 0] ++ #[.slice a31 (0) c31]) xN (by exact rfl) (by exact rfl) (by kernel_rfl) (sN.trans rfl) (by simp [Value.oneCell']) ?_
    intro wS xS gS
    try simp only [Act.put]
    have TB' := kGrownB gS TB (by omega)
    refine hK.out _ _ (SS.out _ TB') ?_
    exact ⟨_, _, _, _, _, _, _, _, _, _, _, rfl, TB', ⟨_, xR.grown gS (by simp only [ne_eq, Option.some.injEq]; omega), sR⟩, f1.keep (by decide) (id), f2.keep (by decide) (id), f4.keep (by decide) (id), f5.keep (by decide) (id), f7.keep (by decide) (id), f8.keep (by decide) (id), f11.keep (by decide) (id), f12.keep (by decide) (id), f16.keep (by decide) (SlV.off xN htU gS), f17.keep (by decide) (AgV.off xN htU gS), f18.keep (by decide) (fun _ => ⟨_, _, rfl, hgN, xS, rfl⟩), Fl.new (⟨⟨_, _, _, rfl, hgN, xS, o31.offBox xN htU gS⟩, getD_set_true (hd 18 (by simp))⟩)⟩
  obtain ⟨v8, v15, v16, v18, v19, v21, v22, v25, v26, v30, v31, rfl, TB, XB, f1, f2, f4, f5, f7, f8, f11, f12, f16, f17, f18, f19⟩ := hI
  obtain ⟨vsR, xR, sR⟩ := XB.out
  have hnW : n0 ≤ W.heap.size := by have := xR.lt; omega
  obtain ⟨⟨g8, a8, c8, rfl, hg8, x8, o8⟩, _⟩ := f19.get (hall 19 (by decide))
  have X1 := Lib.hid (show Box W g8 25 #[.int .i64 p0, .int .i64 p2, .int .i64 p4, .int .i64 0, .int .i64 g, .int .i64 p14, .int .i64 0, .slice a8 (0) c8] by simpa using x8)
  have O1 := Lib.hid o8
  have R1 := Lib.hid xR
  have hsR := Lib.hid sR
  have hg8' : w.heap.size < g8 := by omega
  have hne : Hid (∀ x, a8 = some x → ¬ x.block = g8) := fun x hx => by subst hx; exact o8.ne_box x8 htU
  have B1 := TB
  clear x8 o8 xR sR XB hall TB SS K0 K2 K4 K14 KD f1 f2 f4 f5 f7 f8 f11 f12 f16 f17 f18 f19
  go_wp2_with fail
  refine (KH.out 16 _ rfl).mono ?_
  rintro e w1 ⟨rfl, rfl⟩
  cases m16 : flB g 16
  · go_wp2_with fail
    refine (KH.out 2 _ rfl).mono ?_
    rintro e w2 ⟨rfl, rfl⟩
    cases m2 : flB g 2
    · obtain ⟨_, y0, y1, y2, y3, y4, y5, y6, y7⟩ := X1.out.eight
      go_wp2_with ((with_reducible change wpList _ _ _ (Oper.mk none (Op.store _ _ _) _ _ _ _ :: _) _ _); refine storeBox_list _ rfl 25 (.tmp 6) (.tmp 42) rfl w.heap.size 25 _ #[.int .i64 p0, .int .i64 p2, .int .i64 p4, .int .i64 0, .int .i64 g, .int .i64 p14, .int .i64 0, .slice a8 (0) c8] R1.out (by exact rfl) (by exact rfl) (by kernel_rfl) (hsR.out.trans rfl) (by simp [Value.oneCell']) ?_; intro wS xS gS; have XS := Lib.hid xS; have OS := Lib.hid (O1.out.keepOff gS hrn); have BS := Lib.hid (B1.out.grown gS B1.out.size (fun k e => by cases e; exact Nat.le_refl _)); clear xS gS)
      exact bodyPost_ret (results_cell_row Try.results71 _ _ _ _ _ _ _ rfl XS.out Try.underlying25 rfl (by kernel_rfl)) rfl ⟨_, _, _, by obtain rfl := HX.out _ _ m16 m2; rfl, OS.out.rebase hn1, BS.out⟩
    · have u6 := X1.out.cell 6
      have q6 := X1.out.frozen 6
      simp at u6
      have X2 : Hid (Box (W.setCell ⟨g8, 6, none⟩ (.int .i64 ms)) g8 25 #[.int .i64 p0, .int .i64 p2, .int .i64 p4, .int .i64 0, .int .i64 g, .int .i64 p14, .int .i64 ms, .slice a8 (0) c8]) := X1.out.put 6 _
      have R2 := Lib.hid (R1.out.grown (grown_setCell W ⟨g8, 6, none⟩ (.int .i64 ms)) (by simp only [ne_eq, Option.some.injEq]; omega))
      have B2 := Lib.hid (B1.out.setCell (p := ⟨g8, 6, none⟩) (by simp only; omega) (.int .i64 ms))
      have O2 : Hid (Own (W.setCell ⟨g8, 6, none⟩ (.int .i64 ms)) n0 a8 (0) c8 ys) := O1.out.setOther _ _ hne.out
      generalize hW1 : W.setCell ⟨g8, 6, none⟩ (.int .i64 ms) = V2 at *
      clear X1 R1 B1 O1
      obtain ⟨_, y0, y1, y2, y3, y4, y5, y6, y7⟩ := X2.out.eight
      go_wp2_with ((with_reducible change wpList _ _ _ (Oper.mk none (Op.store _ _ _) _ _ _ _ :: _) _ _); refine storeBox_list _ rfl 25 (.tmp 6) (.tmp 42) rfl w.heap.size 25 _ #[.int .i64 p0, .int .i64 p2, .int .i64 p4, .int .i64 0, .int .i64 g, .int .i64 p14, .int .i64 ms, .slice a8 (0) c8] R2.out (by exact rfl) (by exact rfl) (by kernel_rfl) (hsR.out.trans rfl) (by simp [Value.oneCell']) ?_; intro wS xS gS; have XS := Lib.hid xS; have OS := Lib.hid (O2.out.keepOff gS hrn); have BS := Lib.hid (B2.out.grown gS B2.out.size (fun k e => by cases e; exact Nat.le_refl _)); clear xS gS)
      exact bodyPost_ret (results_cell_row Try.results71 _ _ _ _ _ _ _ rfl XS.out Try.underlying25 rfl (by kernel_rfl)) rfl ⟨_, _, _, by obtain rfl := HX.out _ _ m16 m2; rfl, OS.out.rebase hn1, BS.out⟩
  · go_wp2_with fail
    refine (K8.out _ B1.out).mono ?_
    rintro e w9 ⟨rfl, b9⟩
    have X2 := Lib.hid (X1.out.below b9 X1.out.lt)
    have R2 := Lib.hid (R1.out.below b9 R1.out.lt)
    have O2 := Lib.hid (O1.out.below b9)
    have B2 := Lib.hid (B1.out.trans (b9.mono B1.out.size))
    clear b9 X1 R1 O1 B1 K8
    have u3 := X2.out.cell 3
    have q3 := X2.out.frozen 3
    simp at u3
    have X3 : Hid (Box (w9.setCell ⟨g8, 3, none⟩ (.int .i64 p8)) g8 25 #[.int .i64 p0, .int .i64 p2, .int .i64 p4, .int .i64 p8, .int .i64 g, .int .i64 p14, .int .i64 0, .slice a8 (0) c8]) := X2.out.put 3 _
    have R3 := Lib.hid (R2.out.grown (grown_setCell w9 ⟨g8, 3, none⟩ (.int .i64 p8)) (by simp only [ne_eq, Option.some.injEq]; omega))
    have B3 := Lib.hid (B2.out.setCell (p := ⟨g8, 3, none⟩) (by simp only; omega) (.int .i64 p8))
    have O3 : Hid (Own (w9.setCell ⟨g8, 3, none⟩ (.int .i64 p8)) n0 a8 (0) c8 ys) := O2.out.setOther _ _ hne.out
    generalize hW2 : w9.setCell ⟨g8, 3, none⟩ (.int .i64 p8) = V3 at *
    clear X2 R2 B2 O2
    go_wp2_with fail
    clear hW2
    refine (KH.out 2 _ rfl).mono ?_
    rintro e w2 ⟨rfl, rfl⟩
    cases m2 : flB g 2
    · obtain ⟨_, y0, y1, y2, y3, y4, y5, y6, y7⟩ := X3.out.eight
      go_wp2_with ((with_reducible change wpList _ _ _ (Oper.mk none (Op.store _ _ _) _ _ _ _ :: _) _ _); refine storeBox_list _ rfl 25 (.tmp 6) (.tmp 42) rfl w.heap.size 25 _ #[.int .i64 p0, .int .i64 p2, .int .i64 p4, .int .i64 p8, .int .i64 g, .int .i64 p14, .int .i64 0, .slice a8 (0) c8] R3.out (by exact rfl) (by exact rfl) (by kernel_rfl) (hsR.out.trans rfl) (by simp [Value.oneCell']) ?_; intro wS xS gS; have XS := Lib.hid xS; have OS := Lib.hid (O3.out.keepOff gS hrn); have BS := Lib.hid (B3.out.grown gS B3.out.size (fun k e => by cases e; exact Nat.le_refl _)); clear xS gS)
      exact bodyPost_ret (results_cell_row Try.results71 _ _ _ _ _ _ _ rfl XS.out Try.underlying25 rfl (by kernel_rfl)) rfl ⟨_, _, _, by obtain rfl := HX.out _ _ m16 m2; rfl, OS.out.rebase hn1, BS.out⟩
    · have u6 := X3.out.cell 6
      have q6 := X3.out.frozen 6
      simp at u6
      have X4 : Hid (Box (V3.setCell ⟨g8, 6, none⟩ (.int .i64 ms)) g8 25 #[.int .i64 p0, .int .i64 p2, .int .i64 p4, .int .i64 p8, .int .i64 g, .int .i64 p14, .int .i64 ms, .slice a8 (0) c8]) := X3.out.put 6 _
      have R4 := Lib.hid (R3.out.grown (grown_setCell V3 ⟨g8, 6, none⟩ (.int .i64 ms)) (by simp only [ne_eq, Option.some.injEq]; omega))
      have B4 := Lib.hid (B3.out.setCell (p := ⟨g8, 6, none⟩) (by simp only; omega) (.int .i64 ms))
      have O4 : Hid (Own (V3.setCell ⟨g8, 6, none⟩ (.int .i64 ms)) n0 a8 (0) c8 ys) := O3.out.setOther _ _ hne.out
      generalize hW3 : V3.setCell ⟨g8, 6, none⟩ (.int .i64 ms) = V4 at *
      clear X3 R3 B3 O3
      obtain ⟨_, y0, y1, y2, y3, y4, y5, y6, y7⟩ := X4.out.eight
      go_wp2_with ((with_reducible change wpList _ _ _ (Oper.mk none (Op.store _ _ _) _ _ _ _ :: _) _ _); refine storeBox_list _ rfl 25 (.tmp 6) (.tmp 42) rfl w.heap.size 25 _ #[.int .i64 p0, .int .i64 p2, .int .i64 p4, .int .i64 p8, .int .i64 g, .int .i64 p14, .int .i64 ms, .slice a8 (0) c8] R4.out (by exact rfl) (by exact rfl) (by kernel_rfl) (hsR.out.trans rfl) (by simp [Value.oneCell']) ?_; intro wS xS gS; have XS := Lib.hid xS; have OS := Lib.hid (O4.out.keepOff gS hrn); have BS := Lib.hid (B4.out.grown gS B4.out.size (fun k e => by cases e; exact Nat.le_refl _)); clear xS gS)
      exact bodyPost_ret (results_cell_row Try.results71 _ _ _ _ _ _ _ rfl XS.out Try.underlying25 rfl (by kernel_rfl)) rfl ⟨_, _, _, by obtain rfl := HX.out _ _ m16 m2; rfl, OS.out.rebase hn1, BS.out⟩

theorem segmentIn_any (a : Option Addr) (len cap h : Nat) (ms : Int) (zs : List Int) (w : World) (hr : Rd w a len cap zs) (h1 : 20 ≤ h) (h2 : h ≤ len) (h3 : len ≤ 560) :
    Calls Try.prog 71 #[.slice a len cap, .int .i64 h, .int .i64 ms] w (SgOut w (rsG zs ms) (zs.drop h)) := by
  by_cases hc : cap = h
  · have hle := hr.le
    obtain rfl : len = h := by omega
    subst hc
    exact segmentIn_2 a _ ms zs w hr h1 h3
  · exact segmentIn_1 a len cap h ms zs w hr h1 h2 h3 hc

set_option maxRecDepth 20000 in
set_option maxHeartbeats 8000000 in
theorem implReadSegment_1 (f t : Int) (a : Option Addr) (len cap : Nat) (zs : List Int) (w : World) (hr : Rd w a len cap zs) (hc20 : ¬ cap = 20) :
    Calls Try.prog 16 #[.int .i64 f, .int .i64 t, .slice a len cap] w (RsRes w (rsAns f t zs)) := by
  obtain ⟨q, hq⟩ : ∃ q, q = (inB f 0 4294967295 && inB t 0 4294967295) := ⟨_, rfl⟩
  obtain ⟨A, hA⟩ : ∃ A, A = rsAns f t zs := ⟨_, rfl⟩
  rw [← hA]
  have hl := hr.length
  have HIP : Hid ((ipB f && ipB t) = q) := hq.symm
  have HA := Lib.hid hA
  have HQ := Lib.hid hq
  have HR := Lib.hid hr
  have hml : len ≤ maxLen := Nat.le_trans hr.le hr.max
  have hle := hr.le
  unfold maxLen at hml
  have B0 := Lib.hid ((Below.refl w.heap.size w).alloc (Nat.le_refl _) (.cells #[.int .i64 0, .int .i64 0, .int .i64 0, .int .i64 0, .int .i64 0, .int .i64 0, .int .i64 0, .int .i64 0, .slice none 0 0] 34))
  have R0 := Lib.hid (Box.new w 34 #[.int .i64 0, .int .i64 0, .int .i64 0, .int .i64 0, .int .i64 0, .int .i64 0, .int .i64 0, .int .i64 0, .slice none 0 0])
  have HPH : Hid (q = true → len ≤ 560 → phB f t 6 (len : Nat) = true) := fun h hm => by
    unfold phB ipB
    rw [← hq, h, in_t (show (0 : Int) ≤ 6 ∧ (6 : Int) ≤ 255 by omega), in_t (show (0 : Int) ≤ ((len : Nat) : Int) ∧ ((len : Nat) : Int) ≤ 65535 by omega)]
    rfl
  clear hq hA hr
  go_enter Try.func16, Try.ntmps16
  go_wp2_with fail
  refine (ipBound_any f _).mono ?_
  rintro e w1 ⟨rfl, b1⟩
  have R1 := Lib.hid (R0.out.below b1 R0.out.lt)
  have B1 := Lib.hid (B0.out.trans (b1.mono B0.out.size))
  clear b1 R0 B0
  go_wp2_with fail
  refine (ipBound_any t _).mono ?_
  rintro e w2 ⟨rfl, b2⟩
  have R2 := Lib.hid (R1.out.below b2 R1.out.lt)
  have B2 := Lib.hid (B1.out.trans (b2.mono B1.out.size))
  clear b2 R1 B1
  go_wp2_with fail
  refine (within2 _ _ _ _ _ _ _ _ _ (Box.new _ _ _)).mono ?_
  rintro e w3 ⟨rfl, b3⟩
  have R3 := Lib.hid ((R2.out.alloc _).below b3 (R2.out.alloc _).lt)
  have B3 := Lib.hid ((B2.out.alloc B2.out.size _).trans (b3.mono (B2.out.alloc B2.out.size _).size))
  clear b3 R2 B2
  rw [← HQ.out]
  cases q
  · obtain rfl : A = rsNo 3 := HA.out.trans (rs_ip HIP.out)
    obtain ⟨_, r0, r1, r2, r3, r4, r5, r6, r7, r8⟩ := R3.out.nine
    have f0 := R3.out.frozen 0
    have f1 := R3.out.frozen 1
    have f2 := R3.out.frozen 2
    have f3 := R3.out.frozen 3
    have f4 := R3.out.frozen 4
    have f5 := R3.out.frozen 5
    have f6 := R3.out.frozen 6
    have f7 := R3.out.frozen 7
    have f8 := R3.out.frozen 8
    go_wp2
    exact bodyPost_ret (v := .agg #[.int .i64 3, .int .i64 0, .int .i64 0, .int .i64 0, .int .i64 0, .int .i64 0, .int .i64 0, .int .i64 0, .slice none 0 0]) (by simp [results, Try.results16, go_sem, r0, r1, r2, r3, r4, r5, r6, r7, r8]) rfl ⟨none, 0, 0, rfl, Own.nil _ _, (((((((((B3.out.setCell (by simp) _).setCell (by simp) _).setCell (by simp) _).setCell (by simp) _).setCell (by simp) _).setCell (by simp) _).setCell (by simp) _).setCell (by simp) _).setCell (by simp) _)⟩
  clear HQ
  rcases Nat.lt_or_ge len 20 with h1 | h1
  · obtain rfl : A = rsNo 2 := HA.out.trans (rs_len HIP.out (by unfold slnB; exact decide_eq_false (by omega)))
    have e1 : decide ((len : Int) < 20) = true := decide_eq_true (by omega)
    clear HA HIP
    obtain ⟨_, r0, r1, r2, r3, r4, r5, r6, r7, r8⟩ := R3.out.nine
    have f0 := R3.out.frozen 0
    have f1 := R3.out.frozen 1
    have f2 := R3.out.frozen 2
    have f3 := R3.out.frozen 3
    have f4 := R3.out.frozen 4
    have f5 := R3.out.frozen 5
    have f6 := R3.out.frozen 6
    have f7 := R3.out.frozen 7
    have f8 := R3.out.frozen 8
    go_wp2
    exact bodyPost_ret (v := .agg #[.int .i64 2, .int .i64 0, .int .i64 0, .int .i64 0, .int .i64 0, .int .i64 0, .int .i64 0, .int .i64 0, .slice none 0 0]) (by simp [results, Try.results16, go_sem, r0, r1, r2, r3, r4, r5, r6, r7, r8]) rfl ⟨none, 0, 0, rfl, Own.nil _ _, (((((((((B3.out.setCell (by simp) _).setCell (by simp) _).setCell (by simp) _).setCell (by simp) _).setCell (by simp) _).setCell (by simp) _).setCell (by simp) _).setCell (by simp) _).setCell (by simp) _)⟩
  rcases Nat.lt_or_ge 560 len with h2 | h2
  · obtain rfl : A = rsNo 2 := HA.out.trans (rs_len HIP.out (by unfold slnB; exact decide_eq_false (by omega)))
    have e1 : decide ((len : Int) < 20) = false := decide_eq_false (by omega)
    have e2 : decide ((560 : Int) < len) = true := decide_eq_true (by omega)
    clear HA HIP
    obtain ⟨_, r0, r1, r2, r3, r4, r5, r6, r7, r8⟩ := R3.out.nine
    have f0 := R3.out.frozen 0
    have f1 := R3.out.frozen 1
    have f2 := R3.out.frozen 2
    have f3 := R3.out.frozen 3
    have f4 := R3.out.frozen 4
    have f5 := R3.out.frozen 5
    have f6 := R3.out.frozen 6
    have f7 := R3.out.frozen 7
    have f8 := R3.out.frozen 8
    go_wp2
    exact bodyPost_ret (v := .agg #[.int .i64 2, .int .i64 0, .int .i64 0, .int .i64 0, .int .i64 0, .int .i64 0, .int .i64 0, .int .i64 0, .slice none 0 0]) (by simp [results, Try.results16, go_sem, r0, r1, r2, r3, r4, r5, r6, r7, r8]) rfl ⟨none, 0, 0, rfl, Own.nil _ _, (((((((((B3.out.setCell (by simp) _).setCell (by simp) _).setCell (by simp) _).setCell (by simp) _).setCell (by simp) _).setCell (by simp) _).setCell (by simp) _).setCell (by simp) _).setCell (by simp) _)⟩
  have e1 : decide ((len : Int) < 20) = false := decide_eq_false (by omega)
  have e2 : decide ((560 : Int) < len) = false := decide_eq_false (by omega)
  have HSL := Lib.hid (show slnB zs.length = true by unfold slnB; exact decide_eq_true (by omega))
  have HPP := Lib.hid (HPH.out (by simp) (by omega))
  rcases (HR.out.below B3.out).cells with h0 | ⟨ba, off, rfl, hc⟩
  · omega
  have hyb := HR.out.getD_bd 12
  obtain ⟨y, hy⟩ : ∃ y, zs.getD 12 0 = y := ⟨_, rfl⟩
  have c12 : w3.cell? ⟨ba, off + 12, none⟩ = some (.int .u8 y) := by rw [← hy]; exact hc 12 (by omega)
  rw [hy] at hyb
  obtain ⟨h, hh⟩ : ∃ h, hdN zs = h := ⟨_, rfl⟩
  have hhy : (y / 16 * 4) = (h : Int) := by rw [← hh, hdN, hy]; omega
  have i12 : (12 : Int) < len := by omega
  have yw : IntKind.i64.wrap y = y := IntWalk.i64_in _ (by omega)
  have yq : y.tdiv 16 = y / 16 := Int.tdiv_eq_ediv_of_nonneg hyb.1
  have yqw : IntKind.i64.wrap (y / 16) = y / 16 := IntWalk.i64_in _ (by omega)
  have ym0 := Lib.hid (show IntKind.i64.wrap (y / 16 * 4) = (h : Int) by rw [IntWalk.i64_in _ (by omega), hhy])
  have HH := Lib.hid hh
  clear hc hh hy hhy hyb HPH
  by_cases hh1 : 20 ≤ h
  case neg =>
    obtain rfl : A = rsNo 1 := HA.out.trans (rs_form HIP.out HSL.out (by rw [HH.out]; omega))
    have d1 : decide ((h : Int) < 20) = true := decide_eq_true (by omega)
    have ym := ym0.out
    clear HA HIP HSL HH HPP
    obtain ⟨_, r0, r1, r2, r3, r4, r5, r6, r7, r8⟩ := R3.out.nine
    have f0 := R3.out.frozen 0
    have f1 := R3.out.frozen 1
    have f2 := R3.out.frozen 2
    have f3 := R3.out.frozen 3
    have f4 := R3.out.frozen 4
    have f5 := R3.out.frozen 5
    have f6 := R3.out.frozen 6
    have f7 := R3.out.frozen 7
    have f8 := R3.out.frozen 8
    go_wp2
    exact bodyPost_ret (v := .agg #[.int .i64 1, .int .i64 0, .int .i64 0, .int .i64 0, .int .i64 0, .int .i64 0, .int .i64 0, .int .i64 0, .slice none 0 0]) (by simp [results, Try.results16, go_sem, r0, r1, r2, r3, r4, r5, r6, r7, r8]) rfl ⟨none, 0, 0, rfl, Own.nil _ _, (((((((((B3.out.setCell (by simp) _).setCell (by simp) _).setCell (by simp) _).setCell (by simp) _).setCell (by simp) _).setCell (by simp) _).setCell (by simp) _).setCell (by simp) _).setCell (by simp) _)⟩
  by_cases hh2 : h ≤ len
  case neg =>
    obtain rfl : A = rsNo 1 := HA.out.trans (rs_form HIP.out HSL.out (by rw [HH.out]; omega))
    have d1 : decide ((h : Int) < 20) = false := decide_eq_false (by omega)
    have d2 : decide ((len : Int) < h) = true := decide_eq_true (by omega)
    have ym := ym0.out
    clear HA HIP HSL HH HPP
    obtain ⟨_, r0, r1, r2, r3, r4, r5, r6, r7, r8⟩ := R3.out.nine
    have f0 := R3.out.frozen 0
    have f1 := R3.out.frozen 1
    have f2 := R3.out.frozen 2
    have f3 := R3.out.frozen 3
    have f4 := R3.out.frozen 4
    have f5 := R3.out.frozen 5
    have f6 := R3.out.frozen 6
    have f7 := R3.out.frozen 7
    have f8 := R3.out.frozen 8
    go_wp2
    exact bodyPost_ret (v := .agg #[.int .i64 1, .int .i64 0, .int .i64 0, .int .i64 0, .int .i64 0, .int .i64 0, .int .i64 0, .int .i64 0, .slice none 0 0]) (by simp [results, Try.results16, go_sem, r0, r1, r2, r3, r4, r5, r6, r7, r8]) rfl ⟨none, 0, 0, rfl, Own.nil _ _, (((((((((B3.out.setCell (by simp) _).setCell (by simp) _).setCell (by simp) _).setCell (by simp) _).setCell (by simp) _).setCell (by simp) _).setCell (by simp) _).setCell (by simp) _).setCell (by simp) _)⟩
  have HB := Lib.hid (show 20 ≤ hdN zs ∧ hdN zs ≤ zs.length by rw [HH.out, hl]; exact ⟨hh1, hh2⟩)
  obtain ⟨os, hos⟩ : ∃ os, (zs.drop 20).take (h - 20) = os := ⟨_, rfl⟩
  have HOS : Hid (opts zs = os) := by unfold opts; rw [HH.out]; exact hos
  have HF0 := Lib.hid (fun (h3 : dgSum f t 6 zs = 0) (h4 : optK (opts zs) = true) => HA.out.trans (rs_fin HIP.out HSL.out HB.out h3 h4))
  rw [HH.out, hl] at HF0
  have i1 : (20 : Int) ≤ h := by omega
  have i2 : (h : Int) ≤ cap := by omega
  have d1 : decide ((h : Int) < 20) = false := decide_eq_false (by omega)
  have d2 : decide ((len : Int) < h) = false := decide_eq_false (by omega)
  have ym := ym0.out
  obtain ⟨s, hs⟩ : ∃ s, decide (dgSum f t 6 zs = 0) = s := ⟨_, rfl⟩
  have HS : Hid (decide (sumV (pseudoL f t 6 zs.length ++ zs) = 0) = s) := hs
  have H6 : Hid (s = false → A = rsNo 6) := fun h => HA.out.trans (rs_sum HIP.out HSL.out HB.out (of_decide_eq_false (hs.trans h)))
  have H1 : Hid (s = true → optK os = false → A = rsNo 1) := fun h h' => HA.out.trans (rs_opt HIP.out HSL.out HB.out (of_decide_eq_true (hs.trans h)) (by rw [HOS.out]; exact h'))
  have HF1 := Lib.hid (fun (h3 : s = true) (h4 : optK os = true) => HF0.out (of_decide_eq_true (hs.trans h3)) (by rw [HOS.out]; exact h4))
  have HXX : Hid (rsG zs (optV os) = rsX zs) := by unfold rsX; rw [HOS.out]; rfl
  have HPL := Lib.hid (show (pseudoL f t 6 zs.length ++ zs).length ≤ 700 by rw [List.length_append, pseudoL_len, hl]; omega)
  clear HA HIP HSL HH HB HOS HF0 hs
  go_wp2_with fail
  refine (withHead_any f t 6 _ _ _ _ _ (HR.out.below B3.out) HPP.out (by omega)).mono ?_
  rintro e w4 ⟨a4, l4, c4, rfl, o4, b4⟩
  have R4 := Lib.hid (R3.out.below b4 R3.out.lt)
  have B4 := Lib.hid (B3.out.trans (b4.mono B3.out.size))
  have KI := Lib.hid (isSummed_l4 a4 l4 c4 _ s w4 o4.rd (by rw [← o4.length]; exact HPL.out) HS.out)
  clear b4 R3 B3 o4 c12 HPP HPL HS ym
  go_wp2_with fail
  refine KI.out.mono ?_
  rintro e w5 ⟨rfl, b5⟩
  have R5 := Lib.hid (R4.out.below b5 R4.out.lt)
  have B5 := Lib.hid (B4.out.trans (b5.mono B4.out.size))
  clear b5 R4 B4 KI
  cases s
  · obtain rfl : A = rsNo 6 := H6.out rfl
    clear H6 H1 HF1
    obtain ⟨_, r0, r1, r2, r3, r4, r5, r6, r7, r8⟩ := R5.out.nine
    have f0 := R5.out.frozen 0
    have f1 := R5.out.frozen 1
    have f2 := R5.out.frozen 2
    have f3 := R5.out.frozen 3
    have f4 := R5.out.frozen 4
    have f5 := R5.out.frozen 5
    have f6 := R5.out.frozen 6
    have f7 := R5.out.frozen 7
    have f8 := R5.out.frozen 8
    go_wp2
    exact bodyPost_ret (v := .agg #[.int .i64 6, .int .i64 0, .int .i64 0, .int .i64 0, .int .i64 0, .int .i64 0, .int .i64 0, .int .i64 0, .slice none 0 0]) (by simp [results, Try.results16, go_sem, r0, r1, r2, r3, r4, r5, r6, r7, r8]) rfl ⟨none, 0, 0, rfl, Own.nil _ _, (((((((((B5.out.setCell (by simp) _).setCell (by simp) _).setCell (by simp) _).setCell (by simp) _).setCell (by simp) _).setCell (by simp) _).setCell (by simp) _).setCell (by simp) _).setCell (by simp) _)⟩
  have H2 := Lib.hid (H1.out rfl)
  have HF2 := Lib.hid (HF1.out rfl)
  clear H6 H1 HF1
  have KM := Lib.hid (mssIn_any (some ⟨ba, off + 20, none⟩) (h - 20) (cap - 20) os w5 (by rw [← hos]; exact rd_opts (HR.out.below B5.out) hh1 hh2) (by omega))
  obtain ⟨ok, hok⟩ : ∃ ok, ok = optK os := ⟨_, rfl⟩
  obtain ⟨ms, hms⟩ : ∃ ms, ms = optV os := ⟨_, rfl⟩
  rw [← hok] at KM H2 HF2
  rw [← hms] at KM HXX
  clear hok hms hos
  go_wp2_with fail
  refine KM.out.mono ?_
  rintro e w6 ⟨rfl, b6⟩
  have R6 := Lib.hid (R5.out.below b6 R5.out.lt)
  have B6 := Lib.hid (B5.out.trans (b6.mono B5.out.size))
  clear b6 R5 B5 KM
  cases ok
  · obtain rfl : A = rsNo 1 := H2.out rfl
    clear H2 HF2
    obtain ⟨_, r0, r1, r2, r3, r4, r5, r6, r7, r8⟩ := R6.out.nine
    have f0 := R6.out.frozen 0
    have f1 := R6.out.frozen 1
    have f2 := R6.out.frozen 2
    have f3 := R6.out.frozen 3
    have f4 := R6.out.frozen 4
    have f5 := R6.out.frozen 5
    have f6 := R6.out.frozen 6
    have f7 := R6.out.frozen 7
    have f8 := R6.out.frozen 8
    go_wp2
    exact bodyPost_ret (v := .agg #[.int .i64 1, .int .i64 0, .int .i64 0, .int .i64 0, .int .i64 0, .int .i64 0, .int .i64 0, .int .i64 0, .slice none 0 0]) (by simp [results, Try.results16, go_sem, r0, r1, r2, r3, r4, r5, r6, r7, r8]) rfl ⟨none, 0, 0, rfl, Own.nil _ _, (((((((((B6.out.setCell (by simp) _).setCell (by simp) _).setCell (by simp) _).setCell (by simp) _).setCell (by simp) _).setCell (by simp) _).setCell (by simp) _).setCell (by simp) _).setCell (by simp) _)⟩
  have HF := Lib.hid (HF2.out rfl)
  have KD := Lib.hid (segmentIn_any _ len cap h ms zs w6 (HR.out.below B6.out) (by omega) (by omega) (by omega))
  rw [HXX.out] at KD
  have HYL := Lib.hid (show (zs.drop h).length = len - h by rw [List.length_drop, hl])
  clear H2 HF2 HXX
  generalize rsX zs = x at *
  generalize zs.drop h = ys at *
  go_wp2_with fail
  refine KD.out.mono ?_
  rintro e w7 ⟨a6, l6, c6, rfl, o6, b7⟩
  have hl6 : len - h = l6 := HYL.out.symm.trans o6.length
  rw [hl6] at HF
  have R7 := Lib.hid ((R6.out.below b7 R6.out.lt).alloc (.cells #[.int .i64 x.f, .int .i64 x.t, .int .i64 x.s, .int .i64 x.a, .int .i64 x.g, .int .i64 x.w, .int .i64 x.m, .slice a6 l6 c6] 25))
  have B7' := B6.out.trans (b7.mono B6.out.size)
  have B7 := Lib.hid (B7'.alloc B7'.size (.cells #[.int .i64 x.f, .int .i64 x.t, .int .i64 x.s, .int .i64 x.a, .int .i64 x.g, .int .i64 x.w, .int .i64 x.m, .slice a6 l6 c6] 25))
  have X7 := Lib.hid (Box.new w7 25 #[.int .i64 x.f, .int .i64 x.t, .int .i64 x.s, .int .i64 x.a, .int .i64 x.g, .int .i64 x.w, .int .i64 x.m, .slice a6 l6 c6])
  have hn6 : Hid (∀ x, a6 = some x → ¬ x.block = w.heap.size) := fun x hx e => by
    have := (o6.lt x hx).1
    have := R6.out.lt
    omega
  have O7 := Lib.hid ((o6.rebase B6.out.size).alloc (.cells #[.int .i64 x.f, .int .i64 x.t, .int .i64 x.s, .int .i64 x.a, .int .i64 x.g, .int .i64 x.w, .int .i64 x.m, .slice a6 l6 c6] 25))
  have KF := Lib.hid (fun W => implSegmentFault x a6 l6 c6 W)
  obtain ⟨C, hC⟩ : ∃ C, C = sgC x l6 := ⟨_, rfl⟩
  rw [← hC] at KF HF
  clear b7 o6 R6 B6 KD B7' hl6 HYL hC
  generalize hW7 : w7.alloc (.cells #[.int .i64 x.f, .int .i64 x.t, .int .i64 x.s, .int .i64 x.a, .int .i64 x.g, .int .i64 x.w, .int .i64 x.m, .slice a6 l6 c6] 25) = W7 at *
  obtain ⟨_, x0, x1, x2, x3, x4, x5, x6, x7⟩ := X7.out.eight
  go_wp2_with fail
  refine (KF.out _).mono ?_
  rintro e w9 ⟨rfl, b9⟩
  have R9 := Lib.hid (R7.out.below b9 R7.out.lt)
  have X9 := Lib.hid (X7.out.below b9 X7.out.lt)
  have B9 := Lib.hid (B7.out.trans (b9.mono B7.out.size))
  have O9 := Lib.hid (O7.out.below b9)
  clear b9 R7 X7 B7 O7 KF hW7 x0 x1 x2 x3 x4 x5 x6 x7
  by_cases hc0 : C = 0
  case neg =>
    obtain rfl : A = rsNo C := by rw [HF.out, if_pos hc0]
    have hne : (C != 0) = true := by simpa using hc0
    clear HF hc0
    obtain ⟨_, r0, r1, r2, r3, r4, r5, r6, r7, r8⟩ := R9.out.nine
    have f0 := R9.out.frozen 0
    have f1 := R9.out.frozen 1
    have f2 := R9.out.frozen 2
    have f3 := R9.out.frozen 3
    have f4 := R9.out.frozen 4
    have f5 := R9.out.frozen 5
    have f6 := R9.out.frozen 6
    have f7 := R9.out.frozen 7
    have f8 := R9.out.frozen 8
    go_wp2
    exact bodyPost_ret (v := .agg #[.int .i64 C, .int .i64 0, .int .i64 0, .int .i64 0, .int .i64 0, .int .i64 0, .int .i64 0, .int .i64 0, .slice none 0 0]) (by simp [results, Try.results16, go_sem, r0, r1, r2, r3, r4, r5, r6, r7, r8]) rfl ⟨none, 0, 0, rfl, Own.nil _ _, (((((((((B9.out.setCell (by simp) _).setCell (by simp) _).setCell (by simp) _).setCell (by simp) _).setCell (by simp) _).setCell (by simp) _).setCell (by simp) _).setCell (by simp) _).setCell (by simp) _)⟩
  subst hc0
  obtain rfl : A = ⟨0, x, ys⟩ := by rw [HF.out, if_neg (by simp)]
  clear HF
  obtain ⟨_, x0, x1, x2, x3, x4, x5, x6, x7⟩ := X9.out.eight
  obtain ⟨_, r0, r1, r2, r3, r4, r5, r6, r7, r8⟩ := R9.out.nine
  have f0 := R9.out.frozen 0
  have f1 := R9.out.frozen 1
  have f2 := R9.out.frozen 2
  have f3 := R9.out.frozen 3
  have f4 := R9.out.frozen 4
  have f5 := R9.out.frozen 5
  have f6 := R9.out.frozen 6
  have f7 := R9.out.frozen 7
  have f8 := R9.out.frozen 8
  go_wp2
  refine bodyPost_ret (v := .agg #[.int .i64 0, .int .i64 x.f, .int .i64 x.t, .int .i64 x.s, .int .i64 x.a, .int .i64 x.g, .int .i64 x.w, .int .i64 x.m, .slice a6 l6 c6]) (by simp [results, Try.results16, go_sem, r0, r1, r2, r3, r4, r5, r6, r7, r8]) rfl ⟨_, _, _, rfl, ?_, (((((((((B9.out.setCell (by simp) _).setCell (by simp) _).setCell (by simp) _).setCell (by simp) _).setCell (by simp) _).setCell (by simp) _).setCell (by simp) _).setCell (by simp) _).setCell (by simp) _)⟩
  exact (((((((((O9.out.setOther _ _ hn6.out).setOther _ _ hn6.out).setOther _ _ hn6.out).setOther _ _ hn6.out).setOther _ _ hn6.out).setOther _ _ hn6.out).setOther _ _ hn6.out).setOther _ _ hn6.out).setOther _ _ hn6.out)

set_option maxRecDepth 20000 in
set_option maxHeartbeats 8000000 in
theorem implReadSegment_2 (f t : Int) (a : Option Addr) (zs : List Int) (w : World) (hr : Rd w a 20 20 zs) :
    Calls Try.prog 16 #[.int .i64 f, .int .i64 t, .slice a 20 20] w (RsRes w (rsAns f t zs)) := by
  obtain ⟨q, hq⟩ : ∃ q, q = (inB f 0 4294967295 && inB t 0 4294967295) := ⟨_, rfl⟩
  obtain ⟨A, hA⟩ : ∃ A, A = rsAns f t zs := ⟨_, rfl⟩
  rw [← hA]
  have hl := hr.length
  have HIP : Hid ((ipB f && ipB t) = q) := hq.symm
  have HA := Lib.hid hA
  have HQ := Lib.hid hq
  have HR := Lib.hid hr
  have hml : 20 ≤ maxLen := Nat.le_trans hr.le hr.max
  have hle := hr.le
  unfold maxLen at hml
  have B0 := Lib.hid ((Below.refl w.heap.size w).alloc (Nat.le_refl _) (.cells #[.int .i64 0, .int .i64 0, .int .i64 0, .int .i64 0, .int .i64 0, .int .i64 0, .int .i64 0, .int .i64 0, .slice none 0 0] 34))
  have R0 := Lib.hid (Box.new w 34 #[.int .i64 0, .int .i64 0, .int .i64 0, .int .i64 0, .int .i64 0, .int .i64 0, .int .i64 0, .int .i64 0, .slice none 0 0])
  have HPH : Hid (q = true → 20 ≤ 560 → phB f t 6 (20 : Nat) = true) := fun h hm => by
    unfold phB ipB
    rw [← hq, h, in_t (show (0 : Int) ≤ 6 ∧ (6 : Int) ≤ 255 by omega), in_t (show (0 : Int) ≤ ((20 : Nat) : Int) ∧ ((20 : Nat) : Int) ≤ 65535 by omega)]
    rfl
  clear hq hA hr
  go_enter Try.func16, Try.ntmps16
  go_wp2_with fail
  refine (ipBound_any f _).mono ?_
  rintro e w1 ⟨rfl, b1⟩
  have R1 := Lib.hid (R0.out.below b1 R0.out.lt)
  have B1 := Lib.hid (B0.out.trans (b1.mono B0.out.size))
  clear b1 R0 B0
  go_wp2_with fail
  refine (ipBound_any t _).mono ?_
  rintro e w2 ⟨rfl, b2⟩
  have R2 := Lib.hid (R1.out.below b2 R1.out.lt)
  have B2 := Lib.hid (B1.out.trans (b2.mono B1.out.size))
  clear b2 R1 B1
  go_wp2_with fail
  refine (within2 _ _ _ _ _ _ _ _ _ (Box.new _ _ _)).mono ?_
  rintro e w3 ⟨rfl, b3⟩
  have R3 := Lib.hid ((R2.out.alloc _).below b3 (R2.out.alloc _).lt)
  have B3 := Lib.hid ((B2.out.alloc B2.out.size _).trans (b3.mono (B2.out.alloc B2.out.size _).size))
  clear b3 R2 B2
  rw [← HQ.out]
  cases q
  · obtain rfl : A = rsNo 3 := HA.out.trans (rs_ip HIP.out)
    obtain ⟨_, r0, r1, r2, r3, r4, r5, r6, r7, r8⟩ := R3.out.nine
    have f0 := R3.out.frozen 0
    have f1 := R3.out.frozen 1
    have f2 := R3.out.frozen 2
    have f3 := R3.out.frozen 3
    have f4 := R3.out.frozen 4
    have f5 := R3.out.frozen 5
    have f6 := R3.out.frozen 6
    have f7 := R3.out.frozen 7
    have f8 := R3.out.frozen 8
    go_wp2
    exact bodyPost_ret (v := .agg #[.int .i64 3, .int .i64 0, .int .i64 0, .int .i64 0, .int .i64 0, .int .i64 0, .int .i64 0, .int .i64 0, .slice none 0 0]) (by simp [results, Try.results16, go_sem, r0, r1, r2, r3, r4, r5, r6, r7, r8]) rfl ⟨none, 0, 0, rfl, Own.nil _ _, (((((((((B3.out.setCell (by simp) _).setCell (by simp) _).setCell (by simp) _).setCell (by simp) _).setCell (by simp) _).setCell (by simp) _).setCell (by simp) _).setCell (by simp) _).setCell (by simp) _)⟩
  clear HQ
  have HSL := Lib.hid (show slnB zs.length = true by unfold slnB; exact decide_eq_true (by omega))
  have HPP := Lib.hid (HPH.out (by simp) (by omega))
  rcases (HR.out.below B3.out).cells with h0 | ⟨ba, off, rfl, hc⟩
  · omega
  have hyb := HR.out.getD_bd 12
  obtain ⟨y, hy⟩ : ∃ y, zs.getD 12 0 = y := ⟨_, rfl⟩
  have c12 : w3.cell? ⟨ba, off + 12, none⟩ = some (.int .u8 y) := by rw [← hy]; exact hc 12 (by omega)
  rw [hy] at hyb
  obtain ⟨h, hh⟩ : ∃ h, hdN zs = h := ⟨_, rfl⟩
  have hhy : (y / 16 * 4) = (h : Int) := by rw [← hh, hdN, hy]; omega
  have i12 : (12 : Int) < 20 := by omega
  have yw : IntKind.i64.wrap y = y := IntWalk.i64_in _ (by omega)
  have yq : y.tdiv 16 = y / 16 := Int.tdiv_eq_ediv_of_nonneg hyb.1
  have yqw : IntKind.i64.wrap (y / 16) = y / 16 := IntWalk.i64_in _ (by omega)
  have ym0 := Lib.hid (show IntKind.i64.wrap (y / 16 * 4) = (h : Int) by rw [IntWalk.i64_in _ (by omega), hhy])
  have HH := Lib.hid hh
  clear hc hh hy hhy hyb HPH
  by_cases hh1 : 20 ≤ h
  case neg =>
    obtain rfl : A = rsNo 1 := HA.out.trans (rs_form HIP.out HSL.out (by rw [HH.out]; omega))
    have d1 : decide ((h : Int) < 20) = true := decide_eq_true (by omega)
    have ym := ym0.out
    clear HA HIP HSL HH HPP
    obtain ⟨_, r0, r1, r2, r3, r4, r5, r6, r7, r8⟩ := R3.out.nine
    have f0 := R3.out.frozen 0
    have f1 := R3.out.frozen 1
    have f2 := R3.out.frozen 2
    have f3 := R3.out.frozen 3
    have f4 := R3.out.frozen 4
    have f5 := R3.out.frozen 5
    have f6 := R3.out.frozen 6
    have f7 := R3.out.frozen 7
    have f8 := R3.out.frozen 8
    go_wp2
    exact bodyPost_ret (v := .agg #[.int .i64 1, .int .i64 0, .int .i64 0, .int .i64 0, .int .i64 0, .int .i64 0, .int .i64 0, .int .i64 0, .slice none 0 0]) (by simp [results, Try.results16, go_sem, r0, r1, r2, r3, r4, r5, r6, r7, r8]) rfl ⟨none, 0, 0, rfl, Own.nil _ _, (((((((((B3.out.setCell (by simp) _).setCell (by simp) _).setCell (by simp) _).setCell (by simp) _).setCell (by simp) _).setCell (by simp) _).setCell (by simp) _).setCell (by simp) _).setCell (by simp) _)⟩
  by_cases hh2 : h ≤ 20
  case neg =>
    obtain rfl : A = rsNo 1 := HA.out.trans (rs_form HIP.out HSL.out (by rw [HH.out]; omega))
    have d1 : decide ((h : Int) < 20) = false := decide_eq_false (by omega)
    have d2 : decide ((20 : Int) < h) = true := decide_eq_true (by omega)
    have ym := ym0.out
    clear HA HIP HSL HH HPP
    obtain ⟨_, r0, r1, r2, r3, r4, r5, r6, r7, r8⟩ := R3.out.nine
    have f0 := R3.out.frozen 0
    have f1 := R3.out.frozen 1
    have f2 := R3.out.frozen 2
    have f3 := R3.out.frozen 3
    have f4 := R3.out.frozen 4
    have f5 := R3.out.frozen 5
    have f6 := R3.out.frozen 6
    have f7 := R3.out.frozen 7
    have f8 := R3.out.frozen 8
    go_wp2
    exact bodyPost_ret (v := .agg #[.int .i64 1, .int .i64 0, .int .i64 0, .int .i64 0, .int .i64 0, .int .i64 0, .int .i64 0, .int .i64 0, .slice none 0 0]) (by simp [results, Try.results16, go_sem, r0, r1, r2, r3, r4, r5, r6, r7, r8]) rfl ⟨none, 0, 0, rfl, Own.nil _ _, (((((((((B3.out.setCell (by simp) _).setCell (by simp) _).setCell (by simp) _).setCell (by simp) _).setCell (by simp) _).setCell (by simp) _).setCell (by simp) _).setCell (by simp) _).setCell (by simp) _)⟩
  have HB := Lib.hid (show 20 ≤ hdN zs ∧ hdN zs ≤ zs.length by rw [HH.out, hl]; exact ⟨hh1, hh2⟩)
  obtain ⟨os, hos⟩ : ∃ os, (zs.drop 20).take (h - 20) = os := ⟨_, rfl⟩
  have HOS : Hid (opts zs = os) := by unfold opts; rw [HH.out]; exact hos
  have HF0 := Lib.hid (fun (h3 : dgSum f t 6 zs = 0) (h4 : optK (opts zs) = true) => HA.out.trans (rs_fin HIP.out HSL.out HB.out h3 h4))
  rw [HH.out, hl] at HF0
  obtain rfl : h = 20 := by omega
  have ym : IntKind.i64.wrap (y / 16 * 4) = 20 := ym0.out
  obtain ⟨s, hs⟩ : ∃ s, decide (dgSum f t 6 zs = 0) = s := ⟨_, rfl⟩
  have HS : Hid (decide (sumV (pseudoL f t 6 zs.length ++ zs) = 0) = s) := hs
  have H6 : Hid (s = false → A = rsNo 6) := fun h => HA.out.trans (rs_sum HIP.out HSL.out HB.out (of_decide_eq_false (hs.trans h)))
  have H1 : Hid (s = true → optK os = false → A = rsNo 1) := fun h h' => HA.out.trans (rs_opt HIP.out HSL.out HB.out (of_decide_eq_true (hs.trans h)) (by rw [HOS.out]; exact h'))
  have HF1 := Lib.hid (fun (h3 : s = true) (h4 : optK os = true) => HF0.out (of_decide_eq_true (hs.trans h3)) (by rw [HOS.out]; exact h4))
  have HXX : Hid (rsG zs (optV os) = rsX zs) := by unfold rsX; rw [HOS.out]; rfl
  have HPL := Lib.hid (show (pseudoL f t 6 zs.length ++ zs).length ≤ 700 by rw [List.length_append, pseudoL_len, hl]; omega)
  clear HA HIP HSL HH HB HOS HF0 hs
  go_wp2_with fail
  refine (withHead_any f t 6 _ _ _ _ _ (HR.out.below B3.out) HPP.out (by omega)).mono ?_
  rintro e w4 ⟨a4, l4, c4, rfl, o4, b4⟩
  have R4 := Lib.hid (R3.out.below b4 R3.out.lt)
  have B4 := Lib.hid (B3.out.trans (b4.mono B3.out.size))
  have KI := Lib.hid (isSummed_l4 a4 l4 c4 _ s w4 o4.rd (by rw [← o4.length]; exact HPL.out) HS.out)
  clear b4 R3 B3 o4 c12 HPP HPL HS ym
  go_wp2_with fail
  refine KI.out.mono ?_
  rintro e w5 ⟨rfl, b5⟩
  have R5 := Lib.hid (R4.out.below b5 R4.out.lt)
  have B5 := Lib.hid (B4.out.trans (b5.mono B4.out.size))
  clear b5 R4 B4 KI
  cases s
  · obtain rfl : A = rsNo 6 := H6.out rfl
    clear H6 H1 HF1
    obtain ⟨_, r0, r1, r2, r3, r4, r5, r6, r7, r8⟩ := R5.out.nine
    have f0 := R5.out.frozen 0
    have f1 := R5.out.frozen 1
    have f2 := R5.out.frozen 2
    have f3 := R5.out.frozen 3
    have f4 := R5.out.frozen 4
    have f5 := R5.out.frozen 5
    have f6 := R5.out.frozen 6
    have f7 := R5.out.frozen 7
    have f8 := R5.out.frozen 8
    go_wp2
    exact bodyPost_ret (v := .agg #[.int .i64 6, .int .i64 0, .int .i64 0, .int .i64 0, .int .i64 0, .int .i64 0, .int .i64 0, .int .i64 0, .slice none 0 0]) (by simp [results, Try.results16, go_sem, r0, r1, r2, r3, r4, r5, r6, r7, r8]) rfl ⟨none, 0, 0, rfl, Own.nil _ _, (((((((((B5.out.setCell (by simp) _).setCell (by simp) _).setCell (by simp) _).setCell (by simp) _).setCell (by simp) _).setCell (by simp) _).setCell (by simp) _).setCell (by simp) _).setCell (by simp) _)⟩
  have H2 := Lib.hid (H1.out rfl)
  have HF2 := Lib.hid (HF1.out rfl)
  clear H6 H1 HF1
  have KM := Lib.hid (mssIn_any (some ⟨ba, off, none⟩) 0 0 os w5 (by rw [← hos]; exact rd_none20 (HR.out.below B5.out)) (by omega))
  obtain ⟨ok, hok⟩ : ∃ ok, ok = optK os := ⟨_, rfl⟩
  obtain ⟨ms, hms⟩ : ∃ ms, ms = optV os := ⟨_, rfl⟩
  rw [← hok] at KM H2 HF2
  rw [← hms] at KM HXX
  clear hok hms hos
  go_wp2_with fail
  refine KM.out.mono ?_
  rintro e w6 ⟨rfl, b6⟩
  have R6 := Lib.hid (R5.out.below b6 R5.out.lt)
  have B6 := Lib.hid (B5.out.trans (b6.mono B5.out.size))
  clear b6 R5 B5 KM
  cases ok
  · obtain rfl : A = rsNo 1 := H2.out rfl
    clear H2 HF2
    obtain ⟨_, r0, r1, r2, r3, r4, r5, r6, r7, r8⟩ := R6.out.nine
    have f0 := R6.out.frozen 0
    have f1 := R6.out.frozen 1
    have f2 := R6.out.frozen 2
    have f3 := R6.out.frozen 3
    have f4 := R6.out.frozen 4
    have f5 := R6.out.frozen 5
    have f6 := R6.out.frozen 6
    have f7 := R6.out.frozen 7
    have f8 := R6.out.frozen 8
    go_wp2
    exact bodyPost_ret (v := .agg #[.int .i64 1, .int .i64 0, .int .i64 0, .int .i64 0, .int .i64 0, .int .i64 0, .int .i64 0, .int .i64 0, .slice none 0 0]) (by simp [results, Try.results16, go_sem, r0, r1, r2, r3, r4, r5, r6, r7, r8]) rfl ⟨none, 0, 0, rfl, Own.nil _ _, (((((((((B6.out.setCell (by simp) _).setCell (by simp) _).setCell (by simp) _).setCell (by simp) _).setCell (by simp) _).setCell (by simp) _).setCell (by simp) _).setCell (by simp) _).setCell (by simp) _)⟩
  have HF := Lib.hid (HF2.out rfl)
  have KD := Lib.hid (segmentIn_any _ 20 20 20 ms zs w6 (HR.out.below B6.out) (by omega) (by omega) (by omega))
  rw [HXX.out] at KD
  have HYL := Lib.hid (show (zs.drop 20).length = 20 - 20 by rw [List.length_drop, hl])
  clear H2 HF2 HXX
  generalize rsX zs = x at *
  generalize zs.drop 20 = ys at *
  go_wp2_with fail
  refine KD.out.mono ?_
  rintro e w7 ⟨a6, l6, c6, rfl, o6, b7⟩
  have hl6 : 20 - 20 = l6 := HYL.out.symm.trans o6.length
  rw [hl6] at HF
  have R7 := Lib.hid ((R6.out.below b7 R6.out.lt).alloc (.cells #[.int .i64 x.f, .int .i64 x.t, .int .i64 x.s, .int .i64 x.a, .int .i64 x.g, .int .i64 x.w, .int .i64 x.m, .slice a6 l6 c6] 25))
  have B7' := B6.out.trans (b7.mono B6.out.size)
  have B7 := Lib.hid (B7'.alloc B7'.size (.cells #[.int .i64 x.f, .int .i64 x.t, .int .i64 x.s, .int .i64 x.a, .int .i64 x.g, .int .i64 x.w, .int .i64 x.m, .slice a6 l6 c6] 25))
  have X7 := Lib.hid (Box.new w7 25 #[.int .i64 x.f, .int .i64 x.t, .int .i64 x.s, .int .i64 x.a, .int .i64 x.g, .int .i64 x.w, .int .i64 x.m, .slice a6 l6 c6])
  have hn6 : Hid (∀ x, a6 = some x → ¬ x.block = w.heap.size) := fun x hx e => by
    have := (o6.lt x hx).1
    have := R6.out.lt
    omega
  have O7 := Lib.hid ((o6.rebase B6.out.size).alloc (.cells #[.int .i64 x.f, .int .i64 x.t, .int .i64 x.s, .int .i64 x.a, .int .i64 x.g, .int .i64 x.w, .int .i64 x.m, .slice a6 l6 c6] 25))
  have KF := Lib.hid (fun W => implSegmentFault x a6 l6 c6 W)
  obtain ⟨C, hC⟩ : ∃ C, C = sgC x l6 := ⟨_, rfl⟩
  rw [← hC] at KF HF
  clear b7 o6 R6 B6 KD B7' hl6 HYL hC
  generalize hW7 : w7.alloc (.cells #[.int .i64 x.f, .int .i64 x.t, .int .i64 x.s, .int .i64 x.a, .int .i64 x.g, .int .i64 x.w, .int .i64 x.m, .slice a6 l6 c6] 25) = W7 at *
  obtain ⟨_, x0, x1, x2, x3, x4, x5, x6, x7⟩ := X7.out.eight
  go_wp2_with fail
  refine (KF.out _).mono ?_
  rintro e w9 ⟨rfl, b9⟩
  have R9 := Lib.hid (R7.out.below b9 R7.out.lt)
  have X9 := Lib.hid (X7.out.below b9 X7.out.lt)
  have B9 := Lib.hid (B7.out.trans (b9.mono B7.out.size))
  have O9 := Lib.hid (O7.out.below b9)
  clear b9 R7 X7 B7 O7 KF hW7 x0 x1 x2 x3 x4 x5 x6 x7
  by_cases hc0 : C = 0
  case neg =>
    obtain rfl : A = rsNo C := by rw [HF.out, if_pos hc0]
    have hne : (C != 0) = true := by simpa using hc0
    clear HF hc0
    obtain ⟨_, r0, r1, r2, r3, r4, r5, r6, r7, r8⟩ := R9.out.nine
    have f0 := R9.out.frozen 0
    have f1 := R9.out.frozen 1
    have f2 := R9.out.frozen 2
    have f3 := R9.out.frozen 3
    have f4 := R9.out.frozen 4
    have f5 := R9.out.frozen 5
    have f6 := R9.out.frozen 6
    have f7 := R9.out.frozen 7
    have f8 := R9.out.frozen 8
    go_wp2
    exact bodyPost_ret (v := .agg #[.int .i64 C, .int .i64 0, .int .i64 0, .int .i64 0, .int .i64 0, .int .i64 0, .int .i64 0, .int .i64 0, .slice none 0 0]) (by simp [results, Try.results16, go_sem, r0, r1, r2, r3, r4, r5, r6, r7, r8]) rfl ⟨none, 0, 0, rfl, Own.nil _ _, (((((((((B9.out.setCell (by simp) _).setCell (by simp) _).setCell (by simp) _).setCell (by simp) _).setCell (by simp) _).setCell (by simp) _).setCell (by simp) _).setCell (by simp) _).setCell (by simp) _)⟩
  subst hc0
  obtain rfl : A = ⟨0, x, ys⟩ := by rw [HF.out, if_neg (by simp)]
  clear HF
  obtain ⟨_, x0, x1, x2, x3, x4, x5, x6, x7⟩ := X9.out.eight
  obtain ⟨_, r0, r1, r2, r3, r4, r5, r6, r7, r8⟩ := R9.out.nine
  have f0 := R9.out.frozen 0
  have f1 := R9.out.frozen 1
  have f2 := R9.out.frozen 2
  have f3 := R9.out.frozen 3
  have f4 := R9.out.frozen 4
  have f5 := R9.out.frozen 5
  have f6 := R9.out.frozen 6
  have f7 := R9.out.frozen 7
  have f8 := R9.out.frozen 8
  go_wp2
  refine bodyPost_ret (v := .agg #[.int .i64 0, .int .i64 x.f, .int .i64 x.t, .int .i64 x.s, .int .i64 x.a, .int .i64 x.g, .int .i64 x.w, .int .i64 x.m, .slice a6 l6 c6]) (by simp [results, Try.results16, go_sem, r0, r1, r2, r3, r4, r5, r6, r7, r8]) rfl ⟨_, _, _, rfl, ?_, (((((((((B9.out.setCell (by simp) _).setCell (by simp) _).setCell (by simp) _).setCell (by simp) _).setCell (by simp) _).setCell (by simp) _).setCell (by simp) _).setCell (by simp) _).setCell (by simp) _)⟩
  exact (((((((((O9.out.setOther _ _ hn6.out).setOther _ _ hn6.out).setOther _ _ hn6.out).setOther _ _ hn6.out).setOther _ _ hn6.out).setOther _ _ hn6.out).setOther _ _ hn6.out).setOther _ _ hn6.out).setOther _ _ hn6.out)

set_option maxRecDepth 20000 in
set_option maxHeartbeats 8000000 in
theorem implReadSegment_s (f t : Int) (a : Option Addr) (len cap : Nat) (zs : List Int) (w : World) (hr : Rd w a len cap zs) (hs20 : len < 20) :
    Calls Try.prog 16 #[.int .i64 f, .int .i64 t, .slice a len cap] w (RsRes w (rsAns f t zs)) := by
  obtain ⟨q, hq⟩ : ∃ q, q = (inB f 0 4294967295 && inB t 0 4294967295) := ⟨_, rfl⟩
  obtain ⟨A, hA⟩ : ∃ A, A = rsAns f t zs := ⟨_, rfl⟩
  rw [← hA]
  have hl := hr.length
  have HIP : Hid ((ipB f && ipB t) = q) := hq.symm
  have HA := Lib.hid hA
  have HQ := Lib.hid hq
  have HR := Lib.hid hr
  have hml : len ≤ maxLen := Nat.le_trans hr.le hr.max
  have hle := hr.le
  unfold maxLen at hml
  have B0 := Lib.hid ((Below.refl w.heap.size w).alloc (Nat.le_refl _) (.cells #[.int .i64 0, .int .i64 0, .int .i64 0, .int .i64 0, .int .i64 0, .int .i64 0, .int .i64 0, .int .i64 0, .slice none 0 0] 34))
  have R0 := Lib.hid (Box.new w 34 #[.int .i64 0, .int .i64 0, .int .i64 0, .int .i64 0, .int .i64 0, .int .i64 0, .int .i64 0, .int .i64 0, .slice none 0 0])
  have HPH : Hid (q = true → len ≤ 560 → phB f t 6 (len : Nat) = true) := fun h hm => by
    unfold phB ipB
    rw [← hq, h, in_t (show (0 : Int) ≤ 6 ∧ (6 : Int) ≤ 255 by omega), in_t (show (0 : Int) ≤ ((len : Nat) : Int) ∧ ((len : Nat) : Int) ≤ 65535 by omega)]
    rfl
  clear hq hA hr
  go_enter Try.func16, Try.ntmps16
  go_wp2_with fail
  refine (ipBound_any f _).mono ?_
  rintro e w1 ⟨rfl, b1⟩
  have R1 := Lib.hid (R0.out.below b1 R0.out.lt)
  have B1 := Lib.hid (B0.out.trans (b1.mono B0.out.size))
  clear b1 R0 B0
  go_wp2_with fail
  refine (ipBound_any t _).mono ?_
  rintro e w2 ⟨rfl, b2⟩
  have R2 := Lib.hid (R1.out.below b2 R1.out.lt)
  have B2 := Lib.hid (B1.out.trans (b2.mono B1.out.size))
  clear b2 R1 B1
  go_wp2_with fail
  refine (within2 _ _ _ _ _ _ _ _ _ (Box.new _ _ _)).mono ?_
  rintro e w3 ⟨rfl, b3⟩
  have R3 := Lib.hid ((R2.out.alloc _).below b3 (R2.out.alloc _).lt)
  have B3 := Lib.hid ((B2.out.alloc B2.out.size _).trans (b3.mono (B2.out.alloc B2.out.size _).size))
  clear b3 R2 B2
  rw [← HQ.out]
  cases q
  · obtain rfl : A = rsNo 3 := HA.out.trans (rs_ip HIP.out)
    obtain ⟨_, r0, r1, r2, r3, r4, r5, r6, r7, r8⟩ := R3.out.nine
    have f0 := R3.out.frozen 0
    have f1 := R3.out.frozen 1
    have f2 := R3.out.frozen 2
    have f3 := R3.out.frozen 3
    have f4 := R3.out.frozen 4
    have f5 := R3.out.frozen 5
    have f6 := R3.out.frozen 6
    have f7 := R3.out.frozen 7
    have f8 := R3.out.frozen 8
    go_wp2
    exact bodyPost_ret (v := .agg #[.int .i64 3, .int .i64 0, .int .i64 0, .int .i64 0, .int .i64 0, .int .i64 0, .int .i64 0, .int .i64 0, .slice none 0 0]) (by simp [results, Try.results16, go_sem, r0, r1, r2, r3, r4, r5, r6, r7, r8]) rfl ⟨none, 0, 0, rfl, Own.nil _ _, (((((((((B3.out.setCell (by simp) _).setCell (by simp) _).setCell (by simp) _).setCell (by simp) _).setCell (by simp) _).setCell (by simp) _).setCell (by simp) _).setCell (by simp) _).setCell (by simp) _)⟩
  clear HQ
  rcases Nat.lt_or_ge len 20 with h1 | h1
  · obtain rfl : A = rsNo 2 := HA.out.trans (rs_len HIP.out (by unfold slnB; exact decide_eq_false (by omega)))
    have e1 : decide ((len : Int) < 20) = true := decide_eq_true (by omega)
    clear HA HIP
    obtain ⟨_, r0, r1, r2, r3, r4, r5, r6, r7, r8⟩ := R3.out.nine
    have f0 := R3.out.frozen 0
    have f1 := R3.out.frozen 1
    have f2 := R3.out.frozen 2
    have f3 := R3.out.frozen 3
    have f4 := R3.out.frozen 4
    have f5 := R3.out.frozen 5
    have f6 := R3.out.frozen 6
    have f7 := R3.out.frozen 7
    have f8 := R3.out.frozen 8
    go_wp2
    exact bodyPost_ret (v := .agg #[.int .i64 2, .int .i64 0, .int .i64 0, .int .i64 0, .int .i64 0, .int .i64 0, .int .i64 0, .int .i64 0, .slice none 0 0]) (by simp [results, Try.results16, go_sem, r0, r1, r2, r3, r4, r5, r6, r7, r8]) rfl ⟨none, 0, 0, rfl, Own.nil _ _, (((((((((B3.out.setCell (by simp) _).setCell (by simp) _).setCell (by simp) _).setCell (by simp) _).setCell (by simp) _).setCell (by simp) _).setCell (by simp) _).setCell (by simp) _).setCell (by simp) _)⟩
  · omega

theorem implReadSegment (f t : Int) (a : Option Addr) (len cap : Nat) (zs : List Int) (w : World) (hr : Rd w a len cap zs) :
    Calls Try.prog 16 #[.int .i64 f, .int .i64 t, .slice a len cap] w (RsRes w (rsAns f t zs)) := by
  by_cases hc : cap = 20
  · by_cases h20 : len = 20
    · subst hc h20
      exact implReadSegment_2 f t a zs w hr
    · exact implReadSegment_s f t a len cap zs w hr (by have := hr.le; omega)
  · exact implReadSegment_1 f t a len cap zs w hr hc
theorem readSegment_law (f t : Int) (a : Option Addr) (len cap : Nat) (zs : List Int) (w : World) (hr : Rd w a len cap zs) :
    Calls Try.prog 9 #[.int .i64 f, .int .i64 t, .slice a len cap] w fun e w' => e = .returned (.bool true) ∧ Below w.heap.size w w' :=
  exactReadSegment f t a len cap zs (rsAns f t zs).c (rsAns f t zs).x.f (rsAns f t zs).x.t (rsAns f t zs).x.s (rsAns f t zs).x.a (rsAns f t zs).x.g (rsAns f t zs).x.w (rsAns f t zs).x.m (rsAns f t zs).rs w hr (fun a' l' c' W h => specReadSegment f t a' l' c' zs W h) (fun a' l' c' W h => implReadSegment f t a' l' c' zs W h) (rsAns_len f t zs)
end Go.Proofs.Yteaiemckcepphaa
