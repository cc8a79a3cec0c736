/-
  ReadSegment of the model.
-/
import Derived.Test.YteaiemckcepphaaSgP
import Derived.Test.YteaiemckcepphaaSgO
import Derived.Test.YteaiemckcepphaaMB
namespace Go.Proofs.Yteaiemckcepphaa
open Go.ChangeShapes Go.WideShapes Go.ChangeAt Go.RowKit
theorem Box.put {w : World} {b : Nat} {t : TypeId} {vs : Array Value} (h : Box w b t vs) (i : Nat) (v : Value) : Box (w.setCell ⟨b, i, none⟩ v) b t (vs.setIfInBounds i v) := by
  have hlt := h.lt
  have h' : w.heap[b] = .cells vs t (0, 0) := by unfold Box at h; simpa [Array.getElem?_eq_getElem hlt] using h
  show (w.heap.modify b _)[b]? = _
  rw [Array.getElem?_eq_getElem (by simpa using hlt), Array.getElem_modify_self, h']
  rfl
/-- a slice's bytes from 20 on up to h -/
theorem rd_opts {W : World} {ba off len cap h : Nat} {zs : List Int} (hr : Rd W (some ⟨ba, off, none⟩) len cap zs) (h1 : 20 ≤ h) (h2 : h ≤ len) : Rd W (some ⟨ba, off + 20, none⟩) (h - 20) (cap - 20) ((zs.drop 20).take (h - 20)) :=
  (hr.from 20 _ _ _ (by omega) rfl rfl rfl).upto (h - 20) (by omega)
/-- a slice's end, where nothing is behind it -/
theorem rd_end {W : World} {ba off h : Nat} {zs : List Int} (hr : Rd W (some ⟨ba, off, none⟩) h h zs) : Rd W (some ⟨ba, off, none⟩) 0 0 (zs.drop h) := by
  have := hr.fromIf h (Nat.le_refl _)
  simpa using this
/-- the numbers that are read out of a segment's bytes, its options telling m -/
def rsG (zs : List Int) (m : Int) : Sg := ⟨rdTo zs 0 2, rdTo zs 2 2, rdTo zs 4 4, if flB (zs.getD 13 0 % 32) 16 then rdTo zs 8 4 else 0, zs.getD 13 0 % 32, rdTo zs 14 2, if flB (zs.getD 13 0 % 32) 2 then m else 0⟩
def L5Out (w : World) (x : Sg) (ys : List Int) (e : Ending) (w' : World) : Prop :=
  ∃ a' l' c', e = .returned (.tuple #[.agg #[.int .i64 x.f, .int .i64 x.t, .int .i64 x.s, .int .i64 x.a, .int .i64 x.g, .int .i64 x.w, .int .i64 x.m, .slice a' l' c'], .int .i64 (sgC x ys.length)]) ∧ Own w' w.heap.size a' l' c' ys ∧ Below w.heap.size w w'

set_option maxRecDepth 20000 in
set_option maxHeartbeats 8000000 in
theorem l5Read_okA (a : Option Addr) (len cap h : Nat) (zs : List Int) (w : World) (hr : Rd w a len cap zs) (h1 : 20 ≤ h) (h2 : h ≤ len) (h3 : len ≤ 560) (hcap : ¬ cap = h) (hk : optK ((zs.drop 20).take (h - 20)) = true) :
    Calls Try.prog 75 #[.slice a len cap, .int .i64 h] w (L5Out w (rsG zs (optV ((zs.drop 20).take (h - 20)))) (zs.drop h)) := by
  have hle := hr.le
  have hmx := hr.max
  unfold maxLen at hmx
  rcases hr.cells with h0 | ⟨ba, off, rfl, hc⟩
  · omega
  have i1 : (20 : Int) ≤ h := by omega
  have i2 : (h : Int) ≤ cap := by omega
  have i3 : (h : Int) ≤ len := by omega
  have i4 : (13 : Int) < len := by omega
  have hc20 : ¬ cap = 20 := by omega
  obtain ⟨os, hos⟩ : ∃ os, (zs.drop 20).take (h - 20) = os := ⟨_, rfl⟩
  rw [hos] at hk ⊢
  obtain ⟨ms, hms⟩ : ∃ m, optV os = m := ⟨_, rfl⟩
  obtain ⟨ys, hys⟩ : ∃ ys, zs.drop h = ys := ⟨_, rfl⟩
  obtain ⟨p0, hp0⟩ : ∃ m, rdTo zs 0 2 = m := ⟨_, rfl⟩
  obtain ⟨p2, hp2⟩ : ∃ m, rdTo zs 2 2 = m := ⟨_, rfl⟩
  obtain ⟨p4, hp4⟩ : ∃ m, rdTo zs 4 4 = m := ⟨_, rfl⟩
  obtain ⟨p8, hp8⟩ : ∃ m, rdTo zs 8 4 = m := ⟨_, rfl⟩
  obtain ⟨p14, hp14⟩ : ∃ m, rdTo zs 14 2 = m := ⟨_, rfl⟩
  obtain ⟨y, hy⟩ : ∃ y, zs.getD 13 0 = y := ⟨_, rfl⟩
  have hyb := hr.getD_bd 13
  rw [hy] at hyb
  obtain ⟨g, hg⟩ : ∃ g, y % 32 = g := ⟨_, rfl⟩
  have hgb : 0 ≤ g ∧ g ≤ 31 := by omega
  have hyw : IntKind.i64.wrap y = y := IntWalk.i64_in _ (by omega)
  have hym : y.tmod 32 = g := by rw [Int.tmod_eq_emod_of_nonneg hyb.1]; exact hg
  have HX : Hid (rsG zs ms = ⟨p0, p2, p4, if flB g 16 then p8 else 0, g, p14, if flB g 2 then ms else 0⟩) := by unfold rsG; rw [hy, hg, hp0, hp2, hp4, hp8, hp14]; rfl
  have HOs := Lib.hid (show ∀ W, Below w.heap.size w W → Rd W (some ⟨ba, off + 20, none⟩) (h - 20) (cap - 20) os from fun W hW => by rw [← hos]; exact rd_opts (hr.below hW) h1 h2)
  have KO := Lib.hid (show ∀ W, Below w.heap.size w W → Calls Try.prog 105 #[.slice (some ⟨ba, off + 20, none⟩) (h - 20) (cap - 20)] W fun e w' => e = .returned (.tuple #[.int .i64 ms, .bool true]) ∧ W = w' from fun W hW => by
    have := l5Options_any (some ⟨ba, off + 20, none⟩) (h - 20) (cap - 20) os W (HOs.out W hW) (by omega)
    rwa [hms, hk] at this)
  have K0 := Lib.hid (show ∀ W, Below w.heap.size w W → Calls Try.prog 106 #[.slice (some ⟨ba, off, none⟩) len cap, .int .i64 0, .int .i64 2] W fun e w' => e = .returned (.int .i64 p0) ∧ W = w' from fun W hW => by rw [← hp0]; exact l1Read_l5 _ len cap 0 2 0 2 zs W (hr.below hW) rfl rfl (by omega) (by omega))
  have K2 := Lib.hid (show ∀ W, Below w.heap.size w W → Calls Try.prog 106 #[.slice (some ⟨ba, off, none⟩) len cap, .int .i64 2, .int .i64 2] W fun e w' => e = .returned (.int .i64 p2) ∧ W = w' from fun W hW => by rw [← hp2]; exact l1Read_l5 _ len cap 2 2 2 2 zs W (hr.below hW) rfl rfl (by omega) (by omega))
  have K4 := Lib.hid (show ∀ W, Below w.heap.size w W → Calls Try.prog 106 #[.slice (some ⟨ba, off, none⟩) len cap, .int .i64 4, .int .i64 4] W fun e w' => e = .returned (.int .i64 p4) ∧ W = w' from fun W hW => by rw [← hp4]; exact l1Read_l5 _ len cap 4 4 4 4 zs W (hr.below hW) rfl rfl (by omega) (by omega))
  have K8 := Lib.hid (show ∀ W, Below w.heap.size w W → Calls Try.prog 106 #[.slice (some ⟨ba, off, none⟩) len cap, .int .i64 8, .int .i64 4] W fun e w' => e = .returned (.int .i64 p8) ∧ W = w' from fun W hW => by rw [← hp8]; exact l1Read_l5 _ len cap 8 4 8 4 zs W (hr.below hW) rfl rfl (by omega) (by omega))
  have K14 := Lib.hid (show ∀ W, Below w.heap.size w W → Calls Try.prog 106 #[.slice (some ⟨ba, off, none⟩) len cap, .int .i64 14, .int .i64 2] W fun e w' => e = .returned (.int .i64 p14) ∧ W = w' from fun W hW => by rw [← hp14]; exact l1Read_l5 _ len cap 14 2 14 2 zs W (hr.below hW) rfl rfl (by omega) (by omega))
  have HD := Lib.hid (show ∀ W, Below w.heap.size w W → Rd W (some ⟨ba, off + h, none⟩) (len - h) (cap - h) ys from fun W hW => by rw [← hys]; exact (hr.below hW).from h _ _ _ (by omega) rfl rfl rfl)
  have HYL := Lib.hid (show ys.length = len - h by rw [← hys, List.length_drop, hr.length])
  have KD := Lib.hid (fun W (hW : Below w.heap.size w W) => l1Copy_any (some ⟨ba, off + h, none⟩) (len - h) (cap - h) ys W (HD.out W hW) (by omega))
  have SS := Lib.hid (show ∀ W, Hid (Below w.heap.size w W) → W.cell? ⟨ba, off + 13, none⟩ = some (.int .u8 y) ∧ Hid (Below w.heap.size w W) from fun W hW => by
    refine ⟨?_, hW⟩
    have := (hW.out.cell (World.block_lt_of_cell? _ _ (hc 13 (by omega)))).trans (hc 13 (by omega))
    rwa [hy] at this)
  rw [hms, hys]
  clear hr hc hy hos hms hys hp0 hp2 hp4 hp8 hp14 hk HD HOs
  have htU : 25 ≠ 5 := by decide
  generalize hn0 : w.heap.size + 1 = n0
  have B0 := Lib.hid ((Below.refl w.heap.size w).alloc (Nat.le_refl _) (.cells #[.int .i64 0, .int .i64 0, .int .i64 0, .int .i64 0, .int .i64 0, .int .i64 0, .int .i64 0, .slice none 0 0] 25))
  have X0 := Lib.hid (Box.new w 25 #[.int .i64 0, .int .i64 0, .int .i64 0, .int .i64 0, .int .i64 0, .int .i64 0, .int .i64 0, .slice none 0 0])
  go_enter Try.func75, Try.ntmps75
  go_wp2_with fail
  refine (KO.out _ B0.out).mono ?_
  rintro e w' ⟨rfl, rfl⟩
  clear KO
  go_wp2_with fail
  have TD := kDrew B0
  refine wp_region_held_drew (S := fun W => W.cell? ⟨ba, off + 13, none⟩ = some (.int .u8 y) ∧ Hid (Below w.heap.size w W)) (by kernel_rfl) (SS.out _ TD) (fun hHeld => ?_)
  refine wpAnyH_take (i := 0) (v := ?_) (by simp only [List.getElem?_toArray, List.getElem?_cons_zero]; exact rfl) (by kernel_rfl) (by kernel_rfl) (by kernel_rfl) (by exact fun _ _ _ h => h) (Or.inl ⟨by rfl, ?_⟩) hHeld ?_
  rotate_left
  · intro w' hSw
    obtain ⟨s0, _⟩ := hSw
    go_simp
    try with_reducible rfl
  try simp only [Act.put, List.setIfInBounds_toArray, List.set_cons_zero, List.set_cons_succ]
  refine wpAnyH_take (i := 2) (v := ?_) (by simp only [List.getElem?_toArray, List.getElem?_cons_zero, List.getElem?_cons_succ]; exact rfl) (by kernel_rfl) (by kernel_rfl) (by kernel_rfl) (by exact fun _ _ _ h => h) (Or.inl ⟨by rfl, ?_⟩) hHeld ?_
  rotate_left
  · intro w' hSw
    obtain ⟨s0, _⟩ := hSw
    go_simp
    try with_reducible rfl
  try simp only [Act.put, List.setIfInBounds_toArray, List.set_cons_zero, List.set_cons_succ]
  refine wpAnyH_take (i := 4) (v := ?_) (by simp only [List.getElem?_toArray, List.getElem?_cons_zero, List.getElem?_cons_succ]; exact rfl) (by kernel_rfl) (by kernel_rfl) (by kernel_rfl) (by exact fun _ _ _ h => h) (Or.inl ⟨by rfl, ?_⟩) hHeld ?_
  rotate_left
  · intro w' hSw
    obtain ⟨s0, _⟩ := hSw
    go_simp
    try with_reducible rfl
  try simp only [Act.put, List.setIfInBounds_toArray, List.set_cons_zero, List.set_cons_succ]
  refine wpAnyH_take (i := 6) (v := ?_) (by simp only [List.getElem?_toArray, List.getElem?_cons_zero, List.getElem?_cons_succ]; exact rfl) (by kernel_rfl) (by kernel_rfl) (by kernel_rfl) (by exact fun _ _ _ h => h) (Or.inl ⟨by rfl, ?_⟩) hHeld ?_
  rotate_left
  · intro w' hSw
    obtain ⟨s0, _⟩ := hSw
    go_simp
    try with_reducible rfl
  try simp only [Act.put, List.setIfInBounds_toArray, List.set_cons_zero, List.set_cons_succ]
  refine wpAnyH_take (i := 8) (v := ?_) (by simp only [List.getElem?_toArray, List.getElem?_cons_zero, List.getElem?_cons_succ]; exact rfl) (by kernel_rfl) (by kernel_rfl) (by kernel_rfl) (by exact fun _ _ _ h => h) (Or.inl ⟨by rfl, ?_⟩) hHeld ?_
  rotate_left
  · intro w' hSw
    obtain ⟨s0, _⟩ := hSw
    go_simp
    try with_reducible rfl
  try simp only [Act.put, List.setIfInBounds_toArray, List.set_cons_zero, List.set_cons_succ]
  refine wpAnyH_take (i := 9) (v := ?_) (by simp only [List.getElem?_toArray, List.getElem?_cons_zero, List.getElem?_cons_succ]; exact rfl) (by kernel_rfl) (by kernel_rfl) (by kernel_rfl) (by exact fun _ _ _ h => h) (Or.inl ⟨by rfl, ?_⟩) hHeld ?_
  rotate_left
  · intro w' hSw
    obtain ⟨s0, _⟩ := hSw
    go_simp
    try with_reducible rfl
  try simp only [Act.put, List.setIfInBounds_toArray, List.set_cons_zero, List.set_cons_succ]
  refine wpAnyH_take (i := 10) (v := ?_) (by simp only [List.getElem?_toArray, List.getElem?_cons_zero, List.getElem?_cons_succ]; exact rfl) (by kernel_rfl) (by kernel_rfl) (by kernel_rfl) (by exact fun _ _ _ h => h) (Or.inl ⟨by rfl, ?_⟩) hHeld ?_
  rotate_left
  · intro w' hSw
    obtain ⟨s0, _⟩ := hSw
    go_simp
    try with_reducible rfl
  try simp only [Act.put, List.setIfInBounds_toArray, List.set_cons_zero, List.set_cons_succ]
  refine wpAnyH_take (i := 11) (v := ?_) (by simp only [List.getElem?_toArray, List.getElem?_cons_zero, List.getElem?_cons_succ]; exact rfl) (by kernel_rfl) (by kernel_rfl) (by kernel_rfl) (by exact fun _ _ _ h => h) (Or.inl ⟨by rfl, ?_⟩) hHeld ?_
  rotate_left
  · intro w' hSw
    obtain ⟨s0, _⟩ := hSw
    go_simp
    try with_reducible rfl
  try simp only [Act.put, List.setIfInBounds_toArray, List.set_cons_zero, List.set_cons_succ]
  refine wpAnyH_take (i := 12) (v := ?_) (by simp only [List.getElem?_toArray, List.getElem?_cons_zero, List.getElem?_cons_succ]; exact rfl) (by kernel_rfl) (by kernel_rfl) (by kernel_rfl) (by exact fun _ _ _ h => h) (Or.inl ⟨by rfl, ?_⟩) hHeld ?_
  rotate_left
  · intro w' hSw
    obtain ⟨s0, _⟩ := hSw
    go_simp
    try with_reducible rfl
  try simp only [Act.put, List.setIfInBounds_toArray, List.set_cons_zero, List.set_cons_succ]
  refine wpAnyH_take (i := 13) (v := ?_) (by simp only [List.getElem?_toArray, List.getElem?_cons_zero, List.getElem?_cons_succ]; exact rfl) (by kernel_rfl) (by kernel_rfl) (by kernel_rfl) (by exact fun _ _ _ h => h) (Or.inl ⟨by rfl, ?_⟩) hHeld ?_
  rotate_left
  · intro w' hSw
    obtain ⟨s0, _⟩ := hSw
    go_simp
    try with_reducible rfl
  try simp only [Act.put, List.setIfInBounds_toArray, List.set_cons_zero, List.set_cons_succ]
  refine wpAnyH_take (i := 15) (v := ?_) (by simp only [List.getElem?_toArray, List.getElem?_cons_zero, List.getElem?_cons_succ]; exact rfl) (by kernel_rfl) (by kernel_rfl) (by kernel_rfl) (by exact fun _ _ _ h => h) (Or.inl ⟨by rfl, ?_⟩) hHeld ?_
  rotate_left
  · intro w' hSw
    obtain ⟨s0, _⟩ := hSw
    go_simp
    try with_reducible rfl
  try simp only [Act.put, List.setIfInBounds_toArray, List.set_cons_zero, List.set_cons_succ]
  refine wpAnyH_take (i := 16) (v := ?_) (by simp only [List.getElem?_toArray, List.getElem?_cons_zero, List.getElem?_cons_succ]; exact rfl) (by kernel_rfl) (by kernel_rfl) (by kernel_rfl) (by exact fun _ _ _ h => h) (Or.inl ⟨by rfl, ?_⟩) hHeld ?_
  rotate_left
  · intro w' hSw
    obtain ⟨s0, _⟩ := hSw
    go_simp
    try with_reducible rfl
  try simp only [Act.put, List.setIfInBounds_toArray, List.set_cons_zero, List.set_cons_succ]
  refine wpAnyH_take (i := 17) (v := ?_) (by simp only [List.getElem?_toArray, List.getElem?_cons_zero, List.getElem?_cons_succ]; exact rfl) (by kernel_rfl) (by kernel_rfl) (by kernel_rfl) (by exact fun _ _ _ h => h) (Or.inl ⟨by rfl, ?_⟩) hHeld ?_
  rotate_left
  · intro w' hSw
    obtain ⟨s0, _⟩ := hSw
    go_simp
    try with_reducible rfl
  try simp only [Act.put, List.setIfInBounds_toArray, List.set_cons_zero, List.set_cons_succ]
  refine wpAnyH_take (i := 18) (v := ?_) (by simp only [List.getElem?_toArray, List.getElem?_cons_zero, List.getElem?_cons_succ]; exact rfl) (by kernel_rfl) (by kernel_rfl) (by kernel_rfl) (by exact fun _ _ _ h => h) (Or.inl ⟨by rfl, ?_⟩) hHeld ?_
  rotate_left
  · intro w' hSw
    obtain ⟨s0, _⟩ := hSw
    go_simp
    try with_reducible rfl
  try simp only [Act.put, List.setIfInBounds_toArray, List.set_cons_zero, List.set_cons_succ]
  refine flow_go (Inv := fun listed ac W => ∃ v8 v20 v22 v24 v26 v33 v38 v39 : Value, ac = { tmps := #[.slice (some ⟨ba, off, none⟩) len cap, .int .i64 h, _, _, .pointer (some ⟨w.heap.size, 0, none⟩), .int .i64 0, .int .i64 ms, .bool true, v8, _, _, _, _, _, _, _, _, _, _, .slice (some ⟨ba, off, none⟩) len cap, v20, .slice (some ⟨ba, off, none⟩) len cap, v22, .slice (some ⟨ba, off, none⟩) len cap, v24, .slice (some ⟨ba, off, none⟩) len cap, v26, .slice (some ⟨ba, off, none⟩) len cap, .pointer (some ⟨ba, off + 13, none⟩), .int .u8 y, .int .i64 y, .int .i64 g, .slice (some ⟨ba, off, none⟩) len cap, v33, .int .i64 ms, .slice (some ⟨ba, off, none⟩) len cap, .int .i64 h, .slice (some ⟨ba, off + h, none⟩) (len - h) (cap - h), v38, v39, _, _, _, _, _, _, _, _, _], defers := [] } ∧ Hid (Below w.heap.size w W) ∧ Hid (∃ vs : Array Value, Box W w.heap.size 25 vs ∧ vs.size = 8) ∧ Fl listed 1 (EqV v20 (.int .i64 p0)) ∧ Fl listed 3 (EqV v22 (.int .i64 p2)) ∧ Fl listed 5 (EqV v24 (.int .i64 p4)) ∧ Fl listed 7 (EqV v26 (.int .i64 p8)) ∧ Fl listed 14 (EqV v33 (.int .i64 p14)) ∧ Fl listed 19 (SlV W n0 v38 (len - h) ys) ∧ Fl listed 20 (AgV W n0 v39 #[.int .i64 p0, .int .i64 p2, .int .i64 p4, .int .i64 p8, .int .i64 g, .int .i64 p14, .int .i64 ms] (len - h) ys) ∧ Fl listed 21 (AlV W n0 v8 25 8) ∧ Fl listed 22 (StV W n0 n0 v8 25 #[.int .i64 p0, .int .i64 p2, .int .i64 p4, .int .i64 p8, .int .i64 g, .int .i64 p14, .int .i64 ms] (len - h) ys ∧ listed.getD 21 false = true)) [1, 3, 5, 7, 14, 19, 20, 21, 22] (by kernel_rfl) (by kernel_rfl) ⟨_, _, _, _, _, _, _, _, rfl, TD, ⟨_, (show Box _ _ _ _ from X0.out), rfl⟩, Fl.not (by kernel_rfl), Fl.not (by kernel_rfl), Fl.not (by kernel_rfl), Fl.not (by kernel_rfl), Fl.not (by kernel_rfl), Fl.not (by kernel_rfl), Fl.not (by kernel_rfl), Fl.not (by kernel_rfl), Fl.not (by kernel_rfl)⟩
    (FlowAll.cons [] (by simp only [List.getElem?_toArray, List.getElem?_cons_zero, List.getElem?_cons_succ]; exact rfl) (by kernel_rfl) (fun listed ac W hI hu hd K hK => ?_)
      (FlowAll.cons [] (by simp only [List.getElem?_toArray, List.getElem?_cons_zero, List.getElem?_cons_succ]; exact rfl) (by kernel_rfl) (fun listed ac W hI hu hd K hK => ?_)
      (FlowAll.cons [] (by simp only [List.getElem?_toArray, List.getElem?_cons_zero, List.getElem?_cons_succ]; exact rfl) (by kernel_rfl) (fun listed ac W hI hu hd K hK => ?_)
      (FlowAll.cons [] (by simp only [List.getElem?_toArray, List.getElem?_cons_zero, List.getElem?_cons_succ]; exact rfl) (by kernel_rfl) (fun listed ac W hI hu hd K hK => ?_)
      (FlowAll.cons [] (by simp only [List.getElem?_toArray, List.getElem?_cons_zero, List.getElem?_cons_succ]; exact rfl) (by kernel_rfl) (fun listed ac W hI hu hd K hK => ?_)
      (FlowAll.cons [] (by simp only [List.getElem?_toArray, List.getElem?_cons_zero, List.getElem?_cons_succ]; exact rfl) (by kernel_rfl) (fun listed ac W hI hu hd K hK => ?_)
      (FlowAll.cons [1, 3, 5, 7, 14, 19] (by simp only [List.getElem?_toArray, List.getElem?_cons_zero, List.getElem?_cons_succ]; exact rfl) (by kernel_rfl) (fun listed ac W hI hu hd K hK => ?_)
      (FlowAll.cons [] (by simp only [List.getElem?_toArray, List.getElem?_cons_zero, List.getElem?_cons_succ]; exact rfl) (by kernel_rfl) (fun listed ac W hI hu hd K hK => ?_)
      (FlowAll.cons [21, 20] (by simp only [List.getElem?_toArray, List.getElem?_cons_zero, List.getElem?_cons_succ]; exact rfl) (by kernel_rfl) (fun listed ac W hI hu hd K hK => ?_)
      FlowAll.nil)))))))))
    (fun listed ac W hI hall => ?_)
  · obtain ⟨v8, v20, v22, v24, v26, v33, v38, v39, rfl, TB, XB, f1, f3, f5, f7, f14, f19, f20, f21, f22⟩ := hI
    obtain ⟨vsR, xR, sR⟩ := XB.out
    have hnW : n0 ≤ W.heap.size := by have := xR.lt; omega
    refine want_none (by exact rfl) ?_
    go_wp2_with fail
    refine (K0.out _ TB.out).mono ?_
    rintro e w' ⟨rfl, rfl⟩
    go_wp2_with fail
    refine hK.out _ _ (SS.out _ TB) ?_
    exact ⟨_, _, _, _, _, _, _, _, rfl, TB, XB, Fl.new (EqV.rfl _), f3.keep (by decide) id, f5.keep (by decide) id, f7.keep (by decide) id, f14.keep (by decide) id, f19.keep (by decide) id, f20.keep (by decide) id, f21.keep (by decide) id, f22.keep (by decide) (fun h => ⟨h.1, getD_set_true h.2⟩)⟩
  · obtain ⟨v8, v20, v22, v24, v26, v33, v38, v39, rfl, TB, XB, f1, f3, f5, f7, f14, f19, f20, f21, f22⟩ := hI
    obtain ⟨vsR, xR, sR⟩ := XB.out
    have hnW : n0 ≤ W.heap.size := by have := xR.lt; omega
    refine want_none (by exact rfl) ?_
    go_wp2_with fail
    refine (K2.out _ TB.out).mono ?_
    rintro e w' ⟨rfl, rfl⟩
    go_wp2_with fail
    refine hK.out _ _ (SS.out _ TB) ?_
    exact ⟨_, _, _, _, _, _, _, _, rfl, TB, XB, f1.keep (by decide) id, Fl.new (EqV.rfl _), f5.keep (by decide) id, f7.keep (by decide) id, f14.keep (by decide) id, f19.keep (by decide) id, f20.keep (by decide) id, f21.keep (by decide) id, f22.keep (by decide) (fun h => ⟨h.1, getD_set_true h.2⟩)⟩
  · obtain ⟨v8, v20, v22, v24, v26, v33, v38, v39, rfl, TB, XB, f1, f3, f5, f7, f14, f19, f20, f21, f22⟩ := hI
    obtain ⟨vsR, xR, sR⟩ := XB.out
    have hnW : n0 ≤ W.heap.size := by have := xR.lt; omega
    refine want_none (by exact rfl) ?_
    go_wp2_with fail
    refine (K4.out _ TB.out).mono ?_
    rintro e w' ⟨rfl, rfl⟩
    go_wp2_with fail
    refine hK.out _ _ (SS.out _ TB) ?_
    exact ⟨_, _, _, _, _, _, _, _, rfl, TB, XB, f1.keep (by decide) id, f3.keep (by decide) id, Fl.new (EqV.rfl _), f7.keep (by decide) id, f14.keep (by decide) id, f19.keep (by decide) id, f20.keep (by decide) id, f21.keep (by decide) id, f22.keep (by decide) (fun h => ⟨h.1, getD_set_true h.2⟩)⟩
  · obtain ⟨v8, v20, v22, v24, v26, v33, v38, v39, rfl, TB, XB, f1, f3, f5, f7, f14, f19, f20, f21, f22⟩ := hI
    obtain ⟨vsR, xR, sR⟩ := XB.out
    have hnW : n0 ≤ W.heap.size := by have := xR.lt; omega
    refine want_none (by exact rfl) ?_
    go_wp2_with fail
    refine (K8.out _ TB.out).mono ?_
    rintro e w' ⟨rfl, rfl⟩
    go_wp2_with fail
    refine hK.out _ _ (SS.out _ TB) ?_
    exact ⟨_, _, _, _, _, _, _, _, rfl, TB, XB, f1.keep (by decide) id, f3.keep (by decide) id, f5.keep (by decide) id, Fl.new (EqV.rfl _), f14.keep (by decide) id, f19.keep (by decide) id, f20.keep (by decide) id, f21.keep (by decide) id, f22.keep (by decide) (fun h => ⟨h.1, getD_set_true h.2⟩)⟩
  · obtain ⟨v8, v20, v22, v24, v26, v33, v38, v39, rfl, TB, XB, f1, f3, f5, f7, f14, f19, f20, f21, f22⟩ := hI
    obtain ⟨vsR, xR, sR⟩ := XB.out
    have hnW : n0 ≤ W.heap.size := by have := xR.lt; omega
    refine want_none (by exact rfl) ?_
    go_wp2_with fail
    refine (K14.out _ TB.out).mono ?_
    rintro e w' ⟨rfl, rfl⟩
    go_wp2_with fail
    refine hK.out _ _ (SS.out _ TB) ?_
    exact ⟨_, _, _, _, _, _, _, _, rfl, TB, XB, f1.keep (by decide) id, f3.keep (by decide) id, f5.keep (by decide) id, f7.keep (by decide) id, Fl.new (EqV.rfl _), f19.keep (by decide) id, f20.keep (by decide) id, f21.keep (by decide) id, f22.keep (by decide) (fun h => ⟨h.1, getD_set_true h.2⟩)⟩
  · obtain ⟨v8, v20, v22, v24, v26, v33, v38, v39, rfl, TB, XB, f1, f3, f5, f7, f14, f19, f20, f21, f22⟩ := hI
    obtain ⟨vsR, xR, sR⟩ := XB.out
    have hnW : n0 ≤ W.heap.size := by have := xR.lt; omega
    refine want_none (by exact rfl) ?_
    go_wp2_with fail
    refine (KD.out _ TB.out).mono ?_
    rintro e w' ⟨a', c', rfl, o', hb0⟩
    go_wp2_with fail
    have hb : Below W.heap.size W _ := hb0
    have TB' := kCall hb (kSize TB) TB
    refine hK.out _ _ (SS.out _ TB') ?_
    exact ⟨_, _, _, _, _, _, _, _, rfl, TB', ⟨_, xR.below hb xR.lt, sR⟩, f1.keep (by decide) (keepE hb), f3.keep (by decide) (keepE hb), f5.keep (by decide) (keepE hb), f7.keep (by decide) (keepE hb), f14.keep (by decide) (keepE hb), Fl.new (⟨_, _, rfl, o'.rebase hnW⟩), f20.keep (by decide) (AgV.below hb), f21.keep (by decide) (AlV.below hb), f22.keep (by decide) (fun h => ⟨StV.below hb h.1, getD_set_true h.2⟩)⟩
  · obtain ⟨v8, v20, v22, v24, v26, v33, v38, v39, rfl, TB, XB, f1, f3, f5, f7, f14, f19, f20, f21, f22⟩ := hI
    obtain ⟨vsR, xR, sR⟩ := XB.out
    have hnW : n0 ≤ W.heap.size := by have := xR.lt; omega
    obtain ⟨rfl⟩ := f1.get (hd 1 (by simp))
    obtain ⟨rfl⟩ := f3.get (hd 3 (by simp))
    obtain ⟨rfl⟩ := f5.get (hd 5 (by simp))
    obtain ⟨rfl⟩ := f7.get (hd 7 (by simp))
    obtain ⟨rfl⟩ := f14.get (hd 14 (by simp))
    obtain ⟨a38, c38, rfl, o38⟩ := f19.get (hd 19 (by simp))
    refine want_none (by exact rfl) ?_
    go_wp2_with fail
    refine hK.out _ _ (SS.out _ TB) ?_
    exact ⟨_, _, _, _, _, _, _, _, rfl, TB, XB, f1.keep (by decide) id, f3.keep (by decide) id, f5.keep (by decide) id, f7.keep (by decide) id, f14.keep (by decide) id, f19.keep (by decide) id, Fl.new (⟨_, _, rfl, o38⟩), f21.keep (by decide) id, f22.keep (by decide) (fun h => ⟨h.1, getD_set_true h.2⟩)⟩
  · obtain ⟨v8, v20, v22, v24, v26, v33, v38, v39, rfl, TB, XB, f1, f3, f5, f7, f14, f19, f20, f21, f22⟩ := hI
    obtain ⟨vsR, xR, sR⟩ := XB.out
    have hnW : n0 ≤ W.heap.size := by have := xR.lt; omega
    refine want_none (by exact rfl) ?_
    go_wp2_with fail
    have hb : Below W.heap.size W _ := bAlloc W (.cells #[.int .i64 0, .int .i64 0, .int .i64 0, .int .i64 0, .int .i64 0, .int .i64 0, .int .i64 0, .slice none 0 0] 25)
    have TB' := kCall hb (kSize TB) TB
    refine hK.out _ _ (SS.out _ TB') ?_
    exact ⟨_, _, _, _, _, _, _, _, rfl, TB', ⟨_, xR.below hb xR.lt, sR⟩, f1.keep (by decide) (keepE hb), f3.keep (by decide) (keepE hb), f5.keep (by decide) (keepE hb), f7.keep (by decide) (keepE hb), f14.keep (by decide) (keepE hb), f19.keep (by decide) (SlV.below hb), f20.keep (by decide) (AgV.below hb), Fl.new (AlV.new hnW rfl), f22.keep (by decide) (fun h => absurd h.2 (by rw [getD_unlisted hu]; simp))⟩
  · obtain ⟨v8, v20, v22, v24, v26, v33, v38, v39, rfl, TB, XB, f1, f3, f5, f7, f14, f19, f20, f21, f22⟩ := hI
    obtain ⟨vsR, xR, sR⟩ := XB.out
    have hnW : n0 ≤ W.heap.size := by have := xR.lt; omega
    obtain ⟨gN, vsN, rfl, hgN, xN, sN⟩ := f21.get (hd 21 (by simp))
    obtain ⟨a39, c39, rfl, o39⟩ := f20.get (hd 20 (by simp))
    refine storeBox_step _ rfl 25 (.tmp 8) (.tmp 39) rfl gN 25 vsN (#[.int .i64 p0, .int .i64 p2, .int .i64 p4, .int .i64 p8, .int .i64 g, .int .i64 p14, .int .i64 ms] ++ #[.slice a39 (len - h) c39]) xN (by exact rfl) (by exact rfl) (by kernel_rfl) (sN.trans rfl) (by simp [Value.oneCell']) ?_
    intro wS xS gS
    try simp only [Act.put]
    have TB' := kGrownB gS TB (by omega)
    refine hK.out _ _ (SS.out _ TB') ?_
    exact ⟨_, _, _, _, _, _, _, _, rfl, TB', ⟨_, xR.grown gS (by simp only [ne_eq, Option.some.injEq]; omega), sR⟩, f1.keep (by decide) (id), f3.keep (by decide) (id), f5.keep (by decide) (id), f7.keep (by decide) (id), f14.keep (by decide) (id), f19.keep (by decide) (SlV.off xN htU gS), f20.keep (by decide) (AgV.off xN htU gS), f21.keep (by decide) (fun _ => ⟨_, _, rfl, hgN, xS, rfl⟩), Fl.new (⟨⟨_, _, _, rfl, hgN, xS, o39.offBox xN htU gS⟩, getD_set_true (hd 21 (by simp))⟩)⟩
  · obtain ⟨v8, v20, v22, v24, v26, v33, v38, v39, rfl, TB, XB, f1, f3, f5, f7, f14, f19, f20, f21, f22⟩ := hI
    obtain ⟨vsR, xR, sR⟩ := XB.out
    have hnW : n0 ≤ W.heap.size := by have := xR.lt; omega
    obtain ⟨⟨g9, a9, c9, rfl, hg9, x9, o9⟩, _⟩ := f22.get (hall 22 (by decide))
    have X9 : Hid (Box W g9 25 #[.int .i64 p0, .int .i64 p2, .int .i64 p4, .int .i64 p8, .int .i64 g, .int .i64 p14, .int .i64 ms, .slice a9 (len - h) c9]) := x9
    have O9 := Lib.hid o9
    have R9 := Lib.hid xR
    have SR := Lib.hid sR
    have T9 := TB
    have HG := Lib.hid hg9
    clear x9 o9 xR sR XB hall TB SS hg9 hnW f1 f3 f5 f7 f14 f19 f20 f21 f22 K0 K2 K4 K8 K14 KD
    go_wp2_with fail
    refine (l5Flag_any g9 ⟨p0, p2, p4, p8, g, p14, ms⟩ a9 (len - h) c9 16 _ X9.out hgb (by omega)).mono ?_
    rintro e w' ⟨rfl, rfl⟩
    cases m16 : flB g 16
    · have c3 := X9.out.cell 3
      have f3 := X9.out.frozen 3
      simp at c3
      have Y9 : Hid (Box (W.setCell ⟨g9, 3, none⟩ (.int .i64 0)) g9 25 #[.int .i64 p0, .int .i64 p2, .int .i64 p4, .int .i64 0, .int .i64 g, .int .i64 p14, .int .i64 ms, .slice a9 (len - h) c9]) := X9.out.put 3 (.int .i64 0)
      have P9 := Lib.hid (O9.out.grown (grown_setCell W ⟨g9, 3, none⟩ (.int .i64 0)) (fun x hx e => by subst hx; simp only [Option.some.injEq] at e; exact O9.out.ne_box X9.out htU e))
      have Q9 := Lib.hid (R9.out.grown (grown_setCell W ⟨g9, 3, none⟩ (.int .i64 0)) (by have := HG.out; simp only [ne_eq, Option.some.injEq]; omega))
      have U9 := Lib.hid (T9.out.setCell (p := ⟨g9, 3, none⟩) (by have := HG.out; simp only; omega) (.int .i64 0))
      clear X9 O9 R9 T9
      generalize hW : W.setCell ⟨g9, 3, none⟩ (.int .i64 0) = W1 at *
      have X9 := Y9
      have O9 := P9
      have R9 := Q9
      have T9 := U9
      clear Y9 P9 Q9 U9
      go_wp2_with fail
      clear hW
      refine (l5Flag_any g9 ⟨p0, p2, p4, 0, g, p14, ms⟩ a9 (len - h) c9 2 _ X9.out hgb (by omega)).mono ?_
      rintro e w' ⟨rfl, rfl⟩
      cases m2 : flB g 2
      · have c6 := X9.out.cell 6
        have f6 := X9.out.frozen 6
        simp at c6
        have Y9 : Hid (Box (W1.setCell ⟨g9, 6, none⟩ (.int .i64 0)) g9 25 #[.int .i64 p0, .int .i64 p2, .int .i64 p4, .int .i64 0, .int .i64 g, .int .i64 p14, .int .i64 0, .slice a9 (len - h) c9]) := X9.out.put 6 (.int .i64 0)
        have P9 := Lib.hid (O9.out.grown (grown_setCell W1 ⟨g9, 6, none⟩ (.int .i64 0)) (fun x hx e => by subst hx; simp only [Option.some.injEq] at e; exact O9.out.ne_box X9.out htU e))
        have Q9 := Lib.hid (R9.out.grown (grown_setCell W1 ⟨g9, 6, none⟩ (.int .i64 0)) (by have := HG.out; simp only [ne_eq, Option.some.injEq]; omega))
        have U9 := Lib.hid (T9.out.setCell (p := ⟨g9, 6, none⟩) (by have := HG.out; simp only; omega) (.int .i64 0))
        clear X9 O9 R9 T9
        generalize hW : W1.setCell ⟨g9, 6, none⟩ (.int .i64 0) = W2 at *
        have X9 := Y9
        have O9 := P9
        have R9 := Q9
        have T9 := U9
        clear Y9 P9 Q9 U9
        have HF : Hid (rsG zs ms = ⟨p0, p2, p4, 0, g, p14, 0⟩) := by rw [HX.out, m16, m2]; rfl
        have KF := Lib.hid (fun W' => specSegmentFault ⟨p0, p2, p4, 0, g, p14, 0⟩ a9 (len - h) c9 W')
        rw [← HYL.out] at KF
        obtain ⟨C, hC⟩ : ∃ C, C = sgC ⟨p0, p2, p4, 0, g, p14, 0⟩ ys.length := ⟨_, rfl⟩
        rw [← hC] at KF
        have HC : Hid (∀ (e : Ending) (w' : World) (a' : Option Addr) (l' c' : Nat), e = .returned (.tuple #[.agg #[.int .i64 p0, .int .i64 p2, .int .i64 p4, .int .i64 0, .int .i64 g, .int .i64 p14, .int .i64 0, .slice a' l' c'], .int .i64 C]) → Own w' w.heap.size a' l' c' ys → Below w.heap.size w w' → L5Out w ⟨p0, p2, p4, 0, g, p14, 0⟩ ys e w') := fun e w' a' l' c' he ho hb => ⟨a', l', c', by rw [he, hC], ho, hb⟩
        clear hC HX
        have SS := Lib.hid (show ∀ W, Hid (Box W g9 25 #[.int .i64 p0, .int .i64 p2, .int .i64 p4, .int .i64 0, .int .i64 g, .int .i64 p14, .int .i64 0, .slice a9 (len - h) c9]) → W.cell? ⟨g9, 0, none⟩ = some (.int .i64 p0) ∧ W.cell? ⟨g9, 1, none⟩ = some (.int .i64 p2) ∧ W.cell? ⟨g9, 2, none⟩ = some (.int .i64 p4) ∧ W.cell? ⟨g9, 3, none⟩ = some (.int .i64 0) ∧ W.cell? ⟨g9, 4, none⟩ = some (.int .i64 g) ∧ W.cell? ⟨g9, 5, none⟩ = some (.int .i64 p14) ∧ W.cell? ⟨g9, 6, none⟩ = some (.int .i64 0) ∧ W.cell? ⟨g9, 7, none⟩ = some (.slice a9 (len - h) c9) from fun W h => h.out.eight.2)
        go_wp2_with fail
        try clear hW
        refine wp_region_held_drew (S := fun W => W.cell? ⟨g9, 0, none⟩ = some (.int .i64 p0) ∧ W.cell? ⟨g9, 1, none⟩ = some (.int .i64 p2) ∧ W.cell? ⟨g9, 2, none⟩ = some (.int .i64 p4) ∧ W.cell? ⟨g9, 3, none⟩ = some (.int .i64 0) ∧ W.cell? ⟨g9, 4, none⟩ = some (.int .i64 g) ∧ W.cell? ⟨g9, 5, none⟩ = some (.int .i64 p14) ∧ W.cell? ⟨g9, 6, none⟩ = some (.int .i64 0) ∧ W.cell? ⟨g9, 7, none⟩ = some (.slice a9 (len - h) c9)) (by kernel_rfl) (SS.out _ (Lib.hid (show Box W2.drew _ _ _ from X9.out))) (fun hHeld => ?_)
        refine wpAnyH_take (i := 0) (v := ?_) (by simp only [List.getElem?_toArray, List.getElem?_cons_zero]; exact rfl) (by kernel_rfl) (by kernel_rfl) (by kernel_rfl) (by exact fun _ _ _ h => h) (Or.inl ⟨by rfl, ?_⟩) hHeld ?_
        rotate_left
        · intro w' hSw
          obtain ⟨s0, s1, s2, s3, s4, s5, s6, s7⟩ := hSw
          go_simp
          try with_reducible rfl
        try simp only [Act.put, List.setIfInBounds_toArray, List.set_cons_zero, List.set_cons_succ]
        refine wpAnyH_take (i := 1) (v := ?_) (by simp only [List.getElem?_toArray, List.getElem?_cons_zero, List.getElem?_cons_succ]; exact rfl) (by kernel_rfl) (by kernel_rfl) (by kernel_rfl) (by exact fun _ _ _ h => h) (Or.inl ⟨by rfl, ?_⟩) hHeld ?_
        rotate_left
        · intro w' hSw
          obtain ⟨s0, s1, s2, s3, s4, s5, s6, s7⟩ := hSw
          go_simp
          try with_reducible rfl
        try simp only [Act.put, List.setIfInBounds_toArray, List.set_cons_zero, List.set_cons_succ]
        refine wpAnyH_ready (rs := [2]) (by kernel_rfl) (by simp) ?_
        refine (AllReadyH.cons (by simp only [List.getElem?_toArray, List.getElem?_cons_zero, List.getElem?_cons_succ]; exact rfl) (fun K hK => ?_) AllReadyH.nil)
        refine want_none (by exact rfl) ?_
        go_wp2_with fail
        have KF' := KF.out
        rw [HYL.out] at KF'
        refine (KF' _).mono ?_
        rintro e w5 ⟨rfl, b5⟩
        clear KF' KF
        have X5 := Lib.hid ((show Box W2.drew _ _ _ from X9.out).below b5 X9.out.lt)
        have R5 := Lib.hid ((show Box W2.drew _ _ _ from R9.out).below b5 R9.out.lt)
        have O5 := Lib.hid (O9.out.drew.below b5)
        have T5 := Lib.hid (T9.out.drew.trans (b5.mono T9.out.drew.size))
        clear b5 X9 R9 O9 T9
        go_wp2_with fail
        refine hK.out _ _ (SS.out _ X5) (fun hHeld => ?_)
        clear hK K
        try simp only [Act.put, List.setIfInBounds_toArray, List.set_cons_zero, List.set_cons_succ]
        refine wpAnyH_ready (rs := [3]) (by kernel_rfl) (by simp) ?_
        refine (AllReadyH.cons (by simp only [List.getElem?_toArray, List.getElem?_cons_zero, List.getElem?_cons_succ]; exact rfl) (fun K hK => ?_) AllReadyH.nil)
        refine storeBox_step _ rfl 25 (.tmp 4) (.tmp 46) rfl w.heap.size 25 vsR #[.int .i64 p0, .int .i64 p2, .int .i64 p4, .int .i64 0, .int .i64 g, .int .i64 p14, .int .i64 0, .slice a9 (len - h) c9] R5.out (by exact rfl) (by exact rfl) (by kernel_rfl) (SR.out.trans rfl) (by simp [Value.oneCell']) ?_
        intro wA xwA gwA
        have X6 := Lib.hid (X5.out.grown gwA (by have := HG.out; simp only [ne_eq, Option.some.injEq]; omega))
        have O6 := Lib.hid ((O5.out.grown gwA (by rintro x hx e; have := (O5.out.lt x hx).1; simp only [Option.some.injEq] at e; omega)).rebase (show w.heap.size ≤ n0 by omega))
        have T6 := Lib.hid (T5.out.grown gwA T5.out.size (fun k e => by cases e; exact Nat.le_refl _))
        have XA := Lib.hid xwA
        clear xwA gwA X5 O5 T5 R5
        refine hK.out _ _ (SS.out _ X6) (fun hHeld => ?_)
        clear hK K
        try simp only [Act.put]
        try simp only [Act.put, List.setIfInBounds_toArray, List.set_cons_zero, List.set_cons_succ]
        refine wpAnyH_take (i := 4) (v := ?_) (by simp only [List.getElem?_toArray, List.getElem?_cons_zero, List.getElem?_cons_succ]; exact rfl) (by kernel_rfl) (by kernel_rfl) (by kernel_rfl) (by exact fun _ _ _ h => h) (Or.inl ⟨by rfl, ?_⟩) hHeld ?_
        rotate_left
        · intro w' hSw
          obtain ⟨s0, s1, s2, s3, s4, s5, s6, s7⟩ := hSw
          go_simp
          try with_reducible rfl
        try simp only [Act.put, List.setIfInBounds_toArray, List.set_cons_zero, List.set_cons_succ]
        refine wpAnyH_done (by kernel_rfl) ?_ _
        go_wp2
        obtain ⟨_, q0, q1, q2, q3, q4, q5, q6, q7⟩ := XA.out.eight
        exact bodyPost_ret (v := .tuple #[.agg #[.int .i64 p0, .int .i64 p2, .int .i64 p4, .int .i64 0, .int .i64 g, .int .i64 p14, .int .i64 0, .slice a9 (len - h) c9], .int .i64 C]) (by simp [results, Try.results75, go_sem, q0, q1, q2, q3, q4, q5, q6, q7]) rfl (by rw [HF.out]; exact HC.out _ _ _ _ _ rfl O6.out T6.out)
      · have HF : Hid (rsG zs ms = ⟨p0, p2, p4, 0, g, p14, ms⟩) := by rw [HX.out, m16, m2]; rfl
        have KF := Lib.hid (fun W' => specSegmentFault ⟨p0, p2, p4, 0, g, p14, ms⟩ a9 (len - h) c9 W')
        rw [← HYL.out] at KF
        obtain ⟨C, hC⟩ : ∃ C, C = sgC ⟨p0, p2, p4, 0, g, p14, ms⟩ ys.length := ⟨_, rfl⟩
        rw [← hC] at KF
        have HC : Hid (∀ (e : Ending) (w' : World) (a' : Option Addr) (l' c' : Nat), e = .returned (.tuple #[.agg #[.int .i64 p0, .int .i64 p2, .int .i64 p4, .int .i64 0, .int .i64 g, .int .i64 p14, .int .i64 ms, .slice a' l' c'], .int .i64 C]) → Own w' w.heap.size a' l' c' ys → Below w.heap.size w w' → L5Out w ⟨p0, p2, p4, 0, g, p14, ms⟩ ys e w') := fun e w' a' l' c' he ho hb => ⟨a', l', c', by rw [he, hC], ho, hb⟩
        clear hC HX
        have SS := Lib.hid (show ∀ W, Hid (Box W g9 25 #[.int .i64 p0, .int .i64 p2, .int .i64 p4, .int .i64 0, .int .i64 g, .int .i64 p14, .int .i64 ms, .slice a9 (len - h) c9]) → W.cell? ⟨g9, 0, none⟩ = some (.int .i64 p0) ∧ W.cell? ⟨g9, 1, none⟩ = some (.int .i64 p2) ∧ W.cell? ⟨g9, 2, none⟩ = some (.int .i64 p4) ∧ W.cell? ⟨g9, 3, none⟩ = some (.int .i64 0) ∧ W.cell? ⟨g9, 4, none⟩ = some (.int .i64 g) ∧ W.cell? ⟨g9, 5, none⟩ = some (.int .i64 p14) ∧ W.cell? ⟨g9, 6, none⟩ = some (.int .i64 ms) ∧ W.cell? ⟨g9, 7, none⟩ = some (.slice a9 (len - h) c9) from fun W h => h.out.eight.2)
        go_wp2_with fail
        try clear hW
        refine wp_region_held_drew (S := fun W => W.cell? ⟨g9, 0, none⟩ = some (.int .i64 p0) ∧ W.cell? ⟨g9, 1, none⟩ = some (.int .i64 p2) ∧ W.cell? ⟨g9, 2, none⟩ = some (.int .i64 p4) ∧ W.cell? ⟨g9, 3, none⟩ = some (.int .i64 0) ∧ W.cell? ⟨g9, 4, none⟩ = some (.int .i64 g) ∧ W.cell? ⟨g9, 5, none⟩ = some (.int .i64 p14) ∧ W.cell? ⟨g9, 6, none⟩ = some (.int .i64 ms) ∧ W.cell? ⟨g9, 7, none⟩ = some (.slice a9 (len - h) c9)) (by kernel_rfl) (SS.out _ (Lib.hid (show Box W1.drew _ _ _ from X9.out))) (fun hHeld => ?_)
        refine wpAnyH_take (i := 0) (v := ?_) (by simp only [List.getElem?_toArray, List.getElem?_cons_zero]; exact rfl) (by kernel_rfl) (by kernel_rfl) (by kernel_rfl) (by exact fun _ _ _ h => h) (Or.inl ⟨by rfl, ?_⟩) hHeld ?_
        rotate_left
        · intro w' hSw
          obtain ⟨s0, s1, s2, s3, s4, s5, s6, s7⟩ := hSw
          go_simp
          try with_reducible rfl
        try simp only [Act.put, List.setIfInBounds_toArray, List.set_cons_zero, List.set_cons_succ]
        refine wpAnyH_take (i := 1) (v := ?_) (by simp only [List.getElem?_toArray, List.getElem?_cons_zero, List.getElem?_cons_succ]; exact rfl) (by kernel_rfl) (by kernel_rfl) (by kernel_rfl) (by exact fun _ _ _ h => h) (Or.inl ⟨by rfl, ?_⟩) hHeld ?_
        rotate_left
        · intro w' hSw
          obtain ⟨s0, s1, s2, s3, s4, s5, s6, s7⟩ := hSw
          go_simp
          try with_reducible rfl
        try simp only [Act.put, List.setIfInBounds_toArray, List.set_cons_zero, List.set_cons_succ]
        refine wpAnyH_ready (rs := [2]) (by kernel_rfl) (by simp) ?_
        refine (AllReadyH.cons (by simp only [List.getElem?_toArray, List.getElem?_cons_zero, List.getElem?_cons_succ]; exact rfl) (fun K hK => ?_) AllReadyH.nil)
        refine want_none (by exact rfl) ?_
        go_wp2_with fail
        have KF' := KF.out
        rw [HYL.out] at KF'
        refine (KF' _).mono ?_
        rintro e w5 ⟨rfl, b5⟩
        clear KF' KF
        have X5 := Lib.hid ((show Box W1.drew _ _ _ from X9.out).below b5 X9.out.lt)
        have R5 := Lib.hid ((show Box W1.drew _ _ _ from R9.out).below b5 R9.out.lt)
        have O5 := Lib.hid (O9.out.drew.below b5)
        have T5 := Lib.hid (T9.out.drew.trans (b5.mono T9.out.drew.size))
        clear b5 X9 R9 O9 T9
        go_wp2_with fail
        refine hK.out _ _ (SS.out _ X5) (fun hHeld => ?_)
        clear hK K
        try simp only [Act.put, List.setIfInBounds_toArray, List.set_cons_zero, List.set_cons_succ]
        refine wpAnyH_ready (rs := [3]) (by kernel_rfl) (by simp) ?_
        refine (AllReadyH.cons (by simp only [List.getElem?_toArray, List.getElem?_cons_zero, List.getElem?_cons_succ]; exact rfl) (fun K hK => ?_) AllReadyH.nil)
        refine storeBox_step _ rfl 25 (.tmp 4) (.tmp 46) rfl w.heap.size 25 vsR #[.int .i64 p0, .int .i64 p2, .int .i64 p4, .int .i64 0, .int .i64 g, .int .i64 p14, .int .i64 ms, .slice a9 (len - h) c9] R5.out (by exact rfl) (by exact rfl) (by kernel_rfl) (SR.out.trans rfl) (by simp [Value.oneCell']) ?_
        intro wA xwA gwA
        have X6 := Lib.hid (X5.out.grown gwA (by have := HG.out; simp only [ne_eq, Option.some.injEq]; omega))
        have O6 := Lib.hid ((O5.out.grown gwA (by rintro x hx e; have := (O5.out.lt x hx).1; simp only [Option.some.injEq] at e; omega)).rebase (show w.heap.size ≤ n0 by omega))
        have T6 := Lib.hid (T5.out.grown gwA T5.out.size (fun k e => by cases e; exact Nat.le_refl _))
        have XA := Lib.hid xwA
        clear xwA gwA X5 O5 T5 R5
        refine hK.out _ _ (SS.out _ X6) (fun hHeld => ?_)
        clear hK K
        try simp only [Act.put]
        try simp only [Act.put, List.setIfInBounds_toArray, List.set_cons_zero, List.set_cons_succ]
        refine wpAnyH_take (i := 4) (v := ?_) (by simp only [List.getElem?_toArray, List.getElem?_cons_zero, List.getElem?_cons_succ]; exact rfl) (by kernel_rfl) (by kernel_rfl) (by kernel_rfl) (by exact fun _ _ _ h => h) (Or.inl ⟨by rfl, ?_⟩) hHeld ?_
        rotate_left
        · intro w' hSw
          obtain ⟨s0, s1, s2, s3, s4, s5, s6, s7⟩ := hSw
          go_simp
          try with_reducible rfl
        try simp only [Act.put, List.setIfInBounds_toArray, List.set_cons_zero, List.set_cons_succ]
        refine wpAnyH_done (by kernel_rfl) ?_ _
        go_wp2
        obtain ⟨_, q0, q1, q2, q3, q4, q5, q6, q7⟩ := XA.out.eight
        exact bodyPost_ret (v := .tuple #[.agg #[.int .i64 p0, .int .i64 p2, .int .i64 p4, .int .i64 0, .int .i64 g, .int .i64 p14, .int .i64 ms, .slice a9 (len - h) c9], .int .i64 C]) (by simp [results, Try.results75, go_sem, q0, q1, q2, q3, q4, q5, q6, q7]) rfl (by rw [HF.out]; exact HC.out _ _ _ _ _ rfl O6.out T6.out)
    · go_wp2_with fail
      refine (l5Flag_any g9 ⟨p0, p2, p4, p8, g, p14, ms⟩ a9 (len - h) c9 2 _ X9.out hgb (by omega)).mono ?_
      rintro e w' ⟨rfl, rfl⟩
      cases m2 : flB g 2
      · have c6 := X9.out.cell 6
        have f6 := X9.out.frozen 6
        simp at c6
        have Y9 : Hid (Box (W.setCell ⟨g9, 6, none⟩ (.int .i64 0)) g9 25 #[.int .i64 p0, .int .i64 p2, .int .i64 p4, .int .i64 p8, .int .i64 g, .int .i64 p14, .int .i64 0, .slice a9 (len - h) c9]) := X9.out.put 6 (.int .i64 0)
        have P9 := Lib.hid (O9.out.grown (grown_setCell W ⟨g9, 6, none⟩ (.int .i64 0)) (fun x hx e => by subst hx; simp only [Option.some.injEq] at e; exact O9.out.ne_box X9.out htU e))
        have Q9 := Lib.hid (R9.out.grown (grown_setCell W ⟨g9, 6, none⟩ (.int .i64 0)) (by have := HG.out; simp only [ne_eq, Option.some.injEq]; omega))
        have U9 := Lib.hid (T9.out.setCell (p := ⟨g9, 6, none⟩) (by have := HG.out; simp only; omega) (.int .i64 0))
        clear X9 O9 R9 T9
        generalize hW : W.setCell ⟨g9, 6, none⟩ (.int .i64 0) = W1 at *
        have X9 := Y9
        have O9 := P9
        have R9 := Q9
        have T9 := U9
        clear Y9 P9 Q9 U9
        have HF : Hid (rsG zs ms = ⟨p0, p2, p4, p8, g, p14, 0⟩) := by rw [HX.out, m16, m2]; rfl
        have KF := Lib.hid (fun W' => specSegmentFault ⟨p0, p2, p4, p8, g, p14, 0⟩ a9 (len - h) c9 W')
        rw [← HYL.out] at KF
        obtain ⟨C, hC⟩ : ∃ C, C = sgC ⟨p0, p2, p4, p8, g, p14, 0⟩ ys.length := ⟨_, rfl⟩
        rw [← hC] at KF
        have HC : Hid (∀ (e : Ending) (w' : World) (a' : Option Addr) (l' c' : Nat), e = .returned (.tuple #[.agg #[.int .i64 p0, .int .i64 p2, .int .i64 p4, .int .i64 p8, .int .i64 g, .int .i64 p14, .int .i64 0, .slice a' l' c'], .int .i64 C]) → Own w' w.heap.size a' l' c' ys → Below w.heap.size w w' → L5Out w ⟨p0, p2, p4, p8, g, p14, 0⟩ ys e w') := fun e w' a' l' c' he ho hb => ⟨a', l', c', by rw [he, hC], ho, hb⟩
        clear hC HX
        have SS := Lib.hid (show ∀ W, Hid (Box W g9 25 #[.int .i64 p0, .int .i64 p2, .int .i64 p4, .int .i64 p8, .int .i64 g, .int .i64 p14, .int .i64 0, .slice a9 (len - h) c9]) → W.cell? ⟨g9, 0, none⟩ = some (.int .i64 p0) ∧ W.cell? ⟨g9, 1, none⟩ = some (.int .i64 p2) ∧ W.cell? ⟨g9, 2, none⟩ = some (.int .i64 p4) ∧ W.cell? ⟨g9, 3, none⟩ = some (.int .i64 p8) ∧ W.cell? ⟨g9, 4, none⟩ = some (.int .i64 g) ∧ W.cell? ⟨g9, 5, none⟩ = some (.int .i64 p14) ∧ W.cell? ⟨g9, 6, none⟩ = some (.int .i64 0) ∧ W.cell? ⟨g9, 7, none⟩ = some (.slice a9 (len - h) c9) from fun W h => h.out.eight.2)
        go_wp2_with fail
        try clear hW
        refine wp_region_held_drew (S := fun W => W.cell? ⟨g9, 0, none⟩ = some (.int .i64 p0) ∧ W.cell? ⟨g9, 1, none⟩ = some (.int .i64 p2) ∧ W.cell? ⟨g9, 2, none⟩ = some (.int .i64 p4) ∧ W.cell? ⟨g9, 3, none⟩ = some (.int .i64 p8) ∧ W.cell? ⟨g9, 4, none⟩ = some (.int .i64 g) ∧ W.cell? ⟨g9, 5, none⟩ = some (.int .i64 p14) ∧ W.cell? ⟨g9, 6, none⟩ = some (.int .i64 0) ∧ W.cell? ⟨g9, 7, none⟩ = some (.slice a9 (len - h) c9)) (by kernel_rfl) (SS.out _ (Lib.hid (show Box W1.drew _ _ _ from X9.out))) (fun hHeld => ?_)
        refine wpAnyH_take (i := 0) (v := ?_) (by simp only [List.getElem?_toArray, List.getElem?_cons_zero]; exact rfl) (by kernel_rfl) (by kernel_rfl) (by kernel_rfl) (by exact fun _ _ _ h => h) (Or.inl ⟨by rfl, ?_⟩) hHeld ?_
        rotate_left
        · intro w' hSw
          obtain ⟨s0, s1, s2, s3, s4, s5, s6, s7⟩ := hSw
          go_simp
          try with_reducible rfl
        try simp only [Act.put, List.setIfInBounds_toArray, List.set_cons_zero, List.set_cons_succ]
        refine wpAnyH_take (i := 1) (v := ?_) (by simp only [List.getElem?_toArray, List.getElem?_cons_zero, List.getElem?_cons_succ]; exact rfl) (by kernel_rfl) (by kernel_rfl) (by kernel_rfl) (by exact fun _ _ _ h => h) (Or.inl ⟨by rfl, ?_⟩) hHeld ?_
        rotate_left
        · intro w' hSw
          obtain ⟨s0, s1, s2, s3, s4, s5, s6, s7⟩ := hSw
          go_simp
          try with_reducible rfl
        try simp only [Act.put, List.setIfInBounds_toArray, List.set_cons_zero, List.set_cons_succ]
        refine wpAnyH_ready (rs := [2]) (by kernel_rfl) (by simp) ?_
        refine (AllReadyH.cons (by simp only [List.getElem?_toArray, List.getElem?_cons_zero, List.getElem?_cons_succ]; exact rfl) (fun K hK => ?_) AllReadyH.nil)
        refine want_none (by exact rfl) ?_
        go_wp2_with fail
        have KF' := KF.out
        rw [HYL.out] at KF'
        refine (KF' _).mono ?_
        rintro e w5 ⟨rfl, b5⟩
        clear KF' KF
        have X5 := Lib.hid ((show Box W1.drew _ _ _ from X9.out).below b5 X9.out.lt)
        have R5 := Lib.hid ((show Box W1.drew _ _ _ from R9.out).below b5 R9.out.lt)
        have O5 := Lib.hid (O9.out.drew.below b5)
        have T5 := Lib.hid (T9.out.drew.trans (b5.mono T9.out.drew.size))
        clear b5 X9 R9 O9 T9
        go_wp2_with fail
        refine hK.out _ _ (SS.out _ X5) (fun hHeld => ?_)
        clear hK K
        try simp only [Act.put, List.setIfInBounds_toArray, List.set_cons_zero, List.set_cons_succ]
        refine wpAnyH_ready (rs := [3]) (by kernel_rfl) (by simp) ?_
        refine (AllReadyH.cons (by simp only [List.getElem?_toArray, List.getElem?_cons_zero, List.getElem?_cons_succ]; exact rfl) (fun K hK => ?_) AllReadyH.nil)
        refine storeBox_step _ rfl 25 (.tmp 4) (.tmp 46) rfl w.heap.size 25 vsR #[.int .i64 p0, .int .i64 p2, .int .i64 p4, .int .i64 p8, .int .i64 g, .int .i64 p14, .int .i64 0, .slice a9 (len - h) c9] R5.out (by exact rfl) (by exact rfl) (by kernel_rfl) (SR.out.trans rfl) (by simp [Value.oneCell']) ?_
        intro wA xwA gwA
        have X6 := Lib.hid (X5.out.grown gwA (by have := HG.out; simp only [ne_eq, Option.some.injEq]; omega))
        have O6 := Lib.hid ((O5.out.grown gwA (by rintro x hx e; have := (O5.out.lt x hx).1; simp only [Option.some.injEq] at e; omega)).rebase (show w.heap.size ≤ n0 by omega))
        have T6 := Lib.hid (T5.out.grown gwA T5.out.size (fun k e => by cases e; exact Nat.le_refl _))
        have XA := Lib.hid xwA
        clear xwA gwA X5 O5 T5 R5
        refine hK.out _ _ (SS.out _ X6) (fun hHeld => ?_)
        clear hK K
        try simp only [Act.put]
        try simp only [Act.put, List.setIfInBounds_toArray, List.set_cons_zero, List.set_cons_succ]
        refine wpAnyH_take (i := 4) (v := ?_) (by simp only [List.getElem?_toArray, List.getElem?_cons_zero, List.getElem?_cons_succ]; exact rfl) (by kernel_rfl) (by kernel_rfl) (by kernel_rfl) (by exact fun _ _ _ h => h) (Or.inl ⟨by rfl, ?_⟩) hHeld ?_
        rotate_left
        · intro w' hSw
          obtain ⟨s0, s1, s2, s3, s4, s5, s6, s7⟩ := hSw
          go_simp
          try with_reducible rfl
        try simp only [Act.put, List.setIfInBounds_toArray, List.set_cons_zero, List.set_cons_succ]
        refine wpAnyH_done (by kernel_rfl) ?_ _
        go_wp2
        obtain ⟨_, q0, q1, q2, q3, q4, q5, q6, q7⟩ := XA.out.eight
        exact bodyPost_ret (v := .tuple #[.agg #[.int .i64 p0, .int .i64 p2, .int .i64 p4, .int .i64 p8, .int .i64 g, .int .i64 p14, .int .i64 0, .slice a9 (len - h) c9], .int .i64 C]) (by simp [results, Try.results75, go_sem, q0, q1, q2, q3, q4, q5, q6, q7]) rfl (by rw [HF.out]; exact HC.out _ _ _ _ _ rfl O6.out T6.out)
      · have HF : Hid (rsG zs ms = ⟨p0, p2, p4, p8, g, p14, ms⟩) := by rw [HX.out, m16, m2]; rfl
        have KF := Lib.hid (fun W' => specSegmentFault ⟨p0, p2, p4, p8, g, p14, ms⟩ a9 (len - h) c9 W')
        rw [← HYL.out] at KF
        obtain ⟨C, hC⟩ : ∃ C, C = sgC ⟨p0, p2, p4, p8, g, p14, ms⟩ ys.length := ⟨_, rfl⟩
        rw [← hC] at KF
        have HC : Hid (∀ (e : Ending) (w' : World) (a' : Option Addr) (l' c' : Nat), e = .returned (.tuple #[.agg #[.int .i64 p0, .int .i64 p2, .int .i64 p4, .int .i64 p8, .int .i64 g, .int .i64 p14, .int .i64 ms, .slice a' l' c'], .int .i64 C]) → Own w' w.heap.size a' l' c' ys → Below w.heap.size w w' → L5Out w ⟨p0, p2, p4, p8, g, p14, ms⟩ ys e w') := fun e w' a' l' c' he ho hb => ⟨a', l', c', by rw [he, hC], ho, hb⟩
        clear hC HX
        have SS := Lib.hid (show ∀ W, Hid (Box W g9 25 #[.int .i64 p0, .int .i64 p2, .int .i64 p4, .int .i64 p8, .int .i64 g, .int .i64 p14, .int .i64 ms, .slice a9 (len - h) c9]) → W.cell? ⟨g9, 0, none⟩ = some (.int .i64 p0) ∧ W.cell? ⟨g9, 1, none⟩ = some (.int .i64 p2) ∧ W.cell? ⟨g9, 2, none⟩ = some (.int .i64 p4) ∧ W.cell? ⟨g9, 3, none⟩ = some (.int .i64 p8) ∧ W.cell? ⟨g9, 4, none⟩ = some (.int .i64 g) ∧ W.cell? ⟨g9, 5, none⟩ = some (.int .i64 p14) ∧ W.cell? ⟨g9, 6, none⟩ = some (.int .i64 ms) ∧ W.cell? ⟨g9, 7, none⟩ = some (.slice a9 (len - h) c9) from fun W h => h.out.eight.2)
        go_wp2_with fail
        try clear hW
        refine wp_region_held_drew (S := fun W => W.cell? ⟨g9, 0, none⟩ = some (.int .i64 p0) ∧ W.cell? ⟨g9, 1, none⟩ = some (.int .i64 p2) ∧ W.cell? ⟨g9, 2, none⟩ = some (.int .i64 p4) ∧ W.cell? ⟨g9, 3, none⟩ = some (.int .i64 p8) ∧ W.cell? ⟨g9, 4, none⟩ = some (.int .i64 g) ∧ W.cell? ⟨g9, 5, none⟩ = some (.int .i64 p14) ∧ W.cell? ⟨g9, 6, none⟩ = some (.int .i64 ms) ∧ W.cell? ⟨g9, 7, none⟩ = some (.slice a9 (len - h) c9)) (by kernel_rfl) (SS.out _ (Lib.hid (show Box W.drew _ _ _ from X9.out))) (fun hHeld => ?_)
        refine wpAnyH_take (i := 0) (v := ?_) (by simp only [List.getElem?_toArray, List.getElem?_cons_zero]; exact rfl) (by kernel_rfl) (by kernel_rfl) (by kernel_rfl) (by exact fun _ _ _ h => h) (Or.inl ⟨by rfl, ?_⟩) hHeld ?_
        rotate_left
        · intro w' hSw
          obtain ⟨s0, s1, s2, s3, s4, s5, s6, s7⟩ := hSw
          go_simp
          try with_reducible rfl
        try simp only [Act.put, List.setIfInBounds_toArray, List.set_cons_zero, List.set_cons_succ]
        refine wpAnyH_take (i := 1) (v := ?_) (by simp only [List.getElem?_toArray, List.getElem?_cons_zero, List.getElem?_cons_succ]; exact rfl) (by kernel_rfl) (by kernel_rfl) (by kernel_rfl) (by exact fun _ _ _ h => h) (Or.inl ⟨by rfl, ?_⟩) hHeld ?_
        rotate_left
        · intro w' hSw
          obtain ⟨s0, s1, s2, s3, s4, s5, s6, s7⟩ := hSw
          go_simp
          try with_reducible rfl
        try simp only [Act.put, List.setIfInBounds_toArray, List.set_cons_zero, List.set_cons_succ]
        refine wpAnyH_ready (rs := [2]) (by kernel_rfl) (by simp) ?_
        refine (AllReadyH.cons (by simp only [List.getElem?_toArray, List.getElem?_cons_zero, List.getElem?_cons_succ]; exact rfl) (fun K hK => ?_) AllReadyH.nil)
        refine want_none (by exact rfl) ?_
        go_wp2_with fail
        have KF' := KF.out
        rw [HYL.out] at KF'
        refine (KF' _).mono ?_
        rintro e w5 ⟨rfl, b5⟩
        clear KF' KF
        have X5 := Lib.hid ((show Box W.drew _ _ _ from X9.out).below b5 X9.out.lt)
        have R5 := Lib.hid ((show Box W.drew _ _ _ from R9.out).below b5 R9.out.lt)
        have O5 := Lib.hid (O9.out.drew.below b5)
        have T5 := Lib.hid (T9.out.drew.trans (b5.mono T9.out.drew.size))
        clear b5 X9 R9 O9 T9
        go_wp2_with fail
        refine hK.out _ _ (SS.out _ X5) (fun hHeld => ?_)
        clear hK K
        try simp only [Act.put, List.setIfInBounds_toArray, List.set_cons_zero, List.set_cons_succ]
        refine wpAnyH_ready (rs := [3]) (by kernel_rfl) (by simp) ?_
        refine (AllReadyH.cons (by simp only [List.getElem?_toArray, List.getElem?_cons_zero, List.getElem?_cons_succ]; exact rfl) (fun K hK => ?_) AllReadyH.nil)
        refine storeBox_step _ rfl 25 (.tmp 4) (.tmp 46) rfl w.heap.size 25 vsR #[.int .i64 p0, .int .i64 p2, .int .i64 p4, .int .i64 p8, .int .i64 g, .int .i64 p14, .int .i64 ms, .slice a9 (len - h) c9] R5.out (by exact rfl) (by exact rfl) (by kernel_rfl) (SR.out.trans rfl) (by simp [Value.oneCell']) ?_
        intro wA xwA gwA
        have X6 := Lib.hid (X5.out.grown gwA (by have := HG.out; simp only [ne_eq, Option.some.injEq]; omega))
        have O6 := Lib.hid ((O5.out.grown gwA (by rintro x hx e; have := (O5.out.lt x hx).1; simp only [Option.some.injEq] at e; omega)).rebase (show w.heap.size ≤ n0 by omega))
        have T6 := Lib.hid (T5.out.grown gwA T5.out.size (fun k e => by cases e; exact Nat.le_refl _))
        have XA := Lib.hid xwA
        clear xwA gwA X5 O5 T5 R5
        refine hK.out _ _ (SS.out _ X6) (fun hHeld => ?_)
        clear hK K
        try simp only [Act.put]
        try simp only [Act.put, List.setIfInBounds_toArray, List.set_cons_zero, List.set_cons_succ]
        refine wpAnyH_take (i := 4) (v := ?_) (by simp only [List.getElem?_toArray, List.getElem?_cons_zero, List.getElem?_cons_succ]; exact rfl) (by kernel_rfl) (by kernel_rfl) (by kernel_rfl) (by exact fun _ _ _ h => h) (Or.inl ⟨by rfl, ?_⟩) hHeld ?_
        rotate_left
        · intro w' hSw
          obtain ⟨s0, s1, s2, s3, s4, s5, s6, s7⟩ := hSw
          go_simp
          try with_reducible rfl
        try simp only [Act.put, List.setIfInBounds_toArray, List.set_cons_zero, List.set_cons_succ]
        refine wpAnyH_done (by kernel_rfl) ?_ _
        go_wp2
        obtain ⟨_, q0, q1, q2, q3, q4, q5, q6, q7⟩ := XA.out.eight
        exact bodyPost_ret (v := .tuple #[.agg #[.int .i64 p0, .int .i64 p2, .int .i64 p4, .int .i64 p8, .int .i64 g, .int .i64 p14, .int .i64 ms, .slice a9 (len - h) c9], .int .i64 C]) (by simp [results, Try.results75, go_sem, q0, q1, q2, q3, q4, q5, q6, q7]) rfl (by rw [HF.out]; exact HC.out _ _ _ _ _ rfl O6.out T6.out)

set_option maxRecDepth 20000 in
set_option maxHeartbeats 8000000 in
theorem l5Read_okB (a : Option Addr) (h : Nat) (zs : List Int) (w : World) (hr : Rd w a h h zs) (h1 : 20 < h) (h3 : h ≤ 560) (hk : optK ((zs.drop 20).take (h - 20)) = true) :
    Calls Try.prog 75 #[.slice a h h, .int .i64 h] w (L5Out w (rsG zs (optV ((zs.drop 20).take (h - 20)))) (zs.drop h)) := by
  have hle := hr.le
  have hmx := hr.max
  unfold maxLen at hmx
  rcases hr.cells with h0 | ⟨ba, off, rfl, hc⟩
  · omega
  have i1 : (20 : Int) ≤ h := by omega
  have i4 : (13 : Int) < h := by omega
  have hc20 : ¬ h = 20 := by omega
  obtain ⟨os, hos⟩ : ∃ os, (zs.drop 20).take (h - 20) = os := ⟨_, rfl⟩
  rw [hos] at hk ⊢
  obtain ⟨ms, hms⟩ : ∃ m, optV os = m := ⟨_, rfl⟩
  obtain ⟨ys, hys⟩ : ∃ ys, zs.drop h = ys := ⟨_, rfl⟩
  obtain ⟨p0, hp0⟩ : ∃ m, rdTo zs 0 2 = m := ⟨_, rfl⟩
  obtain ⟨p2, hp2⟩ : ∃ m, rdTo zs 2 2 = m := ⟨_, rfl⟩
  obtain ⟨p4, hp4⟩ : ∃ m, rdTo zs 4 4 = m := ⟨_, rfl⟩
  obtain ⟨p8, hp8⟩ : ∃ m, rdTo zs 8 4 = m := ⟨_, rfl⟩
  obtain ⟨p14, hp14⟩ : ∃ m, rdTo zs 14 2 = m := ⟨_, rfl⟩
  obtain ⟨y, hy⟩ : ∃ y, zs.getD 13 0 = y := ⟨_, rfl⟩
  have hyb := hr.getD_bd 13
  rw [hy] at hyb
  obtain ⟨g, hg⟩ : ∃ g, y % 32 = g := ⟨_, rfl⟩
  have hgb : 0 ≤ g ∧ g ≤ 31 := by omega
  have hyw : IntKind.i64.wrap y = y := IntWalk.i64_in _ (by omega)
  have hym : y.tmod 32 = g := by rw [Int.tmod_eq_emod_of_nonneg hyb.1]; exact hg
  have HX : Hid (rsG zs ms = ⟨p0, p2, p4, if flB g 16 then p8 else 0, g, p14, if flB g 2 then ms else 0⟩) := by unfold rsG; rw [hy, hg, hp0, hp2, hp4, hp8, hp14]; rfl
  have HOs := Lib.hid (show ∀ W, Below w.heap.size w W → Rd W (some ⟨ba, off + 20, none⟩) (h - 20) (h - 20) os from fun W hW => by rw [← hos]; exact rd_opts (hr.below hW) (by omega) (Nat.le_refl _))
  have KO := Lib.hid (show ∀ W, Below w.heap.size w W → Calls Try.prog 105 #[.slice (some ⟨ba, off + 20, none⟩) (h - 20) (h - 20)] W fun e w' => e = .returned (.tuple #[.int .i64 ms, .bool true]) ∧ W = w' from fun W hW => by
    have := l5Options_any (some ⟨ba, off + 20, none⟩) (h - 20) (h - 20) os W (HOs.out W hW) (by omega)
    rwa [hms, hk] at this)
  have K0 := Lib.hid (show ∀ W, Below w.heap.size w W → Calls Try.prog 106 #[.slice (some ⟨ba, off, none⟩) h h, .int .i64 0, .int .i64 2] W fun e w' => e = .returned (.int .i64 p0) ∧ W = w' from fun W hW => by rw [← hp0]; exact l1Read_l5 _ h h 0 2 0 2 zs W (hr.below hW) rfl rfl (by omega) (by omega))
  have K2 := Lib.hid (show ∀ W, Below w.heap.size w W → Calls Try.prog 106 #[.slice (some ⟨ba, off, none⟩) h h, .int .i64 2, .int .i64 2] W fun e w' => e = .returned (.int .i64 p2) ∧ W = w' from fun W hW => by rw [← hp2]; exact l1Read_l5 _ h h 2 2 2 2 zs W (hr.below hW) rfl rfl (by omega) (by omega))
  have K4 := Lib.hid (show ∀ W, Below w.heap.size w W → Calls Try.prog 106 #[.slice (some ⟨ba, off, none⟩) h h, .int .i64 4, .int .i64 4] W fun e w' => e = .returned (.int .i64 p4) ∧ W = w' from fun W hW => by rw [← hp4]; exact l1Read_l5 _ h h 4 4 4 4 zs W (hr.below hW) rfl rfl (by omega) (by omega))
  have K8 := Lib.hid (show ∀ W, Below w.heap.size w W → Calls Try.prog 106 #[.slice (some ⟨ba, off, none⟩) h h, .int .i64 8, .int .i64 4] W fun e w' => e = .returned (.int .i64 p8) ∧ W = w' from fun W hW => by rw [← hp8]; exact l1Read_l5 _ h h 8 4 8 4 zs W (hr.below hW) rfl rfl (by omega) (by omega))
  have K14 := Lib.hid (show ∀ W, Below w.heap.size w W → Calls Try.prog 106 #[.slice (some ⟨ba, off, none⟩) h h, .int .i64 14, .int .i64 2] W fun e w' => e = .returned (.int .i64 p14) ∧ W = w' from fun W hW => by rw [← hp14]; exact l1Read_l5 _ h h 14 2 14 2 zs W (hr.below hW) rfl rfl (by omega) (by omega))
  have HD := Lib.hid (show ∀ W, Below w.heap.size w W → Rd W (some ⟨ba, off, none⟩) 0 0 ys from fun W hW => by rw [← hys]; exact rd_end (hr.below hW))
  have HYL := Lib.hid (show ys.length = 0 by rw [← hys, List.length_drop, hr.length]; omega)
  have KD := Lib.hid (fun W (hW : Below w.heap.size w W) => l1Copy_any (some ⟨ba, off, none⟩) 0 0 ys W (HD.out W hW) (by omega))
  have SS := Lib.hid (show ∀ W, Hid (Below w.heap.size w W) → W.cell? ⟨ba, off + 13, none⟩ = some (.int .u8 y) ∧ Hid (Below w.heap.size w W) from fun W hW => by
    refine ⟨?_, hW⟩
    have := (hW.out.cell (World.block_lt_of_cell? _ _ (hc 13 (by omega)))).trans (hc 13 (by omega))
    rwa [hy] at this)
  rw [hms, hys]
  clear hr hc hy hos hms hys hp0 hp2 hp4 hp8 hp14 hk HD HOs
  have htU : 25 ≠ 5 := by decide
  generalize hn0 : w.heap.size + 1 = n0
  have B0 := Lib.hid ((Below.refl w.heap.size w).alloc (Nat.le_refl _) (.cells #[.int .i64 0, .int .i64 0, .int .i64 0, .int .i64 0, .int .i64 0, .int .i64 0, .int .i64 0, .slice none 0 0] 25))
  have X0 := Lib.hid (Box.new w 25 #[.int .i64 0, .int .i64 0, .int .i64 0, .int .i64 0, .int .i64 0, .int .i64 0, .int .i64 0, .slice none 0 0])
  go_enter Try.func75, Try.ntmps75
  go_wp2_with fail
  refine (KO.out _ B0.out).mono ?_
  rintro e w' ⟨rfl, rfl⟩
  clear KO
  go_wp2_with fail
  have TD := kDrew B0
  refine wp_region_held_drew (S := fun W => W.cell? ⟨ba, off + 13, none⟩ = some (.int .u8 y) ∧ Hid (Below w.heap.size w W)) (by kernel_rfl) (SS.out _ TD) (fun hHeld => ?_)
  refine wpAnyH_take (i := 0) (v := ?_) (by simp only [List.getElem?_toArray, List.getElem?_cons_zero]; exact rfl) (by kernel_rfl) (by kernel_rfl) (by kernel_rfl) (by exact fun _ _ _ h => h) (Or.inl ⟨by rfl, ?_⟩) hHeld ?_
  rotate_left
  · intro w' hSw
    obtain ⟨s0, _⟩ := hSw
    go_simp
    try with_reducible rfl
  try simp only [Act.put, List.setIfInBounds_toArray, List.set_cons_zero, List.set_cons_succ]
  refine wpAnyH_take (i := 2) (v := ?_) (by simp only [List.getElem?_toArray, List.getElem?_cons_zero, List.getElem?_cons_succ]; exact rfl) (by kernel_rfl) (by kernel_rfl) (by kernel_rfl) (by exact fun _ _ _ h => h) (Or.inl ⟨by rfl, ?_⟩) hHeld ?_
  rotate_left
  · intro w' hSw
    obtain ⟨s0, _⟩ := hSw
    go_simp
    try with_reducible rfl
  try simp only [Act.put, List.setIfInBounds_toArray, List.set_cons_zero, List.set_cons_succ]
  refine wpAnyH_take (i := 4) (v := ?_) (by simp only [List.getElem?_toArray, List.getElem?_cons_zero, List.getElem?_cons_succ]; exact rfl) (by kernel_rfl) (by kernel_rfl) (by kernel_rfl) (by exact fun _ _ _ h => h) (Or.inl ⟨by rfl, ?_⟩) hHeld ?_
  rotate_left
  · intro w' hSw
    obtain ⟨s0, _⟩ := hSw
    go_simp
    try with_reducible rfl
  try simp only [Act.put, List.setIfInBounds_toArray, List.set_cons_zero, List.set_cons_succ]
  refine wpAnyH_take (i := 6) (v := ?_) (by simp only [List.getElem?_toArray, List.getElem?_cons_zero, List.getElem?_cons_succ]; exact rfl) (by kernel_rfl) (by kernel_rfl) (by kernel_rfl) (by exact fun _ _ _ h => h) (Or.inl ⟨by rfl, ?_⟩) hHeld ?_
  rotate_left
  · intro w' hSw
    obtain ⟨s0, _⟩ := hSw
    go_simp
    try with_reducible rfl
  try simp only [Act.put, List.setIfInBounds_toArray, List.set_cons_zero, List.set_cons_succ]
  refine wpAnyH_take (i := 8) (v := ?_) (by simp only [List.getElem?_toArray, List.getElem?_cons_zero, List.getElem?_cons_succ]; exact rfl) (by kernel_rfl) (by kernel_rfl) (by kernel_rfl) (by exact fun _ _ _ h => h) (Or.inl ⟨by rfl, ?_⟩) hHeld ?_
  rotate_left
  · intro w' hSw
    obtain ⟨s0, _⟩ := hSw
    go_simp
    try with_reducible rfl
  try simp only [Act.put, List.setIfInBounds_toArray, List.set_cons_zero, List.set_cons_succ]
  refine wpAnyH_take (i := 9) (v := ?_) (by simp only [List.getElem?_toArray, List.getElem?_cons_zero, List.getElem?_cons_succ]; exact rfl) (by kernel_rfl) (by kernel_rfl) (by kernel_rfl) (by exact fun _ _ _ h => h) (Or.inl ⟨by rfl, ?_⟩) hHeld ?_
  rotate_left
  · intro w' hSw
    obtain ⟨s0, _⟩ := hSw
    go_simp
    try with_reducible rfl
  try simp only [Act.put, List.setIfInBounds_toArray, List.set_cons_zero, List.set_cons_succ]
  refine wpAnyH_take (i := 10) (v := ?_) (by simp only [List.getElem?_toArray, List.getElem?_cons_zero, List.getElem?_cons_succ]; exact rfl) (by kernel_rfl) (by kernel_rfl) (by kernel_rfl) (by exact fun _ _ _ h => h) (Or.inl ⟨by rfl, ?_⟩) hHeld ?_
  rotate_left
  · intro w' hSw
    obtain ⟨s0, _⟩ := hSw
    go_simp
    try with_reducible rfl
  try simp only [Act.put, List.setIfInBounds_toArray, List.set_cons_zero, List.set_cons_succ]
  refine wpAnyH_take (i := 11) (v := ?_) (by simp only [List.getElem?_toArray, List.getElem?_cons_zero, List.getElem?_cons_succ]; exact rfl) (by kernel_rfl) (by kernel_rfl) (by kernel_rfl) (by exact fun _ _ _ h => h) (Or.inl ⟨by rfl, ?_⟩) hHeld ?_
  rotate_left
  · intro w' hSw
    obtain ⟨s0, _⟩ := hSw
    go_simp
    try with_reducible rfl
  try simp only [Act.put, List.setIfInBounds_toArray, List.set_cons_zero, List.set_cons_succ]
  refine wpAnyH_take (i := 12) (v := ?_) (by simp only [List.getElem?_toArray, List.getElem?_cons_zero, List.getElem?_cons_succ]; exact rfl) (by kernel_rfl) (by kernel_rfl) (by kernel_rfl) (by exact fun _ _ _ h => h) (Or.inl ⟨by rfl, ?_⟩) hHeld ?_
  rotate_left
  · intro w' hSw
    obtain ⟨s0, _⟩ := hSw
    go_simp
    try with_reducible rfl
  try simp only [Act.put, List.setIfInBounds_toArray, List.set_cons_zero, List.set_cons_succ]
  refine wpAnyH_take (i := 13) (v := ?_) (by simp only [List.getElem?_toArray, List.getElem?_cons_zero, List.getElem?_cons_succ]; exact rfl) (by kernel_rfl) (by kernel_rfl) (by kernel_rfl) (by exact fun _ _ _ h => h) (Or.inl ⟨by rfl, ?_⟩) hHeld ?_
  rotate_left
  · intro w' hSw
    obtain ⟨s0, _⟩ := hSw
    go_simp
    try with_reducible rfl
  try simp only [Act.put, List.setIfInBounds_toArray, List.set_cons_zero, List.set_cons_succ]
  refine wpAnyH_take (i := 15) (v := ?_) (by simp only [List.getElem?_toArray, List.getElem?_cons_zero, List.getElem?_cons_succ]; exact rfl) (by kernel_rfl) (by kernel_rfl) (by kernel_rfl) (by exact fun _ _ _ h => h) (Or.inl ⟨by rfl, ?_⟩) hHeld ?_
  rotate_left
  · intro w' hSw
    obtain ⟨s0, _⟩ := hSw
    go_simp
    try with_reducible rfl
  try simp only [Act.put, List.setIfInBounds_toArray, List.set_cons_zero, List.set_cons_succ]
  refine wpAnyH_take (i := 16) (v := ?_) (by simp only [List.getElem?_toArray, List.getElem?_cons_zero, List.getElem?_cons_succ]; exact rfl) (by kernel_rfl) (by kernel_rfl) (by kernel_rfl) (by exact fun _ _ _ h => h) (Or.inl ⟨by rfl, ?_⟩) hHeld ?_
  rotate_left
  · intro w' hSw
    obtain ⟨s0, _⟩ := hSw
    go_simp
    try with_reducible rfl
  try simp only [Act.put, List.setIfInBounds_toArray, List.set_cons_zero, List.set_cons_succ]
  refine wpAnyH_take (i := 17) (v := ?_) (by simp only [List.getElem?_toArray, List.getElem?_cons_zero, List.getElem?_cons_succ]; exact rfl) (by kernel_rfl) (by kernel_rfl) (by kernel_rfl) (by exact fun _ _ _ h => h) (Or.inl ⟨by rfl, ?_⟩) hHeld ?_
  rotate_left
  · intro w' hSw
    obtain ⟨s0, _⟩ := hSw
    go_simp
    try with_reducible rfl
  try simp only [Act.put, List.setIfInBounds_toArray, List.set_cons_zero, List.set_cons_succ]
  refine wpAnyH_take (i := 18) (v := ?_) (by simp only [List.getElem?_toArray, List.getElem?_cons_zero, List.getElem?_cons_succ]; exact rfl) (by kernel_rfl) (by kernel_rfl) (by kernel_rfl) (by exact fun _ _ _ h => h) (Or.inl ⟨by rfl, ?_⟩) hHeld ?_
  rotate_left
  · intro w' hSw
    obtain ⟨s0, _⟩ := hSw
    go_simp
    try with_reducible rfl
  try simp only [Act.put, List.setIfInBounds_toArray, List.set_cons_zero, List.set_cons_succ]
  refine flow_go (Inv := fun listed ac W => ∃ v8 v20 v22 v24 v26 v33 v38 v39 : Value, ac = { tmps := #[.slice (some ⟨ba, off, none⟩) h h, .int .i64 h, _, _, .pointer (some ⟨w.heap.size, 0, none⟩), .int .i64 0, .int .i64 ms, .bool true, v8, _, _, _, _, _, _, _, _, _, _, .slice (some ⟨ba, off, none⟩) h h, v20, .slice (some ⟨ba, off, none⟩) h h, v22, .slice (some ⟨ba, off, none⟩) h h, v24, .slice (some ⟨ba, off, none⟩) h h, v26, .slice (some ⟨ba, off, none⟩) h h, .pointer (some ⟨ba, off + 13, none⟩), .int .u8 y, .int .i64 y, .int .i64 g, .slice (some ⟨ba, off, none⟩) h h, v33, .int .i64 ms, .slice (some ⟨ba, off, none⟩) h h, .int .i64 h, .slice (some ⟨ba, off, none⟩) 0 0, v38, v39, _, _, _, _, _, _, _, _, _], defers := [] } ∧ Hid (Below w.heap.size w W) ∧ Hid (∃ vs : Array Value, Box W w.heap.size 25 vs ∧ vs.size = 8) ∧ Fl listed 1 (EqV v20 (.int .i64 p0)) ∧ Fl listed 3 (EqV v22 (.int .i64 p2)) ∧ Fl listed 5 (EqV v24 (.int .i64 p4)) ∧ Fl listed 7 (EqV v26 (.int .i64 p8)) ∧ Fl listed 14 (EqV v33 (.int .i64 p14)) ∧ Fl listed 19 (SlV W n0 v38 (0) ys) ∧ Fl listed 20 (AgV W n0 v39 #[.int .i64 p0, .int .i64 p2, .int .i64 p4, .int .i64 p8, .int .i64 g, .int .i64 p14, .int .i64 ms] (0) ys) ∧ Fl listed 21 (AlV W n0 v8 25 8) ∧ Fl listed 22 (StV W n0 n0 v8 25 #[.int .i64 p0, .int .i64 p2, .int .i64 p4, .int .i64 p8, .int .i64 g, .int .i64 p14, .int .i64 ms] (0) ys ∧ listed.getD 21 false = true)) [1, 3, 5, 7, 14, 19, 20, 21, 22] (by kernel_rfl) (by kernel_rfl) ⟨_, _, _, _, _, _, _, _, rfl, TD, ⟨_, (show Box _ _ _ _ from X0.out), rfl⟩, Fl.not (by kernel_rfl), Fl.not (by kernel_rfl), Fl.not (by kernel_rfl), Fl.not (by kernel_rfl), Fl.not (by kernel_rfl), Fl.not (by kernel_rfl), Fl.not (by kernel_rfl), Fl.not (by kernel_rfl), Fl.not (by kernel_rfl)⟩
    (FlowAll.cons [] (by simp only [List.getElem?_toArray, List.getElem?_cons_zero, List.getElem?_cons_succ]; exact rfl) (by kernel_rfl) (fun listed ac W hI hu hd K hK => ?_)
      (FlowAll.cons [] (by simp only [List.getElem?_toArray, List.getElem?_cons_zero, List.getElem?_cons_succ]; exact rfl) (by kernel_rfl) (fun listed ac W hI hu hd K hK => ?_)
      (FlowAll.cons [] (by simp only [List.getElem?_toArray, List.getElem?_cons_zero, List.getElem?_cons_succ]; exact rfl) (by kernel_rfl) (fun listed ac W hI hu hd K hK => ?_)
      (FlowAll.cons [] (by simp only [List.getElem?_toArray, List.getElem?_cons_zero, List.getElem?_cons_succ]; exact rfl) (by kernel_rfl) (fun listed ac W hI hu hd K hK => ?_)
      (FlowAll.cons [] (by simp only [List.getElem?_toArray, List.getElem?_cons_zero, List.getElem?_cons_succ]; exact rfl) (by kernel_rfl) (fun listed ac W hI hu hd K hK => ?_)
      (FlowAll.cons [] (by simp only [List.getElem?_toArray, List.getElem?_cons_zero, List.getElem?_cons_succ]; exact rfl) (by kernel_rfl) (fun listed ac W hI hu hd K hK => ?_)
      (FlowAll.cons [1, 3, 5, 7, 14, 19] (by simp only [List.getElem?_toArray, List.getElem?_cons_zero, List.getElem?_cons_succ]; exact rfl) (by kernel_rfl) (fun listed ac W hI hu hd K hK => ?_)
      (FlowAll.cons [] (by simp only [List.getElem?_toArray, List.getElem?_cons_zero, List.getElem?_cons_succ]; exact rfl) (by kernel_rfl) (fun listed ac W hI hu hd K hK => ?_)
      (FlowAll.cons [21, 20] (by simp only [List.getElem?_toArray, List.getElem?_cons_zero, List.getElem?_cons_succ]; exact rfl) (by kernel_rfl) (fun listed ac W hI hu hd K hK => ?_)
      FlowAll.nil)))))))))
    (fun listed ac W hI hall => ?_)
  · obtain ⟨v8, v20, v22, v24, v26, v33, v38, v39, rfl, TB, XB, f1, f3, f5, f7, f14, f19, f20, f21, f22⟩ := hI
    obtain ⟨vsR, xR, sR⟩ := XB.out
    have hnW : n0 ≤ W.heap.size := by have := xR.lt; omega
    refine want_none (by exact rfl) ?_
    go_wp2_with fail
    refine (K0.out _ TB.out).mono ?_
    rintro e w' ⟨rfl, rfl⟩
    go_wp2_with fail
    refine hK.out _ _ (SS.out _ TB) ?_
    exact ⟨_, _, _, _, _, _, _, _, rfl, TB, XB, Fl.new (EqV.rfl _), f3.keep (by decide) id, f5.keep (by decide) id, f7.keep (by decide) id, f14.keep (by decide) id, f19.keep (by decide) id, f20.keep (by decide) id, f21.keep (by decide) id, f22.keep (by decide) (fun h => ⟨h.1, getD_set_true h.2⟩)⟩
  · obtain ⟨v8, v20, v22, v24, v26, v33, v38, v39, rfl, TB, XB, f1, f3, f5, f7, f14, f19, f20, f21, f22⟩ := hI
    obtain ⟨vsR, xR, sR⟩ := XB.out
    have hnW : n0 ≤ W.heap.size := by have := xR.lt; omega
    refine want_none (by exact rfl) ?_
    go_wp2_with fail
    refine (K2.out _ TB.out).mono ?_
    rintro e w' ⟨rfl, rfl⟩
    go_wp2_with fail
    refine hK.out _ _ (SS.out _ TB) ?_
    exact ⟨_, _, _, _, _, _, _, _, rfl, TB, XB, f1.keep (by decide) id, Fl.new (EqV.rfl _), f5.keep (by decide) id, f7.keep (by decide) id, f14.keep (by decide) id, f19.keep (by decide) id, f20.keep (by decide) id, f21.keep (by decide) id, f22.keep (by decide) (fun h => ⟨h.1, getD_set_true h.2⟩)⟩
  · obtain ⟨v8, v20, v22, v24, v26, v33, v38, v39, rfl, TB, XB, f1, f3, f5, f7, f14, f19, f20, f21, f22⟩ := hI
    obtain ⟨vsR, xR, sR⟩ := XB.out
    have hnW : n0 ≤ W.heap.size := by have := xR.lt; omega
    refine want_none (by exact rfl) ?_
    go_wp2_with fail
    refine (K4.out _ TB.out).mono ?_
    rintro e w' ⟨rfl, rfl⟩
    go_wp2_with fail
    refine hK.out _ _ (SS.out _ TB) ?_
    exact ⟨_, _, _, _, _, _, _, _, rfl, TB, XB, f1.keep (by decide) id, f3.keep (by decide) id, Fl.new (EqV.rfl _), f7.keep (by decide) id, f14.keep (by decide) id, f19.keep (by decide) id, f20.keep (by decide) id, f21.keep (by decide) id, f22.keep (by decide) (fun h => ⟨h.1, getD_set_true h.2⟩)⟩
  · obtain ⟨v8, v20, v22, v24, v26, v33, v38, v39, rfl, TB, XB, f1, f3, f5, f7, f14, f19, f20, f21, f22⟩ := hI
    obtain ⟨vsR, xR, sR⟩ := XB.out
    have hnW : n0 ≤ W.heap.size := by have := xR.lt; omega
    refine want_none (by exact rfl) ?_
    go_wp2_with fail
    refine (K8.out _ TB.out).mono ?_
    rintro e w' ⟨rfl, rfl⟩
    go_wp2_with fail
    refine hK.out _ _ (SS.out _ TB) ?_
    exact ⟨_, _, _, _, _, _, _, _, rfl, TB, XB, f1.keep (by decide) id, f3.keep (by decide) id, f5.keep (by decide) id, Fl.new (EqV.rfl _), f14.keep (by decide) id, f19.keep (by decide) id, f20.keep (by decide) id, f21.keep (by decide) id, f22.keep (by decide) (fun h => ⟨h.1, getD_set_true h.2⟩)⟩
  · obtain ⟨v8, v20, v22, v24, v26, v33, v38, v39, rfl, TB, XB, f1, f3, f5, f7, f14, f19, f20, f21, f22⟩ := hI
    obtain ⟨vsR, xR, sR⟩ := XB.out
    have hnW : n0 ≤ W.heap.size := by have := xR.lt; omega
    refine want_none (by exact rfl) ?_
    go_wp2_with fail
    refine (K14.out _ TB.out).mono ?_
    rintro e w' ⟨rfl, rfl⟩
    go_wp2_with fail
    refine hK.out _ _ (SS.out _ TB) ?_
    exact ⟨_, _, _, _, _, _, _, _, rfl, TB, XB, f1.keep (by decide) id, f3.keep (by decide) id, f5.keep (by decide) id, f7.keep (by decide) id, Fl.new (EqV.rfl _), f19.keep (by decide) id, f20.keep (by decide) id, f21.keep (by decide) id, f22.keep (by decide) (fun h => ⟨h.1, getD_set_true h.2⟩)⟩
  · obtain ⟨v8, v20, v22, v24, v26, v33, v38, v39, rfl, TB, XB, f1, f3, f5, f7, f14, f19, f20, f21, f22⟩ := hI
    obtain ⟨vsR, xR, sR⟩ := XB.out
    have hnW : n0 ≤ W.heap.size := by have := xR.lt; omega
    refine want_none (by exact rfl) ?_
    go_wp2_with fail
    refine (KD.out _ TB.out).mono ?_
    rintro e w' ⟨a', c', rfl, o', hb0⟩
    go_wp2_with fail
    have hb : Below W.heap.size W _ := hb0
    have TB' := kCall hb (kSize TB) TB
    refine hK.out _ _ (SS.out _ TB') ?_
    exact ⟨_, _, _, _, _, _, _, _, rfl, TB', ⟨_, xR.below hb xR.lt, sR⟩, f1.keep (by decide) (keepE hb), f3.keep (by decide) (keepE hb), f5.keep (by decide) (keepE hb), f7.keep (by decide) (keepE hb), f14.keep (by decide) (keepE hb), Fl.new (⟨_, _, rfl, o'.rebase hnW⟩), f20.keep (by decide) (AgV.below hb), f21.keep (by decide) (AlV.below hb), f22.keep (by decide) (fun h => ⟨StV.below hb h.1, getD_set_true h.2⟩)⟩
  · obtain ⟨v8, v20, v22, v24, v26, v33, v38, v39, rfl, TB, XB, f1, f3, f5, f7, f14, f19, f20, f21, f22⟩ := hI
    obtain ⟨vsR, xR, sR⟩ := XB.out
    have hnW : n0 ≤ W.heap.size := by have := xR.lt; omega
    obtain ⟨rfl⟩ := f1.get (hd 1 (by simp))
    obtain ⟨rfl⟩ := f3.get (hd 3 (by simp))
    obtain ⟨rfl⟩ := f5.get (hd 5 (by simp))
    obtain ⟨rfl⟩ := f7.get (hd 7 (by simp))
    obtain ⟨rfl⟩ := f14.get (hd 14 (by simp))
    obtain ⟨a38, c38, rfl, o38⟩ := f19.get (hd 19 (by simp))
    refine want_none (by exact rfl) ?_
    go_wp2_with fail
    refine hK.out _ _ (SS.out _ TB) ?_
    exact ⟨_, _, _, _, _, _, _, _, rfl, TB, XB, f1.keep (by decide) id, f3.keep (by decide) id, f5.keep (by decide) id, f7.keep (by decide) id, f14.keep (by decide) id, f19.keep (by decide) id, Fl.new (⟨_, _, rfl, o38⟩), f21.keep (by decide) id, f22.keep (by decide) (fun h => ⟨h.1, getD_set_true h.2⟩)⟩
  · obtain ⟨v8, v20, v22, v24, v26, v33, v38, v39, rfl, TB, XB, f1, f3, f5, f7, f14, f19, f20, f21, f22⟩ := hI
    obtain ⟨vsR, xR, sR⟩ := XB.out
    have hnW : n0 ≤ W.heap.size := by have := xR.lt; omega
    refine want_none (by exact rfl) ?_
    go_wp2_with fail
    have hb : Below W.heap.size W _ := bAlloc W (.cells #[.int .i64 0, .int .i64 0, .int .i64 0, .int .i64 0, .int .i64 0, .int .i64 0, .int .i64 0, .slice none 0 0] 25)
    have TB' := kCall hb (kSize TB) TB
    refine hK.out _ _ (SS.out _ TB') ?_
    exact ⟨_, _, _, _, _, _, _, _, rfl, TB', ⟨_, xR.below hb xR.lt, sR⟩, f1.keep (by decide) (keepE hb), f3.keep (by decide) (keepE hb), f5.keep (by decide) (keepE hb), f7.keep (by decide) (keepE hb), f14.keep (by decide) (keepE hb), f19.keep (by decide) (SlV.below hb), f20.keep (by decide) (AgV.below hb), Fl.new (AlV.new hnW rfl), f22.keep (by decide) (fun h => absurd h.2 (by rw [getD_unlisted hu]; simp))⟩
  · obtain ⟨v8, v20, v22, v24, v26, v33, v38, v39, rfl, TB, XB, f1, f3, f5, f7, f14, f19, f20, f21, f22⟩ := hI
    obtain ⟨vsR, xR, sR⟩ := XB.out
    have hnW : n0 ≤ W.heap.size := by have := xR.lt; omega
    obtain ⟨gN, vsN, rfl, hgN, xN, sN⟩ := f21.get (hd 21 (by simp))
    obtain ⟨a39, c39, rfl, o39⟩ := f20.get (hd 20 (by simp))
    refine storeBox_step _ rfl 25 (.tmp 8) (.tmp 39) rfl gN 25 vsN (#[.int .i64 p0, .int .i64 p2, .int .i64 p4, .int .i64 p8, .int .i64 g, .int .i64 p14, .int .i64 ms] ++ #[.slice a39 (0) c39]) xN (by exact rfl) (by exact rfl) (by kernel_rfl) (sN.trans rfl) (by simp [Value.oneCell']) ?_
    intro wS xS gS
    try simp only [Act.put]
    have TB' := kGrownB gS TB (by omega)
    refine hK.out _ _ (SS.out _ TB') ?_
    exact ⟨_, _, _, _, _, _, _, _, rfl, TB', ⟨_, xR.grown gS (by simp only [ne_eq, Option.some.injEq]; omega), sR⟩, f1.keep (by decide) (id), f3.keep (by decide) (id), f5.keep (by decide) (id), f7.keep (by decide) (id), f14.keep (by decide) (id), f19.keep (by decide) (SlV.off xN htU gS), f20.keep (by decide) (AgV.off xN htU gS), f21.keep (by decide) (fun _ => ⟨_, _, rfl, hgN, xS, rfl⟩), Fl.new (⟨⟨_, _, _, rfl, hgN, xS, o39.offBox xN htU gS⟩, getD_set_true (hd 21 (by simp))⟩)⟩
  · obtain ⟨v8, v20, v22, v24, v26, v33, v38, v39, rfl, TB, XB, f1, f3, f5, f7, f14, f19, f20, f21, f22⟩ := hI
    obtain ⟨vsR, xR, sR⟩ := XB.out
    have hnW : n0 ≤ W.heap.size := by have := xR.lt; omega
    obtain ⟨⟨g9, a9, c9, rfl, hg9, x9, o9⟩, _⟩ := f22.get (hall 22 (by decide))
    have X9 : Hid (Box W g9 25 #[.int .i64 p0, .int .i64 p2, .int .i64 p4, .int .i64 p8, .int .i64 g, .int .i64 p14, .int .i64 ms, .slice a9 (0) c9]) := x9
    have O9 := Lib.hid o9
    have R9 := Lib.hid xR
    have SR := Lib.hid sR
    have T9 := TB
    have HG := Lib.hid hg9
    clear x9 o9 xR sR XB hall TB SS hg9 hnW f1 f3 f5 f7 f14 f19 f20 f21 f22 K0 K2 K4 K8 K14 KD
    go_wp2_with fail
    refine (l5Flag_any g9 ⟨p0, p2, p4, p8, g, p14, ms⟩ a9 (0) c9 16 _ X9.out hgb (by omega)).mono ?_
    rintro e w' ⟨rfl, rfl⟩
    cases m16 : flB g 16
    · have c3 := X9.out.cell 3
      have f3 := X9.out.frozen 3
      simp at c3
      have Y9 : Hid (Box (W.setCell ⟨g9, 3, none⟩ (.int .i64 0)) g9 25 #[.int .i64 p0, .int .i64 p2, .int .i64 p4, .int .i64 0, .int .i64 g, .int .i64 p14, .int .i64 ms, .slice a9 (0) c9]) := X9.out.put 3 (.int .i64 0)
      have P9 := Lib.hid (O9.out.grown (grown_setCell W ⟨g9, 3, none⟩ (.int .i64 0)) (fun x hx e => by subst hx; simp only [Option.some.injEq] at e; exact O9.out.ne_box X9.out htU e))
      have Q9 := Lib.hid (R9.out.grown (grown_setCell W ⟨g9, 3, none⟩ (.int .i64 0)) (by have := HG.out; simp only [ne_eq, Option.some.injEq]; omega))
      have U9 := Lib.hid (T9.out.setCell (p := ⟨g9, 3, none⟩) (by have := HG.out; simp only; omega) (.int .i64 0))
      clear X9 O9 R9 T9
      generalize hW : W.setCell ⟨g9, 3, none⟩ (.int .i64 0) = W1 at *
      have X9 := Y9
      have O9 := P9
      have R9 := Q9
      have T9 := U9
      clear Y9 P9 Q9 U9
      go_wp2_with fail
      clear hW
      refine (l5Flag_any g9 ⟨p0, p2, p4, 0, g, p14, ms⟩ a9 (0) c9 2 _ X9.out hgb (by omega)).mono ?_
      rintro e w' ⟨rfl, rfl⟩
      cases m2 : flB g 2
      · have c6 := X9.out.cell 6
        have f6 := X9.out.frozen 6
        simp at c6
        have Y9 : Hid (Box (W1.setCell ⟨g9, 6, none⟩ (.int .i64 0)) g9 25 #[.int .i64 p0, .int .i64 p2, .int .i64 p4, .int .i64 0, .int .i64 g, .int .i64 p14, .int .i64 0, .slice a9 (0) c9]) := X9.out.put 6 (.int .i64 0)
        have P9 := Lib.hid (O9.out.grown (grown_setCell W1 ⟨g9, 6, none⟩ (.int .i64 0)) (fun x hx e => by subst hx; simp only [Option.some.injEq] at e; exact O9.out.ne_box X9.out htU e))
        have Q9 := Lib.hid (R9.out.grown (grown_setCell W1 ⟨g9, 6, none⟩ (.int .i64 0)) (by have := HG.out; simp only [ne_eq, Option.some.injEq]; omega))
        have U9 := Lib.hid (T9.out.setCell (p := ⟨g9, 6, none⟩) (by have := HG.out; simp only; omega) (.int .i64 0))
        clear X9 O9 R9 T9
        generalize hW : W1.setCell ⟨g9, 6, none⟩ (.int .i64 0) = W2 at *
        have X9 := Y9
        have O9 := P9
        have R9 := Q9
        have T9 := U9
        clear Y9 P9 Q9 U9
        have HF : Hid (rsG zs ms = ⟨p0, p2, p4, 0, g, p14, 0⟩) := by rw [HX.out, m16, m2]; rfl
        have KF := Lib.hid (fun W' => specSegmentFault ⟨p0, p2, p4, 0, g, p14, 0⟩ a9 (0) c9 W')
        rw [← HYL.out] at KF
        obtain ⟨C, hC⟩ : ∃ C, C = sgC ⟨p0, p2, p4, 0, g, p14, 0⟩ ys.length := ⟨_, rfl⟩
        rw [← hC] at KF
        have HC : Hid (∀ (e : Ending) (w' : World) (a' : Option Addr) (l' c' : Nat), e = .returned (.tuple #[.agg #[.int .i64 p0, .int .i64 p2, .int .i64 p4, .int .i64 0, .int .i64 g, .int .i64 p14, .int .i64 0, .slice a' l' c'], .int .i64 C]) → Own w' w.heap.size a' l' c' ys → Below w.heap.size w w' → L5Out w ⟨p0, p2, p4, 0, g, p14, 0⟩ ys e w') := fun e w' a' l' c' he ho hb => ⟨a', l', c', by rw [he, hC], ho, hb⟩
        clear hC HX
        have SS := Lib.hid (show ∀ W, Hid (Box W g9 25 #[.int .i64 p0, .int .i64 p2, .int .i64 p4, .int .i64 0, .int .i64 g, .int .i64 p14, .int .i64 0, .slice a9 (0) c9]) → W.cell? ⟨g9, 0, none⟩ = some (.int .i64 p0) ∧ W.cell? ⟨g9, 1, none⟩ = some (.int .i64 p2) ∧ W.cell? ⟨g9, 2, none⟩ = some (.int .i64 p4) ∧ W.cell? ⟨g9, 3, none⟩ = some (.int .i64 0) ∧ W.cell? ⟨g9, 4, none⟩ = some (.int .i64 g) ∧ W.cell? ⟨g9, 5, none⟩ = some (.int .i64 p14) ∧ W.cell? ⟨g9, 6, none⟩ = some (.int .i64 0) ∧ W.cell? ⟨g9, 7, none⟩ = some (.slice a9 (0) c9) from fun W h => h.out.eight.2)
        go_wp2_with fail
        try clear hW
        refine wp_region_held_drew (S := fun W => W.cell? ⟨g9, 0, none⟩ = some (.int .i64 p0) ∧ W.cell? ⟨g9, 1, none⟩ = some (.int .i64 p2) ∧ W.cell? ⟨g9, 2, none⟩ = some (.int .i64 p4) ∧ W.cell? ⟨g9, 3, none⟩ = some (.int .i64 0) ∧ W.cell? ⟨g9, 4, none⟩ = some (.int .i64 g) ∧ W.cell? ⟨g9, 5, none⟩ = some (.int .i64 p14) ∧ W.cell? ⟨g9, 6, none⟩ = some (.int .i64 0) ∧ W.cell? ⟨g9, 7, none⟩ = some (.slice a9 (0) c9)) (by kernel_rfl) (SS.out _ (Lib.hid (show Box W2.drew _ _ _ from X9.out))) (fun hHeld => ?_)
        refine wpAnyH_take (i := 0) (v := ?_) (by simp only [List.getElem?_toArray, List.getElem?_cons_zero]; exact rfl) (by kernel_rfl) (by kernel_rfl) (by kernel_rfl) (by exact fun _ _ _ h => h) (Or.inl ⟨by rfl, ?_⟩) hHeld ?_
        rotate_left
        · intro w' hSw
          obtain ⟨s0, s1, s2, s3, s4, s5, s6, s7⟩ := hSw
          go_simp
          try with_reducible rfl
        try simp only [Act.put, List.setIfInBounds_toArray, List.set_cons_zero, List.set_cons_succ]
        refine wpAnyH_take (i := 1) (v := ?_) (by simp only [List.getElem?_toArray, List.getElem?_cons_zero, List.getElem?_cons_succ]; exact rfl) (by kernel_rfl) (by kernel_rfl) (by kernel_rfl) (by exact fun _ _ _ h => h) (Or.inl ⟨by rfl, ?_⟩) hHeld ?_
        rotate_left
        · intro w' hSw
          obtain ⟨s0, s1, s2, s3, s4, s5, s6, s7⟩ := hSw
          go_simp
          try with_reducible rfl
        try simp only [Act.put, List.setIfInBounds_toArray, List.set_cons_zero, List.set_cons_succ]
        refine wpAnyH_ready (rs := [2]) (by kernel_rfl) (by simp) ?_
        refine (AllReadyH.cons (by simp only [List.getElem?_toArray, List.getElem?_cons_zero, List.getElem?_cons_succ]; exact rfl) (fun K hK => ?_) AllReadyH.nil)
        refine want_none (by exact rfl) ?_
        go_wp2_with fail
        have KF' := KF.out
        rw [HYL.out] at KF'
        refine (KF' _).mono ?_
        rintro e w5 ⟨rfl, b5⟩
        clear KF' KF
        have X5 := Lib.hid ((show Box W2.drew _ _ _ from X9.out).below b5 X9.out.lt)
        have R5 := Lib.hid ((show Box W2.drew _ _ _ from R9.out).below b5 R9.out.lt)
        have O5 := Lib.hid (O9.out.drew.below b5)
        have T5 := Lib.hid (T9.out.drew.trans (b5.mono T9.out.drew.size))
        clear b5 X9 R9 O9 T9
        go_wp2_with fail
        refine hK.out _ _ (SS.out _ X5) (fun hHeld => ?_)
        clear hK K
        try simp only [Act.put, List.setIfInBounds_toArray, List.set_cons_zero, List.set_cons_succ]
        refine wpAnyH_ready (rs := [3]) (by kernel_rfl) (by simp) ?_
        refine (AllReadyH.cons (by simp only [List.getElem?_toArray, List.getElem?_cons_zero, List.getElem?_cons_succ]; exact rfl) (fun K hK => ?_) AllReadyH.nil)
        refine storeBox_step _ rfl 25 (.tmp 4) (.tmp 46) rfl w.heap.size 25 vsR #[.int .i64 p0, .int .i64 p2, .int .i64 p4, .int .i64 0, .int .i64 g, .int .i64 p14, .int .i64 0, .slice a9 (0) c9] R5.out (by exact rfl) (by exact rfl) (by kernel_rfl) (SR.out.trans rfl) (by simp [Value.oneCell']) ?_
        intro wA xwA gwA
        have X6 := Lib.hid (X5.out.grown gwA (by have := HG.out; simp only [ne_eq, Option.some.injEq]; omega))
        have O6 := Lib.hid ((O5.out.grown gwA (by rintro x hx e; have := (O5.out.lt x hx).1; simp only [Option.some.injEq] at e; omega)).rebase (show w.heap.size ≤ n0 by omega))
        have T6 := Lib.hid (T5.out.grown gwA T5.out.size (fun k e => by cases e; exact Nat.le_refl _))
        have XA := Lib.hid xwA
        clear xwA gwA X5 O5 T5 R5
        refine hK.out _ _ (SS.out _ X6) (fun hHeld => ?_)
        clear hK K
        try simp only [Act.put]
        try simp only [Act.put, List.setIfInBounds_toArray, List.set_cons_zero, List.set_cons_succ]
        refine wpAnyH_take (i := 4) (v := ?_) (by simp only [List.getElem?_toArray, List.getElem?_cons_zero, List.getElem?_cons_succ]; exact rfl) (by kernel_rfl) (by kernel_rfl) (by kernel_rfl) (by exact fun _ _ _ h => h) (Or.inl ⟨by rfl, ?_⟩) hHeld ?_
        rotate_left
        · intro w' hSw
          obtain ⟨s0, s1, s2, s3, s4, s5, s6, s7⟩ := hSw
          go_simp
          try with_reducible rfl
        try simp only [Act.put, List.setIfInBounds_toArray, List.set_cons_zero, List.set_cons_succ]
        refine wpAnyH_done (by kernel_rfl) ?_ _
        go_wp2
        obtain ⟨_, q0, q1, q2, q3, q4, q5, q6, q7⟩ := XA.out.eight
        exact bodyPost_ret (v := .tuple #[.agg #[.int .i64 p0, .int .i64 p2, .int .i64 p4, .int .i64 0, .int .i64 g, .int .i64 p14, .int .i64 0, .slice a9 (0) c9], .int .i64 C]) (by simp [results, Try.results75, go_sem, q0, q1, q2, q3, q4, q5, q6, q7]) rfl (by rw [HF.out]; exact HC.out _ _ _ _ _ rfl O6.out T6.out)
      · have HF : Hid (rsG zs ms = ⟨p0, p2, p4, 0, g, p14, ms⟩) := by rw [HX.out, m16, m2]; rfl
        have KF := Lib.hid (fun W' => specSegmentFault ⟨p0, p2, p4, 0, g, p14, ms⟩ a9 (0) c9 W')
        rw [← HYL.out] at KF
        obtain ⟨C, hC⟩ : ∃ C, C = sgC ⟨p0, p2, p4, 0, g, p14, ms⟩ ys.length := ⟨_, rfl⟩
        rw [← hC] at KF
        have HC : Hid (∀ (e : Ending) (w' : World) (a' : Option Addr) (l' c' : Nat), e = .returned (.tuple #[.agg #[.int .i64 p0, .int .i64 p2, .int .i64 p4, .int .i64 0, .int .i64 g, .int .i64 p14, .int .i64 ms, .slice a' l' c'], .int .i64 C]) → Own w' w.heap.size a' l' c' ys → Below w.heap.size w w' → L5Out w ⟨p0, p2, p4, 0, g, p14, ms⟩ ys e w') := fun e w' a' l' c' he ho hb => ⟨a', l', c', by rw [he, hC], ho, hb⟩
        clear hC HX
        have SS := Lib.hid (show ∀ W, Hid (Box W g9 25 #[.int .i64 p0, .int .i64 p2, .int .i64 p4, .int .i64 0, .int .i64 g, .int .i64 p14, .int .i64 ms, .slice a9 (0) c9]) → W.cell? ⟨g9, 0, none⟩ = some (.int .i64 p0) ∧ W.cell? ⟨g9, 1, none⟩ = some (.int .i64 p2) ∧ W.cell? ⟨g9, 2, none⟩ = some (.int .i64 p4) ∧ W.cell? ⟨g9, 3, none⟩ = some (.int .i64 0) ∧ W.cell? ⟨g9, 4, none⟩ = some (.int .i64 g) ∧ W.cell? ⟨g9, 5, none⟩ = some (.int .i64 p14) ∧ W.cell? ⟨g9, 6, none⟩ = some (.int .i64 ms) ∧ W.cell? ⟨g9, 7, none⟩ = some (.slice a9 (0) c9) from fun W h => h.out.eight.2)
        go_wp2_with fail
        try clear hW
        refine wp_region_held_drew (S := fun W => W.cell? ⟨g9, 0, none⟩ = some (.int .i64 p0) ∧ W.cell? ⟨g9, 1, none⟩ = some (.int .i64 p2) ∧ W.cell? ⟨g9, 2, none⟩ = some (.int .i64 p4) ∧ W.cell? ⟨g9, 3, none⟩ = some (.int .i64 0) ∧ W.cell? ⟨g9, 4, none⟩ = some (.int .i64 g) ∧ W.cell? ⟨g9, 5, none⟩ = some (.int .i64 p14) ∧ W.cell? ⟨g9, 6, none⟩ = some (.int .i64 ms) ∧ W.cell? ⟨g9, 7, none⟩ = some (.slice a9 (0) c9)) (by kernel_rfl) (SS.out _ (Lib.hid (show Box W1.drew _ _ _ from X9.out))) (fun hHeld => ?_)
        refine wpAnyH_take (i := 0) (v := ?_) (by simp only [List.getElem?_toArray, List.getElem?_cons_zero]; exact rfl) (by kernel_rfl) (by kernel_rfl) (by kernel_rfl) (by exact fun _ _ _ h => h) (Or.inl ⟨by rfl, ?_⟩) hHeld ?_
        rotate_left
        · intro w' hSw
          obtain ⟨s0, s1, s2, s3, s4, s5, s6, s7⟩ := hSw
          go_simp
          try with_reducible rfl
        try simp only [Act.put, List.setIfInBounds_toArray, List.set_cons_zero, List.set_cons_succ]
        refine wpAnyH_take (i := 1) (v := ?_) (by simp only [List.getElem?_toArray, List.getElem?_cons_zero, List.getElem?_cons_succ]; exact rfl) (by kernel_rfl) (by kernel_rfl) (by kernel_rfl) (by exact fun _ _ _ h => h) (Or.inl ⟨by rfl, ?_⟩) hHeld ?_
        rotate_left
        · intro w' hSw
          obtain ⟨s0, s1, s2, s3, s4, s5, s6, s7⟩ := hSw
          go_simp
          try with_reducible rfl
        try simp only [Act.put, List.setIfInBounds_toArray, List.set_cons_zero, List.set_cons_succ]
        refine wpAnyH_ready (rs := [2]) (by kernel_rfl) (by simp) ?_
        refine (AllReadyH.cons (by simp only [List.getElem?_toArray, List.getElem?_cons_zero, List.getElem?_cons_succ]; exact rfl) (fun K hK => ?_) AllReadyH.nil)
        refine want_none (by exact rfl) ?_
        go_wp2_with fail
        have KF' := KF.out
        rw [HYL.out] at KF'
        refine (KF' _).mono ?_
        rintro e w5 ⟨rfl, b5⟩
        clear KF' KF
        have X5 := Lib.hid ((show Box W1.drew _ _ _ from X9.out).below b5 X9.out.lt)
        have R5 := Lib.hid ((show Box W1.drew _ _ _ from R9.out).below b5 R9.out.lt)
        have O5 := Lib.hid (O9.out.drew.below b5)
        have T5 := Lib.hid (T9.out.drew.trans (b5.mono T9.out.drew.size))
        clear b5 X9 R9 O9 T9
        go_wp2_with fail
        refine hK.out _ _ (SS.out _ X5) (fun hHeld => ?_)
        clear hK K
        try simp only [Act.put, List.setIfInBounds_toArray, List.set_cons_zero, List.set_cons_succ]
        refine wpAnyH_ready (rs := [3]) (by kernel_rfl) (by simp) ?_
        refine (AllReadyH.cons (by simp only [List.getElem?_toArray, List.getElem?_cons_zero, List.getElem?_cons_succ]; exact rfl) (fun K hK => ?_) AllReadyH.nil)
        refine storeBox_step _ rfl 25 (.tmp 4) (.tmp 46) rfl w.heap.size 25 vsR #[.int .i64 p0, .int .i64 p2, .int .i64 p4, .int .i64 0, .int .i64 g, .int .i64 p14, .int .i64 ms, .slice a9 (0) c9] R5.out (by exact rfl) (by exact rfl) (by kernel_rfl) (SR.out.trans rfl) (by simp [Value.oneCell']) ?_
        intro wA xwA gwA
        have X6 := Lib.hid (X5.out.grown gwA (by have := HG.out; simp only [ne_eq, Option.some.injEq]; omega))
        have O6 := Lib.hid ((O5.out.grown gwA (by rintro x hx e; have := (O5.out.lt x hx).1; simp only [Option.some.injEq] at e; omega)).rebase (show w.heap.size ≤ n0 by omega))
        have T6 := Lib.hid (T5.out.grown gwA T5.out.size (fun k e => by cases e; exact Nat.le_refl _))
        have XA := Lib.hid xwA
        clear xwA gwA X5 O5 T5 R5
        refine hK.out _ _ (SS.out _ X6) (fun hHeld => ?_)
        clear hK K
        try simp only [Act.put]
        try simp only [Act.put, List.setIfInBounds_toArray, List.set_cons_zero, List.set_cons_succ]
        refine wpAnyH_take (i := 4) (v := ?_) (by simp only [List.getElem?_toArray, List.getElem?_cons_zero, List.getElem?_cons_succ]; exact rfl) (by kernel_rfl) (by kernel_rfl) (by kernel_rfl) (by exact fun _ _ _ h => h) (Or.inl ⟨by rfl, ?_⟩) hHeld ?_
        rotate_left
        · intro w' hSw
          obtain ⟨s0, s1, s2, s3, s4, s5, s6, s7⟩ := hSw
          go_simp
          try with_reducible rfl
        try simp only [Act.put, List.setIfInBounds_toArray, List.set_cons_zero, List.set_cons_succ]
        refine wpAnyH_done (by kernel_rfl) ?_ _
        go_wp2
        obtain ⟨_, q0, q1, q2, q3, q4, q5, q6, q7⟩ := XA.out.eight
        exact bodyPost_ret (v := .tuple #[.agg #[.int .i64 p0, .int .i64 p2, .int .i64 p4, .int .i64 0, .int .i64 g, .int .i64 p14, .int .i64 ms, .slice a9 (0) c9], .int .i64 C]) (by simp [results, Try.results75, go_sem, q0, q1, q2, q3, q4, q5, q6, q7]) rfl (by rw [HF.out]; exact HC.out _ _ _ _ _ rfl O6.out T6.out)
    · go_wp2_with fail
      refine (l5Flag_any g9 ⟨p0, p2, p4, p8, g, p14, ms⟩ a9 (0) c9 2 _ X9.out hgb (by omega)).mono ?_
      rintro e w' ⟨rfl, rfl⟩
      cases m2 : flB g 2
      · have c6 := X9.out.cell 6
        have f6 := X9.out.frozen 6
        simp at c6
        have Y9 : Hid (Box (W.setCell ⟨g9, 6, none⟩ (.int .i64 0)) g9 25 #[.int .i64 p0, .int .i64 p2, .int .i64 p4, .int .i64 p8, .int .i64 g, .int .i64 p14, .int .i64 0, .slice a9 (0) c9]) := X9.out.put 6 (.int .i64 0)
        have P9 := Lib.hid (O9.out.grown (grown_setCell W ⟨g9, 6, none⟩ (.int .i64 0)) (fun x hx e => by subst hx; simp only [Option.some.injEq] at e; exact O9.out.ne_box X9.out htU e))
        have Q9 := Lib.hid (R9.out.grown (grown_setCell W ⟨g9, 6, none⟩ (.int .i64 0)) (by have := HG.out; simp only [ne_eq, Option.some.injEq]; omega))
        have U9 := Lib.hid (T9.out.setCell (p := ⟨g9, 6, none⟩) (by have := HG.out; simp only; omega) (.int .i64 0))
        clear X9 O9 R9 T9
        generalize hW : W.setCell ⟨g9, 6, none⟩ (.int .i64 0) = W1 at *
        have X9 := Y9
        have O9 := P9
        have R9 := Q9
        have T9 := U9
        clear Y9 P9 Q9 U9
        have HF : Hid (rsG zs ms = ⟨p0, p2, p4, p8, g, p14, 0⟩) := by rw [HX.out, m16, m2]; rfl
        have KF := Lib.hid (fun W' => specSegmentFault ⟨p0, p2, p4, p8, g, p14, 0⟩ a9 (0) c9 W')
        rw [← HYL.out] at KF
        obtain ⟨C, hC⟩ : ∃ C, C = sgC ⟨p0, p2, p4, p8, g, p14, 0⟩ ys.length := ⟨_, rfl⟩
        rw [← hC] at KF
        have HC : Hid (∀ (e : Ending) (w' : World) (a' : Option Addr) (l' c' : Nat), e = .returned (.tuple #[.agg #[.int .i64 p0, .int .i64 p2, .int .i64 p4, .int .i64 p8, .int .i64 g, .int .i64 p14, .int .i64 0, .slice a' l' c'], .int .i64 C]) → Own w' w.heap.size a' l' c' ys → Below w.heap.size w w' → L5Out w ⟨p0, p2, p4, p8, g, p14, 0⟩ ys e w') := fun e w' a' l' c' he ho hb => ⟨a', l', c', by rw [he, hC], ho, hb⟩
        clear hC HX
        have SS := Lib.hid (show ∀ W, Hid (Box W g9 25 #[.int .i64 p0, .int .i64 p2, .int .i64 p4, .int .i64 p8, .int .i64 g, .int .i64 p14, .int .i64 0, .slice a9 (0) c9]) → W.cell? ⟨g9, 0, none⟩ = some (.int .i64 p0) ∧ W.cell? ⟨g9, 1, none⟩ = some (.int .i64 p2) ∧ W.cell? ⟨g9, 2, none⟩ = some (.int .i64 p4) ∧ W.cell? ⟨g9, 3, none⟩ = some (.int .i64 p8) ∧ W.cell? ⟨g9, 4, none⟩ = some (.int .i64 g) ∧ W.cell? ⟨g9, 5, none⟩ = some (.int .i64 p14) ∧ W.cell? ⟨g9, 6, none⟩ = some (.int .i64 0) ∧ W.cell? ⟨g9, 7, none⟩ = some (.slice a9 (0) c9) from fun W h => h.out.eight.2)
        go_wp2_with fail
        try clear hW
        refine wp_region_held_drew (S := fun W => W.cell? ⟨g9, 0, none⟩ = some (.int .i64 p0) ∧ W.cell? ⟨g9, 1, none⟩ = some (.int .i64 p2) ∧ W.cell? ⟨g9, 2, none⟩ = some (.int .i64 p4) ∧ W.cell? ⟨g9, 3, none⟩ = some (.int .i64 p8) ∧ W.cell? ⟨g9, 4, none⟩ = some (.int .i64 g) ∧ W.cell? ⟨g9, 5, none⟩ = some (.int .i64 p14) ∧ W.cell? ⟨g9, 6, none⟩ = some (.int .i64 0) ∧ W.cell? ⟨g9, 7, none⟩ = some (.slice a9 (0) c9)) (by kernel_rfl) (SS.out _ (Lib.hid (show Box W1.drew _ _ _ from X9.out))) (fun hHeld => ?_)
        refine wpAnyH_take (i := 0) (v := ?_) (by simp only [List.getElem?_toArray, List.getElem?_cons_zero]; exact rfl) (by kernel_rfl) (by kernel_rfl) (by kernel_rfl) (by exact fun _ _ _ h => h) (Or.inl ⟨by rfl, ?_⟩) hHeld ?_
        rotate_left
        · intro w' hSw
          obtain ⟨s0, s1, s2, s3, s4, s5, s6, s7⟩ := hSw
          go_simp
          try with_reducible rfl
        try simp only [Act.put, List.setIfInBounds_toArray, List.set_cons_zero, List.set_cons_succ]
        refine wpAnyH_take (i := 1) (v := ?_) (by simp only [List.getElem?_toArray, List.getElem?_cons_zero, List.getElem?_cons_succ]; exact rfl) (by kernel_rfl) (by kernel_rfl) (by kernel_rfl) (by exact fun _ _ _ h => h) (Or.inl ⟨by rfl, ?_⟩) hHeld ?_
        rotate_left
        · intro w' hSw
          obtain ⟨s0, s1, s2, s3, s4, s5, s6, s7⟩ := hSw
          go_simp
          try with_reducible rfl
        try simp only [Act.put, List.setIfInBounds_toArray, List.set_cons_zero, List.set_cons_succ]
        refine wpAnyH_ready (rs := [2]) (by kernel_rfl) (by simp) ?_
        refine (AllReadyH.cons (by simp only [List.getElem?_toArray, List.getElem?_cons_zero, List.getElem?_cons_succ]; exact rfl) (fun K hK => ?_) AllReadyH.nil)
        refine want_none (by exact rfl) ?_
        go_wp2_with fail
        have KF' := KF.out
        rw [HYL.out] at KF'
        refine (KF' _).mono ?_
        rintro e w5 ⟨rfl, b5⟩
        clear KF' KF
        have X5 := Lib.hid ((show Box W1.drew _ _ _ from X9.out).below b5 X9.out.lt)
        have R5 := Lib.hid ((show Box W1.drew _ _ _ from R9.out).below b5 R9.out.lt)
        have O5 := Lib.hid (O9.out.drew.below b5)
        have T5 := Lib.hid (T9.out.drew.trans (b5.mono T9.out.drew.size))
        clear b5 X9 R9 O9 T9
        go_wp2_with fail
        refine hK.out _ _ (SS.out _ X5) (fun hHeld => ?_)
        clear hK K
        try simp only [Act.put, List.setIfInBounds_toArray, List.set_cons_zero, List.set_cons_succ]
        refine wpAnyH_ready (rs := [3]) (by kernel_rfl) (by simp) ?_
        refine (AllReadyH.cons (by simp only [List.getElem?_toArray, List.getElem?_cons_zero, List.getElem?_cons_succ]; exact rfl) (fun K hK => ?_) AllReadyH.nil)
        refine storeBox_step _ rfl 25 (.tmp 4) (.tmp 46) rfl w.heap.size 25 vsR #[.int .i64 p0, .int .i64 p2, .int .i64 p4, .int .i64 p8, .int .i64 g, .int .i64 p14, .int .i64 0, .slice a9 (0) c9] R5.out (by exact rfl) (by exact rfl) (by kernel_rfl) (SR.out.trans rfl) (by simp [Value.oneCell']) ?_
        intro wA xwA gwA
        have X6 := Lib.hid (X5.out.grown gwA (by have := HG.out; simp only [ne_eq, Option.some.injEq]; omega))
        have O6 := Lib.hid ((O5.out.grown gwA (by rintro x hx e; have := (O5.out.lt x hx).1; simp only [Option.some.injEq] at e; omega)).rebase (show w.heap.size ≤ n0 by omega))
        have T6 := Lib.hid (T5.out.grown gwA T5.out.size (fun k e => by cases e; exact Nat.le_refl _))
        have XA := Lib.hid xwA
        clear xwA gwA X5 O5 T5 R5
        refine hK.out _ _ (SS.out _ X6) (fun hHeld => ?_)
        clear hK K
        try simp only [Act.put]
        try simp only [Act.put, List.setIfInBounds_toArray, List.set_cons_zero, List.set_cons_succ]
        refine wpAnyH_take (i := 4) (v := ?_) (by simp only [List.getElem?_toArray, List.getElem?_cons_zero, List.getElem?_cons_succ]; exact rfl) (by kernel_rfl) (by kernel_rfl) (by kernel_rfl) (by exact fun _ _ _ h => h) (Or.inl ⟨by rfl, ?_⟩) hHeld ?_
        rotate_left
        · intro w' hSw
          obtain ⟨s0, s1, s2, s3, s4, s5, s6, s7⟩ := hSw
          go_simp
          try with_reducible rfl
        try simp only [Act.put, List.setIfInBounds_toArray, List.set_cons_zero, List.set_cons_succ]
        refine wpAnyH_done (by kernel_rfl) ?_ _
        go_wp2
        obtain ⟨_, q0, q1, q2, q3, q4, q5, q6, q7⟩ := XA.out.eight
        exact bodyPost_ret (v := .tuple #[.agg #[.int .i64 p0, .int .i64 p2, .int .i64 p4, .int .i64 p8, .int .i64 g, .int .i64 p14, .int .i64 0, .slice a9 (0) c9], .int .i64 C]) (by simp [results, Try.results75, go_sem, q0, q1, q2, q3, q4, q5, q6, q7]) rfl (by rw [HF.out]; exact HC.out _ _ _ _ _ rfl O6.out T6.out)
      · have HF : Hid (rsG zs ms = ⟨p0, p2, p4, p8, g, p14, ms⟩) := by rw [HX.out, m16, m2]; rfl
        have KF := Lib.hid (fun W' => specSegmentFault ⟨p0, p2, p4, p8, g, p14, ms⟩ a9 (0) c9 W')
        rw [← HYL.out] at KF
        obtain ⟨C, hC⟩ : ∃ C, C = sgC ⟨p0, p2, p4, p8, g, p14, ms⟩ ys.length := ⟨_, rfl⟩
        rw [← hC] at KF
        have HC : Hid (∀ (e : Ending) (w' : World) (a' : Option Addr) (l' c' : Nat), e = .returned (.tuple #[.agg #[.int .i64 p0, .int .i64 p2, .int .i64 p4, .int .i64 p8, .int .i64 g, .int .i64 p14, .int .i64 ms, .slice a' l' c'], .int .i64 C]) → Own w' w.heap.size a' l' c' ys → Below w.heap.size w w' → L5Out w ⟨p0, p2, p4, p8, g, p14, ms⟩ ys e w') := fun e w' a' l' c' he ho hb => ⟨a', l', c', by rw [he, hC], ho, hb⟩
        clear hC HX
        have SS := Lib.hid (show ∀ W, Hid (Box W g9 25 #[.int .i64 p0, .int .i64 p2, .int .i64 p4, .int .i64 p8, .int .i64 g, .int .i64 p14, .int .i64 ms, .slice a9 (0) c9]) → W.cell? ⟨g9, 0, none⟩ = some (.int .i64 p0) ∧ W.cell? ⟨g9, 1, none⟩ = some (.int .i64 p2) ∧ W.cell? ⟨g9, 2, none⟩ = some (.int .i64 p4) ∧ W.cell? ⟨g9, 3, none⟩ = some (.int .i64 p8) ∧ W.cell? ⟨g9, 4, none⟩ = some (.int .i64 g) ∧ W.cell? ⟨g9, 5, none⟩ = some (.int .i64 p14) ∧ W.cell? ⟨g9, 6, none⟩ = some (.int .i64 ms) ∧ W.cell? ⟨g9, 7, none⟩ = some (.slice a9 (0) c9) from fun W h => h.out.eight.2)
        go_wp2_with fail
        try clear hW
        refine wp_region_held_drew (S := fun W => W.cell? ⟨g9, 0, none⟩ = some (.int .i64 p0) ∧ W.cell? ⟨g9, 1, none⟩ = some (.int .i64 p2) ∧ W.cell? ⟨g9, 2, none⟩ = some (.int .i64 p4) ∧ W.cell? ⟨g9, 3, none⟩ = some (.int .i64 p8) ∧ W.cell? ⟨g9, 4, none⟩ = some (.int .i64 g) ∧ W.cell? ⟨g9, 5, none⟩ = some (.int .i64 p14) ∧ W.cell? ⟨g9, 6, none⟩ = some (.int .i64 ms) ∧ W.cell? ⟨g9, 7, none⟩ = some (.slice a9 (0) c9)) (by kernel_rfl) (SS.out _ (Lib.hid (show Box W.drew _ _ _ from X9.out))) (fun hHeld => ?_)
        refine wpAnyH_take (i := 0) (v := ?_) (by simp only [List.getElem?_toArray, List.getElem?_cons_zero]; exact rfl) (by kernel_rfl) (by kernel_rfl) (by kernel_rfl) (by exact fun _ _ _ h => h) (Or.inl ⟨by rfl, ?_⟩) hHeld ?_
        rotate_left
        · intro w' hSw
          obtain ⟨s0, s1, s2, s3, s4, s5, s6, s7⟩ := hSw
          go_simp
          try with_reducible rfl
        try simp only [Act.put, List.setIfInBounds_toArray, List.set_cons_zero, List.set_cons_succ]
        refine wpAnyH_take (i := 1) (v := ?_) (by simp only [List.getElem?_toArray, List.getElem?_cons_zero, List.getElem?_cons_succ]; exact rfl) (by kernel_rfl) (by kernel_rfl) (by kernel_rfl) (by exact fun _ _ _ h => h) (Or.inl ⟨by rfl, ?_⟩) hHeld ?_
        rotate_left
        · intro w' hSw
          obtain ⟨s0, s1, s2, s3, s4, s5, s6, s7⟩ := hSw
          go_simp
          try with_reducible rfl
        try simp only [Act.put, List.setIfInBounds_toArray, List.set_cons_zero, List.set_cons_succ]
        refine wpAnyH_ready (rs := [2]) (by kernel_rfl) (by simp) ?_
        refine (AllReadyH.cons (by simp only [List.getElem?_toArray, List.getElem?_cons_zero, List.getElem?_cons_succ]; exact rfl) (fun K hK => ?_) AllReadyH.nil)
        refine want_none (by exact rfl) ?_
        go_wp2_with fail
        have KF' := KF.out
        rw [HYL.out] at KF'
        refine (KF' _).mono ?_
        rintro e w5 ⟨rfl, b5⟩
        clear KF' KF
        have X5 := Lib.hid ((show Box W.drew _ _ _ from X9.out).below b5 X9.out.lt)
        have R5 := Lib.hid ((show Box W.drew _ _ _ from R9.out).below b5 R9.out.lt)
        have O5 := Lib.hid (O9.out.drew.below b5)
        have T5 := Lib.hid (T9.out.drew.trans (b5.mono T9.out.drew.size))
        clear b5 X9 R9 O9 T9
        go_wp2_with fail
        refine hK.out _ _ (SS.out _ X5) (fun hHeld => ?_)
        clear hK K
        try simp only [Act.put, List.setIfInBounds_toArray, List.set_cons_zero, List.set_cons_succ]
        refine wpAnyH_ready (rs := [3]) (by kernel_rfl) (by simp) ?_
        refine (AllReadyH.cons (by simp only [List.getElem?_toArray, List.getElem?_cons_zero, List.getElem?_cons_succ]; exact rfl) (fun K hK => ?_) AllReadyH.nil)
        refine storeBox_step _ rfl 25 (.tmp 4) (.tmp 46) rfl w.heap.size 25 vsR #[.int .i64 p0, .int .i64 p2, .int .i64 p4, .int .i64 p8, .int .i64 g, .int .i64 p14, .int .i64 ms, .slice a9 (0) c9] R5.out (by exact rfl) (by exact rfl) (by kernel_rfl) (SR.out.trans rfl) (by simp [Value.oneCell']) ?_
        intro wA xwA gwA
        have X6 := Lib.hid (X5.out.grown gwA (by have := HG.out; simp only [ne_eq, Option.some.injEq]; omega))
        have O6 := Lib.hid ((O5.out.grown gwA (by rintro x hx e; have := (O5.out.lt x hx).1; simp only [Option.some.injEq] at e; omega)).rebase (show w.heap.size ≤ n0 by omega))
        have T6 := Lib.hid (T5.out.grown gwA T5.out.size (fun k e => by cases e; exact Nat.le_refl _))
        have XA := Lib.hid xwA
        clear xwA gwA X5 O5 T5 R5
        refine hK.out _ _ (SS.out _ X6) (fun hHeld => ?_)
        clear hK K
        try simp only [Act.put]
        try simp only [Act.put, List.setIfInBounds_toArray, List.set_cons_zero, List.set_cons_succ]
        refine wpAnyH_take (i := 4) (v := ?_) (by simp only [List.getElem?_toArray, List.getElem?_cons_zero, List.getElem?_cons_succ]; exact rfl) (by kernel_rfl) (by kernel_rfl) (by kernel_rfl) (by exact fun _ _ _ h => h) (Or.inl ⟨by rfl, ?_⟩) hHeld ?_
        rotate_left
        · intro w' hSw
          obtain ⟨s0, s1, s2, s3, s4, s5, s6, s7⟩ := hSw
          go_simp
          try with_reducible rfl
        try simp only [Act.put, List.setIfInBounds_toArray, List.set_cons_zero, List.set_cons_succ]
        refine wpAnyH_done (by kernel_rfl) ?_ _
        go_wp2
        obtain ⟨_, q0, q1, q2, q3, q4, q5, q6, q7⟩ := XA.out.eight
        exact bodyPost_ret (v := .tuple #[.agg #[.int .i64 p0, .int .i64 p2, .int .i64 p4, .int .i64 p8, .int .i64 g, .int .i64 p14, .int .i64 ms, .slice a9 (0) c9], .int .i64 C]) (by simp [results, Try.results75, go_sem, q0, q1, q2, q3, q4, q5, q6, q7]) rfl (by rw [HF.out]; exact HC.out _ _ _ _ _ rfl O6.out T6.out)

set_option maxRecDepth 20000 in
set_option maxHeartbeats 8000000 in
theorem l5Read_okC (a : Option Addr) (zs : List Int) (w : World) (hr : Rd w a 20 20 zs) (hk : optK ((zs.drop 20).take (20 - 20)) = true) :
    Calls Try.prog 75 #[.slice a 20 20, .int .i64 20] w (L5Out w (rsG zs (optV ((zs.drop 20).take (20 - 20)))) (zs.drop 20)) := by
  have hle := hr.le
  have hmx := hr.max
  unfold maxLen at hmx
  rcases hr.cells with h0 | ⟨ba, off, rfl, hc⟩
  · omega
  obtain ⟨os, hos⟩ : ∃ os, (zs.drop 20).take (20 - 20) = os := ⟨_, rfl⟩
  rw [hos] at hk ⊢
  obtain ⟨ms, hms⟩ : ∃ m, optV os = m := ⟨_, rfl⟩
  obtain ⟨ys, hys⟩ : ∃ ys, zs.drop 20 = ys := ⟨_, rfl⟩
  obtain ⟨p0, hp0⟩ : ∃ m, rdTo zs 0 2 = m := ⟨_, rfl⟩
  obtain ⟨p2, hp2⟩ : ∃ m, rdTo zs 2 2 = m := ⟨_, rfl⟩
  obtain ⟨p4, hp4⟩ : ∃ m, rdTo zs 4 4 = m := ⟨_, rfl⟩
  obtain ⟨p8, hp8⟩ : ∃ m, rdTo zs 8 4 = m := ⟨_, rfl⟩
  obtain ⟨p14, hp14⟩ : ∃ m, rdTo zs 14 2 = m := ⟨_, rfl⟩
  obtain ⟨y, hy⟩ : ∃ y, zs.getD 13 0 = y := ⟨_, rfl⟩
  have hyb := hr.getD_bd 13
  rw [hy] at hyb
  obtain ⟨g, hg⟩ : ∃ g, y % 32 = g := ⟨_, rfl⟩
  have hgb : 0 ≤ g ∧ g ≤ 31 := by omega
  have hyw : IntKind.i64.wrap y = y := IntWalk.i64_in _ (by omega)
  have hym : y.tmod 32 = g := by rw [Int.tmod_eq_emod_of_nonneg hyb.1]; exact hg
  have HX : Hid (rsG zs ms = ⟨p0, p2, p4, if flB g 16 then p8 else 0, g, p14, if flB g 2 then ms else 0⟩) := by unfold rsG; rw [hy, hg, hp0, hp2, hp4, hp8, hp14]; rfl
  have HOs := Lib.hid (show ∀ W, Below w.heap.size w W → Rd W (some ⟨ba, off, none⟩) 0 0 os from fun W hW => by rw [← hos]; have q := rd_end (hr.below hW); rw [List.length_eq_zero_iff.1 (show (zs.drop 20).length = 0 by rw [List.length_drop, hr.length])] at q; simpa using q)
  have KO := Lib.hid (show ∀ W, Below w.heap.size w W → Calls Try.prog 105 #[.slice (some ⟨ba, off, none⟩) 0 0] W fun e w' => e = .returned (.tuple #[.int .i64 ms, .bool true]) ∧ W = w' from fun W hW => by
    have := l5Options_any (some ⟨ba, off, none⟩) 0 0 os W (HOs.out W hW) (by omega)
    rwa [hms, hk] at this)
  have K0 := Lib.hid (show ∀ W, Below w.heap.size w W → Calls Try.prog 106 #[.slice (some ⟨ba, off, none⟩) 20 20, .int .i64 0, .int .i64 2] W fun e w' => e = .returned (.int .i64 p0) ∧ W = w' from fun W hW => by rw [← hp0]; exact l1Read_l5 _ 20 20 0 2 0 2 zs W (hr.below hW) rfl rfl (by omega) (by omega))
  have K2 := Lib.hid (show ∀ W, Below w.heap.size w W → Calls Try.prog 106 #[.slice (some ⟨ba, off, none⟩) 20 20, .int .i64 2, .int .i64 2] W fun e w' => e = .returned (.int .i64 p2) ∧ W = w' from fun W hW => by rw [← hp2]; exact l1Read_l5 _ 20 20 2 2 2 2 zs W (hr.below hW) rfl rfl (by omega) (by omega))
  have K4 := Lib.hid (show ∀ W, Below w.heap.size w W → Calls Try.prog 106 #[.slice (some ⟨ba, off, none⟩) 20 20, .int .i64 4, .int .i64 4] W fun e w' => e = .returned (.int .i64 p4) ∧ W = w' from fun W hW => by rw [← hp4]; exact l1Read_l5 _ 20 20 4 4 4 4 zs W (hr.below hW) rfl rfl (by omega) (by omega))
  have K8 := Lib.hid (show ∀ W, Below w.heap.size w W → Calls Try.prog 106 #[.slice (some ⟨ba, off, none⟩) 20 20, .int .i64 8, .int .i64 4] W fun e w' => e = .returned (.int .i64 p8) ∧ W = w' from fun W hW => by rw [← hp8]; exact l1Read_l5 _ 20 20 8 4 8 4 zs W (hr.below hW) rfl rfl (by omega) (by omega))
  have K14 := Lib.hid (show ∀ W, Below w.heap.size w W → Calls Try.prog 106 #[.slice (some ⟨ba, off, none⟩) 20 20, .int .i64 14, .int .i64 2] W fun e w' => e = .returned (.int .i64 p14) ∧ W = w' from fun W hW => by rw [← hp14]; exact l1Read_l5 _ 20 20 14 2 14 2 zs W (hr.below hW) rfl rfl (by omega) (by omega))
  have HD := Lib.hid (show ∀ W, Below w.heap.size w W → Rd W (some ⟨ba, off, none⟩) 0 0 ys from fun W hW => by rw [← hys]; exact rd_end (hr.below hW))
  have HYL := Lib.hid (show ys.length = 0 by rw [← hys, List.length_drop, hr.length])
  have KD := Lib.hid (fun W (hW : Below w.heap.size w W) => l1Copy_any (some ⟨ba, off, none⟩) 0 0 ys W (HD.out W hW) (by omega))
  have SS := Lib.hid (show ∀ W, Hid (Below w.heap.size w W) → W.cell? ⟨ba, off + 13, none⟩ = some (.int .u8 y) ∧ Hid (Below w.heap.size w W) from fun W hW => by
    refine ⟨?_, hW⟩
    have := (hW.out.cell (World.block_lt_of_cell? _ _ (hc 13 (by omega)))).trans (hc 13 (by omega))
    rwa [hy] at this)
  rw [hms, hys]
  clear hr hc hy hos hms hys hp0 hp2 hp4 hp8 hp14 hk HD HOs
  have htU : 25 ≠ 5 := by decide
  generalize hn0 : w.heap.size + 1 = n0
  have B0 := Lib.hid ((Below.refl w.heap.size w).alloc (Nat.le_refl _) (.cells #[.int .i64 0, .int .i64 0, .int .i64 0, .int .i64 0, .int .i64 0, .int .i64 0, .int .i64 0, .slice none 0 0] 25))
  have X0 := Lib.hid (Box.new w 25 #[.int .i64 0, .int .i64 0, .int .i64 0, .int .i64 0, .int .i64 0, .int .i64 0, .int .i64 0, .slice none 0 0])
  go_enter Try.func75, Try.ntmps75
  go_wp2_with fail
  refine (KO.out _ B0.out).mono ?_
  rintro e w' ⟨rfl, rfl⟩
  clear KO
  go_wp2_with fail
  have TD := kDrew B0
  refine wp_region_held_drew (S := fun W => W.cell? ⟨ba, off + 13, none⟩ = some (.int .u8 y) ∧ Hid (Below w.heap.size w W)) (by kernel_rfl) (SS.out _ TD) (fun hHeld => ?_)
  refine wpAnyH_take (i := 0) (v := ?_) (by simp only [List.getElem?_toArray, List.getElem?_cons_zero]; exact rfl) (by kernel_rfl) (by kernel_rfl) (by kernel_rfl) (by exact fun _ _ _ h => h) (Or.inl ⟨by rfl, ?_⟩) hHeld ?_
  rotate_left
  · intro w' hSw
    obtain ⟨s0, _⟩ := hSw
    go_simp
    try with_reducible rfl
  try simp only [Act.put, List.setIfInBounds_toArray, List.set_cons_zero, List.set_cons_succ]
  refine wpAnyH_take (i := 2) (v := ?_) (by simp only [List.getElem?_toArray, List.getElem?_cons_zero, List.getElem?_cons_succ]; exact rfl) (by kernel_rfl) (by kernel_rfl) (by kernel_rfl) (by exact fun _ _ _ h => h) (Or.inl ⟨by rfl, ?_⟩) hHeld ?_
  rotate_left
  · intro w' hSw
    obtain ⟨s0, _⟩ := hSw
    go_simp
    try with_reducible rfl
  try simp only [Act.put, List.setIfInBounds_toArray, List.set_cons_zero, List.set_cons_succ]
  refine wpAnyH_take (i := 4) (v := ?_) (by simp only [List.getElem?_toArray, List.getElem?_cons_zero, List.getElem?_cons_succ]; exact rfl) (by kernel_rfl) (by kernel_rfl) (by kernel_rfl) (by exact fun _ _ _ h => h) (Or.inl ⟨by rfl, ?_⟩) hHeld ?_
  rotate_left
  · intro w' hSw
    obtain ⟨s0, _⟩ := hSw
    go_simp
    try with_reducible rfl
  try simp only [Act.put, List.setIfInBounds_toArray, List.set_cons_zero, List.set_cons_succ]
  refine wpAnyH_take (i := 6) (v := ?_) (by simp only [List.getElem?_toArray, List.getElem?_cons_zero, List.getElem?_cons_succ]; exact rfl) (by kernel_rfl) (by kernel_rfl) (by kernel_rfl) (by exact fun _ _ _ h => h) (Or.inl ⟨by rfl, ?_⟩) hHeld ?_
  rotate_left
  · intro w' hSw
    obtain ⟨s0, _⟩ := hSw
    go_simp
    try with_reducible rfl
  try simp only [Act.put, List.setIfInBounds_toArray, List.set_cons_zero, List.set_cons_succ]
  refine wpAnyH_take (i := 8) (v := ?_) (by simp only [List.getElem?_toArray, List.getElem?_cons_zero, List.getElem?_cons_succ]; exact rfl) (by kernel_rfl) (by kernel_rfl) (by kernel_rfl) (by exact fun _ _ _ h => h) (Or.inl ⟨by rfl, ?_⟩) hHeld ?_
  rotate_left
  · intro w' hSw
    obtain ⟨s0, _⟩ := hSw
    go_simp
    try with_reducible rfl
  try simp only [Act.put, List.setIfInBounds_toArray, List.set_cons_zero, List.set_cons_succ]
  refine wpAnyH_take (i := 9) (v := ?_) (by simp only [List.getElem?_toArray, List.getElem?_cons_zero, List.getElem?_cons_succ]; exact rfl) (by kernel_rfl) (by kernel_rfl) (by kernel_rfl) (by exact fun _ _ _ h => h) (Or.inl ⟨by rfl, ?_⟩) hHeld ?_
  rotate_left
  · intro w' hSw
    obtain ⟨s0, _⟩ := hSw
    go_simp
    try with_reducible rfl
  try simp only [Act.put, List.setIfInBounds_toArray, List.set_cons_zero, List.set_cons_succ]
  refine wpAnyH_take (i := 10) (v := ?_) (by simp only [List.getElem?_toArray, List.getElem?_cons_zero, List.getElem?_cons_succ]; exact rfl) (by kernel_rfl) (by kernel_rfl) (by kernel_rfl) (by exact fun _ _ _ h => h) (Or.inl ⟨by rfl, ?_⟩) hHeld ?_
  rotate_left
  · intro w' hSw
    obtain ⟨s0, _⟩ := hSw
    go_simp
    try with_reducible rfl
  try simp only [Act.put, List.setIfInBounds_toArray, List.set_cons_zero, List.set_cons_succ]
  refine wpAnyH_take (i := 11) (v := ?_) (by simp only [List.getElem?_toArray, List.getElem?_cons_zero, List.getElem?_cons_succ]; exact rfl) (by kernel_rfl) (by kernel_rfl) (by kernel_rfl) (by exact fun _ _ _ h => h) (Or.inl ⟨by rfl, ?_⟩) hHeld ?_
  rotate_left
  · intro w' hSw
    obtain ⟨s0, _⟩ := hSw
    go_simp
    try with_reducible rfl
  try simp only [Act.put, List.setIfInBounds_toArray, List.set_cons_zero, List.set_cons_succ]
  refine wpAnyH_take (i := 12) (v := ?_) (by simp only [List.getElem?_toArray, List.getElem?_cons_zero, List.getElem?_cons_succ]; exact rfl) (by kernel_rfl) (by kernel_rfl) (by kernel_rfl) (by exact fun _ _ _ h => h) (Or.inl ⟨by rfl, ?_⟩) hHeld ?_
  rotate_left
  · intro w' hSw
    obtain ⟨s0, _⟩ := hSw
    go_simp
    try with_reducible rfl
  try simp only [Act.put, List.setIfInBounds_toArray, List.set_cons_zero, List.set_cons_succ]
  refine wpAnyH_take (i := 13) (v := ?_) (by simp only [List.getElem?_toArray, List.getElem?_cons_zero, List.getElem?_cons_succ]; exact rfl) (by kernel_rfl) (by kernel_rfl) (by kernel_rfl) (by exact fun _ _ _ h => h) (Or.inl ⟨by rfl, ?_⟩) hHeld ?_
  rotate_left
  · intro w' hSw
    obtain ⟨s0, _⟩ := hSw
    go_simp
    try with_reducible rfl
  try simp only [Act.put, List.setIfInBounds_toArray, List.set_cons_zero, List.set_cons_succ]
  refine wpAnyH_take (i := 15) (v := ?_) (by simp only [List.getElem?_toArray, List.getElem?_cons_zero, List.getElem?_cons_succ]; exact rfl) (by kernel_rfl) (by kernel_rfl) (by kernel_rfl) (by exact fun _ _ _ h => h) (Or.inl ⟨by rfl, ?_⟩) hHeld ?_
  rotate_left
  · intro w' hSw
    obtain ⟨s0, _⟩ := hSw
    go_simp
    try with_reducible rfl
  try simp only [Act.put, List.setIfInBounds_toArray, List.set_cons_zero, List.set_cons_succ]
  refine wpAnyH_take (i := 16) (v := ?_) (by simp only [List.getElem?_toArray, List.getElem?_cons_zero, List.getElem?_cons_succ]; exact rfl) (by kernel_rfl) (by kernel_rfl) (by kernel_rfl) (by exact fun _ _ _ h => h) (Or.inl ⟨by rfl, ?_⟩) hHeld ?_
  rotate_left
  · intro w' hSw
    obtain ⟨s0, _⟩ := hSw
    go_simp
    try with_reducible rfl
  try simp only [Act.put, List.setIfInBounds_toArray, List.set_cons_zero, List.set_cons_succ]
  refine wpAnyH_take (i := 17) (v := ?_) (by simp only [List.getElem?_toArray, List.getElem?_cons_zero, List.getElem?_cons_succ]; exact rfl) (by kernel_rfl) (by kernel_rfl) (by kernel_rfl) (by exact fun _ _ _ h => h) (Or.inl ⟨by rfl, ?_⟩) hHeld ?_
  rotate_left
  · intro w' hSw
    obtain ⟨s0, _⟩ := hSw
    go_simp
    try with_reducible rfl
  try simp only [Act.put, List.setIfInBounds_toArray, List.set_cons_zero, List.set_cons_succ]
  refine wpAnyH_take (i := 18) (v := ?_) (by simp only [List.getElem?_toArray, List.getElem?_cons_zero, List.getElem?_cons_succ]; exact rfl) (by kernel_rfl) (by kernel_rfl) (by kernel_rfl) (by exact fun _ _ _ h => h) (Or.inl ⟨by rfl, ?_⟩) hHeld ?_
  rotate_left
  · intro w' hSw
    obtain ⟨s0, _⟩ := hSw
    go_simp
    try with_reducible rfl
  try simp only [Act.put, List.setIfInBounds_toArray, List.set_cons_zero, List.set_cons_succ]
  refine flow_go (Inv := fun listed ac W => ∃ v8 v20 v22 v24 v26 v33 v38 v39 : Value, ac = { tmps := #[.slice (some ⟨ba, off, none⟩) 20 20, .int .i64 20, _, _, .pointer (some ⟨w.heap.size, 0, none⟩), .int .i64 0, .int .i64 ms, .bool true, v8, _, _, _, _, _, _, _, _, _, _, .slice (some ⟨ba, off, none⟩) 20 20, v20, .slice (some ⟨ba, off, none⟩) 20 20, v22, .slice (some ⟨ba, off, none⟩) 20 20, v24, .slice (some ⟨ba, off, none⟩) 20 20, v26, .slice (some ⟨ba, off, none⟩) 20 20, .pointer (some ⟨ba, off + 13, none⟩), .int .u8 y, .int .i64 y, .int .i64 g, .slice (some ⟨ba, off, none⟩) 20 20, v33, .int .i64 ms, .slice (some ⟨ba, off, none⟩) 20 20, .int .i64 20, .slice (some ⟨ba, off, none⟩) 0 0, v38, v39, _, _, _, _, _, _, _, _, _], defers := [] } ∧ Hid (Below w.heap.size w W) ∧ Hid (∃ vs : Array Value, Box W w.heap.size 25 vs ∧ vs.size = 8) ∧ Fl listed 1 (EqV v20 (.int .i64 p0)) ∧ Fl listed 3 (EqV v22 (.int .i64 p2)) ∧ Fl listed 5 (EqV v24 (.int .i64 p4)) ∧ Fl listed 7 (EqV v26 (.int .i64 p8)) ∧ Fl listed 14 (EqV v33 (.int .i64 p14)) ∧ Fl listed 19 (SlV W n0 v38 (0) ys) ∧ Fl listed 20 (AgV W n0 v39 #[.int .i64 p0, .int .i64 p2, .int .i64 p4, .int .i64 p8, .int .i64 g, .int .i64 p14, .int .i64 ms] (0) ys) ∧ Fl listed 21 (AlV W n0 v8 25 8) ∧ Fl listed 22 (StV W n0 n0 v8 25 #[.int .i64 p0, .int .i64 p2, .int .i64 p4, .int .i64 p8, .int .i64 g, .int .i64 p14, .int .i64 ms] (0) ys ∧ listed.getD 21 false = true)) [1, 3, 5, 7, 14, 19, 20, 21, 22] (by kernel_rfl) (by kernel_rfl) ⟨_, _, _, _, _, _, _, _, rfl, TD, ⟨_, (show Box _ _ _ _ from X0.out), rfl⟩, Fl.not (by kernel_rfl), Fl.not (by kernel_rfl), Fl.not (by kernel_rfl), Fl.not (by kernel_rfl), Fl.not (by kernel_rfl), Fl.not (by kernel_rfl), Fl.not (by kernel_rfl), Fl.not (by kernel_rfl), Fl.not (by kernel_rfl)⟩
    (FlowAll.cons [] (by simp only [List.getElem?_toArray, List.getElem?_cons_zero, List.getElem?_cons_succ]; exact rfl) (by kernel_rfl) (fun listed ac W hI hu hd K hK => ?_)
      (FlowAll.cons [] (by simp only [List.getElem?_toArray, List.getElem?_cons_zero, List.getElem?_cons_succ]; exact rfl) (by kernel_rfl) (fun listed ac W hI hu hd K hK => ?_)
      (FlowAll.cons [] (by simp only [List.getElem?_toArray, List.getElem?_cons_zero, List.getElem?_cons_succ]; exact rfl) (by kernel_rfl) (fun listed ac W hI hu hd K hK => ?_)
      (FlowAll.cons [] (by simp only [List.getElem?_toArray, List.getElem?_cons_zero, List.getElem?_cons_succ]; exact rfl) (by kernel_rfl) (fun listed ac W hI hu hd K hK => ?_)
      (FlowAll.cons [] (by simp only [List.getElem?_toArray, List.getElem?_cons_zero, List.getElem?_cons_succ]; exact rfl) (by kernel_rfl) (fun listed ac W hI hu hd K hK => ?_)
      (FlowAll.cons [] (by simp only [List.getElem?_toArray, List.getElem?_cons_zero, List.getElem?_cons_succ]; exact rfl) (by kernel_rfl) (fun listed ac W hI hu hd K hK => ?_)
      (FlowAll.cons [1, 3, 5, 7, 14, 19] (by simp only [List.getElem?_toArray, List.getElem?_cons_zero, List.getElem?_cons_succ]; exact rfl) (by kernel_rfl) (fun listed ac W hI hu hd K hK => ?_)
      (FlowAll.cons [] (by simp only [List.getElem?_toArray, List.getElem?_cons_zero, List.getElem?_cons_succ]; exact rfl) (by kernel_rfl) (fun listed ac W hI hu hd K hK => ?_)
      (FlowAll.cons [21, 20] (by simp only [List.getElem?_toArray, List.getElem?_cons_zero, List.getElem?_cons_succ]; exact rfl) (by kernel_rfl) (fun listed ac W hI hu hd K hK => ?_)
      FlowAll.nil)))))))))
    (fun listed ac W hI hall => ?_)
  · obtain ⟨v8, v20, v22, v24, v26, v33, v38, v39, rfl, TB, XB, f1, f3, f5, f7, f14, f19, f20, f21, f22⟩ := hI
    obtain ⟨vsR, xR, sR⟩ := XB.out
    have hnW : n0 ≤ W.heap.size := by have := xR.lt; omega
    refine want_none (by exact rfl) ?_
    go_wp2_with fail
    refine (K0.out _ TB.out).mono ?_
    rintro e w' ⟨rfl, rfl⟩
    go_wp2_with fail
    refine hK.out _ _ (SS.out _ TB) ?_
    exact ⟨_, _, _, _, _, _, _, _, rfl, TB, XB, Fl.new (EqV.rfl _), f3.keep (by decide) id, f5.keep (by decide) id, f7.keep (by decide) id, f14.keep (by decide) id, f19.keep (by decide) id, f20.keep (by decide) id, f21.keep (by decide) id, f22.keep (by decide) (fun h => ⟨h.1, getD_set_true h.2⟩)⟩
  · obtain ⟨v8, v20, v22, v24, v26, v33, v38, v39, rfl, TB, XB, f1, f3, f5, f7, f14, f19, f20, f21, f22⟩ := hI
    obtain ⟨vsR, xR, sR⟩ := XB.out
    have hnW : n0 ≤ W.heap.size := by have := xR.lt; omega
    refine want_none (by exact rfl) ?_
    go_wp2_with fail
    refine (K2.out _ TB.out).mono ?_
    rintro e w' ⟨rfl, rfl⟩
    go_wp2_with fail
    refine hK.out _ _ (SS.out _ TB) ?_
    exact ⟨_, _, _, _, _, _, _, _, rfl, TB, XB, f1.keep (by decide) id, Fl.new (EqV.rfl _), f5.keep (by decide) id, f7.keep (by decide) id, f14.keep (by decide) id, f19.keep (by decide) id, f20.keep (by decide) id, f21.keep (by decide) id, f22.keep (by decide) (fun h => ⟨h.1, getD_set_true h.2⟩)⟩
  · obtain ⟨v8, v20, v22, v24, v26, v33, v38, v39, rfl, TB, XB, f1, f3, f5, f7, f14, f19, f20, f21, f22⟩ := hI
    obtain ⟨vsR, xR, sR⟩ := XB.out
    have hnW : n0 ≤ W.heap.size := by have := xR.lt; omega
    refine want_none (by exact rfl) ?_
    go_wp2_with fail
    refine (K4.out _ TB.out).mono ?_
    rintro e w' ⟨rfl, rfl⟩
    go_wp2_with fail
    refine hK.out _ _ (SS.out _ TB) ?_
    exact ⟨_, _, _, _, _, _, _, _, rfl, TB, XB, f1.keep (by decide) id, f3.keep (by decide) id, Fl.new (EqV.rfl _), f7.keep (by decide) id, f14.keep (by decide) id, f19.keep (by decide) id, f20.keep (by decide) id, f21.keep (by decide) id, f22.keep (by decide) (fun h => ⟨h.1, getD_set_true h.2⟩)⟩
  · obtain ⟨v8, v20, v22, v24, v26, v33, v38, v39, rfl, TB, XB, f1, f3, f5, f7, f14, f19, f20, f21, f22⟩ := hI
    obtain ⟨vsR, xR, sR⟩ := XB.out
    have hnW : n0 ≤ W.heap.size := by have := xR.lt; omega
    refine want_none (by exact rfl) ?_
    go_wp2_with fail
    refine (K8.out _ TB.out).mono ?_
    rintro e w' ⟨rfl, rfl⟩
    go_wp2_with fail
    refine hK.out _ _ (SS.out _ TB) ?_
    exact ⟨_, _, _, _, _, _, _, _, rfl, TB, XB, f1.keep (by decide) id, f3.keep (by decide) id, f5.keep (by decide) id, Fl.new (EqV.rfl _), f14.keep (by decide) id, f19.keep (by decide) id, f20.keep (by decide) id, f21.keep (by decide) id, f22.keep (by decide) (fun h => ⟨h.1, getD_set_true h.2⟩)⟩
  · obtain ⟨v8, v20, v22, v24, v26, v33, v38, v39, rfl, TB, XB, f1, f3, f5, f7, f14, f19, f20, f21, f22⟩ := hI
    obtain ⟨vsR, xR, sR⟩ := XB.out
    have hnW : n0 ≤ W.heap.size := by have := xR.lt; omega
    refine want_none (by exact rfl) ?_
    go_wp2_with fail
    refine (K14.out _ TB.out).mono ?_
    rintro e w' ⟨rfl, rfl⟩
    go_wp2_with fail
    refine hK.out _ _ (SS.out _ TB) ?_
    exact ⟨_, _, _, _, _, _, _, _, rfl, TB, XB, f1.keep (by decide) id, f3.keep (by decide) id, f5.keep (by decide) id, f7.keep (by decide) id, Fl.new (EqV.rfl _), f19.keep (by decide) id, f20.keep (by decide) id, f21.keep (by decide) id, f22.keep (by decide) (fun h => ⟨h.1, getD_set_true h.2⟩)⟩
  · obtain ⟨v8, v20, v22, v24, v26, v33, v38, v39, rfl, TB, XB, f1, f3, f5, f7, f14, f19, f20, f21, f22⟩ := hI
    obtain ⟨vsR, xR, sR⟩ := XB.out
    have hnW : n0 ≤ W.heap.size := by have := xR.lt; omega
    refine want_none (by exact rfl) ?_
    go_wp2_with fail
    refine (KD.out _ TB.out).mono ?_
    rintro e w' ⟨a', c', rfl, o', hb0⟩
    go_wp2_with fail
    have hb : Below W.heap.size W _ := hb0
    have TB' := kCall hb (kSize TB) TB
    refine hK.out _ _ (SS.out _ TB') ?_
    exact ⟨_, _, _, _, _, _, _, _, rfl, TB', ⟨_, xR.below hb xR.lt, sR⟩, f1.keep (by decide) (keepE hb), f3.keep (by decide) (keepE hb), f5.keep (by decide) (keepE hb), f7.keep (by decide) (keepE hb), f14.keep (by decide) (keepE hb), Fl.new (⟨_, _, rfl, o'.rebase hnW⟩), f20.keep (by decide) (AgV.below hb), f21.keep (by decide) (AlV.below hb), f22.keep (by decide) (fun h => ⟨StV.below hb h.1, getD_set_true h.2⟩)⟩
  · obtain ⟨v8, v20, v22, v24, v26, v33, v38, v39, rfl, TB, XB, f1, f3, f5, f7, f14, f19, f20, f21, f22⟩ := hI
    obtain ⟨vsR, xR, sR⟩ := XB.out
    have hnW : n0 ≤ W.heap.size := by have := xR.lt; omega
    obtain ⟨rfl⟩ := f1.get (hd 1 (by simp))
    obtain ⟨rfl⟩ := f3.get (hd 3 (by simp))
    obtain ⟨rfl⟩ := f5.get (hd 5 (by simp))
    obtain ⟨rfl⟩ := f7.get (hd 7 (by simp))
    obtain ⟨rfl⟩ := f14.get (hd 14 (by simp))
    obtain ⟨a38, c38, rfl, o38⟩ := f19.get (hd 19 (by simp))
    refine want_none (by exact rfl) ?_
    go_wp2_with fail
    refine hK.out _ _ (SS.out _ TB) ?_
    exact ⟨_, _, _, _, _, _, _, _, rfl, TB, XB, f1.keep (by decide) id, f3.keep (by decide) id, f5.keep (by decide) id, f7.keep (by decide) id, f14.keep (by decide) id, f19.keep (by decide) id, Fl.new (⟨_, _, rfl, o38⟩), f21.keep (by decide) id, f22.keep (by decide) (fun h => ⟨h.1, getD_set_true h.2⟩)⟩
  · obtain ⟨v8, v20, v22, v24, v26, v33, v38, v39, rfl, TB, XB, f1, f3, f5, f7, f14, f19, f20, f21, f22⟩ := hI
    obtain ⟨vsR, xR, sR⟩ := XB.out
    have hnW : n0 ≤ W.heap.size := by have := xR.lt; omega
    refine want_none (by exact rfl) ?_
    go_wp2_with fail
    have hb : Below W.heap.size W _ := bAlloc W (.cells #[.int .i64 0, .int .i64 0, .int .i64 0, .int .i64 0, .int .i64 0, .int .i64 0, .int .i64 0, .slice none 0 0] 25)
    have TB' := kCall hb (kSize TB) TB
    refine hK.out _ _ (SS.out _ TB') ?_
    exact ⟨_, _, _, _, _, _, _, _, rfl, TB', ⟨_, xR.below hb xR.lt, sR⟩, f1.keep (by decide) (keepE hb), f3.keep (by decide) (keepE hb), f5.keep (by decide) (keepE hb), f7.keep (by decide) (keepE hb), f14.keep (by decide) (keepE hb), f19.keep (by decide) (SlV.below hb), f20.keep (by decide) (AgV.below hb), Fl.new (AlV.new hnW rfl), f22.keep (by decide) (fun h => absurd h.2 (by rw [getD_unlisted hu]; simp))⟩
  · obtain ⟨v8, v20, v22, v24, v26, v33, v38, v39, rfl, TB, XB, f1, f3, f5, f7, f14, f19, f20, f21, f22⟩ := hI
    obtain ⟨vsR, xR, sR⟩ := XB.out
    have hnW : n0 ≤ W.heap.size := by have := xR.lt; omega
    obtain ⟨gN, vsN, rfl, hgN, xN, sN⟩ := f21.get (hd 21 (by simp))
    obtain ⟨a39, c39, rfl, o39⟩ := f20.get (hd 20 (by simp))
    refine storeBox_step _ rfl 25 (.tmp 8) (.tmp 39) rfl gN 25 vsN (#[.int .i64 p0, .int .i64 p2, .int .i64 p4, .int .i64 p8, .int .i64 g, .int .i64 p14, .int .i64 ms] ++ #[.slice a39 (0) c39]) xN (by exact rfl) (by exact rfl) (by kernel_rfl) (sN.trans rfl) (by simp [Value.oneCell']) ?_
    intro wS xS gS
    try simp only [Act.put]
    have TB' := kGrownB gS TB (by omega)
    refine hK.out _ _ (SS.out _ TB') ?_
    exact ⟨_, _, _, _, _, _, _, _, rfl, TB', ⟨_, xR.grown gS (by simp only [ne_eq, Option.some.injEq]; omega), sR⟩, f1.keep (by decide) (id), f3.keep (by decide) (id), f5.keep (by decide) (id), f7.keep (by decide) (id), f14.keep (by decide) (id), f19.keep (by decide) (SlV.off xN htU gS), f20.keep (by decide) (AgV.off xN htU gS), f21.keep (by decide) (fun _ => ⟨_, _, rfl, hgN, xS, rfl⟩), Fl.new (⟨⟨_, _, _, rfl, hgN, xS, o39.offBox xN htU gS⟩, getD_set_true (hd 21 (by simp))⟩)⟩
  · obtain ⟨v8, v20, v22, v24, v26, v33, v38, v39, rfl, TB, XB, f1, f3, f5, f7, f14, f19, f20, f21, f22⟩ := hI
    obtain ⟨vsR, xR, sR⟩ := XB.out
    have hnW : n0 ≤ W.heap.size := by have := xR.lt; omega
    obtain ⟨⟨g9, a9, c9, rfl, hg9, x9, o9⟩, _⟩ := f22.get (hall 22 (by decide))
    have X9 : Hid (Box W g9 25 #[.int .i64 p0, .int .i64 p2, .int .i64 p4, .int .i64 p8, .int .i64 g, .int .i64 p14, .int .i64 ms, .slice a9 (0) c9]) := x9
    have O9 := Lib.hid o9
    have R9 := Lib.hid xR
    have SR := Lib.hid sR
    have T9 := TB
    have HG := Lib.hid hg9
    clear x9 o9 xR sR XB hall TB SS hg9 hnW f1 f3 f5 f7 f14 f19 f20 f21 f22 K0 K2 K4 K8 K14 KD
    go_wp2_with fail
    refine (l5Flag_any g9 ⟨p0, p2, p4, p8, g, p14, ms⟩ a9 (0) c9 16 _ X9.out hgb (by omega)).mono ?_
    rintro e w' ⟨rfl, rfl⟩
    cases m16 : flB g 16
    · have c3 := X9.out.cell 3
      have f3 := X9.out.frozen 3
      simp at c3
      have Y9 : Hid (Box (W.setCell ⟨g9, 3, none⟩ (.int .i64 0)) g9 25 #[.int .i64 p0, .int .i64 p2, .int .i64 p4, .int .i64 0, .int .i64 g, .int .i64 p14, .int .i64 ms, .slice a9 (0) c9]) := X9.out.put 3 (.int .i64 0)
      have P9 := Lib.hid (O9.out.grown (grown_setCell W ⟨g9, 3, none⟩ (.int .i64 0)) (fun x hx e => by subst hx; simp only [Option.some.injEq] at e; exact O9.out.ne_box X9.out htU e))
      have Q9 := Lib.hid (R9.out.grown (grown_setCell W ⟨g9, 3, none⟩ (.int .i64 0)) (by have := HG.out; simp only [ne_eq, Option.some.injEq]; omega))
      have U9 := Lib.hid (T9.out.setCell (p := ⟨g9, 3, none⟩) (by have := HG.out; simp only; omega) (.int .i64 0))
      clear X9 O9 R9 T9
      generalize hW : W.setCell ⟨g9, 3, none⟩ (.int .i64 0) = W1 at *
      have X9 := Y9
      have O9 := P9
      have R9 := Q9
      have T9 := U9
      clear Y9 P9 Q9 U9
      go_wp2_with fail
      clear hW
      refine (l5Flag_any g9 ⟨p0, p2, p4, 0, g, p14, ms⟩ a9 (0) c9 2 _ X9.out hgb (by omega)).mono ?_
      rintro e w' ⟨rfl, rfl⟩
      cases m2 : flB g 2
      · have c6 := X9.out.cell 6
        have f6 := X9.out.frozen 6
        simp at c6
        have Y9 : Hid (Box (W1.setCell ⟨g9, 6, none⟩ (.int .i64 0)) g9 25 #[.int .i64 p0, .int .i64 p2, .int .i64 p4, .int .i64 0, .int .i64 g, .int .i64 p14, .int .i64 0, .slice a9 (0) c9]) := X9.out.put 6 (.int .i64 0)
        have P9 := Lib.hid (O9.out.grown (grown_setCell W1 ⟨g9, 6, none⟩ (.int .i64 0)) (fun x hx e => by subst hx; simp only [Option.some.injEq] at e; exact O9.out.ne_box X9.out htU e))
        have Q9 := Lib.hid (R9.out.grown (grown_setCell W1 ⟨g9, 6, none⟩ (.int .i64 0)) (by have := HG.out; simp only [ne_eq, Option.some.injEq]; omega))
        have U9 := Lib.hid (T9.out.setCell (p := ⟨g9, 6, none⟩) (by have := HG.out; simp only; omega) (.int .i64 0))
        clear X9 O9 R9 T9
        generalize hW : W1.setCell ⟨g9, 6, none⟩ (.int .i64 0) = W2 at *
        have X9 := Y9
        have O9 := P9
        have R9 := Q9
        have T9 := U9
        clear Y9 P9 Q9 U9
        have HF : Hid (rsG zs ms = ⟨p0, p2, p4, 0, g, p14, 0⟩) := by rw [HX.out, m16, m2]; rfl
        have KF := Lib.hid (fun W' => specSegmentFault ⟨p0, p2, p4, 0, g, p14, 0⟩ a9 (0) c9 W')
        rw [← HYL.out] at KF
        obtain ⟨C, hC⟩ : ∃ C, C = sgC ⟨p0, p2, p4, 0, g, p14, 0⟩ ys.length := ⟨_, rfl⟩
        rw [← hC] at KF
        have HC : Hid (∀ (e : Ending) (w' : World) (a' : Option Addr) (l' c' : Nat), e = .returned (.tuple #[.agg #[.int .i64 p0, .int .i64 p2, .int .i64 p4, .int .i64 0, .int .i64 g, .int .i64 p14, .int .i64 0, .slice a' l' c'], .int .i64 C]) → Own w' w.heap.size a' l' c' ys → Below w.heap.size w w' → L5Out w ⟨p0, p2, p4, 0, g, p14, 0⟩ ys e w') := fun e w' a' l' c' he ho hb => ⟨a', l', c', by rw [he, hC], ho, hb⟩
        clear hC HX
        have SS := Lib.hid (show ∀ W, Hid (Box W g9 25 #[.int .i64 p0, .int .i64 p2, .int .i64 p4, .int .i64 0, .int .i64 g, .int .i64 p14, .int .i64 0, .slice a9 (0) c9]) → W.cell? ⟨g9, 0, none⟩ = some (.int .i64 p0) ∧ W.cell? ⟨g9, 1, none⟩ = some (.int .i64 p2) ∧ W.cell? ⟨g9, 2, none⟩ = some (.int .i64 p4) ∧ W.cell? ⟨g9, 3, none⟩ = some (.int .i64 0) ∧ W.cell? ⟨g9, 4, none⟩ = some (.int .i64 g) ∧ W.cell? ⟨g9, 5, none⟩ = some (.int .i64 p14) ∧ W.cell? ⟨g9, 6, none⟩ = some (.int .i64 0) ∧ W.cell? ⟨g9, 7, none⟩ = some (.slice a9 (0) c9) from fun W h => h.out.eight.2)
        go_wp2_with fail
        try clear hW
        refine wp_region_held_drew (S := fun W => W.cell? ⟨g9, 0, none⟩ = some (.int .i64 p0) ∧ W.cell? ⟨g9, 1, none⟩ = some (.int .i64 p2) ∧ W.cell? ⟨g9, 2, none⟩ = some (.int .i64 p4) ∧ W.cell? ⟨g9, 3, none⟩ = some (.int .i64 0) ∧ W.cell? ⟨g9, 4, none⟩ = some (.int .i64 g) ∧ W.cell? ⟨g9, 5, none⟩ = some (.int .i64 p14) ∧ W.cell? ⟨g9, 6, none⟩ = some (.int .i64 0) ∧ W.cell? ⟨g9, 7, none⟩ = some (.slice a9 (0) c9)) (by kernel_rfl) (SS.out _ (Lib.hid (show Box W2.drew _ _ _ from X9.out))) (fun hHeld => ?_)
        refine wpAnyH_take (i := 0) (v := ?_) (by simp only [List.getElem?_toArray, List.getElem?_cons_zero]; exact rfl) (by kernel_rfl) (by kernel_rfl) (by kernel_rfl) (by exact fun _ _ _ h => h) (Or.inl ⟨by rfl, ?_⟩) hHeld ?_
        rotate_left
        · intro w' hSw
          obtain ⟨s0, s1, s2, s3, s4, s5, s6, s7⟩ := hSw
          go_simp
          try with_reducible rfl
        try simp only [Act.put, List.setIfInBounds_toArray, List.set_cons_zero, List.set_cons_succ]
        refine wpAnyH_take (i := 1) (v := ?_) (by simp only [List.getElem?_toArray, List.getElem?_cons_zero, List.getElem?_cons_succ]; exact rfl) (by kernel_rfl) (by kernel_rfl) (by kernel_rfl) (by exact fun _ _ _ h => h) (Or.inl ⟨by rfl, ?_⟩) hHeld ?_
        rotate_left
        · intro w' hSw
          obtain ⟨s0, s1, s2, s3, s4, s5, s6, s7⟩ := hSw
          go_simp
          try with_reducible rfl
        try simp only [Act.put, List.setIfInBounds_toArray, List.set_cons_zero, List.set_cons_succ]
        refine wpAnyH_ready (rs := [2]) (by kernel_rfl) (by simp) ?_
        refine (AllReadyH.cons (by simp only [List.getElem?_toArray, List.getElem?_cons_zero, List.getElem?_cons_succ]; exact rfl) (fun K hK => ?_) AllReadyH.nil)
        refine want_none (by exact rfl) ?_
        go_wp2_with fail
        have KF' := KF.out
        rw [HYL.out] at KF'
        refine (KF' _).mono ?_
        rintro e w5 ⟨rfl, b5⟩
        clear KF' KF
        have X5 := Lib.hid ((show Box W2.drew _ _ _ from X9.out).below b5 X9.out.lt)
        have R5 := Lib.hid ((show Box W2.drew _ _ _ from R9.out).below b5 R9.out.lt)
        have O5 := Lib.hid (O9.out.drew.below b5)
        have T5 := Lib.hid (T9.out.drew.trans (b5.mono T9.out.drew.size))
        clear b5 X9 R9 O9 T9
        go_wp2_with fail
        refine hK.out _ _ (SS.out _ X5) (fun hHeld => ?_)
        clear hK K
        try simp only [Act.put, List.setIfInBounds_toArray, List.set_cons_zero, List.set_cons_succ]
        refine wpAnyH_ready (rs := [3]) (by kernel_rfl) (by simp) ?_
        refine (AllReadyH.cons (by simp only [List.getElem?_toArray, List.getElem?_cons_zero, List.getElem?_cons_succ]; exact rfl) (fun K hK => ?_) AllReadyH.nil)
        refine storeBox_step _ rfl 25 (.tmp 4) (.tmp 46) rfl w.heap.size 25 vsR #[.int .i64 p0, .int .i64 p2, .int .i64 p4, .int .i64 0, .int .i64 g, .int .i64 p14, .int .i64 0, .slice a9 (0) c9] R5.out (by exact rfl) (by exact rfl) (by kernel_rfl) (SR.out.trans rfl) (by simp [Value.oneCell']) ?_
        intro wA xwA gwA
        have X6 := Lib.hid (X5.out.grown gwA (by have := HG.out; simp only [ne_eq, Option.some.injEq]; omega))
        have O6 := Lib.hid ((O5.out.grown gwA (by rintro x hx e; have := (O5.out.lt x hx).1; simp only [Option.some.injEq] at e; omega)).rebase (show w.heap.size ≤ n0 by omega))
        have T6 := Lib.hid (T5.out.grown gwA T5.out.size (fun k e => by cases e; exact Nat.le_refl _))
        have XA := Lib.hid xwA
        clear xwA gwA X5 O5 T5 R5
        refine hK.out _ _ (SS.out _ X6) (fun hHeld => ?_)
        clear hK K
        try simp only [Act.put]
        try simp only [Act.put, List.setIfInBounds_toArray, List.set_cons_zero, List.set_cons_succ]
        refine wpAnyH_take (i := 4) (v := ?_) (by simp only [List.getElem?_toArray, List.getElem?_cons_zero, List.getElem?_cons_succ]; exact rfl) (by kernel_rfl) (by kernel_rfl) (by kernel_rfl) (by exact fun _ _ _ h => h) (Or.inl ⟨by rfl, ?_⟩) hHeld ?_
        rotate_left
        · intro w' hSw
          obtain ⟨s0, s1, s2, s3, s4, s5, s6, s7⟩ := hSw
          go_simp
          try with_reducible rfl
        try simp only [Act.put, List.setIfInBounds_toArray, List.set_cons_zero, List.set_cons_succ]
        refine wpAnyH_done (by kernel_rfl) ?_ _
        go_wp2
        obtain ⟨_, q0, q1, q2, q3, q4, q5, q6, q7⟩ := XA.out.eight
        exact bodyPost_ret (v := .tuple #[.agg #[.int .i64 p0, .int .i64 p2, .int .i64 p4, .int .i64 0, .int .i64 g, .int .i64 p14, .int .i64 0, .slice a9 (0) c9], .int .i64 C]) (by simp [results, Try.results75, go_sem, q0, q1, q2, q3, q4, q5, q6, q7]) rfl (by rw [HF.out]; exact HC.out _ _ _ _ _ rfl O6.out T6.out)
      · have HF : Hid (rsG zs ms = ⟨p0, p2, p4, 0, g, p14, ms⟩) := by rw [HX.out, m16, m2]; rfl
        have KF := Lib.hid (fun W' => specSegmentFault ⟨p0, p2, p4, 0, g, p14, ms⟩ a9 (0) c9 W')
        rw [← HYL.out] at KF
        obtain ⟨C, hC⟩ : ∃ C, C = sgC ⟨p0, p2, p4, 0, g, p14, ms⟩ ys.length := ⟨_, rfl⟩
        rw [← hC] at KF
        have HC : Hid (∀ (e : Ending) (w' : World) (a' : Option Addr) (l' c' : Nat), e = .returned (.tuple #[.agg #[.int .i64 p0, .int .i64 p2, .int .i64 p4, .int .i64 0, .int .i64 g, .int .i64 p14, .int .i64 ms, .slice a' l' c'], .int .i64 C]) → Own w' w.heap.size a' l' c' ys → Below w.heap.size w w' → L5Out w ⟨p0, p2, p4, 0, g, p14, ms⟩ ys e w') := fun e w' a' l' c' he ho hb => ⟨a', l', c', by rw [he, hC], ho, hb⟩
        clear hC HX
        have SS := Lib.hid (show ∀ W, Hid (Box W g9 25 #[.int .i64 p0, .int .i64 p2, .int .i64 p4, .int .i64 0, .int .i64 g, .int .i64 p14, .int .i64 ms, .slice a9 (0) c9]) → W.cell? ⟨g9, 0, none⟩ = some (.int .i64 p0) ∧ W.cell? ⟨g9, 1, none⟩ = some (.int .i64 p2) ∧ W.cell? ⟨g9, 2, none⟩ = some (.int .i64 p4) ∧ W.cell? ⟨g9, 3, none⟩ = some (.int .i64 0) ∧ W.cell? ⟨g9, 4, none⟩ = some (.int .i64 g) ∧ W.cell? ⟨g9, 5, none⟩ = some (.int .i64 p14) ∧ W.cell? ⟨g9, 6, none⟩ = some (.int .i64 ms) ∧ W.cell? ⟨g9, 7, none⟩ = some (.slice a9 (0) c9) from fun W h => h.out.eight.2)
        go_wp2_with fail
        try clear hW
        refine wp_region_held_drew (S := fun W => W.cell? ⟨g9, 0, none⟩ = some (.int .i64 p0) ∧ W.cell? ⟨g9, 1, none⟩ = some (.int .i64 p2) ∧ W.cell? ⟨g9, 2, none⟩ = some (.int .i64 p4) ∧ W.cell? ⟨g9, 3, none⟩ = some (.int .i64 0) ∧ W.cell? ⟨g9, 4, none⟩ = some (.int .i64 g) ∧ W.cell? ⟨g9, 5, none⟩ = some (.int .i64 p14) ∧ W.cell? ⟨g9, 6, none⟩ = some (.int .i64 ms) ∧ W.cell? ⟨g9, 7, none⟩ = some (.slice a9 (0) c9)) (by kernel_rfl) (SS.out _ (Lib.hid (show Box W1.drew _ _ _ from X9.out))) (fun hHeld => ?_)
        refine wpAnyH_take (i := 0) (v := ?_) (by simp only [List.getElem?_toArray, List.getElem?_cons_zero]; exact rfl) (by kernel_rfl) (by kernel_rfl) (by kernel_rfl) (by exact fun _ _ _ h => h) (Or.inl ⟨by rfl, ?_⟩) hHeld ?_
        rotate_left
        · intro w' hSw
          obtain ⟨s0, s1, s2, s3, s4, s5, s6, s7⟩ := hSw
          go_simp
          try with_reducible rfl
        try simp only [Act.put, List.setIfInBounds_toArray, List.set_cons_zero, List.set_cons_succ]
        refine wpAnyH_take (i := 1) (v := ?_) (by simp only [List.getElem?_toArray, List.getElem?_cons_zero, List.getElem?_cons_succ]; exact rfl) (by kernel_rfl) (by kernel_rfl) (by kernel_rfl) (by exact fun _ _ _ h => h) (Or.inl ⟨by rfl, ?_⟩) hHeld ?_
        rotate_left
        · intro w' hSw
          obtain ⟨s0, s1, s2, s3, s4, s5, s6, s7⟩ := hSw
          go_simp
          try with_reducible rfl
        try simp only [Act.put, List.setIfInBounds_toArray, List.set_cons_zero, List.set_cons_succ]
        refine wpAnyH_ready (rs := [2]) (by kernel_rfl) (by simp) ?_
        refine (AllReadyH.cons (by simp only [List.getElem?_toArray, List.getElem?_cons_zero, List.getElem?_cons_succ]; exact rfl) (fun K hK => ?_) AllReadyH.nil)
        refine want_none (by exact rfl) ?_
        go_wp2_with fail
        have KF' := KF.out
        rw [HYL.out] at KF'
        refine (KF' _).mono ?_
        rintro e w5 ⟨rfl, b5⟩
        clear KF' KF
        have X5 := Lib.hid ((show Box W1.drew _ _ _ from X9.out).below b5 X9.out.lt)
        have R5 := Lib.hid ((show Box W1.drew _ _ _ from R9.out).below b5 R9.out.lt)
        have O5 := Lib.hid (O9.out.drew.below b5)
        have T5 := Lib.hid (T9.out.drew.trans (b5.mono T9.out.drew.size))
        clear b5 X9 R9 O9 T9
        go_wp2_with fail
        refine hK.out _ _ (SS.out _ X5) (fun hHeld => ?_)
        clear hK K
        try simp only [Act.put, List.setIfInBounds_toArray, List.set_cons_zero, List.set_cons_succ]
        refine wpAnyH_ready (rs := [3]) (by kernel_rfl) (by simp) ?_
        refine (AllReadyH.cons (by simp only [List.getElem?_toArray, List.getElem?_cons_zero, List.getElem?_cons_succ]; exact rfl) (fun K hK => ?_) AllReadyH.nil)
        refine storeBox_step _ rfl 25 (.tmp 4) (.tmp 46) rfl w.heap.size 25 vsR #[.int .i64 p0, .int .i64 p2, .int .i64 p4, .int .i64 0, .int .i64 g, .int .i64 p14, .int .i64 ms, .slice a9 (0) c9] R5.out (by exact rfl) (by exact rfl) (by kernel_rfl) (SR.out.trans rfl) (by simp [Value.oneCell']) ?_
        intro wA xwA gwA
        have X6 := Lib.hid (X5.out.grown gwA (by have := HG.out; simp only [ne_eq, Option.some.injEq]; omega))
        have O6 := Lib.hid ((O5.out.grown gwA (by rintro x hx e; have := (O5.out.lt x hx).1; simp only [Option.some.injEq] at e; omega)).rebase (show w.heap.size ≤ n0 by omega))
        have T6 := Lib.hid (T5.out.grown gwA T5.out.size (fun k e => by cases e; exact Nat.le_refl _))
        have XA := Lib.hid xwA
        clear xwA gwA X5 O5 T5 R5
        refine hK.out _ _ (SS.out _ X6) (fun hHeld => ?_)
        clear hK K
        try simp only [Act.put]
        try simp only [Act.put, List.setIfInBounds_toArray, List.set_cons_zero, List.set_cons_succ]
        refine wpAnyH_take (i := 4) (v := ?_) (by simp only [List.getElem?_toArray, List.getElem?_cons_zero, List.getElem?_cons_succ]; exact rfl) (by kernel_rfl) (by kernel_rfl) (by kernel_rfl) (by exact fun _ _ _ h => h) (Or.inl ⟨by rfl, ?_⟩) hHeld ?_
        rotate_left
        · intro w' hSw
          obtain ⟨s0, s1, s2, s3, s4, s5, s6, s7⟩ := hSw
          go_simp
          try with_reducible rfl
        try simp only [Act.put, List.setIfInBounds_toArray, List.set_cons_zero, List.set_cons_succ]
        refine wpAnyH_done (by kernel_rfl) ?_ _
        go_wp2
        obtain ⟨_, q0, q1, q2, q3, q4, q5, q6, q7⟩ := XA.out.eight
        exact bodyPost_ret (v := .tuple #[.agg #[.int .i64 p0, .int .i64 p2, .int .i64 p4, .int .i64 0, .int .i64 g, .int .i64 p14, .int .i64 ms, .slice a9 (0) c9], .int .i64 C]) (by simp [results, Try.results75, go_sem, q0, q1, q2, q3, q4, q5, q6, q7]) rfl (by rw [HF.out]; exact HC.out _ _ _ _ _ rfl O6.out T6.out)
    · go_wp2_with fail
      refine (l5Flag_any g9 ⟨p0, p2, p4, p8, g, p14, ms⟩ a9 (0) c9 2 _ X9.out hgb (by omega)).mono ?_
      rintro e w' ⟨rfl, rfl⟩
      cases m2 : flB g 2
      · have c6 := X9.out.cell 6
        have f6 := X9.out.frozen 6
        simp at c6
        have Y9 : Hid (Box (W.setCell ⟨g9, 6, none⟩ (.int .i64 0)) g9 25 #[.int .i64 p0, .int .i64 p2, .int .i64 p4, .int .i64 p8, .int .i64 g, .int .i64 p14, .int .i64 0, .slice a9 (0) c9]) := X9.out.put 6 (.int .i64 0)
        have P9 := Lib.hid (O9.out.grown (grown_setCell W ⟨g9, 6, none⟩ (.int .i64 0)) (fun x hx e => by subst hx; simp only [Option.some.injEq] at e; exact O9.out.ne_box X9.out htU e))
        have Q9 := Lib.hid (R9.out.grown (grown_setCell W ⟨g9, 6, none⟩ (.int .i64 0)) (by have := HG.out; simp only [ne_eq, Option.some.injEq]; omega))
        have U9 := Lib.hid (T9.out.setCell (p := ⟨g9, 6, none⟩) (by have := HG.out; simp only; omega) (.int .i64 0))
        clear X9 O9 R9 T9
        generalize hW : W.setCell ⟨g9, 6, none⟩ (.int .i64 0) = W1 at *
        have X9 := Y9
        have O9 := P9
        have R9 := Q9
        have T9 := U9
        clear Y9 P9 Q9 U9
        have HF : Hid (rsG zs ms = ⟨p0, p2, p4, p8, g, p14, 0⟩) := by rw [HX.out, m16, m2]; rfl
        have KF := Lib.hid (fun W' => specSegmentFault ⟨p0, p2, p4, p8, g, p14, 0⟩ a9 (0) c9 W')
        rw [← HYL.out] at KF
        obtain ⟨C, hC⟩ : ∃ C, C = sgC ⟨p0, p2, p4, p8, g, p14, 0⟩ ys.length := ⟨_, rfl⟩
        rw [← hC] at KF
        have HC : Hid (∀ (e : Ending) (w' : World) (a' : Option Addr) (l' c' : Nat), e = .returned (.tuple #[.agg #[.int .i64 p0, .int .i64 p2, .int .i64 p4, .int .i64 p8, .int .i64 g, .int .i64 p14, .int .i64 0, .slice a' l' c'], .int .i64 C]) → Own w' w.heap.size a' l' c' ys → Below w.heap.size w w' → L5Out w ⟨p0, p2, p4, p8, g, p14, 0⟩ ys e w') := fun e w' a' l' c' he ho hb => ⟨a', l', c', by rw [he, hC], ho, hb⟩
        clear hC HX
        have SS := Lib.hid (show ∀ W, Hid (Box W g9 25 #[.int .i64 p0, .int .i64 p2, .int .i64 p4, .int .i64 p8, .int .i64 g, .int .i64 p14, .int .i64 0, .slice a9 (0) c9]) → W.cell? ⟨g9, 0, none⟩ = some (.int .i64 p0) ∧ W.cell? ⟨g9, 1, none⟩ = some (.int .i64 p2) ∧ W.cell? ⟨g9, 2, none⟩ = some (.int .i64 p4) ∧ W.cell? ⟨g9, 3, none⟩ = some (.int .i64 p8) ∧ W.cell? ⟨g9, 4, none⟩ = some (.int .i64 g) ∧ W.cell? ⟨g9, 5, none⟩ = some (.int .i64 p14) ∧ W.cell? ⟨g9, 6, none⟩ = some (.int .i64 0) ∧ W.cell? ⟨g9, 7, none⟩ = some (.slice a9 (0) c9) from fun W h => h.out.eight.2)
        go_wp2_with fail
        try clear hW
        refine wp_region_held_drew (S := fun W => W.cell? ⟨g9, 0, none⟩ = some (.int .i64 p0) ∧ W.cell? ⟨g9, 1, none⟩ = some (.int .i64 p2) ∧ W.cell? ⟨g9, 2, none⟩ = some (.int .i64 p4) ∧ W.cell? ⟨g9, 3, none⟩ = some (.int .i64 p8) ∧ W.cell? ⟨g9, 4, none⟩ = some (.int .i64 g) ∧ W.cell? ⟨g9, 5, none⟩ = some (.int .i64 p14) ∧ W.cell? ⟨g9, 6, none⟩ = some (.int .i64 0) ∧ W.cell? ⟨g9, 7, none⟩ = some (.slice a9 (0) c9)) (by kernel_rfl) (SS.out _ (Lib.hid (show Box W1.drew _ _ _ from X9.out))) (fun hHeld => ?_)
        refine wpAnyH_take (i := 0) (v := ?_) (by simp only [List.getElem?_toArray, List.getElem?_cons_zero]; exact rfl) (by kernel_rfl) (by kernel_rfl) (by kernel_rfl) (by exact fun _ _ _ h => h) (Or.inl ⟨by rfl, ?_⟩) hHeld ?_
        rotate_left
        · intro w' hSw
          obtain ⟨s0, s1, s2, s3, s4, s5, s6, s7⟩ := hSw
          go_simp
          try with_reducible rfl
        try simp only [Act.put, List.setIfInBounds_toArray, List.set_cons_zero, List.set_cons_succ]
        refine wpAnyH_take (i := 1) (v := ?_) (by simp only [List.getElem?_toArray, List.getElem?_cons_zero, List.getElem?_cons_succ]; exact rfl) (by kernel_rfl) (by kernel_rfl) (by kernel_rfl) (by exact fun _ _ _ h => h) (Or.inl ⟨by rfl, ?_⟩) hHeld ?_
        rotate_left
        · intro w' hSw
          obtain ⟨s0, s1, s2, s3, s4, s5, s6, s7⟩ := hSw
          go_simp
          try with_reducible rfl
        try simp only [Act.put, List.setIfInBounds_toArray, List.set_cons_zero, List.set_cons_succ]
        refine wpAnyH_ready (rs := [2]) (by kernel_rfl) (by simp) ?_
        refine (AllReadyH.cons (by simp only [List.getElem?_toArray, List.getElem?_cons_zero, List.getElem?_cons_succ]; exact rfl) (fun K hK => ?_) AllReadyH.nil)
        refine want_none (by exact rfl) ?_
        go_wp2_with fail
        have KF' := KF.out
        rw [HYL.out] at KF'
        refine (KF' _).mono ?_
        rintro e w5 ⟨rfl, b5⟩
        clear KF' KF
        have X5 := Lib.hid ((show Box W1.drew _ _ _ from X9.out).below b5 X9.out.lt)
        have R5 := Lib.hid ((show Box W1.drew _ _ _ from R9.out).below b5 R9.out.lt)
        have O5 := Lib.hid (O9.out.drew.below b5)
        have T5 := Lib.hid (T9.out.drew.trans (b5.mono T9.out.drew.size))
        clear b5 X9 R9 O9 T9
        go_wp2_with fail
        refine hK.out _ _ (SS.out _ X5) (fun hHeld => ?_)
        clear hK K
        try simp only [Act.put, List.setIfInBounds_toArray, List.set_cons_zero, List.set_cons_succ]
        refine wpAnyH_ready (rs := [3]) (by kernel_rfl) (by simp) ?_
        refine (AllReadyH.cons (by simp only [List.getElem?_toArray, List.getElem?_cons_zero, List.getElem?_cons_succ]; exact rfl) (fun K hK => ?_) AllReadyH.nil)
        refine storeBox_step _ rfl 25 (.tmp 4) (.tmp 46) rfl w.heap.size 25 vsR #[.int .i64 p0, .int .i64 p2, .int .i64 p4, .int .i64 p8, .int .i64 g, .int .i64 p14, .int .i64 0, .slice a9 (0) c9] R5.out (by exact rfl) (by exact rfl) (by kernel_rfl) (SR.out.trans rfl) (by simp [Value.oneCell']) ?_
        intro wA xwA gwA
        have X6 := Lib.hid (X5.out.grown gwA (by have := HG.out; simp only [ne_eq, Option.some.injEq]; omega))
        have O6 := Lib.hid ((O5.out.grown gwA (by rintro x hx e; have := (O5.out.lt x hx).1; simp only [Option.some.injEq] at e; omega)).rebase (show w.heap.size ≤ n0 by omega))
        have T6 := Lib.hid (T5.out.grown gwA T5.out.size (fun k e => by cases e; exact Nat.le_refl _))
        have XA := Lib.hid xwA
        clear xwA gwA X5 O5 T5 R5
        refine hK.out _ _ (SS.out _ X6) (fun hHeld => ?_)
        clear hK K
        try simp only [Act.put]
        try simp only [Act.put, List.setIfInBounds_toArray, List.set_cons_zero, List.set_cons_succ]
        refine wpAnyH_take (i := 4) (v := ?_) (by simp only [List.getElem?_toArray, List.getElem?_cons_zero, List.getElem?_cons_succ]; exact rfl) (by kernel_rfl) (by kernel_rfl) (by kernel_rfl) (by exact fun _ _ _ h => h) (Or.inl ⟨by rfl, ?_⟩) hHeld ?_
        rotate_left
        · intro w' hSw
          obtain ⟨s0, s1, s2, s3, s4, s5, s6, s7⟩ := hSw
          go_simp
          try with_reducible rfl
        try simp only [Act.put, List.setIfInBounds_toArray, List.set_cons_zero, List.set_cons_succ]
        refine wpAnyH_done (by kernel_rfl) ?_ _
        go_wp2
        obtain ⟨_, q0, q1, q2, q3, q4, q5, q6, q7⟩ := XA.out.eight
        exact bodyPost_ret (v := .tuple #[.agg #[.int .i64 p0, .int .i64 p2, .int .i64 p4, .int .i64 p8, .int .i64 g, .int .i64 p14, .int .i64 0, .slice a9 (0) c9], .int .i64 C]) (by simp [results, Try.results75, go_sem, q0, q1, q2, q3, q4, q5, q6, q7]) rfl (by rw [HF.out]; exact HC.out _ _ _ _ _ rfl O6.out T6.out)
      · have HF : Hid (rsG zs ms = ⟨p0, p2, p4, p8, g, p14, ms⟩) := by rw [HX.out, m16, m2]; rfl
        have KF := Lib.hid (fun W' => specSegmentFault ⟨p0, p2, p4, p8, g, p14, ms⟩ a9 (0) c9 W')
        rw [← HYL.out] at KF
        obtain ⟨C, hC⟩ : ∃ C, C = sgC ⟨p0, p2, p4, p8, g, p14, ms⟩ ys.length := ⟨_, rfl⟩
        rw [← hC] at KF
        have HC : Hid (∀ (e : Ending) (w' : World) (a' : Option Addr) (l' c' : Nat), e = .returned (.tuple #[.agg #[.int .i64 p0, .int .i64 p2, .int .i64 p4, .int .i64 p8, .int .i64 g, .int .i64 p14, .int .i64 ms, .slice a' l' c'], .int .i64 C]) → Own w' w.heap.size a' l' c' ys → Below w.heap.size w w' → L5Out w ⟨p0, p2, p4, p8, g, p14, ms⟩ ys e w') := fun e w' a' l' c' he ho hb => ⟨a', l', c', by rw [he, hC], ho, hb⟩
        clear hC HX
        have SS := Lib.hid (show ∀ W, Hid (Box W g9 25 #[.int .i64 p0, .int .i64 p2, .int .i64 p4, .int .i64 p8, .int .i64 g, .int .i64 p14, .int .i64 ms, .slice a9 (0) c9]) → W.cell? ⟨g9, 0, none⟩ = some (.int .i64 p0) ∧ W.cell? ⟨g9, 1, none⟩ = some (.int .i64 p2) ∧ W.cell? ⟨g9, 2, none⟩ = some (.int .i64 p4) ∧ W.cell? ⟨g9, 3, none⟩ = some (.int .i64 p8) ∧ W.cell? ⟨g9, 4, none⟩ = some (.int .i64 g) ∧ W.cell? ⟨g9, 5, none⟩ = some (.int .i64 p14) ∧ W.cell? ⟨g9, 6, none⟩ = some (.int .i64 ms) ∧ W.cell? ⟨g9, 7, none⟩ = some (.slice a9 (0) c9) from fun W h => h.out.eight.2)
        go_wp2_with fail
        try clear hW
        refine wp_region_held_drew (S := fun W => W.cell? ⟨g9, 0, none⟩ = some (.int .i64 p0) ∧ W.cell? ⟨g9, 1, none⟩ = some (.int .i64 p2) ∧ W.cell? ⟨g9, 2, none⟩ = some (.int .i64 p4) ∧ W.cell? ⟨g9, 3, none⟩ = some (.int .i64 p8) ∧ W.cell? ⟨g9, 4, none⟩ = some (.int .i64 g) ∧ W.cell? ⟨g9, 5, none⟩ = some (.int .i64 p14) ∧ W.cell? ⟨g9, 6, none⟩ = some (.int .i64 ms) ∧ W.cell? ⟨g9, 7, none⟩ = some (.slice a9 (0) c9)) (by kernel_rfl) (SS.out _ (Lib.hid (show Box W.drew _ _ _ from X9.out))) (fun hHeld => ?_)
        refine wpAnyH_take (i := 0) (v := ?_) (by simp only [List.getElem?_toArray, List.getElem?_cons_zero]; exact rfl) (by kernel_rfl) (by kernel_rfl) (by kernel_rfl) (by exact fun _ _ _ h => h) (Or.inl ⟨by rfl, ?_⟩) hHeld ?_
        rotate_left
        · intro w' hSw
          obtain ⟨s0, s1, s2, s3, s4, s5, s6, s7⟩ := hSw
          go_simp
          try with_reducible rfl
        try simp only [Act.put, List.setIfInBounds_toArray, List.set_cons_zero, List.set_cons_succ]
        refine wpAnyH_take (i := 1) (v := ?_) (by simp only [List.getElem?_toArray, List.getElem?_cons_zero, List.getElem?_cons_succ]; exact rfl) (by kernel_rfl) (by kernel_rfl) (by kernel_rfl) (by exact fun _ _ _ h => h) (Or.inl ⟨by rfl, ?_⟩) hHeld ?_
        rotate_left
        · intro w' hSw
          obtain ⟨s0, s1, s2, s3, s4, s5, s6, s7⟩ := hSw
          go_simp
          try with_reducible rfl
        try simp only [Act.put, List.setIfInBounds_toArray, List.set_cons_zero, List.set_cons_succ]
        refine wpAnyH_ready (rs := [2]) (by kernel_rfl) (by simp) ?_
        refine (AllReadyH.cons (by simp only [List.getElem?_toArray, List.getElem?_cons_zero, List.getElem?_cons_succ]; exact rfl) (fun K hK => ?_) AllReadyH.nil)
        refine want_none (by exact rfl) ?_
        go_wp2_with fail
        have KF' := KF.out
        rw [HYL.out] at KF'
        refine (KF' _).mono ?_
        rintro e w5 ⟨rfl, b5⟩
        clear KF' KF
        have X5 := Lib.hid ((show Box W.drew _ _ _ from X9.out).below b5 X9.out.lt)
        have R5 := Lib.hid ((show Box W.drew _ _ _ from R9.out).below b5 R9.out.lt)
        have O5 := Lib.hid (O9.out.drew.below b5)
        have T5 := Lib.hid (T9.out.drew.trans (b5.mono T9.out.drew.size))
        clear b5 X9 R9 O9 T9
        go_wp2_with fail
        refine hK.out _ _ (SS.out _ X5) (fun hHeld => ?_)
        clear hK K
        try simp only [Act.put, List.setIfInBounds_toArray, List.set_cons_zero, List.set_cons_succ]
        refine wpAnyH_ready (rs := [3]) (by kernel_rfl) (by simp) ?_
        refine (AllReadyH.cons (by simp only [List.getElem?_toArray, List.getElem?_cons_zero, List.getElem?_cons_succ]; exact rfl) (fun K hK => ?_) AllReadyH.nil)
        refine storeBox_step _ rfl 25 (.tmp 4) (.tmp 46) rfl w.heap.size 25 vsR #[.int .i64 p0, .int .i64 p2, .int .i64 p4, .int .i64 p8, .int .i64 g, .int .i64 p14, .int .i64 ms, .slice a9 (0) c9] R5.out (by exact rfl) (by exact rfl) (by kernel_rfl) (SR.out.trans rfl) (by simp [Value.oneCell']) ?_
        intro wA xwA gwA
        have X6 := Lib.hid (X5.out.grown gwA (by have := HG.out; simp only [ne_eq, Option.some.injEq]; omega))
        have O6 := Lib.hid ((O5.out.grown gwA (by rintro x hx e; have := (O5.out.lt x hx).1; simp only [Option.some.injEq] at e; omega)).rebase (show w.heap.size ≤ n0 by omega))
        have T6 := Lib.hid (T5.out.grown gwA T5.out.size (fun k e => by cases e; exact Nat.le_refl _))
        have XA := Lib.hid xwA
        clear xwA gwA X5 O5 T5 R5
        refine hK.out _ _ (SS.out _ X6) (fun hHeld => ?_)
        clear hK K
        try simp only [Act.put]
        try simp only [Act.put, List.setIfInBounds_toArray, List.set_cons_zero, List.set_cons_succ]
        refine wpAnyH_take (i := 4) (v := ?_) (by simp only [List.getElem?_toArray, List.getElem?_cons_zero, List.getElem?_cons_succ]; exact rfl) (by kernel_rfl) (by kernel_rfl) (by kernel_rfl) (by exact fun _ _ _ h => h) (Or.inl ⟨by rfl, ?_⟩) hHeld ?_
        rotate_left
        · intro w' hSw
          obtain ⟨s0, s1, s2, s3, s4, s5, s6, s7⟩ := hSw
          go_simp
          try with_reducible rfl
        try simp only [Act.put, List.setIfInBounds_toArray, List.set_cons_zero, List.set_cons_succ]
        refine wpAnyH_done (by kernel_rfl) ?_ _
        go_wp2
        obtain ⟨_, q0, q1, q2, q3, q4, q5, q6, q7⟩ := XA.out.eight
        exact bodyPost_ret (v := .tuple #[.agg #[.int .i64 p0, .int .i64 p2, .int .i64 p4, .int .i64 p8, .int .i64 g, .int .i64 p14, .int .i64 ms, .slice a9 (0) c9], .int .i64 C]) (by simp [results, Try.results75, go_sem, q0, q1, q2, q3, q4, q5, q6, q7]) rfl (by rw [HF.out]; exact HC.out _ _ _ _ _ rfl O6.out T6.out)

set_option maxRecDepth 20000 in
set_option maxHeartbeats 2000000 in
theorem l5Read_noA (a : Option Addr) (len cap h : Nat) (zs : List Int) (w : World) (hr : Rd w a len cap zs) (h1 : 20 ≤ h) (h2 : h ≤ len) (h3 : len ≤ 560) (hcap : ¬ cap = h) (hk : optK ((zs.drop 20).take (h - 20)) = false) :
    Calls Try.prog 75 #[.slice a len cap, .int .i64 h] w fun e w' => e = .returned (.tuple #[.agg #[.int .i64 0, .int .i64 0, .int .i64 0, .int .i64 0, .int .i64 0, .int .i64 0, .int .i64 0, .slice none 0 0], .int .i64 1]) ∧ Below w.heap.size w w' := by
  have hle := hr.le
  have hmx := hr.max
  unfold maxLen at hmx
  rcases hr.cells with h0 | ⟨ba, off, rfl, hc⟩
  · omega
  have i1 : (20 : Int) ≤ h := by omega
  have i2 : (h : Int) ≤ cap := by omega
  have i3 : (h : Int) ≤ len := by omega
  have i4 : (13 : Int) < len := by omega
  have hc20 : ¬ cap = 20 := by omega
  obtain ⟨os, hos⟩ : ∃ os, (zs.drop 20).take (h - 20) = os := ⟨_, rfl⟩
  rw [hos] at hk
  obtain ⟨ms, hms⟩ : ∃ m, optV os = m := ⟨_, rfl⟩
  have HOs := Lib.hid (show ∀ W, Below w.heap.size w W → Rd W (some ⟨ba, off + 20, none⟩) (h - 20) (cap - 20) os from fun W hW => by rw [← hos]; exact rd_opts (hr.below hW) h1 h2)
  have KO := Lib.hid (show ∀ W, Below w.heap.size w W → Calls Try.prog 105 #[.slice (some ⟨ba, off + 20, none⟩) (h - 20) (cap - 20)] W fun e w' => e = .returned (.tuple #[.int .i64 ms, .bool false]) ∧ W = w' from fun W hW => by
    have := l5Options_any (some ⟨ba, off + 20, none⟩) (h - 20) (cap - 20) os W (HOs.out W hW) (by omega)
    rwa [hms, hk] at this)
  clear hr hc hos hms hk HOs
  have B0 := Lib.hid ((Below.refl w.heap.size w).alloc (Nat.le_refl _) (.cells #[.int .i64 0, .int .i64 0, .int .i64 0, .int .i64 0, .int .i64 0, .int .i64 0, .int .i64 0, .slice none 0 0] 25))
  go_enter Try.func75, Try.ntmps75
  go_wp2_with fail
  refine (KO.out _ B0.out).mono ?_
  rintro e w' ⟨rfl, rfl⟩
  clear KO
  go_wp2
  exact bodyPost_ret (v := .tuple #[.agg #[.int .i64 0, .int .i64 0, .int .i64 0, .int .i64 0, .int .i64 0, .int .i64 0, .int .i64 0, .slice none 0 0], .int .i64 1]) (by simp [results, Try.results75, go_sem]) rfl ⟨rfl, (Below.refl _ _).alloc (Nat.le_refl _) _⟩

set_option maxRecDepth 20000 in
set_option maxHeartbeats 2000000 in
theorem l5Read_noB (a : Option Addr) (h : Nat) (zs : List Int) (w : World) (hr : Rd w a h h zs) (h1 : 20 < h) (h3 : h ≤ 560) (hk : optK ((zs.drop 20).take (h - 20)) = false) :
    Calls Try.prog 75 #[.slice a h h, .int .i64 h] w fun e w' => e = .returned (.tuple #[.agg #[.int .i64 0, .int .i64 0, .int .i64 0, .int .i64 0, .int .i64 0, .int .i64 0, .int .i64 0, .slice none 0 0], .int .i64 1]) ∧ Below w.heap.size w w' := by
  have hle := hr.le
  have hmx := hr.max
  unfold maxLen at hmx
  rcases hr.cells with h0 | ⟨ba, off, rfl, hc⟩
  · omega
  have i1 : (20 : Int) ≤ h := by omega
  have i4 : (13 : Int) < h := by omega
  have hc20 : ¬ h = 20 := by omega
  obtain ⟨os, hos⟩ : ∃ os, (zs.drop 20).take (h - 20) = os := ⟨_, rfl⟩
  rw [hos] at hk
  obtain ⟨ms, hms⟩ : ∃ m, optV os = m := ⟨_, rfl⟩
  have HOs := Lib.hid (show ∀ W, Below w.heap.size w W → Rd W (some ⟨ba, off + 20, none⟩) (h - 20) (h - 20) os from fun W hW => by rw [← hos]; exact rd_opts (hr.below hW) (by omega) (Nat.le_refl _))
  have KO := Lib.hid (show ∀ W, Below w.heap.size w W → Calls Try.prog 105 #[.slice (some ⟨ba, off + 20, none⟩) (h - 20) (h - 20)] W fun e w' => e = .returned (.tuple #[.int .i64 ms, .bool false]) ∧ W = w' from fun W hW => by
    have := l5Options_any (some ⟨ba, off + 20, none⟩) (h - 20) (h - 20) os W (HOs.out W hW) (by omega)
    rwa [hms, hk] at this)
  clear hr hc hos hms hk HOs
  have B0 := Lib.hid ((Below.refl w.heap.size w).alloc (Nat.le_refl _) (.cells #[.int .i64 0, .int .i64 0, .int .i64 0, .int .i64 0, .int .i64 0, .int .i64 0, .int .i64 0, .slice none 0 0] 25))
  go_enter Try.func75, Try.ntmps75
  go_wp2_with fail
  refine (KO.out _ B0.out).mono ?_
  rintro e w' ⟨rfl, rfl⟩
  clear KO
  go_wp2
  exact bodyPost_ret (v := .tuple #[.agg #[.int .i64 0, .int .i64 0, .int .i64 0, .int .i64 0, .int .i64 0, .int .i64 0, .int .i64 0, .slice none 0 0], .int .i64 1]) (by simp [results, Try.results75, go_sem]) rfl ⟨rfl, (Below.refl _ _).alloc (Nat.le_refl _) _⟩

set_option maxRecDepth 20000 in
set_option maxHeartbeats 2000000 in
theorem l5Read_noC (a : Option Addr) (zs : List Int) (w : World) (hr : Rd w a 20 20 zs) (hk : optK ((zs.drop 20).take (20 - 20)) = false) :
    Calls Try.prog 75 #[.slice a 20 20, .int .i64 20] w fun e w' => e = .returned (.tuple #[.agg #[.int .i64 0, .int .i64 0, .int .i64 0, .int .i64 0, .int .i64 0, .int .i64 0, .int .i64 0, .slice none 0 0], .int .i64 1]) ∧ Below w.heap.size w w' := by
  have hle := hr.le
  have hmx := hr.max
  unfold maxLen at hmx
  rcases hr.cells with h0 | ⟨ba, off, rfl, hc⟩
  · omega
  obtain ⟨os, hos⟩ : ∃ os, (zs.drop 20).take (20 - 20) = os := ⟨_, rfl⟩
  rw [hos] at hk
  obtain ⟨ms, hms⟩ : ∃ m, optV os = m := ⟨_, rfl⟩
  have HOs := Lib.hid (show ∀ W, Below w.heap.size w W → Rd W (some ⟨ba, off, none⟩) 0 0 os from fun W hW => by rw [← hos]; have q := rd_end (hr.below hW); rw [List.length_eq_zero_iff.1 (show (zs.drop 20).length = 0 by rw [List.length_drop, hr.length])] at q; simpa using q)
  have KO := Lib.hid (show ∀ W, Below w.heap.size w W → Calls Try.prog 105 #[.slice (some ⟨ba, off, none⟩) 0 0] W fun e w' => e = .returned (.tuple #[.int .i64 ms, .bool false]) ∧ W = w' from fun W hW => by
    have := l5Options_any (some ⟨ba, off, none⟩) 0 0 os W (HOs.out W hW) (by omega)
    rwa [hms, hk] at this)
  clear hr hc hos hms hk HOs
  have B0 := Lib.hid ((Below.refl w.heap.size w).alloc (Nat.le_refl _) (.cells #[.int .i64 0, .int .i64 0, .int .i64 0, .int .i64 0, .int .i64 0, .int .i64 0, .int .i64 0, .slice none 0 0] 25))
  go_enter Try.func75, Try.ntmps75
  go_wp2_with fail
  refine (KO.out _ B0.out).mono ?_
  rintro e w' ⟨rfl, rfl⟩
  clear KO
  go_wp2
  exact bodyPost_ret (v := .tuple #[.agg #[.int .i64 0, .int .i64 0, .int .i64 0, .int .i64 0, .int .i64 0, .int .i64 0, .int .i64 0, .slice none 0 0], .int .i64 1]) (by simp [results, Try.results75, go_sem]) rfl ⟨rfl, (Below.refl _ _).alloc (Nat.le_refl _) _⟩

theorem l5Read_ok (a : Option Addr) (len cap h : Nat) (zs : List Int) (w : World) (hr : Rd w a len cap zs) (h1 : 20 ≤ h) (h2 : h ≤ len) (h3 : len ≤ 560) (hk : optK ((zs.drop 20).take (h - 20)) = true) :
    Calls Try.prog 75 #[.slice a len cap, .int .i64 h] w (L5Out w (rsG zs (optV ((zs.drop 20).take (h - 20)))) (zs.drop h)) := by
  have hle := hr.le
  by_cases hc : cap = h
  · subst hc
    obtain rfl : len = cap := by omega
    by_cases h20 : len = 20
    · subst h20; exact l5Read_okC a zs w hr hk
    · exact l5Read_okB a len zs w hr (by omega) h3 hk
  · exact l5Read_okA a len cap h zs w hr h1 h2 h3 hc hk
theorem l5Read_no (a : Option Addr) (len cap h : Nat) (zs : List Int) (w : World) (hr : Rd w a len cap zs) (h1 : 20 ≤ h) (h2 : h ≤ len) (h3 : len ≤ 560) (hk : optK ((zs.drop 20).take (h - 20)) = false) :
    Calls Try.prog 75 #[.slice a len cap, .int .i64 h] w fun e w' => e = .returned (.tuple #[.agg #[.int .i64 0, .int .i64 0, .int .i64 0, .int .i64 0, .int .i64 0, .int .i64 0, .int .i64 0, .slice none 0 0], .int .i64 1]) ∧ Below w.heap.size w w' := by
  have hle := hr.le
  by_cases hc : cap = h
  · subst hc
    obtain rfl : len = cap := by omega
    by_cases h20 : len = 20
    · subst h20; exact l5Read_noC a zs w hr hk
    · exact l5Read_noB a len zs w hr (by omega) h3 hk
  · exact l5Read_noA a len cap h zs w hr h1 h2 h3 hc hk
end Go.Proofs.Yteaiemckcepphaa
