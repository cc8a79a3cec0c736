/-
  The neighbours of a map of notes in the order of their places: the comparison, maps.Keys, the sort of a short list.
-/
import Derived.Test.YtbngdenlplbjhaaC7H
import Derived.Test.YtbngdenlplbjhaaP6N
namespace Go.Proofs.Ytbngdenlplbjhaa
open Go.ChangeShapes Go.WideShapes Go.ChangeAt Go.RowKit
open Go.ChangeMaps (setBlock)

theorem isNaNI_any (x : Int) (w : World) : Calls Try.prog 93 #[.int .i64 x] w fun e w' => e = .returned (.bool false) ∧ w = w' := by
  have h : (x != x) = false := by simp
  go_enter Try.func93, Try.ntmps93
  go_wp2
  go_ret
  exact ⟨rfl, rfl⟩
theorem compareI_any (x y : Int) (w : World) : Calls Try.prog 77 #[.int .i64 x, .int .i64 y] w fun e w' => e = .returned (.int .i64 (cmpI x y)) ∧ w = w' := by
  have K := Lib.hid (fun z W => isNaNI_any z W)
  by_cases h1 : x < y
  · have H : Hid (cmpI x y = -1) := if_pos h1
    rw [H.out]
    clear H
    go_enter Try.func77, Try.ntmps77
    go_wp2_with fail
    refine (K.out _ _).mono ?_
    rintro e w1 ⟨rfl, rfl⟩
    go_wp2_with fail
    refine (K.out _ _).mono ?_
    rintro e w1 ⟨rfl, rfl⟩
    go_wp2
    go_ret
    exact ⟨rfl, rfl⟩
  · by_cases h2 : y < x
    · have H : Hid (cmpI x y = 1) := by unfold cmpI; rw [if_neg h1, if_pos h2]; rfl
      rw [H.out]
      clear H
      go_enter Try.func77, Try.ntmps77
      go_wp2_with fail
      refine (K.out _ _).mono ?_
      rintro e w1 ⟨rfl, rfl⟩
      go_wp2_with fail
      refine (K.out _ _).mono ?_
      rintro e w1 ⟨rfl, rfl⟩
      go_wp2
      go_ret
      exact ⟨rfl, rfl⟩
    · have H : Hid (cmpI x y = 0) := by unfold cmpI; rw [if_neg h1, if_neg h2]; rfl
      rw [H.out]
      clear H
      go_enter Try.func77, Try.ntmps77
      go_wp2_with fail
      refine (K.out _ _).mono ?_
      rintro e w1 ⟨rfl, rfl⟩
      go_wp2_with fail
      refine (K.out _ _).mono ?_
      rintro e w1 ⟨rfl, rfl⟩
      go_wp2
      go_ret
      exact ⟨rfl, rfl⟩

theorem field_nt2 (w : World) (m u p : Int) : (Instr.field 87 (.agg #[.int .i64 m, .int .i64 u, .int .i64 p]) 2).run Try.prog w = .ok (.int .i64 p) w := by
  simp [Instr.field, asAgg, go_sem]
/-- what the comparison reads -/
structure Cx (W : World) (bx b : Nat) (t : TypeId) (ns : List Nt) (ms : Array MapEntry) (clock g h : Nat) (i j : Int) : Prop where
  x : Box W bx t #[.map (some b)]
  m : Mp W b ns ms clock
  g : Box W g 83 #[.int .i64 i]
  h : Box W h 83 #[.int .i64 j]
theorem Cx.drew {W : World} {bx b : Nat} {t : TypeId} {ns : List Nt} {ms : Array MapEntry} {clock g h : Nat} {i j : Int} (c : Cx W bx b t ns ms clock g h i j) : Cx W.drew bx b t ns ms clock g h i j :=
  have d := (Below.refl W.heap.size W).drew
  ⟨c.x.below d c.x.lt, c.m.below d, c.g.below d c.g.lt, c.h.below d c.h.lt⟩
set_option maxRecDepth 20000 in
set_option maxHeartbeats 2000000 in
theorem cmpN_any (bx b : Nat) (t : TypeId) (ns : List Nt) (ms : Array MapEntry) (clock : Nat) (p q : Nt) (w : World) (hx : Box w bx t #[.map (some b)]) (hm : Mp w b ns ms clock) (hp : p ∈ ns) (hq : q ∈ ns) :
    Calls Try.prog 76 #[.agg #[.int .i64 p.i], .agg #[.int .i64 q.i], .pointer (some ⟨bx, 0, none⟩)] w fun e w' => e = .returned (.int .i64 (cmpI p.p q.p)) ∧ Below w.heap.size w w' := by
  have B0 := Lib.hid (((Below.refl w.heap.size w).alloc (Nat.le_refl _) (.cells #[.int .i64 p.i] 83)).alloc (by simp) (.cells #[.int .i64 q.i] 83))
  have C0 : Hid (Cx ((w.alloc (.cells #[.int .i64 p.i] 83)).alloc (.cells #[.int .i64 q.i] 83)) bx b t ns ms clock w.heap.size (w.heap.size + 1) p.i q.i) := ⟨hx.below B0.out hx.lt, hm.below B0.out, (Box.new w 83 #[.int .i64 p.i]).alloc (.cells #[.int .i64 q.i] 83), by have := Box.new (w.alloc (.cells #[.int .i64 p.i] 83)) 83 #[.int .i64 q.i]; simpa using this⟩
  have fn := fun W m u p => field_nt2 W m u p
  have K := Lib.hid (fun W => compareI_any p.p q.p W)
  have HP := Lib.hid hp
  have HQ := Lib.hid hq
  clear hx hm hp hq
  obtain ⟨pi, pm, pu, pp⟩ := p
  obtain ⟨qi, qm, qu, qp⟩ := q
  simp only at *
  go_enter Try.func76, Try.ntmps76
  go_wp2_with fail
  generalize (w.alloc (.cells #[.int .i64 pi] 83)).alloc (.cells #[.int .i64 qi] 83) = W0 at *
  generalize w.heap.size + 1 = g2 at *
  generalize hg1 : w.heap.size = g1 at *
  have SS := Lib.hid (show ∀ W, Hid (Cx W bx b t ns ms clock g1 g2 pi qi) → (W.cell? ⟨bx, 0, none⟩ = some (.map (some b)) ∧ W.cell? ⟨g1, 0, none⟩ = some (.int .i64 pi) ∧ W.cell? ⟨g2, 0, none⟩ = some (.int .i64 qi) ∧ (Instr.lookup 80 (.map (some b)) (.agg #[.int .i64 pi]) false).run Try.prog W = .ok (.agg #[.int .i64 pm, .int .i64 pu, .int .i64 pp]) W ∧ (Instr.lookup 80 (.map (some b)) (.agg #[.int .i64 qi]) false).run Try.prog W = .ok (.agg #[.int .i64 qm, .int .i64 qu, .int .i64 qp]) W ∧ Hid (Cx W bx b t ns ms clock g1 g2 pi qi)) from fun W c => ⟨c.out.x.cell 0, c.out.g.cell 0, c.out.h.cell 0, c.out.m.get HP.out, c.out.m.get HQ.out, c⟩)
  have C1 : Hid (Cx W0.drew bx b t ns ms clock g1 g2 pi qi) := C0.out.drew
  have C2 : Hid (Cx W0.drew.drew bx b t ns ms clock g1 g2 pi qi) := C0.out.drew.drew
  obtain ⟨x0, x1, x2, l1, l2, _⟩ := SS.out _ C1
  go_region_held3 (fun W => W.cell? ⟨bx, 0, none⟩ = some (.map (some b)) ∧ W.cell? ⟨g1, 0, none⟩ = some (.int .i64 pi) ∧ W.cell? ⟨g2, 0, none⟩ = some (.int .i64 qi) ∧ (Instr.lookup 80 (.map (some b)) (.agg #[.int .i64 pi]) false).run Try.prog W = .ok (.agg #[.int .i64 pm, .int .i64 pu, .int .i64 pp]) W ∧ (Instr.lookup 80 (.map (some b)) (.agg #[.int .i64 qi]) false).run Try.prog W = .ok (.agg #[.int .i64 qm, .int .i64 qu, .int .i64 qp]) W ∧ Hid (Cx W bx b t ns ms clock g1 g2 pi qi))
    (first
      | (go_split_ands; refine SS.out _ ?_; (with_reducible assumption))
      | (go_split_ands; refine SS.out _ ?_; exact C2))
    (first | (go_at_call 77; refine (K.out _).mono ?_; rintro e w3 ⟨rfl, rfl⟩))
  all_goals
    clear x0 x1 x2 l1 l2 SS C0 C1 C2 K fn
    go_wp2
    go_ret
    first
      | exact ⟨rfl, B0.out.drew⟩
      | exact ⟨rfl, by rw [hg1]; exact B0.out.drew⟩

theorem keysOf_any (b : Nat) (w : World) : Calls Try.prog 79 #[.map (some b)] w fun e w' => e = .returned (.func (.func 96) #[] #[.pointer (some ⟨w.heap.size, 0, none⟩)]) ∧ Box w' w.heap.size 80 #[.map (some b)] ∧ Below w.heap.size w w' := by
  have X0 := Lib.hid (Box.new w 80 #[.map (some b)])
  have B0 := Lib.hid ((Below.refl w.heap.size w).alloc (Nat.le_refl _) (.cells #[.map (some b)] 80))
  go_enter Try.func79, Try.ntmps79
  go_wp2
  go_ret
  exact ⟨rfl, X0.out, B0.out⟩
end Go.Proofs.Ytbngdenlplbjhaa
