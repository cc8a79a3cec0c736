/-
  slices.AppendSeq and slices.Collect over maps.Keys of a map of notes; AgeCache's exact law.
-/
import Derived.Maps.AppendAt
import Derived.Test.YtbngdenlplbjhaaC7V
import Derived.Test.YtbngdenlplbjhaaE8L
namespace Go.Proofs.Ytbngdenlplbjhaa
open Go.ChangeShapes Go.WideShapes Go.ChangeAt Go.RowKit Go.Shelf
attribute [local go_sem] Oper.semAt_some

theorem Try.infoNb : (Try.prog.info? 83).map (fun i => (i.zero, i.size, i.bytes)) = some (some (.agg #[.int .i64 0]), 1, 8) := by kernel_rfl
set_option maxRecDepth 100000 in
set_option maxHeartbeats 4000000 in
theorem appendSeq_in (F : Fence) (n : Nat) (hs : F.fn 103) (hk : F.fn 96) (hro : F.round = none) (hn : 3 ≤ n) (bx b : Nat) (t : TypeId) (ns : List Nt) (ms : Array MapEntry) (clock : Nat) (h4 : ns.length ≤ 4) (w : World) (hx : Box w bx t #[.map (some b)]) (hm : Mp w b ns ms clock) :
    CallsIn F n Try.prog 103 #[.slice none 0 0, .func (.func 96) #[] #[.pointer (some ⟨bx, 0, none⟩)]] w fun e w' => ∃ (v : Value) (ss : List Int), e = .returned v ∧ ss.Perm (ns.map (·.i)) ∧ w'.ownsRow w.heap.size 83 1 v ss.length (ss.map (Value.int .i64)) ∧ (v = .slice none 0 0 ↔ ss = []) ∧ Below w.heap.size w w' := by
  have h1 : 1 ≤ n := by omega
  obtain ⟨i0, hi, hz0, hz1, hz2⟩ := info_parts Try.infoNb
  refine callsIn_of_wp_marks Try.func103 rfl hs ?_ hro
  simp only [Try.ntmps103, List.size_toArray, List.length_cons, List.length_nil, Nat.reduceAdd, Nat.reduceSub, Array.replicate_succ, Array.replicate_zero, List.push_toArray, List.append_toArray, List.nil_append, List.cons_append]
  gi_wp2
  obtain ⟨W0, hW0⟩ : ∃ W0, w.alloc (.cells #[.slice none 0 0] 84) = W0 := ⟨_, rfl⟩
  have hv0 : Boxed W0 w.heap.size 84 (.slice none 0 0) := by rw [← hW0]; exact Boxed.new _ _ _
  have hs0 : W0.heap.size = w.heap.size + 1 := by rw [← hW0]; simp
  have hb0 : Below w.heap.size w W0 := by rw [← hW0]; exact (Below.refl _ w).alloc (Nat.le_refl _) _
  rw [hW0]
  have hI : OwnFrom W0.heap.size (fun (pre : List Int) W => (∃ v, Boxed W w.heap.size 84 v ∧ W.ownsRow w.heap.size 83 1 v pre.length (pre.map (Value.int .i64)) ∧ (v = .slice none 0 0 ↔ pre = [])) ∧ Below w.heap.size w W) :=
    OwnFrom.and (_root_.Go.Own.from (holdsRow_own w.heap.size w.heap.size 84 83 1 (fun pre : List Int => pre.length) (fun pre => pre.map (Value.int .i64)) (fun pre v => v = .slice none 0 0 ↔ pre = [])) _) (ownFrom_below (Nat.le_refl _) (by omega))
  refine wpIn_rangeFunc_ownH hro h1 (gf := 96) (lb := #[.pointer (some ⟨bx, 0, none⟩)]) rfl hk (enters_of Try.func96 (by kernel_rfl) rfl)
    (keys_stops7 F (n - 1) hk hro (by omega) bx b t ns ms clock W0 (hx.below hb0 hx.lt) (hm.below hb0)) walksK_t walksK_b (Below.refl _ _) (fun _ => rfl)
    _ (fun _ _ _ => False) hI (fun _ _ _ _ _ hs _ _ => hs)
    ⟨⟨_, hv0, World.ownsRow_nil _ _ _ _, by simp⟩, hb0⟩
    (fun x a' W => ∃ Bx, w.heap.size < Bx ∧ Boxed W Bx 83 (.int .i64 x) ∧ a' = { tmps := #[.slice none 0 0, .func (.func 96) #[] #[.pointer (some ⟨bx, 0, none⟩)], .pointer (some ⟨w.heap.size, 0, none⟩), undef, .slice none 0 0, .pointer (some ⟨Bx, 0, none⟩), .func (.func 96) #[] #[.pointer (some ⟨bx, 0, none⟩)], .agg #[.int .i64 x], undef, undef, undef, undef, undef], defers := [] })
    (fun x a' s X Y row hq hg hrow => by
      obtain ⟨Bx, q1, q2, q3⟩ := hq
      exact ⟨Bx, q1, boxed_own Bx 83 (fun _ : Unit => .int .i64 x) s X Y row q2 hg (fun r e => (hrow r e).2), q3⟩) ?assign ?body ?done ?stop
  case assign =>
    rintro l pre x W K hi hK
    have hlt : w.heap.size < W.heap.size := by obtain ⟨⟨v, hv, _⟩, _⟩ := hi; exact hv.lt
    gi_wp2
    exact hK _ _ ((KeepsOthers.alloc _ _).from _) (KeepsWalks.alloc _ _) (hI.alloc _ hi) ⟨W.heap.size, hlt, Boxed.new W _ _, rfl⟩
  case body =>
    rintro l pre x a' W hl ⟨r, hr⟩ ⟨⟨v, hv, hrow, hnil⟩, hB⟩ ⟨Bx, hBx, bX, rfl⟩ hlt
    have hc := hv.cell
    have hxc := bX.cell
    gi_wp2_with (first
      | (gi_at_builtin; refine wpListIn_append_own _ rfl _ _ 84 rfl w.heap.size 83 i0 (.agg #[.int .i64 0]) 1 8 Try.underlying84 hi hz0 hz1 hz2 rfl (by decide) _ _ _ rfl (hrow.alloc _) ⟨W.heap.size, 0, none⟩ 1 1 [.int .i64 x] rfl rfl (cell_one_new _ _ _) (by simp [Value.oneCell']) (by unfold maxLen; omega) (by omega) (by have := hB.size; simp; omega) ?_; intro v' w1 hown' hgrow _; obtain ⟨g', cap', rfl⟩ := ownsRow_succ hown'; obtain ⟨hv1, hv2, hr2, hk2, hb2⟩ := hv.appended (by decide) hrow hB.size (Nat.le_refl _) hown' hgrow; have hc1 := hv1.cell; have hf1 := hv1.frozen)
      | gi_in)
    exact ⟨hk2.from _, hk2.walks, ⟨⟨_, hv2, by simpa using hr2, by simp⟩, hB.trans hb2⟩⟩
  case done =>
    rintro D ss W hD hS ⟨⟨v, hv, hrow, hnil⟩, hB⟩ hK
    have hc := hv.cell
    gi_wp2
    refine ⟨by simp, .inl ⟨_, _, rfl, run_takeDeferred hK, ?_⟩⟩
    exact ⟨_, results_tmp rfl _ _ _, v, ss, rfl, hS, ownsRow_putObj hrow _ hK rfl, hnil, hB.trans (belowK_b (w := w) (Nat.le_refl _) W D _ _ (by omega) hK rfl rfl)⟩
  case stop =>
    rintro D c pre W _ _ h _
    exact h.elim

set_option maxHeartbeats 2000000 in
theorem collect_in (F : Fence) (n : Nat) (hc : F.fn 94) (hs : F.fn 103) (hk : F.fn 96) (hro : F.round = none) (hn : 4 ≤ n) (bx b : Nat) (t : TypeId) (ns : List Nt) (ms : Array MapEntry) (clock : Nat) (h4 : ns.length ≤ 4) (w : World) (hx : Box w bx t #[.map (some b)]) (hm : Mp w b ns ms clock) :
    CallsIn F n Try.prog 94 #[.func (.func 96) #[] #[.pointer (some ⟨bx, 0, none⟩)]] w fun e w' => ∃ (v : Value) (ss : List Int), e = .returned v ∧ ss.Perm (ns.map (·.i)) ∧ w'.ownsRow w.heap.size 83 1 v ss.length (ss.map (Value.int .i64)) ∧ (v = .slice none 0 0 ↔ ss = []) ∧ Below w.heap.size w w' := by
  have h1 : 1 ≤ n := by omega
  have K := Lib.hid (appendSeq_in F (n - 1) hs hk hro (by omega) bx b t ns ms clock h4 w hx hm)
  refine callsIn_of_wp Try.func94 rfl hc ?_ hro
  simp only [Try.ntmps94, List.size_toArray, List.length_cons, List.length_nil, Nat.reduceAdd, Nat.reduceSub, Array.replicate_succ, Array.replicate_zero, List.push_toArray, List.append_toArray, List.nil_append, List.cons_append]
  gi_wp2_with (gi_at_call 103; refine K.out.mono ?_; rintro e w' ⟨v, ss, rfl, hS, hrow, hnil, hb⟩)
  go_ret
  exact ⟨v, ss, rfl, hS, hrow, hnil, hb⟩

theorem perm_lift {α β : Type} (f : α → β) {l1 l2 : List β} (h : l1.Perm l2) : ∀ ns : List α, ns.map f = l2 → ∃ ps : List α, ps.Perm ns ∧ ps.map f = l1 := by
  induction h with
  | nil => intro ns hn; exact ⟨ns, List.Perm.refl _, hn⟩
  | cons x _ ih =>
    intro ns hn
    cases ns with
    | nil => cases hn
    | cons a ns =>
      simp only [List.map_cons, List.cons.injEq] at hn
      obtain ⟨ps, h1, h2⟩ := ih ns hn.2
      exact ⟨a :: ps, List.Perm.cons a h1, by rw [List.map_cons, h2, hn.1]⟩
  | swap x y l =>
    intro ns hn
    match ns, hn with
    | a :: c :: ns, hn =>
      simp only [List.map_cons, List.cons.injEq] at hn
      exact ⟨c :: a :: ns, List.Perm.swap a c ns, by simp [hn.1, hn.2.1, hn.2.2]⟩
  | trans _ _ ih1 ih2 =>
    intro ns hn
    obtain ⟨ps2, h1, h2⟩ := ih2 ns hn
    obtain ⟨ps1, h3, h4⟩ := ih1 ps2 h2
    exact ⟨ps1, h3.trans h1, h4⟩

theorem colC : ColC := by
  intro W bx b ns ms clock hx hm h4
  refine ((callsIn_wide (n := 4)).1 (collect_in Fence.wide 4 trivial trivial trivial rfl (by omega) bx b _ ns ms clock h4 W hx hm)).mono ?_
  rintro e w' ⟨v, ss, rfl, hS, hrow, hnil, hb⟩
  obtain ⟨ps, h1, h2⟩ := perm_lift (·.i) hS ns rfl
  have hl : ss.length = ps.length := by rw [← h2, List.length_map]
  refine ⟨ps, h1, ?_, hb⟩
  rcases hrow.2 with ⟨rfl, h0⟩ | ⟨g, cap, cur, rfl, _⟩
  · left
    have : ss = [] := hnil.1 rfl
    subst this
    exact ⟨by simpa using h2, rfl⟩
  · right
    rw [hl] at hrow
    refine ⟨g, cap, by rw [hl], ⟨?_⟩⟩
    have e : ps.map (fun q => Value.int .i64 q.i) = ss.map (Value.int .i64) := by rw [← h2, List.map_map]; rfl
    rw [e]
    exact hrow

theorem agV_len (es : List En) (t : Int) : (agV es t).length ≤ es.length := by
  unfold agV
  split
  · exact List.length_filter_le _ _
  · simp
end Go.Proofs.Ytbngdenlplbjhaa
