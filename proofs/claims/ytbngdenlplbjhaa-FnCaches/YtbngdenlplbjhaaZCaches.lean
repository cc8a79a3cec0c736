/-
  Lists of entries that a call owns, with the room behind them (EC); l7Learn of the model, with its room; a list appended to itself.
  Draws of caches: l7Draw, l7Bent.
  Draws of caches: l7Bent, DrawLearnEntry, DrawFindEntry, DrawAgeCache, DrawSameCaches.
  DrawLearnEntry, DrawFindEntry, DrawAgeCache, DrawSameCaches.
  FnCaches by values: what is found as a function of the list; what was learned is found; what is old goes.
-/
import Derived.Test.YtbngdenlplbjhaaC7Z
import Derived.Test.YtbngdenlplbjhaaPick
import Derived.Test.YtbngdenlplbjhaaC7M
namespace Go.Proofs.Ytbngdenlplbjhaa
open Go.ChangeShapes Go.WideShapes Go.ChangeAt Go.RowKit

/-- as EO, and the cells of the whole array are there -/
structure EC (w : World) (lo hi : Nat) (a : Option Addr) (len cap : Nat) (es : List En) : Prop where
  eo : EO w lo hi a len cap es
  room : ∀ b off, a = some ⟨b, off, none⟩ → ∀ j, j < cap * 3 → (w.cell? ⟨b, off + j, none⟩).isSome = true
theorem EC.keep {w w' : World} {lo hi : Nat} {a : Option Addr} {len cap : Nat} {es : List En} (h : EC w lo hi a len cap es) (hb : ∀ k, lo ≤ k → k < hi → k < w.heap.size → w'.heap[k]? = w.heap[k]?) : EC w' lo hi a len cap es := by
  refine ⟨h.eo.keep hb, fun b off ha j hj => ?_⟩
  have h1 := h.eo.blk _ ha
  have h2 := h.eo.fz ⟨b, off, none⟩ ha
  have h3 : b < w.heap.size := by obtain ⟨cs, t, e⟩ := h2; exact (Array.getElem?_eq_some_iff.1 e).1
  rw [same_cell (p := ⟨b, off + j, none⟩) (hb b h1.1 h1.2 h3)]
  exact h.room b off ha j hj
theorem EC.below {w w' : World} {lo hi : Nat} {a : Option Addr} {len cap : Nat} {es : List En} (h : EC w lo hi a len cap es) (hb : Below w.heap.size w w') : EC w' lo hi a len cap es := h.keep fun k _ _ hk => hb.block k hk
theorem EC.mono {w : World} {lo hi lo' hi' : Nat} {a : Option Addr} {len cap : Nat} {es : List En} (h : EC w lo hi a len cap es) (h1 : lo' ≤ lo) (h2 : hi ≤ hi') : EC w lo' hi' a len cap es := ⟨h.eo.mono h1 h2, h.room⟩
theorem EC.off {w w' : World} {lo hi : Nat} {a : Option Addr} {len cap : Nat} {es : List En} (h : EC w lo hi a len cap es) {b : Nat} (hg : w.grownBy w' (some b)) (hb : b < lo) : EC w' lo hi a len cap es :=
  h.keep fun k h1 _ hk => hg.block k hk (by simp; omega)
theorem Lw.caps {w : World} {base g : Nat} {len cap : Nat} {es : List En} (h : Lw w base (some ⟨g, 0, none⟩) len cap es) : ∀ j, j < cap * 3 → (w.cell? ⟨g, j, none⟩).isSome = true := by
  intro j hj
  rcases h.row.2 with ⟨h1, _⟩ | ⟨g', c, cur, h1, h2, h3, h4, h5, h6, h7⟩
  · cases h1
  · simp only [Value.slice.injEq, true_and] at h1
    obtain ⟨h1, rfl⟩ := h1
    cases h1
    rw [cell_of_row w g j cur _ (0, 0) h3, Array.getElem?_eq_getElem (by omega)]
    rfl
theorem Lw.ec {w : World} {base hi : Nat} {a : Option Addr} {len cap : Nat} {es : List En} (h : Lw w base a len cap es) (hh : ∀ x, a = some x → x.block < hi) : EC w base hi a len cap es := by
  refine ⟨h.eo hh, fun b off ha j hj => ?_⟩
  rcases h.shape with ⟨rfl, _⟩ | ⟨g, rfl⟩
  · cases ha
  · cases ha
    rw [Nat.zero_add]
    exact h.caps j hj
theorem Lw.behindC {w : World} {base g n cap : Nat} {es : List En} (h : Lw w base (some ⟨g, 0, none⟩) (n + 1) (cap + 1) es) : EC w base w.heap.size (some ⟨g, 3, none⟩) n cap (es.drop 1) := by
  refine ⟨h.behind, fun b off ha j hj => ?_⟩
  cases ha
  exact h.caps _ (by omega)
def EsOutC (w : World) (es : List En) (e : Ending) (w' : World) : Prop :=
  ∃ a len cap, e = .returned (.slice a len cap) ∧ EC w' w.heap.size w'.heap.size a len cap es ∧ Below w.heap.size w w'
theorem run_append_behindC (w : World) (ty : TypeId) (base g n cap : Nat) (es : List En) (hown : Lw w base (some ⟨g, 0, none⟩) (n + 1) (cap + 1) es)
    (x : Addr) (e : En) (hr : Le w (some x) 1 1 [e]) (hb : base ≤ w.heap.size) (hsz : n ≤ 1000) :
    ∃ a' c' w', (Builtin.append_ #[24, 24] ty #[.slice (some ⟨g, 3, none⟩) n cap, .slice (some x) 1 1]).run Try.prog w = .ok (.slice a' (n + 1) c') w' ∧ EC w' base w'.heap.size a' (n + 1) c' (es.drop 1 ++ [e]) ∧ Below base w w' := by
  obtain ⟨i0, hi, hz0, hz1, hz2⟩ := info_parts Try.infoEntry
  have hl := hown.length
  have hflat : ∀ j u, (cellsE [e])[j]? = some u → w.cell? (x.add j) = some u := by
    rcases hr.cells with h0 | ⟨bb, off, e', hc⟩
    · omega
    · cases e'
      exact hr.flat
  have hn3 : (cellsE [e]).length = 1 * i0.size := by rw [cellsE_len, hz1]; rfl
  by_cases hg : cap < n + 1
  · have hdl : (cellsE (es.drop 1)).length = n * 3 := by rw [cellsE_len, List.length_drop]; omega
    obtain ⟨v', w', hrun, ho', hgr⟩ := run_append_arg_grows (P := Try.prog) (w := w) 24 ty 43 i0 (.agg #[.int .i64 0, .int .i64 0, .int .i64 0]) 3 24 Try.underlying24 hi hz0 hz1 hz2 rfl (by decide) ⟨g, 3, none⟩ n cap (cellsE (es.drop 1)) hdl (hown.behind.le.flat) x 1 1 (cellsE [e]) (by rw [cellsE_len]; rfl) hflat hg (by unfold maxLen; omega) (by omega)
    rw [← cellsE_app] at ho'
    rcases ho'.2 with ⟨_, h0⟩ | ⟨g', c, cur, rfl, _⟩
    · omega
    · have hL : Lw w' w.heap.size (some ⟨g', 0, none⟩) (n + 1) c (es.drop 1 ++ [e]) := ⟨ho'⟩
      exact ⟨_, c, w', hrun, (hL.ec (fun x hx => (hL.lt x hx).2)).mono hb (Nat.le_refl _), below_of_grown hgr hb (by simp)⟩
  · have hroom : n + 1 ≤ cap := by omega
    obtain ⟨cur, hg1, hcs⟩ : ∃ cur, w.heap[g]? = some (.cells cur 43 (0, 0)) ∧ cur.size = (cap + 1) * 3 := by
      rcases hown.row.2 with ⟨h1, _⟩ | ⟨g', c, cur, h1, h2, h3, h4, h5, h6, h7⟩
      · cases h1
      · simp only [Value.slice.injEq, true_and] at h1
        obtain ⟨h1, rfl⟩ := h1
        cases h1
        exact ⟨cur, h3, h6⟩
    have hcell : ∀ j, j < (cap + 1) * 3 → (w.cell? ⟨g, j, none⟩).isSome = true := fun j hj => by
      rw [cell_of_row w g j cur _ (0, 0) hg1, Array.getElem?_eq_getElem (by omega)]; rfl
    have hfz : ∀ j, w.frozen? ⟨g, j, none⟩ = false := fun j => frozen_of_row w g j cur _ hg1
    have hA := run_append_room_cells (P := Try.prog) (w := w) (ty := ty) 24 43 i0 Try.underlying24 hi g 3 n cap x 1 1 (cellsE [e]) hn3 hflat (cellsE_one _) hroom
      (fun j hj => by rw [hn3, hz1] at hj; rw [hz1]; exact hcell _ (by omega)) (fun j _ => hfz _)
    have hB := run_append_room_cells (P := Try.prog) (w := w) (ty := ty) 24 43 i0 Try.underlying24 hi g 0 (n + 1) (cap + 1) x 1 1 (cellsE [e]) hn3 hflat (cellsE_one _) (by omega)
      (fun j hj => by rw [hn3, hz1] at hj; rw [hz1]; exact hcell _ (by omega)) (fun j _ => hfz _)
    obtain ⟨a', c', w', hrun, ho', hg'⟩ := run_append_entries w ty base (some ⟨g, 0, none⟩) (n + 1) (cap + 1) es hown (some x) 1 1 [e] hr hb (by omega)
    rw [hB] at hrun
    have e1 : 0 + (n + 1) * i0.size = 3 + n * i0.size := by rw [hz1]; omega
    simp only [Result.ok.injEq, Value.slice.injEq] at hrun
    obtain ⟨⟨rfl, _, rfl⟩, hw⟩ := hrun
    rw [e1] at hw
    rw [hw] at hA
    have hq := ho'.behindC
    rw [List.drop_append_of_le_length (by omega)] at hq
    exact ⟨_, _, w', hA, hq, below_of_grown hg' hb (by intro k hk; simp [Value.ownBlock] at hk; subst hk; exact (hown.lt _ rfl).1)⟩
theorem append_behindC (w : World) {ops : Array Oper} {rest : List Oper} {o : Oper} {ac : Act} {Q : Exit → Act → World → Prop} (hgd : o.guard = none) (s y : Operand)
    (ho : o.op = .call { callee := .builtin .append, args := #[s, y], argTypes := #[24, 24] })
    (base g n cap : Nat) (es : List En) (hs : ac.eval s = .slice (some ⟨g, 3, none⟩) n cap) (hown : Lw w base (some ⟨g, 0, none⟩) (n + 1) (cap + 1) es)
    (x : Addr) (e : En) (hx : ac.eval y = .slice (some x) 1 1) (hr : Le w (some x) 1 1 [e]) (hb : base ≤ w.heap.size) (hsz : n ≤ 1000)
    (h : ∀ a' c' w', EC w' base w'.heap.size a' (n + 1) c' (es.drop 1 ++ [e]) → Below base w w' → wpList Try.prog ops Q rest (ac.put o.dst (.slice a' (n + 1) c')) w') : wpList Try.prog ops Q (o :: rest) ac w := by
  obtain ⟨a', c', w', hrun, ho', hg⟩ := run_append_behindC w o.type base g n cap es hown x e hr hb hsz
  refine wpList_plain hgd fun K hK => ?_
  unfold Oper.wp execOp
  simp only [ho, resolve, invoke, builtin, Sem.run_bind, Sem.run_pure, Result.andThen_ok, List.map_toArray, List.map_cons, List.map_nil, hs, hx, hrun]
  exact hK _ _ (h a' c' w' ho' hg)

set_option maxHeartbeats 4000000 in
theorem l7LearnC_any (a : Option Addr) (len cap : Nat) (es : List En) (x m t : Int) (w : World) (h : Le w a len cap es) (hl : len ≤ 4) (ht : 0 ≤ t ∧ t ≤ 100000000) :
    Calls Try.prog 50 #[.slice a len cap, .int .i64 x, .int .i64 m, .int .i64 t] w (EsOutC w (lnE x m t es)) := by
  have HP := Lib.hid h
  have HL := Lib.hid h.length
  have L0 := Lib.hid (lw_lit w w.heap.size (Nat.le_refl _))
  have B0 := Lib.hid ((Below.refl w.heap.size w).alloc (Nat.le_refl _) (.cells #[] 43))
  clear h
  go_enter Try.func50, Try.ntmps50
  go_wp2
  go_loopw [9, 10] (fun o i wr => ∃ (k : Nat) (a1 : Option Addr) (n1 c1 : Nat), k ≤ len ∧ i = .int .i64 k ∧ o = .slice a1 n1 c1 ∧ n1 ≤ k ∧ Hid (Lw wr w.heap.size a1 n1 c1 (noE x (es.take k))) ∧ Hid (Below w.heap.size w wr)) (fun _ i _ => len - (intOf i).toNat)
  case atStart => exact ⟨0, _, 0, _, Nat.zero_le _, rfl, rfl, Nat.le_refl _, L0.out, B0.out⟩
  case round =>
    obtain ⟨k, a1, n1, c1, hk, rfl, rfl, hn, hL, hB⟩ := hrel
    clear L0 B0
    by_cases hlt : k < len
    · obtain ⟨b, off, e, rfl, hp, c0, c1', c2⟩ := (HP.out.below hB.out).at hlt
      have hv := noE_succ x hp
      clear hp
      obtain ⟨ei, em, eu⟩ := e
      simp only at c0 c1' c2 hv
      by_cases hc : ei ≠ x
      · rw [if_pos hc] at hv
        have HV := Lib.hid hv
        have e0 : (ei != x) = true := by simpa using hc
        clear hv hc
        have LA := Lib.hid (hL.out.alloc (.cells #[.int .i64 ei, .int .i64 em, .int .i64 eu] 43))
        have XA := Lib.hid (le_box ⟨ei, em, eu⟩ (Box.new wr 43 #[.int .i64 ei, .int .i64 em, .int .i64 eu]))
        have BA := Lib.hid (hB.out.alloc hB.out.size (.cells #[.int .i64 ei, .int .i64 em, .int .i64 eu] 43))
        go_wp2_with (at_builtin; refine append_entries _ rfl (.tmp 25) (.tmp 30) rfl w.heap.size _ _ _ _ rfl LA.out _ _ _ _ rfl XA.out BA.out.size (by omega) ?_; intro a2 c2 w2 l2 g2 b2; have L2 := Lib.hid l2; have B2 := Lib.hid (BA.out.trans b2); clear l2 g2 b2)
        go_roundw
        case rel => exact ⟨k + 1, a2, n1 + 1, c2, by omega, by go_num, rfl, by omega, by rw [HV.out]; exact L2.out, B2.out⟩
        case measure => simp [intOf]; omega
      · rw [if_neg hc, List.append_nil] at hv
        have HV := Lib.hid hv
        have e0 : (ei != x) = false := by simpa using hc
        clear hv hc
        go_wp2
        go_roundw
        case rel => exact ⟨k + 1, a1, n1, c1, by omega, by go_num, rfl, by omega, by rw [HV.out]; exact hL.out, hB.out⟩
        case measure => simp [intOf]; omega
    · obtain rfl : k = len := by omega
      have hE : Hid (Lw wr w.heap.size a1 n1 c1 (noE x es)) := by
        have e := hL.out
        rwa [List.take_of_length_le (by rw [HL.out]; exact Nat.le_refl _)] at e
      have hN : (noE x es).length = n1 := hE.out.length
      clear hL
      have KM := Lib.hid (fun W => l1Min7_any (t + 60000) 100000000 W)
      obtain ⟨u, hu⟩ : ∃ u, u = min (t + 60000) 100000000 := ⟨_, rfl⟩
      rw [← hu] at KM
      have HU : Hid (lnE x m t es = roomL (noE x es) ++ [⟨x, m, u⟩]) := by rw [hu]; exact rfl
      clear hu
      have LA := Lib.hid (hE.out.alloc (.cells #[.int .i64 x, .int .i64 m, .int .i64 u] 43))
      have XA := Lib.hid (le_box ⟨x, m, u⟩ (Box.new wr 43 #[.int .i64 x, .int .i64 m, .int .i64 u]))
      have BA := Lib.hid (hB.out.alloc hB.out.size (.cells #[.int .i64 x, .int .i64 m, .int .i64 u] 43))
      by_cases h4 : 4 ≤ n1
      · rcases hE.out.shape with ⟨_, h0, _⟩ | ⟨g, rfl⟩
        · omega
        obtain rfl : n1 = 4 := by omega
        have hcm := hE.out.max
        obtain ⟨c, rfl⟩ : ∃ c, c1 = c + 1 := ⟨c1 - 1, by omega⟩
        have hV : Hid (lnE x m t es = (noE x es).drop 1 ++ [⟨x, m, u⟩]) := HU.out.trans (by
          unfold roomL
          rw [if_pos (by omega)])
        have hc1 : ¬ (c + 1 = 1) := by omega
        unfold maxLen at hcm
        have LD := Lib.hid (show Lw (wr.alloc (.cells #[.int .i64 x, .int .i64 m, .int .i64 u] 43)) w.heap.size (some ⟨g, 0, none⟩) (3 + 1) (c + 1) (noE x es) from LA.out)
        clear hN HU hE
        go_wp2_with (first
          | (go_at_call 80; refine (KM.out _).mono ?_; rintro e w' ⟨rfl, rfl⟩)
          | (at_builtin; refine append_behindC _ rfl (.tmp 37) (.tmp 44) rfl w.heap.size g 3 c _ rfl LD.out _ _ rfl XA.out BA.out.size (by omega) ?_; intro a2 c2 w2 l2 b2; have L2 := Lib.hid l2; have B2 := Lib.hid (BA.out.trans b2); clear l2 b2))
        go_ret
        exact ⟨_, _, _, rfl, by rw [hV.out]; exact L2.out, B2.out⟩
      · have hV : Hid (lnE x m t es = noE x es ++ [⟨x, m, u⟩]) := HU.out.trans (by
          unfold roomL
          rw [if_neg (by omega)])
        clear hN HU hE
        go_wp2_with (first
          | (go_at_call 80; refine (KM.out _).mono ?_; rintro e w' ⟨rfl, rfl⟩)
          | (at_builtin; refine append_entries _ rfl (.tmp 37) (.tmp 44) rfl w.heap.size _ _ _ _ rfl LA.out _ _ _ _ rfl XA.out BA.out.size (by omega) ?_; intro a2 c2 w2 l2 g2 b2; have L2 := Lib.hid l2; have B2 := Lib.hid (BA.out.trans b2); clear l2 g2 b2))
        go_ret
        exact ⟨_, _, _, rfl, by rw [hV.out]; exact L2.out.ec (fun x hx => (L2.out.lt x hx).2), B2.out⟩

theorem setCells_block7 (b : Nat) : ∀ (vs : List Value) (o : Nat) (w : World) (k : Nat), k ≠ b → (w.setCells b o vs).heap[k]? = w.heap[k]?
  | [], _, _, _, _ => rfl
  | v :: vs, o, w, k, h => by
    rw [World.setCells, setCells_block7 b vs (o + 1) _ k h]
    exact heap_setCell_other w ⟨b, o, none⟩ k v h
theorem setCells_os7 (b : Nat) : ∀ (vs : List Value) (o : Nat) (w : World), (w.setCells b o vs).os = w.os ∧ (w.setCells b o vs).tape = w.tape ∧ (w.setCells b o vs).output = w.output ∧ (w.setCells b o vs).heap.size = w.heap.size
  | [], _, _ => ⟨rfl, rfl, rfl, rfl⟩
  | v :: vs, o, w => by
    rw [World.setCells]
    obtain ⟨h1, h2, h3, h4⟩ := setCells_os7 b vs (o + 1) (w.setCell ⟨b, o, none⟩ v)
    exact ⟨h1, h2, h3, by rw [h4, World.size_setCell]⟩
theorem setCells_unf7 (b : Nat) : ∀ (vs : List Value) (o : Nat) (w : World) (k : Nat), (∃ cs t, w.heap[k]? = some (.cells cs t (0, 0))) → ∃ cs t, (w.setCells b o vs).heap[k]? = some (.cells cs t (0, 0))
  | [], _, _, _, h => h
  | v :: vs, o, w, k, h => setCells_unf7 b vs (o + 1) _ k (by
    by_cases e : k = b
    · subst e
      have := Fz.set (w := w) (b := k) (off := 0) (fun x hx => by cases hx; exact h) o v
      exact this _ rfl
    · obtain ⟨cs, t, h⟩ := h
      exact ⟨cs, t, (heap_setCell_other w ⟨b, o, none⟩ k v e).trans h⟩)

/-- a list appended to itself -/
theorem run_append_self (w : World) (ty : TypeId) (lo g off n cap : Nat) (es : List En) (h : EC w lo w.heap.size (some ⟨g, off, none⟩) n cap es) (hn : 1 ≤ n) (hb : lo ≤ w.heap.size) (hsz : n ≤ 1000) :
    ∃ a' c' w', (Builtin.append_ #[24, 24] ty #[.slice (some ⟨g, off, none⟩) n cap, .slice (some ⟨g, off, none⟩) n cap]).run Try.prog w = .ok (.slice a' (n + n) c') w' ∧ EO w' lo w'.heap.size a' (n + n) c' (es ++ es) ∧ Below lo w w' := by
  obtain ⟨i0, hi, hz0, hz1, hz2⟩ := info_parts Try.infoEntry
  have hl : es.length = n := h.eo.le.length
  have hlen : (cellsE es).length = n * 3 := by rw [cellsE_len, hl]
  by_cases hg : cap < n + n
  · obtain ⟨v', w', hrun, ho', hgr⟩ := run_append_arg_grows (P := Try.prog) (w := w) 24 ty 43 i0 (.agg #[.int .i64 0, .int .i64 0, .int .i64 0]) 3 24 Try.underlying24 hi hz0 hz1 hz2 rfl (by decide) ⟨g, off, none⟩ n cap (cellsE es) hlen h.eo.le.flat ⟨g, off, none⟩ n cap (cellsE es) hlen h.eo.le.flat hg (by unfold maxLen; omega) (by omega)
    rw [← cellsE_app] at ho'
    rcases ho'.2 with ⟨_, h0⟩ | ⟨g', c, cur, rfl, _⟩
    · omega
    · have hL : Lw w' w.heap.size (some ⟨g', 0, none⟩) (n + n) c (es ++ es) := ⟨ho'⟩
      exact ⟨_, c, w', hrun, (hL.eo (fun x hx => (hL.lt x hx).2)).mono hb (Nat.le_refl _), below_of_grown hgr hb (by simp)⟩
  · have hroom : n + n ≤ cap := by omega
    have hu := h.eo.fz ⟨g, off, none⟩ rfl
    have hfz : ∀ j, w.frozen? ⟨g, j, none⟩ = false := fun j => by obtain ⟨cs, t, e⟩ := hu; exact frozen_of_row w g j cs t e
    have hA := run_append_room_cells (P := Try.prog) (w := w) (ty := ty) 24 43 i0 Try.underlying24 hi g off n cap ⟨g, off, none⟩ n cap (cellsE es) (by rw [hz1]; exact hlen) h.eo.le.flat (cellsE_one _) hroom
      (fun j hj => by rw [hz1, Nat.add_assoc]; exact h.room g off rfl _ (by omega)) (fun j _ => hfz _)
    rw [hz1] at hA
    refine ⟨_, _, _, hA, ⟨⟨by rw [List.length_append, hl], hroom, h.eo.le.max, by simp, .inr ⟨g, off, rfl, fun i e he => ?_⟩⟩, ?_, fun x hx => ?_⟩, ?_⟩
    · have hthere : w.there g (off + n * 3) (cellsE es).length := fun j hj => ⟨by rw [Nat.add_assoc]; exact h.room g off rfl _ (by omega), hfz _⟩
      have hsame := World.rangeAt_setCells_same w g (off + n * 3) (cellsE es) hthere
      by_cases hin : i < n
      · rw [List.getElem?_append_left (by omega)] at he
        rcases h.eo.le.cells with h0 | ⟨b', off', e', hc⟩
        · omega
        cases e'
        obtain ⟨c0, c1, c2⟩ := hc i e he
        exact ⟨(World.cell?_setCells_out _ _ _ _ _ (fun _ _ => by dsimp only; omega)).trans c0, (World.cell?_setCells_out _ _ _ _ _ (fun _ _ => by dsimp only; omega)).trans c1, (World.cell?_setCells_out _ _ _ _ _ (fun _ _ => by dsimp only; omega)).trans c2⟩
      · rw [List.getElem?_append_right (by omega), hl] at he
        obtain ⟨c0, c1, c2⟩ := cellsE_at es (i - n) e he
        have k0 := hsame _ _ c0
        have k1 := hsame _ _ c1
        have k2 := hsame _ _ c2
        rw [show off + n * 3 + (i - n) * 3 = off + i * 3 by omega] at k0
        rw [show off + n * 3 + ((i - n) * 3 + 1) = off + i * 3 + 1 by omega] at k1
        rw [show off + n * 3 + ((i - n) * 3 + 2) = off + i * 3 + 2 by omega] at k2
        exact ⟨k0, k1, k2⟩
    · intro x hx
      cases hx
      exact setCells_unf7 g _ _ w g hu
    · cases hx
      have := h.eo.blk _ rfl
      dsimp only at this ⊢
      rw [(setCells_os7 g _ _ w).2.2.2]
      exact this
    · obtain ⟨h1, h2, h3, h4⟩ := setCells_os7 g (cellsE es) (off + n * 3) w
      exact ⟨h1, h2, h3, by omega, fun k hk => setCells_block7 g _ _ w k (by have := (h.eo.blk _ rfl).1; dsimp only at this; omega)⟩
theorem append_self (w : World) {ops : Array Oper} {rest : List Oper} {o : Oper} {ac : Act} {Q : Exit → Act → World → Prop} (hgd : o.guard = none) (s y : Operand)
    (ho : o.op = .call { callee := .builtin .append, args := #[s, y], argTypes := #[24, 24] })
    (lo g off n cap : Nat) (es : List En) (hs : ac.eval s = .slice (some ⟨g, off, none⟩) n cap) (hx : ac.eval y = .slice (some ⟨g, off, none⟩) n cap) (hown : EC w lo w.heap.size (some ⟨g, off, none⟩) n cap es)
    (hn : 1 ≤ n) (hb : lo ≤ w.heap.size) (hsz : n ≤ 1000)
    (h : ∀ a' c' w', EO w' lo w'.heap.size a' (n + n) c' (es ++ es) → Below lo w w' → wpList Try.prog ops Q rest (ac.put o.dst (.slice a' (n + n) c')) w') : wpList Try.prog ops Q (o :: rest) ac w := by
  obtain ⟨a', c', w', hrun, ho', hg⟩ := run_append_self w o.type lo g off n cap es hown hn hb hsz
  refine wpList_plain hgd fun K hK => ?_
  unfold Oper.wp execOp
  simp only [ho, resolve, invoke, builtin, Sem.run_bind, Sem.run_pure, Result.andThen_ok, List.map_toArray, List.map_cons, List.map_nil, hs, hx, hrun]
  exact hK _ _ (h a' c' w' ho' hg)
end Go.Proofs.Ytbngdenlplbjhaa

namespace Go.Proofs.Ytbngdenlplbjhaa
open Go.ChangeShapes Go.WideShapes Go.ChangeAt Go.RowKit

/-- from the world w on: a source b was made -/
structure DU (w W : World) (b t : Nat) (a : Option Addr) (len cap : Nat) (zs : List Int) : Prop where
  src : Src W b t a len cap zs
  bel : Below w.heap.size w W
  lo : w.heap.size ≤ b
  rd : Rd w a len cap zs
section
variable {w W W' : World} {b t t' : Nat} {a : Option Addr} {len cap : Nat} {zs : List Int}
theorem DU.step (h : DU w W b t a len cap zs) (hs : Src W' b t' a len cap zs) (hg : W.grownBy W' (some b)) : DU w W' b t' a len cap zs :=
  ⟨hs, h.bel.grown hg h.bel.size (fun k e => by cases e; exact h.lo), h.lo, h.rd⟩
theorem DU.alloc (h : DU w W b t a len cap zs) (o : Obj) : DU w (W.alloc o) b t a len cap zs := ⟨h.src.alloc o, h.bel.alloc h.bel.size o, h.lo, h.rd⟩
theorem DU.pick (h : DU w W b t a len cap zs) (xs : List Int) (lo hi : Int) {n : Nat} {cs : Array Value} (hcs : cs = (xs.map (Value.int .i64)).toArray) (hn : xs.length = n) (hx : ∀ x ∈ xs, lo ≤ x ∧ x ≤ hi) (hp : 0 < n) (hn2 : n ≤ 1000) (ht : t ≤ 1000000) (hl : len ≤ 1048576) :
    Calls Try.prog 35 #[.pointer (some ⟨b, 0, none⟩), .slice (some ⟨W.heap.size, 0, none⟩) n n] (W.alloc (.cells cs 2)) fun e w' => ∃ r : Int, e = .returned (.int .i64 r) ∧ lo ≤ r ∧ r ≤ hi ∧ DU w w' b (t + 1) a len cap zs ∧ W.grownBy w' (some b) := by
  subst hcs
  have hb := h.src.box.lt
  refine (l1Pick_any b t W.heap.size n xs lo hi a len cap zs _ (h.alloc _).src hx hn hp hn2 (Box.new _ _ _) (by omega) ht hl).mono ?_
  rintro e w' ⟨r, rfl, h1, h2, h3, h4⟩
  exact ⟨r, rfl, h1, h2, (h.alloc _).step h3 h4, grown_trans (grown_alloc _ _) h4⟩
theorem DU.next (h : DU w W b t a len cap zs) (n : Int) (ht : t ≤ 1000000) (hl : len ≤ 1048576) (hn : n ≤ 1000000) :
    Calls Try.prog 75 #[.pointer (some ⟨b, 0, none⟩), .int .i64 n] W fun e w' => ∃ r : Int, e = .returned (.int .i64 r) ∧ 0 ≤ r ∧ (1 ≤ n → r < n) ∧ DU w w' b (t + 1) a len cap zs ∧ W.grownBy w' (some b) := by
  refine (l1Next_any b t n a len cap zs W h.src ht hl hn).mono ?_
  rintro e w' ⟨r, rfl, h1, h2, h3, h4⟩
  exact ⟨r, rfl, h1, h2, h.step h3 h4, h4⟩
theorem DU.chance (h : DU w W b t a len cap zs) (n : Int) (ht : t ≤ 1000000) (hl : len ≤ 1048576) (hn : n ≤ 1000000) :
    Calls Try.prog 44 #[.pointer (some ⟨b, 0, none⟩), .int .i64 n] W fun e w' => ∃ c : Bool, e = .returned (.bool c) ∧ DU w w' b (t + 1) a len cap zs ∧ W.grownBy w' (some b) := by
  refine (l1Chance_any b t n a len cap zs W h.src ht hl hn).mono ?_
  rintro e w' ⟨c, rfl, h3, h4⟩
  exact ⟨c, rfl, h.step h3 h4, h4⟩
end
theorem DU.under {w W W' : World} {b t : Nat} {a : Option Addr} {len cap : Nat} {zs : List Int} (h : DU w W b t a len cap zs) (hb : Below W.heap.size W W') : DU w W' b t a len cap zs :=
  ⟨⟨h.src.box.below hb h.src.box.lt, h.src.rd.below hb, h.src.lt⟩, h.bel.trans (hb.mono h.bel.size), h.lo, h.rd⟩
theorem DU.put {w W : World} {b t : Nat} {a : Option Addr} {len cap : Nat} {zs : List Int} (h : DU w W b t a len cap zs) (g i : Nat) (v : Value) (hg : w.heap.size ≤ g) (hne : b ≠ g) : DU w (W.setCell ⟨g, i, none⟩ v) b t a len cap zs :=
  ⟨⟨h.src.box.grown (grown_setCell W ⟨g, i, none⟩ v) (by simpa using hne), h.rd.below (h.bel.setCell hg _), h.src.lt⟩, h.bel.setCell hg _, h.lo, h.rd⟩
theorem grown_far {w W : World} {row : Option Nat} (h : w.grownBy W row) (g i : Nat) (v : Value) (hg : w.heap.size ≤ g) : w.grownBy (W.setCell ⟨g, i, none⟩ v) row :=
  ⟨h.os, h.tape, h.output, by rw [World.size_setCell]; exact h.size, fun k hk hr => (heap_setCell_other W ⟨g, i, none⟩ k v (by show k ≠ g; omega)).trans (h.block k hk hr)⟩
theorem D_grown {w W W1 W2 : World} {b t : Nat} {a : Option Addr} {len cap : Nat} {zs : List Int} (h : DU w W1 b t a len cap zs) (hb : b < W.heap.size) (hw : w.heap.size ≤ W.heap.size) (hB : Below W.heap.size W1 W2) : DU w W2 b t a len cap zs :=
  ⟨⟨h.src.box.below hB hb, h.rd.below (h.bel.trans (hB.mono hw)), h.src.lt⟩, h.bel.trans (hB.mono hw), h.lo, h.rd⟩
theorem grown_trans_far {W W1 W2 : World} {row : Option Nat} (h : W.grownBy W1 row) (hB : Below W.heap.size W1 W2) : W.grownBy W2 row :=
  ⟨hB.os.trans h.os, hB.tape.trans h.tape, hB.output.trans h.output, Nat.le_trans h.size hB.size, fun k hk hr => (hB.block k hk).trans (h.block k hk hr)⟩
set_option maxHeartbeats 1000000 in
theorem l7Ip_any {w W : World} {b t : Nat} {a : Option Addr} {len cap : Nat} {zs : List Int} (h : DU w W b t a len cap zs) (ht : t ≤ 1000000) (hl : len ≤ 1048576) :
    Calls Try.prog 36 #[.pointer (some ⟨b, 0, none⟩)] W fun e w' => ∃ r : Int, e = .returned (.int .i64 r) ∧ 0 ≤ r ∧ r ≤ 4294967295 ∧ DU w w' b (t + 1) a len cap zs ∧ W.grownBy w' (some b) := by
  have D := Lib.hid h
  clear h
  go_enter Try.func36, Try.ntmps36
  go_wp2_with fail
  refine (D.out.pick [167772161, 167772162, 167772163, 167772200, 3232235777, 7] 7 3232235777 rfl rfl (by simp) (by decide) (by decide) (by omega) hl).mono ?_
  rintro e w1 ⟨r, rfl, r0, r1, d1, g1⟩
  have D1 := Lib.hid d1
  have G1 := Lib.hid g1
  clear d1 g1 D
  go_wp2
  go_ret
  exact ⟨r, rfl, by omega, by omega, D1.out, G1.out⟩


/-- a cache, drawn from the source b -/
def CacheDrawn (w W : World) (b t : Nat) (a : Option Addr) (len cap : Nat) (zs : List Int) (e : Ending) (w' : World) : Prop :=
  ∃ (a' : Option Addr) (n c' : Nat) (es : List En) (t' : Nat), e = .returned (.slice a' n c') ∧ EC w' W.heap.size w'.heap.size a' n c' es ∧ n ≤ 4 ∧ DU w w' b t' a len cap zs ∧ t' ≤ t + 30 ∧ W.grownBy w' (some b)
theorem lnE_len {es : List En} (x m t : Int) (h : es.length ≤ 4) : (lnE x m t es).length ≤ 4 := by
  have hl : (noE x es).length ≤ 4 := Nat.le_trans (List.length_filter_le _ _) h
  have := roomL_len hl
  unfold lnE
  rw [List.length_append]
  simp only [List.length_cons, List.length_nil]
  omega

set_option maxHeartbeats 4000000 in
theorem l7Draw_any {w W : World} {b t : Nat} {a : Option Addr} {len cap : Nat} {zs : List Int} (h : DU w W b t a len cap zs) (ht : t ≤ 900000) (hl : len ≤ 1048576) :
    Calls Try.prog 46 #[.pointer (some ⟨b, 0, none⟩)] W (CacheDrawn w W b t a len cap zs) := by
  have D0 := Lib.hid (h.alloc (.cells #[] 43))
  have hb := h.src.box.lt
  have l0 := lw_lit W W.heap.size (Nat.le_refl _)
  have L0 := Lib.hid (l0.ec (hi := (W.alloc (.cells #[] 43)).heap.size) (fun x hx => (l0.lt x hx).2))
  have G0 := Lib.hid (grown_alloc (w := W) (.cells #[] 43) (some b))
  clear h l0
  go_enter Try.func46, Try.ntmps46
  go_wp2_with fail
  refine (D0.out.next 7 (by omega) hl (by omega)).mono ?_
  rintro e w1 ⟨r, rfl, r0, r1, d1, g1⟩
  have D1 := Lib.hid d1
  have L1 := Lib.hid ((L0.out.off g1 (by omega)).mono (Nat.le_refl _) g1.size)
  have G1 := Lib.hid (grown_trans G0.out g1)
  obtain ⟨R, rfl⟩ : ∃ R : Nat, r = R := ⟨r.toNat, by omega⟩
  have hR : R ≤ 6 := by have := r1 (by omega); omega
  clear d1 g1 D0 L0 G0 r1 r0
  go_wp2
  go_loopw [3, 4, 5] (fun o nw i wr => ∃ (k : Nat) (a1 : Option Addr) (n1 c1 : Nat) (es : List En) (t1 : Nat) (now : Int), k ≤ R ∧ i = .int .i64 k ∧ nw = .int .i64 now ∧ 0 ≤ now ∧ now + 70000 * k ≤ 420000 ∧ o = .slice a1 n1 c1 ∧ n1 ≤ 4 ∧ Hid (EC wr W.heap.size wr.heap.size a1 n1 c1 es) ∧ Hid (DU w wr b t1 a len cap zs) ∧ t1 + 3 * k ≤ t + 20 ∧ Hid (W.grownBy wr (some b))) (fun _ _ i _ => (intOf i).toNat)
  case atStart => exact ⟨R, _, 0, 0, [], _, 0, Nat.le_refl _, rfl, rfl, by omega, by omega, rfl, by omega, L1.out, D1.out, by omega, G1.out⟩
  case round =>
    obtain ⟨k, a1, n1, c1, es, t1, now, hk, rfl, rfl, hnw, hnw2, rfl, hn1, hL, hD, ht1, hG⟩ := hrel
    clear L1 D1 G1
    by_cases hk0 : k = 0
    · subst hk0
      go_wp2
      go_ret
      exact ⟨a1, n1, c1, es, t1, rfl, hL.out, hn1, hD.out, by omega, hG.out⟩
    · have hkp : (0 : Int) < (k : Int) := by omega
      go_wp2_with fail
      refine (hD.out.pick [0, 1000, 70000] 0 70000 rfl rfl (by simp) (by decide) (by decide) (by omega) hl).mono ?_
      rintro e w2 ⟨x, rfl, x0, x1, d2, g2⟩
      have D2 := Lib.hid d2
      have L2 := Lib.hid ((hL.out.off g2 (by omega)).mono (Nat.le_refl _) g2.size)
      have G2 := Lib.hid (grown_trans hG.out g2)
      clear d2 g2 hL hD hG
      go_wp2_with fail
      refine (l7Ip_any D2.out (by omega) hl).mono ?_
      rintro e w3 ⟨ip, rfl, y0, y1, d3, g3⟩
      have D3 := Lib.hid d3
      have L3 := Lib.hid ((L2.out.off g3 (by omega)).mono (Nat.le_refl _) g3.size)
      have G3 := Lib.hid (grown_trans G2.out g3)
      clear d3 g3 L2 D2 G2
      go_wp2_with fail
      refine (D3.out.pick [1, 2, 3] 1 3 rfl rfl (by simp) (by decide) (by decide) (by omega) hl).mono ?_
      rintro e w4 ⟨m, rfl, m0, m1, d4, g4⟩
      have D4 := Lib.hid d4
      have L4 := Lib.hid ((L3.out.off g4 (by omega)).mono (Nat.le_refl _) g4.size)
      have G4 := Lib.hid (grown_trans G3.out g4)
      have KL := Lib.hid (l7LearnC_any a1 n1 c1 es ip m (now + x) w4 L4.out.eo.le hn1 (by omega))
      have hel : es.length ≤ 4 := by rw [L4.out.eo.le.length]; exact hn1
      have HLN := Lib.hid (lnE_len ip m (now + x) hel)
      clear d4 g4 L3 D3 G3 hel
      go_wp2_with fail
      refine KL.out.mono ?_
      rintro e w5 ⟨a5, n5, c5, rfl, l5, b5⟩
      have hn5 : n5 ≤ 4 := by rw [← l5.eo.le.length]; exact HLN.out
      have L5 := Lib.hid (l5.mono G4.out.size (Nat.le_refl _))
      have D5 := Lib.hid (D4.out.under b5)
      have G5 := Lib.hid (grown_trans G4.out (grown_of_below b5 (some b)))
      clear l5 b5 KL L4 D4 G4 HLN
      go_wp2
      go_roundw
      case rel => exact ⟨k - 1, a5, n5, c5, _, _, now + x, by omega, by go_num, rfl, by omega, by omega, rfl, hn5, L5.out, D5.out, by omega, G5.out⟩
      case measure => simp [intOf]; omega
end Go.Proofs.Ytbngdenlplbjhaa

namespace Go.Proofs.Ytbngdenlplbjhaa
open Go.ChangeShapes Go.WideShapes Go.ChangeAt Go.RowKit

theorem EO.putI {w : World} {lo hi b off : Nat} {len cap : Nat} {es : List En} (h : EO w lo hi (some ⟨b, off, none⟩) len cap es) (k : Nat) (hk : k < len) (e : En) (he : es[k]? = some e) (r : Int) :
    EO (w.setCell ⟨b, off + k * 3, none⟩ (.int .i64 r)) lo hi (some ⟨b, off, none⟩) len cap (es.set k ⟨r, e.m, e.u⟩) := by
  refine ⟨⟨by rw [List.length_set]; exact h.le.length, h.le.le, h.le.max, h.le.nil, ?_⟩, h.fz.set _ _, h.blk⟩
  rcases h.le.cells with h0 | ⟨b', off', e', hc⟩
  · omega
  cases e'
  refine .inr ⟨b, off, rfl, fun j q hq => ?_⟩
  by_cases hj : j = k
  · subst hj
    rw [List.getElem?_set_self (by rw [h.le.length]; exact hk)] at hq
    cases hq
    obtain ⟨c0, c1, c2⟩ := hc j e he
    exact ⟨cell_set_eq _ c0, by rw [cell_set_ne _ (by omega)]; exact c1, by rw [cell_set_ne _ (by omega)]; exact c2⟩
  · rw [List.getElem?_set_ne (by omega)] at hq
    obtain ⟨c0, c1, c2⟩ := hc j q hq
    exact ⟨by rw [cell_set_ne _ (by omega)]; exact c0, by rw [cell_set_ne _ (by omega)]; exact c1, by rw [cell_set_ne _ (by omega)]; exact c2⟩
theorem EO.putU {w : World} {lo hi b off : Nat} {len cap : Nat} {es : List En} (h : EO w lo hi (some ⟨b, off, none⟩) len cap es) (k : Nat) (hk : k < len) (e : En) (he : es[k]? = some e) (r : Int) :
    EO (w.setCell ⟨b, off + k * 3 + 2, none⟩ (.int .i64 r)) lo hi (some ⟨b, off, none⟩) len cap (es.set k ⟨e.i, e.m, r⟩) := by
  refine ⟨⟨by rw [List.length_set]; exact h.le.length, h.le.le, h.le.max, h.le.nil, ?_⟩, h.fz.set _ _, h.blk⟩
  rcases h.le.cells with h0 | ⟨b', off', e', hc⟩
  · omega
  cases e'
  refine .inr ⟨b, off, rfl, fun j q hq => ?_⟩
  by_cases hj : j = k
  · subst hj
    rw [List.getElem?_set_self (by rw [h.le.length]; exact hk)] at hq
    cases hq
    obtain ⟨c0, c1, c2⟩ := hc j e he
    exact ⟨by rw [cell_set_ne _ (by omega)]; exact c0, by rw [cell_set_ne _ (by omega)]; exact c1, cell_set_eq _ c2⟩
  · rw [List.getElem?_set_ne (by omega)] at hq
    obtain ⟨c0, c1, c2⟩ := hc j q hq
    exact ⟨by rw [cell_set_ne _ (by omega)]; exact c0, by rw [cell_set_ne _ (by omega)]; exact c1, by rw [cell_set_ne _ (by omega)]; exact c2⟩
theorem EO.off7 {w w' : World} {lo hi : Nat} {a : Option Addr} {len cap : Nat} {es : List En} (h : EO w lo hi a len cap es) {b : Nat} (hg : w.grownBy w' (some b)) (hb : b < lo) : EO w' lo hi a len cap es :=
  h.keep fun k h1 _ hk => hg.block k hk (by simp; omega)
/-- a cache, bent or not, drawn from the source b -/
def CacheBent (w W : World) (b t : Nat) (a : Option Addr) (len cap : Nat) (zs : List Int) (e : Ending) (w' : World) : Prop :=
  ∃ (a' : Option Addr) (n c' : Nat) (es : List En) (t' : Nat), e = .returned (.slice a' n c') ∧ EO w' W.heap.size w'.heap.size a' n c' es ∧ n ≤ 8 ∧ DU w w' b t' a len cap zs ∧ t' ≤ t + 40 ∧ W.grownBy w' (some b)

set_option maxHeartbeats 8000000 in
theorem l7Bent_any {w W : World} {b t : Nat} {a : Option Addr} {len cap : Nat} {zs : List Int} (h : DU w W b t a len cap zs) (ht : t ≤ 800000) (hl : len ≤ 1048576) :
    Calls Try.prog 34 #[.pointer (some ⟨b, 0, none⟩)] W (CacheBent w W b t a len cap zs) := by
  have K := Lib.hid (l7Draw_any h (by omega) hl)
  have hb := h.src.box.lt
  have hw0 := h.bel.size
  clear h
  go_enter Try.func34, Try.ntmps34
  go_wp2_with fail
  refine K.out.mono ?_
  rintro e w1 ⟨a1, n1, c1, es, t1, rfl, l1, hn1, d1, ht1, g1⟩
  have L1 := Lib.hid l1
  have D1 := Lib.hid d1
  have G1 := Lib.hid g1
  clear l1 d1 g1 K
  by_cases hn0 : n1 = 0
  · subst hn0
    go_wp2
    go_ret
    exact ⟨a1, 0, c1, es, t1, rfl, L1.out.eo, by omega, D1.out, by omega, G1.out⟩
  have e0 : ((n1 : Int) == 0) = false := by simp; omega
  go_wp2_with fail
  refine (D1.out.next 12 (by omega) hl (by omega)).mono ?_
  rintro e w2 ⟨s, rfl, s0, s1, d2, g2⟩
  have D2 := Lib.hid d2
  have L2 := Lib.hid ((L1.out.off g2 (by omega)).mono (Nat.le_refl _) g2.size)
  have G2 := Lib.hid (grown_trans G1.out g2)
  clear d2 g2 D1 L1 G1 s1
  have hsz2 := L2.out.eo.le.length
  obtain ⟨g, off, z, rfl, hz, q0, q1, q2⟩ := L2.out.eo.le.at (i := 0) (by omega)
  have hgb : W.heap.size ≤ g ∧ g < w2.heap.size := L2.out.eo.blk _ rfl
  have HSZ := Lib.hid hsz2
  have HZ := Lib.hid hz
  clear hsz2 hz q0 q1 q2
  by_cases hs0 : s = 0
  · subst hs0
    go_wp2_with (at_builtin; refine append_self _ rfl (.tmp 14) (.tmp 15) rfl W.heap.size g off n1 c1 es rfl rfl L2.out (by omega) G2.out.size (by omega) ?_; intro a3 c3 w3 l3 b3; have L3 := Lib.hid l3; have B3 := Lib.hid b3; clear l3 b3)
    go_ret
    exact ⟨a3, _, c3, _, _, rfl, L3.out, by omega, D_grown D2.out hb hw0 B3.out, by omega, grown_trans_far G2.out B3.out⟩
  by_cases hs1 : s = 1
  · subst hs1
    obtain ⟨g', off', zl, e', hzl, p0, p1, p2⟩ := L2.out.eo.le.at (i := n1 - 1) (by omega)
    cases e'
    have hidx : IntKind.i64.wrap ((n1 : Int) - 1) = ((n1 - 1 : Nat) : Int) := (IntWalk.i64_in _ (by omega)).trans (by omega)
    have hidx0 : (0 : Int) ≤ ((n1 - 1 : Nat) : Int) := by omega
    have hidx1 : ((n1 - 1 : Nat) : Int) < (n1 : Int) := by omega
    have hc1 : (n1 : Int) - 1 = ((n1 - 1 : Nat) : Int) := by omega
    obtain ⟨v, hv⟩ : ∃ v, v = zl.i := ⟨_, rfl⟩
    rw [← hv] at p0
    have P0 := Lib.hid p0
    clear hzl p1 p2 hv
    go_wp2_with fail
    refine (D2.out.pick [-1, 4294967296, v] (min (-1) v) (max 4294967296 v) rfl rfl (by simp; omega) (by simp) (by simp) (by omega) hl).mono ?_
    rintro e w4 ⟨y, rfl, _, _, d4, g4⟩
    have D4 := Lib.hid d4
    have L4 := Lib.hid ((L2.out.off g4 (by omega)).mono (Nat.le_refl _) g4.size)
    have G4 := Lib.hid (grown_trans G2.out g4)
    obtain ⟨_, _, z', e', hz', q0, q1, q2⟩ := L4.out.eo.le.at (i := 0) (by omega)
    cases e'
    rw [HZ.out] at hz'
    cases hz'
    have f0 : w4.frozen? ⟨g, off + 0 * 3, none⟩ = false := by obtain ⟨cs, ty, e⟩ := L4.out.eo.fz ⟨g, off, none⟩ rfl; exact frozen_of_row w4 g _ cs ty e
    have PP := Lib.hid (L4.out.eo.putI 0 (by omega) z HZ.out y)
    simp only [Nat.zero_mul, Nat.add_zero] at q0 q1 q2 f0 PP
    clear d4 g4 D2 L2 G2 p0
    go_wp2
    go_ret
    refine ⟨_, n1, c1, es.set 0 ⟨y, z.m, z.u⟩, _, rfl, ?_, by omega, D4.out.put _ _ _ (by omega) (by omega), by omega, grown_far G4.out _ _ _ hgb.1⟩
    rw [World.size_setCell]
    exact PP.out
  by_cases hs2 : s = 2
  · subst hs2
    go_wp2_with fail
    refine (D2.out.pick [-1, 100000000, 100000001] (-1) 100000001 rfl rfl (by simp) (by decide) (by decide) (by omega) hl).mono ?_
    rintro e w4 ⟨y, rfl, _, _, d4, g4⟩
    have D4 := Lib.hid d4
    have L4 := Lib.hid ((L2.out.off g4 (by omega)).mono (Nat.le_refl _) g4.size)
    have G4 := Lib.hid (grown_trans G2.out g4)
    obtain ⟨_, _, z', e', hz', q0, q1, q2⟩ := L4.out.eo.le.at (i := 0) (by omega)
    cases e'
    rw [HZ.out] at hz'
    cases hz'
    have f0 : w4.frozen? ⟨g, off + 0 * 3 + 2, none⟩ = false := by obtain ⟨cs, ty, e⟩ := L4.out.eo.fz ⟨g, off, none⟩ rfl; exact frozen_of_row w4 g _ cs ty e
    have PP := Lib.hid (L4.out.eo.putU 0 (by omega) z HZ.out y)
    simp only [Nat.zero_mul, Nat.add_zero] at q0 q1 q2 f0 PP
    clear d4 g4 D2 L2 G2
    go_wp2
    go_ret
    refine ⟨_, n1, c1, es.set 0 ⟨z.i, z.m, y⟩, _, rfl, ?_, by omega, D4.out.put _ _ _ (by omega) (by omega), by omega, grown_far G4.out _ _ _ hgb.1⟩
    rw [World.size_setCell]
    exact PP.out
  · have k0 : (s == 0) = false := by simpa using hs0
    have k1 : (s == 1) = false := by simpa using hs1
    have k2 : (s == 2) = false := by simpa using hs2
    go_wp2
    go_ret
    exact ⟨_, n1, c1, es, _, rfl, L2.out.eo, by omega, D2.out, by omega, G2.out⟩
end Go.Proofs.Ytbngdenlplbjhaa

namespace Go.Proofs.Ytbngdenlplbjhaa
open Go.ChangeShapes Go.WideShapes Go.ChangeAt Go.RowKit

/-- a drawn list, and numbers behind it -/
def Dr7 (k : Nat) (w : World) (e : Ending) (w' : World) : Prop :=
  ∃ (a' : Option Addr) (n c' : Nat) (es : List En) (xs : List Int), e = .returned (.tuple (.slice a' n c' :: xs.map (.int .i64)).toArray) ∧ xs.length = k ∧ (∀ x ∈ xs, -1 ≤ x ∧ x ≤ 281474976710655) ∧ Le w' a' n c' es ∧ n ≤ 8 ∧ Below w.heap.size w w'

set_option maxHeartbeats 4000000 in
theorem drawLearnEntry (a : Option Addr) (len cap : Nat) (zs : List Int) (w : World) (hr : Rd w a len cap zs) (hl : len ≤ 1048576) :
    Calls Try.prog 6 #[.slice a len cap] w fun e w' => ∃ (a' : Option Addr) (n c' : Nat) (es : List En) (x m t : Int), e = .returned (.tuple #[.slice a' n c', .int .i64 x, .int .i64 m, .int .i64 t]) ∧ Le w' a' n c' es ∧ n ≤ 8 ∧ (0 ≤ t ∧ t ≤ 100000001) ∧ Below w.heap.size w w' := by
  have HR := Lib.hid hr
  clear hr
  go_enter Try.func6, Try.ntmps6
  go_wp2_with fail
  refine (l1Source_any a len cap zs _ HR.out).mono ?_
  rintro e w1 ⟨rfl, s1, b1⟩
  have D1 := Lib.hid (show DU w w1 w.heap.size 0 a len cap zs from ⟨s1, b1, Nat.le_refl _, HR.out⟩)
  have hlt := Lib.hid s1.box.lt
  clear s1 b1
  go_wp2_with fail
  refine (l7Bent_any D1.out (by omega) hl).mono ?_
  rintro e w2 ⟨a2, n2, c2, es, t2, rfl, l2, hn2, d2, ht2, g2⟩
  have D2 := Lib.hid d2
  have L2 := Lib.hid (show EO w2 w1.heap.size w2.heap.size a2 n2 c2 es from l2)
  clear l2 d2 g2 D1
  go_wp2_with fail
  refine (l7Ip_any D2.out (by omega) hl).mono ?_
  rintro e w3 ⟨i1, rfl, p1, q1, d3, g3⟩
  have D3 := Lib.hid d3
  have L3 := Lib.hid ((L2.out.off7 g3 hlt.out).mono (Nat.le_refl _) g3.size)
  clear d3 g3 D2 L2
  go_wp2_with fail
  refine (l7Ip_any D3.out (by omega) hl).mono ?_
  rintro e w4 ⟨i2, rfl, p2, q2, d4, g4⟩
  have D4 := Lib.hid d4
  have L4 := Lib.hid ((L3.out.off7 g4 hlt.out).mono (Nat.le_refl _) g4.size)
  clear d4 g4 D3 L3
  go_wp2_with fail
  refine (l7Ip_any D4.out (by omega) hl).mono ?_
  rintro e w5 ⟨i3, rfl, p3, q3, d5, g5⟩
  have D5 := Lib.hid d5
  have L5 := Lib.hid ((L4.out.off7 g5 hlt.out).mono (Nat.le_refl _) g5.size)
  clear d5 g5 D4 L4
  go_wp2_with fail
  refine (D5.out.pick [i1, i2, i3, -1] (-1) 4294967295 rfl rfl (by simp; omega) (by simp) (by simp) (by omega) hl).mono ?_
  rintro e w6 ⟨x, rfl, _, _, d6, g6⟩
  have D6 := Lib.hid d6
  have L6 := Lib.hid ((L5.out.off7 g6 hlt.out).mono (Nat.le_refl _) g6.size)
  clear d6 g6 D5 L5
  go_wp2_with fail
  refine (D6.out.pick [5, 6, 7, 281474976710655, -1] (-1) 281474976710655 rfl rfl (by simp) (by decide) (by decide) (by omega) hl).mono ?_
  rintro e w7 ⟨m, rfl, _, _, d7, g7⟩
  have D7 := Lib.hid d7
  have L7 := Lib.hid ((L6.out.off7 g7 hlt.out).mono (Nat.le_refl _) g7.size)
  clear d7 g7 D6 L6
  go_wp2_with fail
  refine (D7.out.pick [0, 5000, 100000, 100000000, 100000001] 0 100000001 rfl rfl (by simp) (by decide) (by decide) (by omega) hl).mono ?_
  rintro e w8 ⟨t, rfl, t0, t1, d8, g8⟩
  have B8 := Lib.hid d8.bel
  have L8 := Lib.hid ((L7.out.off7 g8 hlt.out).mono (Nat.le_refl _) g8.size)
  clear d8 g8 D7 L7
  go_wp2
  exact bodyPost_ret (v := .tuple #[.slice a2 n2 c2, .int .i64 x, .int .i64 m, .int .i64 t]) (by simp [results, Try.results6, go_sem]) rfl ⟨a2, n2, c2, es, x, m, t, rfl, L8.out.le, hn2, ⟨t0, t1⟩, B8.out⟩

set_option maxHeartbeats 4000000 in
theorem drawAgeCache (a : Option Addr) (len cap : Nat) (zs : List Int) (w : World) (hr : Rd w a len cap zs) (hl : len ≤ 1048576) :
    Calls Try.prog 10 #[.slice a len cap] w fun e w' => ∃ (a' : Option Addr) (n c' : Nat) (es : List En) (t : Int), e = .returned (.tuple #[.slice a' n c', .int .i64 t]) ∧ Le w' a' n c' es ∧ n ≤ 8 ∧ Below w.heap.size w w' := by
  have HR := Lib.hid hr
  clear hr
  go_enter Try.func10, Try.ntmps10
  go_wp2_with fail
  refine (l1Source_any a len cap zs _ HR.out).mono ?_
  rintro e w1 ⟨rfl, s1, b1⟩
  have D1 := Lib.hid (show DU w w1 w.heap.size 0 a len cap zs from ⟨s1, b1, Nat.le_refl _, HR.out⟩)
  have hlt := Lib.hid s1.box.lt
  clear s1 b1
  go_wp2_with fail
  refine (l7Bent_any D1.out (by omega) hl).mono ?_
  rintro e w2 ⟨a2, n2, c2, es, t2, rfl, l2, hn2, d2, ht2, g2⟩
  have D2 := Lib.hid d2
  have L2 := Lib.hid (show EO w2 w1.heap.size w2.heap.size a2 n2 c2 es from l2)
  clear l2 d2 g2 D1
  go_wp2_with fail
  refine (D2.out.pick [0, 60000, 61000, 130000, 100000000, -1] (-1) 100000000 rfl rfl (by simp) (by decide) (by decide) (by omega) hl).mono ?_
  rintro e w8 ⟨t, rfl, t0, t1, d8, g8⟩
  have B8 := Lib.hid d8.bel
  have L8 := Lib.hid ((L2.out.off7 g8 hlt.out).mono (Nat.le_refl _) g8.size)
  clear d8 g8 D2 L2
  go_wp2
  exact bodyPost_ret (v := .tuple #[.slice a2 n2 c2, .int .i64 t]) (by simp [results, Try.results10, go_sem]) rfl ⟨a2, n2, c2, es, t, rfl, L8.out.le, hn2, B8.out⟩

set_option maxHeartbeats 4000000 in
theorem drawFindEntry (a : Option Addr) (len cap : Nat) (zs : List Int) (w : World) (hr : Rd w a len cap zs) (hl : len ≤ 1048576) :
    Calls Try.prog 8 #[.slice a len cap] w fun e w' => ∃ (a' : Option Addr) (n c' : Nat) (es : List En) (x t : Int), e = .returned (.tuple #[.slice a' n c', .int .i64 x, .int .i64 t]) ∧ Le w' a' n c' es ∧ n ≤ 8 ∧ Below w.heap.size w w' := by
  have HR := Lib.hid hr
  clear hr
  go_enter Try.func8, Try.ntmps8
  go_wp2_with fail
  refine (l1Source_any a len cap zs _ HR.out).mono ?_
  rintro e w1 ⟨rfl, s1, b1⟩
  have D1 := Lib.hid (show DU w w1 w.heap.size 0 a len cap zs from ⟨s1, b1, Nat.le_refl _, HR.out⟩)
  have hlt := Lib.hid s1.box.lt
  clear s1 b1
  go_wp2_with fail
  refine (l7Bent_any D1.out (by omega) hl).mono ?_
  rintro e w2 ⟨a2, n2, c2, es, t2, rfl, l2, hn2, d2, ht2, g2⟩
  have D2 := Lib.hid d2
  have L2 := Lib.hid (show EO w2 w1.heap.size w2.heap.size a2 n2 c2 es from l2)
  clear l2 d2 g2 D1
  go_wp2_with fail
  refine (l7Ip_any D2.out (by omega) hl).mono ?_
  rintro e w3 ⟨i1, rfl, p1, q1, d3, g3⟩
  have D3 := Lib.hid d3
  have L3 := Lib.hid ((L2.out.off7 g3 hlt.out).mono (Nat.le_refl _) g3.size)
  clear d3 g3 D2 L2
  by_cases hn0 : n2 = 0
  · subst hn0
    go_wp2_with fail
    refine (D3.out.pick [0, 60000, 61000, 130000, 100000000, -1] (-1) 100000000 rfl rfl (by simp) (by decide) (by decide) (by omega) hl).mono ?_
    rintro e w8 ⟨t, rfl, t0, t1, d8, g8⟩
    have B8 := Lib.hid d8.bel
    have L8 := Lib.hid ((L3.out.off7 g8 hlt.out).mono (Nat.le_refl _) g8.size)
    clear d8 g8 D3 L3
    go_wp2
    exact bodyPost_ret (v := .tuple #[.slice a2 0 c2, .int .i64 i1, .int .i64 t]) (by simp [results, Try.results8, go_sem]) rfl ⟨a2, 0, c2, es, i1, t, rfl, L8.out.le, by omega, B8.out⟩
  have hpos : (0 : Int) < (n2 : Int) := by omega
  go_wp2_with fail
  refine (D3.out.chance 2 (by omega) hl (by omega)).mono ?_
  rintro e w4 ⟨q, rfl, d4, g4⟩
  have D4 := Lib.hid d4
  have L4 := Lib.hid ((L3.out.off7 g4 hlt.out).mono (Nat.le_refl _) g4.size)
  clear d4 g4 D3 L3
  obtain ⟨g, off, z, ea, hz, q0, q1', q2'⟩ := L4.out.le.at (i := 0) (by omega)
  subst ea
  simp only [Nat.zero_mul, Nat.add_zero] at q0
  clear hz q1' q2'
  cases q with
  | true =>
    go_wp2_with fail
    refine (D4.out.pick [0, 60000, 61000, 130000, 100000000, -1] (-1) 100000000 rfl rfl (by simp) (by decide) (by decide) (by omega) hl).mono ?_
    rintro e w8 ⟨t, rfl, t0, t1, d8, g8⟩
    have B8 := Lib.hid d8.bel
    have L8 := Lib.hid ((L4.out.off7 g8 hlt.out).mono (Nat.le_refl _) g8.size)
    clear d8 g8 D4 L4 q0
    go_wp2
    exact bodyPost_ret (v := .tuple #[.slice (some ⟨g, off, none⟩) n2 c2, .int .i64 z.i, .int .i64 t]) (by simp [results, Try.results8, go_sem]) rfl ⟨_, n2, c2, es, z.i, t, rfl, L8.out.le, hn2, B8.out⟩
  | false =>
    go_wp2_with fail
    refine (D4.out.pick [0, 60000, 61000, 130000, 100000000, -1] (-1) 100000000 rfl rfl (by simp) (by decide) (by decide) (by omega) hl).mono ?_
    rintro e w8 ⟨t, rfl, t0, t1, d8, g8⟩
    have B8 := Lib.hid d8.bel
    have L8 := Lib.hid ((L4.out.off7 g8 hlt.out).mono (Nat.le_refl _) g8.size)
    clear d8 g8 D4 L4 q0
    go_wp2
    exact bodyPost_ret (v := .tuple #[.slice (some ⟨g, off, none⟩) n2 c2, .int .i64 i1, .int .i64 t]) (by simp [results, Try.results8, go_sem]) rfl ⟨_, n2, c2, es, i1, t, rfl, L8.out.le, hn2, B8.out⟩

set_option maxHeartbeats 4000000 in
theorem drawSameCaches (a : Option Addr) (len cap : Nat) (zs : List Int) (w : World) (hr : Rd w a len cap zs) (hl : len ≤ 1048576) :
    Calls Try.prog 12 #[.slice a len cap] w fun e w' => ∃ (a' b' : Option Addr) (n c' m d' : Nat) (es fs : List En), e = .returned (.tuple #[.slice a' n c', .slice b' m d']) ∧ Le w' a' n c' es ∧ Le w' b' m d' fs ∧ Below w.heap.size w w' := by
  have HR := Lib.hid hr
  clear hr
  go_enter Try.func12, Try.ntmps12
  go_wp2_with fail
  refine (l1Source_any a len cap zs _ HR.out).mono ?_
  rintro e w1 ⟨rfl, s1, b1⟩
  have D1 := Lib.hid (show DU w w1 w.heap.size 0 a len cap zs from ⟨s1, b1, Nat.le_refl _, HR.out⟩)
  have hlt := Lib.hid s1.box.lt
  clear s1 b1
  go_wp2_with fail
  refine (l7Draw_any D1.out (by omega) hl).mono ?_
  rintro e w2 ⟨a2, n2, c2, es, t2, rfl, l2, hn2, d2, ht2, g2⟩
  have D2 := Lib.hid d2
  have L2 := Lib.hid (show EO w2 w1.heap.size w2.heap.size a2 n2 c2 es from l2.eo)
  clear l2 d2 g2 D1
  go_wp2_with fail
  refine (D2.out.chance 2 (by omega) hl (by omega)).mono ?_
  rintro e w4 ⟨q, rfl, d4, g4⟩
  have B4 := Lib.hid d4.bel
  have L4 := Lib.hid ((L2.out.off7 g4 hlt.out).mono (Nat.le_refl _) g4.size)
  have HR4 := Lib.hid (HR.out.below d4.bel)
  clear d4 g4 D2 L2
  cases q with
  | true =>
    have A4 := Lib.hid (lw_lit w4 w4.heap.size (Nat.le_refl _))
    have L5 := Lib.hid (L4.out.le.alloc (.cells #[] 43))
    have B5 := Lib.hid ((Below.refl w4.heap.size w4).alloc (Nat.le_refl _) (.cells #[] 43))
    go_wp2_with (at_builtin; refine append_entries _ rfl (.tmp 13) (.tmp 14) rfl w4.heap.size _ _ _ _ rfl A4.out _ _ _ _ rfl L5.out B5.out.size (by omega) ?_; intro a6 c6 w6 l6 g6 b6; have L6 := Lib.hid l6.le; have B6 := Lib.hid (B5.out.trans b6); clear l6 g6 b6)
    exact bodyPost_ret (v := .tuple #[.slice a2 n2 c2, .slice a6 (0 + n2) c6]) (by simp [results, Try.results12, go_sem]) rfl ⟨a2, a6, n2, c2, 0 + n2, c6, es, [] ++ es, rfl, L4.out.le.below B6.out, L6.out, B4.out.trans (B6.out.mono B4.out.size)⟩
  | false =>
    go_wp2_with fail
    refine (l1Source_any a len cap zs _ HR4.out).mono ?_
    rintro e w5 ⟨rfl, s5, b5⟩
    have D5 := Lib.hid (show DU w4 w5 w4.heap.size 0 a len cap zs from ⟨s5, b5, Nat.le_refl _, HR4.out⟩)
    have L5 := Lib.hid (L4.out.le.below b5)
    clear s5 b5
    go_wp2_with fail
    refine (l7Bent_any D5.out (by omega) hl).mono ?_
    rintro e w6 ⟨a6, n6, c6, fs, t6, rfl, l6, hn6, d6, ht6, g6⟩
    have L6 := Lib.hid l6.le
    have B6 := Lib.hid d6.bel
    clear l6 d6 g6 D5
    go_wp2
    exact bodyPost_ret (v := .tuple #[.slice a2 n2 c2, .slice a6 n6 c6]) (by simp [results, Try.results12, go_sem]) rfl ⟨a2, a6, n2, c2, n6, c6, es, fs, rfl, L4.out.le.below B6.out, L6.out, B4.out.trans (B6.out.mono B4.out.size)⟩
end Go.Proofs.Ytbngdenlplbjhaa

namespace Go.Proofs.Ytbngdenlplbjhaa
open Go.ChangeShapes Go.WideShapes Go.ChangeAt Go.RowKit

def fdE (es : List En) (x t : Int) : Option En := es.find? fun e => decide (e.i = x) && decide (t ≤ e.u)
def inF (x t : Int) : Bool := inB x 0 4294967295 && inB t 0 100000000
def faC (es : List En) (x t : Int) : Int := if cfC es = 0 then (if inF x t = true then (match fdE es x t with | some _ => 0 | none => 4) else 3) else cfC es
def faV (es : List En) (x t : Int) : Int := if cfC es = 0 then (if inF x t = true then (match fdE es x t with | some e => e.m | none => 0) else 0) else 0
theorem fdE_some {es : List En} {x t : Int} {e : En} (h : fdE es x t = some e) : e ∈ es ∧ e.i = x ∧ t ≤ e.u := by
  have h1 := List.find?_some h
  have h2 := List.mem_of_find?_eq_some h
  simp only [Bool.and_eq_true, decide_eq_true_eq] at h1
  exact ⟨h2, h1.1, h1.2⟩
theorem fdE_none {es : List En} {x t : Int} (h : fdE es x t = none) : ∀ e ∈ es, e.i = x → e.u < t := by
  intro e he hi
  have := (List.find?_eq_none.1 h) e he
  simp only [Bool.and_eq_true, decide_eq_true_eq, not_and] at this
  have := this hi
  omega
theorem FA_fa {es : List En} {x t c v : Int} (h : FA es x t c v) : c = faC es x t ∧ v = faV es x t := by
  refine FA_uniq h ?_
  unfold faC faV
  by_cases h0 : cfC es = 0
  · rw [if_pos h0, if_pos h0]
    by_cases h1 : inF x t = true
    · rw [if_pos h1, if_pos h1]
      refine .inr (.inr ⟨h0, h1, ?_⟩)
      cases hf : fdE es x t with
      | none => exact .inl ⟨rfl, rfl, fdE_none hf⟩
      | some e =>
        obtain ⟨h2, h3, h4⟩ := fdE_some hf
        exact .inr ⟨rfl, e, h2, h3, h4, rfl⟩
    · rw [if_neg h1, if_neg h1]
      exact .inr (.inl ⟨h0, by unfold inF at h1; simpa using h1, rfl, rfl⟩)
  · rw [if_neg h0, if_neg h0]
    exact .inl ⟨h0, rfl, rfl⟩
theorem cfC_mk {es : List En} (h1 : es.length ≤ 4) (h2 : es.all okE = true) (h3 : (ips es).Nodup) : cfC es = 0 := by
  unfold cfC
  rw [if_neg (by omega), if_pos h2, if_pos h3]
theorem cfC_sub {es fs : List En} (h : List.Sublist fs es) (h0 : cfC es = 0) : cfC fs = 0 := by
  obtain ⟨h1, h2, h3⟩ := cfC_zero h0
  refine cfC_mk (Nat.le_trans h.length_le h1) ?_ ((h.map En.i).nodup h3)
  rw [List.all_eq_true] at h2 ⊢
  exact fun e he => h2 e (h.subset he)
theorem agE_cf {es : List En} (t : Int) (h0 : cfC es = 0) : cfC (agE t es) = 0 := cfC_sub (List.filter_sublist ..) h0
theorem agE_fd (es : List En) (x t : Int) : fdE (agE t es) x t = fdE es x t := by
  unfold fdE agE
  rw [List.find?_filter]
  congr 1
  funext e
  by_cases h : t ≤ e.u <;> simp [h]
theorem age_find {es : List En} {t : Int} (x : Int) (h : agC es t = 0) : agV es t = agE t es ∧ cfC es = 0 ∧ cfC (agE t es) = 0 ∧ faC (agE t es) x t = faC es x t ∧ faV (agE t es) x t = faV es x t := by
  have hc : cfC es = 0 := by
    unfold agC at h
    split at h
    · assumption
    · exact absurd h (by assumption)
  have hg := agE_cf t hc
  refine ⟨if_pos h, hc, hg, ?_, ?_⟩
  · unfold faC
    rw [if_pos hc, if_pos hg, agE_fd]
  · unfold faV
    rw [if_pos hc, if_pos hg, agE_fd]
theorem ln_zero {es : List En} {x m t : Int} (h : lnC es x m t = 0) : cfC es = 0 ∧ inB x 0 4294967295 = true ∧ inB m 0 281474976710655 = true ∧ 0 ≤ t ∧ t ≤ 100000000 := by
  unfold lnC at h
  split at h
  · next hc =>
    split at h
    · next hb =>
      simp only [Bool.and_eq_true] at hb
      obtain ⟨⟨h1, h2⟩, h3⟩ := hb
      have : 0 ≤ t ∧ t ≤ 100000000 := by unfold inB at h3; simpa using h3
      exact ⟨hc, h1, h2, this⟩
    · omega
  · next hc => exact absurd h hc
theorem room_sub (x : Int) (es : List En) : List.Sublist (roomL (noE x es)) es := (roomL_sub _).trans (List.filter_sublist ..)
theorem room_ne {x : Int} {es : List En} : ∀ e ∈ roomL (noE x es), e.i ≠ x := fun _ he => of_decide_eq_true (List.mem_filter.1 ((roomL_sub _).subset he)).2
theorem ln_cf {es : List En} {x m t : Int} (h : lnC es x m t = 0) : lnV es x m t = lnE x m t es ∧ cfC (lnE x m t es) = 0 := by
  obtain ⟨hc, h1, h2, h3, h4⟩ := ln_zero h
  obtain ⟨k1, k2, k3⟩ := cfC_zero hc
  have hs := room_sub x es
  refine ⟨if_pos h, cfC_mk ?_ ?_ ?_⟩
  · have hl : (noE x es).length ≤ 4 := Nat.le_trans (List.length_filter_le _ _) k1
    have := roomL_len hl
    unfold lnE
    rw [List.length_append]
    simp only [List.length_cons, List.length_nil]
    omega
  · unfold lnE
    rw [List.all_append, Bool.and_eq_true]
    refine ⟨?_, ?_⟩
    · rw [List.all_eq_true] at k2 ⊢
      exact fun e he => k2 e (hs.subset he)
    · have : inB (min (t + 60000) 100000000) 0 100000000 = true := by unfold inB; simp; omega
      simp [okE, h1, h2, this]
  · unfold lnE ips
    rw [List.map_append]
    refine List.nodup_append.2 ⟨(hs.map En.i).nodup k3, by simp, ?_⟩
    intro a ha b hb hab
    obtain ⟨q, hq, rfl⟩ := List.mem_map.1 ha
    simp only [List.map_cons, List.map_nil, List.mem_singleton] at hb
    exact room_ne q hq (hab.trans hb)
theorem ln_fd (es : List En) (x m t t' : Int) : fdE (lnE x m t es) x t' = if t' ≤ min (t + 60000) 100000000 then some ⟨x, m, min (t + 60000) 100000000⟩ else none := by
  unfold fdE lnE
  rw [List.find?_append]
  have h1 : List.find? (fun e => decide (e.i = x) && decide (t' ≤ e.u)) (roomL (noE x es)) = none := by
    rw [List.find?_eq_none]
    intro e he
    have := room_ne e he
    simp [this]
  rw [h1]
  simp only [Option.none_or]
  by_cases h : t' ≤ min (t + 60000) 100000000
  · rw [if_pos h]
    simp [h]
  · rw [if_neg h]
    simp [h]
theorem ln_found {es : List En} {x m t t' : Int} (h : lnC es x m t = 0) (h1 : 0 ≤ t') (h2 : t' ≤ min (t + 60000) 100000000) : faC (lnE x m t es) x t' = 0 ∧ faV (lnE x m t es) x t' = m := by
  obtain ⟨hc, k1, k2, k3, k4⟩ := ln_zero h
  have hb : inF x t' = true := by
    unfold inF
    rw [k1]
    unfold inB
    simp
    omega
  have e : fdE (lnE x m t es) x t' = some ⟨x, m, min (t + 60000) 100000000⟩ := (ln_fd es x m t t').trans (if_pos h2)
  unfold faC faV
  rw [if_pos (ln_cf h).2, if_pos hb, if_pos (ln_cf h).2, if_pos hb, e]
  exact ⟨rfl, rfl⟩
theorem ln_gone {es : List En} {x m t : Int} (h : lnC es x m t = 0) (h1 : t + 60000 < 100000000) : faC (lnE x m t es) x (t + 60000 + 1) = 4 := by
  obtain ⟨hc, k1, k2, k3, k4⟩ := ln_zero h
  have hb : inF x (t + 60000 + 1) = true := by
    unfold inF
    rw [k1]
    unfold inB
    simp
    omega
  have e : fdE (lnE x m t es) x (t + 60000 + 1) = none := (ln_fd es x m t _).trans (if_neg (by omega))
  unfold faC
  rw [if_pos (ln_cf h).2, if_pos hb, e]
end Go.Proofs.Ytbngdenlplbjhaa
