/-
  l7Learn of the model: an entry appended behind the first one of a list.
-/
import Derived.Test.YtbngdenlplbjhaaC7A
import Derived.Test.YtbngdenlplbjhaaC7L
import Derived.ArgAppend
namespace Go.Proofs.Ytbngdenlplbjhaa
open Go.ChangeShapes Go.WideShapes Go.ChangeAt Go.RowKit

theorem Lw.behind {w : World} {base g n cap : Nat} {es : List En} (h : Lw w base (some ⟨g, 0, none⟩) (n + 1) (cap + 1) es) : EO w base w.heap.size (some ⟨g, 3, none⟩) n cap (es.drop 1) := by
  have hl := h.length
  have hm := h.max
  have ho := h.eo (hi := w.heap.size) (fun x hx => (h.lt x hx).2)
  refine ⟨⟨by rw [List.length_drop]; omega, by omega, by omega, by simp, ?_⟩, ?_, fun x hx => ?_⟩
  · refine .inr ⟨g, 3, rfl, fun i e he => ?_⟩
    rw [List.getElem?_drop] at he
    rcases h.le.cells with h0 | ⟨b, off, e', hc⟩
    · omega
    · cases e'
      have := hc (1 + i) e he
      have e1 : 0 + (1 + i) * 3 = 3 + i * 3 := by omega
      rw [e1] at this
      exact this
  · intro x hx
    cases hx
    exact ho.fz ⟨g, 0, none⟩ rfl
  · cases hx
    exact ho.blk ⟨g, 0, none⟩ rfl
theorem run_append_behind (w : World) (ty : TypeId) (base g n cap : Nat) (es : List En) (hown : Lw w base (some ⟨g, 0, none⟩) (n + 1) (cap + 1) es)
    (x : Addr) (e : En) (hr : Le w (some x) 1 1 [e]) (hb : base ≤ w.heap.size) (hsz : n ≤ 1000) :
    ∃ a' c' w', (Builtin.append_ #[24, 24] ty #[.slice (some ⟨g, 3, none⟩) n cap, .slice (some x) 1 1]).run Try.prog w = .ok (.slice a' (n + 1) c') w' ∧ EO w' base w'.heap.size a' (n + 1) c' (es.drop 1 ++ [e]) ∧ Below base w w' := by
  obtain ⟨i0, hi, hz0, hz1, hz2⟩ := info_parts Try.infoEntry
  have hl := hown.length
  have hflat : ∀ j u, (cellsE [e])[j]? = some u → w.cell? (x.add j) = some u := by
    rcases hr.cells with h0 | ⟨bb, off, e', hc⟩
    · omega
    · cases e'
      exact hr.flat
  have hn3 : (cellsE [e]).length = 1 * i0.size := by rw [cellsE_len, hz1]; rfl
  by_cases hg : cap < n + 1
  · have hdl : (cellsE (es.drop 1)).length = n * 3 := by rw [cellsE_len, List.length_drop]; omega
    obtain ⟨v', w', hrun, ho', hgr⟩ := run_append_arg_grows (P := Try.prog) (w := w) 24 ty 43 i0 (.agg #[.int .i64 0, .int .i64 0, .int .i64 0]) 3 24 Try.underlying24 hi hz0 hz1 hz2 rfl (by decide) ⟨g, 3, none⟩ n cap (cellsE (es.drop 1)) hdl (hown.behind.le.flat) x 1 1 (cellsE [e]) (by rw [cellsE_len]; rfl) hflat hg (by unfold maxLen; omega) (by omega)
    rw [← cellsE_app] at ho'
    rcases ho'.2 with ⟨_, h0⟩ | ⟨g', c, cur, rfl, _⟩
    · omega
    · have hL : Lw w' w.heap.size (some ⟨g', 0, none⟩) (n + 1) c (es.drop 1 ++ [e]) := ⟨ho'⟩
      exact ⟨_, c, w', hrun, (hL.eo (fun x hx => (hL.lt x hx).2)).mono hb (Nat.le_refl _), below_of_grown hgr hb (by simp)⟩
  · have hroom : n + 1 ≤ cap := by omega
    obtain ⟨cur, hg1, hcs⟩ : ∃ cur, w.heap[g]? = some (.cells cur 43 (0, 0)) ∧ cur.size = (cap + 1) * 3 := by
      rcases hown.row.2 with ⟨h1, _⟩ | ⟨g', c, cur, h1, h2, h3, h4, h5, h6, h7⟩
      · cases h1
      · simp only [Value.slice.injEq, true_and] at h1
        obtain ⟨h1, rfl⟩ := h1
        cases h1
        exact ⟨cur, h3, h6⟩
    have hcell : ∀ j, j < (cap + 1) * 3 → (w.cell? ⟨g, j, none⟩).isSome = true := fun j hj => by
      rw [cell_of_row w g j cur _ (0, 0) hg1, Array.getElem?_eq_getElem (by omega)]; rfl
    have hfz : ∀ j, w.frozen? ⟨g, j, none⟩ = false := fun j => frozen_of_row w g j cur _ hg1
    have hA := run_append_room_cells (P := Try.prog) (w := w) (ty := ty) 24 43 i0 Try.underlying24 hi g 3 n cap x 1 1 (cellsE [e]) hn3 hflat (cellsE_one _) hroom
      (fun j hj => by rw [hn3, hz1] at hj; rw [hz1]; exact hcell _ (by omega)) (fun j _ => hfz _)
    have hB := run_append_room_cells (P := Try.prog) (w := w) (ty := ty) 24 43 i0 Try.underlying24 hi g 0 (n + 1) (cap + 1) x 1 1 (cellsE [e]) hn3 hflat (cellsE_one _) (by omega)
      (fun j hj => by rw [hn3, hz1] at hj; rw [hz1]; exact hcell _ (by omega)) (fun j _ => hfz _)
    obtain ⟨a', c', w', hrun, ho', hg'⟩ := run_append_entries w ty base (some ⟨g, 0, none⟩) (n + 1) (cap + 1) es hown (some x) 1 1 [e] hr hb (by omega)
    rw [hB] at hrun
    have e1 : 0 + (n + 1) * i0.size = 3 + n * i0.size := by rw [hz1]; omega
    simp only [Result.ok.injEq, Value.slice.injEq] at hrun
    obtain ⟨⟨rfl, _, rfl⟩, hw⟩ := hrun
    rw [e1] at hw
    rw [hw] at hA
    have hq := ho'.behind
    rw [List.drop_append_of_le_length (by omega)] at hq
    exact ⟨_, _, w', hA, hq, below_of_grown hg' hb (by intro k hk; simp [Value.ownBlock] at hk; subst hk; exact (hown.lt _ rfl).1)⟩
theorem append_behind (w : World) {ops : Array Oper} {rest : List Oper} {o : Oper} {ac : Act} {Q : Exit → Act → World → Prop} (hgd : o.guard = none) (s y : Operand)
    (ho : o.op = .call { callee := .builtin .append, args := #[s, y], argTypes := #[24, 24] })
    (base g n cap : Nat) (es : List En) (hs : ac.eval s = .slice (some ⟨g, 3, none⟩) n cap) (hown : Lw w base (some ⟨g, 0, none⟩) (n + 1) (cap + 1) es)
    (x : Addr) (e : En) (hx : ac.eval y = .slice (some x) 1 1) (hr : Le w (some x) 1 1 [e]) (hb : base ≤ w.heap.size) (hsz : n ≤ 1000)
    (h : ∀ a' c' w', EO w' base w'.heap.size a' (n + 1) c' (es.drop 1 ++ [e]) → Below base w w' → wpList Try.prog ops Q rest (ac.put o.dst (.slice a' (n + 1) c')) w') : wpList Try.prog ops Q (o :: rest) ac w := by
  obtain ⟨a', c', w', hrun, ho', hg⟩ := run_append_behind w o.type base g n cap es hown x e hr hb hsz
  refine wpList_plain hgd fun K hK => ?_
  unfold Oper.wp execOp
  simp only [ho, resolve, invoke, builtin, Sem.run_bind, Sem.run_pure, Result.andThen_ok, List.map_toArray, List.map_cons, List.map_nil, hs, hx, hrun]
  exact hK _ _ (h a' c' w' ho' hg)

theorem l1Min7_any (x y : Int) (w : World) : Calls Try.prog 80 #[.int .i64 x, .int .i64 y] w fun e w' => e = .returned (.int .i64 (min x y)) ∧ w = w' := by
  by_cases h : x < y
  · go_enter Try.func80, Try.ntmps80
    go_wp2
    go_ret
    exact ⟨ret_i (by omega), rfl⟩
  · go_enter Try.func80, Try.ntmps80
    go_wp2
    go_ret
    exact ⟨ret_i (by omega), rfl⟩
theorem noE_succ {es : List En} {k : Nat} {e : En} (x : Int) (h : es[k]? = some e) : noE x (es.take (k + 1)) = noE x (es.take k) ++ if e.i ≠ x then [e] else [] := by
  unfold noE
  rw [List.take_add_one, h, List.filter_append]
  congr 1
  by_cases c : e.i ≠ x
  · simp [c]
  · simp [c]
set_option maxHeartbeats 4000000 in
theorem l7Learn_any (a : Option Addr) (len cap : Nat) (es : List En) (x m t : Int) (w : World) (h : Le w a len cap es) (hl : len ≤ 4) (ht : 0 ≤ t ∧ t ≤ 100000000) :
    Calls Try.prog 50 #[.slice a len cap, .int .i64 x, .int .i64 m, .int .i64 t] w (EsOut w (lnE x m t es)) := by
  have HP := Lib.hid h
  have HL := Lib.hid h.length
  have L0 := Lib.hid (lw_lit w w.heap.size (Nat.le_refl _))
  have B0 := Lib.hid ((Below.refl w.heap.size w).alloc (Nat.le_refl _) (.cells #[] 43))
  clear h
  go_enter Try.func50, Try.ntmps50
  go_wp2
  go_loopw [9, 10] (fun o i wr => ∃ (k : Nat) (a1 : Option Addr) (n1 c1 : Nat), k ≤ len ∧ i = .int .i64 k ∧ o = .slice a1 n1 c1 ∧ n1 ≤ k ∧ Hid (Lw wr w.heap.size a1 n1 c1 (noE x (es.take k))) ∧ Hid (Below w.heap.size w wr)) (fun _ i _ => len - (intOf i).toNat)
  case atStart => exact ⟨0, _, 0, _, Nat.zero_le _, rfl, rfl, Nat.le_refl _, L0.out, B0.out⟩
  case round =>
    obtain ⟨k, a1, n1, c1, hk, rfl, rfl, hn, hL, hB⟩ := hrel
    clear L0 B0
    by_cases hlt : k < len
    · obtain ⟨b, off, e, rfl, hp, c0, c1', c2⟩ := (HP.out.below hB.out).at hlt
      have hv := noE_succ x hp
      clear hp
      obtain ⟨ei, em, eu⟩ := e
      simp only at c0 c1' c2 hv
      by_cases hc : ei ≠ x
      · rw [if_pos hc] at hv
        have HV := Lib.hid hv
        have e0 : (ei != x) = true := by simpa using hc
        clear hv hc
        have LA := Lib.hid (hL.out.alloc (.cells #[.int .i64 ei, .int .i64 em, .int .i64 eu] 43))
        have XA := Lib.hid (le_box ⟨ei, em, eu⟩ (Box.new wr 43 #[.int .i64 ei, .int .i64 em, .int .i64 eu]))
        have BA := Lib.hid (hB.out.alloc hB.out.size (.cells #[.int .i64 ei, .int .i64 em, .int .i64 eu] 43))
        go_wp2_with (at_builtin; refine append_entries _ rfl (.tmp 25) (.tmp 30) rfl w.heap.size _ _ _ _ rfl LA.out _ _ _ _ rfl XA.out BA.out.size (by omega) ?_; intro a2 c2 w2 l2 g2 b2; have L2 := Lib.hid l2; have B2 := Lib.hid (BA.out.trans b2); clear l2 g2 b2)
        go_roundw
        case rel => exact ⟨k + 1, a2, n1 + 1, c2, by omega, by go_num, rfl, by omega, by rw [HV.out]; exact L2.out, B2.out⟩
        case measure => simp [intOf]; omega
      · rw [if_neg hc, List.append_nil] at hv
        have HV := Lib.hid hv
        have e0 : (ei != x) = false := by simpa using hc
        clear hv hc
        go_wp2
        go_roundw
        case rel => exact ⟨k + 1, a1, n1, c1, by omega, by go_num, rfl, by omega, by rw [HV.out]; exact hL.out, hB.out⟩
        case measure => simp [intOf]; omega
    · obtain rfl : k = len := by omega
      have hE : Hid (Lw wr w.heap.size a1 n1 c1 (noE x es)) := by
        have e := hL.out
        rwa [List.take_of_length_le (by rw [HL.out]; exact Nat.le_refl _)] at e
      have hN : (noE x es).length = n1 := hE.out.length
      clear hL
      have KM := Lib.hid (fun W => l1Min7_any (t + 60000) 100000000 W)
      obtain ⟨u, hu⟩ : ∃ u, u = min (t + 60000) 100000000 := ⟨_, rfl⟩
      rw [← hu] at KM
      have HU : Hid (lnE x m t es = roomL (noE x es) ++ [⟨x, m, u⟩]) := by rw [hu]; exact rfl
      clear hu
      have LA := Lib.hid (hE.out.alloc (.cells #[.int .i64 x, .int .i64 m, .int .i64 u] 43))
      have XA := Lib.hid (le_box ⟨x, m, u⟩ (Box.new wr 43 #[.int .i64 x, .int .i64 m, .int .i64 u]))
      have BA := Lib.hid (hB.out.alloc hB.out.size (.cells #[.int .i64 x, .int .i64 m, .int .i64 u] 43))
      by_cases h4 : 4 ≤ n1
      · rcases hE.out.shape with ⟨_, h0, _⟩ | ⟨g, rfl⟩
        · omega
        obtain rfl : n1 = 4 := by omega
        have hcm := hE.out.max
        obtain ⟨c, rfl⟩ : ∃ c, c1 = c + 1 := ⟨c1 - 1, by omega⟩
        have hV : Hid (lnE x m t es = (noE x es).drop 1 ++ [⟨x, m, u⟩]) := HU.out.trans (by
          unfold roomL
          rw [if_pos (by omega)])
        have hc1 : ¬ (c + 1 = 1) := by omega
        unfold maxLen at hcm
        have LD := Lib.hid (show Lw (wr.alloc (.cells #[.int .i64 x, .int .i64 m, .int .i64 u] 43)) w.heap.size (some ⟨g, 0, none⟩) (3 + 1) (c + 1) (noE x es) from LA.out)
        clear hN HU hE
        go_wp2_with (first
          | (go_at_call 80; refine (KM.out _).mono ?_; rintro e w' ⟨rfl, rfl⟩)
          | (at_builtin; refine append_behind _ rfl (.tmp 37) (.tmp 44) rfl w.heap.size g 3 c _ rfl LD.out _ _ rfl XA.out BA.out.size (by omega) ?_; intro a2 c2 w2 l2 b2; have L2 := Lib.hid l2; have B2 := Lib.hid (BA.out.trans b2); clear l2 b2))
        go_ret
        exact ⟨_, _, _, rfl, by rw [hV.out]; exact L2.out, B2.out⟩
      · have hV : Hid (lnE x m t es = noE x es ++ [⟨x, m, u⟩]) := HU.out.trans (by
          unfold roomL
          rw [if_neg (by omega)])
        clear hN HU hE
        go_wp2_with (first
          | (go_at_call 80; refine (KM.out _).mono ?_; rintro e w' ⟨rfl, rfl⟩)
          | (at_builtin; refine append_entries _ rfl (.tmp 37) (.tmp 44) rfl w.heap.size _ _ _ _ rfl LA.out _ _ _ _ rfl XA.out BA.out.size (by omega) ?_; intro a2 c2 w2 l2 g2 b2; have L2 := Lib.hid l2; have B2 := Lib.hid (BA.out.trans b2); clear l2 g2 b2))
        go_ret
        exact ⟨_, _, _, rfl, by rw [hV.out]; exact L2.out.eo (fun x hx => (L2.out.lt x hx).2), B2.out⟩
end Go.Proofs.Ytbngdenlplbjhaa
