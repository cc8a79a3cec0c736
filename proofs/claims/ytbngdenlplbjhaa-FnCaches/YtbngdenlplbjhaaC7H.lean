/-
  The entries of a map of notes, out of the contract of inOrder.
-/
import Derived.Test.YtbngdenlplbjhaaC7G
import Derived.Deep.RegionHeld3
namespace Go.Proofs.Ytbngdenlplbjhaa
open Go.ChangeShapes Go.WideShapes Go.ChangeAt Go.RowKit
open Go.ChangeMaps (setBlock)

/-- the slice reads as these neighbours -/
structure Nb (w : World) (a : Option Addr) (len cap : Nat) (is : List Int) : Prop where
  length : is.length = len
  le : len ≤ cap
  max : cap ≤ maxLen
  ty : ∀ x, a = some x → ∃ cs z, w.heap[x.block]? = some (.cells cs 83 z)
  cells : len = 0 ∨ ∃ b off, a = some ⟨b, off, none⟩ ∧ ∀ i x, is[i]? = some x → w.cell? ⟨b, off + i, none⟩ = some (.int .i64 x)
theorem Nb.lt {w : World} {a : Option Addr} {len cap : Nat} {is : List Int} (h : Nb w a len cap is) : ∀ x, a = some x → x.block < w.heap.size := fun x hx => by
  obtain ⟨_, _, e⟩ := h.ty x hx
  exact (Array.getElem?_eq_some_iff.1 e).1
theorem Nb.same {w w' : World} {a : Option Addr} {len cap : Nat} {is : List Int} (h : Nb w a len cap is) (hb : ∀ x, a = some x → w'.heap[x.block]? = w.heap[x.block]?) : Nb w' a len cap is := by
  refine ⟨h.length, h.le, h.max, fun x hx => ?_, ?_⟩
  · obtain ⟨cs, z, e⟩ := h.ty x hx
    exact ⟨cs, z, (hb x hx).trans e⟩
  · rcases h.cells with h0 | ⟨b, off, rfl, hc⟩
    · exact .inl h0
    · exact .inr ⟨b, off, rfl, fun i x hx => (same_cell (p := ⟨b, off + i, none⟩) (show w'.heap[b]? = w.heap[b]? from hb ⟨b, off, none⟩ rfl)).trans (hc i x hx)⟩
theorem Nb.below {w w' : World} {a : Option Addr} {len cap : Nat} {is : List Int} (h : Nb w a len cap is) (hb : Below w.heap.size w w') : Nb w' a len cap is := h.same fun x hx => hb.block _ (h.lt x hx)
/-- entries and neighbours never lie in one block -/
theorem nb_lw_ne {w : World} {base : Nat} {a a' : Option Addr} {l c l' c' : Nat} {is : List Int} {es : List En} (h : Nb w a l c is) (h' : Lw w base a' l' c' es) {x y : Addr} (hx : a = some x) (hy : a' = some y) : x.block ≠ y.block := by
  intro e
  obtain ⟨cs, z, e1⟩ := h.ty x hx
  rcases h'.row.2 with ⟨k1, _⟩ | ⟨g', c1', cur', k1, _, k2, _⟩
  · simp only [Value.slice.injEq] at k1; rw [k1.1] at hy; cases hy
  · simp only [Value.slice.injEq, true_and] at k1
    rw [k1.1] at hy
    cases hy
    rw [e] at e1
    rw [e1] at k2
    simp at k2
theorem Nb.grown {w w' : World} {base : Nat} {a a' : Option Addr} {l c l' c' : Nat} {is : List Int} {es : List En} (h : Nb w a l c is) (h' : Lw w base a' l' c' es) (hg : w.grownBy w' (Value.slice a' l' c').ownBlock) : Nb w' a l c is :=
  h.same fun x hx => hg.block _ (h.lt x hx) (fun e => by
    cases a' with
    | none => simp [Value.ownBlock] at e
    | some y => simp [Value.ownBlock] at e; exact nb_lw_ne h h' hx rfl e)
theorem append_estep (w : World) {ops : Array Oper} {o : Oper} {ac : Act} {K : Act → World → Prop} {Q : Exit → Act → World → Prop} {E : Prop} (hgd : o.guard = none) (s x : Operand)
    (ho : o.op = .call { callee := .builtin .append, args := #[s, x], argTypes := #[24, 24] })
    (base : Nat) (a : Option Addr) (len cap : Nat) (es : List En) (hs : ac.eval s = .slice a len cap) (hown : Lw w base a len cap es)
    (b : Option Addr) (lb cb : Nat) (fs : List En) (hx : ac.eval x = .slice b lb cb) (hr : Le w b lb cb fs) (hb : base ≤ w.heap.size) (hsz : len + lb ≤ 4194304)
    (h : ∀ a' c' w', Lw w' base a' (len + lb) c' (es ++ fs) → w.grownBy w' (Value.slice a len cap).ownBlock → Below base w w' → K (ac.put o.dst (.slice a' (len + lb) c')) w') :
    if Region.wanted o (yielded ops ac.tmps) = true then Oper.wp Try.prog o ac w K Q else E := by
  have hw : Region.wanted o (yielded ops ac.tmps) = true := by simp [Region.wanted, hgd]
  rw [if_pos hw]
  obtain ⟨a', c', w', hrun, ho', hg⟩ := run_append_entries w o.type base a len cap es hown b lb cb fs hr hb hsz
  unfold Oper.wp execOp
  simp only [ho, resolve, invoke, builtin, Sem.run_bind, Sem.run_pure, Result.andThen_ok, List.map_toArray, List.map_cons, List.map_nil, hs, hx, hrun]
  exact h a' c' w' ho' hg (below_of_grown hg hb fun k e => lw_blk hown k e)
theorem Nb.at {w : World} {a : Option Addr} {len cap : Nat} {is : List Int} (h : Nb w a len cap is) {i : Nat} (hi : i < len) : ∃ b off x, a = some ⟨b, off, none⟩ ∧ is[i]? = some x ∧ w.cell? ⟨b, off + i, none⟩ = some (.int .i64 x) := by
  rcases h.cells with h0 | ⟨b, off, rfl, hc⟩
  · omega
  · have hp : is[i]? = some (is[i]'(by have := h.length; omega)) := List.getElem?_eq_getElem _
    exact ⟨b, off, _, rfl, hp, hc i _ hp⟩
theorem Mp.get {w : World} {b : Nat} {ns : List Nt} {es : Array MapEntry} {clock : Nat} (h : Mp w b ns es clock) {n : Nt} (hn : n ∈ ns) :
    (Instr.lookup 80 (.map (some b)) (KN n.i) false).run Try.prog w = .ok (NV n) w := by
  obtain ⟨l, hl⟩ := key7 (h.ok n hn)
  rcases h.find w (h.ok n hn) with ⟨_, h2, _⟩ | ⟨j, q, e, h1, h2, h3, _, _⟩
  · exact absurd rfl (h2 n hn)
  · have : q = n := by
      obtain ⟨i, hi⟩ := List.getElem?_of_mem hn
      have ha := List.pairwise_iff_getElem.1 h.apart
      have l1 := (List.getElem?_eq_some_iff.1 h2).1
      have l2 := (List.getElem?_eq_some_iff.1 hi).1
      have e1 := (List.getElem?_eq_some_iff.1 h2).2
      have e2 := (List.getElem?_eq_some_iff.1 hi).2
      rcases Nat.lt_trichotomy j i with c | c | c
      · have := ha j i l1 l2 c
        rw [e1, e2] at this
        exact absurd h3 this
      · subst c
        rw [← e1, ← e2]
      · have := ha i j l2 l1 c
        rw [e1, e2] at this
        exact absurd h3.symm this
    subst this
    simp [Instr.lookup, run_underlying Try.underlying80, MapKept.run_getObj_map h.hb, Try.keyed7.check w _ hl, h1, Result.andThen]
/-- the neighbours of a map, in the order of their places -/
def OrdC : Prop := ∀ (W : World) (b : Nat) (ns : List Nt) (ms : Array MapEntry) (clock : Nat), Mp W b ns ms clock → ns.length ≤ 4 → Up ns →
  Calls Try.prog 42 #[.map (some b)] W fun e w' => ∃ a len cap, e = .returned (.slice a len cap) ∧ Nb w' a len cap (ns.map (·.i)) ∧ Below W.heap.size W w'
theorem ents_succ {ns : List Nt} {k : Nat} {n : Nt} (h : ns[k]? = some n) : ents (ns.take (k + 1)) = ents (ns.take k) ++ [n.en] := by
  unfold ents
  rw [List.take_add_one, h]
  simp

theorem field_nt0 (w : World) (m u p : Int) : (Instr.field 87 (.agg #[.int .i64 m, .int .i64 u, .int .i64 p]) 0).run Try.prog w = .ok (.int .i64 m) w := by
  simp [Instr.field, asAgg, go_sem]
theorem field_nt1 (w : World) (m u p : Int) : (Instr.field 87 (.agg #[.int .i64 m, .int .i64 u, .int .i64 p]) 1).run Try.prog w = .ok (.int .i64 u) w := by
  simp [Instr.field, asAgg, go_sem]
theorem hgA (a1 : Option Addr) (l c : Nat) {g5 : Nat} (h : ∀ x, a1 = some x → x.block < g5) : some g5 ≠ (Value.slice a1 l c).ownBlock := fun e => by
  cases a1 with
  | none => simp [Value.ownBlock] at e
  | some y =>
    have := h y rfl
    simp [Value.ownBlock] at e
    omega
set_option maxRecDepth 20000 in
set_option maxHeartbeats 4000000 in
theorem entries_any (hO : OrdC) : EntC := by
  intro w b ns ms clock hm h4 hu
  obtain ⟨i0, hi, hz0, hz1, hz2⟩ := info_parts Try.infoEntry
  have KO := Lib.hid (fun W (hW : Below w.heap.size w W) => hO W b ns ms clock (hm.below hW) h4 hu)
  have HM := Lib.hid hm
  obtain ⟨n, hn⟩ : ∃ n, n = ns.length := ⟨_, rfl⟩
  have HN := Lib.hid hn
  have hnl : n ≤ 4 := by omega
  have hlen := fun ty => hm.len ty
  rw [← hn] at hlen
  clear hm hO h4 hu hn
  go_enter Try.func43, Try.ntmps43
  go_wp2_with (at_make; refine wpList_make_own _ rfl (.const (.int .i64 0)) (.tmp 7) 24 rfl w.heap.size 43 i0 (.agg #[.int .i64 0, .int .i64 0, .int .i64 0]) 3 Try.underlying24 hi hz0 hz1 .i64 .i64 n n rfl rfl rfl (by rw [hz2]; omega) (by unfold maxLen; omega) (Nat.le_refl _) ?_; intro w1 hown hgrow)
  have L1 := Lib.hid (show Lw w1 w.heap.size (some ⟨w.heap.size, 0, none⟩) 0 n [] from ⟨hown⟩)
  have B1 := Lib.hid (below_of_grown hgrow (Nat.le_refl w.heap.size) (by simp))
  clear hown hgrow hi hz0 hz1 hz2
  refine (KO.out _ B1.out).mono ?_
  rintro e w2 ⟨a2, n2, c2, rfl, nb2, b2⟩
  have N2 := Lib.hid nb2
  have L2 := Lib.hid (L1.out.below b2)
  have B2 := Lib.hid (B1.out.trans (b2.mono B1.out.size))
  obtain rfl : n2 = n := by have := nb2.length; rw [List.length_map, ← HN.out] at this; exact this.symm
  clear nb2 b2 L1 B1 KO hlen
  go_wp2_with fail
  go_loopw [3, 12] (fun o i wr => ∃ (k : Nat) (a1 : Option Addr) (c1 : Nat), k ≤ n2 ∧ i = .int .i64 k ∧ o = .slice a1 k c1 ∧ Hid (Lw wr w.heap.size a1 k c1 (ents (ns.take k))) ∧ Hid (Nb wr a2 n2 c2 (ns.map (·.i))) ∧ Hid (Below w.heap.size w wr)) (fun _ i _ => n2 - (intOf i).toNat)
  case atStart => exact ⟨0, _, _, Nat.zero_le _, rfl, rfl, L2.out, N2.out, B2.out⟩
  case round =>
    obtain ⟨k, a1, c1, hk, rfl, rfl, hL, hNb, hB⟩ := hrel
    clear L2 N2 B2
    by_cases hlt : k < n2
    · obtain ⟨q, hq⟩ : ∃ q, ns[k]? = some q := ⟨_, List.getElem?_eq_getElem (by rw [← HN.out]; exact hlt)⟩
      obtain ⟨bb, off, x, rfl, hx, cx⟩ := hNb.out.at hlt
      rw [List.getElem?_map, hq, Option.map_some] at hx
      cases hx
      have HV := Lib.hid (ents_succ hq)
      have HQ := Lib.hid (List.mem_of_getElem? hq)
      obtain ⟨qi, qm, qu, qp⟩ := q
      simp only at cx
      have g := (Below.refl _ wr).alloc (Nat.le_refl _) (.cells #[.int .i64 qi] 83)
      have L3 := Lib.hid (hL.out.below g)
      have N3 := Lib.hid (hNb.out.below g)
      have B3 := Lib.hid (hB.out.trans (g.mono hB.out.size))
      have X3 := Lib.hid (Box.new wr 83 #[.int .i64 qi])
      have M3 := Lib.hid ((HM.out.below hB.out).below g)
      have HL1 : Hid (∀ x, a1 = some x → x.block < wr.heap.size) := fun x hx => (hL.out.lt x hx).2
      clear g hL hNb hB hq
      have hbw : wr.heap.size < (wr.alloc (.cells #[.int .i64 qi] 83)).heap.size := X3.out.lt
      have hgl : Hid (∀ x, a1 = some x → x.block < wr.heap.size) := HL1.out
      clear HL1
      go_wp2_with fail
      generalize wr.heap.size = g5 at *
      generalize wr.alloc (.cells #[.int .i64 qi] 83) = W1 at *
      have SS := Lib.hid (show ∀ W, Hid (Box W g5 83 #[.int .i64 qi] ∧ Mp W b ns ms clock) → (W.cell? ⟨g5, 0, none⟩ = some (.int .i64 qi) ∧ (Instr.lookup 80 (.map (some b)) (.agg #[.int .i64 qi]) false).run Try.prog W = .ok (.agg #[.int .i64 qm, .int .i64 qu, .int .i64 qp]) W ∧ Hid (Box W g5 83 #[.int .i64 qi] ∧ Mp W b ns ms clock)) from fun W hW => ⟨hW.out.1.cell 0, hW.out.2.get HQ.out, hW⟩)
      have uI0 : Hid (Box W1.drew g5 83 #[.int .i64 qi] ∧ Mp W1.drew b ns ms clock) := ⟨X3.out.below (Below.refl _ W1).drew X3.out.lt, M3.out.drew⟩
      have D3 := (Below.refl W1.heap.size W1).drew
      have LA := Lib.hid ((L3.out.below D3).alloc (.cells #[.int .i64 qi, .int .i64 qm, .int .i64 qu] 43))
      have NA := Lib.hid ((N3.out.below D3).below ((Below.refl _ W1.drew).alloc (Nat.le_refl _) (.cells #[.int .i64 qi, .int .i64 qm, .int .i64 qu] 43)))
      have XA := Lib.hid (le_box ⟨qi, qm, qu⟩ (Box.new W1.drew 43 #[.int .i64 qi, .int .i64 qm, .int .i64 qu]))
      have BA := Lib.hid (B3.out.drew.alloc B3.out.drew.size (.cells #[.int .i64 qi, .int .i64 qm, .int .i64 qu] 43))
      have uA : Hid (Box (W1.drew.alloc (.cells #[.int .i64 qi, .int .i64 qm, .int .i64 qu] 43)) g5 83 #[.int .i64 qi] ∧ Mp (W1.drew.alloc (.cells #[.int .i64 qi, .int .i64 qm, .int .i64 qu] 43)) b ns ms clock) := ⟨uI0.out.1.alloc _, uI0.out.2.alloc _⟩
      obtain ⟨x0, hlk, _⟩ := SS.out _ uI0
      have fn0 := fun W => field_nt0 W qm qu qp
      have fn1 := fun W => field_nt1 W qm qu qp
      clear D3 L3 N3 B3 X3 M3 cx
      go_region_held3 (fun W => W.cell? ⟨g5, 0, none⟩ = some (.int .i64 qi) ∧ (Instr.lookup 80 (.map (some b)) (.agg #[.int .i64 qi]) false).run Try.prog W = .ok (.agg #[.int .i64 qm, .int .i64 qu, .int .i64 qp]) W ∧ Hid (Box W g5 83 #[.int .i64 qi] ∧ Mp W b ns ms clock))
        (first
          | (go_split_ands; refine SS.out _ ?_; (with_reducible assumption))
          | (go_split_ands; refine SS.out _ ?_; exact uA))
        (first
          | (refine append_estep _ rfl (.tmp 16) (.tmp 28) rfl w.heap.size _ _ _ _ rfl LA.out _ _ _ _ rfl XA.out BA.out.size (by omega) ?_; intro a3 c3 w3 l3 g3 hb; have uI1 : Hid (Box w3 g5 83 #[.int .i64 qi] ∧ Mp w3 b ns ms clock) := ⟨(g3.block _ uA.out.1.lt (hgA a1 _ _ hgl.out)).trans uA.out.1, HM.out.below (BA.out.trans hb)⟩))
      all_goals
        have NB3 : Hid (Nb w3 (some ⟨bb, off, none⟩) n2 c2 (ns.map (·.i))) := NA.out.grown LA.out g3
        have B4 : Hid (Below w.heap.size w w3) := BA.out.trans hb
        have L4 : Hid (Lw w3 w.heap.size a3 (k + 1) c3 (ents (ns.take (k + 1)))) := by simp only [Hid]; rw [HV.out]; exact l3
        clear l3 g3 hb uI1 uA uI0 SS LA NA XA BA x0 hlk fn0 fn1
        go_wp2
        go_roundw
        case rel => exact ⟨k + 1, a3, c3, by omega, by go_num, rfl, L4.out, NB3.out, B4.out⟩
        case measure => simp [intOf]; omega
    · obtain rfl : k = n2 := by omega
      have hE : Hid (Lw wr w.heap.size a1 k c1 (ents ns)) := by
        have e := hL.out
        rwa [List.take_of_length_le (by rw [← HN.out]; exact Nat.le_refl _)] at e
      clear hL
      go_wp2
      go_ret
      exact ⟨_, _, _, rfl, hE.out.eo (fun x hx => (hE.out.lt x hx).2), hB.out⟩
end Go.Proofs.Ytbngdenlplbjhaa
