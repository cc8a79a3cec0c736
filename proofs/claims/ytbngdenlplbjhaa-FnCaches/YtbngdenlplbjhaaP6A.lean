/-
  Pieces appended to a list that owns its array; copies of lists of pieces, of the model (l6Copy) and of the program (clonePieces).
-/
import Derived.Test.YtbngdenlplbjhaaP6F
import Derived.Test.YtbngdenlplbjhaaAppR
namespace Go.Proofs.Ytbngdenlplbjhaa
open Go.ChangeShapes Go.WideShapes Go.ChangeAt Go.RowKit

theorem Lb.flat {w : World} {b off : Nat} {len cap : Nat} {ps : List Pm} (h : Lb w (some ⟨b, off, none⟩) len cap ps) : ∀ j u, (cellsOf ps)[j]? = some u → w.cell? ((⟨b, off, none⟩ : Addr).add j) = some u := by
  intro j u hu
  have hlt : j < ps.length * 2 := by
    have := (List.getElem?_eq_some_iff.1 hu).1
    rwa [cellsOf_len] at this
  rcases h.cells with h0 | ⟨b', off', e, hc⟩
  · have := h.length; omega
  · cases e
    obtain ⟨p, hp⟩ : ∃ p, ps[j / 2]? = some p := ⟨_, List.getElem?_eq_getElem (by omega)⟩
    have h1 := cellsOf_at ps (j / 2) p hp
    have h2 := hc (j / 2) p hp
    rw [addr_add]
    rcases Nat.mod_two_eq_zero_or_one j with c | c
    · have ej : j / 2 * 2 = j := by omega
      rw [ej] at h1 h2
      rw [h1.1] at hu
      rw [h2.1]; exact hu
    · have ej : j / 2 * 2 + 1 = j := by omega
      rw [ej] at h1
      have ej' : off + j / 2 * 2 + 1 = off + j := by omega
      rw [ej'] at h2
      rw [h1.2] at hu
      rw [h2.2]; exact hu
theorem cells_one (ps : List Pm) : ∀ u ∈ cellsOf ps, u.oneCell' = true := by
  intro u hu
  induction ps with
  | nil => cases hu
  | cons p ps ih =>
    rw [cellsOf_cons] at hu
    rcases List.mem_cons.1 hu with rfl | hu
    · rfl
    · rcases List.mem_cons.1 hu with rfl | hu
      · rfl
      · exact ih hu
theorem run_append_pieces (w : World) (ty : TypeId) (base : Nat) (a : Option Addr) (len cap : Nat) (ps : List Pm) (hown : Lo w base a len cap ps)
    (b : Option Addr) (lb cb : Nat) (qs : List Pm) (hr : Lb w b lb cb qs) (hb : base ≤ w.heap.size) (hsz : len + lb ≤ 4194304) :
    ∃ a' c' w', (Builtin.append_ #[142, 142] ty #[.slice a len cap, .slice b lb cb]).run Try.prog w = .ok (.slice a' (len + lb) c') w' ∧ Lo w' base a' (len + lb) c' (ps ++ qs) ∧ w.grownBy w' (Value.slice a len cap).ownBlock := by
  obtain ⟨i0, hi, hz0, hz1, hz2⟩ := info_parts Try.infoPiece
  have hl := hown.length
  have hlb := hr.length
  cases b with
  | none =>
    obtain ⟨rfl, rfl⟩ := hr.nil rfl
    obtain rfl : qs = [] := List.length_eq_zero_iff.1 hlb
    have hrun := run_append_owned_none (P := Try.prog) (w := w) base 142 ty 167 i0 2 Try.underlying142 hi _ _ _ hown.row
    exact ⟨a, cap, w, hrun, by simpa using hown, World.grownBy.refl _ _⟩
  | some ad =>
    obtain ⟨v', w', hrun, ho', hg, _⟩ := run_append_own (P := Try.prog) w base 142 ty 167 i0 (.agg #[.int .i64 0, .slice none 0 0]) 2 32 Try.underlying142 hi hz0 hz1 hz2 rfl (by decide) _ _ _ hown.row ad lb cb (cellsOf qs) (by rw [cellsOf_len, hlb]) (by
      rcases hr.cells with h0 | ⟨bb, off, e, hc⟩
      · intro j u hu
        obtain rfl : qs = [] := List.length_eq_zero_iff.1 (by omega)
        simp [cellsOf] at hu
      · cases e
        exact hr.flat) (cells_one _) (by unfold maxLen; omega) (by omega) hb
    have ho'' := ho'
    rw [← cellsOf_app] at ho''
    rcases ho'.2 with ⟨rfl, hn⟩ | ⟨g, c, cur, rfl, _⟩
    · rw [hn] at ho''
      exact ⟨none, 0, w', by rw [hrun, hn], by rw [hn]; exact ⟨ho''⟩, hg⟩
    · exact ⟨_, c, w', hrun, ⟨ho''⟩, hg⟩
theorem append_pieces (w : World) {ops : Array Oper} {rest : List Oper} {o : Oper} {ac : Act} {Q : Exit → Act → World → Prop} (hgd : o.guard = none) (s x : Operand)
    (ho : o.op = .call { callee := .builtin .append, args := #[s, x], argTypes := #[142, 142] })
    (base : Nat) (a : Option Addr) (len cap : Nat) (ps : List Pm) (hs : ac.eval s = .slice a len cap) (hown : Lo w base a len cap ps)
    (b : Option Addr) (lb cb : Nat) (qs : List Pm) (hx : ac.eval x = .slice b lb cb) (hr : Lb w b lb cb qs) (hb : base ≤ w.heap.size) (hsz : len + lb ≤ 4194304)
    (h : ∀ a' c' w', Lo w' base a' (len + lb) c' (ps ++ qs) → w.grownBy w' (Value.slice a len cap).ownBlock → wpList Try.prog ops Q rest (ac.put o.dst (.slice a' (len + lb) c')) w') : wpList Try.prog ops Q (o :: rest) ac w := by
  obtain ⟨a', c', w', hrun, ho', hg⟩ := run_append_pieces w o.type base a len cap ps hown b lb cb qs hr hb hsz
  refine wpList_plain hgd fun K hK => ?_
  unfold Oper.wp execOp
  simp only [ho, resolve, invoke, builtin, Sem.run_bind, Sem.run_pure, Result.andThen_ok, List.map_toArray, List.map_cons, List.map_nil, hs, hx, hrun]
  exact hK _ _ (h a' c' w' ho' hg)
theorem append_pstep (w : World) {ops : Array Oper} {o : Oper} {ac : Act} {K : Act → World → Prop} {Q : Exit → Act → World → Prop} {E : Prop} (hgd : o.guard = none) (s x : Operand)
    (ho : o.op = .call { callee := .builtin .append, args := #[s, x], argTypes := #[142, 142] })
    (base : Nat) (a : Option Addr) (len cap : Nat) (ps : List Pm) (hs : ac.eval s = .slice a len cap) (hown : Lo w base a len cap ps)
    (b : Option Addr) (lb cb : Nat) (qs : List Pm) (hx : ac.eval x = .slice b lb cb) (hr : Lb w b lb cb qs) (hb : base ≤ w.heap.size) (hsz : len + lb ≤ 4194304)
    (h : ∀ a' c' w', Lo w' base a' (len + lb) c' (ps ++ qs) → w.grownBy w' (Value.slice a len cap).ownBlock → Below base w w' → K (ac.put o.dst (.slice a' (len + lb) c')) w') :
    if Region.wanted o (yielded ops ac.tmps) = true then Oper.wp Try.prog o ac w K Q else E := by
  have hw : Region.wanted o (yielded ops ac.tmps) = true := by simp [Region.wanted, hgd]
  rw [if_pos hw]
  obtain ⟨a', c', w', hrun, ho', hg⟩ := run_append_pieces w o.type base a len cap ps hown b lb cb qs hr hb hsz
  unfold Oper.wp execOp
  simp only [ho, resolve, invoke, builtin, Sem.run_bind, Sem.run_pure, Result.andThen_ok, List.map_toArray, List.map_cons, List.map_nil, hs, hx, hrun]
  refine h a' c' w' ho' hg (below_of_grown hg hb fun k e => ?_)
  cases a with
  | none => simp [Value.ownBlock] at e
  | some y =>
    simp [Value.ownBlock] at e
    have := (hown.lt y rfl).1
    omega
/-- bytes and pieces never lie in one block -/
theorem own_lo_ne {w : World} {b b' : Nat} {a a' : Option Addr} {l c l' c' : Nat} {zs : List Int} {ps : List Pm} (h : Own w b a l c zs) (h' : Lo w b' a' l' c' ps) {x y : Addr} (hx : a = some x) (hy : a' = some y) : x.block ≠ y.block := by
  intro e
  rcases h.row.2 with ⟨h1, _⟩ | ⟨g, c1, cur, h1, _, h2, _⟩
  · simp only [Value.slice.injEq] at h1; rw [h1.1] at hx; cases hx
  · rcases h'.row.2 with ⟨k1, _⟩ | ⟨g', c1', cur', k1, _, k2, _⟩
    · simp only [Value.slice.injEq] at k1; rw [k1.1] at hy; cases hy
    · simp only [Value.slice.injEq, true_and] at h1 k1
      rw [h1.1] at hx; rw [k1.1] at hy
      cases hx; cases hy
      simp only at e
      subst e
      rw [h2] at k2
      simp only [Option.some.injEq, Obj.cells.injEq] at k2
      exact absurd k2.2.1 (by decide)
/-- the bytes of pieces in arrays of their own, blocks from lo to hi, no two the same -/
structure Ds (w : World) (lo hi : Nat) (qs : List Pm) : Prop where
  own : ∀ q ∈ qs, Own w lo q.a q.l q.c q.z ∧ ∀ y, q.a = some y → y.block < hi
  sep : qs.Pairwise Sep
theorem Ds.nil (w : World) (lo hi : Nat) : Ds w lo hi [] := ⟨fun _ hq => (by cases hq), List.Pairwise.nil⟩
theorem Ds.same {w w' : World} {lo hi : Nat} {qs : List Pm} (h : Ds w lo hi qs) (hb : ∀ q ∈ qs, ∀ x, q.a = some x → w'.heap[x.block]? = w.heap[x.block]?) : Ds w' lo hi qs :=
  ⟨fun q hq => ⟨(h.own q hq).1.same (hb q hq), (h.own q hq).2⟩, h.sep⟩
theorem Ds.below {w w' : World} {lo hi : Nat} {qs : List Pm} (h : Ds w lo hi qs) (hb : Below w.heap.size w w') : Ds w' lo hi qs := h.same fun q hq x hx => hb.block _ ((h.own q hq).1.lt x hx).2
theorem Ds.mono {w : World} {lo hi hi' : Nat} {qs : List Pm} (h : Ds w lo hi qs) (hh : hi ≤ hi') : Ds w lo hi' qs := ⟨fun q hq => ⟨(h.own q hq).1, fun y hy => by have := (h.own q hq).2 y hy; omega⟩, h.sep⟩
theorem Ds.grown {w w' : World} {lo hi : Nat} {qs : List Pm} {base : Nat} {a : Option Addr} {len cap : Nat} {ps : List Pm} (h : Ds w lo hi qs) (hL : Lo w base a len cap ps) (hg : w.grownBy w' (Value.slice a len cap).ownBlock) : Ds w' lo hi qs :=
  h.same fun q hq x hx => hg.block _ ((h.own q hq).1.lt x hx).2 (fun e => by
    cases a with
    | none => simp [Value.ownBlock] at e
    | some y => simp [Value.ownBlock] at e; exact own_lo_ne (h.own q hq).1 hL hx rfl e)
theorem Ds.snoc {w : World} {lo hi : Nat} {qs : List Pm} (h : Ds w lo hi qs) (q : Pm) (ho : Own w lo q.a q.l q.c q.z) (hn : ∀ y, q.a = some y → hi ≤ y.block) (hw : hi ≤ w.heap.size) : Ds w lo w.heap.size (qs ++ [q]) := by
  refine ⟨fun p hp => ?_, ?_⟩
  · rcases List.mem_append.1 hp with hp | hp
    · exact ⟨(h.own p hp).1, fun y hy => by have := (h.own p hp).2 y hy; omega⟩
    · obtain rfl := List.mem_singleton.1 hp
      exact ⟨ho, fun y hy => (ho.lt y hy).2⟩
  · rw [List.pairwise_append]
    refine ⟨h.sep, List.pairwise_singleton _ _, fun p hp r hr => ?_⟩
    obtain rfl := List.mem_singleton.1 hr
    intro x y hx hy e
    have h1 := (h.own p hp).2 x hx
    have h2 := hn y hy
    omega
theorem Lo.plO {w : World} {lo base hi : Nat} {a : Option Addr} {len cap : Nat} {ps : List Pm} (h : Lo w base a len cap ps) (hd : Ds w lo hi ps) (hl : lo ≤ base) (hh : ∀ x, a = some x → x.block < hi) : PlO w lo hi a len cap ps :=
  ⟨h.lb, h.fz, fun x hx => ⟨by have := (h.lt x hx).1; omega, hh x hx, fun p hp y hy => own_lo_ne (hd.own p hp).1 h hy hx⟩, hd.own, hd.sep⟩
theorem PlO.ds {w : World} {lo hi : Nat} {a : Option Addr} {len cap : Nat} {ps : List Pm} (h : PlO w lo hi a len cap ps) : Ds w lo hi ps := ⟨h.own, h.sep⟩
theorem lo_lit (w : World) (base : Nat) (hb : base ≤ w.heap.size) : Lo (w.alloc (.cells #[] 167)) base (some ⟨w.heap.size, 0, none⟩) 0 0 [] := ⟨World.ownsRow_lit w #[] 0 hb (Nat.zero_le _) rfl⟩
theorem cellsOf_setD (ps : List Pm) (k : Nat) (p : Pm) (hp : ps[k]? = some p) (a : Option Addr) (l c : Nat) (z : List Int) : (cellsOf ps).set (k * 2 + 1) (.slice a l c) = cellsOf (ps.set k ⟨p.k, a, l, c, z⟩) := by
  induction ps generalizing k with
  | nil => simp at hp
  | cons q ps ih =>
    cases k with
    | zero => simp at hp; subst hp; rfl
    | succ k =>
      have e : (k + 1) * 2 + 1 = k * 2 + 1 + 1 + 1 := by omega
      rw [List.set_cons_succ, cellsOf_cons, cellsOf_cons, e, List.set_cons_succ, List.set_cons_succ, ih k (by simpa using hp)]
theorem Lo.putD {w : World} {base g : Nat} {len cap : Nat} {ps : List Pm} (h : Lo w base (some ⟨g, 0, none⟩) len cap ps) (k : Nat) (p : Pm) (hp : ps[k]? = some p) (a : Option Addr) (l c : Nat) (z : List Int) : Lo (w.setCell ⟨g, k * 2 + 1, none⟩ (.slice a l c)) base (some ⟨g, 0, none⟩) len cap (ps.set k ⟨p.k, a, l, c, z⟩) := by
  have := (h.row.stored (k * 2 + 1) (.slice a l c)).1
  rw [cellsOf_setD ps k p hp a l c z] at this
  exact ⟨this⟩
theorem own_of_lo_blk {w : World} {base : Nat} {a : Option Addr} {len cap : Nat} {ps : List Pm} (h : Lo w base a len cap ps) (k : Nat) (e : (Value.slice a len cap).ownBlock = some k) : base ≤ k := by
  cases a with
  | none => simp [Value.ownBlock] at e
  | some y => simp [Value.ownBlock] at e; have := (h.lt y rfl).1; omega
end Go.Proofs.Ytbngdenlplbjhaa
