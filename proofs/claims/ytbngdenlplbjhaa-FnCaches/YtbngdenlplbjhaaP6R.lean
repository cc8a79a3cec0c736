/-
  Lists of pieces in memory, how they are written: one piece of a list is set, its place, its slice, its bytes; a list whose array begins at its block's head (Lo).
-/
import Derived.Test.YtbngdenlplbjhaaP6M
import Derived.Test.YtbngdenlplbjhaaPack
namespace Go.Proofs.Ytbngdenlplbjhaa
open Go.ChangeShapes Go.WideShapes Go.ChangeAt Go.RowKit

def zPm : Pm := ⟨0, none, 0, 0, []⟩
def cellsOf (ps : List Pm) : List Value := ps.flatMap Pm.cs
theorem cellsOf_nil : cellsOf [] = [] := rfl
theorem cellsOf_cons (p : Pm) (ps : List Pm) : cellsOf (p :: ps) = .int .i64 p.k :: .slice p.a p.l p.c :: cellsOf ps := rfl
theorem cellsOf_app (ps qs : List Pm) : cellsOf (ps ++ qs) = cellsOf ps ++ cellsOf qs := by simp [cellsOf]
theorem cellsOf_len (ps : List Pm) : (cellsOf ps).length = ps.length * 2 := by
  induction ps with
  | nil => rfl
  | cons p ps ih => rw [cellsOf_cons]; simp only [List.length_cons, ih]; omega
theorem cellsOf_at (ps : List Pm) (i : Nat) (p : Pm) (h : ps[i]? = some p) : (cellsOf ps)[i * 2]? = some (.int .i64 p.k) ∧ (cellsOf ps)[i * 2 + 1]? = some (.slice p.a p.l p.c) := by
  induction ps generalizing i with
  | nil => simp at h
  | cons q ps ih =>
    rw [cellsOf_cons]
    cases i with
    | zero => simp at h; subst h; exact ⟨rfl, rfl⟩
    | succ i =>
      have e : (i + 1) * 2 = i * 2 + 1 + 1 := by omega
      rw [e]
      simp only [List.getElem?_cons_succ] at h ⊢
      exact ih i h
theorem made_pieces (n : Nat) : (madeCells #[.int .i64 0, .slice none 0 0] (n * 2)).toList = cellsOf (List.replicate n zPm) := by
  apply List.ext_getElem?
  intro j
  by_cases hj : j < n * 2
  · have e1 : (madeCells #[.int .i64 0, .slice none 0 0] (n * 2)).toList[j]? = some ((#[.int .i64 0, .slice none 0 0] : Array Value)[j % 2]!) := by simp [madeCells, hj]
    rw [e1]
    have hz : (List.replicate n zPm)[j / 2]? = some zPm := by rw [List.getElem?_replicate, if_pos (by omega)]
    have h2 := cellsOf_at _ _ _ hz
    rcases Nat.mod_two_eq_zero_or_one j with c | c
    · have ej : j / 2 * 2 = j := by omega
      rw [ej] at h2
      rw [h2.1, c]; rfl
    · have ej : j / 2 * 2 + 1 = j := by omega
      rw [ej] at h2
      rw [h2.2, c]; rfl
  · rw [List.getElem?_eq_none (by simp [size_madeCells]; omega), List.getElem?_eq_none (by rw [cellsOf_len]; simp; omega)]
/-- a list whose array begins at its block's head, a block from base on -/
structure Lo (w : World) (base : Nat) (a : Option Addr) (len cap : Nat) (ps : List Pm) : Prop where
  row : w.ownsRow base 167 2 (.slice a len cap) len (cellsOf ps)
theorem Lo.nil (w : World) (base : Nat) : Lo w base none 0 0 [] := ⟨World.ownsRow_nil _ _ _ _⟩
theorem Lo.shape {w : World} {base : Nat} {a : Option Addr} {len cap : Nat} {ps : List Pm} (h : Lo w base a len cap ps) : (a = none ∧ len = 0 ∧ cap = 0 ∧ ps = []) ∨ ∃ g, a = some ⟨g, 0, none⟩ := by
  have h0 := h.row.1
  rw [cellsOf_len] at h0
  rcases h.row.2 with ⟨h', h1⟩ | ⟨g, c, cur, h', _⟩
  · simp only [Value.slice.injEq] at h'; obtain ⟨rfl, rfl, rfl⟩ := h'; exact .inl ⟨rfl, rfl, rfl, List.length_eq_zero_iff.1 (by omega)⟩
  · simp only [Value.slice.injEq, true_and] at h'; obtain ⟨rfl, rfl⟩ := h'; exact .inr ⟨g, rfl⟩
theorem Lo.length {w : World} {base : Nat} {a : Option Addr} {len cap : Nat} {ps : List Pm} (h : Lo w base a len cap ps) : ps.length = len := by
  have h0 := h.row.1
  rw [cellsOf_len] at h0
  omega
theorem Lo.max {w : World} {base : Nat} {a : Option Addr} {len cap : Nat} {ps : List Pm} (h : Lo w base a len cap ps) : len ≤ cap ∧ cap ≤ maxLen := by
  rcases h.row.2 with ⟨h', h0⟩ | ⟨g, c, cur, h', _, _, h1, h2, _⟩
  · simp only [Value.slice.injEq] at h'; obtain ⟨_, rfl, rfl⟩ := h'; exact ⟨Nat.le_refl _, Nat.zero_le _⟩
  · simp only [Value.slice.injEq, true_and] at h'; obtain ⟨_, rfl⟩ := h'; exact ⟨h1, h2⟩
theorem Lo.lt {w : World} {base : Nat} {a : Option Addr} {len cap : Nat} {ps : List Pm} (h : Lo w base a len cap ps) : ∀ x, a = some x → base ≤ x.block ∧ x.block < w.heap.size := by
  rintro x rfl
  exact h.row.lt x.block rfl
theorem Lo.lb {w : World} {base : Nat} {a : Option Addr} {len cap : Nat} {ps : List Pm} (h : Lo w base a len cap ps) : Lb w a len cap ps := by
  refine ⟨h.length, h.max.1, h.max.2, ?_, ?_⟩
  · rintro rfl
    rcases h.shape with ⟨_, h0, h1, _⟩ | ⟨g, e⟩
    · exact ⟨h0, h1⟩
    · cases e
  rcases h.shape with ⟨_, h0, _⟩ | ⟨g, rfl⟩
  · exact .inl h0
  · refine .inr ⟨g, 0, rfl, fun i p hp => ?_⟩
    have hi : i < len := by have := (List.getElem?_eq_some_iff.1 hp).1; rw [h.length] at this; exact this
    have h2 := cellsOf_at _ _ _ hp
    rw [Nat.zero_add, h.row.cellAt (i * 2) (by omega), h.row.cellAt (i * 2 + 1) (by omega)]
    exact h2
theorem Lo.fz {w : World} {base : Nat} {a : Option Addr} {len cap : Nat} {ps : List Pm} (h : Lo w base a len cap ps) : Fz w a := by
  rintro x rfl
  rcases h.row.2 with ⟨h', _⟩ | ⟨g, c, cur, h', _, h1, _⟩
  · simp at h'
  · simp only [Value.slice.injEq, true_and, Option.some.injEq] at h'; obtain ⟨rfl, rfl⟩ := h'; exact ⟨_, _, h1⟩
theorem Lo.same {w w' : World} {base : Nat} {a : Option Addr} {len cap : Nat} {ps : List Pm} (h : Lo w base a len cap ps) (hb : ∀ x, a = some x → w'.heap[x.block]? = w.heap[x.block]?) : Lo w' base a len cap ps := by
  refine ⟨⟨h.row.1, ?_⟩⟩
  rcases h.row.2 with h0 | ⟨g, c, cur, h1, h2, h3, h4⟩
  · exact .inl h0
  · simp only [Value.slice.injEq, true_and] at h1
    obtain ⟨rfl, rfl⟩ := h1
    exact .inr ⟨g, _, cur, rfl, h2, (hb _ rfl).trans h3, h4⟩
theorem Lo.below {w w' : World} {base : Nat} {a : Option Addr} {len cap : Nat} {ps : List Pm} (h : Lo w base a len cap ps) (hb : Below w.heap.size w w') : Lo w' base a len cap ps := h.same fun x hx => hb.block _ (h.lt x hx).2

theorem addr_ne {b i j : Nat} (h : i ≠ j) : (⟨b, i, none⟩ : Addr) ≠ ⟨b, j, none⟩ := fun e => h (Addr.mk.inj e).2.1
theorem setc_same {w : World} {a : Addr} {u v : Value} (h : w.cell? a = some u) : (w.setCell a v).cell? a = some v := by
  first | exact World.cell?_setCell_same h | exact World.cell?_setCell_same _ h | exact World.cell?_setCell_same _ _ h | exact World.cell?_setCell_same _ _ _ h
theorem setc_other {w : World} {a b : Addr} {v : Value} (h : a ≠ b) : (w.setCell a v).cell? b = w.cell? b := by
  first | exact World.cell?_setCell_other h | exact World.cell?_setCell_other _ h | exact World.cell?_setCell_other _ _ h | exact World.cell?_setCell_other _ _ _ h | exact World.cell?_setCell_other _ _ _ _ h
theorem Lb.putK {w : World} {b off len cap : Nat} {ps : List Pm} (h : Lb w (some ⟨b, off, none⟩) len cap ps) (i : Nat) (p : Pm) (hp : ps[i]? = some p) (n : Int) : Lb (w.setCell ⟨b, off + i * 2, none⟩ (.int .i64 n)) (some ⟨b, off, none⟩) len cap (ps.set i { p with k := n }) := by
  refine ⟨by simpa using h.length, h.le, h.max, h.nil, ?_⟩
  have hlt := (List.getElem?_eq_some_iff.1 hp).1
  rcases h.cells with h0 | ⟨b', off', e, hc⟩
  · have := h.length; omega
  · cases e
    refine .inr ⟨b, off, rfl, fun j q hq => ?_⟩
    rw [List.getElem?_set] at hq
    by_cases c : i = j
    · subst c
      rw [if_pos rfl, if_pos hlt] at hq
      cases hq
      exact ⟨setc_same (hc i p hp).1, (setc_other (addr_ne (by omega))).trans (hc i p hp).2⟩
    · rw [if_neg c] at hq
      exact ⟨(setc_other (addr_ne (by omega))).trans (hc j q hq).1, (setc_other (addr_ne (by omega))).trans (hc j q hq).2⟩
theorem Lb.putD {w : World} {b off len cap : Nat} {ps : List Pm} (h : Lb w (some ⟨b, off, none⟩) len cap ps) (i : Nat) (p : Pm) (hp : ps[i]? = some p) (a : Option Addr) (l c : Nat) (z : List Int) : Lb (w.setCell ⟨b, off + i * 2 + 1, none⟩ (.slice a l c)) (some ⟨b, off, none⟩) len cap (ps.set i ⟨p.k, a, l, c, z⟩) := by
  refine ⟨by simpa using h.length, h.le, h.max, h.nil, ?_⟩
  have hlt := (List.getElem?_eq_some_iff.1 hp).1
  rcases h.cells with h0 | ⟨b', off', e, hc⟩
  · have := h.length; omega
  · cases e
    refine .inr ⟨b, off, rfl, fun j q hq => ?_⟩
    rw [List.getElem?_set] at hq
    by_cases c : i = j
    · subst c
      rw [if_pos rfl, if_pos hlt] at hq
      cases hq
      exact ⟨(setc_other (addr_ne (by omega))).trans (hc i p hp).1, setc_same (hc i p hp).2⟩
    · rw [if_neg c] at hq
      exact ⟨(setc_other (addr_ne (by omega))).trans (hc j q hq).1, (setc_other (addr_ne (by omega))).trans (hc j q hq).2⟩
theorem Fz.set {w : World} {b off : Nat} (h : Fz w (some ⟨b, off, none⟩)) (j : Nat) (u : Value) : Fz (w.setCell ⟨b, j, none⟩ u) (some ⟨b, off, none⟩) := by
  obtain ⟨cs, t, e⟩ := h _ rfl
  rintro x hx
  cases hx
  exact ⟨_, t, heap_setCell_same w b j cs t u e⟩
theorem Fz.setOther {w : World} {a : Option Addr} (h : Fz w a) (p : Addr) (u : Value) (hne : ∀ x, a = some x → x.block ≠ p.block) : Fz (w.setCell p u) a := h.same fun x hx => heap_setCell_other w p x.block u (fun e => hne x hx e)
/-- the slices of the pieces are apart: from each other and from the block b -/
theorem pairwise_set {ps : List Pm} {R : Pm → Pm → Prop} (hs : ∀ p q, R p q → R q p) (h : ps.Pairwise R) (i : Nat) (q : Pm) (hq : ∀ j p, j ≠ i → ps[j]? = some p → R p q) : (ps.set i q).Pairwise R := by
  induction ps generalizing i with
  | nil => simp
  | cons x xs ih =>
    rw [List.pairwise_cons] at h
    cases i with
    | zero =>
      rw [List.set_cons_zero, List.pairwise_cons]
      refine ⟨fun y hy => ?_, h.2⟩
      obtain ⟨j, hj⟩ := List.getElem?_of_mem hy
      exact hs _ _ (hq (j + 1) y (by omega) (by simpa using hj))
    | succ i =>
      rw [List.set_cons_succ, List.pairwise_cons]
      refine ⟨fun y hy => ?_, ih h.2 i (fun j p hj hp => hq (j + 1) p (by omega) (by simpa using hp))⟩
      rcases List.mem_or_eq_of_mem_set hy with hy | rfl
      · exact h.1 y hy
      · exact hq 0 x (by omega) rfl
def Sep (p q : Pm) : Prop := ∀ x y, p.a = some x → q.a = some y → x.block ≠ y.block
theorem sep_symm (p q : Pm) (h : Sep p q) : Sep q p := fun x y hx hy e => h y x hy hx e.symm
theorem pairwise_at {ps : List Pm} {R : Pm → Pm → Prop} (hs : ∀ p q, R p q → R q p) (h : ps.Pairwise R) {i j : Nat} {p q : Pm} (hij : j ≠ i) (hp : ps[j]? = some p) (hq : ps[i]? = some q) : R p q := by
  rw [List.pairwise_iff_getElem] at h
  obtain ⟨hj, ej⟩ := List.getElem?_eq_some_iff.1 hp
  obtain ⟨hi, ei⟩ := List.getElem?_eq_some_iff.1 hq
  subst ej ei
  rcases Nat.lt_or_gt_of_ne hij with c | c
  · exact h j i hj hi c
  · exact hs _ _ (h i j hi hj c)
/-- the whole list is laid anew: its cells and the piece at i -/
theorem PlO.remake {w w' : World} {lo hi b off : Nat} {len cap : Nat} {ps : List Pm} (h : PlO w lo hi (some ⟨b, off, none⟩) len cap ps) (i : Nat) (q : Pm)
    (hl : Lb w' (some ⟨b, off, none⟩) len cap (ps.set i q)) (hf : Fz w' (some ⟨b, off, none⟩)) (hq : Own w' lo q.a q.l q.c q.z) (hhi : ∀ y, q.a = some y → y.block < hi ∧ y.block ≠ b)
    (hne : ∀ j p, j ≠ i → ps[j]? = some p → Sep p q) (hkeep : ∀ j p, j ≠ i → ps[j]? = some p → ∀ x, p.a = some x → w'.heap[x.block]? = w.heap[x.block]?) : PlO w' lo hi (some ⟨b, off, none⟩) len cap (ps.set i q) := by
  have mem : ∀ p ∈ ps.set i q, p = q ∨ ∃ j, j ≠ i ∧ ps[j]? = some p := by
    intro p hp
    obtain ⟨j, hj⟩ := List.getElem?_of_mem hp
    rw [List.getElem?_set] at hj
    by_cases c : i = j
    · rw [if_pos c] at hj
      split at hj
      · cases hj; exact .inl rfl
      · cases hj
    · rw [if_neg c] at hj
      exact .inr ⟨j, fun e => c e.symm, hj⟩
  refine ⟨hl, hf, fun x hx => ?_, fun p hp => ?_, pairwise_set sep_symm h.sep i q hne⟩
  · have h0 := h.blk x hx
    refine ⟨h0.1, h0.2.1, fun p hp y hy => ?_⟩
    cases hx
    rcases mem p hp with rfl | ⟨j, hj, hpj⟩
    · exact (hhi y hy).2
    · exact h0.2.2 p (List.mem_of_getElem? hpj) y hy
  · rcases mem p hp with rfl | ⟨j, hj, hpj⟩
    · exact ⟨hq, fun y hy => (hhi y hy).1⟩
    · have h0 := h.own p (List.mem_of_getElem? hpj)
      exact ⟨h0.1.same (hkeep j p hj hpj), h0.2⟩
theorem PlO.putK {w : World} {lo hi b off : Nat} {len cap : Nat} {ps : List Pm} (h : PlO w lo hi (some ⟨b, off, none⟩) len cap ps) (i : Nat) (p : Pm) (hp : ps[i]? = some p) (n : Int) : PlO (w.setCell ⟨b, off + i * 2, none⟩ (.int .i64 n)) lo hi (some ⟨b, off, none⟩) len cap (ps.set i { p with k := n }) := by
  have hm := List.mem_of_getElem? hp
  have h0 := h.own p hm
  have h1 := h.blk _ rfl
  refine h.remake i _ (h.lb.putK i p hp n) (h.fz.set _ _) (h0.1.setOther _ _ (fun x hx => h1.2.2 p hm x hx)) (fun y hy => ⟨h0.2 y hy, h1.2.2 p hm y hy⟩) (fun j q hj hq => ?_) (fun j q hj hq x hx => heap_setCell_other w _ x.block _ (fun e => h1.2.2 q (List.mem_of_getElem? hq) x hx e))
  have := pairwise_at (R := Sep) sep_symm h.sep hj hq hp
  exact this
/-- the bytes of the piece at i are written -/
theorem PlO.putZ {w w' : World} {lo hi b off : Nat} {len cap : Nat} {ps : List Pm} (h : PlO w lo hi (some ⟨b, off, none⟩) len cap ps) (i : Nat) (p : Pm) (hp : ps[i]? = some p) (z : List Int) (ho : Own w' lo p.a p.l p.c z) (hg : w.grownBy w' (Value.slice p.a p.l p.c).ownBlock) : PlO w' lo hi (some ⟨b, off, none⟩) len cap (ps.set i { p with z := z }) := by
  have hm := List.mem_of_getElem? hp
  have h0 := h.own p hm
  have h1 := h.blk _ rfl
  have hrow : ∀ k, k < w.heap.size → (∀ x, p.a = some x → x.block ≠ k) → w'.heap[k]? = w.heap[k]? := fun k hk hne => hg.block k hk (by
    intro e
    cases ha : p.a with
    | none => rw [ha] at e; simp [Value.ownBlock] at e
    | some x => rw [ha] at e; simp [Value.ownBlock] at e; exact hne x ha e.symm)
  have hb : ∀ x, (some ⟨b, off, none⟩ : Option Addr) = some x → w'.heap[x.block]? = w.heap[x.block]? := by
    intro x hx
    cases hx
    exact hrow b h.fz.lt (fun x hx => h1.2.2 p hm x hx)
  have hlb := h.lb.same hb
  have hl : Lb w' (some ⟨b, off, none⟩) len cap (ps.set i { p with z := z }) := by
    refine ⟨by simpa using hlb.length, hlb.le, hlb.max, hlb.nil, ?_⟩
    rcases hlb.cells with h0 | ⟨b', off', e, hc⟩
    · exact .inl h0
    · cases e
      refine .inr ⟨b, off, rfl, fun j q hq => ?_⟩
      rw [List.getElem?_set] at hq
      by_cases c : i = j
      · subst c
        rw [if_pos rfl] at hq
        split at hq
        · cases hq; exact hc i p hp
        · cases hq
      · rw [if_neg c] at hq
        exact hc j q hq
  refine h.remake i _ hl (h.fz.same hb) ho (fun y hy => ⟨h0.2 y hy, h1.2.2 p hm y hy⟩) (fun j q hj hq => ?_) (fun j q hj hq x hx => ?_)
  · have := pairwise_at (R := Sep) sep_symm h.sep hj hq hp
    exact this
  · have hs := pairwise_at (R := Sep) sep_symm h.sep hj hq hp
    have h2 := (h.own q (List.mem_of_getElem? hq)).1.lt x hx
    exact hrow _ h2.2 (fun y hy e => hs x y hx hy e.symm)
/-- the piece at i gets bytes in a new block -/
theorem PlO.putN {w : World} {lo hi b off : Nat} {len cap : Nat} {ps : List Pm} (h : PlO w lo hi (some ⟨b, off, none⟩) len cap ps) (i : Nat) (p : Pm) (hp : ps[i]? = some p) (n : Int) (a : Option Addr) (l c : Nat) (z : List Int) (ho : Own w lo a l c z) (hn : ∀ y, a = some y → hi ≤ y.block) (hw : hi ≤ w.heap.size) :
    PlO ((w.setCell ⟨b, off + i * 2, none⟩ (.int .i64 n)).setCell ⟨b, off + i * 2 + 1, none⟩ (.slice a l c)) lo w.heap.size (some ⟨b, off, none⟩) len cap (ps.set i ⟨n, a, l, c, z⟩) := by
  have h1 := h.blk _ rfl
  have hpk := h.lb.putK i p hp n
  have hlt := (List.getElem?_eq_some_iff.1 hp).1
  have hl := hpk.putD i { p with k := n } (by rw [List.getElem?_set, if_pos rfl, if_pos hlt]) a l c z
  rw [List.set_set] at hl
  refine (h.mono (Nat.le_refl _) hw).remake i _ hl ((h.fz.set _ _).set _ _) ((ho.setOther _ _ (fun x hx e => ?_)).setOther _ _ (fun x hx e => ?_)) (fun y hy => ⟨(ho.lt y hy).2, fun e => ?_⟩) (fun j q hj hq x y hx hy e => ?_) (fun j q hj hq x hx => ?_)
  · have := hn x hx; dsimp only at e h1; omega
  · have := hn x hx; dsimp only at e h1; omega
  · have := hn y hy; dsimp only at e h1; omega
  · have := hn y hy; have := (h.own q (List.mem_of_getElem? hq)).2 x hx; omega
  · have h2 := h1.2.2 q (List.mem_of_getElem? hq) x hx
    have e1 : (w.setCell ⟨b, off + i * 2, none⟩ (.int .i64 n)).heap[x.block]? = w.heap[x.block]? := heap_setCell_other w ⟨b, off + i * 2, none⟩ x.block (.int .i64 n) h2
    have e2 := heap_setCell_other (w.setCell ⟨b, off + i * 2, none⟩ (.int .i64 n)) ⟨b, off + i * 2 + 1, none⟩ x.block (.slice a l c) h2
    exact e2.trans e1
end Go.Proofs.Ytbngdenlplbjhaa
