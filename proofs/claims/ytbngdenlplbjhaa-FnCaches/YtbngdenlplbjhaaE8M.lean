/-
  Lists of entries that a call owns, wherever in their block they begin (EO); marked entries; contracts of the helpers of the laws that mark lists of entries, look whether the marks are held, and compare results with them.
-/
import Derived.Test.YtbngdenlplbjhaaE7S
import Derived.Test.YtbngdenlplbjhaaP6R
namespace Go.Proofs.Ytbngdenlplbjhaa
open Go.ChangeShapes Go.WideShapes Go.ChangeAt Go.RowKit

/-- the slice owns its array, a block from lo to hi -/
structure EO (w : World) (lo hi : Nat) (a : Option Addr) (len cap : Nat) (es : List En) : Prop where
  le : Le w a len cap es
  fz : Fz w a
  blk : ∀ x, a = some x → lo ≤ x.block ∧ x.block < hi
theorem Le.same {w w' : World} {a : Option Addr} {len cap : Nat} {es : List En} (h : Le w a len cap es) (hb : ∀ x, a = some x → w'.heap[x.block]? = w.heap[x.block]?) : Le w' a len cap es := by
  refine ⟨h.length, h.le, h.max, h.nil, ?_⟩
  rcases h.cells with h0 | ⟨b, off, rfl, hc⟩
  · exact .inl h0
  · have e := hb _ rfl
    exact .inr ⟨b, off, rfl, fun i p hi => ⟨(same_cell (p := ⟨b, off + i * 3, none⟩) e).trans (hc i p hi).1, (same_cell (p := ⟨b, off + i * 3 + 1, none⟩) e).trans (hc i p hi).2.1, (same_cell (p := ⟨b, off + i * 3 + 2, none⟩) e).trans (hc i p hi).2.2⟩⟩
theorem EO.keep {w w' : World} {lo hi : Nat} {a : Option Addr} {len cap : Nat} {es : List En} (h : EO w lo hi a len cap es) (hb : ∀ k, lo ≤ k → k < hi → k < w.heap.size → w'.heap[k]? = w.heap[k]?) : EO w' lo hi a len cap es := by
  have ha : ∀ x, a = some x → w'.heap[x.block]? = w.heap[x.block]? := fun x hx => by
    have := h.blk x hx
    subst hx
    exact hb _ this.1 this.2 h.fz.lt
  exact ⟨h.le.same ha, h.fz.same ha, h.blk⟩
theorem EO.below {w w' : World} {lo hi : Nat} {a : Option Addr} {len cap : Nat} {es : List En} (h : EO w lo hi a len cap es) (hb : Below w.heap.size w w') : EO w' lo hi a len cap es := h.keep fun k _ _ hk => hb.block k hk
theorem EO.under {w w' : World} {lo hi B : Nat} {a : Option Addr} {len cap : Nat} {es : List En} (h : EO w lo hi a len cap es) (hb : Below B w w') (hB : hi ≤ B) : EO w' lo hi a len cap es := h.keep fun k _ hk _ => hb.block k (by omega)
theorem EO.drew {w : World} {lo hi : Nat} {a : Option Addr} {len cap : Nat} {es : List En} (h : EO w lo hi a len cap es) : EO w.drew lo hi a len cap es := h.below (Below.refl _ w).drew
theorem EO.turn {w w' : World} {lo hi lo' hi' : Nat} {a : Option Addr} {len cap : Nat} {es : List En} (h : EO w lo hi a len cap es) (ht : Turn lo' hi' w w') (hd : hi ≤ lo' ∨ hi' ≤ lo) : EO w' lo hi a len cap es := h.keep fun k h1 h2 h3 => ht.block k h3 (by omega)
theorem EO.mono {w : World} {lo hi lo' hi' : Nat} {a : Option Addr} {len cap : Nat} {es : List En} (h : EO w lo hi a len cap es) (h1 : lo' ≤ lo) (h2 : hi ≤ hi') : EO w lo' hi' a len cap es :=
  ⟨h.le, h.fz, fun x hx => ⟨by have := h.blk x hx; omega, by have := h.blk x hx; omega⟩⟩
theorem EO.nil0 (w : World) (lo hi : Nat) : EO w lo hi none 0 0 [] := ⟨Le.nil0 w, fun _ hx => (by cases hx), fun _ hx => (by cases hx)⟩
theorem Lw.eo {w : World} {base hi : Nat} {a : Option Addr} {len cap : Nat} {es : List En} (h : Lw w base a len cap es) (hh : ∀ x, a = some x → x.block < hi) : EO w base hi a len cap es := by
  refine ⟨h.le, fun x hx => ?_, fun x hx => ⟨(h.lt x hx).1, hh x hx⟩⟩
  rcases h.row.2 with ⟨h1, _⟩ | ⟨g, c, cur, h1, _, h2, _⟩
  · simp only [Value.slice.injEq] at h1
    rw [h1.1] at hx; cases hx
  · simp only [Value.slice.injEq, true_and] at h1
    obtain ⟨rfl, rfl⟩ := h1
    cases hx
    exact ⟨_, _, h2⟩
theorem cell_set_ne {w : World} {b i j : Nat} (v : Value) (h : i ≠ j) : (w.setCell ⟨b, i, none⟩ v).cell? ⟨b, j, none⟩ = w.cell? ⟨b, j, none⟩ := World.cell?_setCell_other _ _ _ _ (by intro e; cases e; exact h rfl)
theorem cell_set_eq {w : World} {b i : Nat} {u : Value} (v : Value) (h : w.cell? ⟨b, i, none⟩ = some u) : (w.setCell ⟨b, i, none⟩ v).cell? ⟨b, i, none⟩ = some v := World.cell?_setCell_same _ _ _ h
theorem EO.put {w : World} {lo hi b off : Nat} {len cap : Nat} {es : List En} (h : EO w lo hi (some ⟨b, off, none⟩) len cap es) (k : Nat) (hk : k < len) (e : En) :
    EO (((w.setCell ⟨b, off + k * 3, none⟩ (.int .i64 e.i)).setCell ⟨b, off + k * 3 + 1, none⟩ (.int .i64 e.m)).setCell ⟨b, off + k * 3 + 2, none⟩ (.int .i64 e.u)) lo hi (some ⟨b, off, none⟩) len cap (es.set k e) := by
  refine ⟨⟨by rw [List.length_set]; exact h.le.length, h.le.le, h.le.max, h.le.nil, ?_⟩, ((h.fz.set _ _).set _ _).set _ _, h.blk⟩
  rcases h.le.cells with h0 | ⟨b', off', e', hc⟩
  · omega
  cases e'
  refine .inr ⟨b, off, rfl, fun j q hq => ?_⟩
  by_cases hj : j = k
  · subst hj
    rw [List.getElem?_set_self (by rw [h.le.length]; exact hk)] at hq
    cases hq
    obtain ⟨_, _, p, e1, hp, c0, c1, c2⟩ := h.le.at hk
    cases e1
    refine ⟨?_, ?_, ?_⟩
    · rw [cell_set_ne _ (by omega), cell_set_ne _ (by omega)]; exact cell_set_eq _ c0
    · rw [cell_set_ne _ (by omega)]
      refine cell_set_eq (u := .int .i64 p.m) _ ?_
      rw [cell_set_ne _ (by omega)]; exact c1
    · refine cell_set_eq (u := .int .i64 p.u) _ ?_
      rw [cell_set_ne _ (by omega), cell_set_ne _ (by omega)]; exact c2
  · rw [List.getElem?_set_ne (by omega)] at hq
    obtain ⟨c0, c1, c2⟩ := hc j q hq
    have h1 : j * 3 + 3 ≤ k * 3 ∨ k * 3 + 3 ≤ j * 3 := by omega
    refine ⟨?_, ?_, ?_⟩
    · rw [cell_set_ne _ (by omega), cell_set_ne _ (by omega), cell_set_ne _ (by omega)]; exact c0
    · rw [cell_set_ne _ (by omega), cell_set_ne _ (by omega), cell_set_ne _ (by omega)]; exact c1
    · rw [cell_set_ne _ (by omega), cell_set_ne _ (by omega), cell_set_ne _ (by omega)]; exact c2

/-- the entries when they are marked from k0 on -/
def markE : Nat → List En → List En
  | _, [] => []
  | k0, _ :: es => ⟨k0, k0 + 1, k0 + 1 + 1⟩ :: markE (k0 + 3) es
theorem markE_app (k0 : Nat) (es fs : List En) : markE k0 (es ++ fs) = markE k0 es ++ markE (k0 + es.length * 3) fs := by
  induction es generalizing k0 with
  | nil => simp [markE]
  | cons p es ih =>
    simp only [List.cons_append, markE, ih, List.length_cons]
    have e : k0 + 3 + es.length * 3 = k0 + (es.length + 1) * 3 := by omega
    rw [e]
theorem markE_len (k0 : Nat) (es : List En) : (markE k0 es).length = es.length := by
  induction es generalizing k0 with
  | nil => rfl
  | cons p es ih => simp only [markE, List.length_cons, ih]
theorem markE_at (k0 k : Nat) (es : List En) (p : En) (h : es[k]? = some p) : (markE k0 es)[k]? = some ⟨(k0 + k * 3 : Nat), ((k0 + k * 3 : Nat) : Int) + 1, ((k0 + k * 3 : Nat) : Int) + 1 + 1⟩ := by
  have hlt := (List.getElem?_eq_some_iff.1 h).1
  have e : es = es.take k ++ (p :: es.drop (k + 1)) := by
    rw [← (List.getElem?_eq_some_iff.1 h).2, ← List.drop_eq_getElem_cons hlt, List.take_append_drop]
  have hk : (es.take k).length = k := by rw [List.length_take]; omega
  conv => lhs; rw [e, markE_app, markE]
  rw [List.getElem?_append_right (by rw [markE_len]; omega), markE_len, hk, Nat.sub_self]
  rfl
theorem markE_step (k0 k : Nat) (es : List En) (p : En) (h : es[k]? = some p) : (markE k0 (es.take k) ++ es.drop k).set k ⟨(k0 + k * 3 : Nat), ((k0 + k * 3 : Nat) : Int) + 1, ((k0 + k * 3 : Nat) : Int) + 1 + 1⟩ = markE k0 (es.take (k + 1)) ++ es.drop (k + 1) := by
  have hlt := (List.getElem?_eq_some_iff.1 h).1
  have hk : (es.take k).length = k := by rw [List.length_take]; omega
  rw [List.set_append_right _ _ (by rw [markE_len]; omega), markE_len, hk, Nat.sub_self, List.drop_eq_getElem_cons hlt, (List.getElem?_eq_some_iff.1 h).2, List.set_cons_zero, List.take_add_one, h, Option.toList_some, markE_app, hk]
  simp [markE]

end Go.Proofs.Ytbngdenlplbjhaa
