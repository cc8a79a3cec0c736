/-
  Lists of pieces in memory: what it is that a slice reads as pieces (Lb, Pl), that it owns its array and those of its bytes (PlO), and how these are kept.
-/
import Derived.Test.YtbngdenlplbjhaaCat
namespace Go.Proofs.Ytbngdenlplbjhaa
open Go.ChangeShapes Go.WideShapes Go.ChangeAt Go.RowKit

/-- a piece in memory: its place, its slice, its bytes -/
structure Pm where
  k : Int
  a : Option Addr
  l : Nat
  c : Nat
  z : List Int
def Pm.v (p : Pm) : Int × List Int := (p.k, p.z)
def Pm.cs (p : Pm) : List Value := [.int .i64 p.k, .slice p.a p.l p.c]
def vals (ps : List Pm) : List (Int × List Int) := ps.map Pm.v
/-- the slice's cells are those of the pieces ps -/
structure Lb (w : World) (a : Option Addr) (len cap : Nat) (ps : List Pm) : Prop where
  length : ps.length = len
  le : len ≤ cap
  max : cap ≤ maxLen
  nil : a = none → len = 0 ∧ cap = 0
  cells : len = 0 ∨ ∃ b off, a = some ⟨b, off, none⟩ ∧ ∀ i p, ps[i]? = some p → w.cell? ⟨b, off + i * 2, none⟩ = some (.int .i64 p.k) ∧ w.cell? ⟨b, off + i * 2 + 1, none⟩ = some (.slice p.a p.l p.c)
/-- the slice reads as the pieces ps -/
structure Pl (w : World) (a : Option Addr) (len cap : Nat) (ps : List Pm) : Prop where
  lb : Lb w a len cap ps
  data : ∀ p ∈ ps, Rd w p.a p.l p.c p.z
/-- the array can be written -/
def Fz (w : World) (a : Option Addr) : Prop := ∀ x, a = some x → ∃ cs t, w.heap[x.block]? = some (.cells cs t (0, 0))
/-- the slice owns its array, and each piece that of its bytes, all of them blocks from lo to hi, no two the same -/
structure PlO (w : World) (lo hi : Nat) (a : Option Addr) (len cap : Nat) (ps : List Pm) : Prop where
  lb : Lb w a len cap ps
  fz : Fz w a
  blk : ∀ x, a = some x → lo ≤ x.block ∧ x.block < hi ∧ ∀ p ∈ ps, ∀ y, p.a = some y → y.block ≠ x.block
  own : ∀ p ∈ ps, Own w lo p.a p.l p.c p.z ∧ ∀ y, p.a = some y → y.block < hi
  sep : ps.Pairwise fun p q => ∀ x y, p.a = some x → q.a = some y → x.block ≠ y.block

/-- blocks outside lo to hi are as they were -/
structure Turn (lo hi : Nat) (w w' : World) : Prop where
  os : w'.os = w.os
  tape : w'.tape = w.tape
  output : w'.output = w.output
  size : w.heap.size ≤ w'.heap.size
  block : ∀ k, k < w.heap.size → k < lo ∨ hi ≤ k → w'.heap[k]? = w.heap[k]?
theorem Turn.refl (lo hi : Nat) (w : World) : Turn lo hi w w := ⟨rfl, rfl, rfl, Nat.le_refl _, fun _ _ _ => rfl⟩
theorem Turn.trans {lo hi : Nat} {a b c : World} (h : Turn lo hi a b) (k : Turn lo hi b c) : Turn lo hi a c :=
  ⟨k.os.trans h.os, k.tape.trans h.tape, k.output.trans h.output, Nat.le_trans h.size k.size, fun i hi' q => (k.block i (Nat.lt_of_lt_of_le hi' h.size) q).trans (h.block i hi' q)⟩
theorem Turn.mono {lo hi lo' hi' : Nat} {a b : World} (h : Turn lo hi a b) (h1 : lo' ≤ lo) (h2 : hi ≤ hi') : Turn lo' hi' a b :=
  ⟨h.os, h.tape, h.output, h.size, fun i hi q => h.block i hi (by omega)⟩
theorem Turn.below {lo hi : Nat} {a b : World} (h : Turn lo hi a b) (hl : lo ≤ a.heap.size) : Below lo a b :=
  ⟨h.os, h.tape, h.output, h.size, fun k hk => h.block k (by omega) (.inl hk)⟩
theorem Turn.of_grown {lo hi g : Nat} {a b : World} (h : a.grownBy b (some g)) (h1 : lo ≤ g) (h2 : g < hi) : Turn lo hi a b :=
  ⟨h.os, h.tape, h.output, h.size, fun k hk q => h.block k hk (by intro e; cases e; omega)⟩
theorem Turn.of_below {lo hi : Nat} {a b : World} (h : Below a.heap.size a b) : Turn lo hi a b :=
  ⟨h.os, h.tape, h.output, h.size, fun k hk _ => h.block k hk⟩

theorem same_cell {w w' : World} {p : Addr} (h : w'.heap[p.block]? = w.heap[p.block]?) : w'.cell? p = w.cell? p := World.cell?_of_block h
theorem Rd.same {w w' : World} {a : Option Addr} {len cap : Nat} {zs : List Int} (h : Rd w a len cap zs) (hb : ∀ x, a = some x → w'.heap[x.block]? = w.heap[x.block]?) : Rd w' a len cap zs := by
  refine ⟨h.length, h.le, h.max, h.b8, h.nil, ?_⟩
  rcases h.cells with h0 | ⟨b, off, rfl, hc⟩
  · exact .inl h0
  · exact .inr ⟨b, off, rfl, fun i hi => (same_cell (p := ⟨b, off + i, none⟩) (hb ⟨b, off, none⟩ rfl)).trans (hc i hi)⟩
theorem Own.same {w w' : World} {base : Nat} {a : Option Addr} {len cap : Nat} {zs : List Int} (h : Own w base a len cap zs) (hb : ∀ x, a = some x → w'.heap[x.block]? = w.heap[x.block]?) : Own w' base a len cap zs := by
  refine ⟨⟨h.row.1, ?_⟩, h.b8⟩
  rcases h.row.2 with h0 | ⟨g, c, cur, h1, h2, h3, h4⟩
  · exact .inl h0
  · simp only [Value.slice.injEq, true_and] at h1
    obtain ⟨rfl, rfl⟩ := h1
    exact .inr ⟨g, _, cur, rfl, h2, (hb _ rfl).trans h3, h4⟩
theorem Own.baseTo {w : World} {base base' : Nat} {a : Option Addr} {len cap : Nat} {zs : List Int} (h : Own w base a len cap zs) (hb : ∀ x, a = some x → base' ≤ x.block) : Own w base' a len cap zs := by
  refine ⟨⟨h.row.1, ?_⟩, h.b8⟩
  rcases h.row.2 with h0 | ⟨g, c, cur, h1, h2, h3, h4⟩
  · exact .inl h0
  · simp only [Value.slice.injEq, true_and] at h1
    obtain ⟨rfl, rfl⟩ := h1
    exact .inr ⟨g, _, cur, rfl, hb _ rfl, h3, h4⟩
theorem Lb.same {w w' : World} {a : Option Addr} {len cap : Nat} {ps : List Pm} (h : Lb w a len cap ps) (hb : ∀ x, a = some x → w'.heap[x.block]? = w.heap[x.block]?) : Lb w' a len cap ps := by
  refine ⟨h.length, h.le, h.max, h.nil, ?_⟩
  rcases h.cells with h0 | ⟨b, off, rfl, hc⟩
  · exact .inl h0
  · exact .inr ⟨b, off, rfl, fun i p hi => ⟨(same_cell (p := ⟨b, off + i * 2, none⟩) (hb ⟨b, off, none⟩ rfl)).trans (hc i p hi).1, (same_cell (p := ⟨b, off + i * 2 + 1, none⟩) (hb ⟨b, off, none⟩ rfl)).trans (hc i p hi).2⟩⟩
theorem Lb.below {w w' : World} {a : Option Addr} {len cap : Nat} {ps : List Pm} (h : Lb w a len cap ps) (hb : Below w.heap.size w w') : Lb w' a len cap ps := by
  refine ⟨h.length, h.le, h.max, h.nil, ?_⟩
  rcases h.cells with h0 | ⟨b, off, rfl, hc⟩
  · exact .inl h0
  · exact .inr ⟨b, off, rfl, fun i p hi => ⟨keepB' hb (hc i p hi).1, keepB' hb (hc i p hi).2⟩⟩
theorem Pl.below {w w' : World} {a : Option Addr} {len cap : Nat} {ps : List Pm} (h : Pl w a len cap ps) (hb : Below w.heap.size w w') : Pl w' a len cap ps :=
  ⟨h.lb.below hb, fun p hp => (h.data p hp).below hb⟩
theorem Pl.drew {w : World} {a : Option Addr} {len cap : Nat} {ps : List Pm} (h : Pl w a len cap ps) : Pl w.drew a len cap ps := h.below (Below.refl _ w).drew
theorem Lb.drew {w : World} {a : Option Addr} {len cap : Nat} {ps : List Pm} (h : Lb w a len cap ps) : Lb w.drew a len cap ps := h.below (Below.refl _ w).drew
theorem Pl.alloc {w : World} {a : Option Addr} {len cap : Nat} {ps : List Pm} (h : Pl w a len cap ps) (o : Obj) : Pl (w.alloc o) a len cap ps := h.below ((Below.refl _ _).alloc (Nat.le_refl _) o)
theorem PlO.pl {w : World} {lo hi : Nat} {a : Option Addr} {len cap : Nat} {ps : List Pm} (h : PlO w lo hi a len cap ps) : Pl w a len cap ps := ⟨h.lb, fun p hp => (h.own p hp).1.rd⟩
theorem Fz.same {w w' : World} {a : Option Addr} (h : Fz w a) (hb : ∀ x, a = some x → w'.heap[x.block]? = w.heap[x.block]?) : Fz w' a := fun x hx => by
  obtain ⟨cs, t, e⟩ := h x hx
  exact ⟨cs, t, (hb x hx).trans e⟩
theorem Fz.lt {w : World} {x : Addr} (h : Fz w (some x)) : x.block < w.heap.size := by
  obtain ⟨cs, t, e⟩ := h x rfl
  exact (Array.getElem?_eq_some_iff.1 e).1
theorem Fz.at {w : World} {b off : Nat} (h : Fz w (some ⟨b, off, none⟩)) (i : Nat) : w.frozen? ⟨b, i, none⟩ = false := by
  obtain ⟨cs, t, e⟩ := h _ rfl
  exact frozen_of_row w b i cs t e
/-- what the blocks from lo to hi hold is as it was -/
theorem PlO.keep {w w' : World} {lo hi : Nat} {a : Option Addr} {len cap : Nat} {ps : List Pm} (h : PlO w lo hi a len cap ps) (hb : ∀ k, lo ≤ k → k < hi → k < w.heap.size → w'.heap[k]? = w.heap[k]?) : PlO w' lo hi a len cap ps := by
  have ha : ∀ x, a = some x → w'.heap[x.block]? = w.heap[x.block]? := fun x hx => by
    have := h.blk x hx
    subst hx
    exact hb _ this.1 this.2.1 h.fz.lt
  refine ⟨h.lb.same ha, h.fz.same ha, h.blk, fun p hp => ⟨(h.own p hp).1.same fun x hx => ?_, (h.own p hp).2⟩, h.sep⟩
  have h1 := (h.own p hp).1.lt x hx
  exact hb _ h1.1 ((h.own p hp).2 x hx) h1.2
theorem PlO.below {w w' : World} {lo hi : Nat} {a : Option Addr} {len cap : Nat} {ps : List Pm} (h : PlO w lo hi a len cap ps) (hb : Below w.heap.size w w') : PlO w' lo hi a len cap ps := h.keep fun k _ _ hk => hb.block k hk
theorem PlO.under {w w' : World} {lo hi B : Nat} {a : Option Addr} {len cap : Nat} {ps : List Pm} (h : PlO w lo hi a len cap ps) (hb : Below B w w') (hB : hi ≤ B) : PlO w' lo hi a len cap ps := h.keep fun k _ hk _ => hb.block k (by omega)
theorem PlO.drew {w : World} {lo hi : Nat} {a : Option Addr} {len cap : Nat} {ps : List Pm} (h : PlO w lo hi a len cap ps) : PlO w.drew lo hi a len cap ps := h.below (Below.refl _ w).drew
theorem PlO.turn {w w' : World} {lo hi lo' hi' : Nat} {a : Option Addr} {len cap : Nat} {ps : List Pm} (h : PlO w lo hi a len cap ps) (ht : Turn lo' hi' w w') (hd : hi ≤ lo' ∨ hi' ≤ lo) : PlO w' lo hi a len cap ps := h.keep fun k h1 h2 h3 => ht.block k h3 (by omega)
theorem PlO.mono {w : World} {lo hi lo' hi' : Nat} {a : Option Addr} {len cap : Nat} {ps : List Pm} (h : PlO w lo hi a len cap ps) (h1 : lo' ≤ lo) (h2 : hi ≤ hi') : PlO w lo' hi' a len cap ps :=
  ⟨h.lb, h.fz, fun x hx => ⟨by have := h.blk x hx; omega, by have := h.blk x hx; omega, (h.blk x hx).2.2⟩, fun p hp => ⟨(h.own p hp).1.baseTo fun x hx => by have := (h.own p hp).1.lt x hx; omega, fun y hy => by have := (h.own p hp).2 y hy; omega⟩, h.sep⟩
theorem Own.turn {w w' : World} {lo hi base : Nat} {a : Option Addr} {len cap : Nat} {zs : List Int} (h : Own w base a len cap zs) (ht : Turn lo hi w w') (hd : ∀ x, a = some x → x.block < lo ∨ hi ≤ x.block) : Own w' base a len cap zs :=
  h.same fun x hx => ht.block _ (h.lt x hx).2 (hd x hx)

theorem Lb.nil0 (w : World) : Lb w none 0 0 [] := ⟨rfl, Nat.le_refl _, Nat.zero_le _, fun _ => ⟨rfl, rfl⟩, .inl rfl⟩
theorem PlO.nil0 (w : World) (lo hi : Nat) : PlO w lo hi none 0 0 [] := ⟨Lb.nil0 w, fun _ hx => (by cases hx), fun _ hx => (by cases hx), fun _ hp => (by cases hp), List.Pairwise.nil⟩
/-- the cells at place i -/
theorem Lb.at {w : World} {a : Option Addr} {len cap : Nat} {ps : List Pm} (h : Lb w a len cap ps) {i : Nat} (hi : i < len) : ∃ b off p, a = some ⟨b, off, none⟩ ∧ ps[i]? = some p ∧ w.cell? ⟨b, off + i * 2, none⟩ = some (.int .i64 p.k) ∧ w.cell? ⟨b, off + i * 2 + 1, none⟩ = some (.slice p.a p.l p.c) := by
  rcases h.cells with h0 | ⟨b, off, rfl, hc⟩
  · omega
  · have hp : ps[i]? = some (ps[i]'(by have := h.length; omega)) := List.getElem?_eq_getElem _
    exact ⟨b, off, _, rfl, hp, hc i _ hp⟩
end Go.Proofs.Ytbngdenlplbjhaa
