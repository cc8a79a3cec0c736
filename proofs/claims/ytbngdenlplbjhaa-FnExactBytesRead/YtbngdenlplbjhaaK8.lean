/-
  Lists of structs in memory, whatever the struct: what it is that a slice reads as a list of rows (Lt.ok), which blocks it reaches (Lt.blks), how a row is read and written, and what a call may change (Chg, St).
-/
import Derived.Test.YtbngdenlplbjhaaP6R
import Derived.Deep.MidRow
namespace Go.Proofs.Ytbngdenlplbjhaa
open Go.ChangeShapes Go.WideShapes Go.ChangeAt Go.RowKit

/-- the block that a slice reaches -/
def sb (a : Option Addr) (len : Nat) : List Nat := match a with
  | none => []
  | some p => if len = 0 then [] else [p.block]
theorem sb_none (len : Nat) : sb none len = [] := rfl
theorem sb_zero (a : Option Addr) : sb a 0 = [] := by cases a <;> rfl
theorem sb_some {p : Addr} {len : Nat} (h : len ≠ 0) : sb (some p) len = [p.block] := if_neg h
theorem mem_sb {a : Option Addr} {len k : Nat} (h : k ∈ sb a len) : ∃ p, a = some p ∧ len ≠ 0 ∧ k = p.block := by
  cases a with
  | none => cases h
  | some p =>
    unfold sb at h
    by_cases h0 : len = 0
    · simp [h0] at h
    · simp [h0] at h
      exact ⟨p, rfl, h0, h⟩
def unf (w : World) (k : Nat) : Prop := ∃ cs t, w.heap[k]? = some (.cells cs t (0, 0))
/-- blocks that can be written, no two the same -/
structure Fzs (w : World) (bs : List Nat) : Prop where
  nodup : bs.Nodup
  unf : ∀ b ∈ bs, unf w b
theorem unf.lt {w : World} {k : Nat} (h : unf w k) : k < w.heap.size := by
  obtain ⟨cs, t, e⟩ := h
  exact (Array.getElem?_eq_some_iff.1 e).1
theorem unf.same {w w' : World} {k : Nat} (h : unf w k) (e : w'.heap[k]? = w.heap[k]?) : unf w' k := by
  obtain ⟨cs, t, h⟩ := h
  exact ⟨cs, t, e.trans h⟩
theorem unf.at {w : World} {b : Nat} (h : unf w b) (i : Nat) : w.frozen? ⟨b, i, none⟩ = false := by
  obtain ⟨cs, t, e⟩ := h
  exact frozen_of_row w b i cs t e
theorem unf.set {w : World} {k : Nat} (h : unf w k) (b j : Nat) (u : Value) : unf (w.setCell ⟨b, j, none⟩ u) k := by
  by_cases e : k = b
  · subst e
    have := Fz.set (w := w) (b := k) (off := 0) (fun x hx => by cases hx; exact h) j u
    exact this _ rfl
  · exact h.same (heap_setCell_other w ⟨b, j, none⟩ k u e)
theorem Fzs.same {w w' : World} {bs : List Nat} (h : Fzs w bs) (e : ∀ k ∈ bs, w'.heap[k]? = w.heap[k]?) : Fzs w' bs := ⟨h.nodup, fun b hb => (h.unf b hb).same (e b hb)⟩
theorem Fzs.below {w w' : World} {bs : List Nat} (h : Fzs w bs) (hb : Below w.heap.size w w') : Fzs w' bs := h.same fun k hk => hb.block k (h.unf k hk).lt
theorem Fzs.left {w : World} {ls bs : List Nat} (h : Fzs w (ls ++ bs)) : Fzs w ls := ⟨(List.nodup_append.1 h.nodup).1, fun b hb => h.unf b (List.mem_append_left _ hb)⟩
theorem Fzs.right {w : World} {ls bs : List Nat} (h : Fzs w (ls ++ bs)) : Fzs w bs := ⟨(List.nodup_append.1 h.nodup).2.1, fun b hb => h.unf b (List.mem_append_right _ hb)⟩
theorem Fzs.apart {w : World} {ls bs : List Nat} (h : Fzs w (ls ++ bs)) : ∀ k, k ∈ ls → k ∉ bs := fun k h1 h2 => (List.nodup_append.1 h.nodup).2.2 k h1 k h2 rfl
theorem Fzs.nil (w : World) : Fzs w [] := ⟨List.nodup_nil, fun _ h => by cases h⟩

/-- a call that writes in these blocks alone -/
structure Chg (bs : List Nat) (w w' : World) : Prop where
  os : w'.os = w.os
  tape : w'.tape = w.tape
  output : w'.output = w.output
  size : w.heap.size ≤ w'.heap.size
  block : ∀ k, k < w.heap.size → k ∉ bs → w'.heap[k]? = w.heap[k]?
  unf : ∀ k, unf w k → unf w' k
theorem Chg.refl (bs : List Nat) (w : World) : Chg bs w w := ⟨rfl, rfl, rfl, Nat.le_refl _, fun _ _ _ => rfl, fun _ h => h⟩
theorem Chg.trans {bs : List Nat} {a b c : World} (h : Chg bs a b) (k : Chg bs b c) : Chg bs a c :=
  ⟨k.os.trans h.os, k.tape.trans h.tape, k.output.trans h.output, Nat.le_trans h.size k.size, fun i hi hn => (k.block i (Nat.lt_of_lt_of_le hi h.size) hn).trans (h.block i hi hn), fun i hi => k.unf i (h.unf i hi)⟩
theorem Chg.mono {bs cs : List Nat} {a b : World} (h : Chg bs a b) (hs : ∀ k ∈ bs, k ∈ cs) : Chg cs a b :=
  ⟨h.os, h.tape, h.output, h.size, fun k hk hn => h.block k hk (fun hb => hn (hs k hb)), h.unf⟩
theorem Chg.of_below {bs : List Nat} {a b : World} (h : Below a.heap.size a b) : Chg bs a b :=
  ⟨h.os, h.tape, h.output, h.size, fun k hk _ => h.block k hk, fun k hk => hk.same (h.block k hk.lt)⟩
theorem Chg.below {bs : List Nat} {a b : World} {B : Nat} (h : Chg bs a b) (hB : B ≤ a.heap.size) (hs : ∀ k ∈ bs, B ≤ k) : Below B a b :=
  ⟨h.os, h.tape, h.output, h.size, fun k hk => h.block k (by omega) (fun hb => by have := hs k hb; omega)⟩
theorem Chg.cell {bs : List Nat} {w w' : World} (h : Chg bs w w') {p : Addr} {u : Value} (hp : p.block ∉ bs) (hc : w.cell? p = some u) : w'.cell? p = some u := by
  rw [same_cell (h.block _ (World.block_lt_of_cell? _ _ hc) hp)]; exact hc
theorem Fzs.chg {bs cs : List Nat} {w w' : World} (h : Fzs w bs) (hc : Chg cs w w') : Fzs w' bs := ⟨h.nodup, fun b hb => hc.unf b (h.unf b hb)⟩

/-- a row's cells, from a place on -/
abbrev Row (w : World) (b o : Nat) (cs : List Value) : Prop := w.rangeAt b o cs
theorem Row.set {w : World} {b o : Nat} {cs : List Value} (h : Row w b o cs) (j : Nat) (v : Value) (hj : j < cs.length) : Row (w.setCell ⟨b, o + j, none⟩ v) b o (cs.set j v) := by
  intro i u hu
  by_cases e : i = j
  · subst e
    rw [List.getElem?_set_self hj] at hu
    cases hu
    exact World.cell?_setCell_same _ _ _ (h i _ (List.getElem?_eq_getElem hj))
  · rw [List.getElem?_set_ne (fun e' => e e'.symm)] at hu
    rw [World.cell?_setCell_other _ _ _ _ (by intro e'; simp only [Addr.mk.injEq, true_and, and_true] at e'; omega)]
    exact h i u hu
theorem Row.chg {bs : List Nat} {w w' : World} {b o : Nat} {cs : List Value} (h : Row w b o cs) (hc : Chg bs w w') (hb : b ∉ bs) : Row w' b o cs := fun j u hu => hc.cell hb (h j u hu)
theorem Row.below {w w' : World} {b o : Nat} {cs : List Value} (h : Row w b o cs) (hb : Below w.heap.size w w') : Row w' b o cs := fun j u hu => keepB' hb (h j u hu)

/-- a row from lo to hi of block b is written, and blocks bs -/
structure St (b lo hi : Nat) (bs : List Nat) (w w' : World) : Prop where
  os : w'.os = w.os
  tape : w'.tape = w.tape
  output : w'.output = w.output
  size : w.heap.size ≤ w'.heap.size
  block : ∀ k, k < w.heap.size → k ≠ b → k ∉ bs → w'.heap[k]? = w.heap[k]?
  cell : ∀ q, q < lo ∨ hi ≤ q → w'.cell? ⟨b, q, none⟩ = w.cell? ⟨b, q, none⟩
  unf : ∀ k, unf w k → unf w' k
theorem St.refl (b lo hi : Nat) (bs : List Nat) (w : World) : St b lo hi bs w w := ⟨rfl, rfl, rfl, Nat.le_refl _, fun _ _ _ _ => rfl, fun _ _ => rfl, fun _ h => h⟩
theorem St.set {b lo hi : Nat} {bs : List Nat} {w w' : World} (h : St b lo hi bs w w') (q : Nat) (v : Value) (h1 : lo ≤ q) (h2 : q < hi) : St b lo hi bs w (w'.setCell ⟨b, q, none⟩ v) := by
  have g := grown_setCell w' ⟨b, q, none⟩ v
  refine ⟨g.os.trans h.os, g.tape.trans h.tape, g.output.trans h.output, Nat.le_trans h.size g.size, fun k hk hb hn => ?_, fun i hi' => ?_, fun k hk => (h.unf k hk).set _ _ _⟩
  · exact (heap_setCell_other w' ⟨b, q, none⟩ k v hb).trans (h.block k hk hb hn)
  · rw [World.cell?_setCell_other _ _ _ _ (by intro e; simp only [Addr.mk.injEq, true_and, and_true] at e; omega)]
    exact h.cell i hi'
theorem St.call {b lo hi : Nat} {bs cs : List Nat} {w w1 w' : World} (h : St b lo hi bs w w1) (c : Chg cs w1 w') (hb : b ∉ cs) (hlt : b < w.heap.size) (hs : ∀ k ∈ cs, k ∈ bs) : St b lo hi bs w w' :=
  ⟨c.os.trans h.os, c.tape.trans h.tape, c.output.trans h.output, Nat.le_trans h.size c.size, fun k hk hb' hn => (c.block k (Nat.lt_of_lt_of_le hk h.size) (fun hc => hn (hs k hc))).trans (h.block k hk hb' hn),
    fun q hq => (same_cell (p := ⟨b, q, none⟩) (c.block b (Nat.lt_of_lt_of_le hlt h.size) hb)).trans (h.cell q hq), fun k hk => c.unf k (h.unf k hk)⟩
theorem St.chg {b lo hi : Nat} {bs : List Nat} {w w' : World} (h : St b lo hi bs w w') : Chg (b :: bs) w w' :=
  ⟨h.os, h.tape, h.output, h.size, fun k hk hn => h.block k hk (fun e => hn (by rw [e]; exact List.mem_cons_self ..)) (fun hb => hn (List.mem_cons_of_mem _ hb)), h.unf⟩

/-- how the rows of a list lie in memory: a row's cells, what they point to, the blocks that it reaches -/
structure Md (α : Type) where
  n : Nat
  cells : α → List Value
  ok : World → α → Prop
  blks : α → List Nat
  clen : ∀ x, (cells x).length = n
  keep : ∀ {w w' : World} {x : α}, ok w x → (∀ b ∈ blks x, w'.heap[b]? = w.heap[b]?) → ok w' x
  lt : ∀ {w : World} {x : α}, ok w x → ∀ b ∈ blks x, b < w.heap.size
theorem Md.below {α : Type} (M : Md α) {w w' : World} {x : α} (h : M.ok w x) (hb : Below w.heap.size w w') : M.ok w' x := M.keep h fun b hm => hb.block b (M.lt h b hm)
theorem Md.drew {α : Type} (M : Md α) {w : World} {x : α} (h : M.ok w x) : M.ok w.drew x := M.below h (Below.refl _ w).drew
theorem Md.chg {α : Type} (M : Md α) {bs : List Nat} {w w' : World} {x : α} (h : M.ok w x) (hc : Chg bs w w') (hn : ∀ k ∈ M.blks x, k ∉ bs) : M.ok w' x := M.keep h fun b hm => hc.block b (M.lt h b hm) (hn b hm)

/-- a slice, and the rows that it reads as -/
structure Lt (α : Type) where
  a : Option Addr
  l : Nat
  c : Nat
  rs : List α
def Lt.v {α : Type} (x : Lt α) : Value := .slice x.a x.l x.c
def Lt.blks {α : Type} (M : Md α) (x : Lt α) : List Nat := sb x.a x.l ++ x.rs.flatMap M.blks
structure Lt.ok {α : Type} (M : Md α) (w : World) (x : Lt α) : Prop where
  length : x.rs.length = x.l
  le : x.l ≤ x.c
  max : x.c ≤ maxLen
  nil : x.a = none → x.l = 0 ∧ x.c = 0
  cells : x.l = 0 ∨ ∃ b off, x.a = some ⟨b, off, none⟩ ∧ ∀ i p, x.rs[i]? = some p → Row w b (off + i * M.n) (M.cells p)
  data : ∀ p ∈ x.rs, M.ok w p
theorem Lt.nil0 {α : Type} (M : Md α) (w : World) : Lt.ok M w ⟨none, 0, 0, []⟩ := ⟨rfl, Nat.le_refl _, Nat.zero_le _, fun _ => ⟨rfl, rfl⟩, .inl rfl, fun _ h => by cases h⟩
theorem mem_flat {α : Type} {M : Md α} {rs : List α} {p : α} (h : p ∈ rs) {k : Nat} (hk : k ∈ M.blks p) : k ∈ rs.flatMap M.blks := List.mem_flatMap.2 ⟨p, h, hk⟩
theorem Lt.ok.keep {α : Type} {M : Md α} {w w' : World} {x : Lt α} (h : Lt.ok M w x) (hb : ∀ b ∈ Lt.blks M x, w'.heap[b]? = w.heap[b]?) : Lt.ok M w' x := by
  refine ⟨h.length, h.le, h.max, h.nil, ?_, fun p hp => M.keep (h.data p hp) fun b hm => hb b (List.mem_append_right _ (mem_flat hp hm))⟩
  by_cases h0 : x.l = 0
  · exact .inl h0
  rcases h.cells with h1 | ⟨b, off, e, hc⟩
  · exact absurd h1 h0
  · refine .inr ⟨b, off, e, fun i p hi j u hu => ?_⟩
    have := hb b (List.mem_append_left _ (by rw [e, sb_some h0]; exact List.mem_singleton.2 rfl))
    rw [same_cell (p := ⟨b, off + i * M.n + j, none⟩) this]
    exact hc i p hi j u hu
theorem Lt.ok.lt {α : Type} {M : Md α} {w : World} {x : Lt α} (hn : 0 < M.n) (h : Lt.ok M w x) : ∀ b ∈ Lt.blks M x, b < w.heap.size := by
  intro b hb
  rcases List.mem_append.1 hb with hb | hb
  · obtain ⟨p, e, h0, rfl⟩ := mem_sb hb
    rcases h.cells with h1 | ⟨b, off, e', hc⟩
    · exact absurd h1 h0
    · rw [e] at e'
      cases e'
      have hl := h.length
      have hp : x.rs[0]? = some (x.rs[0]'(by omega)) := List.getElem?_eq_getElem _
      have hu : (M.cells (x.rs[0]'(by omega)))[0]? = some ((M.cells (x.rs[0]'(by omega)))[0]'(by rw [M.clen]; exact hn)) := List.getElem?_eq_getElem _
      exact World.block_lt_of_cell? w ⟨b, off + 0 * M.n + 0, none⟩ (hc 0 _ hp 0 _ hu)
  · obtain ⟨p, hp, hk⟩ := List.mem_flatMap.1 hb
    exact M.lt (h.data p hp) b hk
theorem Lt.ok.below {α : Type} {M : Md α} {w w' : World} {x : Lt α} (hn : 0 < M.n) (h : Lt.ok M w x) (hb : Below w.heap.size w w') : Lt.ok M w' x := h.keep fun b hm => hb.block b (h.lt hn b hm)
theorem Lt.ok.chg {α : Type} {M : Md α} {bs : List Nat} {w w' : World} {x : Lt α} (hn : 0 < M.n) (h : Lt.ok M w x) (hc : Chg bs w w') (hd : ∀ k ∈ Lt.blks M x, k ∉ bs) : Lt.ok M w' x := h.keep fun b hm => hc.block b (h.lt hn b hm) (hd b hm)
/-- the row at place i -/
theorem Lt.ok.at {α : Type} {M : Md α} {w : World} {x : Lt α} (h : Lt.ok M w x) {i : Nat} (hi : i < x.l) : ∃ b off p, x.a = some ⟨b, off, none⟩ ∧ x.rs[i]? = some p ∧ Row w b (off + i * M.n) (M.cells p) ∧ M.ok w p := by
  rcases h.cells with h0 | ⟨b, off, e, hc⟩
  · omega
  · have hp : x.rs[i]? = some (x.rs[i]'(by have := h.length; omega)) := List.getElem?_eq_getElem _
    exact ⟨b, off, _, e, hp, hc i _ hp, h.data _ (List.mem_of_getElem? hp)⟩
/-- a list is a kind of cell itself -/
def Md.one (α : Type) (M : Md α) (hn : 0 < M.n) : Md (Lt α) where
  n := 1
  cells x := [x.v]
  ok := Lt.ok M
  blks := Lt.blks M
  clen _ := rfl
  keep h hb := h.keep hb
  lt h := h.lt hn
/-- one row is written anew -/
theorem Lt.ok.put {α : Type} {M : Md α} {w w' : World} {x : Lt α} {b off : Nat} (h : Lt.ok M w x) (ha : x.a = some ⟨b, off, none⟩) (i : Nat) (hi : i < x.l) (p' : α)
    (hrow : Row w' b (off + i * M.n) (M.cells p')) (hcell : ∀ q, q < off + i * M.n ∨ off + i * M.n + M.n ≤ q → w'.cell? ⟨b, q, none⟩ = w.cell? ⟨b, q, none⟩)
    (hok : M.ok w' p') (hoth : ∀ j q, j ≠ i → x.rs[j]? = some q → ∀ k ∈ M.blks q, w'.heap[k]? = w.heap[k]?) : Lt.ok M w' { x with rs := x.rs.set i p' } := by
  have hl := h.length
  refine ⟨by simp only [List.length_set]; exact hl, h.le, h.max, h.nil, ?_, fun p hp => ?_⟩
  · rcases h.cells with h0 | ⟨b', off', e, hc⟩
    · omega
    · rw [ha] at e
      cases e
      refine .inr ⟨b, off, ha, fun j q hq => ?_⟩
      by_cases hj : j = i
      · subst hj
        rw [List.getElem?_set_self (by omega)] at hq
        cases hq
        exact hrow
      · have hq' : x.rs[j]? = some q := by simpa [List.getElem?_set_ne (fun e => hj e.symm)] using hq
        intro m u hu
        have hm : m < M.n := by have := (List.getElem?_eq_some_iff.1 hu).1; rwa [M.clen] at this
        rw [hcell]
        · exact hc j q hq' m u hu
        · rcases Nat.lt_or_gt_of_ne hj with c | c
          · left
            have : j * M.n + M.n ≤ i * M.n := by rw [← Nat.succ_mul]; exact Nat.mul_le_mul_right _ c
            omega
          · right
            have : i * M.n + M.n ≤ j * M.n := by rw [← Nat.succ_mul]; exact Nat.mul_le_mul_right _ c
            omega
  · obtain ⟨j, hj⟩ := List.getElem?_of_mem hp
    by_cases e : j = i
    · subst e
      have : (x.rs.set j p')[j]? = some p' := List.getElem?_set_self (by omega)
      simp only at hj
      rw [this] at hj
      cases hj
      exact hok
    · have hq : x.rs[j]? = some p := by simpa [List.getElem?_set_ne (fun e' => e e'.symm)] using hj
      exact M.keep (h.data p (List.mem_of_getElem? hq)) (hoth j p e hq)
theorem flat_split {α : Type} {M : Md α} {rs : List α} {i : Nat} {p : α} (h : rs[i]? = some p) : rs.flatMap M.blks = (rs.take i).flatMap M.blks ++ (M.blks p ++ (rs.drop (i + 1)).flatMap M.blks) := by
  have hlt := (List.getElem?_eq_some_iff.1 h).1
  have e : rs = rs.take i ++ (p :: rs.drop (i + 1)) := by
    rw [← (List.getElem?_eq_some_iff.1 h).2, ← List.drop_eq_getElem_cons hlt, List.take_append_drop]
  conv => lhs; rw [e, List.flatMap_append, List.flatMap_cons]
/-- where no block is reached twice: a row's blocks are none of the array's, none of another row's -/
theorem Lt.apart {α : Type} {M : Md α} {w : World} {x : Lt α} (h : Fzs w (Lt.blks M x)) {i : Nat} {p : α} (hp : x.rs[i]? = some p) (h0 : x.l ≠ 0) :
    Fzs w (M.blks p) ∧ (∀ y, x.a = some y → y.block ∉ M.blks p ∧ unf w y.block) ∧ ∀ j q, j ≠ i → x.rs[j]? = some q → ∀ k ∈ M.blks q, k ∉ M.blks p ∧ ∀ y, x.a = some y → k ≠ y.block := by
  have hf := h.right
  have hs := h.apart
  have hpm := List.mem_of_getElem? hp
  have hd : ∀ j q, j ≠ i → x.rs[j]? = some q → ∀ k ∈ M.blks q, k ∉ M.blks p := by
    intro j q hj hq k hk hk'
    have hsp := flat_split (M := M) hp
    rw [hsp] at hf
    have hn := hf.nodup
    rw [List.nodup_append] at hn
    obtain ⟨_, hn2, hn3⟩ := hn
    rw [List.nodup_append] at hn2
    rcases Nat.lt_or_gt_of_ne hj with c | c
    · refine hn3 k ?_ k (List.mem_append_left _ hk') rfl
      refine List.mem_flatMap.2 ⟨q, ?_, hk⟩
      refine List.mem_of_getElem? (i := j) ?_
      rw [List.getElem?_take, if_pos c]; exact hq
    · refine hn2.2.2 k hk' k ?_ rfl
      refine List.mem_flatMap.2 ⟨q, ?_, hk⟩
      refine List.mem_of_getElem? (i := j - (i + 1)) ?_
      rw [List.getElem?_drop, show i + 1 + (j - (i + 1)) = j by omega]; exact hq
  refine ⟨?_, fun y hy => ⟨fun hk => ?_, ?_⟩, fun j q hj hq k hk => ⟨hd j q hj hq k hk, fun y hy e => ?_⟩⟩
  · rw [flat_split (M := M) hp] at hf
    exact hf.right.left
  · exact hs y.block (by rw [hy, sb_some h0]; exact List.mem_singleton.2 rfl) (mem_flat hpm hk)
  · exact h.left.unf _ (by rw [hy, sb_some h0]; exact List.mem_singleton.2 rfl)
  · subst e
    exact hs y.block (by rw [hy, sb_some h0]; exact List.mem_singleton.2 rfl) (mem_flat (List.mem_of_getElem? hq) hk)

/-- bytes -/
structure Yt where
  a : Option Addr
  l : Nat
  c : Nat
  z : List Int
def Yt.v (y : Yt) : Value := .slice y.a y.l y.c
def Yt.ok (w : World) (y : Yt) : Prop := Rd w y.a y.l y.c y.z
def Yt.blks (y : Yt) : List Nat := sb y.a y.l
theorem Yt.ok.keep {w w' : World} {y : Yt} (h : Yt.ok w y) (hb : ∀ b ∈ y.blks, w'.heap[b]? = w.heap[b]?) : Yt.ok w' y := by
  refine ⟨h.length, h.le, h.max, h.b8, h.nil, ?_⟩
  by_cases h0 : y.l = 0
  · exact .inl h0
  rcases h.cells with h1 | ⟨b, off, e, hc⟩
  · exact absurd h1 h0
  · refine .inr ⟨b, off, e, fun i hi => ?_⟩
    rw [same_cell (p := ⟨b, off + i, none⟩) (hb b (by unfold Yt.blks; rw [e, sb_some h0]; exact List.mem_singleton.2 rfl))]
    exact hc i hi
theorem Yt.ok.lt {w : World} {y : Yt} (h : Yt.ok w y) : ∀ b ∈ y.blks, b < w.heap.size := by
  intro k hk
  obtain ⟨p, e, h0, rfl⟩ := mem_sb hk
  rcases h.cells with h1 | ⟨b, off, e', hc⟩
  · exact absurd h1 h0
  · rw [e] at e'
    cases e'
    exact World.block_lt_of_cell? _ _ (hc 0 (by omega))
def Yt.md : Md Yt where
  n := 1
  cells y := [y.v]
  ok := Yt.ok
  blks := Yt.blks
  clen _ := rfl
  keep h hb := h.keep hb
  lt h := h.lt
theorem Yt.ok.below {w w' : World} {y : Yt} (h : Yt.ok w y) (hb : Below w.heap.size w w') : Yt.ok w' y := Yt.md.below h hb
theorem Yt.ok.chg {bs : List Nat} {w w' : World} {y : Yt} (h : Yt.ok w y) (hc : Chg bs w w') (hn : ∀ k ∈ y.blks, k ∉ bs) : Yt.ok w' y := Yt.md.chg h hc hn
end Go.Proofs.Ytbngdenlplbjhaa
