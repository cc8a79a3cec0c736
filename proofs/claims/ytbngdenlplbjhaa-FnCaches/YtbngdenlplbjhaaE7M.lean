/-
  Lists of entries in memory: what it is that a slice reads as entries (Le), that it owns its array (Lw), how both are kept and written; a list that came in is opened.
-/
import Derived.Test.YtbngdenlplbjhaaCat
import Derived.Test.YtbngdenlplbjhaaPack
import Derived.Test.YtbngdenlplbjhaaOpen
import Derived.Deep.Slices
import Derived.ChangeSame
namespace Go.Proofs.Ytbngdenlplbjhaa
open Go.ChangeShapes Go.WideShapes Go.ChangeAt Go.RowKit

/-- an entry: its ip, its mac, until when it counts -/
structure En where
  i : Int
  m : Int
  u : Int
deriving DecidableEq
def cellsE (es : List En) : List Value := es.flatMap fun e => [.int .i64 e.i, .int .i64 e.m, .int .i64 e.u]
theorem cellsE_cons (e : En) (es : List En) : cellsE (e :: es) = .int .i64 e.i :: .int .i64 e.m :: .int .i64 e.u :: cellsE es := rfl
theorem cellsE_app (es fs : List En) : cellsE (es ++ fs) = cellsE es ++ cellsE fs := by simp [cellsE]
theorem cellsE_len (es : List En) : (cellsE es).length = es.length * 3 := by
  induction es with
  | nil => rfl
  | cons e es ih => rw [cellsE_cons]; simp only [List.length_cons, ih]; omega
theorem cellsE_at (es : List En) (i : Nat) (e : En) (h : es[i]? = some e) : (cellsE es)[i * 3]? = some (.int .i64 e.i) ∧ (cellsE es)[i * 3 + 1]? = some (.int .i64 e.m) ∧ (cellsE es)[i * 3 + 2]? = some (.int .i64 e.u) := by
  induction es generalizing i with
  | nil => simp at h
  | cons q es ih =>
    rw [cellsE_cons]
    cases i with
    | zero => simp at h; subst h; exact ⟨rfl, rfl, rfl⟩
    | succ i =>
      have e1 : (i + 1) * 3 = i * 3 + 1 + 1 + 1 := by omega
      rw [e1]
      simp only [List.getElem?_cons_succ] at h ⊢
      exact ih i h
theorem cellsE_one (es : List En) : ∀ u ∈ cellsE es, u.oneCell' = true := by
  intro u hu
  induction es with
  | nil => cases hu
  | cons p es ih =>
    rw [cellsE_cons] at hu
    simp only [List.mem_cons] at hu
    rcases hu with rfl | rfl | rfl | hu
    · rfl
    · rfl
    · rfl
    · exact ih hu
theorem cellsE_set (es : List En) (k : Nat) (e : En) (hk : k < es.length) : (((cellsE es).set (k * 3) (.int .i64 e.i)).set (k * 3 + 1) (.int .i64 e.m)).set (k * 3 + 2) (.int .i64 e.u) = cellsE (es.set k e) := by
  induction es generalizing k with
  | nil => simp at hk
  | cons p es ih =>
    cases k with
    | zero => rfl
    | succ k =>
      have e1 : (k + 1) * 3 = k * 3 + 1 + 1 + 1 := by omega
      have e2 : (k + 1) * 3 + 1 = k * 3 + 1 + 1 + 1 + 1 := by omega
      have e3 : (k + 1) * 3 + 2 = k * 3 + 2 + 1 + 1 + 1 := by omega
      rw [List.set_cons_succ, cellsE_cons, cellsE_cons, e3, e2, e1]
      simp only [List.set_cons_succ]
      rw [ih k (by simpa using hk)]
/-- the slice reads as the entries es -/
structure Le (w : World) (a : Option Addr) (len cap : Nat) (es : List En) : Prop where
  length : es.length = len
  le : len ≤ cap
  max : cap ≤ maxLen
  nil : a = none → len = 0 ∧ cap = 0
  cells : len = 0 ∨ ∃ b off, a = some ⟨b, off, none⟩ ∧ ∀ i e, es[i]? = some e → w.cell? ⟨b, off + i * 3, none⟩ = some (.int .i64 e.i) ∧ w.cell? ⟨b, off + i * 3 + 1, none⟩ = some (.int .i64 e.m) ∧ w.cell? ⟨b, off + i * 3 + 2, none⟩ = some (.int .i64 e.u)
/-- a list whose array begins at its block's head, a block from base on -/
structure Lw (w : World) (base : Nat) (a : Option Addr) (len cap : Nat) (es : List En) : Prop where
  row : w.ownsRow base 43 3 (.slice a len cap) len (cellsE es)
theorem Le.below {w w' : World} {a : Option Addr} {len cap : Nat} {es : List En} (h : Le w a len cap es) (hb : Below w.heap.size w w') : Le w' a len cap es := by
  refine ⟨h.length, h.le, h.max, h.nil, ?_⟩
  rcases h.cells with h0 | ⟨b, off, rfl, hc⟩
  · exact .inl h0
  · exact .inr ⟨b, off, rfl, fun i e hi => ⟨keepB' hb (hc i e hi).1, keepB' hb (hc i e hi).2.1, keepB' hb (hc i e hi).2.2⟩⟩
theorem Le.drew {w : World} {a : Option Addr} {len cap : Nat} {es : List En} (h : Le w a len cap es) : Le w.drew a len cap es := h.below (Below.refl _ w).drew
theorem Le.alloc {w : World} {a : Option Addr} {len cap : Nat} {es : List En} (h : Le w a len cap es) (o : Obj) : Le (w.alloc o) a len cap es := h.below ((Below.refl _ _).alloc (Nat.le_refl _) o)
theorem Le.nil0 (w : World) : Le w none 0 0 [] := ⟨rfl, Nat.le_refl _, Nat.zero_le _, fun _ => ⟨rfl, rfl⟩, .inl rfl⟩
/-- the cells at place i -/
theorem Le.at {w : World} {a : Option Addr} {len cap : Nat} {es : List En} (h : Le w a len cap es) {i : Nat} (hi : i < len) : ∃ b off e, a = some ⟨b, off, none⟩ ∧ es[i]? = some e ∧ w.cell? ⟨b, off + i * 3, none⟩ = some (.int .i64 e.i) ∧ w.cell? ⟨b, off + i * 3 + 1, none⟩ = some (.int .i64 e.m) ∧ w.cell? ⟨b, off + i * 3 + 2, none⟩ = some (.int .i64 e.u) := by
  rcases h.cells with h0 | ⟨b, off, rfl, hc⟩
  · omega
  · have hp : es[i]? = some (es[i]'(by have := h.length; omega)) := List.getElem?_eq_getElem _
    exact ⟨b, off, _, rfl, hp, hc i _ hp⟩
theorem Lw.nil (w : World) (base : Nat) : Lw w base none 0 0 [] := ⟨World.ownsRow_nil _ _ _ _⟩
theorem Lw.length {w : World} {base : Nat} {a : Option Addr} {len cap : Nat} {es : List En} (h : Lw w base a len cap es) : es.length = len := by
  have h0 := h.row.1
  rw [cellsE_len] at h0
  omega
theorem Lw.shape {w : World} {base : Nat} {a : Option Addr} {len cap : Nat} {es : List En} (h : Lw w base a len cap es) : (a = none ∧ len = 0 ∧ cap = 0 ∧ es = []) ∨ ∃ g, a = some ⟨g, 0, none⟩ := by
  have h0 := h.length
  rcases h.row.2 with ⟨h', h1⟩ | ⟨g, c, cur, h', _⟩
  · simp only [Value.slice.injEq] at h'; obtain ⟨rfl, rfl, rfl⟩ := h'; exact .inl ⟨rfl, rfl, rfl, List.length_eq_zero_iff.1 (by omega)⟩
  · simp only [Value.slice.injEq, true_and] at h'; obtain ⟨rfl, rfl⟩ := h'; exact .inr ⟨g, rfl⟩
theorem Lw.max {w : World} {base : Nat} {a : Option Addr} {len cap : Nat} {es : List En} (h : Lw w base a len cap es) : len ≤ cap ∧ cap ≤ maxLen := by
  rcases h.row.2 with ⟨h', h0⟩ | ⟨g, c, cur, h', _, _, h1, h2, _⟩
  · simp only [Value.slice.injEq] at h'; obtain ⟨_, rfl, rfl⟩ := h'; exact ⟨Nat.le_refl _, Nat.zero_le _⟩
  · simp only [Value.slice.injEq, true_and] at h'; obtain ⟨_, rfl⟩ := h'; exact ⟨h1, h2⟩
theorem Lw.lt {w : World} {base : Nat} {a : Option Addr} {len cap : Nat} {es : List En} (h : Lw w base a len cap es) : ∀ x, a = some x → base ≤ x.block ∧ x.block < w.heap.size := by
  rintro x rfl
  exact h.row.lt x.block rfl
theorem Lw.le {w : World} {base : Nat} {a : Option Addr} {len cap : Nat} {es : List En} (h : Lw w base a len cap es) : Le w a len cap es := by
  refine ⟨h.length, h.max.1, h.max.2, ?_, ?_⟩
  · rintro rfl
    rcases h.shape with ⟨_, h0, h1, _⟩ | ⟨g, e⟩
    · exact ⟨h0, h1⟩
    · cases e
  rcases h.shape with ⟨_, h0, _⟩ | ⟨g, rfl⟩
  · exact .inl h0
  · refine .inr ⟨g, 0, rfl, fun i e hp => ?_⟩
    have hi : i < len := by have := (List.getElem?_eq_some_iff.1 hp).1; rw [h.length] at this; exact this
    have h2 := cellsE_at _ _ _ hp
    rw [Nat.zero_add, h.row.cellAt (i * 3) (by omega), h.row.cellAt (i * 3 + 1) (by omega), h.row.cellAt (i * 3 + 2) (by omega)]
    exact h2
theorem Lw.same {w w' : World} {base : Nat} {a : Option Addr} {len cap : Nat} {es : List En} (h : Lw w base a len cap es) (hb : ∀ x, a = some x → w'.heap[x.block]? = w.heap[x.block]?) : Lw w' base a len cap es := by
  refine ⟨⟨h.row.1, ?_⟩⟩
  rcases h.row.2 with h0 | ⟨g, c, cur, h1, h2, h3, h4⟩
  · exact .inl h0
  · simp only [Value.slice.injEq, true_and] at h1
    obtain ⟨rfl, rfl⟩ := h1
    exact .inr ⟨g, _, cur, rfl, h2, (hb _ rfl).trans h3, h4⟩
theorem Lw.below {w w' : World} {base : Nat} {a : Option Addr} {len cap : Nat} {es : List En} (h : Lw w base a len cap es) (hb : Below w.heap.size w w') : Lw w' base a len cap es := h.same fun x hx => hb.block _ (h.lt x hx).2
theorem Lw.drew {w : World} {base : Nat} {a : Option Addr} {len cap : Nat} {es : List En} (h : Lw w base a len cap es) : Lw w.drew base a len cap es := h.below (Below.refl _ w).drew
theorem Lw.alloc {w : World} {base : Nat} {a : Option Addr} {len cap : Nat} {es : List En} (h : Lw w base a len cap es) (o : Obj) : Lw (w.alloc o) base a len cap es := h.below ((Below.refl _ _).alloc (Nat.le_refl _) o)
theorem Lw.rebase {w : World} {base base' : Nat} {a : Option Addr} {len cap : Nat} {es : List En} (h : Lw w base a len cap es) (hb : base' ≤ base) : Lw w base' a len cap es := by
  refine ⟨⟨h.row.1, ?_⟩⟩
  rcases h.row.2 with h0 | ⟨g, c, cur, h1, h2, h3⟩
  · exact .inl h0
  · exact .inr ⟨g, c, cur, h1, Nat.le_trans hb h2, h3⟩
theorem Lw.frozenAt {w : World} {base g : Nat} {len cap : Nat} {es : List En} (h : Lw w base (some ⟨g, 0, none⟩) len cap es) (i : Nat) : w.frozen? ⟨g, i, none⟩ = false := h.row.frozenAt i
theorem Lw.put {w : World} {base g : Nat} {len cap : Nat} {es : List En} (h : Lw w base (some ⟨g, 0, none⟩) len cap es) (k : Nat) (hk : k < len) (e : En) :
    Lw (((w.setCell ⟨g, k * 3, none⟩ (.int .i64 e.i)).setCell ⟨g, k * 3 + 1, none⟩ (.int .i64 e.m)).setCell ⟨g, k * 3 + 2, none⟩ (.int .i64 e.u)) base (some ⟨g, 0, none⟩) len cap (es.set k e) := by
  have h1 := (h.row.stored (k * 3) (.int .i64 e.i)).1
  have h2 := (h1.stored (k * 3 + 1) (.int .i64 e.m)).1
  have h3 := (h2.stored (k * 3 + 2) (.int .i64 e.u)).1
  rw [cellsE_set es k e (by rw [h.length]; exact hk)] at h3
  exact ⟨h3⟩
def zEn : En := ⟨0, 0, 0⟩
theorem made_entries (n : Nat) : (madeCells #[.int .i64 0, .int .i64 0, .int .i64 0] (n * 3)).toList = cellsE (List.replicate n zEn) := by
  have hall : ∀ l : List Value, (∀ j, j < l.length → l[j]? = some (.int .i64 0)) → l = List.replicate l.length (.int .i64 0) := by
    intro l hl
    apply List.ext_getElem?
    intro j
    by_cases hj : j < l.length
    · rw [hl j hj, List.getElem?_replicate, if_pos hj]
    · rw [List.getElem?_eq_none (by omega), List.getElem?_eq_none (by simp; omega)]
  have e1 := hall (madeCells #[.int .i64 0, .int .i64 0, .int .i64 0] (n * 3)).toList (by
    intro j hj
    have hj' : j < n * 3 := by simpa [size_madeCells] using hj
    have e : (madeCells #[.int .i64 0, .int .i64 0, .int .i64 0] (n * 3)).toList[j]? = some ((#[.int .i64 0, .int .i64 0, .int .i64 0] : Array Value)[j % 3]!) := by simp [madeCells, hj']
    rw [e]
    have : j % 3 = 0 ∨ j % 3 = 1 ∨ j % 3 = 2 := by omega
    rcases this with h | h | h <;> rw [h] <;> rfl)
  have e2 : ∀ n, cellsE (List.replicate n zEn) = List.replicate (n * 3) (.int .i64 0) := by
    clear e1 hall
    intro n
    induction n with
    | zero => rfl
    | succ n ih =>
      have e : (n + 1) * 3 = n * 3 + 1 + 1 + 1 := by omega
      rw [List.replicate_succ, cellsE_cons, ih, e, List.replicate_succ, List.replicate_succ, List.replicate_succ]
      rfl
  rw [e1, e2]
  congr 1
  simp [size_madeCells]
theorem lw_lit (w : World) (base : Nat) (hb : base ≤ w.heap.size) : Lw (w.alloc (.cells #[] 43)) base (some ⟨w.heap.size, 0, none⟩) 0 0 [] := ⟨World.ownsRow_lit w #[] 0 hb (Nat.zero_le _) rfl⟩
theorem lw_blk {w : World} {base : Nat} {a : Option Addr} {len cap : Nat} {es : List En} (h : Lw w base a len cap es) (k : Nat) (e : (Value.slice a len cap).ownBlock = some k) : base ≤ k := by
  cases a with
  | none => simp [Value.ownBlock] at e
  | some y => simp [Value.ownBlock] at e; have := (h.lt y rfl).1; omega
theorem le_box {w : World} {g : Nat} {t : TypeId} (e : En) (h : Box w g t #[.int .i64 e.i, .int .i64 e.m, .int .i64 e.u]) : Le w (some ⟨g, 0, none⟩) 1 1 [e] := by
  refine ⟨rfl, Nat.le_refl _, by unfold maxLen; omega, by simp, .inr ⟨g, 0, rfl, fun i p hp => ?_⟩⟩
  cases i with
  | zero => simp at hp; subst hp; exact ⟨h.cell 0, h.cell 1, h.cell 2⟩
  | succ i => simp at hp

theorem list_of7 {α : Type} (n : Nat) {R : Nat → α → Prop} (h : ∀ i, i < n → ∃ p, R i p) : ∃ ps : List α, ps.length = n ∧ ∀ i p, ps[i]? = some p → R i p := by
  induction n with
  | zero => exact ⟨[], rfl, fun i p hp => by simp at hp⟩
  | succ n ih =>
    obtain ⟨ps, hl, hp⟩ := ih (fun i hi => h i (by omega))
    obtain ⟨q, hq⟩ := h n (by omega)
    refine ⟨ps ++ [q], by simp [hl], fun i p hi => ?_⟩
    by_cases c : i < n
    · rw [List.getElem?_append_left (by omega)] at hi
      exact hp i p hi
    · rw [List.getElem?_append_right (by omega)] at hi
      have e : i = n := by
        have := (List.getElem?_eq_some_iff.1 hi).1
        simp at this
        omega
      subst e
      rw [hl, Nat.sub_self] at hi
      simp at hi
      subst hi
      exact hq
theorem list3 {α : Type} {l : List α} (h : l.length = 3) : ∃ a b c, l = [a, b, c] := by
  match l, h with
  | [a, b, c], _ => exact ⟨a, b, c, rfl⟩
end Go.Proofs.Ytbngdenlplbjhaa
