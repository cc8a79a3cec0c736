/-
  Maps of notes: a note is taken out (Mp.drop); a range over such a map, under way (Rg), whose round may take notes out.
-/
import Derived.Test.YtbngdenlplbjhaaM7
import Derived.Maps.Range
namespace Go.Proofs.Ytbngdenlplbjhaa
open Go.ChangeShapes Go.WideShapes Go.ChangeAt Go.RowKit
open Go.ChangeMaps (setBlock)
open Go.MapKept (Stamped)

theorem erase_map {α β : Type} (f : α → β) : ∀ (l : List α) (j : Nat), (l.map f).eraseIdx j = (l.eraseIdx j).map f
  | [], _ => rfl
  | _ :: _, 0 => rfl
  | x :: l, j + 1 => by simp only [List.map_cons, List.eraseIdx_cons_succ, erase_map f l j]
section
variable {w w' : World} {b r : Nat} {ns : List Nt} {es : Array MapEntry} {clock since c0 : Nat} {seen : Array Nat}
/-- delete(m, k), the neighbour there -/
theorem Mp.drop (h : Mp w b ns es clock) {j : Nat} {n : Nt} (hn : ns[j]? = some n) :
    ∃ es', (∀ ty, (Builtin.delete_ #[80, 83] ty #[.map (some b), KN n.i]).run Try.prog w = .ok (.tuple #[]) (setBlock w b (.map es' clock))) ∧ Mp (setBlock w b (.map es' clock)) b (ns.eraseIdx j) es' clock ∧ es'.toList = es.toList.eraseIdx j := by
  have hi := h.ok n (List.mem_of_getElem? hn)
  obtain ⟨l, hl⟩ := key7 hi
  rcases h.find w hi with ⟨_, h2, _⟩ | ⟨j', q, e, h1, h2, h3, h4, h5⟩
  · exact absurd rfl (h2 n (List.mem_of_getElem? hn))
  · have hjj : j' = j := by
      have ha := List.pairwise_iff_getElem.1 h.apart
      have l1 := (List.getElem?_eq_some_iff.1 h2).1
      have l2 := (List.getElem?_eq_some_iff.1 hn).1
      have e1 := (List.getElem?_eq_some_iff.1 h2).2
      have e2 := (List.getElem?_eq_some_iff.1 hn).2
      rcases Nat.lt_trichotomy j' j with c | c | c
      · have := ha j' j l1 l2 c
        rw [e1, e2] at this
        exact absurd h3 this
      · exact c
      · have := ha j j' l2 l1 c
        rw [e1, e2] at this
        exact absurd h3.symm this
    subst hjj
    have hjl : j' < es.toList.length := (List.getElem?_eq_some_iff.1 h4).1
    have hjs : j' < es.size := by simpa using hjl
    have hsub : (es.eraseIdxIfInBounds j').toList = es.toList.eraseIdx j' := by
      unfold Array.eraseIdxIfInBounds
      rw [dif_pos hjs]
      simp
    refine ⟨es.eraseIdxIfInBounds j', ?_, ⟨setBlock_at _ _ _ h.lt, MapKept.stamped_erase h.st j', ?_, ?_⟩, hsub⟩
    · intro ty; simp [Builtin.delete_, run_underlying Try.underlying80, MapKept.run_getObj_map h.hb, Try.keyed7.check w _ hl, h1, MapKept.run_setObj_map _ h.hb, Result.andThen, setBlock]
    · rw [hsub, ← erase_map, h.kv, erase_map]
    · intro q hq
      exact h.ok q ((List.eraseIdx_sublist _ _).subset hq)
/-- delete(m, k), the neighbour not there -/
theorem Mp.dropNone (h : Mp w b ns es clock) {i : Int} (hi : okI i) (hne : ∀ q ∈ ns, q.i ≠ i) (ty : TypeId) :
    (Builtin.delete_ #[80, 83] ty #[.map (some b), KN i]).run Try.prog w = .ok (.tuple #[]) (setBlock w b (.map es clock)) ∧ Mp (setBlock w b (.map es clock)) b ns es clock := by
  obtain ⟨l, hl⟩ := key7 hi
  rcases h.find w hi with ⟨h1, _, _⟩ | ⟨j', q, e, _, h2, h3, _, _⟩
  · exact ⟨by simp [Builtin.delete_, run_underlying Try.underlying80, MapKept.run_getObj_map h.hb, Try.keyed7.check w _ hl, h1, MapKept.run_setObj_map _ h.hb, Result.andThen, setBlock], setBlock_at _ _ _ h.lt, h.st, h.kv, h.ok⟩
  · exact absurd h3 (hne q (List.mem_of_getElem? h2))

/-- a range over the map in b, its walk in r: these stamps have been handed out -/
structure Rg (w : World) (b r : Nat) (ns : List Nt) (es : Array MapEntry) (clock since c0 : Nat) (seen : Array Nat) : Prop where
  mp : Mp w b ns es clock
  hr : w.heap[r]? = some (.mapIter (some b) since seen c0)
  hold : ∀ x ∈ es.toList, x.born < since
  hsc : since ≤ c0
  hsk : since ≤ clock
theorem Rg.ne (h : Rg w b r ns es clock since c0 seen) : r ≠ b := by
  intro e
  have := h.hr
  rw [e, h.mp.hb] at this
  cases this
theorem Rg.lt (h : Rg w b r ns es clock since c0 seen) : r < w.heap.size := (Array.getElem?_eq_some_iff.1 h.hr).1
theorem Rg.below (h : Rg w b r ns es clock since c0 seen) (hb : Below w.heap.size w w') : Rg w' b r ns es clock since c0 seen := ⟨h.mp.below hb, (hb.block _ h.lt).trans h.hr, h.hold, h.hsc, h.hsk⟩
theorem Rg.left (h : Rg w b r ns es clock since c0 seen) : w.rangeLeft b r = (leftOf es seen).size := by simp only [World.rangeLeft, h.mp.hb, h.hr]
theorem Mp.range (h : Mp w b ns es clock) : (Instr.range 80 (.map (some b))).run Try.prog w = .ok (.pointer (some ⟨w.heap.size, 0, none⟩)) (w.alloc (.mapIter (some b) clock #[] clock)) ∧ Rg (w.alloc (.mapIter (some b) clock #[] clock)) b w.heap.size ns es clock clock clock #[] :=
  ⟨run_range_map w _ _ _ b es clock Try.underlying80 h.hb, h.alloc _, heap_alloc_new w _, ((MapKept.stamped_iff _ _).1 h.st).1, Nat.le_refl _, Nat.le_refl _⟩
/-- the step: nothing is left; or a note that was not handed out yet -/
theorem Rg.next (h : Rg w b r ns es clock since c0 seen) (ty : TypeId) :
    ((∀ x ∈ es.toList, seen.contains x.born = true) ∧ (Instr.next (.pointer (some ⟨r, 0, none⟩)) false ty).run Try.prog w = .ok (.tuple #[.bool false]) w) ∨
    ∃ (j : Nat) (e : MapEntry) (n : Nt) (w1 : World), es.toList[j]? = some e ∧ ns[j]? = some n ∧ e.key = KN n.i ∧ e.val = NV n ∧ seen.contains e.born = false ∧ (Instr.next (.pointer (some ⟨r, 0, none⟩)) false ty).run Try.prog w = .ok (.tuple #[.bool true, KN n.i, NV n]) w1 ∧
      Rg w1 b r ns es clock since clock (seen.push e.born) ∧ w.grownBy w1 (some r) ∧ w1.heap.size = w.heap.size ∧ (leftOf es (seen.push e.born)).size < (leftOf es seen).size ∧ (Instr.entry (.pointer (some ⟨r, 0, none⟩))).run Try.prog w1 = .ok (.tuple #[KN n.i, NV n]) w1 := by
  rcases run_next_at (P := Try.prog) w ty r b since c0 seen es clock h.hr h.mp.hb h.hold h.hsc with ⟨h0, hrun⟩ | ⟨e, he, w1, hal, hrun⟩
  · exact .inl ⟨all_seen es seen h0, hrun⟩
  · obtain ⟨hem, hes⟩ := mem_left he
    obtain ⟨j, hj⟩ := List.getElem?_of_mem hem
    obtain ⟨n, hn, hk, hv⟩ := h.mp.note hj
    have hr1 : w1.heap[r]? = some (.mapIter (some b) since seen c0) := by rcases hal with rfl | rfl <;> exact h.hr
    have hb1 : w1.heap[b]? = some (.map es clock) := by rcases hal with rfl | rfl <;> exact h.mp.hb
    have hlt : r < w1.heap.size := (Array.getElem?_eq_some_iff.1 hr1).1
    have hg := setBlock_grown w1 r (.mapIter (some b) since (seen.push e.born) clock)
    have hb2 : (setBlock w1 r (.mapIter (some b) since (seen.push e.born) clock)).heap[b]? = some (.map es clock) := (hg.block b (Array.getElem?_eq_some_iff.1 hb1).1 (by intro e1; cases e1; exact h.ne rfl)).trans hb1
    have hent := run_entry_at (P := Try.prog) _ r b since seen es clock e (setBlock_at _ _ _ hlt) hb2 hem ((MapKept.stamped_iff es clock).1 h.mp.st).2.1
    rw [hk, hv] at hrun hent
    refine .inr ⟨j, e, n, _, hj, hn, hk, hv, hes, hrun, ⟨⟨hb2, h.mp.st, h.mp.kv, h.mp.ok⟩, setBlock_at _ _ _ hlt, h.hold, h.hsk, h.hsk⟩, ?_, ?_, left_shrinks es seen e he, hent⟩
    · rcases hal with rfl | rfl
      · exact hg
      · exact ⟨hg.os, hg.tape, hg.output, hg.size, hg.block⟩
    · rcases hal with rfl | rfl <;> simp [setBlock]
/-- in the round, a note is taken out -/
theorem Rg.drop (h : Rg w b r ns es clock since c0 seen) {j : Nat} {n : Nt} (hn : ns[j]? = some n) :
    ∃ es', (∀ ty, (Builtin.delete_ #[80, 83] ty #[.map (some b), KN n.i]).run Try.prog w = .ok (.tuple #[]) (setBlock w b (.map es' clock))) ∧ Rg (setBlock w b (.map es' clock)) b r (ns.eraseIdx j) es' clock since c0 seen ∧ es'.toList = es.toList.eraseIdx j := by
  obtain ⟨es', h1, h2, h3⟩ := h.mp.drop hn
  refine ⟨es', h1, ⟨h2, ?_, fun x hx => ?_, h.hsc, h.hsk⟩, h3⟩
  · exact ((setBlock_grown w b _).block r h.lt (by intro e; cases e; exact h.ne rfl)).trans h.hr
  · rw [h3] at hx
    exact h.hold x ((List.eraseIdx_sublist _ _).subset hx)
end
end Go.Proofs.Ytbngdenlplbjhaa
