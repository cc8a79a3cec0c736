/-
  Contracts of the helpers of the laws that size, copy and compare lists of entries.
-/
import Derived.Test.YtbngdenlplbjhaaE7M
import Derived.Deep.QuietTactic
import Derived.BigQuiet
namespace Go.Proofs.Ytbngdenlplbjhaa
open Go.ChangeShapes Go.WideShapes Go.ChangeAt Go.RowKit

theorem Try.infoEntry : (Try.prog.info? 43).map (fun i => (i.zero, i.size, i.bytes)) = some (some (.agg #[.int .i64 0, .int .i64 0, .int .i64 0]), 3, 24) := by kernel_rfl

/-- a list of these entries in new memory -/
def EnOut (w : World) (len : Nat) (es : List En) (e : Ending) (w' : World) : Prop :=
  ∃ a' c', e = .returned (.slice a' len c') ∧ Lw w' w.heap.size a' len c' es ∧ Below w.heap.size w w'
theorem take_rep_set {α : Type} (es : List α) (z : α) (k : Nat) (e : α) (hp : es[k]? = some e) : (es.take k ++ List.replicate (es.length - k) z).set k e = es.take (k + 1) ++ List.replicate (es.length - (k + 1)) z := by
  have hk := (List.getElem?_eq_some_iff.1 hp).1
  rw [List.set_append_right _ _ (by simp; omega), show k - (es.take k).length = 0 by simp; omega, show es.length - k = (es.length - (k + 1)) + 1 by omega, List.replicate_succ, List.set_cons_zero, List.take_add_one, hp]
  simp

def eqEn (p q : En) : Bool := decide (p = q)
def eqE (es fs : List En) : Bool := decide (es = fs)
theorem eqE_refl (es : List En) : eqE es es = true := decide_eq_true rfl
theorem en_ne {p q : En} : p ≠ q ↔ p.i ≠ q.i ∨ (p.i = q.i ∧ p.m ≠ q.m) ∨ (p.i = q.i ∧ p.m = q.m ∧ p.u ≠ q.u) := by
  obtain ⟨a, b, c⟩ := p
  obtain ⟨d, e, f⟩ := q
  simp only [ne_eq, En.mk.injEq]
  by_cases h0 : a = d <;> by_cases h1 : b = e <;> by_cases h2 : c = f <;> simp [h0, h1, h2]
end Go.Proofs.Ytbngdenlplbjhaa
