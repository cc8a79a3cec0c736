/-
  Copies of lists of pieces: clonePieces of the program, l6Copy of the model.
-/
import Derived.Test.YtbngdenlplbjhaaP6A
namespace Go.Proofs.Ytbngdenlplbjhaa
open Go.ChangeShapes Go.WideShapes Go.ChangeAt Go.RowKit

/-- a list of these pieces in new memory, its array at its block's head -/
def CloneOut (w : World) (len : Nat) (vs : List (Int × List Int)) (e : Ending) (w' : World) : Prop :=
  ∃ a' c' qs, e = .returned (.slice a' len c') ∧ Lo w' w.heap.size a' len c' qs ∧ Ds w' w.heap.size w'.heap.size qs ∧ vals qs = vs ∧ Below w.heap.size w w'

theorem mid_at (qs ps : List Pm) (k : Nat) (p : Pm) (hq : qs.length = k) (hp : ps[k]? = some p) : (qs ++ ps.drop k)[k]? = some p := by
  rw [List.getElem?_append_right (by omega), hq, Nat.sub_self, List.getElem?_drop, Nat.add_zero, hp]
theorem mid_set (qs ps : List Pm) (k : Nat) (p q : Pm) (hq : qs.length = k) (hp : ps[k]? = some p) : (qs ++ ps.drop k).set k q = (qs ++ [q]) ++ ps.drop (k + 1) := by
  rw [List.set_append_right _ _ (by omega), hq, Nat.sub_self, List.drop_eq_getElem_cons (List.getElem?_eq_some_iff.1 hp).1, List.set_cons_zero]
  simp

theorem lb_box {w : World} {g : Nat} {t : TypeId} {k : Int} {a : Option Addr} {l c : Nat} (h : Box w g t #[.int .i64 k, .slice a l c]) (z : List Int) : Lb w (some ⟨g, 0, none⟩) 1 1 [⟨k, a, l, c, z⟩] := by
  refine ⟨rfl, Nat.le_refl _, by unfold maxLen; omega, by simp, .inr ⟨g, 0, rfl, fun i p hp => ?_⟩⟩
  match i with
  | 0 => simp at hp; subst hp; exact ⟨h.cell 0, h.cell 1⟩
  | i + 1 => simp at hp
end Go.Proofs.Ytbngdenlplbjhaa
