/-
  PiecesFault, of the model and of the program: both are one closed form over the places and bytes.
-/
import Derived.Test.YtbngdenlplbjhaaP6H
import Derived.Test.YtbngdenlplbjhaaP6R
import Derived.Test.YtbngdenlplbjhaaD4Bd
namespace Go.Proofs.Ytbngdenlplbjhaa
open Go.ChangeShapes Go.WideShapes Go.ChangeAt Go.RowKit

/-- a place and its bytes are in the span -/
def spanB (k : Int) (n : Nat) : Bool := decide (0 ≤ k ∧ k + n ≤ 2000)
def pf1 : List (Int × List Int) → Int
  | [] => 0
  | v :: vs => if spanB v.1 v.2.length = true then (if v.2.length = 0 then 4 else pf1 vs) else 3
def pf2 : List (Int × List Int) → Int
  | [] => 0
  | [_] => 0
  | v :: u :: vs => if u.1 ≤ v.1 + v.2.length then 1 else pf2 (u :: vs)
def pfV (vs : List (Int × List Int)) : Int := if 4 < vs.length then 2 else if pf1 vs = 0 then pf2 vs else pf1 vs
theorem pf1_zero {vs : List (Int × List Int)} (h : pf1 vs = 0) : ∀ v ∈ vs, 0 ≤ v.1 ∧ v.1 + v.2.length ≤ 2000 ∧ v.2.length ≠ 0 := by
  induction vs with
  | nil => intro v hv; cases hv
  | cons u us ih =>
    intro v hv
    rw [pf1] at h
    by_cases c : spanB u.1 u.2.length = true
    · rw [if_pos c] at h
      by_cases c2 : u.2.length = 0
      · rw [if_pos c2] at h; omega
      · rw [if_neg c2] at h
        rcases List.mem_cons.1 hv with rfl | hv
        · have := of_decide_eq_true c; exact ⟨this.1, this.2, c2⟩
        · exact ih h v hv
    · rw [if_neg c] at h; omega
theorem span_t {k : Int} {n : Nat} (h : 0 ≤ k ∧ k + n ≤ 2000) : spanB k n = true := decide_eq_true h
theorem span_f {k : Int} {n : Nat} (h : ¬ (0 ≤ k ∧ k + n ≤ 2000)) : spanB k n = false := decide_eq_false h

theorem drop_cons {α : Type} {xs : List α} {k : Nat} {x : α} (h : xs[k]? = some x) : xs.drop k = x :: xs.drop (k + 1) := by
  have hlt := (List.getElem?_eq_some_iff.1 h).1
  rw [List.drop_eq_getElem_cons hlt, (List.getElem?_eq_some_iff.1 h).2]
theorem pf1_range {vs : List (Int × List Int)} {v : Int × List Int} {r : List (Int × List Int)} (h : pf1 vs = pf1 (v :: r)) (hs : spanB v.1 v.2.length = false) : pf1 vs = 3 := by
  rw [h, pf1, if_neg (by rw [hs]; simp)]
theorem pf1_none {vs : List (Int × List Int)} {v : Int × List Int} {r : List (Int × List Int)} (h : pf1 vs = pf1 (v :: r)) (hs : spanB v.1 v.2.length = true) (hn : v.2.length = 0) : pf1 vs = 4 := by
  rw [h, pf1, if_pos hs, if_pos hn]
theorem pf1_next {vs : List (Int × List Int)} {v : Int × List Int} {r : List (Int × List Int)} (h : pf1 vs = pf1 (v :: r)) (hs : spanB v.1 v.2.length = true) (hn : ¬ v.2.length = 0) : pf1 vs = pf1 r := by
  rw [h, pf1, if_pos hs, if_neg hn]
theorem pf2_form {vs : List (Int × List Int)} {v u : Int × List Int} {r : List (Int × List Int)} (h : pf2 vs = pf2 (v :: u :: r)) (hs : u.1 ≤ v.1 + v.2.length) : pf2 vs = 1 := by
  rw [h, pf2, if_pos hs]
theorem pf2_next {vs : List (Int × List Int)} {v u : Int × List Int} {r : List (Int × List Int)} (h : pf2 vs = pf2 (v :: u :: r)) (hs : ¬ u.1 ≤ v.1 + v.2.length) : pf2 vs = pf2 (u :: r) := by
  rw [h, pf2, if_neg hs]
theorem pfV_many {vs : List (Int × List Int)} (h : 4 < vs.length) : pfV vs = 2 := if_pos h
theorem pfV_one {vs : List (Int × List Int)} (h : ¬ 4 < vs.length) (k : Int) (hk : k ≠ 0) (h1 : pf1 vs = k) : pfV vs = k := by
  unfold pfV
  rw [if_neg h, if_neg (by omega)]; exact h1
theorem pfV_two {vs : List (Int × List Int)} (h : ¬ 4 < vs.length) (h1 : pf1 vs = 0) : pfV vs = pf2 vs := by
  unfold pfV
  rw [if_neg h, if_pos h1]

theorem within1 (g : Nat) (t : TypeId) (x0 l0 h0 : Int) (w : World) (h : Box w g t #[.int .i64 x0, .int .i64 l0, .int .i64 h0]) :
    Calls Try.prog 37 #[.slice (some ⟨g, 0, none⟩) 1 1] w fun e w' => e = .returned (.bool (inB x0 l0 h0)) ∧ Below w.heap.size w w' := by
  have := areWithin_any g [⟨x0, l0, h0⟩] w (by
    intro i x hx
    match i with
    | 0 => simp at hx; subst hx; exact ⟨h.cell 0, h.cell 1, h.cell 2⟩
    | k + 1 => simp at hx) (by simp)
  simpa [bdB] using this
end Go.Proofs.Ytbngdenlplbjhaa
