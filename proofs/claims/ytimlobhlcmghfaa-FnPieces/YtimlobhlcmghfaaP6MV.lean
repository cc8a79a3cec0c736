/-
  Merging by values: what one more piece makes of the pieces that are merged.
-/
import Derived.Test.YtimlobhlcmghfaaP6WM
namespace Go.Proofs.Ytimlobhlcmghfaa
open Go.ChangeShapes Go.WideShapes Go.ChangeAt Go.RowKit

theorem mergePc_snoc (acc xs : List Pc) (x : Pc) : mergePc acc (xs ++ [x]) = stepPc (mergePc acc xs) x := by
  induction xs generalizing acc with
  | nil => rfl
  | cons y ys ih => exact ih _
/-- a joined piece by values -/
theorem join_val {k k' : Int} {z z' : List Int} (hk : 0 ≤ k) (hk' : 0 ≤ k') (ht : k' ≤ k + z.length) : (k, z ++ (partV k' z' (k + z.length) (k' + z'.length)).2) = ofPc (joinPc (toPc (k, z)) (toPc (k', z'))) := by
  have e : (partV k' z' (k + z.length) (k' + z'.length)).2 = z'.drop (k.toNat + z.length - k'.toNat) := by
    have hm : mx k' (k + z.length) = k + z.length := by unfold mx; split <;> omega
    have hn : mn (k' + z'.length) (k' + z'.length) = k' + z'.length := by unfold mn; split <;> omega
    unfold partV
    rw [hm, hn]
    split
    · rw [List.drop_of_length_le (by omega)]
    · simp only
      have e1 : (k + (z.length : Int) - k').toNat = k.toNat + z.length - k'.toNat := by omega
      rw [e1, List.take_of_length_le (by simp; omega)]
  unfold ofPc joinPc toPc Pc.fin
  simp only
  rw [e, Int.toNat_of_nonneg hk]

theorem last_val {init : List Pm} {e : Pm} {M : List Pc} (h : vals (init ++ [e]) = M.map ofPc) : ∃ M0, M = M0 ++ [toPc e.v] ∧ vals init = M0.map ofPc ∧ ofPc (toPc e.v) = e.v := by
  have hne : M ≠ [] := by
    rintro rfl
    have := congrArg List.length h
    simp [vals] at this
  have e1 : vals (init ++ [e]) = vals init ++ [e.v] := by simp [vals]
  rw [e1] at h
  have h2 := h
  rw [← List.dropLast_concat_getLast hne, List.map_append] at h2
  have h3 := List.append_inj' h2 rfl
  have h4 : e.v = ofPc (M.getLast hne) := by simpa using h3.2
  refine ⟨M.dropLast, ?_, h3.1, by rw [h4, toPc_ofPc]⟩
  conv => lhs; rw [← List.dropLast_concat_getLast hne]
  rw [h4, toPc_ofPc]
theorem merge_first {M : List Pc} (h : vals [] = M.map ofPc) (p : Pm) (hp : 0 ≤ p.k) : vals [p] = (stepPc M (toPc p.v)).map ofPc := by
  have hM : M = [] := by
    have := congrArg List.length h
    simp [vals] at this
    exact List.length_eq_zero_iff.1 this.symm
  rw [hM, stepPc_nil]
  show [p.v] = [ofPc (toPc p.v)]
  rw [ofPc_toPc (v := p.v) hp]
theorem merge_app {init : List Pm} {e : Pm} {M : List Pc} (h : vals (init ++ [e]) = M.map ofPc) (p : Pm) (hp : 0 ≤ p.k) (he : 0 ≤ e.k) (ht : ¬ p.k ≤ e.k + e.z.length) : vals (init ++ [e] ++ [p]) = (stepPc M (toPc p.v)).map ofPc := by
  obtain ⟨M0, rfl, h1, h2⟩ := last_val h
  have hc : ¬ (toPc p.v).a ≤ (toPc e.v).fin := by
    show ¬ p.k.toNat ≤ e.k.toNat + e.z.length
    omega
  rw [stepPc_app _ _ _ hc, List.map_append, ← h]
  have e1 : vals (init ++ [e] ++ [p]) = vals (init ++ [e]) ++ [p.v] := by simp [vals]
  rw [e1]
  show _ = _ ++ [ofPc (toPc p.v)]
  rw [ofPc_toPc (v := p.v) hp]
theorem merge_join {init : List Pm} {e : Pm} {M : List Pc} (h : vals (init ++ [e]) = M.map ofPc) (p : Pm) (hp : 0 ≤ p.k) (he : 0 ≤ e.k) (ht : p.k ≤ e.k + e.z.length) (a : Option Addr) (l c : Nat) : vals (init ++ [⟨e.k, a, l, c, e.z ++ (partV p.k p.z (e.k + e.z.length) (p.k + p.z.length)).2⟩]) = (stepPc M (toPc p.v)).map ofPc := by
  obtain ⟨M0, rfl, h1, h2⟩ := last_val h
  have hc : (toPc p.v).a ≤ (toPc e.v).fin := by
    show p.k.toNat ≤ e.k.toNat + e.z.length
    omega
  rw [stepPc_join _ _ _ hc, List.map_append, ← h1]
  have e1 : vals (init ++ [⟨e.k, a, l, c, e.z ++ (partV p.k p.z (e.k + e.z.length) (p.k + p.z.length)).2⟩]) = vals init ++ [(e.k, e.z ++ (partV p.k p.z (e.k + e.z.length) (p.k + p.z.length)).2)] := by simp [vals, Pm.v]
  rw [e1, join_val he hp ht]
  rfl
end Go.Proofs.Ytimlobhlcmghfaa
