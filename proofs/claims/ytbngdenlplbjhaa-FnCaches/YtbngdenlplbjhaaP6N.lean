/-
  slices.SortStableFunc over a short list of pieces by their places: the same pieces, rising.
-/
import Derived.Test.YtbngdenlplbjhaaP6C
import Derived.Test.YtbngdenlplbjhaaP6P
import Derived.Deep.RegionHeld3
namespace Go.Proofs.Ytbngdenlplbjhaa
open Go.ChangeShapes Go.WideShapes Go.ChangeAt Go.RowKit

def cmpI (x y : Int) : Int := if x < y then -1 else if y < x then 1 else 0
theorem cellsOf_setP (ps : List Pm) (k : Nat) (q : Pm) (hk : k < ps.length) : ((cellsOf ps).set (k * 2) (.int .i64 q.k)).set (k * 2 + 1) (.slice q.a q.l q.c) = cellsOf (ps.set k q) := by
  induction ps generalizing k with
  | nil => simp at hk
  | cons p ps ih =>
    cases k with
    | zero => rfl
    | succ k =>
      have e : (k + 1) * 2 = k * 2 + 1 + 1 := by omega
      rw [List.set_cons_succ, cellsOf_cons, cellsOf_cons, e, List.set_cons_succ, List.set_cons_succ, List.set_cons_succ, List.set_cons_succ, ih k (by simpa using hk)]
theorem Lo.putP {w : World} {base g : Nat} {len cap : Nat} {ps : List Pm} (h : Lo w base (some ⟨g, 0, none⟩) len cap ps) (k : Nat) (hk : k < len) (q : Pm) : Lo ((w.setCell ⟨g, k * 2, none⟩ (.int .i64 q.k)).setCell ⟨g, k * 2 + 1, none⟩ (.slice q.a q.l q.c)) base (some ⟨g, 0, none⟩) len cap (ps.set k q) := by
  have h1 := (h.row.stored (k * 2) (.int .i64 q.k)).1
  have h2 := (h1.stored (k * 2 + 1) (.slice q.a q.l q.c)).1
  rw [cellsOf_setP ps k q (by rw [h.length]; exact hk)] at h2
  exact ⟨h2⟩
def riseP (ps : List Pm) : Prop := ps.Pairwise fun p q => p.k ≤ q.k
theorem swap_set (L1 L2 : List Pm) (q p : Pm) : ((L1 ++ [q] ++ [p] ++ L2).set (L1.length + 1) q).set L1.length p = L1 ++ [p] ++ [q] ++ L2 := by
  have e1 : L1 ++ [q] ++ [p] ++ L2 = L1 ++ (q :: p :: L2) := by simp
  have e2 : L1 ++ [p] ++ [q] ++ L2 = L1 ++ (p :: q :: L2) := by simp
  rw [e1, e2, List.set_append_right _ _ (by omega), List.set_append_right _ _ (by omega)]
  simp

theorem Turn.set {lo hi : Nat} {w W : World} (h : Turn lo hi w W) (p : Addr) (u : Value) (h1 : lo ≤ p.block) (h2 : p.block < hi) : Turn lo hi w (W.setCell p u) := h.trans (Turn.of_grown (grown_setCell W p u) h1 h2)
theorem rise_ins {L1 L2 : List Pm} {p : Pm} (h : riseP (L1 ++ L2)) (h2 : ∀ q ∈ L2, p.k ≤ q.k) (h1 : ∀ q ∈ L1, q.k ≤ p.k) : riseP (L1 ++ [p] ++ L2) := by
  unfold riseP at *
  rw [List.pairwise_append] at h
  rw [List.append_assoc, List.pairwise_append]
  refine ⟨h.1, ?_, fun a ha b hb => ?_⟩
  · rw [List.singleton_append, List.pairwise_cons]
    exact ⟨h2, h.2.1⟩
  · rcases List.mem_append.1 hb with hb | hb
    · obtain rfl := List.mem_singleton.1 hb
      exact h1 a ha
    · exact h.2.2 a ha b hb
theorem rise_last {L1 L2 : List Pm} {q p : Pm} (h : riseP (L1 ++ [q] ++ L2)) (hq : q.k ≤ p.k) : ∀ x ∈ L1 ++ [q], x.k ≤ p.k := by
  intro x hx
  unfold riseP at h
  rw [List.pairwise_append] at h
  rcases List.mem_append.1 hx with hx | hx
  · have h1 := (List.pairwise_append.1 h.1).2.2 x hx q (by simp)
    omega
  · obtain rfl := List.mem_singleton.1 hx
    exact hq
theorem perm_ins {L1 L2 S T : List Pm} {p : Pm} (h : L1 ++ L2 = S) (hP : S.Perm T) : (L1 ++ [p] ++ L2).Perm (T ++ [p]) := by
  subst h
  have h1 : (L1 ++ [p] ++ L2).Perm (p :: (L1 ++ L2)) := by
    rw [List.append_assoc]
    exact List.perm_middle
  exact h1.trans ((List.Perm.cons p hP).trans (List.perm_append_singleton p T).symm)

end Go.Proofs.Ytbngdenlplbjhaa
