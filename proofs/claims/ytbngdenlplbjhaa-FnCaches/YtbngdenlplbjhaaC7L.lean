/-
  LearnEntry by values: its closed form, over entries and over notes.
-/
import Derived.Test.YtbngdenlplbjhaaC7G
namespace Go.Proofs.Ytbngdenlplbjhaa
open Go.ChangeShapes Go.WideShapes Go.ChangeAt Go.RowKit

/-- the entries of others than x -/
def noE (x : Int) (es : List En) : List En := es.filter fun e => decide (e.i ≠ x)
def noN (x : Int) (ns : List Nt) : List Nt := ns.filter fun n => decide (n.i ≠ x)
/-- what lies behind the first, where four are left -/
def roomL {α : Type} (l : List α) : List α := if 4 ≤ l.length then l.drop 1 else l
def lnE (x m t : Int) (es : List En) : List En := roomL (noE x es) ++ [⟨x, m, min (t + 60000) 100000000⟩]
/-- LearnEntry: its code, its entries -/
def lnC (es : List En) (x m t : Int) : Int := if cfC es = 0 then (if (inB x 0 4294967295 && inB m 0 281474976710655 && inB t 0 100000000) = true then 0 else 3) else cfC es
def lnV (es : List En) (x m t : Int) : List En := if lnC es x m t = 0 then lnE x m t es else []
theorem ents_no (x : Int) (k : Nat) (es : List En) : ents (noN x (ntsF k es)) = noE x es := by
  induction es generalizing k with
  | nil => rfl
  | cons e es ih =>
    unfold noN noE at *
    simp only [ntsF, List.filter_cons]
    by_cases h : e.i ≠ x
    · rw [decide_eq_true h, if_pos rfl]
      show _ :: ents (List.filter _ (ntsF (k + 1) es)) = _
      rw [ih]
      rfl
    · rw [decide_eq_false h]
      exact ih (k + 1)
theorem ents_len (ns : List Nt) : (ents ns).length = ns.length := List.length_map ..
theorem ents_room (ns : List Nt) : ents (roomL ns) = roomL (ents ns) := by
  unfold roomL
  rw [ents_len]
  split
  · unfold ents; rw [List.map_drop]
  · rfl
theorem noN_self {x : Int} {ns : List Nt} (h : ∀ q ∈ ns, q.i ≠ x) : noN x ns = ns := List.filter_eq_self.2 fun q hq => decide_eq_true (h q hq)
theorem noN_erase {x : Int} : ∀ {ns : List Nt} {j : Nat} {n : Nt}, (ns.Pairwise fun p q => p.i ≠ q.i) → ns[j]? = some n → n.i = x → ns.eraseIdx j = noN x ns
  | [], j, n, _, h, _ => by simp at h
  | a :: ns, 0, n, hp, h, hx => by
    simp at h
    subst h
    have h1 := (List.pairwise_cons.1 hp).1
    have h2 : noN x (a :: ns) = noN x ns := by unfold noN; rw [List.filter_cons_of_neg (by simpa using hx)]
    rw [h2, noN_self (fun q hq e => h1 q hq (by rw [hx, e]))]
    rfl
  | a :: ns, j + 1, n, hp, h, hx => by
    have h1 := List.pairwise_cons.1 hp
    have h2 : ns[j]? = some n := by simpa using h
    have ha : a.i ≠ x := fun e => h1.1 n (List.mem_of_getElem? h2) (by rw [e, hx])
    have h3 : noN x (a :: ns) = a :: noN x ns := by unfold noN; rw [List.filter_cons_of_pos (by simpa using ha)]
    rw [h3, List.eraseIdx_cons_succ, noN_erase h1.2 h2 hx]
theorem noN_ne {x : Int} {ns : List Nt} : ∀ q ∈ noN x ns, q.i ≠ x := fun _ hq => of_decide_eq_true (List.mem_filter.1 hq).2
theorem roomL_sub {α : Type} (l : List α) : List.Sublist (roomL l) l := by
  unfold roomL
  split
  · exact List.drop_sublist 1 l
  · exact List.Sublist.refl _
theorem roomL_len {α : Type} {l : List α} (h : l.length ≤ 4) : (roomL l).length ≤ 3 := by
  unfold roomL
  split
  · rw [List.length_drop]; omega
  · omega
theorem ntsF_lt (k : Nat) (es : List En) : ∀ n ∈ ntsF k es, n.p < (k : Int) + es.length := by
  induction es generalizing k with
  | nil => intro n h; cases h
  | cons e es ih =>
    intro n h
    rcases List.mem_cons.1 h with rfl | h
    · simp only [List.length_cons]; omega
    · have := ih (k + 1) n h
      simp only [List.length_cons]
      omega
theorem up_snoc {ns : List Nt} {q : Nt} (h : Up ns) (hq : ∀ n ∈ ns, n.p < q.p) : Up (ns ++ [q]) := by
  unfold Up at *
  rw [List.pairwise_append]
  exact ⟨h, List.pairwise_singleton _ _, fun a ha b hb => by rw [List.mem_singleton.1 hb]; exact hq a ha⟩
/-- the notes behind LearnEntry, and their entries -/
theorem learnt (x m t : Int) (es : List En) (h4 : es.length ≤ 4) (q : Nt) (hq : q = ⟨x, m, min (t + 60000) 100000000, (es.length : Int)⟩) :
    ents (roomL (noN x (ntsF 0 es)) ++ [q]) = lnE x m t es ∧ Up (roomL (noN x (ntsF 0 es)) ++ [q]) ∧ (roomL (noN x (ntsF 0 es)) ++ [q]).length ≤ 4 := by
  have hsub : List.Sublist (roomL (noN x (ntsF 0 es))) (ntsF 0 es) := (roomL_sub _).trans (List.filter_sublist ..)
  have hl : (noN x (ntsF 0 es)).length ≤ 4 := Nat.le_trans (List.length_filter_le _ _) (by rw [ntsF_len]; exact h4)
  refine ⟨?_, up_snoc (List.Pairwise.sublist hsub (ntsF_up 0 es)) (fun n hn => ?_), ?_⟩
  · have e1 : ∀ a b : List Nt, ents (a ++ b) = ents a ++ ents b := fun a b => List.map_append ..
    rw [e1, ents_room, ents_no]
    subst hq
    rfl
  · have := ntsF_lt 0 es n (hsub.subset hn)
    subst hq
    simpa using this
  · have := roomL_len hl
    rw [List.length_append]
    simp only [List.length_cons, List.length_nil]
    omega
end Go.Proofs.Ytbngdenlplbjhaa
