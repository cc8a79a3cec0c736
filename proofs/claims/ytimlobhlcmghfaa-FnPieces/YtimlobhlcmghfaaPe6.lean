/-
  Pieces as mathematics: pieces that rise, and agree where they overlap, are merged to right ones.
-/
import Derived.Test.YtimlobhlcmghfaaPd6
namespace Go.Proofs.Ytimlobhlcmghfaa

def joinPc (e x : Pc) : Pc := ⟨e.a, e.d ++ x.d.drop (e.fin - x.a)⟩
/-- one piece more, behind those that are merged -/
def stepPc (acc : List Pc) (x : Pc) : List Pc :=
  match acc.getLast? with
  | none => [x]
  | some e => if x.a ≤ e.fin then acc.dropLast ++ [joinPc e x] else acc ++ [x]
def mergePc (acc : List Pc) : List Pc → List Pc
  | [] => acc
  | x :: xs => mergePc (stepPc acc x) xs
theorem stepPc_nil (x : Pc) : stepPc [] x = [x] := rfl
theorem stepPc_join (init : List Pc) (e x : Pc) (h : x.a ≤ e.fin) : stepPc (init ++ [e]) x = init ++ [joinPc e x] := by
  unfold stepPc
  simp [h]
theorem stepPc_app (init : List Pc) (e x : Pc) (h : ¬ x.a ≤ e.fin) : stepPc (init ++ [e]) x = init ++ [e] ++ [x] := by
  unfold stepPc
  simp [h]
def inP (p : Pc) (n : Nat) : Prop := p.a ≤ n ∧ n < p.fin
def covP (ps : List Pc) (n : Nat) : Prop := ∃ p ∈ ps, inP p n
/-- the piece's bytes are those of f -/
def okP (f : Nat → Option Int) (p : Pc) : Prop := p.d ≠ [] ∧ ∀ n, inP p n → p.d[n - p.a]? = f n
structure MInv (f : Nat → Option Int) (ps acc : List Pc) (T : Nat) : Prop where
  right : right6 0 acc
  top : ∀ p ∈ acc, p.a ≤ T
  yes : ∀ n, covP ps n → byteAt acc n = f n
  no : ∀ n, ¬ covP ps n → byteAt acc n = none
theorem byteAt_last {init : List Pc} {e : Pc} {n : Nat} (hr : right6 0 (init ++ [e])) (h : inP e n) : byteAt (init ++ [e]) n = e.d[n - e.a]? := by
  rw [byteAt_append]
  have h1 := right6_append.1 hr
  have hn : byteAt init n = none := by
    refine byteAt_behind (n := e.a - 1 + 1 - 1) h1.1 ?_ ?_
    · have := h1.2.1
      have := nxt6_mono h1.1
      omega
    · unfold inP at h; omega
  rw [hn, Option.none_or, byteAt_in h]
theorem byteAt_init {init : List Pc} {e e' : Pc} {n : Nat} (h : ¬ inP e n) (h' : ¬ inP e' n) : byteAt (init ++ [e']) n = byteAt (init ++ [e]) n := by
  rw [byteAt_append, byteAt_append, byteAt_out h, byteAt_out h']
theorem fin_join (e x : Pc) (h : x.a ≤ e.fin) : (joinPc e x).fin = max e.fin x.fin := by
  unfold joinPc Pc.fin
  simp only [List.length_append, List.length_drop]
  unfold Pc.fin at h
  omega
theorem MInv.step {f : Nat → Option Int} {ps acc : List Pc} {T : Nat} (h : MInv f ps acc T) (x : Pc) (hx : okP f x) (hT : T ≤ x.a) (hs : ∀ n, covP ps n → f n ≠ none) : MInv f (ps ++ [x]) (stepPc acc x) x.a := by
  have hcov : ∀ n, covP (ps ++ [x]) n ↔ covP ps n ∨ inP x n := by
    intro n
    unfold covP
    constructor
    · rintro ⟨p, hp, hn⟩
      rcases List.mem_append.1 hp with hp | hp
      · exact .inl ⟨p, hp, hn⟩
      · obtain rfl := List.mem_singleton.1 hp
        exact .inr hn
    · rintro (⟨p, hp, hn⟩ | hn)
      · exact ⟨p, List.mem_append_left _ hp, hn⟩
      · exact ⟨x, by simp, hn⟩
  rcases List.eq_nil_or_concat acc with rfl | ⟨init, e, hac⟩
  · rw [stepPc_nil]
    have hno : ∀ n, ¬ covP ps n := fun n hc => by
      have h1 := h.yes n hc
      exact hs n hc (h1.symm.trans rfl)
    refine ⟨⟨Nat.zero_le _, hx.1, trivial⟩, fun p hp => ?_, fun n hn => ?_, fun n hn => ?_⟩
    · obtain rfl := List.mem_singleton.1 hp; exact Nat.le_refl _
    · rcases (hcov n).1 hn with hn | hn
      · exact absurd hn (hno n)
      · rw [byteAt_in hn]; exact hx.2 n hn
    · rw [byteAt_out (fun hq => hn ((hcov n).2 (.inr hq)))]; rfl
  · rw [List.concat_eq_append] at hac
    subst hac
    have hr := right6_append.1 h.right
    have hea := h.top e (by simp)
    by_cases hj : x.a ≤ e.fin
    · rw [stepPc_join _ _ _ hj]
      have hf := fin_join e x hj
      have hfe := fin_pos hr.2.2.1
      refine ⟨right6_append.2 ⟨hr.1, hr.2.1, by simp [joinPc, hr.2.2.1], trivial⟩, fun p hp => ?_, fun n hn => ?_, fun n hn => ?_⟩
      · rcases List.mem_append.1 hp with hp | hp
        · exact Nat.le_trans (h.top p (by simp [hp])) hT
        · obtain rfl := List.mem_singleton.1 hp
          show e.a ≤ x.a
          omega
      · have hr' : right6 0 (init ++ [joinPc e x]) := right6_append.2 ⟨hr.1, hr.2.1, by simp [joinPc, hr.2.2.1], trivial⟩
        by_cases c1 : inP e n
        · have c2 : inP (joinPc e x) n := by unfold inP at *; rw [hf]; exact ⟨c1.1, by omega⟩
          rw [byteAt_last hr' c2]
          have e1 : (joinPc e x).d[n - (joinPc e x).a]? = e.d[n - e.a]? := by
            show (e.d ++ x.d.drop (e.fin - x.a))[n - e.a]? = _
            rw [List.getElem?_append_left (by unfold inP Pc.fin at c1; omega)]
          rw [e1, ← byteAt_last h.right c1]
          by_cases c3 : covP ps n
          · exact h.yes n c3
          · have h1 := h.no n c3
            rw [byteAt_last h.right c1] at h1
            have : n - e.a < e.d.length := by unfold inP Pc.fin at c1; omega
            rw [List.getElem?_eq_getElem this] at h1
            cases h1
        · by_cases c2 : inP x n
          · have c3 : inP (joinPc e x) n := by
              unfold inP at *; rw [hf]; show e.a ≤ n ∧ _; omega
            rw [byteAt_last hr' c3, ← hx.2 n c2]
            show (e.d ++ x.d.drop (e.fin - x.a))[n - e.a]? = _
            have hge : e.fin ≤ n := by unfold inP at c1 c2; omega
            rw [List.getElem?_append_right (by unfold Pc.fin at hge; omega), List.getElem?_drop]
            congr 1
            unfold inP at c2
            unfold Pc.fin at *
            omega
          · have c3 : covP ps n := by
              rcases (hcov n).1 hn with q | q
              · exact q
              · exact absurd q c2
            have c4 : ¬ inP (joinPc e x) n := by
              intro q
              unfold inP at *
              rw [hf] at q
              have q1 : e.a ≤ n := q.1
              omega
            rw [byteAt_init c1 c4]
            exact h.yes n c3
      · have c2 : ¬ inP x n := fun q => hn ((hcov n).2 (.inr q))
        have c3 : ¬ covP ps n := fun q => hn ((hcov n).2 (.inl q))
        have h1 := h.no n c3
        have c1 : ¬ inP e n := fun q => by
          rw [byteAt_last h.right q] at h1
          have : n - e.a < e.d.length := by unfold inP Pc.fin at q; omega
          rw [List.getElem?_eq_getElem this] at h1
          cases h1
        have c4 : ¬ inP (joinPc e x) n := by
          intro q
          unfold inP at *
          rw [hf] at q
          have q1 : e.a ≤ n := q.1
          omega
        rw [byteAt_init c1 c4]
        exact h1
    · rw [stepPc_app _ _ _ hj]
      have hnx : nxt6 0 (init ++ [e]) = e.fin + 1 := by rw [nxt6_append]; rfl
      have hr' : right6 0 (init ++ [e] ++ [x]) := right6_append.2 ⟨h.right, by rw [hnx]; omega, hx.1, trivial⟩
      refine ⟨hr', fun p hp => ?_, fun n hn => ?_, fun n hn => ?_⟩
      · rcases List.mem_append.1 hp with hp | hp
        · exact Nat.le_trans (h.top p hp) hT
        · obtain rfl := List.mem_singleton.1 hp; exact Nat.le_refl _
      · by_cases c2 : inP x n
        · rw [byteAt_last hr' c2]; exact hx.2 n c2
        · have c3 : covP ps n := by
            rcases (hcov n).1 hn with q | q
            · exact q
            · exact absurd q c2
          rw [byteAt_append, byteAt_out c2, h.yes n c3]
          cases f n <;> rfl
      · have c2 : ¬ inP x n := fun q => hn ((hcov n).2 (.inr q))
        rw [byteAt_append, byteAt_out c2, h.no n (fun q => hn ((hcov n).2 (.inl q)))]
        rfl
theorem MInv.nil (f : Nat → Option Int) : MInv f [] [] 0 := ⟨trivial, fun _ hp => (by cases hp), fun _ hn => (by obtain ⟨_, hp, _⟩ := hn; cases hp), fun _ _ => rfl⟩
def risePc : Nat → List Pc → Prop
  | _, [] => True
  | T, x :: xs => T ≤ x.a ∧ risePc x.a xs
theorem ok_some {f : Nat → Option Int} {p : Pc} (h : okP f p) {n : Nat} (hn : inP p n) : f n ≠ none := by
  rw [← h.2 n hn]
  have : n - p.a < p.d.length := by unfold inP Pc.fin at hn; omega
  rw [List.getElem?_eq_getElem this]
  simp
theorem MInv.all {f : Nat → Option Int} {ps acc : List Pc} {T : Nat} (h : MInv f ps acc T) (xs : List Pc) (hr : risePc T xs) (hp : ∀ x ∈ ps, okP f x) (hx : ∀ x ∈ xs, okP f x) : ∃ T', MInv f (ps ++ xs) (mergePc acc xs) T' := by
  induction xs generalizing ps acc T with
  | nil => exact ⟨T, by rw [List.append_nil]; exact h⟩
  | cons x xs ih =>
    have h1 := h.step x (hx x (by simp)) hr.1 (fun n hc => by obtain ⟨p, hpp, hn⟩ := hc; exact ok_some (hp p hpp) hn)
    have h2 := ih h1 hr.2 (fun y hy => by
      rcases List.mem_append.1 hy with hy | hy
      · exact hp y hy
      · obtain rfl := List.mem_singleton.1 hy; exact hx y (by simp)) (fun y hy => hx y (by simp [hy]))
    rw [List.append_assoc] at h2
    exact h2
/-- what rises, agrees with f and covers it, is merged to the right list of f's bytes -/
theorem merge_all {f : Nat → Option Int} {xs : List Pc} (hr : risePc 0 xs) (hx : ∀ x ∈ xs, okP f x) (hc : ∀ n, f n ≠ none → covP xs n) : right6 0 (mergePc [] xs) ∧ ∀ n, byteAt (mergePc [] xs) n = f n := by
  obtain ⟨T', h⟩ := (MInv.nil f).all xs hr (fun _ hp => by cases hp) hx
  simp only [List.nil_append] at h
  refine ⟨h.right, fun n => ?_⟩
  by_cases c : covP xs n
  · exact h.yes n c
  · rw [h.no n c]
    cases hf : f n with
    | none => rfl
    | some v => exact absurd (hc n (by rw [hf]; simp)) c
end Go.Proofs.Ytimlobhlcmghfaa
