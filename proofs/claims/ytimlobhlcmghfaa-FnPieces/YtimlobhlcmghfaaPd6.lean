/-
  Pieces as mathematics: what is put, taken, held.
-/
import Derived.Test.YtimlobhlcmghfaaPc6
namespace Go.Proofs.Ytimlobhlcmghfaa

theorem nxt6_mono {ps : List Pc} {lo : Nat} (h : right6 lo ps) : lo ≤ nxt6 lo ps := by
  induction ps generalizing lo with
  | nil => exact Nat.le_refl _
  | cons p ps ih =>
    have h1 := ih h.2.2
    have h2 := fin_pos h.2.1
    have h3 := h.1
    show lo ≤ nxt6 (p.fin + 1) ps
    omega
/-- nothing is behind the end -/
theorem byteAt_behind {ps : List Pc} {lo n m : Nat} (h : right6 lo ps) (hn : nxt6 lo ps ≤ n + 1) (hm : n ≤ m) : byteAt ps m = none := by
  induction ps generalizing lo with
  | nil => rfl
  | cons p ps ih =>
    have h1 := nxt6_mono h.2.2
    have h2 : nxt6 (p.fin + 1) ps ≤ n + 1 := hn
    rw [byteAt_out (by omega)]
    exact ih h.2.2 h2
/-- the byte at a place behind putting d at k: what is there stays -/
def putF (ps : List Pc) (k : Nat) (d : List Int) (n : Nat) : Option Int := (byteAt ps n).or (if k ≤ n then d[n - k]? else none)
def putL (ps : List Pc) (k : Nat) (d : List Int) : List Pc := scan6 (putF ps k d) 2000
theorem putF_end {ps : List Pc} {k : Nat} {d : List Int} (h : right6 0 ps) (hn : nxt6 0 ps ≤ 2001) (hd : k + d.length ≤ 2000) {n : Nat} (hm : 2000 ≤ n) : putF ps k d n = none := by
  unfold putF
  rw [byteAt_behind h hn hm]
  split
  · rw [List.getElem?_eq_none (by omega)]; rfl
  · rfl
theorem putL_right (ps : List Pc) (k : Nat) (d : List Int) : right6 0 (putL ps k d) := (scan6_ok _ _).right
theorem putL_bytes {ps : List Pc} {k : Nat} {d : List Int} (h : right6 0 ps) (hn : nxt6 0 ps ≤ 2001) (hd : k + d.length ≤ 2000) (n : Nat) : byteAt (putL ps k d) n = putF ps k d n := by
  unfold putL
  rw [(scan6_ok _ _).bytes n]
  split
  · rfl
  · exact (putF_end h hn hd (by omega)).symm
/-- it ends where the bytes end -/
theorem nxt6_bd {ps : List Pc} {lo n : Nat} (h : right6 lo ps) (hlo : lo ≤ n + 1) (hb : ∀ m, n ≤ m → byteAt ps m = none) : nxt6 lo ps ≤ n + 1 := by
  induction ps generalizing lo with
  | nil => exact hlo
  | cons p ps ih =>
    have hf := fin_pos h.2.1
    have h1 : p.fin ≤ n := by
      rcases Nat.lt_or_ge n p.fin with c | c
      · exfalso
        rcases Nat.lt_or_ge n p.a with c' | c'
        · exact byteAt_some (p := p) (ps := ps) ⟨Nat.le_refl _, hf⟩ (hb p.a (by omega))
        · exact byteAt_some (p := p) (ps := ps) ⟨c', c⟩ (hb n (Nat.le_refl _))
      · exact c
    refine ih h.2.2 (by omega) (fun m hm => ?_)
    have e := hb m hm
    by_cases c : p.a ≤ m ∧ m < p.fin
    · omega
    · rwa [byteAt_out c] at e
theorem putL_end {ps : List Pc} {k : Nat} {d : List Int} (h : right6 0 ps) (hn : nxt6 0 ps ≤ 2001) (hd : k + d.length ≤ 2000) : nxt6 0 (putL ps k d) ≤ 2001 :=
  nxt6_bd (putL_right ps k d) (by omega) (fun m hm => by rw [putL_bytes h hn hd]; exact putF_end h hn hd hm)
theorem putL_nil {ps : List Pc} {k : Nat} (h : right6 0 ps) (hn : nxt6 0 ps ≤ 2001) : putL ps k [] = ps := by
  unfold putL
  have e : putF ps k [] = byteAt ps := by
    funext n
    unfold putF
    cases byteAt ps n <;> simp
  rw [e]
  exact scan6_right h hn
theorem putL_again {ps : List Pc} {k : Nat} {d : List Int} (h : right6 0 ps) (hn : nxt6 0 ps ≤ 2001) (hd : k + d.length ≤ 2000) : putL (putL ps k d) k d = putL ps k d := by
  refine right6_uniq (putL_right _ _ _) (putL_right _ _ _) (fun n => ?_)
  rw [putL_bytes (putL_right ps k d) (putL_end h hn hd) hd, putF, putL_bytes h hn hd, putF]
  cases byteAt ps n with
  | some v => rfl
  | none =>
    split
    · cases d[n - k]? <;> rfl
    · rfl
/-- a right list with just the bytes that putting tells is what was put -/
theorem putL_uniq {ps qs : List Pc} {k : Nat} {d : List Int} (h : right6 0 ps) (hn : nxt6 0 ps ≤ 2001) (hd : k + d.length ≤ 2000) (hq : right6 0 qs) (hb : ∀ n, byteAt qs n = putF ps k d n) : qs = putL ps k d :=
  right6_uniq hq (putL_right _ _ _) (fun n => by rw [hb, putL_bytes h hn hd])

def sumD : List Pc → Nat
  | [] => 0
  | p :: ps => p.d.length + sumD ps
theorem countP_iv (a b N : Nat) (h : a ≤ b) (hb : b ≤ N) : (List.range N).countP (fun n => decide (a ≤ n ∧ n < b)) = b - a := by
  induction N generalizing b with
  | zero => simp; omega
  | succ N ih =>
    rw [List.range_succ, List.countP_append, List.countP_singleton]
    rcases Nat.lt_or_ge N b with c | c
    · obtain rfl : b = N + 1 := by omega
      rcases Nat.lt_or_ge N a with c' | c'
      · have e : (List.range N).countP (fun n => decide (a ≤ n ∧ n < N + 1)) = 0 := by
          rw [List.countP_eq_zero]
          intro x hx
          have := List.mem_range.1 hx
          simp; omega
        rw [e, if_neg (by simp; omega)]; omega
      · have e : (List.range N).countP (fun n => decide (a ≤ n ∧ n < N + 1)) = (List.range N).countP (fun n => decide (a ≤ n ∧ n < N)) := by
          apply List.countP_congr
          intro x hx
          have := List.mem_range.1 hx
          simp; omega
        rw [e, ih N c' (Nat.le_refl _), if_pos (by simp; omega)]; omega
    · rw [ih b h c, if_neg (by simp; omega)]; rfl
theorem countP_disj {l : List Nat} {p q : Nat → Bool} (h : ∀ x ∈ l, ¬ (p x = true ∧ q x = true)) : l.countP (fun x => p x || q x) = l.countP p + l.countP q := by
  induction l with
  | nil => rfl
  | cons x l ih =>
    have hx := h x (by simp)
    have hl := ih (fun y hy => h y (by simp [hy]))
    simp only [List.countP_cons, hl]
    cases hp : p x <;> cases hq : q x <;> simp_all <;> omega
theorem countP_or {l : List Nat} {p q : Nat → Bool} : l.countP (fun x => p x || q x) ≤ l.countP p + l.countP q := by
  induction l with
  | nil => exact Nat.le_refl _
  | cons x l ih =>
    simp only [List.countP_cons]
    cases hp : p x <;> cases hq : q x <;> simp <;> omega
theorem byteAt_isSome {p : Pc} {ps : List Pc} (n : Nat) : (byteAt (p :: ps) n).isSome = (decide (p.a ≤ n ∧ n < p.fin) || (byteAt ps n).isSome) := by
  by_cases c : p.a ≤ n ∧ n < p.fin
  · have := byteAt_some (ps := ps) c
    rw [decide_eq_true c, Bool.true_or]
    cases h : byteAt (p :: ps) n with
    | none => exact absurd h this
    | some v => rfl
  · rw [byteAt_out c, decide_eq_false c, Bool.false_or]
/-- how many bytes all have is how many places have one -/
theorem sumD_count {ps : List Pc} {lo N : Nat} (h : right6 lo ps) (hn : nxt6 lo ps ≤ N + 1) : sumD ps = (List.range N).countP (fun n => (byteAt ps n).isSome) := by
  induction ps generalizing lo with
  | nil =>
    symm
    show (List.range N).countP _ = 0
    rw [List.countP_eq_zero]
    intro x _
    simp [byteAt]
  | cons p ps ih =>
    have hm := nxt6_mono h.2.2
    have hn' : nxt6 (p.fin + 1) ps ≤ N + 1 := hn
    have e : (fun n => (byteAt (p :: ps) n).isSome) = fun n => (decide (p.a ≤ n ∧ n < p.fin) || (byteAt ps n).isSome) := by
      funext n; exact byteAt_isSome n
    rw [e, countP_disj, countP_iv _ _ _ (Nat.le_of_lt (fin_pos h.2.1)) (by omega), ← ih h.2.2 hn', sumD]
    · unfold Pc.fin; omega
    · intro x _ hx
      obtain ⟨h1, h2⟩ := hx
      have h1' := of_decide_eq_true h1
      rw [byteAt_below h.2.2 (by omega)] at h2
      cases h2
theorem putL_held {ps : List Pc} {k : Nat} {d : List Int} (h : right6 0 ps) (hn : nxt6 0 ps ≤ 2001) (hd : k + d.length ≤ 2000) : sumD ps ≤ sumD (putL ps k d) ∧ sumD (putL ps k d) ≤ sumD ps + d.length := by
  rw [sumD_count (N := 2000) h hn, sumD_count (N := 2000) (putL_right ps k d) (putL_end h hn hd)]
  have e : (fun n => (byteAt (putL ps k d) n).isSome) = fun n => ((byteAt ps n).isSome || decide (k ≤ n ∧ n < k + d.length)) := by
    funext n
    rw [putL_bytes h hn hd, putF]
    cases byteAt ps n with
    | some v => rfl
    | none =>
      simp only [Option.none_or, Option.isSome_none, Bool.false_or]
      by_cases c : k ≤ n
      · rw [if_pos c]
        by_cases c' : n < k + d.length
        · rw [List.getElem?_eq_getElem (by omega), decide_eq_true ⟨c, c'⟩]; rfl
        · rw [List.getElem?_eq_none (by omega), decide_eq_false (by omega)]; rfl
      · rw [if_neg c, decide_eq_false (by omega)]; rfl
  rw [e]
  constructor
  · apply List.countP_mono_left
    intro x _ hx
    rw [hx]; rfl
  · have := countP_or (l := List.range 2000) (p := fun n => (byteAt ps n).isSome) (q := fun n => decide (k ≤ n ∧ n < k + d.length))
    rw [countP_iv k (k + d.length) 2000 (by omega) hd] at this
    omega
/-- what is ready, and what is left behind it -/
def readyL : List Pc → List Int
  | [] => []
  | p :: _ => if p.a = 0 then p.d else []
def leftL : List Pc → List Pc
  | [] => []
  | p :: ps => if p.a = 0 then ps.map (fun x => ⟨x.a - p.d.length, x.d⟩) else p :: ps
theorem right6_shift {ps : List Pc} {lo k : Nat} (h : right6 (lo + k) ps) : right6 lo (ps.map fun x => ⟨x.a - k, x.d⟩) ∧ nxt6 lo (ps.map fun x => ⟨x.a - k, x.d⟩) ≤ nxt6 (lo + k) ps := by
  induction ps generalizing lo with
  | nil => exact ⟨trivial, by simp only [List.map_nil, nxt6]; omega⟩
  | cons p ps ih =>
    obtain ⟨h1, h2, h3⟩ := h
    have e : p.fin + 1 = ((⟨p.a - k, p.d⟩ : Pc).fin + 1) + k := by simp only [Pc.fin]; omega
    rw [e] at h3
    have := ih h3
    refine ⟨⟨by simp only; omega, h2, this.1⟩, ?_⟩
    show nxt6 ((⟨p.a - k, p.d⟩ : Pc).fin + 1) _ ≤ nxt6 (p.fin + 1) ps
    rw [e]
    exact this.2
theorem sumD_map (ps : List Pc) (k : Nat) : sumD (ps.map fun x => ⟨x.a - k, x.d⟩) = sumD ps := by
  induction ps with
  | nil => rfl
  | cons p ps ih => simp only [List.map_cons, sumD, ih]
theorem left_ok {ps : List Pc} (h : right6 0 ps) : right6 0 (leftL ps) ∧ nxt6 0 (leftL ps) ≤ nxt6 0 ps ∧ sumD (leftL ps) + (readyL ps).length = sumD ps := by
  cases ps with
  | nil => exact ⟨trivial, Nat.le_refl _, rfl⟩
  | cons p ps =>
    by_cases h0 : p.a = 0
    · have l1 : leftL (p :: ps) = ps.map fun x => ⟨x.a - p.d.length, x.d⟩ := by rw [leftL, if_pos h0]
      have l2 : readyL (p :: ps) = p.d := by rw [readyL, if_pos h0]
      rw [l1, l2]
      obtain ⟨h1, h2, h3⟩ := h
      have e : p.fin + 1 = 1 + p.d.length := by unfold Pc.fin; omega
      rw [e] at h3
      have h4 := right6_shift h3
      have h5 : right6 0 (ps.map fun x => ⟨x.a - p.d.length, x.d⟩) := by
        cases hq : ps.map (fun x => (⟨x.a - p.d.length, x.d⟩ : Pc)) with
        | nil => trivial
        | cons y ys => rw [hq] at h4; exact ⟨Nat.zero_le _, h4.1.2⟩
      refine ⟨h5, ?_, ?_⟩
      · show nxt6 0 _ ≤ nxt6 (p.fin + 1) ps
        rw [e]
        cases hq : ps.map (fun x => (⟨x.a - p.d.length, x.d⟩ : Pc)) with
        | nil => exact Nat.zero_le _
        | cons y ys => rw [hq] at h4; exact h4.2
      · rw [sumD_map, sumD]; omega
    · have l1 : leftL (p :: ps) = p :: ps := by rw [leftL, if_neg h0]
      have l2 : readyL (p :: ps) = [] := by rw [readyL, if_neg h0]
      rw [l1, l2]
      exact ⟨h, Nat.le_refl _, rfl⟩
end Go.Proofs.Ytimlobhlcmghfaa
