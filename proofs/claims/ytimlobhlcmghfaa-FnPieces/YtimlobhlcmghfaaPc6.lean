/-
  Pieces as mathematics: right lists of pieces, the byte at a place; a right list is told by its bytes alone; what a scan of bytes tells is right.
-/
import Derived.Test.YtimlobhlcmghfaaRows
namespace Go.Proofs.Ytimlobhlcmghfaa

/-- a piece: its place and its bytes -/
structure Pc where
  a : Nat
  d : List Int
def Pc.fin (p : Pc) : Nat := p.a + p.d.length
/-- rising from lo on, no two touch, none is empty -/
def right6 : Nat → List Pc → Prop
  | _, [] => True
  | lo, p :: ps => lo ≤ p.a ∧ p.d ≠ [] ∧ right6 (p.fin + 1) ps
/-- where the next piece may begin -/
def nxt6 : Nat → List Pc → Nat
  | lo, [] => lo
  | _, p :: ps => nxt6 (p.fin + 1) ps
def byteAt : List Pc → Nat → Option Int
  | [], _ => none
  | p :: ps, n => if p.a ≤ n ∧ n < p.fin then p.d[n - p.a]? else byteAt ps n
theorem right6_append {lo : Nat} {ps qs : List Pc} : right6 lo (ps ++ qs) ↔ right6 lo ps ∧ right6 (nxt6 lo ps) qs := by
  induction ps generalizing lo with
  | nil => simp [right6, nxt6]
  | cons p ps ih => simp only [List.cons_append, right6, nxt6, ih]; constructor <;> (intro h; simp_all)
theorem nxt6_append {lo : Nat} {ps qs : List Pc} : nxt6 lo (ps ++ qs) = nxt6 (nxt6 lo ps) qs := by
  induction ps generalizing lo with
  | nil => rfl
  | cons p ps ih => exact ih
theorem byteAt_append {ps qs : List Pc} {n : Nat} : byteAt (ps ++ qs) n = (byteAt ps n).or (byteAt qs n) := by
  induction ps with
  | nil => simp [byteAt]
  | cons p ps ih =>
    simp only [List.cons_append, byteAt]
    split
    · rename_i h
      have : n - p.a < p.d.length := by unfold Pc.fin at h; omega
      rw [List.getElem?_eq_getElem this]; rfl
    · exact ih
theorem byteAt_below {lo : Nat} {ps : List Pc} (h : right6 lo ps) {n : Nat} (hn : n < lo) : byteAt ps n = none := by
  induction ps generalizing lo with
  | nil => rfl
  | cons p ps ih =>
    obtain ⟨h1, h2, h3⟩ := h
    rw [byteAt, if_neg (by omega)]
    exact ih h3 (by unfold Pc.fin; omega)
theorem byteAt_in {p : Pc} {ps : List Pc} {n : Nat} (h : p.a ≤ n ∧ n < p.fin) : byteAt (p :: ps) n = p.d[n - p.a]? := by rw [byteAt, if_pos h]
theorem byteAt_out {p : Pc} {ps : List Pc} {n : Nat} (h : ¬ (p.a ≤ n ∧ n < p.fin)) : byteAt (p :: ps) n = byteAt ps n := by rw [byteAt, if_neg h]
theorem byteAt_some {p : Pc} {ps : List Pc} {n : Nat} (h : p.a ≤ n ∧ n < p.fin) : byteAt (p :: ps) n ≠ none := by
  rw [byteAt_in h]
  have : n - p.a < p.d.length := by unfold Pc.fin at h; omega
  rw [List.getElem?_eq_getElem this]
  simp
theorem fin_pos {p : Pc} (h : p.d ≠ []) : p.a < p.fin := by
  unfold Pc.fin
  have : 0 < p.d.length := List.length_pos_iff.2 h
  omega
/-- two right lists with the same bytes are the same -/
theorem right6_uniq {lo : Nat} {ps qs : List Pc} (hp : right6 lo ps) (hq : right6 lo qs) (h : ∀ n, byteAt ps n = byteAt qs n) : ps = qs := by
  induction ps generalizing lo qs with
  | nil =>
    cases qs with
    | nil => rfl
    | cons q qs => exact absurd (h q.a).symm (byteAt_some ⟨Nat.le_refl _, fin_pos hq.2.1⟩)
  | cons p ps ih =>
    cases qs with
    | nil => exact absurd (h p.a) (byteAt_some ⟨Nat.le_refl _, fin_pos hp.2.1⟩)
    | cons q qs =>
      obtain ⟨p1, p2, p3⟩ := hp
      obtain ⟨q1, q2, q3⟩ := hq
      have fp := fin_pos p2
      have fq := fin_pos q2
      have ha : p.a = q.a := by
        rcases Nat.lt_trichotomy p.a q.a with c | c | c
        · exfalso
          have e := h p.a
          rw [byteAt_out (p := q) (by omega), byteAt_below q3 (by omega)] at e
          exact byteAt_some ⟨Nat.le_refl _, fp⟩ e
        · exact c
        · exfalso
          have e := h q.a
          rw [byteAt_out (p := p) (by omega), byteAt_below p3 (by omega)] at e
          exact byteAt_some ⟨Nat.le_refl _, fq⟩ e.symm
      have hf : p.fin = q.fin := by
        rcases Nat.lt_trichotomy p.fin q.fin with c | c | c
        · exfalso
          have e := h p.fin
          rw [byteAt_out (p := p) (by omega), byteAt_below p3 (by omega)] at e
          exact byteAt_some (p := q) (ps := qs) (n := p.fin) (by omega) e.symm
        · exact c
        · exfalso
          have e := h q.fin
          rw [byteAt_out (p := q) (by omega), byteAt_below q3 (by omega)] at e
          exact byteAt_some (p := p) (ps := ps) (n := q.fin) (by omega) e
      have hd : p.d = q.d := by
        have hl : p.d.length = q.d.length := by unfold Pc.fin at hf; omega
        refine List.ext_getElem? fun i => ?_
        by_cases hi : i < p.d.length
        · have e := h (p.a + i)
          rw [byteAt_in (by unfold Pc.fin; omega), byteAt_in (by unfold Pc.fin; omega)] at e
          have e1 : p.a + i - p.a = i := by omega
          have e2 : p.a + i - q.a = i := by omega
          rwa [e1, e2] at e
        · rw [List.getElem?_eq_none (by omega), List.getElem?_eq_none (by omega)]
      have hs : ps = qs := by
        refine ih p3 (by rw [hf]; exact q3) (fun n => ?_)
        by_cases c : p.a ≤ n ∧ n < p.fin
        · rw [byteAt_below p3 (by omega), byteAt_below q3 (by omega)]
        · have e := h n
          rwa [byteAt_out c, byteAt_out (by omega)] at e
      rw [hs]
      congr 1
      cases p; cases q
      simp only at ha hd
      rw [ha, hd]

/-- one byte more behind the last piece -/
def grow6 : List Pc → Int → List Pc
  | [], _ => []
  | [p], b => [⟨p.a, p.d ++ [b]⟩]
  | p :: q :: ps, b => p :: grow6 (q :: ps) b
theorem grow6_last (ps : List Pc) (p : Pc) (b : Int) : grow6 (ps ++ [p]) b = ps ++ [⟨p.a, p.d ++ [b]⟩] := by
  induction ps with
  | nil => rfl
  | cons x ps ih =>
    cases hx : ps ++ [p] with
    | nil => simp at hx
    | cons y ys => rw [List.cons_append, hx, grow6, ← hx, ih]; rfl
/-- the pieces of the first n places -/
def scan6 (f : Nat → Option Int) : Nat → List Pc
  | 0 => []
  | n + 1 => match f n with
    | none => scan6 f n
    | some b => if n = 0 ∨ f (n - 1) = none then scan6 f n ++ [⟨n, [b]⟩] else grow6 (scan6 f n) b
/-- what a scan has told: all bytes so far, right, the last piece open or shut -/
structure Sc6 (f : Nat → Option Int) (n : Nat) (L : List Pc) : Prop where
  right : right6 0 L
  bytes : ∀ m, byteAt L m = if m < n then f m else none
  shut : (n = 0 ∨ f (n - 1) = none) → nxt6 0 L ≤ n
  opened : ¬ (n = 0 ∨ f (n - 1) = none) → ∃ ps p, L = ps ++ [p] ∧ p.fin = n
theorem scan6_ok (f : Nat → Option Int) (n : Nat) : Sc6 f n (scan6 f n) := by
  induction n with
  | zero => exact ⟨trivial, fun m => by simp [scan6, byteAt], fun _ => Nat.le_refl _, fun h => absurd (.inl rfl) h⟩
  | succ n ih =>
    cases hb : f n with
    | none =>
      have e : scan6 f (n + 1) = scan6 f n := by rw [scan6, hb]
      rw [e]
      refine ⟨ih.right, fun m => ?_, fun _ => ?_, fun h => absurd (.inr (by simpa using hb)) h⟩
      · rw [ih.bytes m]
        by_cases c : m = n
        · subst c; simp [hb]
        · by_cases c' : m < n
          · rw [if_pos c', if_pos (by omega)]
          · rw [if_neg c', if_neg (by omega)]
      · by_cases c : n = 0 ∨ f (n - 1) = none
        · have := ih.shut c; omega
        · obtain ⟨ps, p, hl, hf⟩ := ih.opened c
          rw [hl, nxt6_append]
          show p.fin + 1 ≤ n + 1
          omega
    | some b =>
      by_cases c : n = 0 ∨ f (n - 1) = none
      · have e : scan6 f (n + 1) = scan6 f n ++ [⟨n, [b]⟩] := by rw [scan6, hb]; simp only; rw [if_pos c]
        rw [e]
        have hs := ih.shut c
        refine ⟨right6_append.2 ⟨ih.right, hs, by simp, trivial⟩, fun m => ?_, fun h => ?_, fun _ => ⟨_, _, rfl, rfl⟩⟩
        · rw [byteAt_append, ih.bytes m]
          by_cases q : m < n
          · rw [if_pos q, if_pos (by omega)]
            rw [byteAt_out (by simp only [Pc.fin]; omega)]
            cases f m <;> rfl
          · rw [if_neg q]
            by_cases q' : m = n
            · subst q'
              rw [byteAt_in (by simp [Pc.fin]), if_pos (by omega), hb]
              simp
            · rw [byteAt_out (by simp only [Pc.fin, List.length_cons, List.length_nil]; omega), if_neg (by omega)]
              rfl
        · rcases h with h | h
          · omega
          · simp only [Nat.add_sub_cancel] at h
            rw [hb] at h; cases h
      · have e : scan6 f (n + 1) = grow6 (scan6 f n) b := by rw [scan6, hb]; simp only; rw [if_neg c]
        obtain ⟨ps, p, hl, hf⟩ := ih.opened c
        rw [e, hl, grow6_last]
        have hr := ih.right
        rw [hl, right6_append] at hr
        refine ⟨right6_append.2 ⟨hr.1, hr.2.1, by simp, trivial⟩, fun m => ?_, fun h => ?_, fun _ => ⟨_, _, rfl, by simp only [Pc.fin, List.length_append, List.length_cons, List.length_nil] at hf ⊢; omega⟩⟩
        · have hbm := ih.bytes m
          rw [hl, byteAt_append] at hbm
          rw [byteAt_append]
          by_cases q : m = n
          · subst q
            have hn : byteAt ps m = none := by
              have h1 := hr.2.1
              cases hx : byteAt ps m with
              | none => rfl
              | some v =>
                rw [hx, if_neg (by omega)] at hbm
                cases hbm
            rw [hn, byteAt_in (by simp only [Pc.fin, List.length_append, List.length_cons, List.length_nil] at hf ⊢; omega), if_pos (by omega), hb]
            simp only [Pc.fin] at hf
            show (none : Option Int).or (p.d ++ [b])[m - p.a]? = some b
            rw [List.getElem?_append_right (by omega)]
            have : m - p.a - p.d.length = 0 := by omega
            simp [this]
          · by_cases q' : p.a ≤ m ∧ m < p.fin
            · have hlt : m < n := by omega
              rw [if_pos hlt] at hbm
              rw [if_pos (by omega), ← hbm, byteAt_in q', byteAt_in (by simp only [Pc.fin, List.length_append, List.length_cons, List.length_nil] at q' ⊢; omega)]
              simp only [Pc.fin] at q'
              show (byteAt ps m).or (p.d ++ [b])[m - p.a]? = (byteAt ps m).or p.d[m - p.a]?
              rw [List.getElem?_append_left (by omega)]
            · rw [byteAt_out q'] at hbm
              rw [byteAt_out (by simp only [Pc.fin, List.length_append, List.length_cons, List.length_nil] at q' hf ⊢; omega), hbm]
              by_cases r : m < n
              · rw [if_pos r, if_pos (by omega)]
              · rw [if_neg r, if_neg (by omega)]
        · rcases h with h | h
          · omega
          · simp only [Nat.add_sub_cancel] at h
            rw [hb] at h; cases h
/-- the scan of a right list's bytes is that list -/
theorem scan6_right {ps : List Pc} {n : Nat} (h : right6 0 ps) (hn : nxt6 0 ps ≤ n + 1) : scan6 (byteAt ps) n = ps := by
  refine right6_uniq (scan6_ok _ n).right h (fun m => ?_)
  rw [(scan6_ok _ n).bytes m]
  split
  · rfl
  · rename_i q
    symm
    have key : ∀ (lo : Nat) (qs : List Pc), right6 lo qs → ∀ k, nxt6 lo qs ≤ k + 1 → lo ≤ k + 1 → k ≤ m → byteAt qs m = none := by
      intro lo qs
      induction qs generalizing lo with
      | nil => intros; rfl
      | cons x xs ih =>
        intro hx k h1 h2 h3
        have mono : ∀ (zs : List Pc) (a : Nat), right6 a zs → a ≤ nxt6 a zs := by
          intro zs
          induction zs with
          | nil => intro a _; exact Nat.le_refl _
          | cons z zs ihz =>
            intro a hz
            have := ihz (z.fin + 1) hz.2.2
            have := fin_pos hz.2.1
            have := hz.1
            show a ≤ nxt6 (z.fin + 1) zs
            omega
        have := mono xs (x.fin + 1) hx.2.2
        have hk : nxt6 (x.fin + 1) xs ≤ k + 1 := h1
        rw [byteAt_out (by omega)]
        exact ih (x.fin + 1) hx.2.2 k h1 (by omega) h3
    exact key 0 ps h n hn (by omega) (by omega)
end Go.Proofs.Ytimlobhlcmghfaa
