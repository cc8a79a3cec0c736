/-
  What the law FnPieces says, by values: what was put is right again and is there, what is left behind the taking is right, and nothing is ready in it.
-/
import Derived.Test.YtimlobhlcmghfaaP6U
namespace Go.Proofs.Ytimlobhlcmghfaa
open Go.ChangeShapes Go.WideShapes Go.ChangeAt Go.RowKit

theorem pf1_of {ps : List Pc} {lo : Nat} (h : right6 lo ps) (hn : nxt6 lo ps ≤ 2001) : pf1 (ps.map ofPc) = 0 := by
  induction ps generalizing lo with
  | nil => rfl
  | cons p ps ih =>
    obtain ⟨_, h2, h3⟩ := h
    have hm := nxt6_mono h3
    have hn' : nxt6 (p.fin + 1) ps ≤ 2001 := hn
    have hl : p.d.length ≠ 0 := fun e => h2 (List.length_eq_zero_iff.1 e)
    show (if spanB (p.a : Int) p.d.length = true then (if p.d.length = 0 then 4 else pf1 (ps.map ofPc)) else 3) = 0
    have hfin : p.fin = p.a + p.d.length := rfl
    rw [if_pos (span_t (by omega)), if_neg hl]
    exact ih h3 hn'
theorem pf2_of {ps : List Pc} {lo : Nat} (h : right6 lo ps) : pf2 (ps.map ofPc) = 0 := by
  induction ps generalizing lo with
  | nil => rfl
  | cons p ps ih =>
    cases ps with
    | nil => rfl
    | cons q qs =>
      obtain ⟨_, _, h3⟩ := h
      show (if (q.a : Int) ≤ (p.a : Int) + p.d.length then 1 else pf2 ((q :: qs).map ofPc)) = 0
      rw [if_neg (by have := h3.1; unfold Pc.fin at this; omega)]
      exact ih h3
theorem pfV_ofPc {ps : List Pc} (h : right6 0 ps) (hn : nxt6 0 ps ≤ 2001) (hl : ps.length ≤ 4) : pfV (ps.map ofPc) = 0 := by
  unfold pfV
  rw [if_neg (by simp; omega), if_pos (pf1_of h hn), pf2_of h]
theorem to_of (ps : List Pc) : (ps.map ofPc).map toPc = ps := by
  rw [List.map_map]
  have : (toPc ∘ ofPc) = id := by funext p; exact toPc_ofPc p
  rw [this, List.map_id]
theorem putV_to (vs : List (Int × List Int)) (x : Int) (zs : List Int) : (putV vs x zs).map toPc = putL (vs.map toPc) x.toNat zs := to_of _
section
variable {vs : List (Int × List Int)} {X : Nat} {zs : List Int}
theorem putV_ok (hf : pfV vs = 0) (hx : X + zs.length ≤ 2000) (hl : (putV vs X zs).length ≤ 4) : pfV (putV vs X zs) = 0 := by
  have hr := pfV_right hf
  refine pfV_ofPc (putL_right _ _ _) (putL_end hr.1 hr.2 (by rw [Int.toNat_natCast]; exact hx)) ?_
  unfold putV at hl
  simpa using hl
theorem putV_again (hf : pfV vs = 0) (hx : X + zs.length ≤ 2000) : putV (putV vs X zs) X zs = putV vs X zs := by
  have hr := pfV_right hf
  have e : putV (putV vs X zs) X zs = (putL ((putV vs X zs).map toPc) (X : Int).toNat zs).map ofPc := rfl
  rw [e, putV_to, Int.toNat_natCast, putL_again hr.1 hr.2 hx]
  unfold putV
  rw [Int.toNat_natCast]
theorem putV_sum (hf : pfV vs = 0) (hx : X + zs.length ≤ 2000) : sumV vs ≤ sumV (putV vs X zs) ∧ sumV (putV vs X zs) ≤ sumV vs + zs.length ∧ zs.length ≤ sumV (putV vs X zs) := by
  have hr := pfV_right hf
  have h1 : sumV (putV vs X zs) = sumD (putL (vs.map toPc) X zs) := by unfold putV; rw [sumV_of, Int.toNat_natCast]
  have h2 : sumV vs = sumD (vs.map toPc) := by
    have := sumV_of (vs.map toPc)
    rwa [pfV_of hf] at this
  have h3 := putL_held hr.1 hr.2 hx
  rw [h1, h2]
  refine ⟨h3.1, h3.2, ?_⟩
  rw [sumD_count (N := 2000) (putL_right _ X zs) (putL_end hr.1 hr.2 hx)]
  have h4 := countP_iv X (X + zs.length) 2000 (by omega) hx
  rw [show X + zs.length - X = zs.length by omega] at h4
  rw [← h4]
  refine List.countP_mono_left (fun n _ hn => ?_)
  have hn' := of_decide_eq_true hn
  rw [putL_bytes hr.1 hr.2 hx, putF, if_pos hn'.1]
  cases byteAt (vs.map toPc) n with
  | some b => rfl
  | none =>
    rw [Option.none_or, List.getElem?_eq_getElem (by omega)]
    rfl
end
theorem takeL_to {vs : List (Int × List Int)} (h : ∀ v ∈ vs, 0 ≤ v.1) : (takeL vs).map toPc = leftL (vs.map toPc) := by
  cases vs with
  | nil => rfl
  | cons v vs =>
    have h0 := h v (List.mem_cons_self ..)
    by_cases c : v.1 = 0
    · have c' : (toPc v).a = 0 := by show v.1.toNat = 0; omega
      show (takeL (v :: vs)).map toPc = leftL (toPc v :: vs.map toPc)
      rw [takeL, if_pos c, leftL, if_pos c', shiftV, List.map_map, List.map_map]
      apply List.map_congr_left
      intro u hu
      have hu0 := h u (List.mem_cons_of_mem _ hu)
      show (⟨(u.1 - (v.2.length : Int)).toNat, u.2⟩ : Pc) = ⟨u.1.toNat - v.2.length, u.2⟩
      congr 1
      omega
    · have c' : ¬ (toPc v).a = 0 := by show ¬ v.1.toNat = 0; omega
      show (takeL (v :: vs)).map toPc = leftL (toPc v :: vs.map toPc)
      rw [takeL, if_neg c, leftL, if_neg c']
      rfl
theorem takeR_to {vs : List (Int × List Int)} (h : ∀ v ∈ vs, 0 ≤ v.1) : takeR vs = readyL (vs.map toPc) := by
  cases vs with
  | nil => rfl
  | cons v vs =>
    have h0 := h v (List.mem_cons_self ..)
    show takeR (v :: vs) = readyL (toPc v :: vs.map toPc)
    by_cases c : v.1 = 0
    · rw [takeR, if_pos c, readyL, if_pos (by show v.1.toNat = 0; omega)]; rfl
    · rw [takeR, if_neg c, readyL, if_neg (by show ¬ v.1.toNat = 0; omega)]
/-- what is left has places from 0 on -/
theorem takeL_ge {vs : List (Int × List Int)} (hf : pfV vs = 0) : ∀ v ∈ takeL vs, 0 ≤ v.1 := by
  have h1 := pf1_zero (pfV_short hf).2
  have hr := (pfV_right hf).1
  cases vs with
  | nil => intro v hv; cases hv
  | cons v vs =>
    by_cases c : v.1 = 0
    · rw [takeL, if_pos c]
      intro u hu
      obtain ⟨q, hq, rfl⟩ := List.mem_map.1 hu
      have h2 : right6 ((toPc v).fin + 1) (vs.map toPc) := hr.2.2
      have h3 : ∀ (l : Nat) (xs : List Pc), right6 l xs → ∀ p ∈ xs, l ≤ p.a := by
        intro l xs
        induction xs generalizing l with
        | nil => intro _ p hp; cases hp
        | cons x xs ih =>
          intro hx p hp
          rcases List.mem_cons.1 hp with rfl | hp
          · exact hx.1
          · have := ih _ hx.2.2 p hp
            have := hx.1
            unfold Pc.fin at *
            omega
      have h4 := h3 _ _ h2 (toPc q) (List.mem_map_of_mem hq)
      have h5 : (toPc v).fin = v.1.toNat + v.2.length := rfl
      have h6 : (toPc q).a = q.1.toNat := rfl
      have h7 := (h1 q (List.mem_cons_of_mem _ hq)).1
      show 0 ≤ q.1 - (v.2.length : Int)
      omega
    · rw [takeL, if_neg c]
      intro u hu
      exact (h1 u hu).1
theorem takeL_len (vs : List (Int × List Int)) : (takeL vs).length ≤ vs.length := by
  cases vs with
  | nil => exact Nat.le_refl _
  | cons v vs =>
    by_cases c : v.1 = 0
    · rw [takeL, if_pos c]; simp [shiftV]
    · rw [takeL, if_neg c]; exact Nat.le_refl _
theorem left_right {vs : List (Int × List Int)} (hf : pfV vs = 0) : pfV (trL vs) = 0 ∧ sumV (trL vs) + (trR vs).length = sumV vs ∧ trR (trL vs) = [] := by
  have h0 : ∀ v ∈ vs, 0 ≤ v.1 := fun v hv => (pf1_zero (pfV_short hf).2 v hv).1
  have hr := pfV_right hf
  have hl := left_ok hr.1
  have e1 : trL vs = takeL vs := if_pos hf
  have e2 : trR vs = takeR vs := if_pos hf
  have e3 : ((takeL vs).map toPc).map ofPc = takeL vs := map_of_to (takeL_ge hf)
  rw [takeL_to h0] at e3
  have h4 := (pfV_short hf).1
  have hok : pfV (takeL vs) = 0 := by
    rw [← e3]
    refine pfV_ofPc hl.1 (by omega) ?_
    have := congrArg List.length e3
    simp at this
    have := takeL_len vs
    omega
  have h2 : sumV vs = sumD (vs.map toPc) := by
    have := sumV_of (vs.map toPc)
    rwa [pfV_of hf] at this
  have h3 : sumV (takeL vs) = sumD (leftL (vs.map toPc)) := by rw [← e3, sumV_of]
  rw [e1, e2]
  refine ⟨hok, ?_, ?_⟩
  · rw [h3, takeR_to h0, h2]
    exact hl.2.2
  · unfold trR
    rw [if_pos hok]
    cases vs with
    | nil => rfl
    | cons v vs =>
      by_cases c : v.1 = 0
      · rw [takeL, if_pos c]
        cases vs with
        | nil => rfl
        | cons u us =>
          have h5 : (toPc v).fin + 1 ≤ (toPc u).a := hr.1.2.2.1
          have h6 : (toPc v).fin = v.1.toNat + v.2.length := rfl
          have h7 : (toPc u).a = u.1.toNat := rfl
          show takeR ((u.1 - (v.2.length : Int), u.2) :: shiftV v.2.length us) = []
          rw [takeR, if_neg (by show ¬ u.1 - (v.2.length : Int) = 0; omega)]
      · rw [takeL, if_neg c, takeR, if_neg c]
end Go.Proofs.Ytimlobhlcmghfaa
