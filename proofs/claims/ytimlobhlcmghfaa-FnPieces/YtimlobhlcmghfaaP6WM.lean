/-
  What withHeld lays over the bytes that are put, by values: byte by byte it is what putting tells.
-/
import Derived.Test.YtimlobhlcmghfaaP6U
import Derived.Test.YtimlobhlcmghfaaP6V
import Derived.Test.YtimlobhlcmghfaaPe6
namespace Go.Proofs.Ytimlobhlcmghfaa
open Go.ChangeShapes Go.WideShapes Go.ChangeAt Go.RowKit

instance inP_dec (p : Pc) (n : Nat) : Decidable (inP p n) := by unfold inP; infer_instance
/-- the bytes d from x on, with those of v laid over them -/
def whStep (x : Int) (d : List Int) (v : Int × List Int) : List Int :=
  if (partV v.1 v.2 x (x + d.length)).2.length = 0 then d else Go.splice d ((partV v.1 v.2 x (x + d.length)).1 - x).toNat (partV v.1 v.2 x (x + d.length)).2
def whAll (x : Int) (d : List Int) : List (Int × List Int) → List Int
  | [] => d
  | v :: vs => whAll x (whStep x d v) vs
theorem splice_at {L cs : List Int} {off i : Nat} (h : off + cs.length ≤ L.length) : (Go.splice L off cs)[i]? = if off ≤ i ∧ i < off + cs.length then cs[i - off]? else L[i]? := by
  unfold Go.splice
  by_cases c1 : i < off
  · rw [if_neg (by omega), List.getElem?_append_left (by simp; omega), List.getElem?_take, if_pos c1]
  · rw [List.getElem?_append_right (by simp; omega), List.length_take, Nat.min_eq_left (by omega)]
    by_cases c2 : i < off + cs.length
    · rw [if_pos ⟨by omega, c2⟩, List.getElem?_append_left (by omega)]
    · rw [if_neg (by omega), List.getElem?_append_right (by omega), List.getElem?_drop]
      congr 1
      omega
theorem whStep_at {X : Nat} {d : List Int} {v : Int × List Int} (hv : 0 ≤ v.1) : (whStep X d v).length = d.length ∧ ∀ i, i < d.length → (whStep X d v)[i]? = if inP (toPc v) (X + i) then v.2[X + i - v.1.toNat]? else d[i]? := by
  have hf : (toPc v).fin = v.1.toNat + v.2.length := rfl
  have ha : (toPc v).a = v.1.toNat := rfl
  by_cases hc : mn (v.1 + v.2.length) ((X : Int) + d.length) ≤ mx v.1 X
  · have e : whStep X d v = d := by unfold whStep; rw [partV_none hc]; rfl
    rw [e]
    refine ⟨rfl, fun i hi => ?_⟩
    rw [if_neg]
    unfold inP
    rw [hf, ha]
    unfold mn mx at hc
    split at hc <;> split at hc <;> omega
  · obtain ⟨A, N, hN, hAN, eA, eE⟩ := part_nums hc
    have hp := partV_some hc eA eE
    have hl : ((v.2.drop A).take N).length = N := by simp; omega
    have h1 : (X : Int) ≤ mx v.1 X := by unfold mx; split <;> omega
    have h2 : mn (v.1 + v.2.length) ((X : Int) + d.length) ≤ (X : Int) + d.length := by unfold mn; split <;> omega
    have e : whStep X d v = Go.splice d (mx v.1 X - X).toNat ((v.2.drop A).take N) := by
      unfold whStep
      rw [hp]
      simp only
      rw [if_neg (by omega)]
    have hfit : (mx v.1 X - X).toNat + ((v.2.drop A).take N).length ≤ d.length := by rw [hl]; omega
    rw [e]
    refine ⟨length_splice _ _ _ hfit, fun i hi => ?_⟩
    rw [splice_at hfit, hl]
    by_cases c : (mx v.1 X - X).toNat ≤ i ∧ i < (mx v.1 X - X).toNat + N
    · rw [if_pos c, if_pos (by unfold inP; rw [hf, ha]; omega), List.getElem?_take, if_pos (by omega), List.getElem?_drop]
      congr 1
      omega
    · rw [if_neg c, if_neg]
      unfold inP
      rw [hf, ha]
      intro q
      apply c
      have h3 : mx v.1 X = v.1 ∨ mx v.1 X = X := by unfold mx; split <;> simp
      have h4 : mn (v.1 + v.2.length) ((X : Int) + d.length) = v.1 + v.2.length ∨ mn (v.1 + v.2.length) ((X : Int) + d.length) = (X : Int) + d.length := by unfold mn; split <;> simp
      omega
theorem whAll_at {X : Nat} {vs : List (Int × List Int)} (hv : ∀ v ∈ vs, 0 ≤ v.1) {lo : Nat} (hr : right6 lo (vs.map toPc)) (d : List Int) : (whAll X d vs).length = d.length ∧ ∀ i, i < d.length → (whAll X d vs)[i]? = (byteAt (vs.map toPc) (X + i)).or d[i]? := by
  induction vs generalizing d lo with
  | nil => exact ⟨rfl, fun i _ => by simp [whAll, byteAt]⟩
  | cons v vs ih =>
    have hs := whStep_at (X := X) (d := d) (hv v (List.mem_cons_self ..))
    have h2 := ih (fun u hu => hv u (List.mem_cons_of_mem _ hu)) hr.2.2 (whStep X d v)
    refine ⟨h2.1.trans hs.1, fun i hi => ?_⟩
    show (whAll X (whStep X d v) vs)[i]? = _
    rw [h2.2 i (by rw [hs.1]; exact hi), hs.2 i hi]
    show _ = (byteAt (toPc v :: vs.map toPc) (X + i)).or d[i]?
    by_cases c : inP (toPc v) (X + i)
    · rw [if_pos c, byteAt_in c, byteAt_below hr.2.2 (by unfold inP at c; omega), Option.none_or]
      have hl : X + i - v.1.toNat < v.2.length := by unfold inP Pc.fin toPc at c; simp only at c; omega
      show v.2[X + i - v.1.toNat]? = (v.2[X + i - v.1.toNat]?).or d[i]?
      rw [List.getElem?_eq_getElem hl]
      rfl
    · rw [if_neg c, byteAt_out c]
/-- what is put, with what is held laid over it, agrees with what putting tells -/
theorem wh_ok {vs : List (Int × List Int)} {X : Nat} {d : List Int} (hf : pfV vs = 0) (hd : d ≠ []) : okP (putF (vs.map toPc) X d) ⟨X, whAll X d vs⟩ := by
  have h := whAll_at (X := X) (fun v hv => (pf1_zero (pfV_short hf).2 v hv).1) (pfV_right hf).1 d
  refine ⟨fun e => hd (List.length_eq_zero_iff.1 (by rw [← h.1]; simp only at e; rw [e]; rfl)), fun n hn => ?_⟩
  unfold inP Pc.fin at hn
  simp only at hn
  have hlt : n - X < d.length := by rw [← h.1]; omega
  show (whAll X d vs)[n - X]? = _
  rw [h.2 _ hlt, show X + (n - X) = n by omega, putF, if_pos hn.1]
theorem byteAt_of_mem {ps : List Pc} {lo n : Nat} {p : Pc} (h : right6 lo ps) (hp : p ∈ ps) (hn : inP p n) : byteAt ps n = p.d[n - p.a]? := by
  induction ps generalizing lo with
  | nil => cases hp
  | cons q ps ih =>
    rcases List.mem_cons.1 hp with rfl | hp
    · exact byteAt_in hn
    · have hlow : ∀ (l : Nat) (xs : List Pc), right6 l xs → p ∈ xs → l ≤ p.a := by
        intro l xs
        induction xs generalizing l with
        | nil => intro _ h; cases h
        | cons x xs ihx =>
          intro hx hm
          rcases List.mem_cons.1 hm with rfl | hm
          · exact hx.1
          · have := ihx _ hx.2.2 hm
            have := fin_pos hx.2.1
            have := hx.1
            omega
      have := hlow _ _ h.2.2 hp
      rw [byteAt_out (by unfold inP at hn; omega)]
      exact ih h.2.2 hp
theorem right6_ne {ps : List Pc} {lo : Nat} {p : Pc} (h : right6 lo ps) (hp : p ∈ ps) : p.d ≠ [] := by
  induction ps generalizing lo with
  | nil => cases hp
  | cons q ps ih =>
    rcases List.mem_cons.1 hp with rfl | hp
    · exact h.2.1
    · exact ih h.2.2 hp
theorem byteAt_cov {ps : List Pc} {n : Nat} (h : byteAt ps n ≠ none) : covP ps n := by
  induction ps with
  | nil => exact absurd rfl h
  | cons p ps ih =>
    by_cases c : p.a ≤ n ∧ n < p.fin
    · exact ⟨p, List.mem_cons_self .., c⟩
    · rw [byteAt_out c] at h
      obtain ⟨q, hq, hn⟩ := ih h
      exact ⟨q, List.mem_cons_of_mem _ hq, hn⟩
/-- however the pieces and what is put stand, if they rise, they are merged to what putting tells -/
theorem put_glue {vs : List (Int × List Int)} {X : Nat} {zs : List Int} (hf : pfV vs = 0) (hz : zs ≠ []) (hx : X + zs.length ≤ 2000) {ss : List Pc} (hp : ss.Perm (vs.map toPc ++ [⟨X, whAll X zs vs⟩])) (hr : risePc 0 ss) : (mergePc [] ss).map ofPc = putV vs X zs := by
  have hR := pfV_right hf
  have hw := whAll_at (X := X) (fun v hv => (pf1_zero (pfV_short hf).2 v hv).1) hR.1 zs
  have h := merge_all (f := putF (vs.map toPc) X zs) hr (fun x hx => by
    rcases List.mem_append.1 (hp.mem_iff.1 hx) with hm | hm
    · refine ⟨right6_ne hR.1 hm, fun n hn => ?_⟩
      rw [putF, byteAt_of_mem hR.1 hm hn]
      have hl : n - x.a < x.d.length := by unfold inP Pc.fin at hn; omega
      rw [List.getElem?_eq_getElem hl]
      rfl
    · obtain rfl := List.mem_singleton.1 hm
      exact wh_ok hf hz) (fun n hn => by
    have key : covP (vs.map toPc ++ [⟨X, whAll X zs vs⟩]) n := by
      by_cases c : byteAt (vs.map toPc) n = none
      · rw [putF, c, Option.none_or] at hn
        have hXn : X ≤ n := by
          apply Classical.byContradiction
          intro q
          rw [if_neg q] at hn
          exact hn rfl
        rw [if_pos hXn] at hn
        have hlt : n - X < zs.length := by
          apply Classical.byContradiction
          intro q
          exact hn (List.getElem?_eq_none (by omega))
        refine ⟨⟨X, whAll X zs vs⟩, by simp, ?_⟩
        unfold inP Pc.fin
        simp only
        rw [hw.1]
        omega
      · obtain ⟨p, hpm, hin⟩ := byteAt_cov c
        exact ⟨p, List.mem_append_left _ hpm, hin⟩
    obtain ⟨p, hpm, hin⟩ := key
    exact ⟨p, hp.mem_iff.2 hpm, hin⟩)
  unfold putV
  rw [Int.toNat_natCast, putL_uniq hR.1 hR.2 hx h.1 h.2]
theorem rise_pc {vs : List (Int × List Int)} (h : vs.Pairwise fun u v => u.1 ≤ v.1) (T : Nat) (hT : ∀ v ∈ vs, (T : Int) ≤ v.1) : risePc T (vs.map toPc) := by
  induction vs generalizing T with
  | nil => trivial
  | cons v vs ih =>
    rw [List.pairwise_cons] at h
    have h0 := hT v (List.mem_cons_self ..)
    refine ⟨?_, ih h.2 _ (fun u hu => ?_)⟩
    · show T ≤ v.1.toNat
      omega
    · have := h.1 u hu
      show ((v.1.toNat : Nat) : Int) ≤ u.1
      omega
end Go.Proofs.Ytimlobhlcmghfaa
