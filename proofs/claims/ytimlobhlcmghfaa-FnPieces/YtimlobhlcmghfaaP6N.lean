/-
  slices.SortStableFunc over a short list of pieces by their places: the same pieces, rising.
-/
import Derived.Test.YtimlobhlcmghfaaP6C
import Derived.Test.YtimlobhlcmghfaaP6P
import Derived.Deep.RegionHeld3
namespace Go.Proofs.Ytimlobhlcmghfaa
open Go.ChangeShapes Go.WideShapes Go.ChangeAt Go.RowKit

def cmpI (x y : Int) : Int := if x < y then -1 else if y < x then 1 else 0
theorem isNaN_any (x : Int) (w : World) : Calls Try.prog 200 #[.int .i64 x] w fun e w' => e = .returned (.bool false) ∧ w = w' := by
  have h : (x != x) = false := by simp
  go_enter Try.func200, Try.ntmps200
  go_wp2
  go_ret
  exact ⟨rfl, rfl⟩
theorem compare_any (x y : Int) (w : World) : Calls Try.prog 189 #[.int .i64 x, .int .i64 y] w fun e w' => e = .returned (.int .i64 (cmpI x y)) ∧ w = w' := by
  have K := Lib.hid (fun z W => isNaN_any z W)
  by_cases h1 : x < y
  · have H : Hid (cmpI x y = -1) := if_pos h1
    rw [H.out]
    clear H
    go_enter Try.func189, Try.ntmps189
    go_wp2_with fail
    refine (K.out _ _).mono ?_
    rintro e w1 ⟨rfl, rfl⟩
    go_wp2_with fail
    refine (K.out _ _).mono ?_
    rintro e w1 ⟨rfl, rfl⟩
    go_wp2
    go_ret
    exact ⟨rfl, rfl⟩
  · by_cases h2 : y < x
    · have H : Hid (cmpI x y = 1) := by unfold cmpI; rw [if_neg h1, if_pos h2]; rfl
      rw [H.out]
      clear H
      go_enter Try.func189, Try.ntmps189
      go_wp2_with fail
      refine (K.out _ _).mono ?_
      rintro e w1 ⟨rfl, rfl⟩
      go_wp2_with fail
      refine (K.out _ _).mono ?_
      rintro e w1 ⟨rfl, rfl⟩
      go_wp2
      go_ret
      exact ⟨rfl, rfl⟩
    · have H : Hid (cmpI x y = 0) := by unfold cmpI; rw [if_neg h1, if_neg h2]; rfl
      rw [H.out]
      clear H
      go_enter Try.func189, Try.ntmps189
      go_wp2_with fail
      refine (K.out _ _).mono ?_
      rintro e w1 ⟨rfl, rfl⟩
      go_wp2_with fail
      refine (K.out _ _).mono ?_
      rintro e w1 ⟨rfl, rfl⟩
      go_wp2
      go_ret
      exact ⟨rfl, rfl⟩
theorem comparePlaces_any (k : Int) (a : Option Addr) (l c : Nat) (k' : Int) (a' : Option Addr) (l' c' : Nat) (w : World) :
    Calls Try.prog 169 #[.agg #[.int .i64 k, .slice a l c], .agg #[.int .i64 k', .slice a' l' c']] w fun e w' => e = .returned (.int .i64 (cmpI k k')) ∧ Below w.heap.size w w' := by
  have B0 := Lib.hid (((Below.refl w.heap.size w).alloc (Nat.le_refl _) (.cells #[.int .i64 k, .slice a l c] 133)).alloc (by simp) (.cells #[.int .i64 k', .slice a' l' c'] 133))
  have K := Lib.hid (fun W => compare_any k k' W)
  go_enter Try.func169, Try.ntmps169
  go_wp2_with fail
  refine (K.out _).mono ?_
  rintro e w1 ⟨rfl, rfl⟩
  go_wp2
  go_ret
  exact ⟨rfl, B0.out⟩

theorem cellsOf_setP (ps : List Pm) (k : Nat) (q : Pm) (hk : k < ps.length) : ((cellsOf ps).set (k * 2) (.int .i64 q.k)).set (k * 2 + 1) (.slice q.a q.l q.c) = cellsOf (ps.set k q) := by
  induction ps generalizing k with
  | nil => simp at hk
  | cons p ps ih =>
    cases k with
    | zero => rfl
    | succ k =>
      have e : (k + 1) * 2 = k * 2 + 1 + 1 := by omega
      rw [List.set_cons_succ, cellsOf_cons, cellsOf_cons, e, List.set_cons_succ, List.set_cons_succ, List.set_cons_succ, List.set_cons_succ, ih k (by simpa using hk)]
theorem Lo.putP {w : World} {base g : Nat} {len cap : Nat} {ps : List Pm} (h : Lo w base (some ⟨g, 0, none⟩) len cap ps) (k : Nat) (hk : k < len) (q : Pm) : Lo ((w.setCell ⟨g, k * 2, none⟩ (.int .i64 q.k)).setCell ⟨g, k * 2 + 1, none⟩ (.slice q.a q.l q.c)) base (some ⟨g, 0, none⟩) len cap (ps.set k q) := by
  have h1 := (h.row.stored (k * 2) (.int .i64 q.k)).1
  have h2 := (h1.stored (k * 2 + 1) (.slice q.a q.l q.c)).1
  rw [cellsOf_setP ps k q (by rw [h.length]; exact hk)] at h2
  exact ⟨h2⟩
def riseP (ps : List Pm) : Prop := ps.Pairwise fun p q => p.k ≤ q.k
theorem swap_set (L1 L2 : List Pm) (q p : Pm) : ((L1 ++ [q] ++ [p] ++ L2).set (L1.length + 1) q).set L1.length p = L1 ++ [p] ++ [q] ++ L2 := by
  have e1 : L1 ++ [q] ++ [p] ++ L2 = L1 ++ (q :: p :: L2) := by simp
  have e2 : L1 ++ [p] ++ [q] ++ L2 = L1 ++ (p :: q :: L2) := by simp
  rw [e1, e2, List.set_append_right _ _ (by omega), List.set_append_right _ _ (by omega)]
  simp

theorem Turn.set {lo hi : Nat} {w W : World} (h : Turn lo hi w W) (p : Addr) (u : Value) (h1 : lo ≤ p.block) (h2 : p.block < hi) : Turn lo hi w (W.setCell p u) := h.trans (Turn.of_grown (grown_setCell W p u) h1 h2)
theorem rise_ins {L1 L2 : List Pm} {p : Pm} (h : riseP (L1 ++ L2)) (h2 : ∀ q ∈ L2, p.k ≤ q.k) (h1 : ∀ q ∈ L1, q.k ≤ p.k) : riseP (L1 ++ [p] ++ L2) := by
  unfold riseP at *
  rw [List.pairwise_append] at h
  rw [List.append_assoc, List.pairwise_append]
  refine ⟨h.1, ?_, fun a ha b hb => ?_⟩
  · rw [List.singleton_append, List.pairwise_cons]
    exact ⟨h2, h.2.1⟩
  · rcases List.mem_append.1 hb with hb | hb
    · obtain rfl := List.mem_singleton.1 hb
      exact h1 a ha
    · exact h.2.2 a ha b hb
theorem rise_last {L1 L2 : List Pm} {q p : Pm} (h : riseP (L1 ++ [q] ++ L2)) (hq : q.k ≤ p.k) : ∀ x ∈ L1 ++ [q], x.k ≤ p.k := by
  intro x hx
  unfold riseP at h
  rw [List.pairwise_append] at h
  rcases List.mem_append.1 hx with hx | hx
  · have h1 := (List.pairwise_append.1 h.1).2.2 x hx q (by simp)
    omega
  · obtain rfl := List.mem_singleton.1 hx
    exact hq
theorem perm_ins {L1 L2 S T : List Pm} {p : Pm} (h : L1 ++ L2 = S) (hP : S.Perm T) : (L1 ++ [p] ++ L2).Perm (T ++ [p]) := by
  subst h
  have h1 : (L1 ++ [p] ++ L2).Perm (p :: (L1 ++ L2)) := by
    rw [List.append_assoc]
    exact List.perm_middle
  exact h1.trans ((List.Perm.cons p hP).trans (List.perm_append_singleton p T).symm)

set_option maxHeartbeats 4000000 in
theorem insertSort_any (g n cap base : Nat) (ps : List Pm) (w : World) (h : Lo w base (some ⟨g, 0, none⟩) n cap ps) (hn : n ≤ 10) :
    Calls Try.prog 198 #[.slice (some ⟨g, 0, none⟩) n cap, .int .i64 0, .int .i64 n, .func (.func 169) #[] #[]] w fun e w' => e = .returned (.tuple #[]) ∧ ∃ ss, ss.Perm ps ∧ riseP ss ∧ Lo w' base (some ⟨g, 0, none⟩) n cap ss ∧ Turn g (g + 1) w w' := by
  have HL := Lib.hid h
  have HN := Lib.hid h.length
  clear h
  go_enter Try.func198, Try.ntmps198
  go_wp2
  go_loopw [8] (fun i wr => ∃ (k : Nat) (S : List Pm), k ≤ n + 1 ∧ 1 ≤ k ∧ i = .int .i64 k ∧ Hid (S.Perm (ps.take k)) ∧ Hid (riseP S) ∧ Hid (Lo wr base (some ⟨g, 0, none⟩) n cap (S ++ ps.drop k)) ∧ Hid (Turn g (g + 1) w wr)) (fun i _ => n + 1 - (intOf i).toNat)
  case atStart => exact ⟨1, ps.take 1, by omega, Nat.le_refl _, rfl, List.Perm.refl _, by
    cases ps with
    | nil => simp [riseP, Hid]
    | cons p ps => simp [riseP, Hid], by rw [List.take_append_drop]; exact HL.out, Turn.refl _ _ _⟩
  case round =>
    obtain ⟨k, S, hk, hk1, rfl, hP, hR, hL, hT⟩ := hrel
    by_cases hlt : k < n
    · obtain ⟨p, hp⟩ : ∃ p, ps[k]? = some p := ⟨_, List.getElem?_eq_getElem (by rw [HN.out]; exact hlt)⟩
      have hd := Lib.hid (drop_cons hp)
      have htk : Hid (ps.take (k + 1) = ps.take k ++ [p]) := by simp only [Hid]; rw [List.take_add_one, hp]; rfl
      have hSl : S.length = k := by rw [hP.out.length_eq, List.length_take, HN.out]; omega
      have HSl := Lib.hid hSl
      clear hp hSl
      have hL0 : Hid (Lo wr base (some ⟨g, 0, none⟩) n cap (S ++ [p] ++ [] ++ ps.drop (k + 1))) := by
        have := hL.out
        rw [hd.out] at this
        simpa [Hid] using this
      go_wp2
      go_loopw [9] (fun i wr => ∃ (j : Nat) (L1 L2 : List Pm), j ≤ k ∧ i = .int .i64 j ∧ Hid (L1.length = j) ∧ Hid (L1 ++ L2 = S) ∧ Hid (∀ q ∈ L2, p.k ≤ q.k) ∧ Hid (Lo wr base (some ⟨g, 0, none⟩) n cap (L1 ++ [p] ++ L2 ++ ps.drop (k + 1))) ∧ Hid (Turn g (g + 1) w wr)) (fun i _ => (intOf i).toNat)
      case atStart => exact ⟨k, S, [], Nat.le_refl _, rfl, HSl.out, by simp [Hid], fun _ hq => (by cases hq), hL0.out, hT.out⟩
      case round =>
        clear hL hL0 hT
        obtain ⟨j, L1, L2, hj, rfl, hj1, hS, h2, hL, hT⟩ := hrel
        by_cases hj0 : j = 0
        · subst hj0
          obtain rfl : L1 = [] := List.length_eq_zero_iff.1 hj1.out
          have hR' : Hid (riseP ([] ++ [p] ++ L2)) := rise_ins (L1 := []) (by rw [hS.out]; exact hR.out) h2.out (fun _ hq => by cases hq)
          have hP' : Hid (([] ++ [p] ++ L2).Perm (ps.take (k + 1))) := by rw [htk.out]; exact perm_ins hS.out hP.out
          clear hS h2 hR hP
          go_wp2_with fail
          go_quiet (fail)
          go_wp2
          all_goals (refine ⟨⟨k + 1, [] ++ [p] ++ L2, by omega, by omega, by go_num, hP'.out, hR'.out, hL.out.below (belowN (Below.refl _ wr) _), hT.out.trans (Turn.of_below (belowN (Below.refl _ wr) _))⟩, ?_⟩; simp [intOf]; omega)
        · obtain ⟨L1', q, rfl⟩ : ∃ L1' q, L1 = L1' ++ [q] := by
            rcases List.eq_nil_or_concat L1 with e | ⟨init, e, hac⟩
            · exact absurd (by rw [← hj1.out, e]; rfl) hj0
            · exact ⟨init, e, by rw [hac, List.concat_eq_append]⟩
          have hlen : L1'.length + 1 = j := by have := hj1.out; simpa using this
          obtain ⟨m, hm⟩ : ∃ m, m = L1'.length := ⟨_, rfl⟩
          obtain rfl : j = m + 1 := by omega
          have HM := Lib.hid hm
          have eq1 : L1' ++ [q] ++ [p] ++ L2 ++ ps.drop (k + 1) = L1' ++ (q :: p :: (L2 ++ ps.drop (k + 1))) := by simp
          have hLL := hL.out
          obtain ⟨_, _, x0, e0, hx0, a0, a1⟩ := hLL.lb.at (show m < n by omega)
          cases e0
          obtain ⟨_, _, x1, e1, hx1, b0, b1⟩ := hLL.lb.at (show m + 1 < n by omega)
          cases e1
          rw [eq1, hm, List.getElem?_append_right (Nat.le_refl _), Nat.sub_self] at hx0
          rw [eq1, hm, List.getElem?_append_right (by omega), Nat.add_sub_cancel_left] at hx1
          simp only [List.getElem?_cons_zero, List.getElem?_cons_succ, Option.some.injEq] at hx0 hx1
          subst hx0 hx1
          simp only [Nat.zero_add] at a0 a1 b0 b1
          have G0 := hLL.fz.at (m * 2)
          have G1 := hLL.fz.at (m * 2 + 1)
          have G2 := hLL.fz.at ((m + 1) * 2)
          have G3 := hLL.fz.at ((m + 1) * 2 + 1)
          have hgl := (hLL.lt _ rfl).2
          simp only at hgl
          have hI0 : (0 : Int) ≤ (m : Int) + 1 := by omega
          have hI1 : (m : Int) + 1 < (n : Int) := by omega
          have hI2 : ((m : Int) + 1).toNat = m + 1 := by omega
          have hgt : (0 : Int) < (m : Int) + 1 := by omega
          have hw1 : IntKind.i64.wrap ((m : Int) + 1 - 1) = (m : Int) := (IntWalk.i64_in _ (by omega)).trans (by omega)
          have hw2 : IntKind.i64.wrap (m : Int) = (m : Int) := IntWalk.i64_in _ (by omega)
          have hI3 : (m : Int) < (n : Int) := by omega
          have hI4 : m < n := by omega
          clear hLL eq1 hlen hm
          obtain ⟨pk, pa, pl, pc, pz⟩ := p
          obtain ⟨qk, qa, ql, qc, qz⟩ := q
          simp only at a0 a1 b0 b1 h2
          have K := Lib.hid (comparePlaces_any pk pa pl pc qk qa ql qc wr.drew)
          by_cases hc : pk < qk
          · rw [show cmpI pk qk = -1 from if_pos hc] at K
            go_wp2_with fail
            go_region_held3 (fun W => W.cell? ⟨g, m * 2, none⟩ = some (.int .i64 qk) ∧ W.cell? ⟨g, m * 2 + 1, none⟩ = some (.slice qa ql qc) ∧ W.cell? ⟨g, (m + 1) * 2, none⟩ = some (.int .i64 pk) ∧ W.cell? ⟨g, (m + 1) * 2 + 1, none⟩ = some (.slice pa pl pc))
              (first | go_keep | (go_split_ands; exact ⟨keepK hb (by assumption), keepK hb (by assumption), keepK hb (by assumption), keepK hb (by assumption)⟩))
              (first | (go_at_call 169; refine K.out.mono ?_; rintro e w10 ⟨rfl, b10⟩; have hb := b10))
            have hL1 := (hL.out.below (Below.refl _ wr).drew).below b10
            have T1 := Lib.hid (hT.out.trans (Turn.of_below ((Below.refl _ wr).drew.trans b10)))
            have L3 := (hL1.putP (m + 1) (by omega) ⟨qk, qa, ql, qc, qz⟩).putP m (by omega) ⟨pk, pa, pl, pc, pz⟩
            have eS := swap_set L1' (L2 ++ ps.drop (k + 1)) ⟨qk, qa, ql, qc, qz⟩ ⟨pk, pa, pl, pc, pz⟩
            rw [← HM.out, ← List.append_assoc, ← List.append_assoc] at eS
            rw [eS] at L3
            have e5 : L1' ++ [(⟨pk, pa, pl, pc, pz⟩ : Pm)] ++ [⟨qk, qa, ql, qc, qz⟩] ++ L2 = L1' ++ [⟨pk, pa, pl, pc, pz⟩] ++ ([⟨qk, qa, ql, qc, qz⟩] ++ L2) := by simp
            rw [e5] at L3
            have LL3 := Lib.hid L3
            have d0 := keepK b10 (show wr.drew.cell? _ = _ from a0)
            have d1 := keepK b10 (show wr.drew.cell? _ = _ from a1)
            have d2 := keepK b10 (show wr.drew.cell? _ = _ from b0)
            have d3 := keepK b10 (show wr.drew.cell? _ = _ from b1)
            have g0 := hL1.fz.at (m * 2)
            have g1 := hL1.fz.at (m * 2 + 1)
            have g2 := hL1.fz.at ((m + 1) * 2)
            have g3 := hL1.fz.at ((m + 1) * 2 + 1)
            have hS' : Hid (L1' ++ ([⟨qk, qa, ql, qc, qz⟩] ++ L2) = S) := by rw [← hS.out, List.append_assoc]; rfl
            have h2' : Hid (∀ x ∈ [(⟨qk, qa, ql, qc, qz⟩ : Pm)] ++ L2, pk ≤ x.k) := by
              intro x hx
              rcases List.mem_append.1 hx with hx | hx
              · obtain rfl := List.mem_singleton.1 hx
                exact Int.le_of_lt hc
              · exact h2.out x hx
            clear hb b10 a0 a1 b0 b1 G0 G1 G2 G3 L3 eS e5 hL1 hL hT K hS h2 hgl
            go_wp2_with fail
            go_region_law (fail)
            all_goals (
              go_wp2
              all_goals (
                refine ⟨⟨m, L1', [Pm.mk qk qa ql qc qz] ++ L2, by omega, by go_num, HM.out.symm, hS'.out, h2'.out, LL3.out.below (Below.refl _ _).drew, ((((T1.out.set _ _ (Nat.le_refl _) (Nat.lt_succ_self _)).set _ _ (Nat.le_refl _) (Nat.lt_succ_self _)).set _ _ (Nat.le_refl _) (Nat.lt_succ_self _)).set _ _ (Nat.le_refl _) (Nat.lt_succ_self _)).trans (Turn.of_below (Below.refl _ _).drew)⟩, ?_⟩
                simp [intOf]))
          · have hge : ¬ cmpI pk qk < 0 := by unfold cmpI; rw [if_neg hc]; split <;> omega
            have hR' : Hid (riseP (L1' ++ [Pm.mk qk qa ql qc qz] ++ [Pm.mk pk pa pl pc pz] ++ L2)) := rise_ins (by rw [hS.out]; exact hR.out) h2.out (rise_last (L2 := L2) (by rw [hS.out]; exact hR.out) (by show qk ≤ pk; omega))
            have hP' : Hid ((L1' ++ [Pm.mk qk qa ql qc qz] ++ [Pm.mk pk pa pl pc pz] ++ L2).Perm (ps.take (k + 1))) := by rw [htk.out]; exact perm_ins hS.out hP.out
            generalize cmpI pk qk = cv at *
            clear hS h2 hR hP
            go_wp2_with fail
            go_region_held3 (fun W => W.cell? ⟨g, m * 2, none⟩ = some (.int .i64 qk) ∧ W.cell? ⟨g, m * 2 + 1, none⟩ = some (.slice qa ql qc) ∧ W.cell? ⟨g, (m + 1) * 2, none⟩ = some (.int .i64 pk) ∧ W.cell? ⟨g, (m + 1) * 2 + 1, none⟩ = some (.slice pa pl pc))
              (first | go_keep | (go_split_ands; exact ⟨keepK hb (by assumption), keepK hb (by assumption), keepK hb (by assumption), keepK hb (by assumption)⟩))
              (first | (go_at_call 169; refine K.out.mono ?_; rintro e w10 ⟨rfl, b10⟩; have hb := b10))
            have hL1 := Lib.hid ((hL.out.below (Below.refl _ wr).drew).below b10)
            have T1 := Lib.hid (hT.out.trans (Turn.of_below ((Below.refl _ wr).drew.trans b10)))
            clear hb b10 a0 a1 b0 b1 G0 G1 G2 G3 hL hT K hgl
            go_wp2
            all_goals (refine ⟨⟨k + 1, _, by omega, by omega, by go_num, hP'.out, hR'.out, hL1.out, T1.out⟩, ?_⟩; simp [intOf]; omega)
    · have hS : Hid (S.Perm ps) := by
        have := hP.out
        rwa [List.take_of_length_le (by rw [HN.out]; omega)] at this
      have hLE : Hid (Lo wr base (some ⟨g, 0, none⟩) n cap S) := by
        have := hL.out
        rwa [List.drop_of_length_le (by rw [HN.out]; omega), List.append_nil] at this
      clear hP hL
      go_wp2
      go_end0
      exact ⟨rfl, S, hS.out, hR.out, hLE.out, hT.out⟩
set_option maxHeartbeats 1000000 in
theorem sortStable_any (g n cap base : Nat) (ps : List Pm) (w : World) (h : Lo w base (some ⟨g, 0, none⟩) n cap ps) (hn : n ≤ 10) :
    Calls Try.prog 168 #[.slice (some ⟨g, 0, none⟩) n cap, .func (.func 169) #[] #[]] w fun e w' => e = .returned (.tuple #[]) ∧ ∃ ss, ss.Perm ps ∧ riseP ss ∧ Lo w' base (some ⟨g, 0, none⟩) n cap ss ∧ Turn g (g + 1) w w' := by
  have K := Lib.hid (insertSort_any g n cap base ps w h hn)
  clear h
  have K2 : Hid (Calls Try.prog 188 #[.slice (some ⟨g, 0, none⟩) n cap, .int .i64 n, .func (.func 169) #[] #[]] w fun e w' => e = .returned (.tuple #[]) ∧ ∃ ss, ss.Perm ps ∧ riseP ss ∧ Lo w' base (some ⟨g, 0, none⟩) n cap ss ∧ Turn g (g + 1) w w') := by
    have h1 : ¬ (20 : Int) ≤ (n : Int) := by omega
    have h2 : ¬ (20 : Int) < (n : Int) := by omega
    go_enter Try.func188, Try.ntmps188
    go_wp2
    go_loopw [7, 8] (fun a i wr => a = .int .i64 0 ∧ i = .int .i64 20 ∧ w = wr) (fun _ _ _ => 0)
    case atStart => exact ⟨rfl, rfl, rfl⟩
    case round =>
      obtain ⟨rfl, rfl, rfl⟩ := hrel
      go_wp2_with fail
      refine K.out.mono ?_
      rintro e w1 ⟨rfl, hh⟩
      have HH := Lib.hid hh
      clear hh K
      go_wp2
      go_loopw [6] (fun i wr => i = .int .i64 20 ∧ w1 = wr) (fun _ _ => 0)
      case atStart => exact ⟨rfl, rfl⟩
      case round =>
        obtain ⟨rfl, rfl⟩ := hrel
        go_wp2
        go_end0
        exact ⟨rfl, HH.out⟩
  clear K
  go_enter Try.func168, Try.ntmps168
  go_wp2_with fail
  refine K2.out.mono ?_
  rintro e w1 ⟨rfl, hh⟩
  have HH := Lib.hid hh
  clear hh K2
  go_wp2
  go_end0
  exact ⟨rfl, HH.out⟩
end Go.Proofs.Ytimlobhlcmghfaa
