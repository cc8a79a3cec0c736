/-
  The sort of a short list of neighbours by the places of their notes.
-/
import Derived.Test.YtbngdenlplbjhaaC7O
namespace Go.Proofs.Ytbngdenlplbjhaa
open Go.ChangeShapes Go.WideShapes Go.ChangeAt Go.RowKit
open Go.ChangeMaps (setBlock)

/-- the array in the block g holds these neighbours -/
structure Nw (w : World) (base g n cap : Nat) (ns : List Nt) : Prop where
  row : w.ownsRow base 83 1 (.slice (some ⟨g, 0, none⟩) n cap) n (ns.map fun q => .int .i64 q.i)
theorem Nw.length {w : World} {base g n cap : Nat} {ns : List Nt} (h : Nw w base g n cap ns) : ns.length = n := by
  have h0 := h.row.1
  rw [List.length_map] at h0
  omega
theorem Nw.lt {w : World} {base g n cap : Nat} {ns : List Nt} (h : Nw w base g n cap ns) : base ≤ g ∧ g < w.heap.size := h.row.lt g rfl
theorem Nw.at {w : World} {base g n cap : Nat} {ns : List Nt} (h : Nw w base g n cap ns) {i : Nat} {q : Nt} (hq : ns[i]? = some q) : w.cell? ⟨g, i, none⟩ = some (.int .i64 q.i) := by
  have hi : i < n := by have := (List.getElem?_eq_some_iff.1 hq).1; rw [h.length] at this; exact this
  rw [h.row.cellAt i (by omega), List.getElem?_map, hq]
  rfl
theorem Nw.below {w w' : World} {base g n cap : Nat} {ns : List Nt} (h : Nw w base g n cap ns) (hb : Below w.heap.size w w') : Nw w' base g n cap ns := by
  refine ⟨⟨h.row.1, ?_⟩⟩
  rcases h.row.2 with ⟨h0, _⟩ | ⟨g', c, cur, h1, h2, h3, h4⟩
  · simp at h0
  · simp only [Value.slice.injEq, Option.some.injEq, true_and] at h1
    obtain ⟨hh, rfl⟩ := h1
    cases hh
    exact .inr ⟨g, _, cur, rfl, h2, (hb.block _ (Array.getElem?_eq_some_iff.1 h3).1).trans h3, h4⟩
theorem Nw.put {w : World} {base g n cap : Nat} {ns : List Nt} (h : Nw w base g n cap ns) (k : Nat) (q : Nt) : Nw (w.setCell ⟨g, k, none⟩ (.int .i64 q.i)) base g n cap (ns.set k q) := by
  have h1 := (h.row.stored k (.int .i64 q.i)).1
  refine ⟨?_⟩
  rw [List.map_set]
  exact h1
def riseN (ns : List Nt) : Prop := ns.Pairwise fun p q => p.p ≤ q.p
theorem dropN_cons {ns : List Nt} {k : Nat} {p : Nt} (h : ns[k]? = some p) : ns.drop k = p :: ns.drop (k + 1) := by
  rw [← (List.getElem?_eq_some_iff.1 h).2, ← List.drop_eq_getElem_cons (List.getElem?_eq_some_iff.1 h).1]
theorem swapN_set (L1 L2 : List Nt) (q p : Nt) : ((L1 ++ [q] ++ [p] ++ L2).set (L1.length + 1) q).set L1.length p = L1 ++ [p] ++ [q] ++ L2 := by
  have e1 : L1 ++ [q] ++ [p] ++ L2 = L1 ++ (q :: p :: L2) := by simp
  have e2 : L1 ++ [p] ++ [q] ++ L2 = L1 ++ (p :: q :: L2) := by simp
  rw [e1, e2, List.set_append_right _ _ (by omega), List.set_append_right _ _ (by omega)]
  simp

theorem riseN_ins {L1 L2 : List Nt} {p : Nt} (h : riseN (L1 ++ L2)) (h2 : ∀ q ∈ L2, p.p ≤ q.p) (h1 : ∀ q ∈ L1, q.p ≤ p.p) : riseN (L1 ++ [p] ++ L2) := by
  unfold riseN at *
  rw [List.pairwise_append] at h
  rw [List.append_assoc, List.pairwise_append]
  refine ⟨h.1, ?_, fun a ha b hb => ?_⟩
  · rw [List.singleton_append, List.pairwise_cons]
    exact ⟨h2, h.2.1⟩
  · rcases List.mem_append.1 hb with hb | hb
    · obtain rfl := List.mem_singleton.1 hb
      exact h1 a ha
    · exact h.2.2 a ha b hb
theorem riseN_last {L1 L2 : List Nt} {q p : Nt} (h : riseN (L1 ++ [q] ++ L2)) (hq : q.p ≤ p.p) : ∀ x ∈ L1 ++ [q], x.p ≤ p.p := by
  intro x hx
  unfold riseN at h
  rw [List.pairwise_append] at h
  rcases List.mem_append.1 hx with hx | hx
  · have h1 := (List.pairwise_append.1 h.1).2.2 x hx q (by simp)
    omega
  · obtain rfl := List.mem_singleton.1 hx
    exact hq
theorem permN_ins {L1 L2 S T : List Nt} {p : Nt} (h : L1 ++ L2 = S) (hP : S.Perm T) : (L1 ++ [p] ++ L2).Perm (T ++ [p]) := by
  subst h
  have h1 : (L1 ++ [p] ++ L2).Perm (p :: (L1 ++ L2)) := by
    rw [List.append_assoc]
    exact List.perm_middle
  exact h1.trans ((List.Perm.cons p hP).trans (List.perm_append_singleton p T).symm)


set_option maxRecDepth 20000 in
set_option maxHeartbeats 4000000 in
theorem insertN_any (bx b : Nat) (t : TypeId) (N0 : List Nt) (ms : Array MapEntry) (clock : Nat) (g n cap base : Nat) (ps : List Nt) (w : World) (h : Nw w base g n cap ps) (hn : n ≤ 10) (hx : Box w bx t #[.map (some b)]) (hm : Mp w b N0 ms clock) (hbx : bx ≠ g) (hb : b ≠ g) (hmem : ∀ q ∈ ps, q ∈ N0) :
    Calls Try.prog 109 #[.slice (some ⟨g, 0, none⟩) n cap, .int .i64 0, .int .i64 n, .func (.func 76) #[] #[.pointer (some ⟨bx, 0, none⟩)]] w fun e w' => e = .returned (.tuple #[]) ∧ ∃ ss, ss.Perm ps ∧ riseN ss ∧ Nw w' base g n cap ss ∧ Turn g (g + 1) w w' := by
  have HL := Lib.hid h
  have HN := Lib.hid h.length
  have HM := Lib.hid hmem
  have HX := Lib.hid (show ∀ W, Turn g (g + 1) w W → Box W bx t #[.map (some b)] ∧ Mp W b N0 ms clock from fun W hW => ⟨(hW.block bx hx.lt (by omega)).trans hx, hm.same (hW.block b hm.lt (by omega))⟩)
  clear h hx hm hmem
  go_enter Try.func109, Try.ntmps109
  go_wp2
  go_loopw [8] (fun i wr => ∃ (k : Nat) (S : List Nt), k ≤ n + 1 ∧ 1 ≤ k ∧ i = .int .i64 k ∧ Hid (S.Perm (ps.take k)) ∧ Hid (riseN S) ∧ Hid (Nw wr base g n cap (S ++ ps.drop k)) ∧ Hid (Turn g (g + 1) w wr)) (fun i _ => n + 1 - (intOf i).toNat)
  case atStart => exact ⟨1, ps.take 1, by omega, Nat.le_refl _, rfl, List.Perm.refl _, by
    cases ps with
    | nil => simp [riseN, Hid]
    | cons p ps => simp [riseN, Hid], by rw [List.take_append_drop]; exact HL.out, Turn.refl _ _ _⟩
  case round =>
    obtain ⟨k, S, hk, hk1, rfl, hP, hR, hL, hT⟩ := hrel
    by_cases hlt : k < n
    · obtain ⟨p, hp⟩ : ∃ p, ps[k]? = some p := ⟨_, List.getElem?_eq_getElem (by rw [HN.out]; exact hlt)⟩
      have hd := Lib.hid (dropN_cons hp)
      have hpm := Lib.hid (HM.out p (List.mem_of_getElem? hp))
      have hSm : Hid (∀ q ∈ S, q ∈ N0) := fun q hq => HM.out q (List.mem_of_mem_take (hP.out.mem_iff.1 hq))
      have htk : Hid (ps.take (k + 1) = ps.take k ++ [p]) := by simp only [Hid]; rw [List.take_add_one, hp]; rfl
      have hSl : S.length = k := by rw [hP.out.length_eq, List.length_take, HN.out]; omega
      have HSl := Lib.hid hSl
      clear hp hSl
      have hL0 : Hid (Nw wr base g n cap (S ++ [p] ++ [] ++ ps.drop (k + 1))) := by
        have := hL.out
        rw [hd.out] at this
        simpa [Hid] using this
      go_wp2
      go_loopw [9] (fun i wr => ∃ (j : Nat) (L1 L2 : List Nt), j ≤ k ∧ i = .int .i64 j ∧ Hid (L1.length = j) ∧ Hid (L1 ++ L2 = S) ∧ Hid (∀ q ∈ L2, p.p ≤ q.p) ∧ Hid (Nw wr base g n cap (L1 ++ [p] ++ L2 ++ ps.drop (k + 1))) ∧ Hid (Turn g (g + 1) w wr)) (fun i _ => (intOf i).toNat)
      case atStart => exact ⟨k, S, [], Nat.le_refl _, rfl, HSl.out, by simp [Hid], fun _ hq => (by cases hq), hL0.out, hT.out⟩
      case round =>
        clear hL hL0 hT
        obtain ⟨j, L1, L2, hj, rfl, hj1, hS, h2, hL, hT⟩ := hrel
        by_cases hj0 : j = 0
        · subst hj0
          obtain rfl : L1 = [] := List.length_eq_zero_iff.1 hj1.out
          have hR' : Hid (riseN ([] ++ [p] ++ L2)) := riseN_ins (L1 := []) (by rw [hS.out]; exact hR.out) h2.out (fun _ hq => by cases hq)
          have hP' : Hid (([] ++ [p] ++ L2).Perm (ps.take (k + 1))) := by rw [htk.out]; exact permN_ins hS.out hP.out
          clear hS h2 hR hP
          go_wp2_with fail
          go_quiet (fail)
          go_wp2
          all_goals (refine ⟨⟨k + 1, [] ++ [p] ++ L2, by omega, by omega, by go_num, hP'.out, hR'.out, hL.out.below (belowN (Below.refl _ wr) _), hT.out.trans (Turn.of_below (belowN (Below.refl _ wr) _))⟩, ?_⟩; simp [intOf]; omega)
        · obtain ⟨L1', q, rfl⟩ : ∃ L1' q, L1 = L1' ++ [q] := by
            rcases List.eq_nil_or_concat L1 with e | ⟨init, e, hac⟩
            · exact absurd (by rw [← hj1.out, e]; rfl) hj0
            · exact ⟨init, e, by rw [hac, List.concat_eq_append]⟩
          have hlen : L1'.length + 1 = j := by have := hj1.out; simpa using this
          have hqm : Hid (q ∈ N0) := hSm.out q (by rw [← hS.out]; simp)
          obtain ⟨m, hm⟩ : ∃ m, m = L1'.length := ⟨_, rfl⟩
          obtain rfl : j = m + 1 := by omega
          have HMl := Lib.hid hm
          have eq1 : L1' ++ [q] ++ [p] ++ L2 ++ ps.drop (k + 1) = L1' ++ (q :: p :: (L2 ++ ps.drop (k + 1))) := by simp
          have hLL := hL.out
          have a0 := hLL.at (i := m) (q := q) (by rw [eq1, hm, List.getElem?_append_right (Nat.le_refl _), Nat.sub_self]; rfl)
          have b0 := hLL.at (i := m + 1) (q := p) (by rw [eq1, hm, List.getElem?_append_right (by omega), Nat.add_sub_cancel_left]; rfl)
          have G0 := hLL.row.frozenAt m
          have G1 := hLL.row.frozenAt (m + 1)
          have hgl := hLL.lt.2
          have hI0 : (0 : Int) ≤ (m : Int) + 1 := by omega
          have hI1 : (m : Int) + 1 < (n : Int) := by omega
          have hI2 : ((m : Int) + 1).toNat = m + 1 := by omega
          have hgt : (0 : Int) < (m : Int) + 1 := by omega
          have hw1 : IntKind.i64.wrap ((m : Int) + 1 - 1) = (m : Int) := (IntWalk.i64_in _ (by omega)).trans (by omega)
          have hw2 : IntKind.i64.wrap (m : Int) = (m : Int) := IntWalk.i64_in _ (by omega)
          have hI3 : (m : Int) < (n : Int) := by omega
          have hI4 : m < n := by omega
          have hXW := HX.out wr hT.out
          have K := Lib.hid (cmpN_any bx b t N0 ms clock p q wr.drew (hXW.1.below (Below.refl _ wr).drew hXW.1.lt) hXW.2.drew hpm.out hqm.out)
          clear hLL eq1 hlen hm hXW
          obtain ⟨pi, pm, pu, pk⟩ := p
          obtain ⟨qi, qm, qu, qk⟩ := q
          simp only at a0 b0 h2 K
          by_cases hc : pk < qk
          · rw [show cmpI pk qk = -1 from if_pos hc] at K
            go_wp2_with fail
            go_region_held3 (fun W => W.cell? ⟨g, m, none⟩ = some (.int .i64 qi) ∧ W.cell? ⟨g, m + 1, none⟩ = some (.int .i64 pi))
              (first | go_keep | (go_split_ands; exact ⟨keepK hb (by assumption), keepK hb (by assumption)⟩))
              (first | (go_at_call 76; refine K.out.mono ?_; rintro e w10 ⟨rfl, b10⟩; have hb := b10))
            have hL1 := (hL.out.below (Below.refl _ wr).drew).below b10
            have T1 := Lib.hid (hT.out.trans (Turn.of_below ((Below.refl _ wr).drew.trans b10)))
            have L3 := (hL1.put (m + 1) ⟨qi, qm, qu, qk⟩).put m ⟨pi, pm, pu, pk⟩
            have eS := swapN_set L1' (L2 ++ ps.drop (k + 1)) ⟨qi, qm, qu, qk⟩ ⟨pi, pm, pu, pk⟩
            rw [← HMl.out, ← List.append_assoc, ← List.append_assoc] at eS
            rw [eS] at L3
            have e5 : L1' ++ [(⟨pi, pm, pu, pk⟩ : Nt)] ++ [⟨qi, qm, qu, qk⟩] ++ L2 = L1' ++ [⟨pi, pm, pu, pk⟩] ++ ([⟨qi, qm, qu, qk⟩] ++ L2) := by simp
            rw [e5] at L3
            have LL3 := Lib.hid L3
            have d0 := keepK b10 (show wr.drew.cell? _ = _ from a0)
            have d1 := keepK b10 (show wr.drew.cell? _ = _ from b0)
            have g0 := hL1.row.frozenAt m
            have g1 := hL1.row.frozenAt (m + 1)
            have hS' : Hid (L1' ++ ([⟨qi, qm, qu, qk⟩] ++ L2) = S) := by rw [← hS.out, List.append_assoc]; rfl
            have h2' : Hid (∀ x ∈ [(⟨qi, qm, qu, qk⟩ : Nt)] ++ L2, pk ≤ x.p) := by
              intro x hx
              rcases List.mem_append.1 hx with hx | hx
              · obtain rfl := List.mem_singleton.1 hx
                exact Int.le_of_lt hc
              · exact h2.out x hx
            clear hb b10 a0 b0 G0 G1 L3 eS e5 hL1 hL hT K hS h2 hgl
            go_wp2_with fail
            go_region_law (fail)
            all_goals (
              go_wp2
              all_goals (
                refine ⟨⟨m, L1', [Nt.mk qi qm qu qk] ++ L2, by omega, by go_num, HMl.out.symm, hS'.out, h2'.out, LL3.out.below (Below.refl _ _).drew, (((T1.out.set _ _ (Nat.le_refl _) (Nat.lt_succ_self _)).set _ _ (Nat.le_refl _) (Nat.lt_succ_self _))).trans (Turn.of_below (Below.refl _ _).drew)⟩, ?_⟩
                simp [intOf]))
          · have hge : ¬ cmpI pk qk < 0 := by unfold cmpI; rw [if_neg hc]; split <;> omega
            have hR' : Hid (riseN (L1' ++ [Nt.mk qi qm qu qk] ++ [Nt.mk pi pm pu pk] ++ L2)) := riseN_ins (by rw [hS.out]; exact hR.out) h2.out (riseN_last (L2 := L2) (by rw [hS.out]; exact hR.out) (by show qk ≤ pk; omega))
            have hP' : Hid ((L1' ++ [Nt.mk qi qm qu qk] ++ [Nt.mk pi pm pu pk] ++ L2).Perm (ps.take (k + 1))) := by rw [htk.out]; exact permN_ins hS.out hP.out
            generalize cmpI pk qk = cv at *
            clear hS h2 hR hP
            go_wp2_with fail
            go_region_held3 (fun W => W.cell? ⟨g, m, none⟩ = some (.int .i64 qi) ∧ W.cell? ⟨g, m + 1, none⟩ = some (.int .i64 pi))
              (first | go_keep | (go_split_ands; exact ⟨keepK hb (by assumption), keepK hb (by assumption)⟩))
              (first | (go_at_call 76; refine K.out.mono ?_; rintro e w10 ⟨rfl, b10⟩; have hb := b10))
            have hL1 := Lib.hid ((hL.out.below (Below.refl _ wr).drew).below b10)
            have T1 := Lib.hid (hT.out.trans (Turn.of_below ((Below.refl _ wr).drew.trans b10)))
            clear hb b10 a0 b0 G0 G1 hL hT K hgl
            go_wp2
            all_goals (refine ⟨⟨k + 1, _, by omega, by omega, by go_num, hP'.out, hR'.out, hL1.out, T1.out⟩, ?_⟩; simp [intOf]; omega)
    · have hS : Hid (S.Perm ps) := by
        have := hP.out
        rwa [List.take_of_length_le (by rw [HN.out]; omega)] at this
      have hLE : Hid (Nw wr base g n cap S) := by
        have := hL.out
        rwa [List.drop_of_length_le (by rw [HN.out]; omega), List.append_nil] at this
      clear hP hL
      go_wp2
      go_end0
      exact ⟨rfl, S, hS.out, hR.out, hLE.out, hT.out⟩

theorem rise_uniq {ns ss : List Nt} (hu : Up ns) (hp : ss.Perm ns) (hr : riseN ss) : ss = ns := by
  refine List.Perm.eq_of_pairwise (le := fun p q : Nt => p.p ≤ q.p) ?_ hr (hu.imp fun h => Int.le_of_lt h) hp
  intro p q hpm hqm h1 h2
  have hq : q ∈ ns := hqm
  have hp' : p ∈ ns := hp.mem_iff.1 hpm
  obtain ⟨i, hi⟩ := List.getElem?_of_mem hp'
  obtain ⟨j, hj⟩ := List.getElem?_of_mem hq
  have ha := List.pairwise_iff_getElem.1 hu
  have l1 := (List.getElem?_eq_some_iff.1 hi).1
  have l2 := (List.getElem?_eq_some_iff.1 hj).1
  have e1 := (List.getElem?_eq_some_iff.1 hi).2
  have e2 := (List.getElem?_eq_some_iff.1 hj).2
  rcases Nat.lt_trichotomy i j with c | c | c
  · have := ha i j l1 l2 c
    rw [e1, e2] at this
    omega
  · subst c
    rw [← e1, ← e2]
  · have := ha j i l2 l1 c
    rw [e1, e2] at this
    omega
end Go.Proofs.Ytbngdenlplbjhaa
