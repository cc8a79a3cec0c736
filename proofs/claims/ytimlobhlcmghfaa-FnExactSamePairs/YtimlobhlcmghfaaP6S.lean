/-
  SamePieces of the model and of the program.
-/
import Derived.Test.YtimlobhlcmghfaaP6E
import Derived.Test.YtimlobhlcmghfaaImSame
namespace Go.Proofs.Ytimlobhlcmghfaa
open Go.ChangeShapes Go.WideShapes Go.ChangeAt Go.RowKit

set_option maxHeartbeats 1000000 in
theorem isSamePiece_any (k : Int) (a : Option Addr) (la ca : Nat) (za : List Int) (k' : Int) (b : Option Addr) (lb cb : Nat) (zb : List Int) (w : World) (ha : Rd w a la ca za) (hb : Rd w b lb cb zb) :
    Calls Try.prog 105 #[.agg #[.int .i64 k, .slice a la ca], .agg #[.int .i64 k', .slice b lb cb]] w fun e w' => e = .returned (.bool (eqP ⟨k, a, la, ca, za⟩ ⟨k', b, lb, cb, zb⟩)) ∧ Below w.heap.size w w' := by
  have B0 := Lib.hid (((Below.refl w.heap.size w).alloc (Nat.le_refl _) (.cells #[.int .i64 k, .slice a la ca] 133)).alloc (by simp) (.cells #[.int .i64 k', .slice b lb cb] 133))
  have K := Lib.hid (fun W (hW : Below w.heap.size w W) => equal_any a la ca za b lb cb zb W (ha.below hW) (hb.below hW))
  clear ha hb
  by_cases h0 : k = k'
  · subst h0
    have H : Hid (eqP ⟨k, a, la, ca, za⟩ ⟨k, b, lb, cb, zb⟩ = eqL za zb) := by simp [eqP, Pm.v, eqL, Hid]
    rw [H.out]
    clear H
    generalize eqL za zb = q at *
    go_enter Try.func105, Try.ntmps105
    go_wp2_with fail
    refine (K.out _ B0.out).mono ?_
    rintro e w1 ⟨rfl, rfl⟩
    go_wp2
    go_ret
    exact ⟨rfl, B0.out⟩
  · have H : Hid (eqP ⟨k, a, la, ca, za⟩ ⟨k', b, lb, cb, zb⟩ = false) := by simp [eqP, Pm.v, Hid, h0]
    rw [H.out]
    have e0 : (k == k') = false := by simpa using h0
    clear h0 H
    go_enter Try.func105, Try.ntmps105
    go_wp2
    go_ret
    exact ⟨rfl, B0.out⟩

set_option maxHeartbeats 2000000 in
theorem equalFunc_any (a b : Option Addr) (la ca lb cb : Nat) (ps qs : List Pm) (w : World) (ha : Pl w a la ca ps) (hb : Pl w b lb cb qs) :
    Calls Try.prog 104 #[.slice a la ca, .slice b lb cb, .func (.func 105) #[] #[]] w fun e w' => e = .returned (.bool (eqV ps qs)) ∧ Below w.heap.size w w' := by
  have ma : la ≤ maxLen := Nat.le_trans ha.lb.le ha.lb.max
  unfold maxLen at ma
  have HA := Lib.hid ha
  have HB := Lib.hid hb
  by_cases hll : la = lb
  · obtain rfl := hll
    have hlen : Hid (ps.length = qs.length) := ha.lb.length.trans hb.lb.length.symm
    clear ha hb
    have hne : (la != la) = false := by simp
    go_enter Try.func104, Try.ntmps104
    go_wp2
    go_loopw [17] (fun i wr => ∃ k : Nat, k ≤ la ∧ i = .int .i64 k ∧ Hid (∀ j, j < k → (vals ps)[j]? = (vals qs)[j]?) ∧ Hid (Below w.heap.size w wr)) (fun i _ => la - (intOf i).toNat)
    case atStart => exact ⟨0, Nat.zero_le _, rfl, fun j hj => absurd hj (by omega), Below.refl _ _⟩
    case round =>
      obtain ⟨k, hk, rfl, heq, hbel⟩ := hrel
      by_cases hlt : k < la
      · obtain ⟨b1, o1, p, rfl, hp, c0, c1⟩ := (HA.out.lb.below hbel.out).at hlt
        obtain ⟨b2, o2, q, rfl, hq, d0, d1⟩ := (HB.out.lb.below hbel.out).at hlt
        have R1 := Lib.hid ((HA.out.below hbel.out).data p (List.mem_of_getElem? hp))
        have R2 := Lib.hid ((HB.out.below hbel.out).data q (List.mem_of_getElem? hq))
        have E := Lib.hid (show eqP p q = true → (vals ps)[k]? = (vals qs)[k]? from fun h => by rw [vals_at hp, vals_at hq, of_decide_eq_true h])
        have F := Lib.hid (show eqP p q = false → eqV ps qs = false from fun h => by
          refine decide_eq_false fun e => of_decide_eq_false h ?_
          have := vals_at hp
          rw [e, vals_at hq] at this
          exact (Option.some.inj this).symm)
        clear hp hq
        obtain ⟨pk, pa, pl, pc, pz⟩ := p
        obtain ⟨qk, qa, ql, qc, qz⟩ := q
        simp only at c0 c1 d0 d1 R1 R2
        have d0' := keepB' ((Below.refl wr.heap.size wr).alloc (Nat.le_refl _) (.cells #[.int .i64 pk, .slice pa pl pc] 133)) d0
        have d1' := keepB' ((Below.refl wr.heap.size wr).alloc (Nat.le_refl _) (.cells #[.int .i64 pk, .slice pa pl pc] 133)) d1
        have KC := Lib.hid (isSamePiece_any pk pa pl pc pz qk qa ql qc qz _ ((R1.out.alloc (.cells #[.int .i64 pk, .slice pa pl pc] 133)).alloc (.cells #[.int .i64 qk, .slice qa ql qc] 133)) ((R2.out.alloc (.cells #[.int .i64 pk, .slice pa pl pc] 133)).alloc (.cells #[.int .i64 qk, .slice qa ql qc] 133)))
        have B1 := Lib.hid ((hbel.out.alloc hbel.out.size (.cells #[.int .i64 pk, .slice pa pl pc] 133)).alloc (by have := hbel.out.size; simp; omega) (.cells #[.int .i64 qk, .slice qa ql qc] 133))
        clear R1 R2 hbel
        cases hc : eqP ⟨pk, pa, pl, pc, pz⟩ ⟨qk, qa, ql, qc, qz⟩ with
        | true =>
          have E' : Hid ((vals ps)[k]? = (vals qs)[k]?) := E.out hc
          rw [hc] at KC
          clear E F hc
          go_wp2_with fail
          refine KC.out.mono ?_
          rintro e w10 ⟨rfl, b10⟩
          have B10 := Lib.hid (B1.out.trans (b10.mono B1.out.size))
          clear b10 B1 KC c0 c1 d0 d1 d0' d1'
          go_wp2
          go_roundw
          case rel => exact ⟨k + 1, by omega, by go_num, fun j hj => by
            by_cases hjk : j < k
            · exact heq.out j hjk
            · obtain rfl : j = k := by omega
              exact E'.out, B10.out⟩
          case measure => simp [intOf]; omega
        | false =>
          have F' : Hid (eqV ps qs = false) := F.out hc
          rw [hc] at KC
          clear E F hc
          go_wp2_with fail
          refine KC.out.mono ?_
          rintro e w10 ⟨rfl, b10⟩
          have B10 := Lib.hid (B1.out.trans (b10.mono B1.out.size))
          clear b10 B1 KC c0 c1 d0 d1 d0' d1'
          go_wp2
          go_ret
          exact ⟨ret_b F'.out.symm, B10.out⟩
      · obtain rfl : k = la := by omega
        have H : Hid (eqV ps qs = true) := eqV_refl (vals_eq hlen.out (fun j hj => heq.out j (by rw [HA.out.lb.length] at hj; exact hj)))
        go_wp2
        go_ret
        exact ⟨ret_b H.out.symm, hbel.out⟩
  · have hne : (la != lb) = true := by simpa using hll
    have H : Hid (eqV ps qs = false) := decide_eq_false fun e => hll (by
      have := congrArg List.length e
      rw [vals_len, vals_len, ha.lb.length, hb.lb.length] at this
      exact this)
    clear ha hb HA HB
    go_enter Try.func104, Try.ntmps104
    go_wp2
    go_ret
    exact ⟨ret_b H.out.symm, Below.refl _ _⟩
theorem implSamePieces (a b : Option Addr) (la ca lb cb : Nat) (ps qs : List Pm) (w : World) (ha : Pl w a la ca ps) (hb : Pl w b lb cb qs) :
    Calls Try.prog 21 #[.slice a la ca, .slice b lb cb] w fun e w' => e = .returned (.bool (eqV ps qs)) ∧ Below w.heap.size w w' := by
  have K := Lib.hid (equalFunc_any a b la ca lb cb ps qs w ha hb)
  clear ha hb
  go_enter Try.func21, Try.ntmps21
  go_wp2_with fail
  refine K.out.mono ?_
  rintro e w10 ⟨rfl, b10⟩
  go_wp2
  go_ret
  exact ⟨rfl, b10⟩

set_option maxHeartbeats 2000000 in
theorem specSamePieces (a b : Option Addr) (la ca lb cb : Nat) (ps qs : List Pm) (w : World) (ha : Pl w a la ca ps) (hb : Pl w b lb cb qs) :
    Calls Try.prog 27 #[.slice a la ca, .slice b lb cb] w fun e w' => e = .returned (.bool (eqV ps qs)) ∧ Below w.heap.size w w' := by
  have ma : la ≤ maxLen := Nat.le_trans ha.lb.le ha.lb.max
  unfold maxLen at ma
  have HA := Lib.hid ha
  have HB := Lib.hid hb
  by_cases hll : la = lb
  · obtain rfl := hll
    have hlen : Hid (ps.length = qs.length) := ha.lb.length.trans hb.lb.length.symm
    clear ha hb
    have hne : (la != la) = false := by simp
    go_enter Try.func27, Try.ntmps27
    go_wp2
    go_loopw [5] (fun i wr => ∃ k : Nat, k ≤ la ∧ i = .int .i64 k ∧ Hid (∀ j, j < k → (vals ps)[j]? = (vals qs)[j]?) ∧ Hid (Below w.heap.size w wr)) (fun i _ => la - (intOf i).toNat)
    case atStart => exact ⟨0, Nat.zero_le _, rfl, fun j hj => absurd hj (by omega), Below.refl _ _⟩
    case round =>
      obtain ⟨k, hk, rfl, heq, hbel⟩ := hrel
      by_cases hlt : k < la
      · obtain ⟨b1, o1, p, rfl, hp, c0, c1⟩ := (HA.out.lb.below hbel.out).at hlt
        obtain ⟨b2, o2, q, rfl, hq, d0, d1⟩ := (HB.out.lb.below hbel.out).at hlt
        have R1 := Lib.hid ((HA.out.below hbel.out).data p (List.mem_of_getElem? hp))
        have R2 := Lib.hid ((HB.out.below hbel.out).data q (List.mem_of_getElem? hq))
        have E := Lib.hid (show p.v = q.v → (vals ps)[k]? = (vals qs)[k]? from fun h => by rw [vals_at hp, vals_at hq, h])
        have F := Lib.hid (show p.v ≠ q.v → eqV ps qs = false from fun h => by
          refine decide_eq_false fun e => h ?_
          have := vals_at hp
          rw [e, vals_at hq] at this
          exact (Option.some.inj this).symm)
        clear hp hq
        obtain ⟨pk, pa, pl, pc, pz⟩ := p
        obtain ⟨qk, qa, ql, qc, qz⟩ := q
        simp only [Pm.v] at c0 c1 d0 d1 R1 R2 E F
        by_cases h0 : pk = qk
        · subst h0
          have s1 := fun n => conv_rd (R1.out.below (belowN (Below.refl _ wr) n))
          have s2 := fun n => conv_rd (R2.out.below (belowN (Below.refl _ wr) n))
          by_cases h1 : pz = qz
          · have E' : Hid ((vals ps)[k]? = (vals qs)[k]?) := E.out (by rw [h1])
            subst h1
            clear E F R1 R2
            generalize strOfNums pz = s at *
            go_wp2_with fail
            go_quiet (fail)
            go_wp2
            go_roundw
            case rel => exact ⟨k + 1, by omega, by go_num, fun j hj => by
              by_cases hjk : j < k
              · exact heq.out j hjk
              · obtain rfl : j = k := by omega
                exact E'.out, belowN hbel.out _⟩
            case measure => simp [intOf]; omega
          · have F' : Hid (eqV ps qs = false) := F.out (by intro e; exact h1 (congrArg Prod.snd e))
            have h5 := str_ne R1.out.b8 R2.out.b8 h1
            clear E F R1 R2 h1
            generalize strOfNums pz = s at *
            generalize strOfNums qz = s' at *
            go_wp2_with fail
            go_quiet (fail)
            go_wp2
            go_ret
            exact ⟨ret_b F'.out.symm, belowN hbel.out _⟩
        · have F' : Hid (eqV ps qs = false) := F.out (by intro e; exact h0 (congrArg Prod.fst e))
          have e0 : (pk != qk) = true := by simpa using h0
          clear E F R1 R2 h0
          go_wp2_with fail
          go_quiet (fail)
          go_wp2
          go_ret
          exact ⟨ret_b F'.out.symm, belowN hbel.out _⟩
      · obtain rfl : k = la := by omega
        have H : Hid (eqV ps qs = true) := eqV_refl (vals_eq hlen.out (fun j hj => heq.out j (by rw [HA.out.lb.length] at hj; exact hj)))
        go_wp2
        go_ret
        exact ⟨ret_b H.out.symm, hbel.out⟩
  · have hne : (la != lb) = true := by simpa using hll
    have H : Hid (eqV ps qs = false) := decide_eq_false fun e => hll (by
      have := congrArg List.length e
      rw [vals_len, vals_len, ha.lb.length, hb.lb.length] at this
      exact this)
    clear ha hb HA HB
    go_enter Try.func27, Try.ntmps27
    go_wp2
    go_ret
    exact ⟨ret_b H.out.symm, Below.refl _ _⟩
end Go.Proofs.Ytimlobhlcmghfaa
