/-
  Contracts of the helpers of the laws that compare, copy, mark and look at lists of pieces.
-/
import Derived.Test.YtimlobhlcmghfaaP6H
import Derived.Test.YtimlobhlcmghfaaP6R
namespace Go.Proofs.Ytimlobhlcmghfaa
open Go.ChangeShapes Go.WideShapes Go.ChangeAt Go.RowKit

def eqP (p q : Pm) : Bool := decide (p.v = q.v)
def eqV (ps qs : List Pm) : Bool := decide (vals ps = vals qs)
theorem eqP_t {p q : Pm} (h : p.v = q.v) : eqP p q = true := decide_eq_true h
theorem eqV_refl {ps qs : List Pm} (h : vals ps = vals qs) : eqV ps qs = true := decide_eq_true h

set_option maxHeartbeats 1000000 in
theorem eqPiece_any (k : Int) (a : Option Addr) (la ca : Nat) (za : List Int) (k' : Int) (b : Option Addr) (lb cb : Nat) (zb : List Int) (w : World) (ha : Rd w a la ca za) (hb : Rd w b lb cb zb) :
    Calls Try.prog 130 #[.agg #[.int .i64 k, .slice a la ca], .agg #[.int .i64 k', .slice b lb cb]] w fun e w' => e = .returned (.bool (eqP ⟨k, a, la, ca, za⟩ ⟨k', b, lb, cb, zb⟩)) ∧ Below w.heap.size w w' := by
  have B0 := Lib.hid (((Below.refl w.heap.size w).alloc (Nat.le_refl _) (.cells #[.int .i64 k, .slice a la ca] 133)).alloc (by simp) (.cells #[.int .i64 k', .slice b lb cb] 133))
  have K := Lib.hid (fun W (hW : Below w.heap.size w W) => eqByteS_any a b la ca lb cb za zb W (ha.below hW) (hb.below hW))
  clear ha hb
  by_cases h0 : k = k'
  · subst h0
    have H : Hid (eqP ⟨k, a, la, ca, za⟩ ⟨k, b, lb, cb, zb⟩ = eqL za zb) := by simp [eqP, Pm.v, eqL, Hid]
    rw [H.out]
    clear H
    cases hq : eqL za zb with
    | true =>
      rw [hq] at K
      clear hq
      go_enter Try.func130, Try.ntmps130
      go_wp2_with fail
      refine (K.out _ B0.out).mono ?_
      rintro e w1 ⟨rfl, b1⟩
      have B1 := Lib.hid (B0.out.trans (b1.mono B0.out.size))
      clear b1
      go_wp2
      go_ret
      exact ⟨rfl, B1.out⟩
    | false =>
      rw [hq] at K
      clear hq
      go_enter Try.func130, Try.ntmps130
      go_wp2_with fail
      refine (K.out _ B0.out).mono ?_
      rintro e w1 ⟨rfl, b1⟩
      have B1 := Lib.hid (B0.out.trans (b1.mono B0.out.size))
      clear b1
      go_wp2
      go_ret
      exact ⟨rfl, B1.out⟩
  · have H : Hid (eqP ⟨k, a, la, ca, za⟩ ⟨k', b, lb, cb, zb⟩ = false) := by simp [eqP, Pm.v, Hid, h0]
    rw [H.out]
    have e0 : (k != k') = true := by simpa using h0
    clear h0 H
    go_enter Try.func130, Try.ntmps130
    go_wp2
    go_ret
    exact ⟨rfl, B0.out⟩

theorem vals_len (ps : List Pm) : (vals ps).length = ps.length := by simp [vals]
theorem vals_at {ps : List Pm} {i : Nat} {p : Pm} (h : ps[i]? = some p) : (vals ps)[i]? = some p.v := by simp [vals, h]
theorem vals_eq {ps qs : List Pm} (hl : ps.length = qs.length) (h : ∀ j, j < ps.length → (vals ps)[j]? = (vals qs)[j]?) : vals ps = vals qs := by
  apply List.ext_getElem?
  intro j
  by_cases c : j < ps.length
  · exact h j c
  · rw [List.getElem?_eq_none (by rw [vals_len]; omega), List.getElem?_eq_none (by rw [vals_len]; omega)]

set_option maxHeartbeats 2000000 in
theorem eqPieceS_any (a b : Option Addr) (la ca lb cb : Nat) (ps qs : List Pm) (w : World) (ha : Pl w a la ca ps) (hb : Pl w b lb cb qs) :
    Calls Try.prog 47 #[.slice a la ca, .slice b lb cb] w fun e w' => e = .returned (.bool (eqV ps qs)) ∧ Below w.heap.size w w' := by
  have ma : la ≤ maxLen := Nat.le_trans ha.lb.le ha.lb.max
  unfold maxLen at ma
  have HA := Lib.hid ha
  have HB := Lib.hid hb
  by_cases hll : la = lb
  · obtain rfl := hll
    have hlen : Hid (ps.length = qs.length) := ha.lb.length.trans hb.lb.length.symm
    clear ha hb
    have hne : (la != la) = false := by simp
    go_enter Try.func47, Try.ntmps47
    go_wp2
    go_loopw [5] (fun i wr => ∃ k : Nat, k ≤ la ∧ i = .int .i64 k ∧ Hid (∀ j, j < k → (vals ps)[j]? = (vals qs)[j]?) ∧ Hid (Below w.heap.size w wr)) (fun i _ => la - (intOf i).toNat)
    case atStart => exact ⟨0, Nat.zero_le _, rfl, fun j hj => absurd hj (by omega), Below.refl _ _⟩
    case round =>
      obtain ⟨k, hk, rfl, heq, hbel⟩ := hrel
      by_cases hlt : k < la
      · obtain ⟨b1, o1, p, rfl, hp, c0, c1⟩ := (HA.out.lb.below hbel.out).at hlt
        obtain ⟨b2, o2, q, rfl, hq, d0, d1⟩ := (HB.out.lb.below hbel.out).at hlt
        have R1 := Lib.hid ((HA.out.below hbel.out).data p (List.mem_of_getElem? hp))
        have R2 := Lib.hid ((HB.out.below hbel.out).data q (List.mem_of_getElem? hq))
        have E := Lib.hid (show eqP p q = true → (vals ps)[k]? = (vals qs)[k]? from fun h => by rw [vals_at hp, vals_at hq, of_decide_eq_true h])
        have F := Lib.hid (show eqP p q = false → eqV ps qs = false from fun h => by
          refine decide_eq_false fun e => of_decide_eq_false h ?_
          have := vals_at hp
          rw [e, vals_at hq] at this
          exact (Option.some.inj this).symm)
        clear hp hq
        obtain ⟨pk, pa, pl, pc, pz⟩ := p
        obtain ⟨qk, qa, ql, qc, qz⟩ := q
        simp only at c0 c1 d0 d1 R1 R2
        cases hc : eqP ⟨pk, pa, pl, pc, pz⟩ ⟨qk, qa, ql, qc, qz⟩ with
        | true =>
          have E' : Hid ((vals ps)[k]? = (vals qs)[k]?) := E.out hc
          have KC := Lib.hid (eqPiece_any pk pa pl pc pz qk qa ql qc qz wr.drew R1.out.drew R2.out.drew)
          rw [hc] at KC
          clear E F hc R1 R2
          go_wp2_with fail
          go_region_held3 (fun W => W.cell? ⟨b1, o1 + k * 2, none⟩ = some (.int .i64 pk) ∧ W.cell? ⟨b1, o1 + k * 2 + 1, none⟩ = some (.slice pa pl pc) ∧ W.cell? ⟨b2, o2 + k * 2, none⟩ = some (.int .i64 qk) ∧ W.cell? ⟨b2, o2 + k * 2 + 1, none⟩ = some (.slice qa ql qc))
            (first | go_keep | (go_split_ands; exact ⟨keepK hb (by assumption), keepK hb (by assumption), keepK hb (by assumption), keepK hb (by assumption)⟩))
            (first | (go_at_call 130; refine KC.out.mono ?_; rintro e w10 ⟨rfl, b10⟩; have hb := b10))
          have B10 := Lib.hid (hbel.out.drew.trans (b10.mono hbel.out.drew.size))
          clear hb b10 c0 c1 d0 d1
          go_wp2
          go_roundw
          case rel => exact ⟨k + 1, by omega, by go_num, fun j hj => by
            by_cases hjk : j < k
            · exact heq.out j hjk
            · obtain rfl : j = k := by omega
              exact E'.out, B10.out⟩
          case measure => simp [intOf]; omega
        | false =>
          have F' : Hid (eqV ps qs = false) := F.out hc
          have KC := Lib.hid (eqPiece_any pk pa pl pc pz qk qa ql qc qz wr.drew R1.out.drew R2.out.drew)
          rw [hc] at KC
          clear E F hc R1 R2
          go_wp2_with fail
          go_region_held3 (fun W => W.cell? ⟨b1, o1 + k * 2, none⟩ = some (.int .i64 pk) ∧ W.cell? ⟨b1, o1 + k * 2 + 1, none⟩ = some (.slice pa pl pc) ∧ W.cell? ⟨b2, o2 + k * 2, none⟩ = some (.int .i64 qk) ∧ W.cell? ⟨b2, o2 + k * 2 + 1, none⟩ = some (.slice qa ql qc))
            (first | go_keep | (go_split_ands; exact ⟨keepK hb (by assumption), keepK hb (by assumption), keepK hb (by assumption), keepK hb (by assumption)⟩))
            (first | (go_at_call 130; refine KC.out.mono ?_; rintro e w10 ⟨rfl, b10⟩; have hb := b10))
          have B10 := Lib.hid (hbel.out.drew.trans (b10.mono hbel.out.drew.size))
          clear hb b10 c0 c1 d0 d1
          go_wp2
          go_ret
          exact ⟨ret_b F'.out.symm, B10.out⟩
      · obtain rfl : k = la := by omega
        have H : Hid (eqV ps qs = true) := eqV_refl (vals_eq hlen.out (fun j hj => heq.out j (by rw [HA.out.lb.length] at hj; exact hj)))
        go_wp2
        go_ret
        exact ⟨ret_b H.out.symm, hbel.out⟩
  · have hne : (la != lb) = true := by simpa using hll
    have H : Hid (eqV ps qs = false) := decide_eq_false fun e => hll (by
      have := congrArg List.length e
      rw [vals_len, vals_len, ha.lb.length, hb.lb.length] at this
      exact this)
    clear ha hb HA HB
    go_enter Try.func47, Try.ntmps47
    go_wp2
    go_ret
    exact ⟨ret_b H.out.symm, Below.refl _ _⟩
end Go.Proofs.Ytimlobhlcmghfaa
