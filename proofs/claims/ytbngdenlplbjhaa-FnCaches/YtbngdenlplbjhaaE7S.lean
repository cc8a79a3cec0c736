/-
  Lists of entries compared: eqEntryS of the laws, SameCaches of the model and of the program.
-/
import Derived.Test.YtbngdenlplbjhaaE7H
import Derived.Deep.RegionHeld3
import Derived.Laws.StructEq
namespace Go.Proofs.Ytbngdenlplbjhaa
open Go.ChangeShapes Go.WideShapes Go.ChangeAt Go.RowKit

theorem es_eq {es fs : List En} (hl : es.length = fs.length) (h : ∀ j, j < es.length → es[j]? = fs[j]?) : es = fs := by
  apply List.ext_getElem?
  intro j
  by_cases c : j < es.length
  · exact h j c
  · rw [List.getElem?_eq_none (by omega), List.getElem?_eq_none (by omega)]
theorem eqE_len {es fs : List En} (h : es.length ≠ fs.length) : eqE es fs = false := decide_eq_false (fun e => h (by rw [e]))
theorem eqE_at {es fs : List En} {k : Nat} {p q : En} (hp : es[k]? = some p) (hq : fs[k]? = some q) (h : p ≠ q) : eqE es fs = false := decide_eq_false (fun e => by rw [e, hq] at hp; cases hp; exact h rfl)

set_option maxHeartbeats 2000000 in
theorem specSameCaches (a b : Option Addr) (la ca lb cb : Nat) (es fs : List En) (w : World) (ha : Le w a la ca es) (hb : Le w b lb cb fs) :
    Calls Try.prog 19 #[.slice a la ca, .slice b lb cb] w fun e w' => e = .returned (.bool (eqE es fs)) ∧ Below w.heap.size w w' := by
  have ma : la ≤ maxLen := Nat.le_trans ha.le ha.max
  unfold maxLen at ma
  have HA := Lib.hid ha
  have HB := Lib.hid hb
  by_cases hll : la = lb
  · obtain rfl := hll
    have hlen : Hid (es.length = la ∧ fs.length = la) := ⟨ha.length, hb.length⟩
    clear ha hb
    have hne : (la != la) = false := by simp
    go_enter Try.func19, Try.ntmps19
    go_wp2
    go_loopw [5] (fun i wr => ∃ k : Nat, k ≤ la ∧ i = .int .i64 k ∧ Hid (∀ j, j < k → es[j]? = fs[j]?) ∧ Hid (Below w.heap.size w wr)) (fun i _ => la - (intOf i).toNat)
    case atStart => exact ⟨0, Nat.zero_le _, rfl, fun j hj => absurd hj (by omega), Below.refl _ _⟩
    case round =>
      obtain ⟨k, hk, rfl, heq, hbel⟩ := hrel
      by_cases hlt : k < la
      · obtain ⟨b1, o1, p, rfl, hp, c0, c1, c2⟩ := (HA.out.below hbel.out).at hlt
        obtain ⟨b2, o2, q, rfl, hq, d0, d1, d2⟩ := (HB.out.below hbel.out).at hlt
        by_cases hpq : p = q
        · subst hpq
          have HP := Lib.hid (hp.trans hq.symm)
          clear hp hq
          obtain ⟨pi, pm, pu⟩ := p
          simp only at c0 c1 c2 d0 d1 d2
          have e0 : (pi == pi) = true := by simp
          have e1 : (pm == pm) = true := by simp
          have e2 : (pu == pu) = true := by simp
          go_wp2
          go_quiet (fail)
          go_wp2
          go_roundw
          case rel => exact ⟨k + 1, by omega, by go_num, fun j hj => by
            by_cases hjk : j < k
            · exact heq.out j hjk
            · obtain rfl : j = k := by omega
              exact HP.out, belowN hbel.out _⟩
          case measure => simp [intOf]; omega
        · have F := Lib.hid (eqE_at hp hq hpq)
          have hh := en_ne.1 hpq
          clear hp hq hpq
          obtain ⟨pi, pm, pu⟩ := p
          obtain ⟨qi, qm, qu⟩ := q
          simp only at c0 c1 c2 d0 d1 d2 hh
          rcases hh with h0 | ⟨rfl, h1⟩ | ⟨rfl, rfl, h2⟩
          · have e0 : (pi == qi) = false := by simpa using h0
            go_wp2
            go_quiet (fail)
            go_wp2
            go_ret
            exact ⟨ret_b F.out.symm, belowN hbel.out _⟩
          · have e0 : (pi == pi) = true := by simp
            have e1 : (pm == qm) = false := by simpa using h1
            go_wp2
            go_quiet (fail)
            go_wp2
            go_ret
            exact ⟨ret_b F.out.symm, belowN hbel.out _⟩
          · have e0 : (pi == pi) = true := by simp
            have e1 : (pm == pm) = true := by simp
            have e2 : (pu == qu) = false := by simpa using h2
            go_wp2
            go_quiet (fail)
            go_wp2
            go_ret
            exact ⟨ret_b F.out.symm, belowN hbel.out _⟩
      · obtain rfl : k = la := by omega
        have F : Hid (eqE es fs = true) := decide_eq_true (es_eq (by rw [hlen.out.1, hlen.out.2]) (fun j hj => heq.out j (by have := hlen.out.1; omega)))
        go_wp2
        go_ret
        exact ⟨ret_b F.out.symm, hbel.out⟩
  · have hne : (la != lb) = true := by simpa using hll
    have F : Hid (eqE es fs = false) := eqE_len (by rw [ha.length, hb.length]; exact hll)
    go_enter Try.func19, Try.ntmps19
    go_wp2
    go_ret
    exact ⟨ret_b F.out.symm, Below.refl _ _⟩
set_option maxHeartbeats 2000000 in
theorem equal7_any (a b : Option Addr) (la ca lb cb : Nat) (es fs : List En) (w : World) (ha : Le w a la ca es) (hb : Le w b lb cb fs) :
    Calls Try.prog 54 #[.slice a la ca, .slice b lb cb] w fun e w' => e = .returned (.bool (eqE es fs)) ∧ Below w.heap.size w w' := by
  have ma : la ≤ maxLen := Nat.le_trans ha.le ha.max
  unfold maxLen at ma
  have HA := Lib.hid ha
  have HB := Lib.hid hb
  by_cases hll : la = lb
  · obtain rfl := hll
    have hlen : Hid (es.length = la ∧ fs.length = la) := ⟨ha.length, hb.length⟩
    clear ha hb
    have hne : (la != la) = false := by simp
    go_enter Try.func54, Try.ntmps54
    go_wp2
    go_loopw [13] (fun i wr => ∃ k : Nat, k ≤ la ∧ i = .int .i64 k ∧ Hid (∀ j, j < k → es[j]? = fs[j]?) ∧ Hid (Below w.heap.size w wr)) (fun i _ => la - (intOf i).toNat)
    case atStart => exact ⟨0, Nat.zero_le _, rfl, fun j hj => absurd hj (by omega), Below.refl _ _⟩
    case round =>
      obtain ⟨k, hk, rfl, heq, hbel⟩ := hrel
      by_cases hlt : k < la
      · obtain ⟨b1, o1, p, rfl, hp, c0, c1, c2⟩ := (HA.out.below hbel.out).at hlt
        obtain ⟨b2, o2, q, rfl, hq, d0, d1, d2⟩ := (HB.out.below hbel.out).at hlt
        by_cases hpq : p = q
        · subst hpq
          have HP := Lib.hid (hp.trans hq.symm)
          clear hp hq
          obtain ⟨pi, pm, pu⟩ := p
          simp only at c0 c1 c2 d0 d1 d2
          have e0 : (pi == pi) = true := by simp
          have e1 : (pm == pm) = true := by simp
          have e2 : (pu == pu) = true := by simp
          go_wp2
          go_quiet (fail)
          go_wp2
          go_roundw
          case rel => exact ⟨k + 1, by omega, by go_num, fun j hj => by
            by_cases hjk : j < k
            · exact heq.out j hjk
            · obtain rfl : j = k := by omega
              exact HP.out, belowN hbel.out _⟩
          case measure => simp [intOf]; omega
        · have F := Lib.hid (eqE_at hp hq hpq)
          have hh := en_ne.1 hpq
          clear hp hq hpq
          obtain ⟨pi, pm, pu⟩ := p
          obtain ⟨qi, qm, qu⟩ := q
          simp only at c0 c1 c2 d0 d1 d2 hh
          rcases hh with h0 | ⟨rfl, h1⟩ | ⟨rfl, rfl, h2⟩
          · have e0 : (pi == qi) = false := by simpa using h0
            go_wp2
            go_quiet (fail)
            go_wp2
            go_ret
            exact ⟨ret_b F.out.symm, belowN hbel.out _⟩
          · have e0 : (pi == pi) = true := by simp
            have e1 : (pm == qm) = false := by simpa using h1
            go_wp2
            go_quiet (fail)
            go_wp2
            go_ret
            exact ⟨ret_b F.out.symm, belowN hbel.out _⟩
          · have e0 : (pi == pi) = true := by simp
            have e1 : (pm == pm) = true := by simp
            have e2 : (pu == qu) = false := by simpa using h2
            go_wp2
            go_quiet (fail)
            go_wp2
            go_ret
            exact ⟨ret_b F.out.symm, belowN hbel.out _⟩
      · obtain rfl : k = la := by omega
        have F : Hid (eqE es fs = true) := decide_eq_true (es_eq (by rw [hlen.out.1, hlen.out.2]) (fun j hj => heq.out j (by have := hlen.out.1; omega)))
        go_wp2
        go_ret
        exact ⟨ret_b F.out.symm, hbel.out⟩
  · have hne : (la != lb) = true := by simpa using hll
    have F : Hid (eqE es fs = false) := eqE_len (by rw [ha.length, hb.length]; exact hll)
    go_enter Try.func54, Try.ntmps54
    go_wp2
    go_ret
    exact ⟨ret_b F.out.symm, Below.refl _ _⟩

theorem implSameCaches (a b : Option Addr) (la ca lb cb : Nat) (es fs : List En) (w : World) (ha : Le w a la ca es) (hb : Le w b lb cb fs) :
    Calls Try.prog 18 #[.slice a la ca, .slice b lb cb] w fun e w' => e = .returned (.bool (eqE es fs)) ∧ Below w.heap.size w w' := by
  have K := Lib.hid (equal7_any a b la ca lb cb es fs w ha hb)
  clear ha hb
  go_enter Try.func18, Try.ntmps18
  go_wp2_with fail
  refine K.out.mono ?_
  rintro e w1 ⟨rfl, b1⟩
  go_wp2
  go_ret
  exact ⟨rfl, b1⟩

end Go.Proofs.Ytbngdenlplbjhaa
