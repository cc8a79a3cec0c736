/-
  Lists of entries compared: eqEntryS of the laws, SameCaches of the model and of the program.
-/
import Derived.Test.YtfdfkcbighbfmaaE7H
import Derived.Deep.RegionHeld3
import Derived.Laws.StructEq
namespace Go.Proofs.Ytfdfkcbighbfmaa
open Go.ChangeShapes Go.WideShapes Go.ChangeAt Go.RowKit

theorem es_eq {es fs : List En} (hl : es.length = fs.length) (h : ∀ j, j < es.length → es[j]? = fs[j]?) : es = fs := by
  apply List.ext_getElem?
  intro j
  by_cases c : j < es.length
  · exact h j c
  · rw [List.getElem?_eq_none (by omega), List.getElem?_eq_none (by omega)]
theorem eqE_len {es fs : List En} (h : es.length ≠ fs.length) : eqE es fs = false := decide_eq_false (fun e => h (by rw [e]))
theorem eqE_at {es fs : List En} {k : Nat} {p q : En} (hp : es[k]? = some p) (hq : fs[k]? = some q) (h : p ≠ q) : eqE es fs = false := decide_eq_false (fun e => by rw [e, hq] at hp; cases hp; exact h rfl)

set_option maxHeartbeats 2000000 in
theorem eqEntryS_any (a b : Option Addr) (la ca lb cb : Nat) (es fs : List En) (w : World) (ha : Le w a la ca es) (hb : Le w b lb cb fs) :
    Calls Try.prog 60 #[.slice a la ca, .slice b lb cb] w fun e w' => e = .returned (.bool (eqE es fs)) ∧ Below w.heap.size w w' := by
  have ma : la ≤ maxLen := Nat.le_trans ha.le ha.max
  unfold maxLen at ma
  have HA := Lib.hid ha
  have HB := Lib.hid hb
  by_cases hll : la = lb
  · obtain rfl := hll
    have hlen : Hid (es.length = la ∧ fs.length = la) := ⟨ha.length, hb.length⟩
    clear ha hb
    have hne : (la != la) = false := by simp
    go_enter Try.func60, Try.ntmps60
    go_wp2
    go_loopw [5] (fun i wr => ∃ k : Nat, k ≤ la ∧ i = .int .i64 k ∧ Hid (∀ j, j < k → es[j]? = fs[j]?) ∧ Hid (Below w.heap.size w wr)) (fun i _ => la - (intOf i).toNat)
    case atStart => exact ⟨0, Nat.zero_le _, rfl, fun j hj => absurd hj (by omega), Below.refl _ _⟩
    case round =>
      obtain ⟨k, hk, rfl, heq, hbel⟩ := hrel
      by_cases hlt : k < la
      · obtain ⟨b1, o1, p, rfl, hp, c0, c1, c2⟩ := (HA.out.below hbel.out).at hlt
        obtain ⟨b2, o2, q, rfl, hq, d0, d1, d2⟩ := (HB.out.below hbel.out).at hlt
        have K := Lib.hid (eqEntry_any p q wr.drew)
        have HP := Lib.hid hp
        have HQ := Lib.hid hq
        have F := Lib.hid (fun h : p ≠ q => eqE_at hp hq h)
        have HV : Hid (eqEn p q = decide (p = q)) := rfl
        clear hp hq
        generalize hv : eqEn p q = v at *
        clear hv
        have E0 : Hid (v = true → p = q) := fun h => by have := HV.out; rw [h] at this; exact of_decide_eq_true this.symm
        have E1 : Hid (v = false → p ≠ q) := fun h => by have := HV.out; rw [h] at this; exact of_decide_eq_false this.symm
        clear HV
        obtain ⟨pi, pm, pu⟩ := p
        obtain ⟨qi, qm, qu⟩ := q
        simp only at c0 c1 c2 d0 d1 d2 K
        cases v
        all_goals
          go_wp2_with fail
          go_region_held3 (fun W => W.cell? ⟨b1, o1 + k * 3, none⟩ = some (.int .i64 pi) ∧ W.cell? ⟨b1, o1 + k * 3 + 1, none⟩ = some (.int .i64 pm) ∧ W.cell? ⟨b1, o1 + k * 3 + 2, none⟩ = some (.int .i64 pu) ∧ W.cell? ⟨b2, o2 + k * 3, none⟩ = some (.int .i64 qi) ∧ W.cell? ⟨b2, o2 + k * 3 + 1, none⟩ = some (.int .i64 qm) ∧ W.cell? ⟨b2, o2 + k * 3 + 2, none⟩ = some (.int .i64 qu))
            (first | go_keep | (go_split_ands; exact ⟨keepB' hb (by assumption), keepB' hb (by assumption), keepB' hb (by assumption), keepB' hb (by assumption), keepB' hb (by assumption), keepB' hb (by assumption)⟩))
            (first | (go_at_call 119; refine K.out.mono ?_; rintro e w3 ⟨rfl, hb⟩))
          have B3 := Lib.hid (hbel.out.drew.trans (hb.mono hbel.out.drew.size))
          clear hb c0 c1 c2 d0 d1 d2 hbel K
          go_wp2
        · go_ret
          exact ⟨ret_b (F.out (E1.out (by simp))).symm, B3.out⟩
        · go_roundw
          case rel => exact ⟨k + 1, by omega, by go_num, fun j hj => by
            by_cases hjk : j < k
            · exact heq.out j hjk
            · obtain rfl : j = k := by omega
              rw [HP.out, HQ.out, E0.out (by simp)], B3.out⟩
          case measure => simp [intOf]; omega
      · obtain rfl : k = la := by omega
        have F : Hid (eqE es fs = true) := decide_eq_true (es_eq (by rw [hlen.out.1, hlen.out.2]) (fun j hj => heq.out j (by have := hlen.out.1; omega)))
        go_wp2
        go_ret
        exact ⟨ret_b F.out.symm, hbel.out⟩
  · have hne : (la != lb) = true := by simpa using hll
    have F : Hid (eqE es fs = false) := eqE_len (by rw [ha.length, hb.length]; exact hll)
    go_enter Try.func60, Try.ntmps60
    go_wp2
    go_ret
    exact ⟨ret_b F.out.symm, Below.refl _ _⟩

set_option maxHeartbeats 2000000 in
theorem specSameCaches (a b : Option Addr) (la ca lb cb : Nat) (es fs : List En) (w : World) (ha : Le w a la ca es) (hb : Le w b lb cb fs) :
    Calls Try.prog 42 #[.slice a la ca, .slice b lb cb] w fun e w' => e = .returned (.bool (eqE es fs)) ∧ Below w.heap.size w w' := by
  have ma : la ≤ maxLen := Nat.le_trans ha.le ha.max
  unfold maxLen at ma
  have HA := Lib.hid ha
  have HB := Lib.hid hb
  by_cases hll : la = lb
  · obtain rfl := hll
    have hlen : Hid (es.length = la ∧ fs.length = la) := ⟨ha.length, hb.length⟩
    clear ha hb
    have hne : (la != la) = false := by simp
    go_enter Try.func42, Try.ntmps42
    go_wp2
    go_loopw [5] (fun i wr => ∃ k : Nat, k ≤ la ∧ i = .int .i64 k ∧ Hid (∀ j, j < k → es[j]? = fs[j]?) ∧ Hid (Below w.heap.size w wr)) (fun i _ => la - (intOf i).toNat)
    case atStart => exact ⟨0, Nat.zero_le _, rfl, fun j hj => absurd hj (by omega), Below.refl _ _⟩
    case round =>
      obtain ⟨k, hk, rfl, heq, hbel⟩ := hrel
      by_cases hlt : k < la
      · obtain ⟨b1, o1, p, rfl, hp, c0, c1, c2⟩ := (HA.out.below hbel.out).at hlt
        obtain ⟨b2, o2, q, rfl, hq, d0, d1, d2⟩ := (HB.out.below hbel.out).at hlt
        by_cases hpq : p = q
        · subst hpq
          have HP := Lib.hid (hp.trans hq.symm)
          clear hp hq
          obtain ⟨pi, pm, pu⟩ := p
          simp only at c0 c1 c2 d0 d1 d2
          have e0 : (pi == pi) = true := by simp
          have e1 : (pm == pm) = true := by simp
          have e2 : (pu == pu) = true := by simp
          go_wp2
          go_quiet (fail)
          go_wp2
          go_roundw
          case rel => exact ⟨k + 1, by omega, by go_num, fun j hj => by
            by_cases hjk : j < k
            · exact heq.out j hjk
            · obtain rfl : j = k := by omega
              exact HP.out, belowN hbel.out _⟩
          case measure => simp [intOf]; omega
        · have F := Lib.hid (eqE_at hp hq hpq)
          have hh := en_ne.1 hpq
          clear hp hq hpq
          obtain ⟨pi, pm, pu⟩ := p
          obtain ⟨qi, qm, qu⟩ := q
          simp only at c0 c1 c2 d0 d1 d2 hh
          rcases hh with h0 | ⟨rfl, h1⟩ | ⟨rfl, rfl, h2⟩
          · have e0 : (pi == qi) = false := by simpa using h0
            go_wp2
            go_quiet (fail)
            go_wp2
            go_ret
            exact ⟨ret_b F.out.symm, belowN hbel.out _⟩
          · have e0 : (pi == pi) = true := by simp
            have e1 : (pm == qm) = false := by simpa using h1
            go_wp2
            go_quiet (fail)
            go_wp2
            go_ret
            exact ⟨ret_b F.out.symm, belowN hbel.out _⟩
          · have e0 : (pi == pi) = true := by simp
            have e1 : (pm == pm) = true := by simp
            have e2 : (pu == qu) = false := by simpa using h2
            go_wp2
            go_quiet (fail)
            go_wp2
            go_ret
            exact ⟨ret_b F.out.symm, belowN hbel.out _⟩
      · obtain rfl : k = la := by omega
        have F : Hid (eqE es fs = true) := decide_eq_true (es_eq (by rw [hlen.out.1, hlen.out.2]) (fun j hj => heq.out j (by have := hlen.out.1; omega)))
        go_wp2
        go_ret
        exact ⟨ret_b F.out.symm, hbel.out⟩
  · have hne : (la != lb) = true := by simpa using hll
    have F : Hid (eqE es fs = false) := eqE_len (by rw [ha.length, hb.length]; exact hll)
    go_enter Try.func42, Try.ntmps42
    go_wp2
    go_ret
    exact ⟨ret_b F.out.symm, Below.refl _ _⟩
set_option maxHeartbeats 2000000 in
theorem equal7_any (a b : Option Addr) (la ca lb cb : Nat) (es fs : List En) (w : World) (ha : Le w a la ca es) (hb : Le w b lb cb fs) :
    Calls Try.prog 107 #[.slice a la ca, .slice b lb cb] w fun e w' => e = .returned (.bool (eqE es fs)) ∧ Below w.heap.size w w' := by
  have ma : la ≤ maxLen := Nat.le_trans ha.le ha.max
  unfold maxLen at ma
  have HA := Lib.hid ha
  have HB := Lib.hid hb
  by_cases hll : la = lb
  · obtain rfl := hll
    have hlen : Hid (es.length = la ∧ fs.length = la) := ⟨ha.length, hb.length⟩
    clear ha hb
    have hne : (la != la) = false := by simp
    go_enter Try.func107, Try.ntmps107
    go_wp2
    go_loopw [13] (fun i wr => ∃ k : Nat, k ≤ la ∧ i = .int .i64 k ∧ Hid (∀ j, j < k → es[j]? = fs[j]?) ∧ Hid (Below w.heap.size w wr)) (fun i _ => la - (intOf i).toNat)
    case atStart => exact ⟨0, Nat.zero_le _, rfl, fun j hj => absurd hj (by omega), Below.refl _ _⟩
    case round =>
      obtain ⟨k, hk, rfl, heq, hbel⟩ := hrel
      by_cases hlt : k < la
      · obtain ⟨b1, o1, p, rfl, hp, c0, c1, c2⟩ := (HA.out.below hbel.out).at hlt
        obtain ⟨b2, o2, q, rfl, hq, d0, d1, d2⟩ := (HB.out.below hbel.out).at hlt
        by_cases hpq : p = q
        · subst hpq
          have HP := Lib.hid (hp.trans hq.symm)
          clear hp hq
          obtain ⟨pi, pm, pu⟩ := p
          simp only at c0 c1 c2 d0 d1 d2
          have e0 : (pi == pi) = true := by simp
          have e1 : (pm == pm) = true := by simp
          have e2 : (pu == pu) = true := by simp
          go_wp2
          go_quiet (fail)
          go_wp2
          go_roundw
          case rel => exact ⟨k + 1, by omega, by go_num, fun j hj => by
            by_cases hjk : j < k
            · exact heq.out j hjk
            · obtain rfl : j = k := by omega
              exact HP.out, belowN hbel.out _⟩
          case measure => simp [intOf]; omega
        · have F := Lib.hid (eqE_at hp hq hpq)
          have hh := en_ne.1 hpq
          clear hp hq hpq
          obtain ⟨pi, pm, pu⟩ := p
          obtain ⟨qi, qm, qu⟩ := q
          simp only at c0 c1 c2 d0 d1 d2 hh
          rcases hh with h0 | ⟨rfl, h1⟩ | ⟨rfl, rfl, h2⟩
          · have e0 : (pi == qi) = false := by simpa using h0
            go_wp2
            go_quiet (fail)
            go_wp2
            go_ret
            exact ⟨ret_b F.out.symm, belowN hbel.out _⟩
          · have e0 : (pi == pi) = true := by simp
            have e1 : (pm == qm) = false := by simpa using h1
            go_wp2
            go_quiet (fail)
            go_wp2
            go_ret
            exact ⟨ret_b F.out.symm, belowN hbel.out _⟩
          · have e0 : (pi == pi) = true := by simp
            have e1 : (pm == pm) = true := by simp
            have e2 : (pu == qu) = false := by simpa using h2
            go_wp2
            go_quiet (fail)
            go_wp2
            go_ret
            exact ⟨ret_b F.out.symm, belowN hbel.out _⟩
      · obtain rfl : k = la := by omega
        have F : Hid (eqE es fs = true) := decide_eq_true (es_eq (by rw [hlen.out.1, hlen.out.2]) (fun j hj => heq.out j (by have := hlen.out.1; omega)))
        go_wp2
        go_ret
        exact ⟨ret_b F.out.symm, hbel.out⟩
  · have hne : (la != lb) = true := by simpa using hll
    have F : Hid (eqE es fs = false) := eqE_len (by rw [ha.length, hb.length]; exact hll)
    go_enter Try.func107, Try.ntmps107
    go_wp2
    go_ret
    exact ⟨ret_b F.out.symm, Below.refl _ _⟩

theorem implSameCaches (a b : Option Addr) (la ca lb cb : Nat) (es fs : List En) (w : World) (ha : Le w a la ca es) (hb : Le w b lb cb fs) :
    Calls Try.prog 41 #[.slice a la ca, .slice b lb cb] w fun e w' => e = .returned (.bool (eqE es fs)) ∧ Below w.heap.size w w' := by
  have K := Lib.hid (equal7_any a b la ca lb cb es fs w ha hb)
  clear ha hb
  go_enter Try.func41, Try.ntmps41
  go_wp2_with fail
  refine K.out.mono ?_
  rintro e w1 ⟨rfl, b1⟩
  go_wp2
  go_ret
  exact ⟨rfl, b1⟩

set_option maxHeartbeats 2000000 in
theorem exactSameCaches (a : Option Addr) (len cap : Nat) (es : List En) (a' : Option Addr) (len' cap' : Nat) (es' : List En) (w : World) (h : Le w a len cap es) (h' : Le w a' len' cap' es') :
    Calls Try.prog 13 #[.slice a len cap, .slice a' len' cap'] w fun e w' => e = .returned (.bool true) ∧ Below w.heap.size w w' := by
  by_cases hs : len ≤ 1048576
  case neg =>
    have Z := Lib.hid (fun W => szEntryS_f a len cap 1048576 W hs (by omega) (Nat.le_trans h.le h.max))
    clear h h'
    go_enter Try.func13, Try.ntmps13
    go_wp2_with fail
    refine (Z.out _).mono ?_
    rintro e w1 ⟨rfl, rfl⟩
    go_wp2
    go_ret
    exact ⟨rfl, Below.refl _ _⟩
  have Z := Lib.hid (fun W => szEntryS_t a len cap 1048576 W hs (by omega))
  have hn : ¬ ((1048576 - len : Nat) : Int) < 0 := by omega
  by_cases hs' : len' ≤ 1048576 - len
  case neg =>
    have Z' := Lib.hid (fun W => szEntryS_f a' len' cap' (1048576 - len) W hs' (by omega) (Nat.le_trans h'.le h'.max))
    clear h h'
    generalize 1048576 - len = r at *
    go_enter Try.func13, Try.ntmps13
    go_wp2_with fail
    refine (Z.out _).mono ?_
    rintro e w1 ⟨rfl, rfl⟩
    go_wp2_with fail
    refine (Z'.out _).mono ?_
    rintro e w1 ⟨rfl, rfl⟩
    go_wp2
    go_ret
    exact ⟨rfl, Below.refl _ _⟩
  have Z' := Lib.hid (fun W => szEntryS_t a' len' cap' (1048576 - len) W hs' (by omega))
  have hn' : ¬ ((1048576 - len - len' : Nat) : Int) < 0 := by omega
  have T := Lib.hid (fun W (hW : Below w.heap.size w W) => toEntryS_any a len cap es W (h.below hW) (by omega))
  have T' := Lib.hid (fun W (hW : Below w.heap.size w W) => toEntryS_any a' len' cap' es' W (h'.below hW) (by omega))
  have K1 := Lib.hid (fun W a la ca b lb cb (ha : Le W a la ca es) (hb : Le W b lb cb es') => specSameCaches a b la ca lb cb es es' W ha hb)
  have K2 := Lib.hid (fun W a la ca b lb cb (ha : Le W a la ca es) (hb : Le W b lb cb es') => implSameCaches a b la ca lb cb es es' W ha hb)
  have E1 := Lib.hid (fun W a la ca b lb cb (ha : Le W a la ca es) (hb : Le W b lb cb es) => by have := eqEntryS_any a b la ca lb cb es es W ha hb; rw [eqE_refl] at this; exact this)
  have E2 := Lib.hid (fun W a la ca b lb cb (ha : Le W a la ca es') (hb : Le W b lb cb es') => by have := eqEntryS_any a b la ca lb cb es' es' W ha hb; rw [eqE_refl] at this; exact this)
  clear h h' hs hs'
  generalize 1048576 - len = r at *
  generalize r - len' = r' at *
  generalize eqE es es' = Q at *
  have hne : (Q != Q) = false := by simp
  go_enter Try.func13, Try.ntmps13
  go_wp2_with fail
  refine (Z.out _).mono ?_
  rintro e w1 ⟨rfl, rfl⟩
  go_wp2_with fail
  refine (Z'.out _).mono ?_
  rintro e w1 ⟨rfl, rfl⟩
  clear Z Z'
  go_wp2_with fail
  refine (T.out _ (Below.refl _ _)).mono ?_
  rintro e w2 ⟨a2, c2, rfl, l2, b2⟩
  have B2 := Lib.hid b2
  have L2 := Lib.hid l2
  clear b2 l2
  go_wp2_with fail
  refine (T'.out _ B2.out).mono ?_
  rintro e w3 ⟨a3, c3, rfl, l3, b3⟩
  have B3 := Lib.hid (B2.out.trans (b3.mono B2.out.size))
  have KK := Lib.hid (K1.out w3 _ _ _ _ _ _ (L2.out.below b3).le l3.le)
  clear b3 l3 B2 L2 K1
  go_wp2_with fail
  refine KK.out.mono ?_
  rintro e w4 ⟨rfl, b4⟩
  have B4 := Lib.hid (B3.out.trans (b4.mono B3.out.size))
  clear b4 B3 KK
  go_wp2_with fail
  refine (T.out _ B4.out).mono ?_
  rintro e w5 ⟨a5, c5, rfl, l5, b5⟩
  have B5 := Lib.hid (B4.out.trans (b5.mono B4.out.size))
  have L5 := Lib.hid l5
  clear b5 l5 B4
  go_wp2_with fail
  refine (T'.out _ B5.out).mono ?_
  rintro e w6 ⟨a6, c6, rfl, l6, b6⟩
  have B6 := Lib.hid (B5.out.trans (b6.mono B5.out.size))
  have L6 := Lib.hid l6
  have M6 := Lib.hid (L5.out.below b6)
  have KK := Lib.hid (K2.out w6 _ _ _ _ _ _ M6.out.le L6.out.le)
  clear b6 l6 B5 L5 K2
  go_wp2_with fail
  refine KK.out.mono ?_
  rintro e w7 ⟨rfl, b7⟩
  have B7 := Lib.hid (B6.out.trans (b7.mono B6.out.size))
  have L7 := Lib.hid (L6.out.below b7)
  have M7 := Lib.hid (M6.out.below b7)
  clear b7 B6 L6 M6 KK
  go_wp2_with fail
  refine (T.out _ B7.out).mono ?_
  rintro e w8 ⟨a8, c8, rfl, l8, b8⟩
  have B8 := Lib.hid (B7.out.trans (b8.mono B7.out.size))
  have L8 := Lib.hid (L7.out.below b8)
  have KK := Lib.hid (E1.out w8 _ _ _ _ _ _ (M7.out.below b8).le l8.le)
  clear b8 l8 B7 L7 M7 E1
  go_wp2_with fail
  refine KK.out.mono ?_
  rintro e w9 ⟨rfl, b9⟩
  have B9 := Lib.hid (B8.out.trans (b9.mono B8.out.size))
  have L9 := Lib.hid (L8.out.below b9)
  clear b9 B8 L8 KK
  go_wp2_with fail
  refine (T'.out _ B9.out).mono ?_
  rintro e w10 ⟨a10, c10, rfl, l10, b10⟩
  have B10 := Lib.hid (B9.out.trans (b10.mono B9.out.size))
  have KK := Lib.hid (E2.out w10 _ _ _ _ _ _ (L9.out.below b10).le l10.le)
  clear b10 l10 B9 L9 E2
  go_wp2_with fail
  refine KK.out.mono ?_
  rintro e w11 ⟨rfl, b11⟩
  have B11 := Lib.hid (B10.out.trans (b11.mono B10.out.size))
  clear b11 B10 KK
  go_wp2
  go_ret
  exact ⟨rfl, B11.out⟩
end Go.Proofs.Ytfdfkcbighbfmaa
