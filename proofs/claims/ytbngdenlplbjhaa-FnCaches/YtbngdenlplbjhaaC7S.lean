/-
  CacheFault of the model.
-/
import Derived.Test.YtbngdenlplbjhaaC7F
namespace Go.Proofs.Ytbngdenlplbjhaa
open Go.ChangeShapes Go.WideShapes Go.ChangeAt Go.RowKit

def fdF (x : Int) : Nat → List En → Int
  | _, [] => -1
  | k, e :: es => if e.i = x then (k : Int) else fdF x (k + 1) es
theorem fdF_cases (x : Int) (es : List En) (k : Nat) : (fdF x k es = -1 ∧ ∀ e ∈ es, e.i ≠ x) ∨ ∃ j e, es[j]? = some e ∧ e.i = x ∧ fdF x k es = ((k + j : Nat) : Int) ∧ ∀ i e', i < j → es[i]? = some e' → e'.i ≠ x := by
  induction es generalizing k with
  | nil => exact .inl ⟨rfl, fun e he => by cases he⟩
  | cons e es ih =>
    by_cases h : e.i = x
    · exact .inr ⟨0, e, rfl, h, by rw [fdF, if_pos h]; rfl, fun i e' hi _ => absurd hi (by omega)⟩
    · rcases ih (k + 1) with ⟨h1, h2⟩ | ⟨j, q, h1, h2, h3, h4⟩
      · left
        refine ⟨by rw [fdF, if_neg h]; exact h1, fun q hq => ?_⟩
        rcases List.mem_cons.1 hq with rfl | hq
        · exact h
        · exact h2 q hq
      · right
        refine ⟨j + 1, q, by simpa using h1, h2, by rw [fdF, if_neg h, h3]; congr 1; omega, fun i e' hi he' => ?_⟩
        cases i with
        | zero => simp at he'; subst he'; exact h
        | succ i => exact h4 i e' (by omega) (by simpa using he')
theorem dropE {es : List En} {k : Nat} {e : En} (h : es[k]? = some e) : es.drop k = e :: es.drop (k + 1) := by
  rw [← (List.getElem?_eq_some_iff.1 h).2, ← List.drop_eq_getElem_cons (List.getElem?_eq_some_iff.1 h).1]

set_option maxHeartbeats 1000000 in
theorem l7Find_any (a : Option Addr) (len cap : Nat) (es : List En) (x : Int) (w : World) (h : Le w a len cap es) :
    Calls Try.prog 53 #[.slice a len cap, .int .i64 x] w fun e w' => e = .returned (.int .i64 (fdF x 0 es)) ∧ w = w' := by
  have HP := Lib.hid h
  have HL := Lib.hid h.length
  have hlm : len ≤ maxLen := Nat.le_trans h.le h.max
  unfold maxLen at hlm
  clear h
  go_enter Try.func53, Try.ntmps53
  go_wp2
  go_loopw [5] (fun i wr => ∃ k : Nat, k ≤ len ∧ i = .int .i64 k ∧ Hid (fdF x 0 es = fdF x k (es.drop k)) ∧ w = wr) (fun i _ => len - (intOf i).toNat)
  case atStart => exact ⟨0, Nat.zero_le _, rfl, rfl, rfl⟩
  case round =>
    obtain ⟨k, hk, rfl, hF, rfl⟩ := hrel
    by_cases hlt : k < len
    · obtain ⟨b, off, e, rfl, hp, c0, c1, c2⟩ := HP.out.at hlt
      have hF' : Hid (fdF x 0 es = if e.i = x then (k : Int) else fdF x (k + 1) (es.drop (k + 1))) := by
        have q := hF.out
        rw [dropE hp] at q
        exact q
      clear hF hp
      obtain ⟨qi, qm, qu⟩ := e
      simp only at c0 c1 c2 hF'
      by_cases hx : qi = x
      · subst hx
        have hV : Hid (fdF qi 0 es = k) := by have := hF'.out; rwa [if_pos rfl] at this
        have e0 : (qi == qi) = true := by simp
        go_wp2
        go_ret
        exact ⟨ret_i hV.out.symm, rfl⟩
      · have hV : Hid (fdF x 0 es = fdF x (k + 1) (es.drop (k + 1))) := by have := hF'.out; rwa [if_neg hx] at this
        have e0 : (qi == x) = false := by simpa using hx
        clear hx
        go_wp2
        go_roundw
        case rel => exact ⟨k + 1, by omega, by go_num, hV.out, trivial⟩
        case measure => simp [intOf]; omega
    · obtain rfl : k = len := by omega
      have hV : Hid (fdF x 0 es = -1) := by
        have := hF.out
        rw [List.drop_of_length_le (by rw [HL.out]; exact Nat.le_refl _)] at this
        exact this
      go_wp2
      go_ret
      exact ⟨ret_i hV.out.symm, rfl⟩

theorem l7Time_any (n : Int) (w : World) : Calls Try.prog 49 #[.int .i64 n] w fun e w' => e = .returned (.bool (inB n 0 100000000)) ∧ w = w' := by
  go_enter Try.func49, Try.ntmps49
  go_wp2_with (go_at_call 59; refine (l1In_any _ _ _ _).mono ?_; rintro e w' ⟨rfl, rfl⟩)
  go_ret
  exact ⟨rfl, rfl⟩

theorem find_self {es : List En} {k : Nat} {e : En} (he : es[k]? = some e) (hn : (ips (es.take k)).Nodup) : (fdF e.i 0 es = k ∧ (ips (es.take (k + 1))).Nodup) ∨ (fdF e.i 0 es ≠ k ∧ ¬ (ips es).Nodup) := by
  rcases fdF_cases e.i es 0 with ⟨_, h2⟩ | ⟨j, q, h1, h2, h3, h4⟩
  · exact absurd rfl (h2 e (List.mem_of_getElem? he))
  · have hjk : j ≤ k := by
      rcases Nat.lt_or_ge k j with c | c
      · exact absurd rfl (h4 k e c he)
      · exact c
    rcases Nat.lt_or_ge j k with c | c
    · right
      refine ⟨by rw [h3]; omega, fun hh => ?_⟩
      have h5 : (ips es)[j]? = some e.i := by rw [ips, List.getElem?_map, h1, Option.map_some, h2]
      have h6 : (ips es)[k]? = some e.i := by rw [ips, List.getElem?_map, he, Option.map_some]
      have hk := (List.getElem?_eq_some_iff.1 h6).1
      have hj := (List.getElem?_eq_some_iff.1 h5).1
      have := (List.pairwise_iff_getElem.1 hh) j k hj hk c
      rw [(List.getElem?_eq_some_iff.1 h5).2, (List.getElem?_eq_some_iff.1 h6).2] at this
      exact this rfl
    · left
      obtain rfl : j = k := by omega
      refine ⟨by rw [h3]; simp, ?_⟩
      rw [ips_succ he, nodup_snoc]
      refine ⟨hn, fun hm => ?_⟩
      obtain ⟨p, hp, hpi⟩ := List.mem_map.1 hm
      obtain ⟨i, hi⟩ := List.getElem?_of_mem hp
      rw [List.getElem?_take] at hi
      split at hi
      · exact h4 i p (by assumption) hi hpi
      · cases hi

set_option maxHeartbeats 2000000 in
theorem specCacheFault (a : Option Addr) (len cap : Nat) (es : List En) (w : World) (h : Le w a len cap es) :
    Calls Try.prog 17 #[.slice a len cap] w fun e w' => e = .returned (.int .i64 (cfC es)) ∧ w = w' := by
  have HP := Lib.hid h
  have HL := Lib.hid h.length
  have hlm : len ≤ maxLen := Nat.le_trans h.le h.max
  unfold maxLen at hlm
  have KF := Lib.hid (fun x => l7Find_any a len cap es x w h)
  clear h
  by_cases h4 : 4 < len
  · have H : Hid (cfC es = 2) := cfC_many (by rw [HL.out]; exact h4)
    go_enter Try.func17, Try.ntmps17
    go_wp2
    go_ret
    exact ⟨ret_i H.out.symm, rfl⟩
  have H4 : Hid (¬ 4 < es.length) := by simp only [Hid]; rw [HL.out]; exact h4
  go_enter Try.func17, Try.ntmps17
  go_wp2
  go_loopw [3] (fun i wr => ∃ k : Nat, k ≤ len ∧ i = .int .i64 k ∧ Hid ((es.take k).all okE = true) ∧ w = wr) (fun i _ => len - (intOf i).toNat)
  case atStart => exact ⟨0, Nat.zero_le _, rfl, by simp [Hid], rfl⟩
  case round =>
    obtain ⟨k, hk, rfl, hT, rfl⟩ := hrel
    by_cases hlt : k < len
    · obtain ⟨b, off, e, rfl, hp, c0, c1, c2⟩ := HP.out.at hlt
      obtain ⟨qi, qm, qu⟩ := e
      simp only at c0 c1 c2
      have hQ : Hid ((ipB qi = true → macB qm = true → inB qu 0 100000000 = true → (es.take (k + 1)).all okE = true) ∧ ((ipB qi && macB qm && inB qu 0 100000000) = false → cfC es = 3)) := ⟨fun h0 h1 h2 => all_succ hp hT.out (by unfold okE; unfold ipB at h0; unfold macB at h1; simp only [h0, h1, h2, Bool.and_self]), fun h => cfC_range H4.out hp h⟩
      clear hp hT
      cases m0 : ipB qi
      case' true => cases m1 : macB qm
      case' true.true => cases m2 : inB qu 0 100000000
      all_goals
        go_wp2_with (first | (go_at_call 47; refine (l2Ip_any _ _).mono ?_; rintro e w' ⟨rfl, rfl⟩) | (go_at_call 48; refine (l2Mac_any _ _).mono ?_; rintro e w' ⟨rfl, rfl⟩) | (go_at_call 49; refine (l7Time_any _ _).mono ?_; rintro e w' ⟨rfl, rfl⟩))
      all_goals first
        | (go_ret
           exact ⟨ret_i (hQ.out.2 (by simp [*])).symm, rfl⟩)
        | (go_roundw
           case rel => exact ⟨k + 1, by omega, by go_num, hQ.out.1 m0 m1 m2, trivial⟩
           case measure => simp [intOf]; omega)
    · obtain rfl : k = len := by omega
      have hA : es.all okE = true := by
        have e := hT.out
        rwa [List.take_of_length_le (by rw [HL.out]; exact Nat.le_refl _)] at e
      have HC := Lib.hid (cfC_all H4.out hA)
      clear hA hT
      go_wp2
      go_loopw [4] (fun i wr => ∃ j : Nat, j ≤ k ∧ i = .int .i64 j ∧ Hid ((ips (es.take j)).Nodup) ∧ w = wr) (fun i _ => k - (intOf i).toNat)
      case atStart => exact ⟨0, Nat.zero_le _, rfl, by simp [Hid, ips], rfl⟩
      case round =>
        obtain ⟨j, hj, rfl, hN, rfl⟩ := hrel
        by_cases hlt : j < k
        · obtain ⟨b, off, e, rfl, hp, c0, c1, c2⟩ := HP.out.at hlt
          have hS := find_self hp hN.out
          have K := Lib.hid (KF.out e.i)
          clear hp hN KF
          obtain ⟨qi, qm, qu⟩ := e
          simp only at c0 c1 c2 hS K
          rcases hS with ⟨hf, hn⟩ | ⟨hf, hn⟩
          · have HN := Lib.hid hn
            rw [hf] at K
            have e0 : ((j : Int) != (j : Int)) = false := by simp
            clear hf hn
            go_wp2_with fail
            refine K.out.mono ?_
            rintro e w' ⟨rfl, rfl⟩
            go_wp2
            go_roundw
            case rel => exact ⟨j + 1, by omega, by go_num, HN.out, trivial⟩
            case measure => simp [intOf]; omega
          · have HV : Hid (cfC es = 10) := HC.out.trans (if_neg hn)
            have e0 : (fdF qi 0 es != (j : Int)) = true := by simpa using hf
            clear hf hn
            generalize fdF qi 0 es = F at *
            go_wp2_with fail
            refine K.out.mono ?_
            rintro e w' ⟨rfl, rfl⟩
            go_wp2
            go_ret
            exact ⟨ret_i HV.out.symm, rfl⟩
        · obtain rfl : j = k := by omega
          have hn : (ips es).Nodup := by
            have e := hN.out
            rwa [List.take_of_length_le (by rw [HL.out]; exact Nat.le_refl _)] at e
          have HV : Hid (cfC es = 0) := HC.out.trans (if_pos hn)
          clear hn
          go_wp2
          go_ret
          exact ⟨ret_i HV.out.symm, rfl⟩
end Go.Proofs.Ytbngdenlplbjhaa
