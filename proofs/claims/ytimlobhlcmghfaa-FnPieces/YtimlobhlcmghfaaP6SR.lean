/-
  splitReady of the program: what is ready is taken off a list in the list itself.
-/
import Derived.Test.YtimlobhlcmghfaaP6K
namespace Go.Proofs.Ytimlobhlcmghfaa
open Go.ChangeShapes Go.WideShapes Go.ChangeAt Go.RowKit

/-- what is ready and the rest, in the list's own memory -/
def SrOut (lo : Nat) (w : World) (vs : List (Int × List Int)) (e : Ending) (w' : World) : Prop :=
  ∃ b lb cb ra rl rc rs, e = .returned (.tuple #[.slice b lb cb, .slice ra rl rc]) ∧ PrO w' lo w.heap.size ra rl rc rs b lb cb (takeR vs) ∧ vals rs = takeL vs ∧ Turn lo w.heap.size w w'
set_option maxHeartbeats 4000000 in
theorem splitReady_any (lo : Nat) (a : Option Addr) (len cap : Nat) (qs : List Pm) (w : World) (hL : Lo w lo a len cap qs) (hD : Ds w lo w.heap.size qs) (hk : ∀ q ∈ qs, 0 ≤ q.k ∧ q.k ≤ 2000) (hl : ∀ q ∈ qs, q.l ≤ 1048576) :
    Calls Try.prog 98 #[.slice a len cap] w (SrOut lo w (vals qs)) := by
  have hlen := hL.length
  have hmx := hL.max
  unfold maxLen at hmx
  cases qs with
  | nil =>
    obtain rfl : len = 0 := by simpa using hlen.symm
    have R := Lib.hid (PrO.noReady (hL.plO hD (Nat.le_refl _) (fun x hx => (hL.lt x hx).2)))
    clear hL hD hk hl
    go_enter Try.func98, Try.ntmps98
    go_wp2
    exact bodyPost_ret (v := .tuple #[.slice none 0 0, .slice a 0 cap]) (by simp [results, Try.results98, go_sem]) rfl ⟨_, _, _, _, _, _, [], rfl, R.out, rfl, Turn.refl _ _ _⟩
  | cons p qs =>
    obtain ⟨pk, pa, pl, pc, pz⟩ := p
    have hpos : 0 < len := by simp only [List.length_cons] at hlen; omega
    obtain ⟨b, off, p', ha, hp', c0, c1'⟩ := hL.lb.at hpos
    simp only [List.getElem?_cons_zero, Option.some.injEq] at hp'
    subst hp'
    rcases hL.shape with ⟨_, h0, _⟩ | ⟨g, hg⟩
    · omega
    rw [hg] at ha
    cases ha
    subst hg
    simp only [Nat.zero_add, Nat.zero_mul] at c0 c1'
    have hzl : pz.length = pl := (hD.own _ (List.mem_cons_self ..)).1.length
    have hpk := hk _ (List.mem_cons_self ..)
    simp only at hpk
    have L2 := Lib.hid hL
    have D2 := Lib.hid hD
    by_cases h0 : pk = 0
    · subst h0
      have hpl : pl ≤ 1048576 := hl _ (List.mem_cons_self ..)
      have hV : Hid (takeL (vals (⟨0, pa, pl, pc, pz⟩ :: qs)) = shiftV pl (vals qs) ∧ takeR (vals (⟨0, pa, pl, pc, pz⟩ :: qs)) = pz) := ⟨by simp [vals, takeL, Pm.v, hzl], by simp [vals, takeR, Pm.v]⟩
      have hlen' : qs.length = len - 1 := by simp only [List.length_cons] at hlen; omega
      have HKq : Hid (∀ q ∈ qs, 0 ≤ q.k ∧ q.k ≤ 2000) := fun q hq => hk q (List.mem_cons_of_mem _ hq)
      clear hk hl hL hD
      by_cases hc : cap = 1
      · have R0 := Lib.hid (L2.out.behind (off := 0) D2.out (Nat.le_refl _) (L2.out.lt _ rfl).2 (.inr hc))
        subst hc
        obtain rfl : len = 1 := by omega
        obtain rfl : qs = [] := List.length_eq_zero_iff.1 (by omega)
        clear hlen hlen' HKq hmx hpk
        go_enter Try.func98, Try.ntmps98
        go_wp2
        go_quiet (fail)
        generalize hW : w.drewN _ = W
        have BW := Lib.hid (show Below w.heap.size w W from by rw [← hW]; exact belowN (Below.refl _ _) _)
        have RW := Lib.hid (R0.out.below BW.out)
        clear hW R0 c0 c1' L2 D2
        go_wp2
        go_loopw [26] (fun i wr => i = .int .i64 0 ∧ W = wr) (fun _ _ => 0)
        case atStart => exact ⟨rfl, rfl⟩
        case round =>
          obtain ⟨rfl, rfl⟩ := hrel
          go_wp2
          refine bodyPost_ret (v := .tuple #[.slice pa pl pc, .slice (some ⟨b, 0, none⟩) 0 0]) (by simp [results, Try.results98, go_sem]) rfl ⟨_, _, _, _, _, _, [], rfl, by rw [hV.out.2]; exact RW.out, by rw [hV.out.1]; rfl, Turn.of_below BW.out⟩
      · have R0 := Lib.hid (L2.out.behind (off := 2) D2.out (Nat.le_refl _) (L2.out.lt _ rfl).2 (.inl rfl))
        have HW := Lib.hid (L2.out.lt _ rfl)
        clear L2 D2 hlen hzl hpk
        go_enter Try.func98, Try.ntmps98
        go_wp2
        go_quiet (fail)
        generalize hW : w.drewN _ = W
        have BW := Lib.hid (show Below w.heap.size w W from by rw [← hW]; exact belowN (Below.refl _ _) _)
        have SW := Lib.hid (show W.heap.size = w.heap.size from by rw [← hW]; rfl)
        have RW := Lib.hid (R0.out.below BW.out)
        clear hW R0 c0 c1'
        go_wp2
        go_loopw [26] (fun i wr => ∃ k : Nat, k ≤ len - 1 ∧ i = .int .i64 k ∧ Hid (PrO wr lo w.heap.size (some ⟨b, 2, none⟩) (len - 1) (cap - 1) (shiftP pl (qs.take k) ++ qs.drop k) pa pl pc pz) ∧ Hid (Turn lo w.heap.size w wr)) (fun i _ => len - (intOf i).toNat)
        case atStart => exact ⟨0, Nat.zero_le _, rfl, by simpa [Hid, shiftP] using RW.out, Turn.of_below BW.out⟩
        case round =>
          obtain ⟨k, hk, rfl, hR, hT⟩ := hrel
          clear RW BW SW
          by_cases hlt : k < len - 1
          · obtain ⟨q, hq⟩ : ∃ q, qs[k]? = some q := ⟨_, List.getElem?_eq_getElem (by omega)⟩
            have hqa := shiftP_at pl qs k q hq
            obtain ⟨b', off', q', ha, hq', d0, d1⟩ := hR.out.pl.lb.at hlt
            cases ha
            rw [hqa] at hq'
            cases hq'
            have R1 := hR.out.putK k q hqa (q.k - pl)
            rw [shiftP_step pl qs k q hq] at R1
            have RR1 := Lib.hid R1
            have T1 := Lib.hid (hT.out.trans (Turn.of_grown (grown_setCell wr ⟨b, 2 + k * 2, none⟩ (.int .i64 (q.k - pl))) HW.out.1 HW.out.2))
            have f0 := hR.out.pl.fz.at (2 + k * 2)
            have hqk := HKq.out q (List.mem_of_getElem? hq)
            clear R1 hqa hq hR hT
            go_wp2
            go_roundw
            case rel => exact ⟨k + 1, by omega, by go_num, RR1.out, T1.out⟩
            case measure => simp [intOf]; omega
          · obtain rfl : k = len - 1 := by omega
            have hE : Hid (PrO wr lo w.heap.size (some ⟨b, 2, none⟩) (len - 1) (cap - 1) (shiftP pl qs) pa pl pc pz) := by
              have := hR.out
              rw [List.take_of_length_le (by omega), List.drop_of_length_le (by omega), List.append_nil] at this
              exact this
            clear hR
            go_wp2
            refine bodyPost_ret (v := .tuple #[.slice pa pl pc, .slice (some ⟨b, 2, none⟩) (len - 1) (cap - 1)]) (by simp [results, Try.results98, go_sem]) rfl ⟨_, _, _, _, _, _, shiftP pl qs, rfl, by rw [hV.out.2]; exact hE.out, by rw [hV.out.1]; exact shiftP_vals pl qs, hT.out⟩
    · have hgt : 0 < pk := by omega
      have hV : Hid (takeL (vals (⟨pk, pa, pl, pc, pz⟩ :: qs)) = vals (⟨pk, pa, pl, pc, pz⟩ :: qs) ∧ takeR (vals (⟨pk, pa, pl, pc, pz⟩ :: qs)) = []) := ⟨by simp [vals, takeL, Pm.v, h0], by simp [vals, takeR, Pm.v, h0]⟩
      have R := Lib.hid (PrO.noReady (hL.plO hD (Nat.le_refl _) (fun x hx => (hL.lt x hx).2)))
      clear hL hD hk hl h0 L2 D2
      go_enter Try.func98, Try.ntmps98
      go_wp2
      exact bodyPost_ret (v := .tuple #[.slice none 0 0, .slice (some ⟨b, 0, none⟩) len cap]) (by simp [results, Try.results98, go_sem]) rfl ⟨_, _, _, _, _, _, Pm.mk pk pa pl pc pz :: qs, rfl, by rw [hV.out.2]; exact R.out, by rw [hV.out.1], Turn.refl _ _ _⟩
end Go.Proofs.Ytimlobhlcmghfaa
