/-
  TakeReady of the program.
-/
import Derived.Test.YtfdfkcbighbfmaaP6K
namespace Go.Proofs.Ytfdfkcbighbfmaa
open Go.ChangeShapes Go.WideShapes Go.ChangeAt Go.RowKit

set_option maxHeartbeats 4000000 in
theorem implTakeReady (a : Option Addr) (len cap : Nat) (ps : List Pm) (w : World) (h : Pl w a len cap ps) (hd : ∀ p ∈ ps, p.l ≤ 1048576) :
    Calls Try.prog 18 #[.slice a len cap] w (PrOut w (pfV (vals ps)) (trL (vals ps)) (trR (vals ps))) := by
  have B0 := Lib.hid ((Below.refl w.heap.size w).alloc (Nat.le_refl _) (.cells #[.int .i64 0, .slice none 0 0, .slice none 0 0] 28))
  have X0 := Lib.hid (Box.new w 28 #[.int .i64 0, .slice none 0 0, .slice none 0 0])
  have K := Lib.hid (implPiecesFault a len cap ps _ (h.below B0.out) hd)
  by_cases hc : pfV (vals ps) = 0
  · have e1 : trL (vals ps) = takeL (vals ps) := if_pos hc
    have e2 : trR (vals ps) = takeR (vals ps) := if_pos hc
    have hp := ok_parts h hc
    have hl := hp.1
    have T := Lib.hid (fun W (hW : Below w.heap.size w W) => clonePieces_any a len cap ps W (h.below hW) (by omega) hd)
    have HK : Hid (∀ v ∈ vals ps, 0 ≤ v.1 ∧ v.1 ≤ 2000) := by
      intro v hv
      obtain ⟨p, hpp, rfl⟩ := List.mem_map.1 hv
      exact ⟨(hp.2 p hpp).1, (hp.2 p hpp).2.1⟩
    have LV := Lib.hid (fun W a' c' (qs : List Pm) (h' : Pl W a' len c' qs) (hv : vals qs = vals ps) => len_of_vals h h' hv hd)
    rw [hc] at K ⊢
    rw [e1, e2]
    generalize hvs : vals ps = vs at *
    clear h hd hc e1 e2 hp hvs
    go_enter Try.func18, Try.ntmps18
    go_wp2_with fail
    refine K.out.mono ?_
    rintro e w1 ⟨rfl, b1⟩
    have X1 := Lib.hid (X0.out.below b1 X0.out.lt)
    have B1 := Lib.hid (B0.out.trans (b1.mono B0.out.size))
    clear b1 K B0 X0
    go_wp2_with fail
    refine (T.out _ B1.out).mono ?_
    rintro e w2 ⟨a2, c2, qs, rfl, l2, d2, v2, b2⟩
    subst v2
    have X2 := Lib.hid (X1.out.below b2 X1.out.lt)
    have hlen := l2.length
    have L2 := Lib.hid (show Lo w2 (w.heap.size + 1) a2 len c2 qs from ⟨l2.row.1, by
      rcases l2.row.2 with h0 | ⟨g, c, cur, h1, h2, h3⟩
      · exact .inl h0
      · exact .inr ⟨g, c, cur, h1, Nat.le_trans X1.out.lt h2, h3⟩⟩)
    have D2 := Lib.hid (show Ds w2 (w.heap.size + 1) w2.heap.size qs from ⟨fun q hq => ⟨(d2.own q hq).1.rebase X1.out.lt, (d2.own q hq).2⟩, d2.sep⟩)
    have LQ := Lib.hid (LV.out _ _ _ _ (l2.plO d2 (Nat.le_refl _) (fun x hx => (l2.lt x hx).2)).pl rfl)
    have B2 := Lib.hid (B1.out.trans (b2.mono B1.out.size))
    clear b2 l2 d2 B1 X1 LV
    cases qs with
    | nil =>
      obtain rfl : len = 0 := by simpa using hlen.symm
      obtain ⟨zz, x0, x1, x2⟩ := X2.out.three
      have f0 := X2.out.frozen 0
      have f1 := X2.out.frozen 1
      have f2 := X2.out.frozen 2
      go_wp2
      refine bodyPost_ret (v := .agg #[.int .i64 0, .slice a2 0 c2, .slice none 0 0]) (by simp [results, Try.results18, go_sem, x0, x1, x2]) rfl ⟨_, _, _, [], _, _, _, rfl, ?_, rfl, ((B2.out.setCell (Nat.le_refl _) _).setCell (Nat.le_refl _) _).setCell (Nat.le_refl _) _⟩
      have R := PrO.noReady (L2.out.plO D2.out (Nat.le_refl _) (fun x hx => (L2.out.lt x hx).2))
      exact (((R.setOther _ _ (.inl (Nat.lt_succ_self _))).setOther _ _ (.inl (Nat.lt_succ_self _))).setOther _ _ (.inl (Nat.lt_succ_self _))).mono (Nat.le_succ _) (by simp)
    | cons p qs =>
      obtain ⟨pk, pa, pl, pc, pz⟩ := p
      have hpos : 0 < len := by simp only [List.length_cons] at hlen; omega
      obtain ⟨b, off, p', ha, hp', c0, c1'⟩ := L2.out.lb.at hpos
      simp only [List.getElem?_cons_zero, Option.some.injEq] at hp'
      subst hp'
      rcases L2.out.shape with ⟨_, h0, _⟩ | ⟨g, hg⟩
      · omega
      rw [hg] at ha
      cases ha
      subst hg
      simp only [Nat.zero_add, Nat.zero_mul] at c0 c1'
      have hzl : pz.length = pl := (D2.out.own _ (List.mem_cons_self ..)).1.length
      have hcm := L2.out.max
      have hpk := HK.out _ (List.mem_map_of_mem (List.mem_cons_self ..) : Pm.v ⟨pk, pa, pl, pc, pz⟩ ∈ vals (⟨pk, pa, pl, pc, pz⟩ :: qs))
      simp only [Pm.v] at hpk
      by_cases h0 : pk = 0
      · subst h0
        have hpl : pl ≤ 1048576 := LQ.out _ (List.mem_cons_self ..)
        have hV : Hid (takeL (vals (⟨0, pa, pl, pc, pz⟩ :: qs)) = shiftV pl (vals qs) ∧ takeR (vals (⟨0, pa, pl, pc, pz⟩ :: qs)) = pz) := ⟨by simp [vals, takeL, Pm.v, hzl], by simp [vals, takeR, Pm.v]⟩
        have hlen' : qs.length = len - 1 := by simp only [List.length_cons] at hlen; omega
        have HKq : Hid (∀ q ∈ qs, 0 ≤ q.k ∧ q.k ≤ 2000) := fun q hq => HK.out q.v (List.mem_map_of_mem (List.mem_cons_of_mem _ hq))
        by_cases hc : c2 = 1
        · have R0 := Lib.hid (L2.out.behind (off := 0) D2.out (Nat.le_refl _) (L2.out.lt _ rfl).2 (.inr hc))
          subst hc
          obtain rfl : len = 1 := by omega
          obtain rfl : qs = [] := List.length_eq_zero_iff.1 (by omega)
          clear hlen hlen' HKq hcm hpk
          go_wp2
          go_loopw [35] (fun i wr => i = .int .i64 0 ∧ w2 = wr) (fun _ _ => 0)
          case atStart => exact ⟨rfl, rfl⟩
          case round =>
            obtain ⟨rfl, rfl⟩ := hrel
            obtain ⟨zz, x0, x1, x2⟩ := X2.out.three
            have f0 := X2.out.frozen 0
            have f1 := X2.out.frozen 1
            have f2 := X2.out.frozen 2
            go_wp2
            refine bodyPost_ret (v := .agg #[.int .i64 0, .slice (some ⟨b, 0, none⟩) 0 0, .slice pa pl pc]) (by simp [results, Try.results18, go_sem, x0, x1, x2]) rfl ⟨_, _, _, [], _, _, _, rfl, ?_, ?_, ((B2.out.setCell (Nat.le_refl _) _).setCell (Nat.le_refl _) _).setCell (Nat.le_refl _) _⟩
            · rw [hV.out.2]; exact (((R0.out.setOther _ _ (.inl (Nat.lt_succ_self _))).setOther _ _ (.inl (Nat.lt_succ_self _))).setOther _ _ (.inl (Nat.lt_succ_self _))).mono (Nat.le_succ _) (by simp)
            · rw [hV.out.1]; rfl
        · have R0 := Lib.hid (L2.out.behind (off := 2) D2.out (Nat.le_refl _) (L2.out.lt _ rfl).2 (.inl rfl))
          have HW : Hid (w.heap.size < b) := (L2.out.lt _ rfl).1
          clear L2 D2 hlen hzl HK hpk
          go_wp2
          go_loopw [35] (fun i wr => ∃ k : Nat, k ≤ len - 1 ∧ i = .int .i64 k ∧ Hid (PrO wr (w.heap.size + 1) w2.heap.size (some ⟨b, 2, none⟩) (len - 1) (c2 - 1) (shiftP pl (qs.take k) ++ qs.drop k) pa pl pc pz) ∧ Hid (Below w.heap.size w wr) ∧ Hid (w2.heap.size ≤ wr.heap.size) ∧ Hid (Box wr w.heap.size 28 #[.int .i64 0, .slice none 0 0, .slice none 0 0])) (fun i _ => len - (intOf i).toNat)
          case atStart => exact ⟨0, Nat.zero_le _, rfl, by simpa [Hid, shiftP] using R0.out, B2.out, Nat.le_refl _, X2.out⟩
          case round =>
            obtain ⟨k, hk, rfl, hR, hB, hS, hX⟩ := hrel
            by_cases hlt : k < len - 1
            · obtain ⟨q, hq⟩ : ∃ q, qs[k]? = some q := ⟨_, List.getElem?_eq_getElem (by omega)⟩
              have hqa := shiftP_at pl qs k q hq
              obtain ⟨b', off', q', ha, hq', d0, d1⟩ := hR.out.pl.lb.at hlt
              cases ha
              rw [hqa] at hq'
              cases hq'
              have R1 := hR.out.putK k q hqa (q.k - pl)
              rw [shiftP_step pl qs k q hq] at R1
              have RR1 := Lib.hid R1
              have f0 := hR.out.pl.fz.at (2 + k * 2)
              have hqk := HKq.out q (List.mem_of_getElem? hq)
              clear R1 hqa hq hR R0
              go_wp2
              go_roundw
              case rel => exact ⟨k + 1, by omega, by go_num, RR1.out, hB.out.setCell (Nat.le_of_lt HW.out) _, by simpa [Hid] using hS.out, (heap_setCell_other _ _ _ _ (Nat.ne_of_lt HW.out)).trans hX.out⟩
              case measure => simp [intOf]; omega
            · obtain rfl : k = len - 1 := by omega
              have hE : Hid (PrO wr (w.heap.size + 1) w2.heap.size (some ⟨b, 2, none⟩) (len - 1) (c2 - 1) (shiftP pl qs) pa pl pc pz) := by
                have := hR.out
                rw [List.take_of_length_le (by omega), List.drop_of_length_le (by omega), List.append_nil] at this
                exact this
              clear hR R0
              obtain ⟨zz, x0, x1, x2⟩ := hX.out.three
              have f0 := hX.out.frozen 0
              have f1 := hX.out.frozen 1
              have f2 := hX.out.frozen 2
              go_wp2
              refine bodyPost_ret (v := .agg #[.int .i64 0, .slice (some ⟨b, 2, none⟩) (len - 1) (c2 - 1), .slice pa pl pc]) (by simp [results, Try.results18, go_sem, x0, x1, x2]) rfl ⟨_, _, _, shiftP pl qs, _, _, _, rfl, ?_, ?_, ((hB.out.setCell (Nat.le_refl _) _).setCell (Nat.le_refl _) _).setCell (Nat.le_refl _) _⟩
              · rw [hV.out.2]; exact (((hE.out.setOther _ _ (.inl (Nat.lt_succ_self _))).setOther _ _ (.inl (Nat.lt_succ_self _))).setOther _ _ (.inl (Nat.lt_succ_self _))).mono (Nat.le_succ _) (by simpa using hS.out)
              · rw [hV.out.1]; exact shiftP_vals pl qs
      · have hV : Hid (takeL (vals (⟨pk, pa, pl, pc, pz⟩ :: qs)) = vals (⟨pk, pa, pl, pc, pz⟩ :: qs) ∧ takeR (vals (⟨pk, pa, pl, pc, pz⟩ :: qs)) = []) := ⟨by simp [vals, takeL, Pm.v, h0], by simp [vals, takeR, Pm.v, h0]⟩
        have hgt : 0 < pk := by omega
        obtain ⟨zz, x0, x1, x2⟩ := X2.out.three
        have f0 := X2.out.frozen 0
        have f1 := X2.out.frozen 1
        have f2 := X2.out.frozen 2
        clear h0
        go_wp2
        refine bodyPost_ret (v := .agg #[.int .i64 0, .slice (some ⟨b, 0, none⟩) len c2, .slice none 0 0]) (by simp [results, Try.results18, go_sem, x0, x1, x2]) rfl ⟨_, _, _, Pm.mk pk pa pl pc pz :: qs, _, _, _, rfl, ?_, ?_, ((B2.out.setCell (Nat.le_refl _) _).setCell (Nat.le_refl _) _).setCell (Nat.le_refl _) _⟩
        · rw [hV.out.2]
          have R := PrO.noReady (L2.out.plO D2.out (Nat.le_refl _) (fun x hx => (L2.out.lt x hx).2))
          exact (((R.setOther _ _ (.inl (Nat.lt_succ_self _))).setOther _ _ (.inl (Nat.lt_succ_self _))).setOther _ _ (.inl (Nat.lt_succ_self _))).mono (Nat.le_succ _) (by simp)
        · rw [hV.out.1]
  · have e1 : trL (vals ps) = [] := if_neg hc
    have e2 : trR (vals ps) = [] := if_neg hc
    have hb := hid_bne hc
    rw [e1, e2]
    clear h hd hc e1 e2
    generalize pfV (vals ps) = c at *
    go_enter Try.func18, Try.ntmps18
    go_wp2_with fail
    refine K.out.mono ?_
    rintro e w1 ⟨rfl, b1⟩
    have X1 := X0.out.below b1 X0.out.lt
    obtain ⟨zz, x0, x1, x2⟩ := X1.three
    have f0 := X1.frozen 0
    have f1 := X1.frozen 1
    have f2 := X1.frozen 2
    have B1 := Lib.hid (B0.out.trans (b1.mono B0.out.size))
    clear b1 K B0 X0 X1
    go_wp2
    exact bodyPost_ret (v := .agg #[.int .i64 c, .slice none 0 0, .slice none 0 0]) (by simp [results, Try.results18, go_sem, x0, x1, x2]) rfl ⟨_, _, _, [], _, _, _, rfl, PrO.zero _ _ _, rfl, ((B1.out.setCell (Nat.le_refl _) _).setCell (Nat.le_refl _) _).setCell (Nat.le_refl _) _⟩

def szV (vs : List (Int × List Int)) : Nat := vs.length + sumV vs
theorem szP_vals {w : World} {a : Option Addr} {len cap : Nat} {ps : List Pm} (h : Pl w a len cap ps) : szP ps = szV (vals ps) := by
  have key : ∀ qs : List Pm, (∀ q ∈ qs, q.z.length = q.l) → sumL qs = sumV (vals qs) := by
    intro qs
    induction qs with
    | nil => intro _; rfl
    | cons q qs ih =>
      intro hq
      show q.l + sumL qs = q.z.length + sumV (vals qs)
      rw [ih (fun x hx => hq x (List.mem_cons_of_mem _ hx)), hq q (List.mem_cons_self ..)]
  unfold szP szV
  rw [vals_len, key ps (fun q hq => (h.data q hq).length)]
theorem sumV_shift (n : Nat) (vs : List (Int × List Int)) : sumV (shiftV n vs) = sumV vs := by
  induction vs with
  | nil => rfl
  | cons v vs ih => simp only [shiftV, List.map_cons, sumV] at ih ⊢; omega
theorem tr_bound (vs : List (Int × List Int)) (h : szV vs ≤ 1048576) : szV (trL vs) ≤ 2097152 ∧ (trR vs).length ≤ 2097152 := by
  unfold trL trR
  split
  · cases vs with
    | nil => exact ⟨by simp [takeL, szV, sumV], by simp [takeR]⟩
    | cons v vs =>
      unfold szV at h
      simp only [List.length_cons, sumV] at h
      simp only [takeL, takeR]
      split
      · unfold szV
        rw [sumV_shift]
        simp only [shiftV, List.length_map]
        omega
      · unfold szV
        simp only [List.length_cons, sumV, List.length_nil]
        omega
  · exact ⟨by simp [szV, sumV], by simp⟩
end Go.Proofs.Ytfdfkcbighbfmaa
