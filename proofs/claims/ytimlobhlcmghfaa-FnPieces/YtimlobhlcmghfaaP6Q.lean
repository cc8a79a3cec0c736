/-
  PiecesFault of the program.
-/
import Derived.Test.YtimlobhlcmghfaaP6P
namespace Go.Proofs.Ytimlobhlcmghfaa
open Go.ChangeShapes Go.WideShapes Go.ChangeAt Go.RowKit

set_option maxHeartbeats 2000000 in
theorem implPiecesFault (a : Option Addr) (len cap : Nat) (ps : List Pm) (w : World) (h : Pl w a len cap ps) (hd : ∀ p ∈ ps, p.l ≤ 1048576) :
    Calls Try.prog 23 #[.slice a len cap] w fun e w' => e = .returned (.int .i64 (pfV (vals ps))) ∧ Below w.heap.size w w' := by
  have HP := Lib.hid h
  have HD := Lib.hid hd
  have HL : Hid ((vals ps).length = len) := by simp only [Hid, vals, List.length_map]; exact h.lb.length
  have hlm : len ≤ maxLen := Nat.le_trans h.lb.le h.lb.max
  unfold maxLen at hlm
  clear h hd
  by_cases h4 : 4 < len
  · have H : Hid (pfV (vals ps) = 2) := pfV_many (by rw [HL.out]; exact h4)
    go_enter Try.func23, Try.ntmps23
    go_wp2
    go_ret
    exact ⟨ret_i H.out.symm, Below.refl _ _⟩
  · have H4 : Hid (¬ 4 < (vals ps).length) := by simp only [Hid]; rw [HL.out]; exact h4
    go_enter Try.func23, Try.ntmps23
    go_wp2
    go_loopw [11] (fun i wr => ∃ k : Nat, k ≤ len ∧ i = .int .i64 k ∧ Hid (pf1 (vals ps) = pf1 ((vals ps).drop k)) ∧ Hid (Below w.heap.size w wr)) (fun i _ => len - (intOf i).toNat)
    case atStart => exact ⟨0, Nat.zero_le _, rfl, rfl, Below.refl _ _⟩
    case round =>
      obtain ⟨k, hk, rfl, hI, hB⟩ := hrel
      by_cases hlt : k < len
      · obtain ⟨b, off, p, rfl, hp, c0, c1⟩ := (HP.out.lb.below hB.out).at hlt
        have hpl := HD.out p (List.mem_of_getElem? hp)
        have hz : p.z.length = p.l := (HP.out.data p (List.mem_of_getElem? hp)).length
        have hI' : Hid (pf1 (vals ps) = pf1 (p.v :: (vals ps).drop (k + 1))) := by
          simp only [Hid]
          rw [← drop_cons (show (vals ps)[k]? = some p.v by simp [vals, hp])]; exact hI.out
        clear hp hI
        obtain ⟨pk, pa, pl, pc, pz⟩ := p
        simp only at c0 c1 hpl hz
        have B0 := Lib.hid (hB.out.alloc hB.out.size (.cells #[.int .i64 pk, .slice pa pl pc] 133))
        have X0 := Lib.hid (Box.new wr 133 #[.int .i64 pk, .slice pa pl pc])
        have K := Lib.hid (isInSpan_any pk pa pl pc (wr.alloc (.cells #[.int .i64 pk, .slice pa pl pc] 133)) hpl)
        by_cases s2 : 0 ≤ pk ∧ pk + pl ≤ 2000
        · have hs : spanB pk pz.length = true := span_t (by rw [hz]; exact s2)
          rw [span_t s2] at K
          by_cases s3 : pl = 0
          · have HF : Hid (pfV (vals ps) = 4) := pfV_one H4.out 4 (by omega) (pf1_none hI'.out hs (by simp only [Pm.v]; omega))
            clear hI' hs hz
            subst s3
            go_wp2_with fail
            refine K.out.mono ?_
            rintro e w1 ⟨rfl, b1⟩
            have X1 := X0.out.below b1 X0.out.lt
            have x1 := X1.cell 1
            have B1 := Lib.hid (B0.out.trans (b1.mono B0.out.size))
            clear b1 K c0 c1 hB B0 X0 X1
            go_wp2
            go_ret
            exact ⟨ret_i HF.out.symm, B1.out⟩
          · have HF : Hid (pf1 (vals ps) = pf1 ((vals ps).drop (k + 1))) := pf1_next hI'.out hs (by simp only [Pm.v]; omega)
            clear hI' hs hz
            go_wp2_with fail
            refine K.out.mono ?_
            rintro e w1 ⟨rfl, b1⟩
            have X1 := X0.out.below b1 X0.out.lt
            have x1 := X1.cell 1
            have B1 := Lib.hid (B0.out.trans (b1.mono B0.out.size))
            clear b1 K c0 c1 hB B0 X0 X1
            go_wp2
            go_roundw
            case rel => exact ⟨k + 1, by omega, by go_num, HF.out, B1.out⟩
            case measure => simp [intOf]; omega
        · rw [span_f s2] at K
          have HF : Hid (pfV (vals ps) = 3) := pfV_one H4.out 3 (by omega) (pf1_range hI'.out (span_f (k := pk) (n := pz.length) (by omega)))
          clear hI' hz s2
          go_wp2_with fail
          refine K.out.mono ?_
          rintro e w1 ⟨rfl, b1⟩
          have B1 := Lib.hid (B0.out.trans (b1.mono B0.out.size))
          clear b1 K c0 c1 hB B0 X0
          go_wp2
          go_ret
          exact ⟨ret_i HF.out.symm, B1.out⟩
      · obtain rfl : k = len := by omega
        have h1 : pf1 (vals ps) = 0 := by
          rw [hI.out, List.drop_of_length_le (by rw [HL.out]; exact Nat.le_refl _)]; rfl
        have HZ := Lib.hid (pf1_zero h1)
        have HV := Lib.hid (pfV_two H4.out h1)
        clear hI h1
        go_wp2
        go_loopw [5] (fun i wr => ∃ j : Nat, 1 ≤ j ∧ j ≤ k + 1 ∧ i = .int .i64 j ∧ Hid (pf2 (vals ps) = pf2 ((vals ps).drop (j - 1))) ∧ Hid (Below w.heap.size w wr)) (fun i _ => k + 1 - (intOf i).toNat)
        case atStart => exact ⟨1, Nat.le_refl _, by omega, rfl, rfl, hB.out⟩
        case round =>
          obtain ⟨j, hj1, hj2, rfl, hI, hB⟩ := hrel
          by_cases hlt : j < k
          · obtain ⟨b, off, p, ha, hp, c0, c1⟩ := (HP.out.lb.below hB.out).at hlt
            obtain ⟨b', off', q, ha', hq, d0, d1⟩ := (HP.out.lb.below hB.out).at (show j - 1 < k by omega)
            subst ha
            cases ha'
            have hql := HD.out q (List.mem_of_getElem? hq)
            have hqz : q.z.length = q.l := (HP.out.data q (List.mem_of_getElem? hq)).length
            have hqr := HZ.out q.v (List.mem_map_of_mem (List.mem_of_getElem? hq))
            have hI' : Hid (pf2 (vals ps) = pf2 (q.v :: p.v :: (vals ps).drop (j + 1))) := by
              simp only [Hid]
              rw [← drop_cons (show (vals ps)[j]? = some p.v by simp [vals, hp])]
              have e1 : j = (j - 1) + 1 := by omega
              have e2 := drop_cons (show (vals ps)[j - 1]? = some q.v by simp [vals, hq])
              rw [← e1] at e2
              rw [← e2]; exact hI.out
            have hNx : Hid (∀ x, x = pf2 (p.v :: (vals ps).drop (j + 1)) → x = pf2 ((vals ps).drop (j + 1 - 1))) := by
              intro x hx
              rw [Nat.add_sub_cancel, drop_cons (show (vals ps)[j]? = some p.v by simp [vals, hp])]; exact hx
            clear hp hq hI
            obtain ⟨pk, pa, pl, pc, pz⟩ := p
            obtain ⟨qk, qa, ql, qc, qz⟩ := q
            simp only [Pm.v] at c0 c1 d0 d1 hql hqz hqr
            have hw : IntKind.i64.wrap ((j : Int) - 1) = ((j - 1 : Nat) : Int) := (IntWalk.i64_in _ (by omega)).trans (by omega)
            have hj3 : j - 1 < k := by omega
            have E := Lib.hid (doTouch_any qk qa ql qc pk pa pl pc wr.drew hql (by omega) (by omega))
            by_cases ht : pk ≤ qk + ql
            · have HF : Hid (pfV (vals ps) = 1) := HV.out.trans (pf2_form hI'.out (by simp only [Pm.v]; omega))
              rw [decide_eq_true ht] at E
              clear hI' hNx
              go_wp2_with fail
              go_region_held3 (fun W => W.cell? ⟨b, off + j * 2, none⟩ = some (.int .i64 pk) ∧ W.cell? ⟨b, off + j * 2 + 1, none⟩ = some (.slice pa pl pc) ∧ W.cell? ⟨b, off + (j - 1) * 2, none⟩ = some (.int .i64 qk) ∧ W.cell? ⟨b, off + (j - 1) * 2 + 1, none⟩ = some (.slice qa ql qc))
                (first | go_keep | (go_split_ands; exact ⟨keepK hb (by assumption), keepK hb (by assumption), keepK hb (by assumption), keepK hb (by assumption)⟩))
                (first | (go_at_call 107; refine E.out.mono ?_; rintro e w10 ⟨rfl, b10⟩; have hb := b10))
              have B10 := Lib.hid (hB.out.drew.trans (b10.mono hB.out.drew.size))
              clear hb b10 c0 c1 d0 d1
              go_wp2
              go_ret
              exact ⟨ret_i HF.out.symm, B10.out⟩
            · have HF : Hid (pf2 (vals ps) = pf2 ((vals ps).drop (j + 1 - 1))) := hNx.out _ (pf2_next hI'.out (by simp only [Pm.v]; omega))
              rw [decide_eq_false ht] at E
              clear hI' hNx
              go_wp2_with fail
              go_region_held3 (fun W => W.cell? ⟨b, off + j * 2, none⟩ = some (.int .i64 pk) ∧ W.cell? ⟨b, off + j * 2 + 1, none⟩ = some (.slice pa pl pc) ∧ W.cell? ⟨b, off + (j - 1) * 2, none⟩ = some (.int .i64 qk) ∧ W.cell? ⟨b, off + (j - 1) * 2 + 1, none⟩ = some (.slice qa ql qc))
                (first | go_keep | (go_split_ands; exact ⟨keepK hb (by assumption), keepK hb (by assumption), keepK hb (by assumption), keepK hb (by assumption)⟩))
                (first | (go_at_call 107; refine E.out.mono ?_; rintro e w10 ⟨rfl, b10⟩; have hb := b10))
              have B10 := Lib.hid (hB.out.drew.trans (b10.mono hB.out.drew.size))
              clear hb b10 c0 c1 d0 d1
              go_wp2
              go_roundw
              case rel => exact ⟨j + 1, by omega, by omega, by go_num, HF.out, B10.out⟩
              case measure => simp [intOf]; omega
          · have HF : Hid (pfV (vals ps) = 0) := by
              simp only [Hid]
              rw [HV.out, hI.out]
              have hlen : ((vals ps).drop (j - 1)).length ≤ 1 := by rw [List.length_drop, HL.out]; omega
              match hx : (vals ps).drop (j - 1) with
              | [] => rfl
              | [_] => rfl
              | _ :: _ :: _ => rw [hx] at hlen; simp at hlen
            go_wp2
            go_ret
            exact ⟨ret_i HF.out.symm, hB.out⟩
end Go.Proofs.Ytimlobhlcmghfaa
