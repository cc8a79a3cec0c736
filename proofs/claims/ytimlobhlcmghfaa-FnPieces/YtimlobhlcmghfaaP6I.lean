/-
  HeldIn of the model and of the program, and its exact law.
-/
import Derived.Test.YtimlobhlcmghfaaP6X
namespace Go.Proofs.Ytimlobhlcmghfaa
open Go.ChangeShapes Go.WideShapes Go.ChangeAt Go.RowKit

def sumV : List (Int × List Int) → Nat
  | [] => 0
  | v :: vs => v.2.length + sumV vs
def hvV (vs : List (Int × List Int)) : Int := if pfV vs = 0 then sumV vs else 0
theorem sumV_take_succ (vs : List (Int × List Int)) (k : Nat) (v : Int × List Int) (h : vs[k]? = some v) : sumV (vs.take (k + 1)) = sumV (vs.take k) + v.2.length := by
  have app : ∀ (a b : List (Int × List Int)), sumV (a ++ b) = sumV a + sumV b := by
    intro a b
    induction a with
    | nil => simp [sumV]
    | cons x xs ih => simp only [List.cons_append, sumV, ih]; omega
  rw [List.take_add_one, h, app]
  simp [sumV]
/-- the fault that this list has is told, and no bytes -/
theorem pfV_short {vs : List (Int × List Int)} (h : pfV vs = 0) : vs.length ≤ 4 ∧ pf1 vs = 0 := by
  unfold pfV at h
  split at h
  · omega
  · split at h
    · exact ⟨by omega, by assumption⟩
    · omega
theorem hid_bne {c : Int} (h : ¬ c = 0) : (c != 0) = true := by simpa using h

set_option maxHeartbeats 2000000 in
theorem specHeldIn (a : Option Addr) (len cap : Nat) (ps : List Pm) (w : World) (h : Pl w a len cap ps) (hd : ∀ p ∈ ps, p.l ≤ 1048576) :
    Calls Try.prog 26 #[.slice a len cap] w fun e w' => e = .returned (.agg #[.int .i64 (pfV (vals ps)), .int .i64 (hvV (vals ps))]) ∧ Below w.heap.size w w' := by
  have HP := Lib.hid h
  have HD := Lib.hid hd
  have B0 := Lib.hid ((Below.refl w.heap.size w).alloc (Nat.le_refl _) (.cells #[.int .i64 0, .int .i64 0] 37))
  have X0 := Lib.hid (Box.new w 37 #[.int .i64 0, .int .i64 0])
  have K := Lib.hid (specPiecesFault a len cap ps _ (h.below B0.out) hd)
  have hlm : len ≤ maxLen := Nat.le_trans h.lb.le h.lb.max
  unfold maxLen at hlm
  have HL : Hid ((vals ps).length = len) := by simp only [Hid, vals, List.length_map]; exact h.lb.length
  clear h hd
  by_cases hc : pfV (vals ps) = 0
  · have hV : Hid (hvV (vals ps) = sumV (vals ps)) := if_pos hc
    have hsh := Lib.hid (pfV_short hc)
    have hlen : len ≤ 4 := by have := hsh.out.1; rw [HL.out] at this; exact this
    rw [hc] at K ⊢
    rw [hV.out]
    clear hc hV
    go_enter Try.func26, Try.ntmps26
    go_wp2_with fail
    refine K.out.mono ?_
    rintro e w1 ⟨rfl, b1⟩
    have X1 := Lib.hid (X0.out.below b1 X0.out.lt)
    have B1 := Lib.hid (B0.out.trans (b1.mono B0.out.size))
    clear b1 K B0 X0
    go_wp2
    go_loopw [4, 5] (fun s i wr => ∃ (k t : Nat), k ≤ len ∧ i = .int .i64 k ∧ s = .int .i64 t ∧ t ≤ k * 1048576 ∧ Hid (t = sumV ((vals ps).take k)) ∧ w1 = wr) (fun _ i _ => len - (intOf i).toNat)
    case atStart => exact ⟨0, 0, Nat.zero_le _, rfl, rfl, by omega, rfl, rfl⟩
    case round =>
      obtain ⟨k, t, hk, rfl, rfl, htb, hT, rfl⟩ := hrel
      by_cases hlt : k < len
      · obtain ⟨b, off, p, rfl, hp, c0, c1⟩ := (HP.out.lb.below B1.out).at hlt
        have hpl := HD.out p (List.mem_of_getElem? hp)
        have hz : p.z.length = p.l := (HP.out.data p (List.mem_of_getElem? hp)).length
        have hT' : Hid (t + p.l = sumV ((vals ps).take (k + 1))) := by
          simp only [Hid]
          rw [sumV_take_succ (vals ps) k p.v (by simp [vals, hp]), hT.out]
          simp only [Pm.v, hz]
        clear hp hT hz
        obtain ⟨pk, pa, pl, pc, pz⟩ := p
        simp only at c0 c1 hpl hT'
        go_wp2
        go_roundw
        case rel => exact ⟨k + 1, t + pl, by omega, by go_num, by go_num, by omega, hT'.out, trivial⟩
        case measure => simp [intOf]; omega
      · obtain rfl : k = len := by omega
        have hT' : Hid (t = sumV (vals ps)) := by
          have e := hT.out
          rwa [List.take_of_length_le (by rw [HL.out]; exact Nat.le_refl _)] at e
        obtain ⟨_, x0, x1⟩ := X1.out.two
        have f0 := X1.out.frozen 0
        have f1 := X1.out.frozen 1
        clear hT
        go_wp2
        refine bodyPost_ret (v := .agg #[.int .i64 0, .int .i64 t]) (by simp [results, Try.results26, go_sem, x0, x1]) rfl ⟨by rw [hT'.out], (B1.out.setCell (Nat.le_refl _) _).setCell (Nat.le_refl _) _⟩
  · have hV : Hid (hvV (vals ps) = 0) := if_neg hc
    have hb := hid_bne hc
    rw [hV.out]
    clear hV
    generalize pfV (vals ps) = c at *
    go_enter Try.func26, Try.ntmps26
    go_wp2_with fail
    refine K.out.mono ?_
    rintro e w1 ⟨rfl, b1⟩
    have X1 := X0.out.below b1 X0.out.lt
    obtain ⟨_, x0, x1⟩ := X1.two
    have f0 := X1.frozen 0
    have f1 := X1.frozen 1
    have B1 := Lib.hid (B0.out.trans (b1.mono B0.out.size))
    clear b1 K B0 X0 X1
    go_wp2
    refine bodyPost_ret (v := .agg #[.int .i64 c, .int .i64 0]) (by simp [results, Try.results26, go_sem, x0, x1]) rfl ⟨rfl, (B1.out.setCell (Nat.le_refl _) _).setCell (Nat.le_refl _) _⟩

set_option maxHeartbeats 2000000 in
theorem implHeldIn (a : Option Addr) (len cap : Nat) (ps : List Pm) (w : World) (h : Pl w a len cap ps) (hd : ∀ p ∈ ps, p.l ≤ 1048576) :
    Calls Try.prog 25 #[.slice a len cap] w fun e w' => e = .returned (.agg #[.int .i64 (pfV (vals ps)), .int .i64 (hvV (vals ps))]) ∧ Below w.heap.size w w' := by
  have HP := Lib.hid h
  have HD := Lib.hid hd
  have B0 := Lib.hid ((Below.refl w.heap.size w).alloc (Nat.le_refl _) (.cells #[.int .i64 0, .int .i64 0] 37))
  have X0 := Lib.hid (Box.new w 37 #[.int .i64 0, .int .i64 0])
  have K := Lib.hid (implPiecesFault a len cap ps _ (h.below B0.out) hd)
  have hlm : len ≤ maxLen := Nat.le_trans h.lb.le h.lb.max
  unfold maxLen at hlm
  have HL : Hid ((vals ps).length = len) := by simp only [Hid, vals, List.length_map]; exact h.lb.length
  clear h hd
  by_cases hc : pfV (vals ps) = 0
  · have hV : Hid (hvV (vals ps) = sumV (vals ps)) := if_pos hc
    have hsh := Lib.hid (pfV_short hc)
    have hlen : len ≤ 4 := by have := hsh.out.1; rw [HL.out] at this; exact this
    rw [hc] at K ⊢
    rw [hV.out]
    clear hc hV
    go_enter Try.func25, Try.ntmps25
    go_wp2_with fail
    refine K.out.mono ?_
    rintro e w1 ⟨rfl, b1⟩
    have X1 := Lib.hid (X0.out.below b1 X0.out.lt)
    have B1 := Lib.hid (B0.out.trans (b1.mono B0.out.size))
    clear b1 K B0
    go_wp2
    go_loopw [4, 15] (fun s i wr => ∃ (k t : Nat), k ≤ len ∧ i = .int .i64 k ∧ s = .int .i64 t ∧ t ≤ k * 1048576 ∧ Hid (t = sumV ((vals ps).take k)) ∧ Hid (Below w.heap.size w wr) ∧ Hid (Box wr w.heap.size 37 #[.int .i64 0, .int .i64 0])) (fun _ i _ => len - (intOf i).toNat)
    case atStart => exact ⟨0, 0, Nat.zero_le _, rfl, rfl, by omega, rfl, B1.out, X1.out⟩
    case round =>
      obtain ⟨k, t, hk, rfl, rfl, htb, hT, hB, hX⟩ := hrel
      clear X0 B1 X1
      by_cases hlt : k < len
      · obtain ⟨b, off, p, rfl, hp, c0, c1⟩ := (HP.out.lb.below hB.out).at hlt
        have hpl := HD.out p (List.mem_of_getElem? hp)
        have hz : p.z.length = p.l := (HP.out.data p (List.mem_of_getElem? hp)).length
        have hT' : Hid (t + p.l = sumV ((vals ps).take (k + 1))) := by
          simp only [Hid]
          rw [sumV_take_succ (vals ps) k p.v (by simp [vals, hp]), hT.out]
          simp only [Pm.v, hz]
        clear hp hT hz
        obtain ⟨pk, pa, pl, pc, pz⟩ := p
        simp only at c0 c1 hpl hT'
        have hB' := Lib.hid (hB.out.alloc hB.out.size (.cells #[.int .i64 pk, .slice pa pl pc] 133))
        have hX' := Lib.hid (hX.out.alloc (.cells #[.int .i64 pk, .slice pa pl pc] 133))
        clear hB hX
        go_wp2
        go_roundw
        case rel => exact ⟨k + 1, t + pl, by omega, by go_num, by go_num, by omega, hT'.out, hB'.out, hX'.out⟩
        case measure => simp [intOf]; omega
      · obtain rfl : k = len := by omega
        have hT' : Hid (t = sumV (vals ps)) := by
          have e := hT.out
          rwa [List.take_of_length_le (by rw [HL.out]; exact Nat.le_refl _)] at e
        obtain ⟨_, x0, x1⟩ := hX.out.two
        have f0 := hX.out.frozen 0
        have f1 := hX.out.frozen 1
        clear hT
        go_wp2
        refine bodyPost_ret (v := .agg #[.int .i64 0, .int .i64 t]) (by simp [results, Try.results25, go_sem, x0, x1]) rfl ⟨by rw [hT'.out], (hB.out.setCell (Nat.le_refl _) _).setCell (Nat.le_refl _) _⟩
  · have hV : Hid (hvV (vals ps) = 0) := if_neg hc
    have hb := hid_bne hc
    rw [hV.out]
    clear hV
    generalize pfV (vals ps) = c at *
    go_enter Try.func25, Try.ntmps25
    go_wp2_with fail
    refine K.out.mono ?_
    rintro e w1 ⟨rfl, b1⟩
    have X1 := X0.out.below b1 X0.out.lt
    obtain ⟨_, x0, x1⟩ := X1.two
    have f0 := X1.frozen 0
    have f1 := X1.frozen 1
    have B1 := Lib.hid (B0.out.trans (b1.mono B0.out.size))
    clear b1 K B0 X0 X1
    go_wp2
    refine bodyPost_ret (v := .agg #[.int .i64 c, .int .i64 0]) (by simp [results, Try.results25, go_sem, x0, x1]) rfl ⟨rfl, (B1.out.setCell (Nat.le_refl _) _).setCell (Nat.le_refl _) _⟩
end Go.Proofs.Ytimlobhlcmghfaa
