/-
  Options of a segment, of the program: optionSize, mssIn.
-/
import Derived.Test.YteaiemckcepphaaSgO
import Derived.Test.YteaiemckcepphaaMC
import Derived.WalkMore
namespace Go.Proofs.Yteaiemckcepphaa
open Go.ChangeShapes Go.WideShapes Go.ChangeAt Go.RowKit

/-- how many bytes the option has that these bytes begin with; 0: it is none -/
def osN (zs : List Int) : Int :=
  if zs.length < 2 then 0
  else if zs.getD 1 0 < 2 then 0
  else if zs.length < (zs.getD 1 0).toNat then 0
  else if zs.getD 0 0 = 2 ∧ zs.getD 1 0 ≠ 4 then 0
  else zs.getD 1 0
theorem drop_getD (zs : List Int) (k i : Nat) : (zs.drop k).getD i 0 = zs.getD (k + i) 0 := by
  simp [List.getD_eq_getElem?_getD, List.getElem?_drop]
theorem opt_no {zs : List Int} {k : Nat} {m : Int} (h : k < zs.length) (h0 : ¬ zs.getD k 0 = 0) (h1 : ¬ zs.getD k 0 = 1) (hs : osN (zs.drop k) = 0) : optA zs k m = none := by
  unfold osN at hs
  simp only [drop_getD, List.length_drop, Nat.add_zero] at hs
  by_cases c1 : zs.length - k < 2
  · exact optA_last h h0 h1 (by omega)
  rw [if_neg c1] at hs
  by_cases c2 : zs.getD (k + 1) 0 < 2
  · exact optA_two h h0 h1 (by omega) (by omega)
  rw [if_neg c2] at hs
  by_cases c3 : zs.length - k < (zs.getD (k + 1) 0).toNat
  · exact optA_far h h0 h1 (by omega) (by omega) (.inl (by omega))
  rw [if_neg c3] at hs
  by_cases c4 : zs.getD k 0 = 2 ∧ zs.getD (k + 1) 0 ≠ 4
  · exact optA_far h h0 h1 (by omega) (by omega) (.inr c4)
  rw [if_neg c4] at hs
  omega
theorem opt_go {zs : List Int} {k : Nat} {m : Int} (h : k < zs.length) (h0 : ¬ zs.getD k 0 = 0) (h1 : ¬ zs.getD k 0 = 1) (hs : ¬ osN (zs.drop k) = 0) :
    2 ≤ osN (zs.drop k) ∧ k + (osN (zs.drop k)).toNat ≤ zs.length ∧ (zs.getD k 0 = 2 → osN (zs.drop k) = 4) ∧ optA zs k m = optA zs (k + (osN (zs.drop k)).toNat) (if zs.getD k 0 = 2 then rdTo zs (k + 2) 2 else m) := by
  have hd : osN (zs.drop k) = if zs.length - k < 2 then 0 else if zs.getD (k + 1) 0 < 2 then 0 else if zs.length - k < (zs.getD (k + 1) 0).toNat then 0 else if zs.getD k 0 = 2 ∧ zs.getD (k + 1) 0 ≠ 4 then 0 else zs.getD (k + 1) 0 := by
    unfold osN
    simp only [drop_getD, List.length_drop, Nat.add_zero]
  by_cases c1 : zs.length - k < 2
  · rw [if_pos c1] at hd; exact absurd hd hs
  rw [if_neg c1] at hd
  by_cases c2 : zs.getD (k + 1) 0 < 2
  · rw [if_pos c2] at hd; exact absurd hd hs
  rw [if_neg c2] at hd
  by_cases c3 : zs.length - k < (zs.getD (k + 1) 0).toNat
  · rw [if_pos c3] at hd; exact absurd hd hs
  rw [if_neg c3] at hd
  by_cases c4 : zs.getD k 0 = 2 ∧ zs.getD (k + 1) 0 ≠ 4
  · rw [if_pos c4] at hd; exact absurd hd hs
  rw [if_neg c4] at hd
  rw [hd]
  refine ⟨by omega, by omega, fun h2 => ?_, optA_go h h0 h1 (by omega) (by omega) (by rintro (q | q); omega; exact c4 q)⟩
  by_cases q : zs.getD (k + 1) 0 = 4
  · exact q
  · exact absurd ⟨h2, q⟩ c4

set_option maxRecDepth 20000 in
set_option maxHeartbeats 1000000 in
theorem optionSize_any (a : Option Addr) (len cap : Nat) (zs : List Int) (w : World) (hr : Rd w a len cap zs) :
    Calls Try.prog 100 #[.slice a len cap] w fun e w' => e = .returned (.int .i64 (osN zs)) ∧ w' = w := by
  have hd : osN zs = if len < 2 then 0 else if zs.getD 1 0 < 2 then 0 else if len < (zs.getD 1 0).toNat then 0 else if zs.getD 0 0 = 2 ∧ zs.getD 1 0 ≠ 4 then 0 else zs.getD 1 0 := by
    unfold osN; rw [hr.length]
  have hmx := hr.max
  have hle := hr.le
  unfold maxLen at hmx
  by_cases c1 : len < 2
  · rw [if_pos c1] at hd
    rw [hd]
    have d1 : decide ((len : Int) < 2) = true := decide_eq_true (by omega)
    clear hd hr
    go_enter Try.func100, Try.ntmps100
    go_wp2
    go_ret
    exact ⟨rfl, rfl⟩
  rw [if_neg c1] at hd
  have d1 : decide ((len : Int) < 2) = false := decide_eq_false (by omega)
  rcases hr.cells with h0 | ⟨ba, off, rfl, hc⟩
  · omega
  have i0 := hc 0 (by omega)
  have i1 := hc 1 (by omega)
  have hyb := hr.getD_bd 0
  have hnb := hr.getD_bd 1
  have j0 : (0 : Int) < len := by omega
  have j1 : (1 : Int) < len := by omega
  clear hc hr
  generalize zs.getD 0 0 = y at *
  generalize zs.getD 1 0 = n at *
  simp only [Nat.add_zero] at i0
  have un : IntKind.i64.wrap n = n := IntWalk.i64_in _ (by omega)
  by_cases c2 : n < 2
  · rw [if_pos c2] at hd
    rw [hd]
    have d2 : decide (n < 2) = true := decide_eq_true c2
    clear hd
    go_enter Try.func100, Try.ntmps100
    go_wp2
    go_ret
    exact ⟨rfl, rfl⟩
  rw [if_neg c2] at hd
  have d2 : decide (n < 2) = false := decide_eq_false c2
  by_cases c3 : len < n.toNat
  · rw [if_pos c3] at hd
    rw [hd]
    have d3 : decide ((len : Int) < n) = true := decide_eq_true (by omega)
    clear hd
    go_enter Try.func100, Try.ntmps100
    go_wp2
    go_ret
    exact ⟨rfl, rfl⟩
  rw [if_neg c3] at hd
  have d3 : decide ((len : Int) < n) = false := decide_eq_false (by omega)
  by_cases c4 : y = 2
  · subst c4
    by_cases c5 : n = 4
    · subst c5
      rw [if_neg (by simp)] at hd
      rw [hd]
      clear hd
      go_enter Try.func100, Try.ntmps100
      go_wp2
      go_ret
      exact ⟨rfl, rfl⟩
    · rw [if_pos ⟨rfl, c5⟩] at hd
      rw [hd]
      have d5 : (n != 4) = true := by simpa using c5
      clear hd
      go_enter Try.func100, Try.ntmps100
      go_wp2
      go_ret
      exact ⟨rfl, rfl⟩
  · rw [if_neg (fun h => c4 h.1)] at hd
    rw [hd]
    have d4 : (y == 2) = false := by simpa using c4
    clear hd
    go_enter Try.func100, Try.ntmps100
    go_wp2
    go_ret
    exact ⟨rfl, rfl⟩

set_option maxRecDepth 20000 in
set_option maxHeartbeats 4000000 in
theorem mssIn_any (a : Option Addr) (len cap : Nat) (zs : List Int) (w : World) (hr : Rd w a len cap zs) (hl : len ≤ 1000) :
    Calls Try.prog 70 #[.slice a len cap] w fun e w' => e = .returned (.tuple #[.int .i64 (optV zs), .bool (optK zs)]) ∧ Below w.heap.size w w' := by
  have HR := Lib.hid hr
  have hzl := Lib.hid hr.length
  have hfi := fld_ir
  obtain ⟨O, hO⟩ : ∃ O, O = optA zs 0 0 := ⟨_, rfl⟩
  have HV : Hid (optV zs = O.getD 0 ∧ optK zs = O.isSome) := ⟨by rw [hO]; rfl, by rw [hO]; rfl⟩
  have HO := Lib.hid hO
  clear hO hr
  go_enter Try.func70, Try.ntmps70
  go_wp2
  go_step3
  go_wp2
  go_step3
  go_wp2
  go_loopw [4, 5] (fun ms i wr => ∃ (k : Nat) (m : Int), k ≤ len ∧ i = .int .i64 k ∧ ms = .int .i64 m ∧ Hid (O = optA zs k m) ∧ Hid (Below w.heap.size w wr)) (fun _ i _ => len - (intOf i).toNat)
  case atStart => exact ⟨0, 0, Nat.zero_le _, rfl, rfl, HO.out, Below.refl _ _⟩
  case round =>
    obtain ⟨k, m, hk, rfl, rfl, hT, hB⟩ := hrel
    clear HO
    by_cases hlt : k < len
    case neg =>
      obtain rfl : k = len := by omega
      have HF : Hid (O = some m) := hT.out.trans (optA_end (by rw [hzl.out]; omega))
      go_wp2
      rw [Exit.noGoto_ret]
      exact bodyPost_ret (v := .tuple #[.int .i64 m, .bool true]) (by simp [results, Try.results70, go_sem]) rfl ⟨by rw [HV.out.1, HV.out.2, HF.out]; rfl, hB.out⟩
    case pos =>
      have HRr := Lib.hid (HR.out.below hB.out)
      rcases HRr.out.cells with h0 | ⟨ba, off, rfl, hc⟩
      · omega
      have hcp := HRr.out.le
      have hmx := HRr.out.max
      unfold maxLen at hmx
      have hlz : k < zs.length := by rw [hzl.out]; exact hlt
      have ck := hc k hlt
      have hyb := HRr.out.getD_bd k
      have HD := Lib.hid (HRr.out.from k _ _ _ (by omega) rfl rfl rfl)
      have KZ := Lib.hid (optionSize_any _ _ _ _ _ HD.out)
      have HK0 := Lib.hid (fun h0 : zs.getD k 0 = 0 => hT.out.trans (optA_0 hlz h0))
      have HK1 := Lib.hid (fun h1 : zs.getD k 0 = 1 => hT.out.trans (optA_1 hlz h1))
      have HKn := Lib.hid (fun (h0 : ¬ zs.getD k 0 = 0) (h1 : ¬ zs.getD k 0 = 1) (hs : osN (zs.drop k) = 0) => hT.out.trans (opt_no hlz h0 h1 hs))
      have HKg := Lib.hid (fun (h0 : ¬ zs.getD k 0 = 0) (h1 : ¬ zs.getD k 0 = 1) (hs : ¬ osN (zs.drop k) = 0) => (opt_go (m := m) hlz h0 h1 hs))
      have HTT := hT
      clear hc hT hlz HD
      generalize zs.getD k 0 = y at *
      generalize osN (zs.drop k) = n at *
      by_cases hy0 : y = 0
      · subst hy0
        have HF := Lib.hid (HK0.out rfl)
        clear HK0 HK1 HKn HKg KZ HTT
        go_wp2
        rw [Exit.noGoto_ret]
        exact bodyPost_ret (v := .tuple #[.int .i64 m, .bool true]) (by simp [results, Try.results70, go_sem]) rfl ⟨by rw [HV.out.1, HV.out.2, HF.out]; rfl, hB.out⟩
      by_cases hy1 : y = 1
      · subst hy1
        have HF := Lib.hid (HK1.out rfl)
        clear HK0 HK1 HKn HKg KZ HTT
        go_wp2
        go_roundw
        case rel => exact ⟨k + 1, m, by omega, by go_num, rfl, HF.out, hB.out⟩
        case measure => simp [intOf]; omega
      have e0 : (y == 0) = false := by simpa using hy0
      have e1 : (y == 1) = false := by simpa using hy1
      have hck : ¬ cap = k := by omega
      have ik : (k : Int) ≤ len := by omega
      by_cases hn0 : n = 0
      · subst hn0
        have HF := Lib.hid (HKn.out hy0 hy1 rfl)
        clear HK0 HK1 HKn HKg HTT hy0 hy1
        go_wp2_with fail
        refine KZ.out.mono ?_
        rintro e w' ⟨rfl, rfl⟩
        go_wp2
        rw [Exit.noGoto_ret]
        exact bodyPost_ret (v := .tuple #[.int .i64 0, .bool false]) (by simp [results, Try.results70, go_sem]) rfl ⟨by rw [HV.out.1, HV.out.2, HF.out]; rfl, hB.out⟩
      have n0 : (n == 0) = false := by simpa using hn0
      obtain ⟨hn2, hn3, hn4, hn5⟩ := HKg.out hy0 hy1 hn0
      rw [hzl.out] at hn3
      have HF := Lib.hid (HTT.out.trans hn5)
      clear HK0 HK1 HKn HKg HTT hy0 hy1 hn5 hn0
      have wkn : IntKind.i64.wrap ((k : Int) + n) = k + n := IntWalk.i64_in _ (by omega)
      by_cases hy2 : y = 2
      · subst hy2
        obtain rfl : n = 4 := hn4 rfl
        clear hn4
        have wk2 : IntKind.i64.wrap ((k : Int) + 2) = k + 2 := IntWalk.i64_in _ (by omega)
        have KR := Lib.hid (readWord_l4 (some ⟨ba, off, none⟩) len cap (k + 2) 2 ((k : Int) + 2) 2 _ zs wr HRr.out (by omega) (by omega) (by omega) (by omega) (by omega) rfl)
        go_wp2_with fail
        refine KZ.out.mono ?_
        rintro e w' ⟨rfl, rfl⟩
        go_wp2_with fail
        refine KR.out.mono ?_
        rintro e w1 ⟨rfl, b1⟩
        have B1 := Lib.hid (hB.out.trans (b1.mono hB.out.size))
        clear b1 KR KZ
        go_wp2
        go_roundw
        case rel => exact ⟨k + 4, rdTo zs (k + 2) 2, by omega, by go_num, rfl, HF.out, B1.out⟩
        case measure => simp [intOf]; omega
      · have e2 : (y == 2) = false := by simpa using hy2
        rw [if_neg hy2] at HF
        clear hn4
        go_wp2_with fail
        refine KZ.out.mono ?_
        rintro e w' ⟨rfl, rfl⟩
        go_wp2
        go_roundw
        case rel => exact ⟨k + n.toNat, m, by omega, by rw [show ((k + n.toNat : Nat) : Int) = k + n by omega], rfl, HF.out, hB.out⟩
        case measure => simp [intOf]; omega
end Go.Proofs.Yteaiemckcepphaa
