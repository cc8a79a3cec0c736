/-
  The options of a segment, read by the model.
-/
import Derived.Test.YteaiemckcepphaaSgS
import Derived.Test.YteaiemckcepphaaMA
namespace Go.Proofs.Yteaiemckcepphaa
open Go.ChangeShapes Go.WideShapes Go.ChangeAt Go.RowKit

/-- the Mss that options tell from the place k on, m being told ahead of it; none: they are not right -/
def optA (zs : List Int) (k : Nat) (m : Int) : Option Int :=
  if k < zs.length then
    if zs.getD k 0 = 0 then some m
    else if zs.getD k 0 = 1 then optA zs (k + 1) m
    else if zs.length ≤ k + 1 then none
    else if 2 ≤ zs.getD (k + 1) 0 then
      if zs.length < k + (zs.getD (k + 1) 0).toNat ∨ (zs.getD k 0 = 2 ∧ zs.getD (k + 1) 0 ≠ 4) then none
      else optA zs (k + (zs.getD (k + 1) 0).toNat) (if zs.getD k 0 = 2 then rdTo zs (k + 2) 2 else m)
    else none
  else some m
termination_by zs.length - k
decreasing_by all_goals omega
def optV (zs : List Int) : Int := (optA zs 0 0).getD 0
def optK (zs : List Int) : Bool := (optA zs 0 0).isSome
theorem optA_end {zs : List Int} {k : Nat} {m : Int} (h : ¬ k < zs.length) : optA zs k m = some m := by rw [optA, if_neg h]
theorem optA_0 {zs : List Int} {k : Nat} {m : Int} (h : k < zs.length) (h0 : zs.getD k 0 = 0) : optA zs k m = some m := by rw [optA, if_pos h, if_pos h0]
theorem optA_1 {zs : List Int} {k : Nat} {m : Int} (h : k < zs.length) (h1 : zs.getD k 0 = 1) : optA zs k m = optA zs (k + 1) m := by rw [optA, if_pos h, if_neg (by omega), if_pos h1]
theorem optA_last {zs : List Int} {k : Nat} {m : Int} (h : k < zs.length) (h0 : ¬ zs.getD k 0 = 0) (h1 : ¬ zs.getD k 0 = 1) (hl : zs.length ≤ k + 1) : optA zs k m = none := by rw [optA, if_pos h, if_neg h0, if_neg h1, if_pos hl]
theorem optA_two {zs : List Int} {k : Nat} {m : Int} (h : k < zs.length) (h0 : ¬ zs.getD k 0 = 0) (h1 : ¬ zs.getD k 0 = 1) (hl : ¬ zs.length ≤ k + 1) (h2 : ¬ 2 ≤ zs.getD (k + 1) 0) : optA zs k m = none := by rw [optA, if_pos h, if_neg h0, if_neg h1, if_neg hl, if_neg h2]
theorem optA_far {zs : List Int} {k : Nat} {m : Int} (h : k < zs.length) (h0 : ¬ zs.getD k 0 = 0) (h1 : ¬ zs.getD k 0 = 1) (hl : ¬ zs.length ≤ k + 1) (h2 : 2 ≤ zs.getD (k + 1) 0) (h3 : zs.length < k + (zs.getD (k + 1) 0).toNat ∨ (zs.getD k 0 = 2 ∧ zs.getD (k + 1) 0 ≠ 4)) : optA zs k m = none := by rw [optA, if_pos h, if_neg h0, if_neg h1, if_neg hl, if_pos h2, if_pos h3]
theorem optA_go {zs : List Int} {k : Nat} {m : Int} (h : k < zs.length) (h0 : ¬ zs.getD k 0 = 0) (h1 : ¬ zs.getD k 0 = 1) (hl : ¬ zs.length ≤ k + 1) (h2 : 2 ≤ zs.getD (k + 1) 0) (h3 : ¬ (zs.length < k + (zs.getD (k + 1) 0).toNat ∨ (zs.getD k 0 = 2 ∧ zs.getD (k + 1) 0 ≠ 4))) : optA zs k m = optA zs (k + (zs.getD (k + 1) 0).toNat) (if zs.getD k 0 = 2 then rdTo zs (k + 2) 2 else m) := by
  rw [optA, if_pos h, if_neg h0, if_neg h1, if_neg hl, if_pos h2, if_neg h3]

theorem l1Read_l5 (a : Option Addr) (len cap A S : Nat) (x y : Int) (zs : List Int) (w : World) (h : Rd w a len cap zs) (hx : (A : Int) = x) (hy : (S : Int) = y) (hS2 : S ≤ 6) (hA : A + S ≤ len) :
    Calls Try.prog 106 #[.slice a len cap, .int .i64 x, .int .i64 y] w fun e w' => e = .returned (.int .i64 (rdTo zs A S)) ∧ w = w' := by
  subst hx hy
  exact l1Read_any a len cap A S zs w h hS2 hA
set_option maxRecDepth 20000 in
set_option maxHeartbeats 4000000 in
theorem l5Options_any (a : Option Addr) (len cap : Nat) (zs : List Int) (w : World) (hr : Rd w a len cap zs) (hl : len ≤ 1000) :
    Calls Try.prog 105 #[.slice a len cap] w fun e w' => e = .returned (.tuple #[.int .i64 (optV zs), .bool (optK zs)]) ∧ w = w' := by
  have HR := Lib.hid hr
  have hzl := Lib.hid hr.length
  obtain ⟨O, hO⟩ : ∃ O, O = optA zs 0 0 := ⟨_, rfl⟩
  have HV : Hid (optV zs = O.getD 0 ∧ optK zs = O.isSome) := ⟨by rw [hO]; rfl, by rw [hO]; rfl⟩
  have HO := Lib.hid hO
  clear hO hr
  go_enter Try.func105, Try.ntmps105
  go_wp2
  go_loopw [4, 5] (fun ms i wr => ∃ (k : Nat) (m : Int), k ≤ len ∧ i = .int .i64 k ∧ ms = .int .i64 m ∧ Hid (O = optA zs k m) ∧ w = wr) (fun _ i _ => len - (intOf i).toNat)
  case atStart => exact ⟨0, 0, Nat.zero_le _, rfl, rfl, HO.out, rfl⟩
  case round =>
    obtain ⟨k, m, hk, rfl, rfl, hT, rfl⟩ := hrel
    clear HO
    by_cases hlt : k < len
    case neg =>
      obtain rfl : k = len := by omega
      have HF : Hid (O = some m) := hT.out.trans (optA_end (by rw [hzl.out]; omega))
      go_wp2
      exact bodyPost_ret (v := .tuple #[.int .i64 m, .bool true]) (by simp [results, Try.results105, go_sem]) rfl ⟨by rw [HV.out.1, HV.out.2, HF.out]; rfl, rfl⟩
    case pos =>
      rcases HR.out.cells with h0 | ⟨ba, off, rfl, hc⟩
      · omega
      have hlz : k < zs.length := by rw [hzl.out]; exact hlt
      have ck := hc k hlt
      have hyb := HR.out.getD_bd k
      have HK0 := Lib.hid (fun h0 : zs.getD k 0 = 0 => hT.out.trans (optA_0 hlz h0))
      have HK1 := Lib.hid (fun h1 : zs.getD k 0 = 1 => hT.out.trans (optA_1 hlz h1))
      have HKl := Lib.hid (fun (h0 : ¬ zs.getD k 0 = 0) (h1 : ¬ zs.getD k 0 = 1) (hl : len ≤ k + 1) => hT.out.trans (optA_last hlz h0 h1 (by rw [hzl.out]; exact hl)))
      have HK2 := Lib.hid (fun (h0 : ¬ zs.getD k 0 = 0) (h1 : ¬ zs.getD k 0 = 1) (hl : ¬ len ≤ k + 1) (h2 : ¬ 2 ≤ zs.getD (k + 1) 0) => hT.out.trans (optA_two hlz h0 h1 (by rw [hzl.out]; exact hl) h2))
      have HKf := Lib.hid (fun (h0 : ¬ zs.getD k 0 = 0) (h1 : ¬ zs.getD k 0 = 1) (hl : ¬ len ≤ k + 1) (h2 : 2 ≤ zs.getD (k + 1) 0) (h3 : len < k + (zs.getD (k + 1) 0).toNat ∨ (zs.getD k 0 = 2 ∧ zs.getD (k + 1) 0 ≠ 4)) => hT.out.trans (optA_far hlz h0 h1 (by rw [hzl.out]; exact hl) h2 (by rw [hzl.out]; exact h3)))
      have HKg := Lib.hid (fun (h0 : ¬ zs.getD k 0 = 0) (h1 : ¬ zs.getD k 0 = 1) (hl : ¬ len ≤ k + 1) (h2 : 2 ≤ zs.getD (k + 1) 0) (h3 : ¬ (len < k + (zs.getD (k + 1) 0).toNat ∨ (zs.getD k 0 = 2 ∧ zs.getD (k + 1) 0 ≠ 4))) => hT.out.trans (optA_go hlz h0 h1 (by rw [hzl.out]; exact hl) h2 (by rw [hzl.out]; exact h3)))
      have c1 := Lib.hid (fun h : k + 1 < len => hc (k + 1) h)
      have hnb := HR.out.getD_bd (k + 1)
      clear hc hT hlz
      generalize zs.getD k 0 = y at *
      generalize zs.getD (k + 1) 0 = n at *
      by_cases hy0 : y = 0
      · subst hy0
        have HF := Lib.hid (HK0.out rfl)
        clear HK0 HK1 HKl HK2 HKf HKg
        go_wp2
        exact bodyPost_ret (v := .tuple #[.int .i64 m, .bool true]) (by simp [results, Try.results105, go_sem]) rfl ⟨by rw [HV.out.1, HV.out.2, HF.out]; rfl, rfl⟩
      by_cases hy1 : y = 1
      · subst hy1
        have HF := Lib.hid (HK1.out rfl)
        clear HK0 HK1 HKl HK2 HKf HKg
        go_wp2
        go_roundw
        case rel => exact ⟨k + 1, m, by omega, by go_num, rfl, HF.out, trivial⟩
        case measure => simp [intOf]; omega
      have e0 : (y == 0) = false := by simpa using hy0
      have e1 : (y == 1) = false := by simpa using hy1
      by_cases hkl : len ≤ k + 1
      · have HF := Lib.hid (HKl.out hy0 hy1 hkl)
        have hge : decide ((len : Int) ≤ (k : Int) + 1) = true := decide_eq_true (by omega)
        clear HK0 HK1 HKl HK2 HKf HKg hy0 hy1
        go_wp2
        exact bodyPost_ret (v := .tuple #[.int .i64 0, .bool false]) (by simp [results, Try.results105, go_sem]) rfl ⟨by rw [HV.out.1, HV.out.2, HF.out]; rfl, rfl⟩
      have hge : decide ((len : Int) ≤ (k : Int) + 1) = false := decide_eq_false (by omega)
      have ck1 := c1.out (by omega)
      have i1 : (0 : Int) ≤ (k : Int) + 1 := by omega
      have i2 : (k : Int) + 1 < len := by omega
      have i3 : ((k : Int) + 1).toNat = k + 1 := by omega
      have un : IntKind.i64.wrap n = n := IntWalk.i64_in _ (by omega)
      have wk1 : IntKind.i64.wrap ((k : Int) + 1) = k + 1 := IntWalk.i64_in _ (by omega)
      by_cases h2 : 2 ≤ n
      case neg =>
        have HF := Lib.hid (HK2.out hy0 hy1 hkl h2)
        have d2 : decide (n < 2) = true := decide_eq_true (by omega)
        clear HK0 HK1 HKl HK2 HKf HKg hy0 hy1 c1
        go_wp2
        exact bodyPost_ret (v := .tuple #[.int .i64 0, .bool false]) (by simp [results, Try.results105, go_sem]) rfl ⟨by rw [HV.out.1, HV.out.2, HF.out]; rfl, rfl⟩
      have d2 : decide (n < 2) = false := decide_eq_false (by omega)
      have wkn : IntKind.i64.wrap ((k : Int) + n) = k + n := IntWalk.i64_in _ (by omega)
      by_cases hf : len < k + n.toNat
      · have HF := Lib.hid (HKf.out hy0 hy1 hkl h2 (.inl hf))
        have df : decide ((len : Int) < (k : Int) + n) = true := decide_eq_true (by omega)
        clear HK0 HK1 HKl HK2 HKf HKg hy0 hy1 c1
        go_wp2
        exact bodyPost_ret (v := .tuple #[.int .i64 0, .bool false]) (by simp [results, Try.results105, go_sem]) rfl ⟨by rw [HV.out.1, HV.out.2, HF.out]; rfl, rfl⟩
      have df : decide ((len : Int) < (k : Int) + n) = false := decide_eq_false (by omega)
      by_cases hy2 : y = 2
      · subst hy2
        by_cases hn4 : n = 4
        · subst hn4
          have HF := Lib.hid (HKg.out hy0 hy1 hkl h2 (by omega))
          have KR := Lib.hid (l1Read_l5 (some ⟨ba, off, none⟩) len cap (k + 2) 2 ((k : Int) + 2) 2 zs w HR.out (by omega) (by omega) (by omega) (by omega))
          clear HK0 HK1 HKl HK2 HKf HKg hy0 hy1 c1
          go_wp2_with fail
          refine KR.out.mono ?_
          rintro e w' ⟨rfl, rfl⟩
          go_wp2
          go_roundw
          case rel => exact ⟨k + 4, rdTo zs (k + 2) 2, by omega, by go_num, rfl, HF.out, trivial⟩
          case measure => simp [intOf]; omega
        · have HF := Lib.hid (HKf.out hy0 hy1 hkl h2 (.inr ⟨rfl, hn4⟩))
          have e4 : (n != 4) = true := by simpa using hn4
          clear HK0 HK1 HKl HK2 HKf HKg hy0 hy1 c1
          go_wp2
          exact bodyPost_ret (v := .tuple #[.int .i64 0, .bool false]) (by simp [results, Try.results105, go_sem]) rfl ⟨by rw [HV.out.1, HV.out.2, HF.out]; rfl, rfl⟩
      · have e2 : (y == 2) = false := by simpa using hy2
        have HF := Lib.hid (HKg.out hy0 hy1 hkl h2 (by rintro (h | ⟨h, _⟩); exact hf h; exact hy2 h))
        rw [if_neg hy2] at HF
        clear HK0 HK1 HKl HK2 HKf HKg hy0 hy1 c1
        go_wp2
        go_roundw
        case rel => exact ⟨k + n.toNat, m, by omega, by rw [show ((k + n.toNat : Nat) : Int) = k + n by omega], rfl, HF.out, trivial⟩
        case measure => simp [intOf]; omega
end Go.Proofs.Yteaiemckcepphaa
