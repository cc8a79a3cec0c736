/-
  Contracts of ReadWord of the program and of the model; the law FnExactReadWord returns true.
-/
import Derived.Test.YteaiemckcepphaaPack
namespace Go.Proofs.Yteaiemckcepphaa
open Go.ChangeShapes Go.WideShapes Go.ChangeAt Go.RowKit

/-- the number of k bytes from a place on -/
def rdTo (zs : List Int) (at' : Nat) : Nat → Int
  | 0 => 0
  | k + 1 => rdTo zs at' k * 256 + zs.getD (at' + k) 0
theorem rdTo_bd (zs : List Int) (at' : Nat) (h : B8 zs) : ∀ k, 0 ≤ rdTo zs at' k ∧ rdTo zs at' k < 256 ^ k
  | 0 => by simp [rdTo]
  | k + 1 => by
    have ih := rdTo_bd zs at' h k
    have hb := b8_getD h (at' + k)
    simp only [rdTo, Int.pow_succ]
    omega
theorem rdTo_5 (zs : List Int) (at' : Nat) (h : B8 zs) (k : Nat) (hk : k ≤ 5) : 0 ≤ rdTo zs at' k ∧ rdTo zs at' k < 1099511627776 := by
  have := rdTo_bd zs at' h k
  obtain rfl | rfl | rfl | rfl | rfl | rfl : k = 0 ∨ k = 1 ∨ k = 2 ∨ k = 3 ∨ k = 4 ∨ k = 5 := by omega
  all_goals (simp only [Int.reducePow] at this; omega)
def rwOk (len at' size : Int) : Bool := inB size 1 6 && decide (0 ≤ at' ∧ at' ≤ len - size)
def rwC (zs : List Int) (at' size : Int) : Int := if rwOk zs.length at' size then 0 else 3
def rwV (zs : List Int) (at' size : Int) : Int := if rwOk zs.length at' size then rdTo zs at'.toNat size.toNat else 0

def hasB (len at' size : Int) : Bool := decide (0 ≤ at' ∧ at' ≤ len - size)
theorem has_t {len at' size : Int} (h : 0 ≤ at' ∧ at' ≤ len - size) : hasB len at' size = true := decide_eq_true h
theorem has_f {len at' size : Int} (h : ¬ (0 ≤ at' ∧ at' ≤ len - size)) : hasB len at' size = false := decide_eq_false h

theorem hasBytes_any (a : Option Addr) (len cap : Nat) (at' size : Int) (w : World) (hl : len ≤ maxLen) (h1 : 0 ≤ size) (h2 : size ≤ 1000000) :
    Calls Try.prog 111 #[.slice a len cap, .int .i64 at', .int .i64 size] w fun e w' => e = .returned (.bool (hasB len at' size)) ∧ w = w' := by
  unfold maxLen at hl
  by_cases ha : 0 ≤ at'
  · by_cases hb : at' ≤ len - size
    · have H := Lib.hid (has_t ⟨ha, hb⟩)
      go_enter Try.func111, Try.ntmps111
      go_wp2
      go_ret
      exact ⟨ret_b H.out.symm, rfl⟩
    · have H := Lib.hid (has_f (len := len) (at' := at') (size := size) (by omega))
      have hd : decide (at' ≤ len - size) = false := decide_eq_false hb
      clear hb
      go_enter Try.func111, Try.ntmps111
      go_wp2
      go_ret
      exact ⟨ret_b H.out.symm, rfl⟩
  · have H := Lib.hid (has_f (len := len) (at' := at') (size := size) (by omega))
    go_enter Try.func111, Try.ntmps111
    go_wp2
    go_ret
    exact ⟨ret_b H.out.symm, rfl⟩

set_option maxHeartbeats 1000000 in
theorem implRead_ok (a : Option Addr) (len cap A S : Nat) (zs : List Int) (w : World) (h : Rd w a len cap zs) (hS1 : 1 ≤ S) (hS2 : S ≤ 6) (hA : A + S ≤ len) :
    Calls Try.prog 101 #[.slice a len cap, .int .i64 A, .int .i64 S] w fun e w' => e = .returned (ir 0 (rdTo zs A S)) ∧ Below w.heap.size w w' := by
  have hle := h.le
  have hmx := h.max
  have hml : len ≤ maxLen := Nat.le_trans hle hmx
  unfold maxLen at hmx
  rcases h.cells with h0 | ⟨b, off, rfl, hc⟩
  · omega
  have hin : inB S 1 6 = true := in_t (by omega)
  have hhs : hasB len A S = true := has_t (by omega)
  obtain ⟨W0, hW0⟩ : ∃ W0, W0 = w.alloc (.cells #[.int .i64 0, .int .i64 0] 46) := ⟨_, rfl⟩
  have hc' : ∀ i, i < len → W0.cell? ⟨b, off + i, none⟩ = some (.int .u8 (zs.getD i 0)) := fun i hi => by
    rw [hW0, World.cell?_alloc_past _ _ _ (World.block_lt_of_cell? _ _ (hc i hi))]; exact hc i hi
  have HC := Lib.hid hc'
  have h8 := Lib.hid h.b8
  have HW := Lib.hid hW0
  clear hc hc' h hW0
  go_enter Try.func101, Try.ntmps101
  go_wp2_with (first | (go_at_call 97; refine (isWord_any _ _).mono ?_; rintro e w' ⟨rfl, rfl⟩) | (go_at_call 111; refine (hasBytes_any _ _ _ _ _ _ hml (by omega) (by omega)).mono ?_; rintro e w' ⟨rfl, rfl⟩))
  go_loopw [7, 28] (fun n i wr => ∃ (k : Nat) (m : Int), k ≤ S ∧ i = .int .i64 k ∧ n = .int .i64 m ∧ Hid (m = rdTo zs A k) ∧ Hid (W0 = wr)) (fun _ i _ => S - (intOf i).toNat)
  case atStart => exact ⟨0, 0, Nat.zero_le _, rfl, rfl, rfl, HW.out⟩
  case round =>
    obtain ⟨k, m, hk, rfl, rfl, hm, hW⟩ := hrel
    obtain rfl : W0 = wr := hW.out
    by_cases hlt : k < S
    · have hck := HC.out (A + k) (by omega)
      have hbd := b8_getD h8.out (A + k)
      have hmb : 0 ≤ m ∧ m < 1099511627776 := by rw [hm.out]; exact rdTo_5 zs A h8.out k (by omega)
      have hst : Hid (m * 256 + zs.getD (A + k) 0 = rdTo zs A (k + 1)) := by rw [hm.out]; rfl
      clear hW hm
      generalize zs.getD (A + k) 0 = x at *
      rw [← Nat.add_assoc] at hck
      go_wp2
      go_roundw
      case rel => exact ⟨k + 1, m * 256 + x, by omega, by go_num, by go_num, hst.out, trivial⟩
      case measure => simp [intOf]; omega
    · obtain rfl : k = S := by omega
      clear hW
      obtain ⟨hz, c0, c1, f0, f1⟩ := res_cells HW.out (World.grownBy.refl W0 none) (by simp)
      have hB := below_res HW.out (World.grownBy.refl W0 none) (by simp)
      go_wp2
      refine bodyPost_ret (v := .agg #[.int .i64 0, .int .i64 m]) (by simp [results, Try.results101, go_sem, c0, c1]) rfl ⟨ret_ir rfl hm.out, (hB.setCell (Nat.le_refl _) _).setCell (Nat.le_refl _) _⟩

set_option maxHeartbeats 1000000 in
theorem implRead (a : Option Addr) (len cap : Nat) (at' size : Int) (zs : List Int) (w : World) (h : Rd w a len cap zs) :
    Calls Try.prog 101 #[.slice a len cap, .int .i64 at', .int .i64 size] w fun e w' => e = .returned (ir (rwC zs at' size) (rwV zs at' size)) ∧ Below w.heap.size w w' := by
  cases hk : rwOk len at' size with
  | true =>
    have H := hk
    simp only [rwOk, inB, Bool.and_eq_true, decide_eq_true_eq] at hk
    obtain ⟨S, rfl⟩ := Int.eq_ofNat_of_zero_le (show 0 ≤ size by omega)
    obtain ⟨A, rfl⟩ := Int.eq_ofNat_of_zero_le (show 0 ≤ at' by omega)
    simp only [rwC, rwV, h.length, H, if_true, Int.toNat_natCast]
    exact implRead_ok a len cap A S zs w h (by omega) (by omega) (by omega)
  | false =>
    have hml : len ≤ maxLen := Nat.le_trans h.le h.max
    simp only [rwC, rwV, h.length, hk, Bool.false_eq_true, if_false]
    by_cases h1 : 1 ≤ size ∧ size ≤ 6
    · have hi := in_t h1
      have hh : hasB len at' size = false := by
        simp only [rwOk, hi, Bool.true_and] at hk
        exact hk
      clear hk h
      go_enter Try.func101, Try.ntmps101
      go_wp2_with (first | (go_at_call 97; refine (isWord_any _ _).mono ?_; rintro e w' ⟨rfl, rfl⟩) | (go_at_call 111; refine (hasBytes_any _ _ _ _ _ _ hml (by omega) (by omega)).mono ?_; rintro e w' ⟨rfl, rfl⟩))
      all_goals exact bodyPost_ret (v := .agg #[.int .i64 3, .int .i64 0]) (by simp [results, Try.results101, go_sem]) rfl ⟨rfl, ((Below.refl _ _).alloc (Nat.le_refl _) _)⟩
    · have hi := in_f h1
      clear hk h h1
      go_enter Try.func101, Try.ntmps101
      go_wp2_with (first | (go_at_call 97; refine (isWord_any _ _).mono ?_; rintro e w' ⟨rfl, rfl⟩))
      all_goals exact bodyPost_ret (v := .agg #[.int .i64 3, .int .i64 0]) (by simp [results, Try.results101, go_sem]) rfl ⟨rfl, ((Below.refl _ _).alloc (Nat.le_refl _) _)⟩

set_option maxHeartbeats 1000000 in
theorem l1Read_any (a : Option Addr) (len cap A S : Nat) (zs : List Int) (w : World) (h : Rd w a len cap zs) (hS2 : S ≤ 6) (hA : A + S ≤ len) :
    Calls Try.prog 106 #[.slice a len cap, .int .i64 A, .int .i64 S] w fun e w' => e = .returned (.int .i64 (rdTo zs A S)) ∧ w = w' := by
  have hle := h.le
  have hmx := h.max
  unfold maxLen at hmx
  have h8 := Lib.hid h.b8
  go_enter Try.func106, Try.ntmps106
  go_wp2
  go_loopw [7, 8] (fun n i wr => ∃ (k : Nat) (m : Int), k ≤ S ∧ i = .int .i64 k ∧ n = .int .i64 m ∧ Hid (m = rdTo zs A k) ∧ Hid (w = wr)) (fun _ i _ => S - (intOf i).toNat)
  case atStart => exact ⟨0, 0, Nat.zero_le _, rfl, rfl, rfl, rfl⟩
  case round =>
    obtain ⟨k, m, hk, rfl, rfl, hm, hW⟩ := hrel
    obtain rfl : w = wr := hW.out
    by_cases hlt : k < S
    · rcases h.cells with h0 | ⟨b, off, rfl, hc⟩
      · omega
      have hck := hc (A + k) (by omega)
      have hbd := b8_getD h8.out (A + k)
      have hmb : 0 ≤ m ∧ m < 1099511627776 := by rw [hm.out]; exact rdTo_5 zs A h8.out k (by omega)
      have hst : Hid (m * 256 + zs.getD (A + k) 0 = rdTo zs A (k + 1)) := by rw [hm.out]; rfl
      clear hW hm h hc
      generalize zs.getD (A + k) 0 = x at *
      have i1 : (0 : Int) ≤ (A : Int) + k := by omega
      have i2 : (A : Int) + k < len := by omega
      have i3 : ((A : Int) + k).toNat = A + k := by omega
      go_wp2
      go_roundw
      case rel => exact ⟨k + 1, m * 256 + x, by omega, by go_num, by go_num, hst.out, trivial⟩
      case measure => simp [intOf]; omega
    · obtain rfl : k = S := by omega
      clear hW
      go_wp2
      go_ret
      exact ⟨ret_i hm.out, rfl⟩

end Go.Proofs.Yteaiemckcepphaa
