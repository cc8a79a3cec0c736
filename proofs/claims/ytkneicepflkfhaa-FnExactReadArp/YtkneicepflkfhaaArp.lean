/-
  Contracts of the model's ArpFault and of the helpers of the laws over questions and answers of addresses.
-/
import Derived.Test.YtkneicepflkfhaaRead
namespace Go.Proofs.Ytkneicepflkfhaa
open Go.ChangeShapes Go.WideShapes Go.ChangeAt Go.RowKit

def macB (n : Int) : Bool := inB n 0 281474976710655
def ipB (n : Int) : Bool := inB n 0 4294967295
def arpV (op fm fi tm ti : Int) : Value := .agg #[.int .i64 op, .int .i64 fm, .int .i64 fi, .int .i64 tm, .int .i64 ti]
def arpB (op fm fi tm ti : Int) : Bool := inB op 1 2 && macB fm && macB tm && ipB fi && ipB ti
def arpC (op fm fi tm ti : Int) : Int := if arpB op fm fi tm ti then 0 else 3

theorem l2Mac_any (n : Int) (w : World) : Calls Try.prog 40 #[.int .i64 n] w fun e w' => e = .returned (.bool (macB n)) ∧ w = w' := by
  go_enter Try.func40, Try.ntmps40
  go_wp2_with (go_at_call 41; refine (l1In_any _ _ _ _).mono ?_; rintro e w' ⟨rfl, rfl⟩)
  go_ret
  exact ⟨rfl, rfl⟩
theorem l2Ip_any (n : Int) (w : World) : Calls Try.prog 54 #[.int .i64 n] w fun e w' => e = .returned (.bool (ipB n)) ∧ w = w' := by
  go_enter Try.func54, Try.ntmps54
  go_wp2_with (go_at_call 41; refine (l1In_any _ _ _ _).mono ?_; rintro e w' ⟨rfl, rfl⟩)
  go_ret
  exact ⟨rfl, rfl⟩

set_option maxHeartbeats 1000000 in
theorem specArpFault (op fm fi tm ti : Int) (w : World) :
    Calls Try.prog 29 #[.agg #[.int .i64 op, .int .i64 fm, .int .i64 fi, .int .i64 tm, .int .i64 ti]] w fun e w' => e = .returned (.int .i64 (arpC op fm fi tm ti)) ∧ Below w.heap.size w w' := by
  have H : Hid (arpC op fm fi tm ti = if inB op 1 2 && macB fm && macB tm && ipB fi && ipB ti then 0 else 3) := rfl
  generalize arpC op fm fi tm ti = c at *
  have K0 := Lib.hid (fun W => l1In_any op 1 2 W)
  have K1 := Lib.hid (fun W => l2Mac_any fm W)
  have K2 := Lib.hid (fun W => l2Mac_any tm W)
  have K3 := Lib.hid (fun W => l2Ip_any fi W)
  have K4 := Lib.hid (fun W => l2Ip_any ti W)
  generalize inB op 1 2 = b0 at *
  generalize macB fm = b1 at *
  generalize macB tm = b2 at *
  generalize ipB fi = b3 at *
  generalize ipB ti = b4 at *
  cases b0
  case' true => cases b1
  case' true.true => cases b2
  case' true.true.true => cases b3
  case' true.true.true.true => cases b4
  all_goals
    go_enter Try.func29, Try.ntmps29
    go_wp2_with (first | (go_at_call 41; refine (K0.out _).mono ?_; rintro e w' ⟨rfl, rfl⟩) | (go_at_call 40; refine (K1.out _).mono ?_; rintro e w' ⟨rfl, rfl⟩) | (go_at_call 40; refine (K2.out _).mono ?_; rintro e w' ⟨rfl, rfl⟩) | (go_at_call 54; refine (K3.out _).mono ?_; rintro e w' ⟨rfl, rfl⟩) | (go_at_call 54; refine (K4.out _).mono ?_; rintro e w' ⟨rfl, rfl⟩))
    go_ret
    exact ⟨ret_i H.out.symm, (Below.refl _ _).alloc (Nat.le_refl _) _⟩

set_option maxHeartbeats 1000000 in
theorem toArp_any (op fm fi tm ti : Int) (w : World) :
    Calls Try.prog 30 #[.agg #[.int .i64 op, .int .i64 fm, .int .i64 fi, .int .i64 tm, .int .i64 ti]] w fun e w' => e = .returned (.agg #[.int .i64 op, .int .i64 fm, .int .i64 fi, .int .i64 tm, .int .i64 ti]) ∧ Below w.heap.size w w' := by
  go_enter Try.func30, Try.ntmps30
  go_wp2
  exact bodyPost_ret (v := .agg #[.int .i64 op, .int .i64 fm, .int .i64 fi, .int .i64 tm, .int .i64 ti]) (by simp [results, Try.results30, go_sem]) rfl ⟨rfl, (((Below.refl _ _).alloc (Nat.le_refl _) _).alloc (by simp) _).alloc (by simp; omega) _⟩

theorem Box.five {w : World} {b : Nat} {t : TypeId} {x y z u v : Value} (h : Box w b t #[x, y, z, u, v]) : b < w.heap.size ∧ w.cell? ⟨b, 0, none⟩ = some x ∧ w.cell? ⟨b, 1, none⟩ = some y ∧ w.cell? ⟨b, 2, none⟩ = some z ∧ w.cell? ⟨b, 3, none⟩ = some u ∧ w.cell? ⟨b, 4, none⟩ = some v := ⟨h.lt, h.cell 0, h.cell 1, h.cell 2, h.cell 3, h.cell 4⟩

set_option maxHeartbeats 1000000 in
theorem eqArp_t (op fm fi tm ti : Int) (w : World) :
    Calls Try.prog 62 #[.agg #[.int .i64 op, .int .i64 fm, .int .i64 fi, .int .i64 tm, .int .i64 ti], .agg #[.int .i64 op, .int .i64 fm, .int .i64 fi, .int .i64 tm, .int .i64 ti]] w fun e w' => e = .returned (.bool true) ∧ Below w.heap.size w w' := by
  go_enter Try.func62, Try.ntmps62
  go_wp2
  go_ret
  exact ⟨rfl, ((Below.refl _ _).alloc (Nat.le_refl _) _).alloc (by simp) _⟩

set_option maxHeartbeats 1000000 in
theorem exactArpFault (op fm fi tm ti : Int) (w : World)
    (h : ∀ W, Calls Try.prog 31 #[.agg #[.int .i64 op, .int .i64 fm, .int .i64 fi, .int .i64 tm, .int .i64 ti]] W fun e w' => e = .returned (.int .i64 (arpC op fm fi tm ti)) ∧ Below W.heap.size W w') :
    Calls Try.prog 6 #[.agg #[.int .i64 op, .int .i64 fm, .int .i64 fi, .int .i64 tm, .int .i64 ti]] w fun e w' => e = .returned (.bool true) ∧ Below w.heap.size w w' := by
  have K := Lib.hid h
  have S := Lib.hid (fun W => specArpFault op fm fi tm ti W)
  have T := Lib.hid (fun W => toArp_any op fm fi tm ti W)
  clear h
  generalize arpC op fm fi tm ti = c at *
  have hne : (c != c) = false := by simp
  go_enter Try.func6, Try.ntmps6
  have B0 := Lib.hid ((Below.refl w.heap.size w).alloc (Nat.le_refl _) (.cells #[.int .i64 op, .int .i64 fm, .int .i64 fi, .int .i64 tm, .int .i64 ti] 47))
  have X0 := Lib.hid (Box.new w 47 #[.int .i64 op, .int .i64 fm, .int .i64 fi, .int .i64 tm, .int .i64 ti])
  go_wp2_with fail
  refine (T.out _).mono ?_
  rintro e w1 ⟨rfl, b1⟩
  have B1 := Lib.hid (B0.out.trans (b1.mono B0.out.size))
  have X1 := Lib.hid (X0.out.below b1 X0.out.lt)
  clear b1 X0 B0
  go_wp2_with fail
  refine (S.out _).mono ?_
  rintro e w2 ⟨rfl, b2⟩
  have B2 := Lib.hid (B1.out.trans (b2.mono B1.out.size))
  obtain ⟨z2, x20, x21, x22, x23, x24⟩ := (X1.out.below b2 X1.out.lt).five
  clear b2 X1 B1
  go_wp2_with fail
  refine (T.out _).mono ?_
  rintro e w3 ⟨rfl, b3⟩
  have B3 := Lib.hid (B2.out.trans (b3.mono B2.out.size))
  clear b3 B2 z2 x20 x21 x22 x23 x24
  go_wp2_with fail
  refine (K.out _).mono ?_
  rintro e w4 ⟨rfl, b4⟩
  have B4 := Lib.hid (B3.out.trans (b4.mono B3.out.size))
  clear b4 B3
  go_wp2
  go_ret
  exact ⟨rfl, B4.out⟩
end Go.Proofs.Ytkneicepflkfhaa
