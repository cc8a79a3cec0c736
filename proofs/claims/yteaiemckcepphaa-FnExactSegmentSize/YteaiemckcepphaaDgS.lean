/-
  The model's PseudoHead, DatagramFault and SameDatagrams; the sum behind a pseudo head.
-/
import Derived.Test.YteaiemckcepphaaPkP
import Derived.Test.YteaiemckcepphaaCat
import Derived.Test.YteaiemckcepphaaStr
namespace Go.Proofs.Yteaiemckcepphaa
open Go.ChangeShapes Go.WideShapes Go.ChangeAt Go.RowKit

def pseudoL (f t p n : Int) : List Int := be f 4 ++ be t 4 ++ [0, p] ++ be n 2
theorem pseudoL_len (f t p n : Int) : (pseudoL f t p n).length = 12 := by simp [pseudoL, be_len]
def phB (f t p n : Int) : Bool := ipB f && ipB t && inB p 0 255 && inB n 0 65535
def phC (f t p n : Int) : Int := if phB f t p n then 0 else 3
def phP (f t p n : Int) : List Int := if phB f t p n then pseudoL f t p n else []
theorem phB_parts {f t p n : Int} (h : phB f t p n = true) : (0 ≤ f ∧ f < 4294967296) ∧ (0 ≤ t ∧ t < 4294967296) ∧ (0 ≤ p ∧ p ≤ 255) ∧ (0 ≤ n ∧ n < 65536) := by
  simp only [phB, ipB, inB, Bool.and_eq_true, decide_eq_true_eq] at h
  omega
theorem ipB_bd {f : Int} (h : ipB f = true) : 0 ≤ f ∧ f < 4294967296 := by
  simp only [ipB, inB, decide_eq_true_eq] at h
  omega

set_option maxHeartbeats 1000000 in
theorem l4Pseudo_any (f t p n : Int) (w : World) (h0 : 0 ≤ f ∧ f < 281474976710656) (h1 : 0 ≤ t ∧ t < 281474976710656) (h2 : 0 ≤ p ∧ p ≤ 255) (h3 : 0 ≤ n ∧ n < 281474976710656) :
    Calls Try.prog 104 #[.int .i64 f, .int .i64 t, .int .i64 p, .int .i64 n] w (FreshAny w (pseudoL f t p n)) := by
  have K0 := Lib.hid (fun W => l1Pack_lit f 4 4 W rfl h0 (by omega))
  have K1 := Lib.hid (fun W => l1Pack_lit t 4 4 W rfl h1 (by omega))
  have K2 := Lib.hid (fun W => l1Pack_lit n 2 2 W rfl h3 (by omega))
  have u1 := u8_in p h2
  have LB := Lib.hid (fun W => own_litB2 W W.heap.size 0 p (by omega) h2 (Nat.le_refl _))
  have HL : Hid (pseudoL f t p n = be f 4 ++ be t 4 ++ [0, p] ++ be n 2) := rfl
  obtain ⟨L, hL⟩ : ∃ L, L = pseudoL f t p n := ⟨_, rfl⟩
  rw [← hL] at HL ⊢
  clear hL h0 h1 h2 h3
  go_enter Try.func104, Try.ntmps104
  go_wp2_with fail
  refine (K0.out _).mono ?_
  rintro e w1 ⟨rfl, o1, b1⟩
  have O1 := Lib.hid o1
  have B1 := Lib.hid b1
  clear o1 b1 K0
  go_wp2_with fail
  refine (K1.out _).mono ?_
  rintro e w2 ⟨rfl, o2, b2⟩
  have O2 := Lib.hid (O1.out.below b2)
  have R2 := Lib.hid o2.rd
  have B2 := Lib.hid (B1.out.trans (b2.mono B1.out.size))
  clear o2 b2 K1 O1 B1
  go_wp2_with (first
    | (at_builtin; have q := O3; clear q; refine append_bytes _ rfl (.tmp 15) (.tmp 18) rfl w.heap.size _ _ _ _ rfl O3.out _ _ _ _ rfl L3.out.rd B3.out.size (by omega) ?_; intro a4 c4 w4 o4 g4; have O4 := Lib.hid o4; have B4 := Lib.hid (B3.out.grown g4 B3.out.size (fun k e => own_blk O3.out k e)); clear o4 g4 O3 B3 L3)
    | (at_builtin; refine append_bytes _ rfl (.tmp 11) (.tmp 13) rfl w.heap.size _ _ _ _ rfl O2.out _ _ _ _ rfl R2.out B2.out.size (by omega) ?_; intro a3 c3 w3 o3 g3; have O3 := Lib.hid (o3.alloc (.cells #[.int .u8 0, .int .u8 p] 5)); have B3' := B2.out.grown g3 B2.out.size (fun k e => own_blk O2.out k e); have B3 := Lib.hid (B3'.alloc B3'.size (.cells #[.int .u8 0, .int .u8 p] 5)); have L3 := Lib.hid (LB.out w3); clear o3 g3 B3' O2 R2 B2))
  refine (K2.out _).mono ?_
  rintro e w5 ⟨rfl, o5, b5⟩
  have O5 := Lib.hid (O4.out.below b5)
  have R5 := Lib.hid o5.rd
  have B5 := Lib.hid (B4.out.trans (b5.mono B4.out.size))
  clear o5 b5 K2 O4 B4 LB
  go_wp2_with (at_builtin; refine append_bytes _ rfl (.tmp 19) (.tmp 21) rfl w.heap.size _ _ _ _ rfl O5.out _ _ _ _ rfl R5.out B5.out.size (by omega) ?_; intro a6 c6 w6 o6 g6; have O6 := Lib.hid o6; have B6 := Lib.hid (B5.out.grown g6 B5.out.size (fun k e => own_blk O5.out k e)); clear o6 g6 O5 R5 B5)
  go_ret
  exact ⟨_, _, _, rfl, by rw [HL.out]; exact O6.out, B6.out⟩

def dgB (df dt : Int) : Bool := inB df 1 65535 && inB dt 1 65535
def dgC (df dt : Int) (n : Nat) : Int := if dgB df dt then (if n ≤ 552 then 0 else 2) else 3
theorem l4Port_any (n : Int) (w : World) : Calls Try.prog 107 #[.int .i64 n] w fun e w' => e = .returned (.bool (inB n 1 65535)) ∧ w = w' := by
  go_enter Try.func107, Try.ntmps107
  go_wp2_with (go_at_call 87; refine (l1In_any _ _ _ _).mono ?_; rintro e w' ⟨rfl, rfl⟩)
  go_ret
  exact ⟨rfl, rfl⟩
def sameD (df dt : Int) (zs : List Int) (df' dt' : Int) (zs' : List Int) : Bool := decide (df = df') && decide (dt = dt') && eqL zs zs'
/-- the sum of bytes behind a pseudo head of theirs -/
def dgSum (f t p : Int) (zs : List Int) : Int := sumV (pseudoL f t p zs.length ++ zs)
set_option maxHeartbeats 1000000 in
theorem l4Sum_any (f t p : Int) (a : Option Addr) (len cap : Nat) (zs : List Int) (w : World) (hr : Rd w a len cap zs) (h0 : 0 ≤ f ∧ f < 281474976710656) (h1 : 0 ≤ t ∧ t < 281474976710656) (h2 : 0 ≤ p ∧ p ≤ 255) (hl : len ≤ 1000000) :
    Calls Try.prog 74 #[.int .i64 f, .int .i64 t, .int .i64 p, .slice a len cap] w fun e w' => e = .returned (.int .i64 (dgSum f t p zs)) ∧ Below w.heap.size w w' := by
  have K := Lib.hid (fun W => l4Pseudo_any f t p len W h0 h1 h2 (by omega))
  have HR := Lib.hid hr
  have H : Hid (dgSum f t p zs = sumV (pseudoL f t p len ++ zs)) := by unfold Hid dgSum; rw [hr.length]
  have hpl := Lib.hid (pseudoL_len f t p len)
  clear hr h0 h1 h2
  generalize dgSum f t p zs = v at *
  generalize pseudoL f t p len = L at *
  go_enter Try.func74, Try.ntmps74
  go_wp2_with fail
  refine (K.out _).mono ?_
  rintro e w1 ⟨a1, l1, c1, rfl, o1, b1⟩
  obtain rfl : l1 = 12 := o1.length.symm.trans hpl.out
  have O1 := Lib.hid o1
  have B1 := Lib.hid b1
  have R1 := Lib.hid (HR.out.below b1)
  clear o1 b1 K HR
  go_wp2_with (at_builtin; refine append_bytes _ rfl (.tmp 14) (.tmp 15) rfl w.heap.size _ _ _ _ rfl O1.out _ _ _ _ rfl R1.out B1.out.size (by omega) ?_; intro a2 c2 w2 o2 g2; have O2 := Lib.hid o2; have B2 := Lib.hid (B1.out.grown g2 B1.out.size (fun k e => own_blk O1.out k e)); clear o2 g2 O1 R1 B1)
  refine (l1Sum_any _ _ _ _ _ O2.out.rd (by omega)).mono ?_
  rintro e w3 ⟨rfl, rfl⟩
  go_wp2
  go_ret
  exact ⟨ret_i H.out.symm, B2.out⟩
end Go.Proofs.Yteaiemckcepphaa
