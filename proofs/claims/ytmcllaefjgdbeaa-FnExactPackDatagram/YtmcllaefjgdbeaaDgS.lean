/-
  The model's PseudoHead, DatagramFault and SameDatagrams; the sum behind a pseudo head.
-/
import Derived.Test.YtmcllaefjgdbeaaPkP
import Derived.Test.YtmcllaefjgdbeaaCat
import Derived.Test.YtmcllaefjgdbeaaStr
namespace Go.Proofs.Ytmcllaefjgdbeaa
open Go.ChangeShapes Go.WideShapes Go.ChangeAt Go.RowKit

def pseudoL (f t p n : Int) : List Int := be f 4 ++ be t 4 ++ [0, p] ++ be n 2
theorem pseudoL_len (f t p n : Int) : (pseudoL f t p n).length = 12 := by simp [pseudoL, be_len]
def phB (f t p n : Int) : Bool := ipB f && ipB t && inB p 0 255 && inB n 0 65535
def phC (f t p n : Int) : Int := if phB f t p n then 0 else 3
def phP (f t p n : Int) : List Int := if phB f t p n then pseudoL f t p n else []
theorem phB_parts {f t p n : Int} (h : phB f t p n = true) : (0 ≤ f ∧ f < 4294967296) ∧ (0 ≤ t ∧ t < 4294967296) ∧ (0 ≤ p ∧ p ≤ 255) ∧ (0 ≤ n ∧ n < 65536) := by
  simp only [phB, ipB, inB, Bool.and_eq_true, decide_eq_true_eq] at h
  omega
theorem ipB_bd {f : Int} (h : ipB f = true) : 0 ≤ f ∧ f < 4294967296 := by
  simp only [ipB, inB, decide_eq_true_eq] at h
  omega

set_option maxHeartbeats 1000000 in
theorem l4Pseudo_any (f t p n : Int) (w : World) (h0 : 0 ≤ f ∧ f < 281474976710656) (h1 : 0 ≤ t ∧ t < 281474976710656) (h2 : 0 ≤ p ∧ p ≤ 255) (h3 : 0 ≤ n ∧ n < 281474976710656) :
    Calls Try.prog 66 #[.int .i64 f, .int .i64 t, .int .i64 p, .int .i64 n] w (FreshAny w (pseudoL f t p n)) := by
  have K0 := Lib.hid (fun W => l1Pack_lit f 4 4 W rfl h0 (by omega))
  have K1 := Lib.hid (fun W => l1Pack_lit t 4 4 W rfl h1 (by omega))
  have K2 := Lib.hid (fun W => l1Pack_lit n 2 2 W rfl h3 (by omega))
  have u1 := u8_in p h2
  have LB := Lib.hid (fun W => own_litB2 W W.heap.size 0 p (by omega) h2 (Nat.le_refl _))
  have HL : Hid (pseudoL f t p n = be f 4 ++ be t 4 ++ [0, p] ++ be n 2) := rfl
  obtain ⟨L, hL⟩ : ∃ L, L = pseudoL f t p n := ⟨_, rfl⟩
  rw [← hL] at HL ⊢
  clear hL h0 h1 h2 h3
  go_enter Try.func66, Try.ntmps66
  go_wp2_with fail
  refine (K0.out _).mono ?_
  rintro e w1 ⟨rfl, o1, b1⟩
  have O1 := Lib.hid o1
  have B1 := Lib.hid b1
  clear o1 b1 K0
  go_wp2_with fail
  refine (K1.out _).mono ?_
  rintro e w2 ⟨rfl, o2, b2⟩
  have O2 := Lib.hid (O1.out.below b2)
  have R2 := Lib.hid o2.rd
  have B2 := Lib.hid (B1.out.trans (b2.mono B1.out.size))
  clear o2 b2 K1 O1 B1
  go_wp2_with (first
    | (at_builtin; have q := O3; clear q; refine append_bytes _ rfl (.tmp 15) (.tmp 18) rfl w.heap.size _ _ _ _ rfl O3.out _ _ _ _ rfl L3.out.rd B3.out.size (by omega) ?_; intro a4 c4 w4 o4 g4; have O4 := Lib.hid o4; have B4 := Lib.hid (B3.out.grown g4 B3.out.size (fun k e => own_blk O3.out k e)); clear o4 g4 O3 B3 L3)
    | (at_builtin; refine append_bytes _ rfl (.tmp 11) (.tmp 13) rfl w.heap.size _ _ _ _ rfl O2.out _ _ _ _ rfl R2.out B2.out.size (by omega) ?_; intro a3 c3 w3 o3 g3; have O3 := Lib.hid (o3.alloc (.cells #[.int .u8 0, .int .u8 p] 5)); have B3' := B2.out.grown g3 B2.out.size (fun k e => own_blk O2.out k e); have B3 := Lib.hid (B3'.alloc B3'.size (.cells #[.int .u8 0, .int .u8 p] 5)); have L3 := Lib.hid (LB.out w3); clear o3 g3 B3' O2 R2 B2))
  refine (K2.out _).mono ?_
  rintro e w5 ⟨rfl, o5, b5⟩
  have O5 := Lib.hid (O4.out.below b5)
  have R5 := Lib.hid o5.rd
  have B5 := Lib.hid (B4.out.trans (b5.mono B4.out.size))
  clear o5 b5 K2 O4 B4 LB
  go_wp2_with (at_builtin; refine append_bytes _ rfl (.tmp 19) (.tmp 21) rfl w.heap.size _ _ _ _ rfl O5.out _ _ _ _ rfl R5.out B5.out.size (by omega) ?_; intro a6 c6 w6 o6 g6; have O6 := Lib.hid o6; have B6 := Lib.hid (B5.out.grown g6 B5.out.size (fun k e => own_blk O5.out k e)); clear o6 g6 O5 R5 B5)
  go_ret
  exact ⟨_, _, _, rfl, by rw [HL.out]; exact O6.out, B6.out⟩

set_option maxHeartbeats 1000000 in
theorem specPseudoHead (f t p n : Int) (w : World) :
    Calls Try.prog 20 #[.int .i64 f, .int .i64 t, .int .i64 p, .int .i64 n] w (Packed w (phC f t p n) (phP f t p n)) := by
  have B0 := Lib.hid ((Below.refl w.heap.size w).alloc (Nat.le_refl _) (.cells #[.int .i64 0, .slice none 0 0] 29))
  have R0 := Lib.hid (Box.new w 29 #[.int .i64 0, .slice none 0 0])
  have H : Hid (phB f t p n = (ipB f && ipB t && inB p 0 255 && inB n 0 65535)) := rfl
  unfold phC phP
  cases hk : phB f t p n with
  | true =>
    obtain ⟨h0, h1, h2, h3⟩ := phB_parts hk
    have K := Lib.hid (fun W => l4Pseudo_any f t p n W (by omega) (by omega) h2 (by omega))
    have m := H.out
    rw [hk] at m
    have m' := m.symm
    simp only [Bool.and_eq_true] at m'
    obtain ⟨⟨⟨m0, m1⟩, m2⟩, m3⟩ := m'
    simp only [if_true]
    generalize pseudoL f t p n = L at *
    clear h0 h1 h2 h3 hk H m
    go_enter Try.func20, Try.ntmps20
    go_wp2_with (first | (go_at_call 65; refine (l1In_any _ _ _ _).mono ?_; rintro e w' ⟨rfl, rfl⟩) | (go_at_call 49; refine (l2Ip_any _ _).mono ?_; rintro e w' ⟨rfl, rfl⟩))
    refine (K.out _).mono ?_
    rintro e w1 ⟨a1, l1, c1, rfl, o1, b1⟩
    have R1 := R0.out.below b1 R0.out.lt
    obtain ⟨_, r0, r1⟩ := R1.two
    have f0 := R1.frozen 0
    have f1 := R1.frozen 1
    have B1 := Lib.hid (B0.out.trans (b1.mono B0.out.size))
    have O1 := Lib.hid (o1.rebase B0.out.size)
    have hx : Hid (∀ x, a1 = some x → ¬ x.block = w.heap.size) := fun x hx e => by
      have := (o1.lt x hx).1
      have := R0.out.lt
      omega
    clear b1 o1 R1 R0 B0
    go_wp2
    refine bodyPost_ret (v := .agg #[.int .i64 0, .slice a1 l1 c1]) (by simp [results, Try.results20, go_sem, r0, r1]) rfl ⟨_, _, _, rfl, ?_, (B1.out.setCell (Nat.le_refl _) _).setCell (Nat.le_refl _) _⟩
    exact (O1.out.setOther _ _ hx.out).setOther _ _ hx.out
  | false =>
    rw [hk] at H
    clear hk
    simp only [Bool.false_eq_true, if_false]
    cases m0 : ipB f
    case' true => cases m1 : ipB t
    case' true.true => cases m2 : inB p 0 255
    case' true.true.true => cases m3 : inB n 0 65535
    case' true.true.true.true => exact absurd H.out (by simp [m0, m1, m2, m3])
    all_goals
      clear H
      go_enter Try.func20, Try.ntmps20
      go_wp2_with (first | (go_at_call 65; refine (l1In_any _ _ _ _).mono ?_; rintro e w' ⟨rfl, rfl⟩) | (go_at_call 49; refine (l2Ip_any _ _).mono ?_; rintro e w' ⟨rfl, rfl⟩))
      exact bodyPost_ret (v := .agg #[.int .i64 3, .slice none 0 0]) (by simp [results, Try.results20, go_sem]) rfl ⟨none, 0, 0, rfl, Own.nil _ _, (Below.refl _ _).alloc (Nat.le_refl _) _⟩

def dgB (df dt : Int) : Bool := inB df 1 65535 && inB dt 1 65535
def dgC (df dt : Int) (n : Nat) : Int := if dgB df dt then (if n ≤ 552 then 0 else 2) else 3
theorem l4Port_any (n : Int) (w : World) : Calls Try.prog 68 #[.int .i64 n] w fun e w' => e = .returned (.bool (inB n 1 65535)) ∧ w = w' := by
  go_enter Try.func68, Try.ntmps68
  go_wp2_with (go_at_call 65; refine (l1In_any _ _ _ _).mono ?_; rintro e w' ⟨rfl, rfl⟩)
  go_ret
  exact ⟨rfl, rfl⟩
set_option maxHeartbeats 2000000 in
theorem specDatagramFault (df dt : Int) (a : Option Addr) (len cap : Nat) (w : World) :
    Calls Try.prog 23 #[.agg #[.int .i64 df, .int .i64 dt, .slice a len cap]] w fun e w' => e = .returned (.int .i64 (dgC df dt len)) ∧ Below w.heap.size w w' := by
  have H : Hid (dgC df dt len = if inB df 1 65535 && inB dt 1 65535 then (if len ≤ 552 then 0 else 2) else 3) := rfl
  generalize dgC df dt len = c at *
  cases m0 : inB df 1 65535
  case' true => cases m1 : inB dt 1 65535
  case' true.true => rcases Nat.lt_or_ge 552 len with hl | hl
  case' true.true.inl => have hl' : ¬ len ≤ 552 := Nat.not_le.2 hl
  case' true.true.inr => have hl' : len ≤ 552 := hl
  all_goals
    go_enter Try.func23, Try.ntmps23
    go_wp2_with (go_at_call 68; refine (l4Port_any _ _).mono ?_; rintro e w' ⟨rfl, rfl⟩)
    go_ret
    exact ⟨ret_i (by rw [H.out]; simp [*]), (Below.refl _ _).alloc (Nat.le_refl _) _⟩

def sameD (df dt : Int) (zs : List Int) (df' dt' : Int) (zs' : List Int) : Bool := decide (df = df') && decide (dt = dt') && eqL zs zs'
set_option maxHeartbeats 1000000 in
theorem specSameDatagrams (df dt : Int) (a : Option Addr) (len cap : Nat) (zs : List Int) (df' dt' : Int) (a' : Option Addr) (len' cap' : Nat) (zs' : List Int) (w : World) (hr : Rd w a len cap zs) (hr' : Rd w a' len' cap' zs') :
    Calls Try.prog 24 #[.agg #[.int .i64 df, .int .i64 dt, .slice a len cap], .agg #[.int .i64 df', .int .i64 dt', .slice a' len' cap']] w fun e w' => e = .returned (.bool (sameD df dt zs df' dt' zs')) ∧ Below w.heap.size w w' := by
  have B0 := Lib.hid (((Below.refl w.heap.size w).alloc (Nat.le_refl _) (.cells #[.int .i64 df, .int .i64 dt, .slice a len cap] 25)).alloc (by simp) (.cells #[.int .i64 df', .int .i64 dt', .slice a' len' cap'] 25))
  have c1 := conv_rd (hr.below B0.out)
  have c2 := conv_rd (hr'.below B0.out)
  have H : Hid (sameD df dt zs df' dt' zs' = ((df == df') && (dt == dt') && eqL zs zs')) := rfl
  have hs : ((strOfNums zs).toList == (strOfNums zs').toList) = eqL zs zs' := by
    unfold eqL
    by_cases h3 : zs = zs'
    · subst h3; simp
    · rw [str_ne hr.b8 hr'.b8 h3]; simp [h3]
  clear hr hr'
  generalize sameD df dt zs df' dt' zs' = v at *
  generalize strOfNums zs = s at *
  generalize strOfNums zs' = s' at *
  generalize eqL zs zs' = q at *
  cases m0 : (df == df')
  case' true => cases m1 : (dt == dt')
  all_goals
    go_enter Try.func24, Try.ntmps24
    go_wp2
    go_ret
    exact ⟨ret_b (by rw [H.out]; simp [*]), B0.out⟩

/-- the sum of bytes behind a pseudo head of theirs -/
def dgSum (f t p : Int) (zs : List Int) : Int := sumV (pseudoL f t p zs.length ++ zs)
set_option maxHeartbeats 1000000 in
theorem l4Sum_any (f t p : Int) (a : Option Addr) (len cap : Nat) (zs : List Int) (w : World) (hr : Rd w a len cap zs) (h0 : 0 ≤ f ∧ f < 281474976710656) (h1 : 0 ≤ t ∧ t < 281474976710656) (h2 : 0 ≤ p ∧ p ≤ 255) (hl : len ≤ 1000000) :
    Calls Try.prog 63 #[.int .i64 f, .int .i64 t, .int .i64 p, .slice a len cap] w fun e w' => e = .returned (.int .i64 (dgSum f t p zs)) ∧ Below w.heap.size w w' := by
  have K := Lib.hid (fun W => l4Pseudo_any f t p len W h0 h1 h2 (by omega))
  have HR := Lib.hid hr
  have H : Hid (dgSum f t p zs = sumV (pseudoL f t p len ++ zs)) := by unfold Hid dgSum; rw [hr.length]
  have hpl := Lib.hid (pseudoL_len f t p len)
  clear hr h0 h1 h2
  generalize dgSum f t p zs = v at *
  generalize pseudoL f t p len = L at *
  go_enter Try.func63, Try.ntmps63
  go_wp2_with fail
  refine (K.out _).mono ?_
  rintro e w1 ⟨a1, l1, c1, rfl, o1, b1⟩
  obtain rfl : l1 = 12 := o1.length.symm.trans hpl.out
  have O1 := Lib.hid o1
  have B1 := Lib.hid b1
  have R1 := Lib.hid (HR.out.below b1)
  clear o1 b1 K HR
  go_wp2_with (at_builtin; refine append_bytes _ rfl (.tmp 14) (.tmp 15) rfl w.heap.size _ _ _ _ rfl O1.out _ _ _ _ rfl R1.out B1.out.size (by omega) ?_; intro a2 c2 w2 o2 g2; have O2 := Lib.hid o2; have B2 := Lib.hid (B1.out.grown g2 B1.out.size (fun k e => own_blk O1.out k e)); clear o2 g2 O1 R1 B1)
  refine (l1Sum_any _ _ _ _ _ O2.out.rd (by omega)).mono ?_
  rintro e w3 ⟨rfl, rfl⟩
  go_wp2
  go_ret
  exact ⟨ret_i H.out.symm, B2.out⟩
end Go.Proofs.Ytmcllaefjgdbeaa
