/-
  PackPacket and PackEcho of the model.
  The model's PseudoHead, DatagramFault and SameDatagrams; the sum behind a pseudo head.
  SameFrames of the model.
  The law FnExactPackFrame returns true, where the program's PackFrame answers as the model's does.
  The law FnExactSameFrames returns true, where the program's SameFrames answers as the model's does.
  bytes.Equal, and SameFrames of the program.
  ReadFrame of the model.
  The law FnExactReadFrame returns true, where the program's ReadFrame answers as the model's does.
  Bytes copied into an array that lies in a block of cells; contracts of the program's addresses as arrays of bytes.
  The helpers of the laws over Datagram, and the exact laws of its functions, where model and program answer the same.
  DatagramFault and SameDatagrams of the program, and their laws.
  The exact law of PseudoHead, where model and program answer the same.
  PseudoHead of the program and its law; withPseudoHead.
  PackDatagram of the model.
  SealSum of the model, and of the program, answer by one and the same function.
-/
import Derived.Test.YtmcllaefjgdbeaaExactReadDatagramM0
import Derived.Deep.RegionLaw
import Derived.Laws.Tables
import Derived.WalkSpells
import Derived.Deep.RegionWith
import Derived.Laws.CopyOwn
namespace Go.Proofs.Ytmcllaefjgdbeaa
open Go.ChangeShapes Go.WideShapes Go.ChangeAt Go.RowKit

/-- the 20 bytes of a packet's head, ahead of the sum -/
def packH (kf kt kp kl : Int) (n : Nat) : List Int := [69, 0] ++ be (20 + n) 2 ++ [0, 0, 64, 0, kl, kp, 0, 0] ++ be kf 4 ++ be kt 4
def packL (kf kt kp kl : Int) (zs : List Int) : List Int := sealB (packH kf kt kp kl zs.length) 10 ++ zs
theorem packH_len (kf kt kp kl : Int) (n : Nat) : (packH kf kt kp kl n).length = 20 := by simp [packH, be_len]

theorem own_litB2 (w : World) (base : Nat) (x y : Int) (hx : 0 ≤ x ∧ x ≤ 255) (hy : 0 ≤ y ∧ y ≤ 255) (hb : base ≤ w.heap.size) : Own (w.alloc (.cells #[.int .u8 x, .int .u8 y] 5)) base (some ⟨w.heap.size, 0, none⟩) 2 2 [x, y] :=
  ⟨World.ownsRow_lit w #[.int .u8 x, .int .u8 y] 2 hb (by unfold maxLen; omega) rfl, by intro n hn; simp at hn; omega⟩
theorem own_litB8 (w : World) (base : Nat) (x y : Int) (hx : 0 ≤ x ∧ x ≤ 255) (hy : 0 ≤ y ∧ y ≤ 255) (hb : base ≤ w.heap.size) : Own (w.alloc (.cells #[.int .u8 0, .int .u8 0, .int .u8 64, .int .u8 0, .int .u8 x, .int .u8 y, .int .u8 0, .int .u8 0] 5)) base (some ⟨w.heap.size, 0, none⟩) 8 8 [0, 0, 64, 0, x, y, 0, 0] :=
  ⟨World.ownsRow_lit w #[.int .u8 0, .int .u8 0, .int .u8 64, .int .u8 0, .int .u8 x, .int .u8 y, .int .u8 0, .int .u8 0] 8 hb (by unfold maxLen; omega) rfl, by intro n hn; simp at hn; omega⟩
theorem u8_in (x : Int) (h : 0 ≤ x ∧ x ≤ 255) : IntKind.u8.wrap x = x := by
  rw [IntKind.wrap_u8]; omega

def packP (kf kt kp kl : Int) (zs : List Int) : List Int := if packC kf kt kp kl zs.length = 0 then packL kf kt kp kl zs else []
theorem packC_parts {kf kt kp kl : Int} {n : Nat} (h : packC kf kt kp kl n = 0) : (0 ≤ kf ∧ kf < 4294967296) ∧ (0 ≤ kt ∧ kt < 4294967296) ∧ (0 ≤ kp ∧ kp ≤ 255) ∧ (1 ≤ kl ∧ kl ≤ 255) ∧ n ≤ 560 := by
  unfold packC at h
  split at h
  · rename_i hk
    split at h
    · simp only [packB, ipB, inB, Bool.and_eq_true, decide_eq_true_eq] at hk
      omega
    · omega
  · omega
theorem packP_len (kf kt kp kl : Int) (zs : List Int) : (packP kf kt kp kl zs).length ≤ 700 := by
  unfold packP
  split
  · rename_i h
    have := (packC_parts h).2.2.2.2
    rw [packL, List.length_append, sealB_len, packH_len]
    omega
  · simp

end Go.Proofs.Ytmcllaefjgdbeaa

namespace Go.Proofs.Ytmcllaefjgdbeaa
open Go.ChangeShapes Go.WideShapes Go.ChangeAt Go.RowKit

def pseudoL (f t p n : Int) : List Int := be f 4 ++ be t 4 ++ [0, p] ++ be n 2
theorem pseudoL_len (f t p n : Int) : (pseudoL f t p n).length = 12 := by simp [pseudoL, be_len]
def phB (f t p n : Int) : Bool := ipB f && ipB t && inB p 0 255 && inB n 0 65535
def phC (f t p n : Int) : Int := if phB f t p n then 0 else 3
def phP (f t p n : Int) : List Int := if phB f t p n then pseudoL f t p n else []
theorem phB_parts {f t p n : Int} (h : phB f t p n = true) : (0 ≤ f ∧ f < 4294967296) ∧ (0 ≤ t ∧ t < 4294967296) ∧ (0 ≤ p ∧ p ≤ 255) ∧ (0 ≤ n ∧ n < 65536) := by
  simp only [phB, ipB, inB, Bool.and_eq_true, decide_eq_true_eq] at h
  omega
theorem ipB_bd {f : Int} (h : ipB f = true) : 0 ≤ f ∧ f < 4294967296 := by
  simp only [ipB, inB, decide_eq_true_eq] at h
  omega

set_option maxHeartbeats 1000000 in
theorem l4Pseudo_any (f t p n : Int) (w : World) (h0 : 0 ≤ f ∧ f < 281474976710656) (h1 : 0 ≤ t ∧ t < 281474976710656) (h2 : 0 ≤ p ∧ p ≤ 255) (h3 : 0 ≤ n ∧ n < 281474976710656) :
    Calls Try.prog 66 #[.int .i64 f, .int .i64 t, .int .i64 p, .int .i64 n] w (FreshAny w (pseudoL f t p n)) := by
  have K0 := Lib.hid (fun W => l1Pack_lit f 4 4 W rfl h0 (by omega))
  have K1 := Lib.hid (fun W => l1Pack_lit t 4 4 W rfl h1 (by omega))
  have K2 := Lib.hid (fun W => l1Pack_lit n 2 2 W rfl h3 (by omega))
  have u1 := u8_in p h2
  have LB := Lib.hid (fun W => own_litB2 W W.heap.size 0 p (by omega) h2 (Nat.le_refl _))
  have HL : Hid (pseudoL f t p n = be f 4 ++ be t 4 ++ [0, p] ++ be n 2) := rfl
  obtain ⟨L, hL⟩ : ∃ L, L = pseudoL f t p n := ⟨_, rfl⟩
  rw [← hL] at HL ⊢
  clear hL h0 h1 h2 h3
  go_enter Try.func66, Try.ntmps66
  go_wp2_with fail
  refine (K0.out _).mono ?_
  rintro e w1 ⟨rfl, o1, b1⟩
  have O1 := Lib.hid o1
  have B1 := Lib.hid b1
  clear o1 b1 K0
  go_wp2_with fail
  refine (K1.out _).mono ?_
  rintro e w2 ⟨rfl, o2, b2⟩
  have O2 := Lib.hid (O1.out.below b2)
  have R2 := Lib.hid o2.rd
  have B2 := Lib.hid (B1.out.trans (b2.mono B1.out.size))
  clear o2 b2 K1 O1 B1
  go_wp2_with (first
    | (at_builtin; have q := O3; clear q; refine append_bytes _ rfl (.tmp 15) (.tmp 18) rfl w.heap.size _ _ _ _ rfl O3.out _ _ _ _ rfl L3.out.rd B3.out.size (by omega) ?_; intro a4 c4 w4 o4 g4; have O4 := Lib.hid o4; have B4 := Lib.hid (B3.out.grown g4 B3.out.size (fun k e => own_blk O3.out k e)); clear o4 g4 O3 B3 L3)
    | (at_builtin; refine append_bytes _ rfl (.tmp 11) (.tmp 13) rfl w.heap.size _ _ _ _ rfl O2.out _ _ _ _ rfl R2.out B2.out.size (by omega) ?_; intro a3 c3 w3 o3 g3; have O3 := Lib.hid (o3.alloc (.cells #[.int .u8 0, .int .u8 p] 5)); have B3' := B2.out.grown g3 B2.out.size (fun k e => own_blk O2.out k e); have B3 := Lib.hid (B3'.alloc B3'.size (.cells #[.int .u8 0, .int .u8 p] 5)); have L3 := Lib.hid (LB.out w3); clear o3 g3 B3' O2 R2 B2))
  refine (K2.out _).mono ?_
  rintro e w5 ⟨rfl, o5, b5⟩
  have O5 := Lib.hid (O4.out.below b5)
  have R5 := Lib.hid o5.rd
  have B5 := Lib.hid (B4.out.trans (b5.mono B4.out.size))
  clear o5 b5 K2 O4 B4 LB
  go_wp2_with (at_builtin; refine append_bytes _ rfl (.tmp 19) (.tmp 21) rfl w.heap.size _ _ _ _ rfl O5.out _ _ _ _ rfl R5.out B5.out.size (by omega) ?_; intro a6 c6 w6 o6 g6; have O6 := Lib.hid o6; have B6 := Lib.hid (B5.out.grown g6 B5.out.size (fun k e => own_blk O5.out k e)); clear o6 g6 O5 R5 B5)
  go_ret
  exact ⟨_, _, _, rfl, by rw [HL.out]; exact O6.out, B6.out⟩

set_option maxHeartbeats 1000000 in
theorem specPseudoHead (f t p n : Int) (w : World) :
    Calls Try.prog 20 #[.int .i64 f, .int .i64 t, .int .i64 p, .int .i64 n] w (Packed w (phC f t p n) (phP f t p n)) := by
  have B0 := Lib.hid ((Below.refl w.heap.size w).alloc (Nat.le_refl _) (.cells #[.int .i64 0, .slice none 0 0] 29))
  have R0 := Lib.hid (Box.new w 29 #[.int .i64 0, .slice none 0 0])
  have H : Hid (phB f t p n = (ipB f && ipB t && inB p 0 255 && inB n 0 65535)) := rfl
  unfold phC phP
  cases hk : phB f t p n with
  | true =>
    obtain ⟨h0, h1, h2, h3⟩ := phB_parts hk
    have K := Lib.hid (fun W => l4Pseudo_any f t p n W (by omega) (by omega) h2 (by omega))
    have m := H.out
    rw [hk] at m
    have m' := m.symm
    simp only [Bool.and_eq_true] at m'
    obtain ⟨⟨⟨m0, m1⟩, m2⟩, m3⟩ := m'
    simp only [if_true]
    generalize pseudoL f t p n = L at *
    clear h0 h1 h2 h3 hk H m
    go_enter Try.func20, Try.ntmps20
    go_wp2_with (first | (go_at_call 65; refine (l1In_any _ _ _ _).mono ?_; rintro e w' ⟨rfl, rfl⟩) | (go_at_call 49; refine (l2Ip_any _ _).mono ?_; rintro e w' ⟨rfl, rfl⟩))
    refine (K.out _).mono ?_
    rintro e w1 ⟨a1, l1, c1, rfl, o1, b1⟩
    have R1 := R0.out.below b1 R0.out.lt
    obtain ⟨_, r0, r1⟩ := R1.two
    have f0 := R1.frozen 0
    have f1 := R1.frozen 1
    have B1 := Lib.hid (B0.out.trans (b1.mono B0.out.size))
    have O1 := Lib.hid (o1.rebase B0.out.size)
    have hx : Hid (∀ x, a1 = some x → ¬ x.block = w.heap.size) := fun x hx e => by
      have := (o1.lt x hx).1
      have := R0.out.lt
      omega
    clear b1 o1 R1 R0 B0
    go_wp2
    refine bodyPost_ret (v := .agg #[.int .i64 0, .slice a1 l1 c1]) (by simp [results, Try.results20, go_sem, r0, r1]) rfl ⟨_, _, _, rfl, ?_, (B1.out.setCell (Nat.le_refl _) _).setCell (Nat.le_refl _) _⟩
    exact (O1.out.setOther _ _ hx.out).setOther _ _ hx.out
  | false =>
    rw [hk] at H
    clear hk
    simp only [Bool.false_eq_true, if_false]
    cases m0 : ipB f
    case' true => cases m1 : ipB t
    case' true.true => cases m2 : inB p 0 255
    case' true.true.true => cases m3 : inB n 0 65535
    case' true.true.true.true => exact absurd H.out (by simp [m0, m1, m2, m3])
    all_goals
      clear H
      go_enter Try.func20, Try.ntmps20
      go_wp2_with (first | (go_at_call 65; refine (l1In_any _ _ _ _).mono ?_; rintro e w' ⟨rfl, rfl⟩) | (go_at_call 49; refine (l2Ip_any _ _).mono ?_; rintro e w' ⟨rfl, rfl⟩))
      exact bodyPost_ret (v := .agg #[.int .i64 3, .slice none 0 0]) (by simp [results, Try.results20, go_sem]) rfl ⟨none, 0, 0, rfl, Own.nil _ _, (Below.refl _ _).alloc (Nat.le_refl _) _⟩

def dgB (df dt : Int) : Bool := inB df 1 65535 && inB dt 1 65535
def dgC (df dt : Int) (n : Nat) : Int := if dgB df dt then (if n ≤ 552 then 0 else 2) else 3
theorem l4Port_any (n : Int) (w : World) : Calls Try.prog 68 #[.int .i64 n] w fun e w' => e = .returned (.bool (inB n 1 65535)) ∧ w = w' := by
  go_enter Try.func68, Try.ntmps68
  go_wp2_with (go_at_call 65; refine (l1In_any _ _ _ _).mono ?_; rintro e w' ⟨rfl, rfl⟩)
  go_ret
  exact ⟨rfl, rfl⟩
set_option maxHeartbeats 2000000 in
theorem specDatagramFault (df dt : Int) (a : Option Addr) (len cap : Nat) (w : World) :
    Calls Try.prog 23 #[.agg #[.int .i64 df, .int .i64 dt, .slice a len cap]] w fun e w' => e = .returned (.int .i64 (dgC df dt len)) ∧ Below w.heap.size w w' := by
  have H : Hid (dgC df dt len = if inB df 1 65535 && inB dt 1 65535 then (if len ≤ 552 then 0 else 2) else 3) := rfl
  generalize dgC df dt len = c at *
  cases m0 : inB df 1 65535
  case' true => cases m1 : inB dt 1 65535
  case' true.true => rcases Nat.lt_or_ge 552 len with hl | hl
  case' true.true.inl => have hl' : ¬ len ≤ 552 := Nat.not_le.2 hl
  case' true.true.inr => have hl' : len ≤ 552 := hl
  all_goals
    go_enter Try.func23, Try.ntmps23
    go_wp2_with (go_at_call 68; refine (l4Port_any _ _).mono ?_; rintro e w' ⟨rfl, rfl⟩)
    go_ret
    exact ⟨ret_i (by rw [H.out]; simp [*]), (Below.refl _ _).alloc (Nat.le_refl _) _⟩

def sameD (df dt : Int) (zs : List Int) (df' dt' : Int) (zs' : List Int) : Bool := decide (df = df') && decide (dt = dt') && eqL zs zs'
set_option maxHeartbeats 1000000 in
theorem specSameDatagrams (df dt : Int) (a : Option Addr) (len cap : Nat) (zs : List Int) (df' dt' : Int) (a' : Option Addr) (len' cap' : Nat) (zs' : List Int) (w : World) (hr : Rd w a len cap zs) (hr' : Rd w a' len' cap' zs') :
    Calls Try.prog 24 #[.agg #[.int .i64 df, .int .i64 dt, .slice a len cap], .agg #[.int .i64 df', .int .i64 dt', .slice a' len' cap']] w fun e w' => e = .returned (.bool (sameD df dt zs df' dt' zs')) ∧ Below w.heap.size w w' := by
  have B0 := Lib.hid (((Below.refl w.heap.size w).alloc (Nat.le_refl _) (.cells #[.int .i64 df, .int .i64 dt, .slice a len cap] 25)).alloc (by simp) (.cells #[.int .i64 df', .int .i64 dt', .slice a' len' cap'] 25))
  have c1 := conv_rd (hr.below B0.out)
  have c2 := conv_rd (hr'.below B0.out)
  have H : Hid (sameD df dt zs df' dt' zs' = ((df == df') && (dt == dt') && eqL zs zs')) := rfl
  have hs : ((strOfNums zs).toList == (strOfNums zs').toList) = eqL zs zs' := by
    unfold eqL
    by_cases h3 : zs = zs'
    · subst h3; simp
    · rw [str_ne hr.b8 hr'.b8 h3]; simp [h3]
  clear hr hr'
  generalize sameD df dt zs df' dt' zs' = v at *
  generalize strOfNums zs = s at *
  generalize strOfNums zs' = s' at *
  generalize eqL zs zs' = q at *
  cases m0 : (df == df')
  case' true => cases m1 : (dt == dt')
  all_goals
    go_enter Try.func24, Try.ntmps24
    go_wp2
    go_ret
    exact ⟨ret_b (by rw [H.out]; simp [*]), B0.out⟩

/-- the sum of bytes behind a pseudo head of theirs -/
def dgSum (f t p : Int) (zs : List Int) : Int := sumV (pseudoL f t p zs.length ++ zs)
set_option maxHeartbeats 1000000 in
theorem l4Sum_any (f t p : Int) (a : Option Addr) (len cap : Nat) (zs : List Int) (w : World) (hr : Rd w a len cap zs) (h0 : 0 ≤ f ∧ f < 281474976710656) (h1 : 0 ≤ t ∧ t < 281474976710656) (h2 : 0 ≤ p ∧ p ≤ 255) (hl : len ≤ 1000000) :
    Calls Try.prog 63 #[.int .i64 f, .int .i64 t, .int .i64 p, .slice a len cap] w fun e w' => e = .returned (.int .i64 (dgSum f t p zs)) ∧ Below w.heap.size w w' := by
  have K := Lib.hid (fun W => l4Pseudo_any f t p len W h0 h1 h2 (by omega))
  have HR := Lib.hid hr
  have H : Hid (dgSum f t p zs = sumV (pseudoL f t p len ++ zs)) := by unfold Hid dgSum; rw [hr.length]
  have hpl := Lib.hid (pseudoL_len f t p len)
  clear hr h0 h1 h2
  generalize dgSum f t p zs = v at *
  generalize pseudoL f t p len = L at *
  go_enter Try.func63, Try.ntmps63
  go_wp2_with fail
  refine (K.out _).mono ?_
  rintro e w1 ⟨a1, l1, c1, rfl, o1, b1⟩
  obtain rfl : l1 = 12 := o1.length.symm.trans hpl.out
  have O1 := Lib.hid o1
  have B1 := Lib.hid b1
  have R1 := Lib.hid (HR.out.below b1)
  clear o1 b1 K HR
  go_wp2_with (at_builtin; refine append_bytes _ rfl (.tmp 14) (.tmp 15) rfl w.heap.size _ _ _ _ rfl O1.out _ _ _ _ rfl R1.out B1.out.size (by omega) ?_; intro a2 c2 w2 o2 g2; have O2 := Lib.hid o2; have B2 := Lib.hid (B1.out.grown g2 B1.out.size (fun k e => own_blk O1.out k e)); clear o2 g2 O1 R1 B1)
  refine (l1Sum_any _ _ _ _ _ O2.out.rd (by omega)).mono ?_
  rintro e w3 ⟨rfl, rfl⟩
  go_wp2
  go_ret
  exact ⟨ret_i H.out.symm, B2.out⟩
end Go.Proofs.Ytmcllaefjgdbeaa

namespace Go.Proofs.Ytmcllaefjgdbeaa
open Go.ChangeShapes Go.WideShapes Go.ChangeAt Go.RowKit

def sameB (to fr kd : Int) (zs : List Int) (to' fr' kd' : Int) (zs' : List Int) : Bool := decide (to = to') && decide (fr = fr') && decide (kd = kd') && eqL zs zs'

end Go.Proofs.Ytmcllaefjgdbeaa

namespace Go.Proofs.Ytmcllaefjgdbeaa
open Go.ChangeShapes Go.WideShapes Go.ChangeAt Go.RowKit

theorem own_rows {w : World} {b : Nat} {a : Option Addr} {l c : Nat} {z : List Int} (h : Own w b a l c z) (B : Nat) (hB : B ≤ b) : ∀ k, (Value.slice a l c).ownBlock = some k → B ≤ k := by
  intro k e
  cases a with
  | none => simp [Value.ownBlock] at e
  | some y => simp [Value.ownBlock] at e; have := h.lt y rfl; omega
theorem ne_of_gt_own {w w' : World} {b b' : Nat} {a a' : Option Addr} {l c l' c' : Nat} {z z' : List Int} (h : Own w b a l c z) (h' : Own w' b' a' l' c' z') (hle : w'.heap.size ≤ b) :
    ∀ x, a = some x → some x.block ≠ (Value.slice a' l' c').ownBlock := fun x hx => ne_block h' _ (.inr (Nat.le_trans hle (h.lt x hx).1))

theorem Box.drewB {w : World} {b : Nat} {t : TypeId} {vs : Array Value} (h : Box w b t vs) : Box w.drew b t vs := h

end Go.Proofs.Ytmcllaefjgdbeaa

namespace Go.Proofs.Ytmcllaefjgdbeaa
open Go.ChangeShapes Go.WideShapes Go.ChangeAt Go.RowKit

end Go.Proofs.Ytmcllaefjgdbeaa

namespace Go.Proofs.Ytmcllaefjgdbeaa
open Go.ChangeShapes Go.WideShapes Go.ChangeAt Go.RowKit

theorem equal_any (a : Option Addr) (len cap : Nat) (zs : List Int) (a' : Option Addr) (len' cap' : Nat) (zs' : List Int) (w : World) (hr : Rd w a len cap zs) (hr' : Rd w a' len' cap' zs') :
    Calls Try.prog 64 #[.slice a len cap, .slice a' len' cap'] w fun e w' => e = .returned (.bool (eqL zs zs')) ∧ w = w' := by
  have c1 := conv_rd hr
  have c2 := conv_rd hr'
  by_cases h3 : zs = zs'
  · subst h3
    have H : Hid (eqL zs zs = true) := by simp [Hid, eqL]
    clear hr hr'
    generalize strOfNums zs = s at *
    go_enter Try.func64, Try.ntmps64
    go_wp2
    go_ret
    exact ⟨ret_b H.out.symm, rfl⟩
  · have H : Hid (eqL zs zs' = false) := by simp [Hid, eqL, h3]
    have h5 := str_ne hr.b8 hr'.b8 h3
    clear hr hr' h3
    generalize strOfNums zs = s at *
    generalize strOfNums zs' = s' at *
    go_enter Try.func64, Try.ntmps64
    go_wp2
    go_ret
    exact ⟨ret_b H.out.symm, rfl⟩

end Go.Proofs.Ytmcllaefjgdbeaa

namespace Go.Proofs.Ytmcllaefjgdbeaa
open Go.ChangeShapes Go.WideShapes Go.ChangeAt Go.RowKit

/-- a frame's result: the code, the numbers, the body of its own -/
def FrameRes (w : World) (c to fr kd : Int) (zs : List Int) (e : Ending) (w' : World) : Prop :=
  ∃ a' l' c', e = .returned (.agg #[.int .i64 c, .int .i64 to, .int .i64 fr, .int .i64 kd, .slice a' l' c']) ∧ Own w' w.heap.size a' l' c' zs ∧ Below w.heap.size w w'
def rfOk (n : Nat) : Bool := decide (14 ≤ n ∧ n ≤ 614)

theorem l1Read_lit (a : Option Addr) (len cap : Nat) (A S : Nat) (x s : Int) (zs : List Int) (w : World) (h : Rd w a len cap zs) (hx : (A : Int) = x) (hs : (S : Int) = s) (hS2 : S ≤ 6) (hA : A + S ≤ len) :
    Calls Try.prog 62 #[.slice a len cap, .int .i64 x, .int .i64 s] w fun e w' => e = .returned (.int .i64 (rdTo zs A S)) ∧ w = w' := by
  subst hx; subst hs
  exact l1Read_any a len cap A S zs w h hS2 hA

theorem Rd.from {w : World} {b off len cap : Nat} {zs : List Int} (h : Rd w (some ⟨b, off, none⟩) len cap zs) (A off' l' c' : Nat) (hA : A ≤ len) (ho : off' = off + A) (hl : l' = len - A) (hc : c' = cap - A) : Rd w (some ⟨b, off', none⟩) l' c' (zs.drop A) := by
  subst ho; subst hl; subst hc
  have hle := h.le
  have hmx := h.max
  have hlen := h.length
  by_cases h0 : len - A = 0
  · exact ⟨by simp; omega, by omega, by omega, b8_drop h.b8 _, by simp, .inl h0⟩
  refine ⟨by simp; omega, by omega, by omega, b8_drop h.b8 _, by simp, .inr ⟨b, off + A, rfl, fun i hi => ?_⟩⟩
  rcases h.cells with h0 | ⟨bb, o, e, hcell⟩
  · omega
  · cases e
    have := hcell (A + i) (by omega)
    rw [Nat.add_assoc, this, List.getD_eq_getElem?_getD, List.getD_eq_getElem?_getD, List.getElem?_drop]

theorem Rd.fromIf {w : World} {b off len cap : Nat} {zs : List Int} (h : Rd w (some ⟨b, off, none⟩) len cap zs) (A : Nat) (hA : A ≤ len) : Rd w (if cap = A then some ⟨b, off, none⟩ else some ⟨b, off + A, none⟩) (len - A) (cap - A) (zs.drop A) := by
  split
  · have hle := h.le
    have hmx := h.max
    have hlen := h.length
    exact ⟨by simp; omega, by omega, by omega, b8_drop h.b8 _, by simp, .inl (by omega)⟩
  · exact h.from A _ _ _ hA rfl rfl rfl

theorem Rd.upto {w : World} {b off len cap : Nat} {zs : List Int} (h : Rd w (some ⟨b, off, none⟩) len cap zs) (n : Nat) (hn : n ≤ len) : Rd w (some ⟨b, off, none⟩) n cap (zs.take n) := by
  have hle := h.le
  have hmx := h.max
  have hlen := h.length
  refine ⟨by simp; omega, by omega, hmx, b8_take h.b8 _, by simp, ?_⟩
  rcases h.cells with h0 | ⟨bb, o, e, hcell⟩
  · exact .inl (by omega)
  · cases e
    refine .inr ⟨b, off, rfl, fun i hi => ?_⟩
    rw [hcell i (by omega), List.getD_eq_getElem?_getD, List.getD_eq_getElem?_getD, List.getElem?_take, if_pos hi]

end Go.Proofs.Ytmcllaefjgdbeaa

namespace Go.Proofs.Ytmcllaefjgdbeaa
open Go.ChangeShapes Go.WideShapes Go.ChangeAt Go.RowKit

end Go.Proofs.Ytmcllaefjgdbeaa

namespace Go.Proofs.Ytmcllaefjgdbeaa
open Go.ChangeShapes Go.WideShapes Go.ChangeAt Go.RowKit

theorem run_copy_box (w : World) (ty : TypeId) (b off dl dc : Nat) (t : TypeId) (vs : Array Value) (hx : Box w b t vs) (hfit : off + dl ≤ vs.size) (s : Option Addr) (ls cs : Nat) (ys : List Int) (hr : Rd w s ls cs ys) (hdl : 0 < dl ∧ dl ≤ ls) (es : List Int) (he : ys.take dl = es) :
    ∃ w', (Builtin.copy_ #[22, 22] ty #[.slice (some ⟨b, off, none⟩) dl dc, .slice s ls cs]).run Try.prog w = .ok (goInt dl) w' ∧ Box w' b t (Go.splice vs.toList off (es.map (.int .u8))).toArray ∧ w.grownBy w' (some b) := by
  have hu := Try.underlying22
  have hsz : (Try.prog.info? 5).map (·.size) = some 1 := by
    obtain ⟨i0, hi, hz0, hz1, hz2⟩ := info_parts Try.infoU8
    rw [hi]; simp [hz1]
  have hl := hr.length
  have hel : es.length = dl := by rw [← he, List.length_take]; omega
  rcases hr.cells with h0 | ⟨bb, o2, rfl, hc⟩
  · omega
  have hsrc : ∀ j v, (es.map (Value.int .u8))[j]? = some v → w.cell? ((⟨bb, o2, none⟩ : Addr).add j) = some v := by
    intro j v hv
    refine map_cells hl hc j v ?_
    rw [← he, List.map_take, List.getElem?_take] at hv
    split at hv
    · exact hv
    · cases hv
  have hrun := run_copy_row (P := Try.prog) w 22 22 ty 5 b off dl dc ⟨bb, o2, none⟩ ls cs vs t (es.map (.int .u8)) hu hsz hx (by rw [List.length_map, hel]; exact (Nat.min_eq_right hdl.2).symm) hsrc (by rw [List.length_map, hel]; exact hfit) (ints_oneCell _ _)
  rw [List.length_map, hel] at hrun
  refine ⟨_, hrun, ?_, ⟨rfl, rfl, rfl, by simp [World.setRow], fun k _ hk => setRow_other w b k _ (fun e => hk (by rw [e]))⟩⟩
  have := setRow_heap w b _ (Go.splice vs.toList off (es.map (.int .u8))).toArray _ _ hx
  unfold Box
  simpa [Go.splice, hel] using this

theorem copyBox_step (w : World) {ops : Array Oper} {o : Oper} {ac : Act} {K : Act → World → Prop} {Q : Exit → Act → World → Prop} {E : Prop} (hgd : o.guard = none) (d s : Operand)
    (ho : o.op = .call { callee := .builtin .copy, args := #[d, s], argTypes := #[22, 22] })
    (b off dl dc : Nat) (t : TypeId) (vs : Array Value) (hx : Box w b t vs) (hd : ac.eval d = .slice (some ⟨b, off, none⟩) dl dc) (hfit : off + dl ≤ vs.size)
    (a : Option Addr) (la ca : Nat) (ys : List Int) (hs : ac.eval s = .slice a la ca) (hr : Rd w a la ca ys) (hdl : 0 < dl ∧ dl ≤ la) (es : List Int) (he : ys.take dl = es)
    (h : ∀ w', Box w' b t (Go.splice vs.toList off (es.map (.int .u8))).toArray → w.grownBy w' (some b) → K (ac.put o.dst (goInt dl)) w') :
    if Region.wanted o (yielded ops ac.tmps) = true then Oper.wp Try.prog o ac w K Q else E := by
  have hw : Region.wanted o (yielded ops ac.tmps) = true := by simp [Region.wanted, hgd]
  rw [if_pos hw]
  obtain ⟨w', hrun, hb, hg⟩ := run_copy_box w o.type b off dl dc t vs hx hfit a la ca ys hr hdl es he
  unfold Oper.wp execOp
  simp only [ho, resolve, invoke, builtin, Sem.run_bind, Sem.run_pure, Result.andThen_ok, List.map_toArray, List.map_cons, List.map_nil, hd, hs, hrun]
  exact h w' hb hg

theorem copyBox_list (w : World) {ops : Array Oper} {rest : List Oper} {o : Oper} {ac : Act} {Q : Exit → Act → World → Prop} (hgd : o.guard = none) (d s : Operand)
    (ho : o.op = .call { callee := .builtin .copy, args := #[d, s], argTypes := #[22, 22] })
    (b off dl dc : Nat) (t : TypeId) (vs : Array Value) (hx : Box w b t vs) (hd : ac.eval d = .slice (some ⟨b, off, none⟩) dl dc) (hfit : off + dl ≤ vs.size)
    (a : Option Addr) (la ca : Nat) (ys : List Int) (hs : ac.eval s = .slice a la ca) (hr : Rd w a la ca ys) (hdl : 0 < dl ∧ dl ≤ la) (es : List Int) (he : ys.take dl = es)
    (h : ∀ w', Box w' b t (Go.splice vs.toList off (es.map (.int .u8))).toArray → w.grownBy w' (some b) → wpList Try.prog ops Q rest (ac.put o.dst (goInt dl)) w') :
    wpList Try.prog ops Q (o :: rest) ac w := by
  refine wpList_plain hgd fun K hK => ?_
  obtain ⟨w', hrun, hb, hg⟩ := run_copy_box w o.type b off dl dc t vs hx hfit a la ca ys hr hdl es he
  unfold Oper.wp execOp
  simp only [ho, resolve, invoke, builtin, Sem.run_bind, Sem.run_pure, Result.andThen_ok, List.map_toArray, List.map_cons, List.map_nil, hd, hs, hrun]
  exact hK _ _ (h w' hb hg)

theorem Box.six {w : World} {b : Nat} {t : TypeId} {x0 x1 x2 x3 x4 x5 : Value} (h : Box w b t #[x0, x1, x2, x3, x4, x5]) : b < w.heap.size ∧ w.cell? ⟨b, 0, none⟩ = some x0 ∧ w.cell? ⟨b, 1, none⟩ = some x1 ∧ w.cell? ⟨b, 2, none⟩ = some x2 ∧ w.cell? ⟨b, 3, none⟩ = some x3 ∧ w.cell? ⟨b, 4, none⟩ = some x4 ∧ w.cell? ⟨b, 5, none⟩ = some x5 := ⟨h.lt, h.cell 0, h.cell 1, h.cell 2, h.cell 3, h.cell 4, h.cell 5⟩
/-- a whole struct stored into its block, as a step of a region that draws its order -/
theorem storeBox_step (w : World) {ops : Array Oper} {o : Oper} {ac : Act} {K : Act → World → Prop} {Q : Exit → Act → World → Prop} {E : Prop} (hgd : o.guard = none) (ty : TypeId) (x y : Operand)
    (ho : o.op = .store ty x y) (b : Nat) (t : TypeId) (vs us : Array Value) (hx : Box w b t vs) (ex : ac.eval x = .pointer (some ⟨b, 0, none⟩)) (ey : ac.eval y = .agg us)
    (hi : (Try.prog.info? ty).map (·.size) = some us.size) (hs : vs.size = us.size) (h1 : us.all (·.oneCell') = true)
    (h : ∀ w', Box w' b t us → w.grownBy w' (some b) → K (ac.put o.dst undef) w') :
    if Region.wanted o (yielded ops ac.tmps) = true then Oper.wp Try.prog o ac w K Q else E := by
  have hw : Region.wanted o (yielded ops ac.tmps) = true := by simp [Region.wanted, hgd]
  rw [if_pos hw]
  refine wp_store_row ty x y ho b us ex ey t vs hx hi hs h1 (h _ (setRow_heap w b _ us _ _ hx) ?_)
  exact ⟨rfl, rfl, rfl, by simp [World.setRow], fun k _ hk => setRow_other w b k _ (fun e => hk (by rw [e]))⟩
theorem storeBox_list (w : World) {ops : Array Oper} {rest : List Oper} {o : Oper} {ac : Act} {Q : Exit → Act → World → Prop} (hgd : o.guard = none) (ty : TypeId) (x y : Operand)
    (ho : o.op = .store ty x y) (b : Nat) (t : TypeId) (vs us : Array Value) (hx : Box w b t vs) (ex : ac.eval x = .pointer (some ⟨b, 0, none⟩)) (ey : ac.eval y = .agg us)
    (hi : (Try.prog.info? ty).map (·.size) = some us.size) (hs : vs.size = us.size) (h1 : us.all (·.oneCell') = true)
    (h : ∀ w', Box w' b t us → w.grownBy w' (some b) → wpList Try.prog ops Q rest (ac.put o.dst undef) w') : wpList Try.prog ops Q (o :: rest) ac w := by
  refine wpList_store_row hgd ty x y ho b us ex ey t vs hx hi hs h1 (h _ (setRow_heap w b _ us _ _ hx) ?_)
  exact ⟨rfl, rfl, rfl, by simp [World.setRow], fun k _ hk => setRow_other w b k _ (fun e => hk (by rw [e]))⟩
theorem fld_br (w : World) (c : Int) (a : Option Addr) (l k : Nat) : (Instr.field 29 (.agg #[.int .i64 c, .slice a l k]) 1).run Try.prog w = .ok (.slice a l k) w := by
  simp [Instr.field, asAgg, go_sem]
theorem fld_ir (w : World) (c v : Int) : (Instr.field 71 (.agg #[.int .i64 c, .int .i64 v]) 1).run Try.prog w = .ok (.int .i64 v) w := by
  simp [Instr.field, asAgg, go_sem]

theorem b8_6 {y0 y1 y2 y3 y4 y5 : Int} {n : Int} {k : Nat} (h : be n k = [y0, y1, y2, y3, y4, y5]) : B8 [y0, y1, y2, y3, y4, y5] := by rw [← h]; exact b8_be k n

end Go.Proofs.Ytmcllaefjgdbeaa

namespace Go.Proofs.Ytmcllaefjgdbeaa
open Go.ChangeShapes Go.WideShapes Go.ChangeAt Go.RowKit

theorem Box.three {w : World} {b : Nat} {t : TypeId} {x0 x1 x2 : Value} (h : Box w b t #[x0, x1, x2]) : b < w.heap.size ∧ w.cell? ⟨b, 0, none⟩ = some x0 ∧ w.cell? ⟨b, 1, none⟩ = some x1 ∧ w.cell? ⟨b, 2, none⟩ = some x2 := ⟨h.lt, h.cell 0, h.cell 1, h.cell 2⟩
theorem szDatagram_t (df dt : Int) (a : Option Addr) (len cap : Nat) (l : Int) (w : World) (h : (len : Int) ≤ l) (hl : l ≤ 1048576) :
    Calls Try.prog 29 #[.agg #[.int .i64 df, .int .i64 dt, .slice a len cap], .int .i64 l] w fun e w' => e = .returned (.int .i64 (l - len)) ∧ Below w.heap.size w w' := by
  have K := Lib.hid (fun W => szByteS_t a len cap l W h hl)
  have e1 : decide (l - len < 0) = false := decide_eq_false (by omega)
  go_enter Try.func29, Try.ntmps29
  go_wp2_with fail
  refine (K.out _).mono ?_
  rintro e w1 ⟨rfl, rfl⟩
  go_wp2
  go_ret
  exact ⟨rfl, (Below.refl _ _).alloc (Nat.le_refl _) _⟩

theorem szDatagram_f (df dt : Int) (a : Option Addr) (len cap : Nat) (l : Int) (w : World) (h : ¬ (len : Int) ≤ l) (h0 : 0 ≤ l) (hl : l ≤ 1048576) (hm : len ≤ maxLen) :
    Calls Try.prog 29 #[.agg #[.int .i64 df, .int .i64 dt, .slice a len cap], .int .i64 l] w fun e w' => e = .returned (.int .i64 (-1)) ∧ Below w.heap.size w w' := by
  have K := Lib.hid (fun W => szByteS_f a len cap l W h h0 hl hm)
  go_enter Try.func29, Try.ntmps29
  go_wp2_with fail
  refine (K.out _).mono ?_
  rintro e w1 ⟨rfl, rfl⟩
  go_wp2
  go_ret
  exact ⟨rfl, (Below.refl _ _).alloc (Nat.le_refl _) _⟩

/-- a frame of these numbers and bytes whose body is of this call's own -/
def DatagramOut (w : World) (df dt : Int) (zs : List Int) (e : Ending) (w' : World) : Prop :=
  ∃ a' l' c', e = .returned (.agg #[.int .i64 df, .int .i64 dt, .slice a' l' c']) ∧ Own w' w.heap.size a' l' c' zs ∧ Below w.heap.size w w'

set_option maxHeartbeats 1000000 in
theorem toDatagram_any (df dt : Int) (a : Option Addr) (len cap : Nat) (zs : List Int) (w : World) (h : Rd w a len cap zs) (hl : len ≤ 1048576) :
    Calls Try.prog 30 #[.agg #[.int .i64 df, .int .i64 dt, .slice a len cap]] w (DatagramOut w df dt zs) := by
  have T := Lib.hid (fun W (hW : Below w.heap.size w W) => toByteS_any a len cap zs W (h.below hW) hl)
  clear h
  have B0 := Lib.hid ((((Below.refl w.heap.size w).alloc (Nat.le_refl _) (.cells #[.int .i64 df, .int .i64 dt, .slice a len cap] 49)).alloc (by simp) (.cells #[.int .i64 0, .int .i64 0, .slice none 0 0] 25)).alloc (by simp; omega) (.cells #[.int .i64 df, .int .i64 dt, .slice none 0 0] 25))
  have R0 := Lib.hid ((Box.new (w.alloc (.cells #[.int .i64 df, .int .i64 dt, .slice a len cap] 49)) 25 #[.int .i64 0, .int .i64 0, .slice none 0 0]).alloc (.cells #[.int .i64 df, .int .i64 dt, .slice none 0 0] 25))
  have U0 := Lib.hid (Box.new ((w.alloc (.cells #[.int .i64 df, .int .i64 dt, .slice a len cap] 49)).alloc (.cells #[.int .i64 0, .int .i64 0, .slice none 0 0] 25)) 25 #[.int .i64 df, .int .i64 dt, .slice none 0 0])
  go_enter Try.func30, Try.ntmps30
  go_wp2_with fail
  refine (T.out _ B0.out).mono ?_
  rintro e w1 ⟨rfl, o1, b1⟩
  have R1 := R0.out.below b1 R0.out.lt
  have U1 := U0.out.below b1 U0.out.lt
  simp only [World.size_alloc] at R1 U1 o1
  have B1 := Lib.hid (B0.out.trans (b1.mono B0.out.size))
  obtain ⟨zr, r0, r1, r2⟩ := R1.three
  obtain ⟨zu, u0, u1, u2⟩ := U1.three
  have fr0 := R1.frozen 0
  have fr1 := R1.frozen 1
  have fr2 := R1.frozen 2
  have fu2 := U1.frozen 2
  have O1 := Lib.hid o1
  simp only [World.size_alloc]
  clear b1 o1 B0 R0 U0 R1 U1
  go_wp2
  refine bodyPost_ret (v := .agg #[.int .i64 df, .int .i64 dt, .slice (some ⟨w.heap.size + 1 + 1 + 1, 0, none⟩) len len]) (by simp [results, Try.results30, go_sem, r0, r1, r2]) rfl ⟨_, _, _, rfl, ?_, (((B1.out.setCell (by simp; omega) _).setCell (by simp) _).setCell (by simp) _).setCell (by simp) _⟩
  exact ((((O1.out.setOther _ _ (by rintro x hx; cases hx; dsimp only; omega)).setOther _ _ (by rintro x hx; cases hx; dsimp only; omega)).setOther _ _ (by rintro x hx; cases hx; dsimp only; omega)).setOther _ _ (by rintro x hx; cases hx; dsimp only; omega)).rebase (by omega)

theorem eqDatagram_t (df dt : Int) (a b : Option Addr) (la ca lb cb : Nat) (zs : List Int) (w : World) (ha : Rd w a la ca zs) (hb : Rd w b lb cb zs) :
    Calls Try.prog 31 #[.agg #[.int .i64 df, .int .i64 dt, .slice a la ca], .agg #[.int .i64 df, .int .i64 dt, .slice b lb cb]] w fun e w' => e = .returned (.bool true) ∧ Below w.heap.size w w' := by
  have hq : eqL zs zs = true := decide_eq_true rfl
  have K := Lib.hid (fun W (hW : Below w.heap.size w W) => eqByteS_any a b la ca lb cb zs zs W (ha.below hW) (hb.below hW))
  rw [hq] at K
  go_enter Try.func31, Try.ntmps31
  go_wp2_with fail
  refine (K.out _ (((Below.refl _ _).alloc (Nat.le_refl _) _).alloc (by simp) _)).mono ?_
  rintro e w1 ⟨rfl, hb1⟩
  go_wp2
  go_ret
  exact ⟨rfl, (((Below.refl _ _).alloc (Nat.le_refl _) _).alloc (by simp) _).trans (hb1.mono (by simp; omega))⟩

set_option maxHeartbeats 1000000 in
theorem exactDatagramFault (df dt : Int) (a : Option Addr) (len cap : Nat) (zs : List Int) (w : World) (hr : Rd w a len cap zs)
    (c : Int) (hS : ∀ (a' : Option Addr) (l' c' : Nat) (W : World), Rd W a' l' c' zs → Calls Try.prog 23 #[.agg #[.int .i64 df, .int .i64 dt, .slice a' l' c']] W fun e w' => e = .returned (.int .i64 c) ∧ Below W.heap.size W w')
    (h : ∀ (a' : Option Addr) (l' c' : Nat) (W : World), Rd W a' l' c' zs → Calls Try.prog 22 #[.agg #[.int .i64 df, .int .i64 dt, .slice a' l' c']] W fun e w' => e = .returned (.int .i64 c) ∧ Below W.heap.size W w') :
    Calls Try.prog 5 #[.agg #[.int .i64 df, .int .i64 dt, .slice a len cap]] w fun e w' => e = .returned (.bool true) ∧ Below w.heap.size w w' := by
  have hm : len ≤ maxLen := Nat.le_trans hr.le hr.max
  have B0 := Lib.hid ((Below.refl w.heap.size w).alloc (Nat.le_refl _) (.cells #[.int .i64 df, .int .i64 dt, .slice a len cap] 49))
  have A0 := Lib.hid (Box.new w 49 #[.int .i64 df, .int .i64 dt, .slice a len cap])
  by_cases hbig : (len : Int) ≤ 1048576
  · have K := Lib.hid h
    have S := Lib.hid hS
    have T := Lib.hid (fun W (hW : Below w.heap.size w W) => toDatagram_any df dt a len cap zs W (hr.below hW) (by omega))
    have Z := Lib.hid (fun W => szDatagram_t df dt a len cap 1048576 W hbig (by omega))
    have hn : decide ((1048576 : Int) - len < 0) = false := decide_eq_false (by omega)
    have hne : (c != c) = false := by simp
    clear h hS hr
    go_enter Try.func5, Try.ntmps5
    go_wp2_with fail
    refine (Z.out _).mono ?_
    rintro e w1 ⟨rfl, b1⟩
    have B1 := Lib.hid (B0.out.trans (b1.mono B0.out.size))
    have A1 := Lib.hid (A0.out.below b1 A0.out.lt)
    clear b1 B0 A0
    obtain ⟨zA, p0, p1, p2⟩ := A1.out.three
    go_wp2_with fail
    refine (T.out _ B1.out).mono ?_
    rintro e w2 ⟨a2, l2, c2, rfl, o2, b2⟩
    have B2 := Lib.hid (B1.out.trans (b2.mono B1.out.size))
    have A2 := Lib.hid (A1.out.below b2 A1.out.lt)
    clear b2 B1 A1 zA p0 p1 p2
    go_wp2_with fail
    refine (S.out _ _ _ _ o2.rd).mono ?_
    rintro e w3 ⟨rfl, b3⟩
    have B3 := Lib.hid (B2.out.trans (b3.mono B2.out.size))
    have A3 := Lib.hid (A2.out.below b3 A2.out.lt)
    clear b3 B2 A2 o2
    obtain ⟨zA, p0, p1, p2⟩ := A3.out.three
    go_wp2_with fail
    refine (T.out _ B3.out).mono ?_
    rintro e w4 ⟨a4, l4, c4, rfl, o4, b4⟩
    have B4 := Lib.hid ((B3.out.trans (b4.mono B3.out.size)).alloc (Nat.le_trans B3.out.size b4.size) (.cells #[.int .i64 df, .int .i64 dt, .slice a4 l4 c4] 25))
    have A4 := Lib.hid ((A3.out.below b4 A3.out.lt).alloc (.cells #[.int .i64 df, .int .i64 dt, .slice a4 l4 c4] 25))
    have X4 := Lib.hid (Box.new w4 25 #[.int .i64 df, .int .i64 dt, .slice a4 l4 c4])
    have O4 := Lib.hid (o4.alloc (.cells #[.int .i64 df, .int .i64 dt, .slice a4 l4 c4] 25))
    clear b4 B3 A3 o4 zA p0 p1 p2
    generalize hW4 : w4.alloc (.cells #[.int .i64 df, .int .i64 dt, .slice a4 l4 c4] 25) = W4 at *
    obtain ⟨zX, x0, x1, x2⟩ := X4.out.three
    go_wp2_with fail
    clear hW4
    refine (K.out _ _ _ _ O4.out.rd).mono ?_
    rintro e w5 ⟨rfl, b5⟩
    have B5 := Lib.hid (B4.out.trans (b5.mono B4.out.size))
    have A5 := Lib.hid (A4.out.below b5 A4.out.lt)
    have X5 := Lib.hid (X4.out.below b5 X4.out.lt)
    have O5 := Lib.hid (O4.out.below b5)
    clear b5 B4 A4 X4 O4 zX x0 x1 x2
    obtain ⟨zA, p0, p1, p2⟩ := A5.out.three
    obtain ⟨zX, x0, x1, x2⟩ := X5.out.three
    go_wp2_with fail
    go_region_held3 (fun W => W.cell? ⟨w.heap.size, 0, none⟩ = some (.int .i64 df) ∧ W.cell? ⟨w.heap.size, 1, none⟩ = some (.int .i64 dt) ∧ W.cell? ⟨w.heap.size, 2, none⟩ = some (.slice a len cap) ∧ W.cell? ⟨w4.heap.size, 0, none⟩ = some (.int .i64 df) ∧ W.cell? ⟨w4.heap.size, 1, none⟩ = some (.int .i64 dt) ∧ W.cell? ⟨w4.heap.size, 2, none⟩ = some (.slice a4 l4 c4))
      (first | go_keep | (go_split_ands; exact ⟨keepK hb (by assumption), keepK hb (by assumption), keepK hb (by assumption), keepK hb (by assumption), keepK hb (by assumption), keepK hb (by assumption)⟩))
      (first
        | (go_at_call 30; refine (T.out _ B5.out.drew).mono ?_; rintro e w6 ⟨a6, l6, c6, rfl, o6, b6⟩; have hb := b6)
        | (go_at_call 31; refine (eqDatagram_t _ _ _ _ _ _ _ _ zs _ (O5.out.drew.below b6).rd o6.rd).mono ?_; rintro e w7 ⟨rfl, b7⟩; have hb := b7))
    go_wp2
    go_ret
    exact ⟨rfl, (B5.out.drew.trans (b6.mono B5.out.drew.size)).trans (b7.mono (Nat.le_trans B5.out.drew.size b6.size))⟩
  · have Z := Lib.hid (fun W => szDatagram_f df dt a len cap 1048576 W hbig (by omega) (by omega) hm)
    clear h hS hr
    go_enter Try.func5, Try.ntmps5
    go_wp2_with fail
    refine (Z.out _).mono ?_
    rintro e w1 ⟨rfl, b1⟩
    have B1 := Lib.hid (B0.out.trans (b1.mono B0.out.size))
    clear b1 B0 A0
    go_wp2
    go_ret
    exact ⟨rfl, B1.out⟩

theorem markDatagram_any (df dt : Int) (a : Option Addr) (len cap base k0 : Nat) (zs : List Int) (w : World) (h : Own w base a len cap zs) (hl : len ≤ 2097152) (hk0 : k0 ≤ 1000000000) :
    Calls Try.prog 32 #[.agg #[.int .i64 df, .int .i64 dt, .slice a len cap], .int .i64 k0] w fun e w' => e = .returned (.int .i64 (k0 + len : Nat)) ∧ Own w' base a len cap (marks k0 len) ∧ w.grownBy w' ((Value.slice a len cap).ownBlock) := by
  have K := Lib.hid (fun o => markByteS_any a len cap base k0 zs (w.alloc o) (h.alloc o) hl hk0)
  go_enter Try.func32, Try.ntmps32
  go_wp2_with fail
  refine (K.out _).mono ?_
  rintro e w1 ⟨rfl, ho, hg⟩
  go_wp2
  go_ret
  exact ⟨rfl, ho, grown_trans (grown_alloc _ _) hg⟩

set_option maxHeartbeats 4000000 in
theorem exactPackDatagram (pf pt : Int) (df dt : Int) (a : Option Addr) (len cap : Nat) (zs : List Int) (w : World) (hr : Rd w a len cap zs)
    (c : Int) (ys : List Int) (hyl : ys.length ≤ 700) (hS : ∀ (a' : Option Addr) (l' c' : Nat) (W : World), Rd W a' l' c' zs → Calls Try.prog 17 #[.int .i64 pf, .int .i64 pt, .agg #[.int .i64 df, .int .i64 dt, .slice a' l' c']] W (Packed W c ys))
    (h : ∀ (a' : Option Addr) (l' c' : Nat) (W : World), Rd W a' l' c' zs → Calls Try.prog 11 #[.int .i64 pf, .int .i64 pt, .agg #[.int .i64 df, .int .i64 dt, .slice a' l' c']] W (Packed W c ys)) :
    Calls Try.prog 6 #[.int .i64 pf, .int .i64 pt, .agg #[.int .i64 df, .int .i64 dt, .slice a len cap]] w fun e w' => e = .returned (.bool true) ∧ Below w.heap.size w w' := by
  have hm : len ≤ maxLen := Nat.le_trans hr.le hr.max
  have B0 := Lib.hid ((Below.refl w.heap.size w).alloc (Nat.le_refl _) (.cells #[.int .i64 df, .int .i64 dt, .slice a len cap] 49))
  have A0 := Lib.hid (Box.new w 49 #[.int .i64 df, .int .i64 dt, .slice a len cap])
  by_cases hbig : (len : Int) ≤ 1048576
  · have K := Lib.hid h
    have S := Lib.hid hS
    have T := Lib.hid (fun W (hW : Below w.heap.size w W) => toDatagram_any df dt a len cap zs W (hr.below hW) (by omega))
    have Z := Lib.hid (fun W => szDatagram_t df dt a len cap 1048576 W hbig (by omega))
    have hn : decide ((1048576 : Int) - len < 0) = false := decide_eq_false (by omega)
    have HZ := Lib.hid hr.length
    clear h hS hr
    go_enter Try.func6, Try.ntmps6
    go_wp2_with fail
    refine (Z.out _).mono ?_
    rintro e w1 ⟨rfl, b1⟩
    have A1 := Lib.hid (A0.out.below b1 A0.out.lt)
    have B1 := Lib.hid (B0.out.trans (b1.mono B0.out.size))
    clear b1 A0 B0
    obtain ⟨pz, p0, p1, p2⟩ := A1.out.three
    go_wp2_with fail
    refine (T.out _ B1.out).mono ?_
    rintro e w2 ⟨a2, l2, c2, rfl, o2, b2⟩
    clear pz p0 p1 p2
    have A2 := Lib.hid (A1.out.below b2 A1.out.lt)
    have B2 := Lib.hid (B1.out.trans (b2.mono B1.out.size))
    clear b2 A1 B1
    go_wp2_with fail
    refine (S.out _ _ _ _ o2.rd).mono ?_
    rintro e w3 ⟨a3, l3, c3, rfl, o3, b3⟩
    have A3 := Lib.hid ((A2.out.below b3 A2.out.lt).alloc (.cells #[.int .i64 c, .slice a3 l3 c3] 29))
    have B3 := Lib.hid ((B2.out.trans (b3.mono B2.out.size)).alloc (Nat.le_trans B2.out.size b3.size) (.cells #[.int .i64 c, .slice a3 l3 c3] 29))
    have X3 := Lib.hid (Box.new w3 29 #[.int .i64 c, .slice a3 l3 c3])
    have O3 := Lib.hid (o3.alloc (.cells #[.int .i64 c, .slice a3 l3 c3] 29))
    clear b3 o2 o3 A2 B2
    generalize hW : w3.alloc (.cells #[.int .i64 c, .slice a3 l3 c3] 29) = W3 at *
    obtain ⟨pz, p0, p1, p2⟩ := A3.out.three
    go_wp2_with fail
    clear hW
    refine (T.out _ B3.out).mono ?_
    rintro e w4 ⟨a4, l4, c4, rfl, o4, b4⟩
    have hl4 : l4 ≤ 1048576 := by have := o4.length; have := HZ.out; omega
    clear pz p0 p1 p2
    have NA := Lib.hid (ne_block o4 w.heap.size (.inl A3.out.lt))
    have NX := Lib.hid (ne_block o4 w3.heap.size (.inl X3.out.lt))
    have NO := Lib.hid (ne_of_lt_own O3.out o4 (Nat.le_refl _))
    have NY := Lib.hid (ne_block o4 w4.heap.size (.inr (Nat.le_refl _)))
    have NB := Lib.hid (own_rows o4 w.heap.size B3.out.size)
    have N4 := Lib.hid o4
    have A4 := Lib.hid ((A3.out.below b4 A3.out.lt).alloc (.cells #[.int .i64 df, .int .i64 dt, .slice a4 l4 c4] 25))
    have B4 := Lib.hid ((B3.out.trans (b4.mono B3.out.size)).alloc (Nat.le_trans B3.out.size b4.size) (.cells #[.int .i64 df, .int .i64 dt, .slice a4 l4 c4] 25))
    have X4 := Lib.hid ((X3.out.below b4 X3.out.lt).alloc (.cells #[.int .i64 df, .int .i64 dt, .slice a4 l4 c4] 25))
    have O4 := Lib.hid ((O3.out.below b4).alloc (.cells #[.int .i64 df, .int .i64 dt, .slice a4 l4 c4] 25))
    have Y4 := Lib.hid (Box.new w4 25 #[.int .i64 df, .int .i64 dt, .slice a4 l4 c4])
    have Q4 := Lib.hid (o4.alloc (.cells #[.int .i64 df, .int .i64 dt, .slice a4 l4 c4] 25))
    have s4 : w4.heap.size ≤ (w4.alloc (.cells #[.int .i64 df, .int .i64 dt, .slice a4 l4 c4] 25)).heap.size := by simp
    clear b4 o4 A3 B3 X3 O3
    generalize hW : w4.alloc (.cells #[.int .i64 df, .int .i64 dt, .slice a4 l4 c4] 25) = W4 at *
    obtain ⟨xz, x0, x1, x2⟩ := Y4.out.three
    go_wp2_with fail
    clear hW
    refine (K.out _ _ _ _ Q4.out.rd).mono ?_
    rintro e w5 ⟨a5, l5, c5, rfl, o5, b5⟩
    have hl5 : l5 ≤ 700 := by rw [← o5.length]; exact hyl
    clear xz x0 x1 x2
    have MA := Lib.hid (ne_block o5 w.heap.size (.inl A4.out.lt))
    have MX := Lib.hid (ne_block o5 w3.heap.size (.inl X4.out.lt))
    have MO := Lib.hid (ne_of_lt_own O4.out o5 (Nat.le_refl _))
    have MY := Lib.hid (ne_block o5 w4.heap.size (.inl Y4.out.lt))
    have MQ := Lib.hid (ne_of_lt_own Q4.out o5 (Nat.le_refl _))
    have MG := Lib.hid (ne_block o5 w5.heap.size (.inr (Nat.le_refl _)))
    have MB := Lib.hid (own_rows o5 w.heap.size B4.out.size)
    have NP := Lib.hid (ne_of_gt_own o5 N4.out s4)
    have NG := Lib.hid (ne_block N4.out w5.heap.size (.inr (Nat.le_trans s4 b5.size)))
    have A5 := Lib.hid ((A4.out.below b5 A4.out.lt).alloc (.cells #[.int .i64 c, .slice a5 l5 c5] 29))
    have B5 := Lib.hid ((B4.out.trans (b5.mono B4.out.size)).alloc (Nat.le_trans B4.out.size b5.size) (.cells #[.int .i64 c, .slice a5 l5 c5] 29))
    have X5 := Lib.hid ((X4.out.below b5 X4.out.lt).alloc (.cells #[.int .i64 c, .slice a5 l5 c5] 29))
    have O5 := Lib.hid ((O4.out.below b5).alloc (.cells #[.int .i64 c, .slice a5 l5 c5] 29))
    have Y5 := Lib.hid ((Y4.out.below b5 Y4.out.lt).alloc (.cells #[.int .i64 c, .slice a5 l5 c5] 29))
    have Q5 := Lib.hid ((Q4.out.below b5).alloc (.cells #[.int .i64 c, .slice a5 l5 c5] 29))
    have G5 := Lib.hid (Box.new w5 29 #[.int .i64 c, .slice a5 l5 c5])
    have P5 := Lib.hid (o5.alloc (.cells #[.int .i64 c, .slice a5 l5 c5] 29))
    clear b5 o5 N4 s4 A4 B4 X4 O4 Y4 Q4
    generalize hW : w5.alloc (.cells #[.int .i64 c, .slice a5 l5 c5] 29) = W5 at *
    obtain ⟨gz, g0, g1⟩ := G5.out.two
    obtain ⟨xz, x0, x1⟩ := X5.out.two
    go_wp2_with fail
    clear hW
    refine (eqBytes_any _ _ _ _ _ _ _ _ ys ys _ P5.out.rd O5.out.rd rfl rfl).mono ?_
    rintro e w6 ⟨rfl, b6⟩
    clear gz g0 g1 xz x0 x1
    have A6 := Lib.hid (A5.out.below b6 A5.out.lt)
    have B6 := Lib.hid (B5.out.trans (b6.mono B5.out.size))
    have X6 := Lib.hid (X5.out.below b6 X5.out.lt)
    have O6 := Lib.hid (O5.out.below b6)
    have Y6 := Lib.hid (Y5.out.below b6 Y5.out.lt)
    have Q6 := Lib.hid (Q5.out.below b6)
    have G6 := Lib.hid (G5.out.below b6 G5.out.lt)
    have P6 := Lib.hid (P5.out.below b6)
    clear b6 A5 B5 X5 O5 Y5 Q5 G5 P5
    obtain ⟨pz, p0, p1, p2⟩ := A6.out.three
    obtain ⟨xz, x0, x1, x2⟩ := Y6.out.three
    go_wp2_with fail
    go_region_held3 (fun W => W.cell? ⟨w.heap.size, 0, none⟩ = some (.int .i64 df) ∧ W.cell? ⟨w.heap.size, 1, none⟩ = some (.int .i64 dt) ∧ W.cell? ⟨w.heap.size, 2, none⟩ = some (.slice a len cap) ∧ W.cell? ⟨w4.heap.size, 0, none⟩ = some (.int .i64 df) ∧ W.cell? ⟨w4.heap.size, 1, none⟩ = some (.int .i64 dt) ∧ W.cell? ⟨w4.heap.size, 2, none⟩ = some (.slice a4 l4 c4))
      (first | go_keep | (go_split_ands; exact ⟨keepK hb (by assumption), keepK hb (by assumption), keepK hb (by assumption), keepK hb (by assumption), keepK hb (by assumption), keepK hb (by assumption)⟩))
      (first
        | (go_at_call 30; refine (T.out _ B6.out.drew).mono ?_; rintro e w7 ⟨a7, l7, c7, rfl, o7, b7⟩; have hb := b7)
        | (go_at_call 31; refine (eqDatagram_t _ _ _ _ _ _ _ _ zs _ (Q6.out.drew.below b7).rd o7.rd).mono ?_; rintro e w8 ⟨rfl, b8⟩; have hb := b8))
    have b68 : Below w6.drew.heap.size w6.drew w8 := b7.trans (b8.mono b7.size)
    clear hb o7 b7 b8 pz p0 p1 p2 xz x0 x1 x2
    have A8 := Lib.hid ((A6.out.drewB).below b68 A6.out.drewB.lt)
    have B8 := Lib.hid (B6.out.drew.trans (b68.mono B6.out.drew.size))
    have X8 := Lib.hid ((X6.out.drewB).below b68 X6.out.drewB.lt)
    have O8 := Lib.hid (O6.out.drew.below b68)
    have Y8 := Lib.hid ((Y6.out.drewB).below b68 Y6.out.drewB.lt)
    have Q8 := Lib.hid (Q6.out.drew.below b68)
    have G8 := Lib.hid ((G6.out.drewB).below b68 G6.out.drewB.lt)
    have P8 := Lib.hid (P6.out.drew.below b68)
    clear b68 A6 B6 X6 O6 Y6 Q6 G6 P6
    obtain ⟨xz, x0, x1, x2⟩ := Y8.out.three
    go_wp2_with fail
    refine (markDatagram_any _ _ _ _ _ _ 1 _ _ Q8.out (by omega) (by omega)).mono ?_
    rintro e w9 ⟨rfl, q9, g9⟩
    clear xz x0 x1 x2
    have A9 := Lib.hid (A8.out.grown g9 NA.out)
    have B9 := Lib.hid (B8.out.grown g9 B8.out.size NB.out)
    have X9 := Lib.hid (X8.out.grown g9 NX.out)
    have O9 := Lib.hid (O8.out.grown g9 NO.out)
    have Y9 := Lib.hid (Y8.out.grown g9 NY.out)
    have Q9 := Lib.hid q9
    have G9 := Lib.hid (G8.out.grown g9 NG.out)
    have P9 := Lib.hid (P8.out.grown g9 NP.out)
    clear g9 q9 NA NX NO NY NG NP NB A8 B8 X8 O8 Y8 Q8 G8 P8
    have hk4 : ¬ ((1 + l4 : Nat) : Int) < 0 := by omega
    have hk4d : decide (((1 + l4 : Nat) : Int) < 0) = false := decide_eq_false hk4
    obtain ⟨gz, g0, g1⟩ := G9.out.two
    obtain ⟨xz, x0, x1⟩ := X9.out.two
    go_wp2_with fail
    refine (eqBytes_any _ _ _ _ _ _ _ _ ys ys _ P9.out.rd O9.out.rd rfl rfl).mono ?_
    rintro e w10 ⟨rfl, b10⟩
    clear gz g0 g1 xz x0 x1 Q9 Y9
    have A10 := Lib.hid (A9.out.below b10 A9.out.lt)
    have B10 := Lib.hid (B9.out.trans (b10.mono B9.out.size))
    have X10 := Lib.hid (X9.out.below b10 X9.out.lt)
    have O10 := Lib.hid (O9.out.below b10)
    have G10 := Lib.hid (G9.out.below b10 G9.out.lt)
    have P10 := Lib.hid (P9.out.below b10)
    clear b10 A9 B9 X9 O9 G9 P9
    obtain ⟨gz, g0, g1⟩ := G10.out.two
    go_wp2_with fail
    refine (markBytes_any _ _ _ _ _ 1 _ _ P10.out (by omega) (by omega)).mono ?_
    rintro e w11 ⟨rfl, q11, g11⟩
    clear gz g0 g1
    have A11 := Lib.hid (A10.out.grown g11 MA.out)
    have B11 := Lib.hid (B10.out.grown g11 B10.out.size MB.out)
    have X11 := Lib.hid (X10.out.grown g11 MX.out)
    have O11 := Lib.hid (O10.out.grown g11 MO.out)
    have G11 := Lib.hid (G10.out.grown g11 MG.out)
    have P11 := Lib.hid q11
    clear g11 q11 MA MX MO MY MQ MG MB A10 B10 X10 O10 G10 P10
    obtain ⟨gz, g0, g1⟩ := G11.out.two
    go_wp2_with fail
    refine (heldBytes_any _ _ _ _ 1 _ P11.out.rd (by omega) (by omega)).mono ?_
    rintro e w12 ⟨rfl, b12⟩
    clear gz g0 g1
    have A12 := Lib.hid (A11.out.below b12 A11.out.lt)
    have B12 := Lib.hid (B11.out.trans (b12.mono B11.out.size))
    have X12 := Lib.hid (X11.out.below b12 X11.out.lt)
    have O12 := Lib.hid (O11.out.below b12)
    have G12 := Lib.hid (G11.out.below b12 G11.out.lt)
    have P12 := Lib.hid (P11.out.below b12)
    clear b12 A11 B11 X11 O11 G11 P11
    have hn5 : ¬ ((1 + l5 : Nat) : Int) < 0 := by omega
    have hne5 : (((1 + l5 : Nat) : Int) != ((1 + l5 : Nat) : Int)) = false := by simp
    obtain ⟨pz, p0, p1, p2⟩ := A12.out.three
    go_wp2_with fail
    refine (T.out _ B12.out).mono ?_
    rintro e w13 ⟨a13, l13, c13, rfl, o13, b13⟩
    clear pz p0 p1 p2 A12
    have B13 := Lib.hid (B12.out.trans (b13.mono B12.out.size))
    have X13 := Lib.hid (X12.out.below b13 X12.out.lt)
    have O13 := Lib.hid (O12.out.below b13)
    have G13 := Lib.hid (G12.out.below b13 G12.out.lt)
    have P13 := Lib.hid (P12.out.below b13)
    clear b13 B12 X12 O12 G12 P12
    go_wp2_with fail
    refine (K.out _ _ _ _ o13.rd).mono ?_
    rintro e w14 ⟨a14, l14, c14, rfl, o14, b14⟩
    have B14 := Lib.hid ((B13.out.trans (b14.mono B13.out.size)).alloc (Nat.le_trans B13.out.size b14.size) (.cells #[.int .i64 c, .slice a14 l14 c14] 29))
    have X14 := Lib.hid ((X13.out.below b14 X13.out.lt).alloc (.cells #[.int .i64 c, .slice a14 l14 c14] 29))
    have O14 := Lib.hid ((O13.out.below b14).alloc (.cells #[.int .i64 c, .slice a14 l14 c14] 29))
    have G14 := Lib.hid ((G13.out.below b14 G13.out.lt).alloc (.cells #[.int .i64 c, .slice a14 l14 c14] 29))
    have P14 := Lib.hid ((P13.out.below b14).alloc (.cells #[.int .i64 c, .slice a14 l14 c14] 29))
    have H14 := Lib.hid (Box.new w14 29 #[.int .i64 c, .slice a14 l14 c14])
    have R14 := Lib.hid (o14.alloc (.cells #[.int .i64 c, .slice a14 l14 c14] 29))
    clear b14 o13 o14 B13 X13 O13 G13 P13
    generalize hW : w14.alloc (.cells #[.int .i64 c, .slice a14 l14 c14] 29) = W14 at *
    obtain ⟨gz, g0, g1⟩ := H14.out.two
    obtain ⟨xz, x0, x1⟩ := X14.out.two
    go_wp2_with fail
    clear hW
    refine (eqBytes_any _ _ _ _ _ _ _ _ ys ys _ R14.out.rd O14.out.rd rfl rfl).mono ?_
    rintro e w15 ⟨rfl, b15⟩
    clear gz g0 g1 xz x0 x1 H14 R14 X14 O14
    have B15 := Lib.hid (B14.out.trans (b15.mono B14.out.size))
    have G15 := Lib.hid (G14.out.below b15 G14.out.lt)
    have P15 := Lib.hid (P14.out.below b15)
    clear b15 B14 G14 P14
    obtain ⟨gz, g0, g1⟩ := G15.out.two
    go_wp2_with fail
    refine (heldBytes_any _ _ _ _ 1 _ P15.out.rd (by omega) (by omega)).mono ?_
    rintro e w16 ⟨rfl, b16⟩
    clear gz g0 g1 P15 G15
    have B16 := Lib.hid (B15.out.trans (b16.mono B15.out.size))
    clear b16 B15
    go_wp2
    go_ret
    exact ⟨rfl, B16.out⟩
  · have Z := Lib.hid (fun W => szDatagram_f df dt a len cap 1048576 W hbig (by omega) (by omega) hm)
    clear h hS hr
    go_enter Try.func6, Try.ntmps6
    go_wp2_with fail
    refine (Z.out _).mono ?_
    rintro e w1 ⟨rfl, b1⟩
    have B1 := Lib.hid (B0.out.trans (b1.mono B0.out.size))
    clear b1 B0 A0
    go_wp2
    go_ret
    exact ⟨rfl, B1.out⟩

set_option maxHeartbeats 4000000 in
theorem exactSameDatagrams (df dt : Int) (a : Option Addr) (len cap : Nat) (zs : List Int) (df' dt' : Int) (a' : Option Addr) (len' cap' : Nat) (zs' : List Int) (w : World) (hr : Rd w a len cap zs) (hr' : Rd w a' len' cap' zs')
    (v : Bool) (hS : ∀ (b : Option Addr) (l c : Nat) (b' : Option Addr) (l' c' : Nat) (W : World), Rd W b l c zs → Rd W b' l' c' zs' → Calls Try.prog 24 #[.agg #[.int .i64 df, .int .i64 dt, .slice b l c], .agg #[.int .i64 df', .int .i64 dt', .slice b' l' c']] W fun e w' => e = .returned (.bool v) ∧ Below W.heap.size W w')
    (h : ∀ (b : Option Addr) (l c : Nat) (b' : Option Addr) (l' c' : Nat) (W : World), Rd W b l c zs → Rd W b' l' c' zs' → Calls Try.prog 19 #[.agg #[.int .i64 df, .int .i64 dt, .slice b l c], .agg #[.int .i64 df', .int .i64 dt', .slice b' l' c']] W fun e w' => e = .returned (.bool v) ∧ Below W.heap.size W w') :
    Calls Try.prog 8 #[.agg #[.int .i64 df, .int .i64 dt, .slice a len cap], .agg #[.int .i64 df', .int .i64 dt', .slice a' len' cap']] w fun e w' => e = .returned (.bool true) ∧ Below w.heap.size w w' := by
  have hm : len ≤ maxLen := Nat.le_trans hr.le hr.max
  have hm' : len' ≤ maxLen := Nat.le_trans hr'.le hr'.max
  have B0 := Lib.hid (((Below.refl w.heap.size w).alloc (Nat.le_refl _) (.cells #[.int .i64 df, .int .i64 dt, .slice a len cap] 49)).alloc (by simp) (.cells #[.int .i64 df', .int .i64 dt', .slice a' len' cap'] 49))
  have A0 := Lib.hid ((Box.new w 49 #[.int .i64 df, .int .i64 dt, .slice a len cap]).alloc (.cells #[.int .i64 df', .int .i64 dt', .slice a' len' cap'] 49))
  have D0 : Hid (Box ((w.alloc (.cells #[.int .i64 df, .int .i64 dt, .slice a len cap] 49)).alloc (.cells #[.int .i64 df', .int .i64 dt', .slice a' len' cap'] 49)) (w.heap.size + 1) 49 #[.int .i64 df', .int .i64 dt', .slice a' len' cap']) := by
    have := Box.new (w.alloc (.cells #[.int .i64 df, .int .i64 dt, .slice a len cap] 49)) 49 #[.int .i64 df', .int .i64 dt', .slice a' len' cap']
    simp only [World.size_alloc] at this
    exact this
  by_cases hbig : (len : Int) ≤ 1048576
  · have Z := Lib.hid (fun W => szDatagram_t df dt a len cap 1048576 W hbig (by omega))
    have hn : decide ((1048576 : Int) - len < 0) = false := decide_eq_false (by omega)
    by_cases hbig' : (len' : Int) ≤ 1048576 - len
    · have Z' := Lib.hid (fun W => szDatagram_t df' dt' a' len' cap' (1048576 - len) W hbig' (by omega))
      have hn' : decide ((1048576 : Int) - len - len' < 0) = false := decide_eq_false (by omega)
      have K := Lib.hid h
      have S := Lib.hid hS
      have T := Lib.hid (fun W (hW : Below w.heap.size w W) => toDatagram_any df dt a len cap zs W (hr.below hW) (by omega))
      have T' := Lib.hid (fun W (hW : Below w.heap.size w W) => toDatagram_any df' dt' a' len' cap' zs' W (hr'.below hW) (by omega))
      have hne : (v != v) = false := by cases v <;> rfl
      clear h hS hr hr'
      go_enter Try.func8, Try.ntmps8
      go_wp2_with fail
      refine (Z.out _).mono ?_
      rintro e w1 ⟨rfl, b1⟩
      have A1 := Lib.hid (A0.out.below b1 A0.out.lt)
      have D1 := Lib.hid (D0.out.below b1 D0.out.lt)
      have B1 := Lib.hid (B0.out.trans (b1.mono B0.out.size))
      clear b1 A0 D0 B0
      obtain ⟨qz, q0, q1, q2⟩ := D1.out.three
      go_wp2_with fail
      refine (Z'.out _).mono ?_
      rintro e w2 ⟨rfl, b2⟩
      clear qz q0 q1 q2
      have A2 := Lib.hid (A1.out.below b2 A1.out.lt)
      have D2 := Lib.hid (D1.out.below b2 D1.out.lt)
      have B2 := Lib.hid (B1.out.trans (b2.mono B1.out.size))
      clear b2 A1 D1 B1
      obtain ⟨pz, p0, p1, p2⟩ := A2.out.three
      obtain ⟨qz, q0, q1, q2⟩ := D2.out.three
      go_wp2_with fail
      go_region_held3 (fun W => W.cell? ⟨w.heap.size, 0, none⟩ = some (.int .i64 df) ∧ W.cell? ⟨w.heap.size, 1, none⟩ = some (.int .i64 dt) ∧ W.cell? ⟨w.heap.size, 2, none⟩ = some (.slice a len cap) ∧ W.cell? ⟨w.heap.size + 1, 0, none⟩ = some (.int .i64 df') ∧ W.cell? ⟨w.heap.size + 1, 1, none⟩ = some (.int .i64 dt') ∧ W.cell? ⟨w.heap.size + 1, 2, none⟩ = some (.slice a' len' cap'))
        (first | go_keep | (go_split_ands; exact ⟨keepK hb (by assumption), keepK hb (by assumption), keepK hb (by assumption), keepK hb (by assumption), keepK hb (by assumption), keepK hb (by assumption)⟩))
        (first
          | (have q := R4; clear q; go_at_call 24; refine (S.out _ _ _ _ _ _ _ (o3.below b4).rd o4.rd).mono ?_; rintro e w5 ⟨rfl, b5⟩; have hb := b5)
          | (have q := R3; clear q; go_at_call 30; refine (T'.out _ (B2.out.drew.trans (b3.mono B2.out.drew.size))).mono ?_; rintro e w4 ⟨a4, l4, c4, rfl, o4, b4⟩; have hb := b4; have R4 : Hid True := trivial)
          | (go_at_call 30; refine (T.out _ B2.out.drew).mono ?_; rintro e w3 ⟨a3, l3, c3, rfl, o3, b3⟩; have hb := b3; have R3 : Hid True := trivial))
      have b25 : Below w2.drew.heap.size w2.drew w5 := (b3.trans (b4.mono b3.size)).trans (b5.mono (Nat.le_trans b3.size b4.size))
      clear hb o3 b3 o4 b4 b5 R3 R4 pz p0 p1 p2 qz q0 q1 q2
      have A5 := Lib.hid ((A2.out.drewB).below b25 A2.out.drewB.lt)
      have D5 := Lib.hid ((D2.out.drewB).below b25 D2.out.drewB.lt)
      have B5 := Lib.hid (B2.out.drew.trans (b25.mono B2.out.drew.size))
      clear b25 A2 D2 B2
      obtain ⟨pz, p0, p1, p2⟩ := A5.out.three
      go_wp2_with fail
      refine (T.out _ B5.out).mono ?_
      rintro e w6 ⟨a6, l6, c6, rfl, o6, b6⟩
      clear pz p0 p1 p2
      have A6 := Lib.hid ((A5.out.below b6 A5.out.lt).alloc (.cells #[.int .i64 df, .int .i64 dt, .slice a6 l6 c6] 25))
      have D6 := Lib.hid ((D5.out.below b6 D5.out.lt).alloc (.cells #[.int .i64 df, .int .i64 dt, .slice a6 l6 c6] 25))
      have B6 := Lib.hid ((B5.out.trans (b6.mono B5.out.size)).alloc (Nat.le_trans B5.out.size b6.size) (.cells #[.int .i64 df, .int .i64 dt, .slice a6 l6 c6] 25))
      have X6 := Lib.hid (Box.new w6 25 #[.int .i64 df, .int .i64 dt, .slice a6 l6 c6])
      have O6 := Lib.hid (o6.alloc (.cells #[.int .i64 df, .int .i64 dt, .slice a6 l6 c6] 25))
      clear b6 o6 A5 D5 B5
      generalize hW : w6.alloc (.cells #[.int .i64 df, .int .i64 dt, .slice a6 l6 c6] 25) = W6 at *
      obtain ⟨qz, q0, q1, q2⟩ := D6.out.three
      go_wp2_with fail
      clear hW
      refine (T'.out _ B6.out).mono ?_
      rintro e w7 ⟨a7, l7, c7, rfl, o7, b7⟩
      clear qz q0 q1 q2
      have A7 := Lib.hid ((A6.out.below b7 A6.out.lt).alloc (.cells #[.int .i64 df', .int .i64 dt', .slice a7 l7 c7] 25))
      have D7 := Lib.hid ((D6.out.below b7 D6.out.lt).alloc (.cells #[.int .i64 df', .int .i64 dt', .slice a7 l7 c7] 25))
      have B7 := Lib.hid ((B6.out.trans (b7.mono B6.out.size)).alloc (Nat.le_trans B6.out.size b7.size) (.cells #[.int .i64 df', .int .i64 dt', .slice a7 l7 c7] 25))
      have X7 := Lib.hid ((X6.out.below b7 X6.out.lt).alloc (.cells #[.int .i64 df', .int .i64 dt', .slice a7 l7 c7] 25))
      have O7 := Lib.hid ((O6.out.below b7).alloc (.cells #[.int .i64 df', .int .i64 dt', .slice a7 l7 c7] 25))
      have Y7 := Lib.hid (Box.new w7 25 #[.int .i64 df', .int .i64 dt', .slice a7 l7 c7])
      have P7 := Lib.hid (o7.alloc (.cells #[.int .i64 df', .int .i64 dt', .slice a7 l7 c7] 25))
      clear b7 o7 A6 D6 B6 X6 O6
      generalize hW : w7.alloc (.cells #[.int .i64 df', .int .i64 dt', .slice a7 l7 c7] 25) = W7 at *
      obtain ⟨pz, p0, p1, p2⟩ := X7.out.three
      obtain ⟨qz, q0, q1, q2⟩ := Y7.out.three
      go_wp2_with fail
      clear hW
      refine (K.out _ _ _ _ _ _ _ O7.out.rd P7.out.rd).mono ?_
      rintro e w8 ⟨rfl, b8⟩
      clear pz p0 p1 p2 qz q0 q1 q2
      have A8 := Lib.hid (A7.out.below b8 A7.out.lt)
      have D8 := Lib.hid (D7.out.below b8 D7.out.lt)
      have B8 := Lib.hid (B7.out.trans (b8.mono B7.out.size))
      have X8 := Lib.hid (X7.out.below b8 X7.out.lt)
      have O8 := Lib.hid (O7.out.below b8)
      have Y8 := Lib.hid (Y7.out.below b8 Y7.out.lt)
      have P8 := Lib.hid (P7.out.below b8)
      clear b8 A7 D7 B7 X7 O7 Y7 P7
      obtain ⟨pz, p0, p1, p2⟩ := A8.out.three
      obtain ⟨qz, q0, q1, q2⟩ := X8.out.three
      go_wp2_with fail
      go_region_held3 (fun W => W.cell? ⟨w.heap.size, 0, none⟩ = some (.int .i64 df) ∧ W.cell? ⟨w.heap.size, 1, none⟩ = some (.int .i64 dt) ∧ W.cell? ⟨w.heap.size, 2, none⟩ = some (.slice a len cap) ∧ W.cell? ⟨w6.heap.size, 0, none⟩ = some (.int .i64 df) ∧ W.cell? ⟨w6.heap.size, 1, none⟩ = some (.int .i64 dt) ∧ W.cell? ⟨w6.heap.size, 2, none⟩ = some (.slice a6 l6 c6))
        (first | go_keep | (go_split_ands; exact ⟨keepK hb (by assumption), keepK hb (by assumption), keepK hb (by assumption), keepK hb (by assumption), keepK hb (by assumption), keepK hb (by assumption)⟩))
        (first
          | (have q := R9; clear q; go_at_call 31; refine (eqDatagram_t _ _ _ _ _ _ _ _ zs _ (O8.out.drew.below b9).rd o9.rd).mono ?_; rintro e w10 ⟨rfl, b10⟩; have hb := b10)
          | (go_at_call 30; refine (T.out _ B8.out.drew).mono ?_; rintro e w9 ⟨a9, l9, c9, rfl, o9, b9⟩; have hb := b9; have R9 : Hid True := trivial))
      have b81 : Below w8.drew.heap.size w8.drew w10 := b9.trans (b10.mono b9.size)
      clear hb o9 b9 b10 R9 pz p0 p1 p2 qz q0 q1 q2 X8 O8 A8
      have D10 := Lib.hid ((D8.out.drewB).below b81 D8.out.drewB.lt)
      have B10 := Lib.hid (B8.out.drew.trans (b81.mono B8.out.drew.size))
      have Y10 := Lib.hid ((Y8.out.drewB).below b81 Y8.out.drewB.lt)
      have P10 := Lib.hid (P8.out.drew.below b81)
      clear b81 D8 B8 Y8 P8
      obtain ⟨pz, p0, p1, p2⟩ := D10.out.three
      obtain ⟨qz, q0, q1, q2⟩ := Y10.out.three
      go_wp2_with fail
      go_region_held3 (fun W => W.cell? ⟨w.heap.size + 1, 0, none⟩ = some (.int .i64 df') ∧ W.cell? ⟨w.heap.size + 1, 1, none⟩ = some (.int .i64 dt') ∧ W.cell? ⟨w.heap.size + 1, 2, none⟩ = some (.slice a' len' cap') ∧ W.cell? ⟨w7.heap.size, 0, none⟩ = some (.int .i64 df') ∧ W.cell? ⟨w7.heap.size, 1, none⟩ = some (.int .i64 dt') ∧ W.cell? ⟨w7.heap.size, 2, none⟩ = some (.slice a7 l7 c7))
        (first | go_keep | (go_split_ands; exact ⟨keepK hb (by assumption), keepK hb (by assumption), keepK hb (by assumption), keepK hb (by assumption), keepK hb (by assumption), keepK hb (by assumption)⟩))
        (first
          | (have q := R11; clear q; go_at_call 31; refine (eqDatagram_t _ _ _ _ _ _ _ _ zs' _ (P10.out.drew.below b11).rd o11.rd).mono ?_; rintro e w12 ⟨rfl, b12⟩; have hb := b12)
          | (go_at_call 30; refine (T'.out _ B10.out.drew).mono ?_; rintro e w11 ⟨a11, l11, c11, rfl, o11, b11⟩; have hb := b11; have R11 : Hid True := trivial))
      have B12 := Lib.hid ((B10.out.drew.trans (b11.mono B10.out.drew.size)).trans (b12.mono (Nat.le_trans B10.out.drew.size b11.size)))
      clear hb o11 b11 b12 R11 pz p0 p1 p2 qz q0 q1 q2 B10 D10 Y10 P10
      go_wp2
      go_ret
      exact ⟨rfl, B12.out⟩
    · have Z' := Lib.hid (fun W => szDatagram_f df' dt' a' len' cap' (1048576 - len) W hbig' (by omega) (by omega) hm')
      clear h hS hr hr'
      go_enter Try.func8, Try.ntmps8
      go_wp2_with fail
      refine (Z.out _).mono ?_
      rintro e w1 ⟨rfl, b1⟩
      have B1 := Lib.hid (B0.out.trans (b1.mono B0.out.size))
      have D1 := Lib.hid (D0.out.below b1 D0.out.lt)
      clear b1 B0 A0 D0
      obtain ⟨qz, q0, q1, q2⟩ := D1.out.three
      go_wp2_with fail
      refine (Z'.out _).mono ?_
      rintro e w2 ⟨rfl, b2⟩
      have B2 := Lib.hid (B1.out.trans (b2.mono B1.out.size))
      clear b2 B1 D1 qz q0 q1 q2
      go_wp2
      go_ret
      exact ⟨rfl, B2.out⟩
  · have Z := Lib.hid (fun W => szDatagram_f df dt a len cap 1048576 W hbig (by omega) (by omega) hm)
    clear h hS hr hr'
    go_enter Try.func8, Try.ntmps8
    go_wp2_with fail
    refine (Z.out _).mono ?_
    rintro e w1 ⟨rfl, b1⟩
    have B1 := Lib.hid (B0.out.trans (b1.mono B0.out.size))
    clear b1 B0 A0 D0
    go_wp2
    go_ret
    exact ⟨rfl, B1.out⟩

/-- a frame's result: the code, the numbers, the body of its own -/
def DatagramRes (w : World) (c : Int) (df dt : Int) (zs : List Int) (e : Ending) (w' : World) : Prop :=
  ∃ a' l' c', e = .returned (.agg #[.int .i64 c, .int .i64 df, .int .i64 dt, .slice a' l' c']) ∧ Own w' w.heap.size a' l' c' zs ∧ Below w.heap.size w w'

theorem heldDatagram_any (df dt : Int) (a : Option Addr) (len cap k0 : Nat) (w : World) (h : Rd w a len cap (marks k0 len)) (hl : len ≤ 2097152) (hk0 : k0 ≤ 1000000000) :
    Calls Try.prog 71 #[.agg #[.int .i64 df, .int .i64 dt, .slice a len cap], .int .i64 k0] w fun e w' => e = .returned (.int .i64 (k0 + len : Nat)) ∧ Below w.heap.size w w' := by
  have K := Lib.hid (fun o => heldByteS_any a len cap k0 (w.alloc o) (h.alloc o) hl hk0)
  go_enter Try.func71, Try.ntmps71
  go_wp2_with fail
  refine (K.out _).mono ?_
  rintro e w1 ⟨rfl, rfl⟩
  have hn : ¬ ((k0 + len : Nat) : Int) < 0 := by omega
  go_wp2
  go_ret
  exact ⟨rfl, (Below.refl _ _).alloc (Nat.le_refl _) _⟩

theorem heldDatagramR_any (c : Int) (df dt : Int) (a : Option Addr) (len cap k0 : Nat) (w : World) (h : Rd w a len cap (marks k0 len)) (hl : len ≤ 2097152) (hk0 : k0 ≤ 1000000000) :
    Calls Try.prog 38 #[.agg #[.int .i64 c, .int .i64 df, .int .i64 dt, .slice a len cap], .int .i64 k0] w fun e w' => e = .returned (.int .i64 (k0 + len : Nat)) ∧ Below w.heap.size w w' := by
  have K := Lib.hid (fun o => heldDatagram_any df dt a len cap k0 (w.alloc o) (h.alloc o) hl hk0)
  go_enter Try.func38, Try.ntmps38
  go_wp2_with fail
  refine (K.out _).mono ?_
  rintro e w1 ⟨rfl, b1⟩
  have hn : ¬ ((k0 + len : Nat) : Int) < 0 := by omega
  go_wp2
  go_ret
  exact ⟨rfl, ((Below.refl _ _).alloc (Nat.le_refl _) _).trans (b1.mono (by simp))⟩

theorem markDatagramR_any (c : Int) (df dt : Int) (a : Option Addr) (len cap base k0 : Nat) (zs : List Int) (w : World) (h : Own w base a len cap zs) (hl : len ≤ 2097152) (hk0 : k0 ≤ 1000000000) :
    Calls Try.prog 37 #[.agg #[.int .i64 c, .int .i64 df, .int .i64 dt, .slice a len cap], .int .i64 k0] w fun e w' => e = .returned (.int .i64 (k0 + len : Nat)) ∧ Own w' base a len cap (marks k0 len) ∧ w.grownBy w' ((Value.slice a len cap).ownBlock) := by
  have K := Lib.hid (fun o => markDatagram_any df dt a len cap base k0 zs (w.alloc o) (h.alloc o) hl hk0)
  go_enter Try.func37, Try.ntmps37
  go_wp2_with fail
  refine (K.out _).mono ?_
  rintro e w1 ⟨rfl, ho, hg⟩
  go_wp2
  go_ret
  exact ⟨rfl, ho, grown_trans (grown_alloc _ _) hg⟩

theorem eqDatagramR_any (c : Int) (df dt : Int) (a b : Option Addr) (la ca lb cb : Nat) (zs : List Int) (w : World) (ha : Rd w a la ca zs) (hb : Rd w b lb cb zs) :
    Calls Try.prog 34 #[.agg #[.int .i64 c, .int .i64 df, .int .i64 dt, .slice a la ca], .agg #[.int .i64 c, .int .i64 df, .int .i64 dt, .slice b lb cb]] w fun e w' => e = .returned (.bool true) ∧ Below w.heap.size w w' := by
  have K := Lib.hid (fun W (hW : Below w.heap.size w W) => eqDatagram_t df dt a b la ca lb cb zs W (ha.below hW) (hb.below hW))
  go_enter Try.func34, Try.ntmps34
  go_wp2_with fail
  refine (K.out _ (((Below.refl _ _).alloc (Nat.le_refl _) _).alloc (by simp) _)).mono ?_
  rintro e w1 ⟨rfl, hb1⟩
  go_wp2
  go_ret
  exact ⟨rfl, (((Below.refl _ _).alloc (Nat.le_refl _) _).alloc (by simp) _).trans (hb1.mono (by simp; omega))⟩

set_option maxHeartbeats 4000000 in
theorem exactReadDatagram (pf pt : Int) (a : Option Addr) (len cap : Nat) (zs : List Int) (c : Int) (df dt : Int) (rs : List Int) (w : World) (h : Rd w a len cap zs)
    (hS : ∀ (a' : Option Addr) (l' c' : Nat) (W : World), Rd W a' l' c' zs → Calls Try.prog 18 #[.int .i64 pf, .int .i64 pt, .slice a' l' c'] W (DatagramRes W c df dt rs))
    (hI : ∀ (a' : Option Addr) (l' c' : Nat) (W : World), Rd W a' l' c' zs → Calls Try.prog 13 #[.int .i64 pf, .int .i64 pt, .slice a' l' c'] W (DatagramRes W c df dt rs)) (hB : rs.length ≤ 700) :
    Calls Try.prog 7 #[.int .i64 pf, .int .i64 pt, .slice a len cap] w fun e w' => e = .returned (.bool true) ∧ Below w.heap.size w w' := by
  by_cases hbig : len ≤ 1048576
  · have K1 := Lib.hid hS
    have K2 := Lib.hid hI
    have hrs : rs.length ≤ 700 := hB
    have T := Lib.hid (fun W (hW : Below w.heap.size w W) => toByteS_any a len cap zs W (h.below hW) hbig)
    have hq : eqL zs zs = true := decide_eq_true rfl
    clear hS hI hB h
    go_enter Try.func7, Try.ntmps7
    go_wp2_with fail
    refine (T.out _ (Below.refl _ _)).mono ?_
    rintro e w1 ⟨rfl, o1, b1⟩
    have B1 := Lib.hid b1
    clear b1
    go_wp2_with fail
    refine (K1.out _ _ _ _ o1.rd).mono ?_
    rintro e w2 ⟨a2, l2, k2, rfl, o2, b2⟩
    have B2 : Hid (Below w.heap.size w (w2.alloc (.cells #[.int .i64 c, .int .i64 df, .int .i64 dt, .slice a2 l2 k2] 34))) := (B1.out.trans (b2.mono B1.out.size)).alloc (Nat.le_trans B1.out.size b2.size) _
    have x2 := Box.new w2 34 #[.int .i64 c, .int .i64 df, .int .i64 dt, .slice a2 l2 k2]
    have p2 := o2.alloc (.cells #[.int .i64 c, .int .i64 df, .int .i64 dt, .slice a2 l2 k2] 34)
    have s2 := Nat.le_trans B1.out.size b2.size
    have sW2 : (w2.alloc (.cells #[.int .i64 c, .int .i64 df, .int .i64 dt, .slice a2 l2 k2] 34)).heap.size = w2.heap.size + 1 := World.size_alloc _ _
    have SW2 := Lib.hid sW2
    clear b2 o1 sW2
    generalize hW2 : w2.alloc (.cells #[.int .i64 c, .int .i64 df, .int .i64 dt, .slice a2 l2 k2] 34) = W2 at *
    go_wp2_with fail
    refine (T.out _ B2.out).mono ?_
    rintro e w3 ⟨rfl, o3, b3⟩
    rw [SW2.out] at o3
    have B3 : Hid (Below w.heap.size w w3) := B2.out.trans (b3.mono B2.out.size)
    have x3 := x2.below b3 x2.lt
    have p3 := p2.below b3
    have s3 := (o3.lt _ rfl).2
    dsimp only at s3
    clear b3 x2 p2 hW2
    rw [SW2.out]
    go_wp2_with fail
    refine (K2.out _ _ _ _ o3.rd).mono ?_
    rintro e w4 ⟨a4, l4, k4, rfl, o4, b4⟩
    have hl4 : l4 ≤ 700 := by rw [← o4.length]; exact hrs
    have B4 : Hid (Below w.heap.size w (w4.alloc (.cells #[.int .i64 c, .int .i64 df, .int .i64 dt, .slice a4 l4 k4] 34))) := (B3.out.trans (b4.mono B3.out.size)).alloc (Nat.le_trans B3.out.size b4.size) _
    have x4 := (x3.below b4 x3.lt).alloc (.cells #[.int .i64 c, .int .i64 df, .int .i64 dt, .slice a4 l4 k4] 34)
    have p4 := (p3.below b4).alloc (.cells #[.int .i64 c, .int .i64 df, .int .i64 dt, .slice a4 l4 k4] 34)
    have q4 := (o3.below b4).alloc (.cells #[.int .i64 c, .int .i64 df, .int .i64 dt, .slice a4 l4 k4] 34)
    have r4 := o4.alloc (.cells #[.int .i64 c, .int .i64 df, .int .i64 dt, .slice a4 l4 k4] 34)
    have y4 := Box.new w4 34 #[.int .i64 c, .int .i64 df, .int .i64 dt, .slice a4 l4 k4]
    obtain ⟨z4, c0, c1, c2, c3⟩ := (x3.below b4 x3.lt).four
    have s4 := b4.size
    clear b4 x3 p3
    go_wp2_with fail
    refine (eqDatagramR_any _ _ _ _ _ _ _ _ _ rs _ r4.rd p4.rd).mono ?_
    rintro e w5 ⟨rfl, b5⟩
    have B5 : Hid (Below w.heap.size w w5) := B4.out.trans (b5.mono B4.out.size)
    have x5 := x4.below b5 x4.lt
    have y5 := y4.below b5 y4.lt
    have p5 := p4.below b5
    have q5 := q4.below b5
    have r5 := r4.below b5
    clear b5 x4 y4 p4 q4 r4 z4 c0 c1 c2
    go_wp2_with fail
    refine (T.out _ B5.out).mono ?_
    rintro e w6 ⟨rfl, o6, b6⟩
    have B6 : Hid (Below w.heap.size w w6) := B5.out.trans (b6.mono B5.out.size)
    have x6 := x5.below b6 x5.lt
    have y6 := y5.below b6 y5.lt
    have p6 := p5.below b6
    have q6 := q5.below b6
    have r6 := r5.below b6
    clear b6 x5 y5 p5 q5 r5
    go_wp2_with fail
    refine (eqByteS_any _ _ _ _ _ _ zs zs _ q6.rd o6.rd).mono ?_
    rintro e w7 ⟨rfl, b7⟩
    have B7 : Hid (Below w.heap.size w w7) := B6.out.trans (b7.mono B6.out.size)
    have x7 := x6.below b7 x6.lt
    have y7 := y6.below b7 y6.lt
    have p7 := p6.below b7
    have q7 := q6.below b7
    have r7 := r6.below b7
    clear b7 x6 y6 p6 q6 r6 o6
    go_wp2_with fail
    refine (markByteS_any _ _ _ _ 1 _ _ q7 (by omega) (by omega)).mono ?_
    rintro e w8 ⟨rfl, q8, g8⟩
    have x8 := x7.grown g8 (by simp [Value.ownBlock])
    have y8 := y7.grown g8 (by simp [Value.ownBlock]; omega)
    have p8 := p7.grown g8 (fun x hx e => by have := o2.lt x hx; simp [Value.ownBlock] at e; omega)
    have r8 := r7.grown g8 (fun x hx e => by have := o4.lt x hx; simp [Value.ownBlock] at e; omega)
    have B8 : Hid (Below w.heap.size w w8) := B7.out.grown g8 (by have := B7.out.size; omega) (fun k e => by simp [Value.ownBlock] at e; omega)
    have hn : ¬ ((1 + len : Nat) : Int) < 0 := by omega
    obtain ⟨zx, cx0, cx1, cx2, cx3⟩ := x8.four
    obtain ⟨zy, cy0, cy1, cy2, cy3⟩ := y8.four
    clear g8 x7 y7 p7 q7 r7 q8
    go_wp2_with fail
    refine (eqDatagramR_any _ _ _ _ _ _ _ _ _ rs _ r8.rd p8.rd).mono ?_
    rintro e w9 ⟨rfl, b9⟩
    have B9 : Hid (Below w.heap.size w w9) := B8.out.trans (b9.mono B8.out.size)
    have x9 := x8.below b9 x8.lt
    have y9 := y8.below b9 y8.lt
    have p9 := p8.below b9
    have r9 := r8.below b9
    obtain ⟨zy', cy0', cy1', cy2', cy3'⟩ := y9.four
    clear b9 x8 y8 p8 r8 zx cx0 cx1 cx2 cx3 zy cy0 cy1 cy2 cy3
    go_wp2_with fail
    refine (markDatagramR_any _ _ _ _ _ _ _ 1 _ _ r9 (by omega) (by omega)).mono ?_
    rintro e wa ⟨rfl, ra, ga⟩
    have ya := y9.grown ga (ne_block o4 _ (.inr (Nat.le_refl _)))
    have xa := x9.grown ga (ne_block o4 _ (.inl (by omega)))
    have pa := p9.grown ga (ne_of_lt_own o2 o4 (by omega))
    have Ba : Hid (Below w.heap.size w wa) := B9.out.grown ga (by have := B9.out.size; omega) (fun k e => by
      cases a4 with
      | none => simp [Value.ownBlock] at e
      | some y => simp [Value.ownBlock] at e; have := o4.lt y rfl; omega)
    obtain ⟨zya, cya0, cya1, cya2, cya3⟩ := ya.four
    clear ga x9 y9 p9 r9 zy' cy0' cy1' cy2' cy3'
    go_wp2_with fail
    refine (heldDatagramR_any _ _ _ _ _ _ 1 _ ra.rd (by omega) (by omega)).mono ?_
    rintro e wb ⟨rfl, bb⟩
    have Bb : Hid (Below w.heap.size w wb) := Ba.out.trans (bb.mono Ba.out.size)
    have xb := xa.below bb xa.lt
    have yb := ya.below bb ya.lt
    have pb := pa.below bb
    have rb := ra.below bb
    have hn2 : ¬ ((1 + l4 : Nat) : Int) < 0 := by omega
    have hne : (((1 + l4 : Nat) : Int) != ((1 + l4 : Nat) : Int)) = false := by simp
    clear bb xa ya pa ra zya cya0 cya1 cya2 cya3
    go_wp2_with fail
    refine (T.out _ Bb.out).mono ?_
    rintro e wc ⟨rfl, oc, bc⟩
    have Bc : Hid (Below w.heap.size w wc) := Bb.out.trans (bc.mono Bb.out.size)
    have xc := xb.below bc xb.lt
    have yc := yb.below bc yb.lt
    have pc := pb.below bc
    have rc := rb.below bc
    clear bc xb yb pb rb
    go_wp2_with fail
    refine (K2.out _ _ _ _ oc.rd).mono ?_
    rintro e wd ⟨ad, ld, kd, rfl, od, bd⟩
    have Bd : Hid (Below w.heap.size w (wd.alloc (.cells #[.int .i64 c, .int .i64 df, .int .i64 dt, .slice ad ld kd] 34))) := (Bc.out.trans (bd.mono Bc.out.size)).alloc (Nat.le_trans Bc.out.size bd.size) _
    have yd := (yc.below bd yc.lt).alloc (.cells #[.int .i64 c, .int .i64 df, .int .i64 dt, .slice ad ld kd] 34)
    have pd := (pc.below bd).alloc (.cells #[.int .i64 c, .int .i64 df, .int .i64 dt, .slice ad ld kd] 34)
    have rd := (rc.below bd).alloc (.cells #[.int .i64 c, .int .i64 df, .int .i64 dt, .slice ad ld kd] 34)
    obtain ⟨zxd, cxd0, cxd1, cxd2, cxd3⟩ := (xc.below bd xc.lt).four
    clear bd xc yc pc rc oc
    go_wp2_with fail
    refine (eqDatagramR_any _ _ _ _ _ _ _ _ _ rs _ (od.alloc _).rd pd.rd).mono ?_
    rintro e we ⟨rfl, be'⟩
    have Be : Hid (Below w.heap.size w we) := Bd.out.trans (be'.mono Bd.out.size)
    have ye := yd.below be' yd.lt
    have re := rd.below be'
    obtain ⟨zye, cye0, cye1, cye2, cye3⟩ := ye.four
    clear be' yd pd rd zxd cxd0 cxd1 cxd2 cxd3
    go_wp2_with fail
    refine (heldDatagramR_any _ _ _ _ _ _ 1 _ re.rd (by omega) (by omega)).mono ?_
    rintro e wf ⟨rfl, bf⟩
    have Bf : Hid (Below w.heap.size w wf) := Be.out.trans (bf.mono Be.out.size)
    clear bf
    go_wp2
    go_ret
    exact ⟨rfl, Bf.out⟩
  · go_enter Try.func7, Try.ntmps7
    go_wp2
    go_ret
    exact ⟨rfl, Below.refl _ _⟩
end Go.Proofs.Ytmcllaefjgdbeaa

namespace Go.Proofs.Ytmcllaefjgdbeaa
open Go.ChangeShapes Go.WideShapes Go.ChangeAt Go.RowKit

/-- a row of n bounds, of these cells, in a block of its own -/
def BdV (W : World) (v : Value) (n : Nat) (cs : Array Value) : Prop := ∃ g, v = .slice (some ⟨g, 0, none⟩) n n ∧ Box W g 67 cs
theorem BdV.below {W W' : World} {n : Nat} {v : Value} {cs : Array Value} (hb : Below W.heap.size W W') (h : BdV W v n cs) : BdV W' v n cs := by
  obtain ⟨g, e, x⟩ := h
  exact ⟨g, e, x.below hb x.lt⟩
theorem BdV.new (W : World) (n : Nat) (cs : Array Value) : BdV (W.alloc (.cells cs 67)) (.slice (some ⟨W.heap.size, 0, none⟩) n n) n cs := ⟨_, rfl, Box.new _ _ _⟩

set_option maxRecDepth 20000 in
set_option maxHeartbeats 4000000 in
theorem implDatagramFault (df dt : Int) (a : Option Addr) (len cap : Nat) (w : World) :
    Calls Try.prog 22 #[.agg #[.int .i64 df, .int .i64 dt, .slice a len cap]] w fun e w' => e = .returned (.int .i64 (dgC df dt len)) ∧ Below w.heap.size w w' := by
  obtain ⟨c, hc⟩ : ∃ c, c = dgC df dt len := ⟨_, rfl⟩
  obtain ⟨q, hq⟩ : ∃ q, q = (inB df 1 65535 && inB dt 1 65535) := ⟨_, rfl⟩
  have HC : Hid ((q = true → len ≤ 552 → c = 0) ∧ (q = true → 552 < len → c = 2) ∧ (q = false → c = 3)) := by
    subst hc hq
    unfold dgC dgB
    refine ⟨fun h h' => ?_, fun h h' => ?_, fun h => ?_⟩
    · rw [if_pos h, if_pos h']
    · rw [if_pos h, if_neg (by omega)]
    · rw [h]; rfl
  have HQ := Lib.hid hq
  rw [← hc]
  clear hc hq
  have B0 := Lib.hid ((Below.refl w.heap.size w).alloc (Nat.le_refl _) (.cells #[.int .i64 df, .int .i64 dt, .slice a len cap] 25))
  have X0 := Lib.hid (Box.new w 25 #[.int .i64 df, .int .i64 dt, .slice a len cap])
  go_enter Try.func22, Try.ntmps22
  go_wp2_with fail
  obtain ⟨n0, hn0⟩ : ∃ n0, n0 = w.heap.size := ⟨_, rfl⟩
  generalize w.alloc (.cells #[.int .i64 df, .int .i64 dt, .slice a len cap] 25) = W0 at *
  have SS := Lib.hid (show ∀ W, Hid (Below W0.heap.size W0 W) → W.cell? ⟨w.heap.size, 0, none⟩ = some (.int .i64 df) ∧ W.cell? ⟨w.heap.size, 1, none⟩ = some (.int .i64 dt) ∧ Hid (Below W0.heap.size W0 W) from fun W h => by
    obtain ⟨_, x0, x1, _⟩ := (X0.out.below h.out X0.out.lt).three
    exact ⟨x0, x1, h⟩)
  have T1 := Lib.hid (Below.refl W0.heap.size W0)
  have hnn := Lib.hid hn0
  have hn0 : n0 ≤ W0.heap.size := by rw [hnn.out]; exact B0.out.size
  have TD := kDrew T1
  refine wp_region_held_drew (S := fun W => W.cell? ⟨w.heap.size, 0, none⟩ = some (.int .i64 df) ∧ W.cell? ⟨w.heap.size, 1, none⟩ = some (.int .i64 dt) ∧ Hid (Below W0.heap.size W0 W)) (by kernel_rfl) (SS.out _ TD) (fun hHeld => ?_)
  refine wpAnyH_take (i := 0) (v := ?_) (by simp only [List.getElem?_toArray, List.getElem?_cons_zero]; exact rfl) (by kernel_rfl) (by kernel_rfl) (by kernel_rfl) (by exact fun _ _ _ h => h) (Or.inl ⟨by rfl, ?_⟩) hHeld ?_
  rotate_left
  · intro w' hSw
    obtain ⟨s0, s1, _⟩ := hSw
    go_simp
    try with_reducible rfl
  try simp only [Act.put, List.setIfInBounds_toArray, List.set_cons_zero, List.set_cons_succ]
  refine wpAnyH_take (i := 1) (v := ?_) (by simp only [List.getElem?_toArray, List.getElem?_cons_zero, List.getElem?_cons_succ]; exact rfl) (by kernel_rfl) (by kernel_rfl) (by kernel_rfl) (by exact fun _ _ _ h => h) (Or.inl ⟨by rfl, ?_⟩) hHeld ?_
  rotate_left
  · intro w' hSw
    obtain ⟨s0, s1, _⟩ := hSw
    go_simp
    try with_reducible rfl
  try simp only [Act.put, List.setIfInBounds_toArray, List.set_cons_zero, List.set_cons_succ]
  refine wpAnyH_take (i := 3) (v := ?_) (by simp only [List.getElem?_toArray, List.getElem?_cons_zero, List.getElem?_cons_succ]; exact rfl) (by kernel_rfl) (by kernel_rfl) (by kernel_rfl) (by exact fun _ _ _ h => h) (Or.inl ⟨by rfl, ?_⟩) hHeld ?_
  rotate_left
  · intro w' hSw
    obtain ⟨s0, s1, _⟩ := hSw
    go_simp
    try with_reducible rfl
  try simp only [Act.put, List.setIfInBounds_toArray, List.set_cons_zero, List.set_cons_succ]
  refine wpAnyH_take (i := 4) (v := ?_) (by simp only [List.getElem?_toArray, List.getElem?_cons_zero, List.getElem?_cons_succ]; exact rfl) (by kernel_rfl) (by kernel_rfl) (by kernel_rfl) (by exact fun _ _ _ h => h) (Or.inl ⟨by rfl, ?_⟩) hHeld ?_
  rotate_left
  · intro w' hSw
    obtain ⟨s0, s1, _⟩ := hSw
    go_simp
    try with_reducible rfl
  try simp only [Act.put, List.setIfInBounds_toArray, List.set_cons_zero, List.set_cons_succ]
  refine flow_go (Inv := fun listed ac W => ∃ v5 v8 v9 v10 v11 : Value, ac = { tmps := #[.agg #[.int .i64 df, .int .i64 dt, .slice a len cap], .pointer (some ⟨w.heap.size, 0, none⟩), .int .i64 0, .pointer (some ⟨w.heap.size, 0, none⟩), .int .i64 df, v5, .pointer (some ⟨w.heap.size, 1, none⟩), .int .i64 dt, v8, v9, v10, v11, undef, undef, undef, undef], defers := [] } ∧ Hid (Below W0.heap.size W0 W) ∧ Fl listed 2 (EqV v5 (.agg #[.int .i64 df, .int .i64 1, .int .i64 65535])) ∧ Fl listed 5 (EqV v8 (.agg #[.int .i64 dt, .int .i64 1, .int .i64 65535])) ∧ Fl listed 6 (BdV W v9 2 #[.int .i64 df, .int .i64 1, .int .i64 65535, .int .i64 dt, .int .i64 1, .int .i64 65535]) ∧ Fl listed 7 (EqV v10 (.bool q)) ∧ Fl listed 8 (EqV v11 (.bool (!q)))) [2, 5, 6, 7, 8] (by kernel_rfl) (by kernel_rfl) ⟨_, _, _, _, _, rfl, TD, Fl.not (by kernel_rfl), Fl.not (by kernel_rfl), Fl.not (by kernel_rfl), Fl.not (by kernel_rfl), Fl.not (by kernel_rfl)⟩
    (FlowAll.cons [] (by simp only [List.getElem?_toArray, List.getElem?_cons_zero, List.getElem?_cons_succ]; exact rfl) (by kernel_rfl) (fun listed ac W hI hu hd K hK => ?_)
      (FlowAll.cons [] (by simp only [List.getElem?_toArray, List.getElem?_cons_zero, List.getElem?_cons_succ]; exact rfl) (by kernel_rfl) (fun listed ac W hI hu hd K hK => ?_)
      (FlowAll.cons [2, 5] (by simp only [List.getElem?_toArray, List.getElem?_cons_zero, List.getElem?_cons_succ]; exact rfl) (by kernel_rfl) (fun listed ac W hI hu hd K hK => ?_)
      (FlowAll.cons [6] (by simp only [List.getElem?_toArray, List.getElem?_cons_zero, List.getElem?_cons_succ]; exact rfl) (by kernel_rfl) (fun listed ac W hI hu hd K hK => ?_)
      (FlowAll.cons [7] (by simp only [List.getElem?_toArray, List.getElem?_cons_zero, List.getElem?_cons_succ]; exact rfl) (by kernel_rfl) (fun listed ac W hI hu hd K hK => ?_)
      FlowAll.nil)))))
    (fun listed ac W hI hall => ?_)
  · obtain ⟨v5, v8, v9, v10, v11, rfl, TB, f2, f5, f6, f7, f8⟩ := hI
    have hnW : n0 ≤ W.heap.size := Nat.le_trans hn0 (kSize TB)
    refine want_none (by exact rfl) ?_
    go_wp2_with fail
    refine (portBound_any df _).mono ?_
    rintro e w' ⟨rfl, hb0⟩
    go_wp2_with fail
    have hb : Below W.heap.size W _ := hb0
    have TB' := kCall hb (kSize TB) TB
    refine hK.out _ _ (SS.out _ TB') ?_
    exact ⟨_, _, _, _, _, rfl, TB', Fl.new (EqV.rfl _), f5.keep (by decide) (keepE hb), f6.keep (by decide) (BdV.below hb), f7.keep (by decide) (keepE hb), f8.keep (by decide) (keepE hb)⟩
  · obtain ⟨v5, v8, v9, v10, v11, rfl, TB, f2, f5, f6, f7, f8⟩ := hI
    have hnW : n0 ≤ W.heap.size := Nat.le_trans hn0 (kSize TB)
    refine want_none (by exact rfl) ?_
    go_wp2_with fail
    refine (portBound_any dt _).mono ?_
    rintro e w' ⟨rfl, hb0⟩
    go_wp2_with fail
    have hb : Below W.heap.size W _ := hb0
    have TB' := kCall hb (kSize TB) TB
    refine hK.out _ _ (SS.out _ TB') ?_
    exact ⟨_, _, _, _, _, rfl, TB', f2.keep (by decide) (keepE hb), Fl.new (EqV.rfl _), f6.keep (by decide) (BdV.below hb), f7.keep (by decide) (keepE hb), f8.keep (by decide) (keepE hb)⟩
  · obtain ⟨v5, v8, v9, v10, v11, rfl, TB, f2, f5, f6, f7, f8⟩ := hI
    have hnW : n0 ≤ W.heap.size := Nat.le_trans hn0 (kSize TB)
    obtain ⟨rfl⟩ := f2.get (hd 2 (by simp))
    obtain ⟨rfl⟩ := f5.get (hd 5 (by simp))
    refine want_none (by exact rfl) ?_
    go_wp2_with fail
    have hb : Below W.heap.size W _ := bAlloc W (.cells #[.int .i64 df, .int .i64 1, .int .i64 65535, .int .i64 dt, .int .i64 1, .int .i64 65535] 67)
    have TB' := kCall hb (kSize TB) TB
    refine hK.out _ _ (SS.out _ TB') ?_
    exact ⟨_, _, _, _, _, rfl, TB', f2.keep (by decide) (keepE hb), f5.keep (by decide) (keepE hb), Fl.new (BdV.new _ _ _), f7.keep (by decide) (keepE hb), f8.keep (by decide) (keepE hb)⟩
  · obtain ⟨v5, v8, v9, v10, v11, rfl, TB, f2, f5, f6, f7, f8⟩ := hI
    have hnW : n0 ≤ W.heap.size := Nat.le_trans hn0 (kSize TB)
    obtain ⟨g, rfl, xG⟩ := f6.get (hd 6 (by simp))
    refine want_none (by exact rfl) ?_
    go_wp2_with fail
    refine (within2 g _ df 1 65535 dt 1 65535 _ xG).mono ?_
    rintro e w' ⟨rfl, hb0⟩
    rw [← HQ.out]
    go_wp2_with fail
    have hb : Below W.heap.size W _ := hb0
    have TB' := kCall hb (kSize TB) TB
    refine hK.out _ _ (SS.out _ TB') ?_
    exact ⟨_, _, _, _, _, rfl, TB', f2.keep (by decide) (keepE hb), f5.keep (by decide) (keepE hb), f6.keep (by decide) (BdV.below hb), Fl.new (EqV.rfl _), f8.keep (by decide) (keepE hb)⟩
  · obtain ⟨v5, v8, v9, v10, v11, rfl, TB, f2, f5, f6, f7, f8⟩ := hI
    have hnW : n0 ≤ W.heap.size := Nat.le_trans hn0 (kSize TB)
    obtain ⟨rfl⟩ := f7.get (hd 7 (by simp))
    refine want_none (by exact rfl) ?_
    go_wp2_with fail
    refine hK.out _ _ (SS.out _ TB) ?_
    exact ⟨_, _, _, _, _, rfl, TB, f2.keep (by decide) id, f5.keep (by decide) id, f6.keep (by decide) id, f7.keep (by decide) id, Fl.new (EqV.rfl _)⟩
  · obtain ⟨v5, v8, v9, v10, v11, rfl, TB, f2, f5, f6, f7, f8⟩ := hI
    have hnW : n0 ≤ W.heap.size := Nat.le_trans hn0 (kSize TB)
    obtain ⟨rfl⟩ := f8.get (hall 8 (by decide))
    have B2 := Lib.hid (B0.out.trans (TB.out.mono B0.out.size))
    have X2 := Lib.hid (X0.out.below TB.out X0.out.lt)
    obtain ⟨_, x0, x1, x2⟩ := X2.out.three
    clear f2 f5 f6 f7 f8 TB hall
    cases q
    · go_wp2
      go_ret
      exact ⟨ret_i (HC.out.2.2 (by simp)).symm, B2.out⟩
    rcases Nat.lt_or_ge 552 len with hl | hl
    · have hl' : ¬ len ≤ 552 := Nat.not_le.2 hl
      go_wp2
      go_ret
      exact ⟨ret_i (HC.out.2.1 (by simp) hl).symm, B2.out⟩
    · have hl' : len ≤ 552 := hl
      go_wp2
      go_ret
      exact ⟨ret_i (HC.out.1 (by simp) hl).symm, B2.out⟩

theorem datagramFault_law (df dt : Int) (a : Option Addr) (len cap : Nat) (zs : List Int) (w : World) (hr : Rd w a len cap zs) :
    Calls Try.prog 5 #[.agg #[.int .i64 df, .int .i64 dt, .slice a len cap]] w fun e w' => e = .returned (.bool true) ∧ Below w.heap.size w w' :=
  exactDatagramFault df dt a len cap zs w hr (dgC df dt zs.length) (fun a' l' c' W h => by rw [h.length]; exact specDatagramFault df dt a' l' c' W) (fun a' l' c' W h => by rw [h.length]; exact implDatagramFault df dt a' l' c' W)

set_option maxHeartbeats 1000000 in
theorem implSameDatagrams (df dt : Int) (a : Option Addr) (len cap : Nat) (zs : List Int) (df' dt' : Int) (a' : Option Addr) (len' cap' : Nat) (zs' : List Int) (w : World) (hr : Rd w a len cap zs) (hr' : Rd w a' len' cap' zs') :
    Calls Try.prog 19 #[.agg #[.int .i64 df, .int .i64 dt, .slice a len cap], .agg #[.int .i64 df', .int .i64 dt', .slice a' len' cap']] w fun e w' => e = .returned (.bool (sameD df dt zs df' dt' zs')) ∧ Below w.heap.size w w' := by
  have B0 := Lib.hid (((Below.refl w.heap.size w).alloc (Nat.le_refl _) (.cells #[.int .i64 df, .int .i64 dt, .slice a len cap] 25)).alloc (by simp) (.cells #[.int .i64 df', .int .i64 dt', .slice a' len' cap'] 25))
  have K := Lib.hid (fun W (hW : Below w.heap.size w W) => equal_any a len cap zs a' len' cap' zs' W (hr.below hW) (hr'.below hW))
  have H : Hid (sameD df dt zs df' dt' zs' = ((df == df') && (dt == dt') && eqL zs zs')) := by simp [Hid, sameD, BEq.beq]
  clear hr hr'
  generalize sameD df dt zs df' dt' zs' = v at *
  generalize eqL zs zs' = q at *
  cases m0 : (df == df')
  case' true => cases m1 : (dt == dt')
  all_goals
    go_enter Try.func19, Try.ntmps19
    go_wp2_with (go_at_call 64; refine (K.out _ B0.out).mono ?_; rintro e w' ⟨rfl, rfl⟩)
    go_ret
    exact ⟨ret_b (by rw [H.out]; simp [*]), B0.out⟩

theorem sameDatagrams_law (df dt : Int) (a : Option Addr) (len cap : Nat) (zs : List Int) (df' dt' : Int) (a' : Option Addr) (len' cap' : Nat) (zs' : List Int) (w : World) (hr : Rd w a len cap zs) (hr' : Rd w a' len' cap' zs') :
    Calls Try.prog 8 #[.agg #[.int .i64 df, .int .i64 dt, .slice a len cap], .agg #[.int .i64 df', .int .i64 dt', .slice a' len' cap']] w fun e w' => e = .returned (.bool true) ∧ Below w.heap.size w w' :=
  exactSameDatagrams df dt a len cap zs df' dt' a' len' cap' zs' w hr hr' (sameD df dt zs df' dt' zs') (fun b l c b' l' c' W h h' => specSameDatagrams df dt b l c zs df' dt' b' l' c' zs' W h h') (fun b l c b' l' c' W h h' => implSameDatagrams df dt b l c zs df' dt' b' l' c' zs' W h h')
end Go.Proofs.Ytmcllaefjgdbeaa

namespace Go.Proofs.Ytmcllaefjgdbeaa
open Go.ChangeShapes Go.WideShapes Go.ChangeAt Go.RowKit

set_option maxHeartbeats 1000000 in
theorem exactPseudoHead (f t p n : Int) (w : World) (c : Int) (zs : List Int) (hz6 : zs.length ≤ 700) (h1 : ∀ W, Calls Try.prog 20 #[.int .i64 f, .int .i64 t, .int .i64 p, .int .i64 n] W (Packed W c zs)) (h2 : ∀ W, Calls Try.prog 15 #[.int .i64 f, .int .i64 t, .int .i64 p, .int .i64 n] W (Packed W c zs)) :
    Calls Try.prog 4 #[.int .i64 f, .int .i64 t, .int .i64 p, .int .i64 n] w fun e w' => e = .returned (.bool true) ∧ Below w.heap.size w w' := by
  have K1 := Lib.hid h1
  have K2 := Lib.hid h2
  clear h1 h2
  go_enter Try.func4, Try.ntmps4
  go_wp2_with fail
  refine (K1.out _).mono ?_
  rintro e w1 ⟨a1, l1, k1, rfl, o1, hb1⟩
  go_wp2_with fail
  refine (K2.out _).mono ?_
  rintro e w2 ⟨a2, l2, k2, rfl, o2, hb2⟩
  have hl2 : l2 ≤ 700 := by rw [← o2.length]; exact hz6
  have x1 := (Box.new w1 29 #[.int .i64 c, .slice a1 l1 k1]).below hb2 (by simp)
  obtain ⟨z1, c10, c11⟩ := x1.two
  have p1 := (o1.alloc (.cells #[.int .i64 c, .slice a1 l1 k1] 29)).below hb2
  have B2 : Hid (Below w.heap.size w w2) := hb1.trans (((Below.refl _ _).alloc hb1.size _).trans (hb2.mono (by have := hb1.size; simp; omega)))
  have s2 : w1.heap.size + 1 ≤ w2.heap.size := by have := hb2.size; simp at this; omega
  have s1 := hb1.size
  simp only [World.size_alloc] at o2
  clear hb2 hb1
  go_wp2_with fail
  refine (eqBytes_any _ _ _ _ _ _ _ _ zs zs _ (o2.alloc _).rd (p1.alloc _).rd rfl rfl).mono ?_
  rintro e w3 ⟨rfl, hb3⟩
  have x2 := (Box.new w2 29 #[.int .i64 c, .slice a2 l2 k2]).below hb3 (by simp)
  have x1 := (x1.alloc (.cells #[.int .i64 c, .slice a2 l2 k2] 29)).below hb3 (by simp; omega)
  have p1 := (p1.alloc (.cells #[.int .i64 c, .slice a2 l2 k2] 29)).below hb3
  have p2 := (o2.alloc (.cells #[.int .i64 c, .slice a2 l2 k2] 29)).below hb3
  have B3 : Hid (Below w.heap.size w w3) := (B2.out.alloc (by omega) _).trans (hb3.mono (by simp; omega))
  obtain ⟨z2, c20, c21⟩ := x2.two
  clear c10 c11 z1 hb3
  go_wp2_with fail
  refine (markBytes_any _ _ _ _ _ 1 _ _ p2 (by omega) (by omega)).mono ?_
  rintro e w4 ⟨rfl, q2, hg4⟩
  have x2 := x2.grown hg4 (ne_block o2 _ (.inr (Nat.le_refl _)))
  have x1 := x1.grown hg4 (ne_block o2 _ (.inl (by omega)))
  have p1 := p1.grown hg4 (ne_of_lt_own o1 o2 (by omega))
  have B4 : Hid (Below w.heap.size w w4) := B3.out.grown hg4 (by have := B3.out.size; omega) (fun k e => by
    cases a2 with
    | none => simp [Value.ownBlock] at e
    | some y => simp [Value.ownBlock] at e; have := o2.lt y rfl; omega)
  obtain ⟨z2', c20', c21'⟩ := x2.two
  clear c20 c21 z2 hg4 p2
  go_wp2_with fail
  refine (heldBytes_any _ _ _ _ 1 _ q2.rd (by omega) (by omega)).mono ?_
  rintro e w5 ⟨rfl, hb5⟩
  have x2 := x2.below hb5 x2.lt
  have x1 := x1.below hb5 x1.lt
  have p1 := p1.below hb5
  have q2 := q2.below hb5
  have B5 : Hid (Below w.heap.size w w5) := B4.out.trans (hb5.mono (by have := B4.out.size; omega))
  have s5 := hb5.size
  have hn : ¬ ((1 + l2 : Nat) : Int) < 0 := by omega
  have hne : (((1 + l2 : Nat) : Int) != ((1 + l2 : Nat) : Int)) = false := by simp
  clear c20' c21' z2' hb5
  go_wp2_with fail
  refine (K2.out _).mono ?_
  rintro e w6 ⟨a6, l6, k6, rfl, o6, hb6⟩
  have y2 := (x2.below hb6 x2.lt).alloc (.cells #[.int .i64 c, .slice a6 l6 k6] 29)
  have y1 := (x1.below hb6 x1.lt).alloc (.cells #[.int .i64 c, .slice a6 l6 k6] 29)
  have p1 := (p1.below hb6).alloc (.cells #[.int .i64 c, .slice a6 l6 k6] 29)
  have q2 := (q2.below hb6).alloc (.cells #[.int .i64 c, .slice a6 l6 k6] 29)
  have B6 : Hid (Below w.heap.size w (w6.alloc (.cells #[.int .i64 c, .slice a6 l6 k6] 29))) := (B5.out.trans (hb6.mono (by have := B5.out.size; omega))).alloc (by have := B5.out.size; have := hb6.size; omega) _
  obtain ⟨u1, d10, d11⟩ := (x1.below hb6 x1.lt).two
  have s6 := hb6.size
  clear hb6
  go_wp2_with fail
  refine (eqBytes_any _ _ _ _ _ _ _ _ zs zs _ (o6.alloc _).rd p1.rd rfl rfl).mono ?_
  rintro e w7 ⟨rfl, hb7⟩
  have y2 := y2.below hb7 y2.lt
  have q2 := q2.below hb7
  have B7 : Hid (Below w.heap.size w w7) := B6.out.trans (hb7.mono (by have := B6.out.size; omega))
  obtain ⟨v2, e20, e21⟩ := y2.two
  clear hb7 u1 d10 d11
  go_wp2_with fail
  refine (heldBytes_any _ _ _ _ 1 _ q2.rd (by omega) (by omega)).mono ?_
  rintro e w8 ⟨rfl, hb8⟩
  have B8 : Hid (Below w.heap.size w w8) := B7.out.trans (hb8.mono (by have := B7.out.size; omega))
  clear hb8
  go_wp2
  go_ret
  exact ⟨rfl, B8.out⟩
end Go.Proofs.Ytmcllaefjgdbeaa

namespace Go.Proofs.Ytmcllaefjgdbeaa
open Go.ChangeShapes Go.WideShapes Go.ChangeAt Go.RowKit

set_option maxRecDepth 20000 in
set_option maxHeartbeats 4000000 in
theorem implPseudoHead (f t p n : Int) (w : World) :
    Calls Try.prog 15 #[.int .i64 f, .int .i64 t, .int .i64 p, .int .i64 n] w (Packed w (phC f t p n) (phP f t p n)) := by
  obtain ⟨q, hq⟩ : ∃ q, q = (inB f 0 4294967295 && inB t 0 4294967295 && inB p 0 255 && inB n 0 65535) := ⟨_, rfl⟩
  obtain ⟨C, hC⟩ : ∃ C, C = phC f t p n := ⟨_, rfl⟩
  obtain ⟨L, hL⟩ : ∃ L, L = phP f t p n := ⟨_, rfl⟩
  rw [← hC, ← hL]
  have HP : Hid ((q = true → (0 ≤ f ∧ f < 4294967296) ∧ (0 ≤ t ∧ t < 4294967296) ∧ (0 ≤ p ∧ p ≤ 255) ∧ (0 ≤ n ∧ n < 65536) ∧ C = 0 ∧ L = pseudoL f t p n) ∧ (q = false → C = 3 ∧ L = [])) := by
    have e : phB f t p n = q := by rw [hq]; rfl
    refine ⟨fun h => ?_, fun h => ?_⟩
    · obtain ⟨h0, h1, h2, h3⟩ := phB_parts (e.trans h)
      exact ⟨h0, h1, h2, h3, by rw [hC, phC, if_pos (e.trans h)], by rw [hL, phP, if_pos (e.trans h)]⟩
    · have h' : ¬ phB f t p n = true := by rw [e, h]; simp
      exact ⟨by rw [hC, phC, if_neg h'], by rw [hL, phP, if_neg h']⟩
  have HQ := Lib.hid hq
  clear hq hC hL
  have B0 := Lib.hid ((((Below.refl w.heap.size w).alloc (Nat.le_refl _) (.cells #[.int .i64 0, .slice none 0 0] 29)).alloc (by simp) (.cells #[.int .i64 p, .int .i64 0, .int .i64 255] 67)).alloc (by simp; omega) (.cells #[.int .i64 n, .int .i64 0, .int .i64 65535] 67))
  have R0 := Lib.hid (((Box.new w 29 #[.int .i64 0, .slice none 0 0]).alloc (.cells #[.int .i64 p, .int .i64 0, .int .i64 255] 67)).alloc (.cells #[.int .i64 n, .int .i64 0, .int .i64 65535] 67))
  have X1 := Lib.hid ((Box.new (w.alloc (.cells #[.int .i64 0, .slice none 0 0] 29)) 67 #[.int .i64 p, .int .i64 0, .int .i64 255]).alloc (.cells #[.int .i64 n, .int .i64 0, .int .i64 65535] 67))
  have X2 := Lib.hid (Box.new ((w.alloc (.cells #[.int .i64 0, .slice none 0 0] 29)).alloc (.cells #[.int .i64 p, .int .i64 0, .int .i64 255] 67)) 67 #[.int .i64 n, .int .i64 0, .int .i64 65535])
  simp only [World.size_alloc] at X1 X2
  go_enter Try.func15, Try.ntmps15
  go_wp2_with fail
  obtain ⟨n0, hn0⟩ : ∃ n0, n0 = w.heap.size := ⟨_, rfl⟩
  generalize (((w.alloc (.cells #[.int .i64 0, .slice none 0 0] 29)).alloc (.cells #[.int .i64 p, .int .i64 0, .int .i64 255] 67)).alloc (.cells #[.int .i64 n, .int .i64 0, .int .i64 65535] 67)) = W0 at *
  have SS := Lib.hid (show ∀ W, Hid (Below W0.heap.size W0 W) → W.cell? ⟨w.heap.size + 1, 0, none⟩ = some (.int .i64 p) ∧ W.cell? ⟨w.heap.size + 1, 1, none⟩ = some (.int .i64 0) ∧ W.cell? ⟨w.heap.size + 1, 2, none⟩ = some (.int .i64 255) ∧ W.cell? ⟨w.heap.size + 1 + 1, 0, none⟩ = some (.int .i64 n) ∧ W.cell? ⟨w.heap.size + 1 + 1, 1, none⟩ = some (.int .i64 0) ∧ W.cell? ⟨w.heap.size + 1 + 1, 2, none⟩ = some (.int .i64 65535) ∧ Hid (Below W0.heap.size W0 W) from fun W h => by
    obtain ⟨_, x0, x1, x2⟩ := (X1.out.below h.out X1.out.lt).three
    obtain ⟨_, y0, y1, y2⟩ := (X2.out.below h.out X2.out.lt).three
    exact ⟨x0, x1, x2, y0, y1, y2, h⟩)
  have T1 := Lib.hid (Below.refl W0.heap.size W0)
  have hnn := Lib.hid hn0
  have hn0 : n0 ≤ W0.heap.size := by rw [hnn.out]; exact B0.out.size
  have TD := kDrew T1
  refine wp_region_held_drew (S := fun W => W.cell? ⟨w.heap.size + 1, 0, none⟩ = some (.int .i64 p) ∧ W.cell? ⟨w.heap.size + 1, 1, none⟩ = some (.int .i64 0) ∧ W.cell? ⟨w.heap.size + 1, 2, none⟩ = some (.int .i64 255) ∧ W.cell? ⟨w.heap.size + 1 + 1, 0, none⟩ = some (.int .i64 n) ∧ W.cell? ⟨w.heap.size + 1 + 1, 1, none⟩ = some (.int .i64 0) ∧ W.cell? ⟨w.heap.size + 1 + 1, 2, none⟩ = some (.int .i64 65535) ∧ Hid (Below W0.heap.size W0 W)) (by kernel_rfl) (SS.out _ TD) (fun hHeld => ?_)
  refine wpAnyH_take (i := 0) (v := ?_) (by simp only [List.getElem?_toArray, List.getElem?_cons_zero]; exact rfl) (by kernel_rfl) (by kernel_rfl) (by kernel_rfl) (by exact fun _ _ _ h => h) (Or.inl ⟨by rfl, ?_⟩) hHeld ?_
  rotate_left
  · intro w' hSw
    obtain ⟨s0, s1, s2, s3, s4, s5, _⟩ := hSw
    go_simp
    try with_reducible rfl
  try simp only [Act.put, List.setIfInBounds_toArray, List.set_cons_zero, List.set_cons_succ]
  refine wpAnyH_take (i := 2) (v := ?_) (by simp only [List.getElem?_toArray, List.getElem?_cons_zero, List.getElem?_cons_succ]; exact rfl) (by kernel_rfl) (by kernel_rfl) (by kernel_rfl) (by exact fun _ _ _ h => h) (Or.inl ⟨by rfl, ?_⟩) hHeld ?_
  rotate_left
  · intro w' hSw
    obtain ⟨s0, s1, s2, s3, s4, s5, _⟩ := hSw
    go_simp
    try with_reducible rfl
  try simp only [Act.put, List.setIfInBounds_toArray, List.set_cons_zero, List.set_cons_succ]
  refine wpAnyH_take (i := 4) (v := ?_) (by simp only [List.getElem?_toArray, List.getElem?_cons_zero, List.getElem?_cons_succ]; exact rfl) (by kernel_rfl) (by kernel_rfl) (by kernel_rfl) (by exact fun _ _ _ h => h) (Or.inl ⟨by rfl, ?_⟩) hHeld ?_
  rotate_left
  · intro w' hSw
    obtain ⟨s0, s1, s2, s3, s4, s5, _⟩ := hSw
    go_simp
    try with_reducible rfl
  try simp only [Act.put, List.setIfInBounds_toArray, List.set_cons_zero, List.set_cons_succ]
  refine wpAnyH_take (i := 5) (v := ?_) (by simp only [List.getElem?_toArray, List.getElem?_cons_zero, List.getElem?_cons_succ]; exact rfl) (by kernel_rfl) (by kernel_rfl) (by kernel_rfl) (by exact fun _ _ _ h => h) (Or.inl ⟨by rfl, ?_⟩) hHeld ?_
  rotate_left
  · intro w' hSw
    obtain ⟨s0, s1, s2, s3, s4, s5, _⟩ := hSw
    go_simp
    try with_reducible rfl
  try simp only [Act.put, List.setIfInBounds_toArray, List.set_cons_zero, List.set_cons_succ]
  refine flow_go (Inv := fun listed ac W => ∃ v16 v18 v21 v22 v23 : Value, ac = { tmps := #[.int .i64 f, .int .i64 t, .int .i64 p, .int .i64 n, undef, undef, undef, undef, .pointer (some ⟨w.heap.size, 0, none⟩), .pointer (some ⟨w.heap.size + 1, 0, none⟩), .pointer (some ⟨w.heap.size + 1 + 1, 0, none⟩), .int .i64 p, .agg #[.int .i64 p, .int .i64 0, .int .i64 255], .int .i64 n, .agg #[.int .i64 n, .int .i64 0, .int .i64 65535], .int .i64 f, v16, .int .i64 t, v18, .agg #[.int .i64 p, .int .i64 0, .int .i64 255], .agg #[.int .i64 n, .int .i64 0, .int .i64 65535], v21, v22, v23, undef, undef, undef, undef, undef, undef, undef, undef, undef, undef, undef, undef, undef, undef, undef, undef], defers := [] } ∧ Hid (Below W0.heap.size W0 W) ∧ Fl listed 1 (EqV v16 (.agg #[.int .i64 f, .int .i64 0, .int .i64 4294967295])) ∧ Fl listed 3 (EqV v18 (.agg #[.int .i64 t, .int .i64 0, .int .i64 4294967295])) ∧ Fl listed 6 (BdV W v21 4 #[.int .i64 f, .int .i64 0, .int .i64 4294967295, .int .i64 t, .int .i64 0, .int .i64 4294967295, .int .i64 p, .int .i64 0, .int .i64 255, .int .i64 n, .int .i64 0, .int .i64 65535]) ∧ Fl listed 7 (EqV v22 (.bool q)) ∧ Fl listed 8 (EqV v23 (.bool (!q)))) [1, 3, 6, 7, 8] (by kernel_rfl) (by kernel_rfl) ⟨_, _, _, _, _, rfl, TD, Fl.not (by kernel_rfl), Fl.not (by kernel_rfl), Fl.not (by kernel_rfl), Fl.not (by kernel_rfl), Fl.not (by kernel_rfl)⟩
    (FlowAll.cons [] (by simp only [List.getElem?_toArray, List.getElem?_cons_zero, List.getElem?_cons_succ]; exact rfl) (by kernel_rfl) (fun listed ac W hI hu hd K hK => ?_)
      (FlowAll.cons [] (by simp only [List.getElem?_toArray, List.getElem?_cons_zero, List.getElem?_cons_succ]; exact rfl) (by kernel_rfl) (fun listed ac W hI hu hd K hK => ?_)
      (FlowAll.cons [1, 3] (by simp only [List.getElem?_toArray, List.getElem?_cons_zero, List.getElem?_cons_succ]; exact rfl) (by kernel_rfl) (fun listed ac W hI hu hd K hK => ?_)
      (FlowAll.cons [6] (by simp only [List.getElem?_toArray, List.getElem?_cons_zero, List.getElem?_cons_succ]; exact rfl) (by kernel_rfl) (fun listed ac W hI hu hd K hK => ?_)
      (FlowAll.cons [7] (by simp only [List.getElem?_toArray, List.getElem?_cons_zero, List.getElem?_cons_succ]; exact rfl) (by kernel_rfl) (fun listed ac W hI hu hd K hK => ?_)
      FlowAll.nil)))))
    (fun listed ac W hI hall => ?_)
  · obtain ⟨v16, v18, v21, v22, v23, rfl, TB, f1, f3, f6, f7, f8⟩ := hI
    have hnW : n0 ≤ W.heap.size := Nat.le_trans hn0 (kSize TB)
    refine want_none (by exact rfl) ?_
    go_wp2_with fail
    refine (ipBound_any f _).mono ?_
    rintro e w' ⟨rfl, hb0⟩
    go_wp2_with fail
    have hb : Below W.heap.size W _ := hb0
    have TB' := kCall hb (kSize TB) TB
    refine hK.out _ _ (SS.out _ TB') ?_
    exact ⟨_, _, _, _, _, rfl, TB', Fl.new (EqV.rfl _), f3.keep (by decide) (keepE hb), f6.keep (by decide) (BdV.below hb), f7.keep (by decide) (keepE hb), f8.keep (by decide) (keepE hb)⟩
  · obtain ⟨v16, v18, v21, v22, v23, rfl, TB, f1, f3, f6, f7, f8⟩ := hI
    have hnW : n0 ≤ W.heap.size := Nat.le_trans hn0 (kSize TB)
    refine want_none (by exact rfl) ?_
    go_wp2_with fail
    refine (ipBound_any t _).mono ?_
    rintro e w' ⟨rfl, hb0⟩
    go_wp2_with fail
    have hb : Below W.heap.size W _ := hb0
    have TB' := kCall hb (kSize TB) TB
    refine hK.out _ _ (SS.out _ TB') ?_
    exact ⟨_, _, _, _, _, rfl, TB', f1.keep (by decide) (keepE hb), Fl.new (EqV.rfl _), f6.keep (by decide) (BdV.below hb), f7.keep (by decide) (keepE hb), f8.keep (by decide) (keepE hb)⟩
  · obtain ⟨v16, v18, v21, v22, v23, rfl, TB, f1, f3, f6, f7, f8⟩ := hI
    have hnW : n0 ≤ W.heap.size := Nat.le_trans hn0 (kSize TB)
    obtain ⟨rfl⟩ := f1.get (hd 1 (by simp))
    obtain ⟨rfl⟩ := f3.get (hd 3 (by simp))
    refine want_none (by exact rfl) ?_
    go_wp2_with fail
    have hb : Below W.heap.size W _ := bAlloc W (.cells #[.int .i64 f, .int .i64 0, .int .i64 4294967295, .int .i64 t, .int .i64 0, .int .i64 4294967295, .int .i64 p, .int .i64 0, .int .i64 255, .int .i64 n, .int .i64 0, .int .i64 65535] 67)
    have TB' := kCall hb (kSize TB) TB
    refine hK.out _ _ (SS.out _ TB') ?_
    exact ⟨_, _, _, _, _, rfl, TB', f1.keep (by decide) (keepE hb), f3.keep (by decide) (keepE hb), Fl.new (BdV.new _ _ _), f7.keep (by decide) (keepE hb), f8.keep (by decide) (keepE hb)⟩
  · obtain ⟨v16, v18, v21, v22, v23, rfl, TB, f1, f3, f6, f7, f8⟩ := hI
    have hnW : n0 ≤ W.heap.size := Nat.le_trans hn0 (kSize TB)
    obtain ⟨g, rfl, xG⟩ := f6.get (hd 6 (by simp))
    refine want_none (by exact rfl) ?_
    go_wp2_with fail
    refine (within4 g _ f 0 4294967295 t 0 4294967295 p 0 255 n 0 65535 _ xG).mono ?_
    rintro e w' ⟨rfl, hb0⟩
    rw [← HQ.out]
    go_wp2_with fail
    have hb : Below W.heap.size W _ := hb0
    have TB' := kCall hb (kSize TB) TB
    refine hK.out _ _ (SS.out _ TB') ?_
    exact ⟨_, _, _, _, _, rfl, TB', f1.keep (by decide) (keepE hb), f3.keep (by decide) (keepE hb), f6.keep (by decide) (BdV.below hb), Fl.new (EqV.rfl _), f8.keep (by decide) (keepE hb)⟩
  · obtain ⟨v16, v18, v21, v22, v23, rfl, TB, f1, f3, f6, f7, f8⟩ := hI
    have hnW : n0 ≤ W.heap.size := Nat.le_trans hn0 (kSize TB)
    obtain ⟨rfl⟩ := f7.get (hd 7 (by simp))
    refine want_none (by exact rfl) ?_
    go_wp2_with fail
    refine hK.out _ _ (SS.out _ TB) ?_
    exact ⟨_, _, _, _, _, rfl, TB, f1.keep (by decide) id, f3.keep (by decide) id, f6.keep (by decide) id, f7.keep (by decide) id, Fl.new (EqV.rfl _)⟩
  · obtain ⟨v16, v18, v21, v22, v23, rfl, TB, f1, f3, f6, f7, f8⟩ := hI
    have hnW : n0 ≤ W.heap.size := Nat.le_trans hn0 (kSize TB)
    obtain ⟨rfl⟩ := f8.get (hall 8 (by decide))
    have B2 := Lib.hid (B0.out.trans (TB.out.mono B0.out.size))
    have R2 := Lib.hid (R0.out.below TB.out R0.out.lt)
    clear f1 f3 f6 f7 f8 TB hall SS X1 X2 T1
    cases q
    · obtain ⟨_, r0, r1⟩ := R2.out.two
      have f0 := R2.out.frozen 0
      have f1 := R2.out.frozen 1
      obtain ⟨rfl, rfl⟩ := HP.out.2 rfl
      go_wp2
      exact bodyPost_ret (v := .agg #[.int .i64 3, .slice none 0 0]) (by simp [results, Try.results15, go_sem, r0, r1]) rfl ⟨none, 0, 0, rfl, Own.nil _ _, (B2.out.setCell (by simp) _).setCell (by simp) _⟩
    obtain ⟨h0, h1, h2, h3, rfl, e1⟩ := HP.out.1 rfl
    have HL := Lib.hid (show L = be f 4 ++ (be t 4 ++ ([0, p] ++ be n 2)) by rw [e1]; simp [pseudoL])
    have K0 := Lib.hid (show ∀ W, Calls Try.prog 47 #[.int .i64 f, .int .i64 4] W (Packed W 0 (be f 4)) from fun W => implPack_ok f 4 W h0.1 (by omega) (by simp only [Int.reducePow]; omega))
    have K1 := Lib.hid (show ∀ W, Calls Try.prog 47 #[.int .i64 t, .int .i64 4] W (Packed W 0 (be t 4)) from fun W => implPack_ok t 4 W h1.1 (by omega) (by simp only [Int.reducePow]; omega))
    have K2 := Lib.hid (show ∀ W, Calls Try.prog 47 #[.int .i64 n, .int .i64 2] W (Packed W 0 (be n 2)) from fun W => implPack_ok n 2 W h3.1 (by omega) (by simp only [Int.reducePow]; omega))
    have u1 := u8_in p h2
    have hfb := fld_br
    have h8 : Hid (B8 [0, p]) := by intro m hm; simp at hm; omega
    clear e1 h0 h1 h2 h3 HP HQ
    go_wp2_with fail
    refine (K0.out _).mono ?_
    rintro e w3 ⟨a3, l3, c3, rfl, o3, b3⟩
    obtain rfl : l3 = 4 := o3.length.symm.trans (be_len 4 _)
    have R3 := Lib.hid (R2.out.below b3 R2.out.lt)
    have B3 := Lib.hid (B2.out.trans (b3.mono B2.out.size))
    have O3 := Lib.hid o3.rd
    clear b3 o3 R2 B2
    go_wp2_with fail
    refine (K1.out _).mono ?_
    rintro e w4 ⟨a4, l4, c4, rfl, o4, b4⟩
    obtain rfl : l4 = 4 := o4.length.symm.trans (be_len 4 _)
    have R4 := Lib.hid (R3.out.below b4 R3.out.lt)
    have B4 := Lib.hid (B3.out.trans (b4.mono B3.out.size))
    replace O3 := Lib.hid (O3.out.below b4)
    have O4 := Lib.hid o4.rd
    clear b4 o4 R3 B3
    go_wp2_with fail
    have R4' := Lib.hid (R4.out.alloc (.cells #[.int .u8 0, .int .u8 p] 5))
    have B4' := Lib.hid (B4.out.alloc B4.out.size (.cells #[.int .u8 0, .int .u8 p] 5))
    replace O3 := Lib.hid (O3.out.alloc (.cells #[.int .u8 0, .int .u8 p] 5))
    replace O4 := Lib.hid (O4.out.alloc (.cells #[.int .u8 0, .int .u8 p] 5))
    have O5 : Hid (Rd _ _ 2 2 [0, p]) := Rd.of_box (off := 0) (Box.new w4 5 #[.int .u8 0, .int .u8 p]) rfl (by unfold maxLen; omega) h8.out (fun i hi => by match i, hi with | 0, _ => rfl | 1, _ => rfl)
    generalize hW4 : w4.alloc (.cells #[.int .u8 0, .int .u8 p] 5) = W4 at *
    clear R4 B4 hW4
    refine (K2.out _).mono ?_
    rintro e w6 ⟨a6, l6, c6, rfl, o6, b6⟩
    obtain rfl : l6 = 2 := o6.length.symm.trans (be_len 2 _)
    have R6 := Lib.hid (R4'.out.below b6 R4'.out.lt)
    have B6 := Lib.hid (B4'.out.trans (b6.mono B4'.out.size))
    replace O3 := Lib.hid (O3.out.below b6)
    replace O4 := Lib.hid (O4.out.below b6)
    replace O5 := Lib.hid (O5.out.below b6)
    have O6 := Lib.hid o6.rd
    clear b6 o6 R4' B4'
    go_wp2_with fail
    refine (concat4 _ _ _ _ _ _ _ _ _ _ _ _ _ _ _ _ _ _ _ (Box.new _ _ _) (O3.out.alloc _) (O4.out.alloc _) (O5.out.alloc _) (O6.out.alloc _) (by omega)).mono ?_
    rintro e w7 ⟨a7, l7, c7, rfl, o7, b7⟩
    have R7 := (R6.out.alloc _).below b7 (R6.out.alloc _).lt
    obtain ⟨r0, r1, r2⟩ := R7.two
    have f0 := R7.frozen 0
    have f1 := R7.frozen 1
    have hs6 := B6.out.size
    have hr6 := R6.out.lt
    have B7 := Lib.hid ((B6.out.alloc hs6 (.cells _ 22)).trans (b7.mono (by simp; omega)))
    have hn : Hid (∀ x, a7 = some x → ¬ x.block = w.heap.size) := fun x hx e => by
      have := (o7.lt x hx).1
      simp at this
      omega
    have O7 : Hid (Own w7 w.heap.size a7 l7 c7 L) := by rw [HL.out]; exact o7.rebase (by simp; omega)
    clear o7 b7 O3 O4 O5 O6 R6 B6 R7 hs6 hr6
    go_wp2
    refine bodyPost_ret (v := .agg #[.int .i64 0, .slice a7 l7 c7]) (by simp [results, Try.results15, go_sem, r1, r2]) rfl ⟨_, _, _, rfl, ?_, (B7.out.setCell (by simp) _).setCell (by simp) _⟩
    exact (O7.out.setOther _ _ hn.out).setOther _ _ hn.out

theorem pseudoHead_law (f t p n : Int) (w : World) : Calls Try.prog 4 #[.int .i64 f, .int .i64 t, .int .i64 p, .int .i64 n] w fun e w' => e = .returned (.bool true) ∧ Below w.heap.size w w' :=
  exactPseudoHead f t p n w (phC f t p n) (phP f t p n) (by unfold phP; split; (rw [pseudoL_len]; omega); simp) (fun W => specPseudoHead f t p n W) (fun W => implPseudoHead f t p n W)
end Go.Proofs.Ytmcllaefjgdbeaa

namespace Go.Proofs.Ytmcllaefjgdbeaa
open Go.ChangeShapes Go.WideShapes Go.ChangeAt Go.RowKit

/-- a datagram's bytes, with a sum of 0 -/
def dgH (df dt : Int) (zs : List Int) : List Int := be df 2 ++ be dt 2 ++ be (8 + zs.length) 2 ++ [0, 0] ++ zs
theorem dgH_len (df dt : Int) (zs : List Int) : (dgH df dt zs).length = 8 + zs.length := by simp [dgH, be_len]; omega
/-- the sum that is told -/
def dgT (n : Int) : Int := if n = 0 then 65535 else n
theorem dgT_bd (n : Int) (h : 0 ≤ n ∧ n ≤ 65535) : 0 ≤ dgT n ∧ dgT n ≤ 65535 := by unfold dgT; split <;> omega
def dgL (f t df dt : Int) (zs : List Int) : List Int := ((dgH df dt zs).set 6 (dgT (dgSum f t 17 (dgH df dt zs)) / 256)).set 7 (dgT (dgSum f t 17 (dgH df dt zs)) % 256)
theorem dgL_len (f t df dt : Int) (zs : List Int) : (dgL f t df dt zs).length = 8 + zs.length := by simp [dgL, dgH_len]

set_option maxRecDepth 20000 in
set_option maxHeartbeats 2000000 in
theorem l4Pack_any (f t : Int) (b : Nat) (df dt : Int) (a : Option Addr) (len cap : Nat) (zs : List Int) (w : World) (hx : Box w b 25 #[.int .i64 df, .int .i64 dt, .slice a len cap]) (hr : Rd w a len cap zs)
    (h0 : 0 ≤ f ∧ f < 281474976710656) (h1 : 0 ≤ t ∧ t < 281474976710656) (h2 : 0 ≤ df ∧ df < 281474976710656) (h3 : 0 ≤ dt ∧ dt < 281474976710656) (hl : len ≤ 552) :
    Calls Try.prog 51 #[.int .i64 f, .int .i64 t, .pointer (some ⟨b, 0, none⟩)] w (FreshAny w (dgL f t df dt zs)) := by
  have K0 := Lib.hid (fun W => l1Pack_lit df 2 2 W rfl h2 (by omega))
  have K1 := Lib.hid (fun W => l1Pack_lit dt 2 2 W rfl h3 (by omega))
  have K2 := Lib.hid (fun W => l1Pack_lit (8 + len) 2 2 W rfl (by omega) (by omega))
  have X := Lib.hid hx
  have HR := Lib.hid hr
  have hlt := hx.lt
  obtain ⟨HH, hHH⟩ : ∃ HH, HH = dgH df dt zs := ⟨_, rfl⟩
  have HL : Hid (HH = be df 2 ++ be dt 2 ++ be (8 + len) 2 ++ [0, 0] ++ zs) := by rw [hHH, dgH, hr.length]; rfl
  have hhl : HH.length = 8 + len := by rw [hHH, dgH_len, hr.length]
  have KS := Lib.hid (fun (s : Option Addr) (l c : Nat) (W : World) (hR : Rd W s l c HH) => l4Sum_any f t 17 s l c HH W hR h0 h1 (by omega) (by have := hR.length; omega))
  have hsb := sumV_bd (pseudoL f t 17 HH.length ++ HH)
  obtain ⟨v, hv⟩ : ∃ v, v = dgSum f t 17 HH := ⟨_, rfl⟩
  have hvb : 0 ≤ v ∧ v ≤ 65535 := by rw [hv]; exact hsb
  have hE : dgL f t df dt zs = (HH.set 6 (dgT v / 256)).set 7 (dgT v % 256) := by rw [hv, hHH]; rfl
  rw [hE]
  rw [← hv] at KS
  have LB := Lib.hid (fun W => own_litB2 W W.heap.size 0 0 (by omega) (by omega) (Nat.le_refl _))
  clear h0 h1 h2 h3 hx hr hHH hE hsb hv
  have HHL := Lib.hid hhl
  clear hhl
  have hwr : IntKind.i64.wrap (8 + (len : Int)) = 8 + len := IntWalk.i64_in _ (by omega)
  obtain ⟨_, x0, x1, _⟩ := X.out.three
  go_enter Try.func51, Try.ntmps51
  go_wp2_with fail
  go_region_held3 (fun W => W.cell? ⟨b, 0, none⟩ = some (.int .i64 df) ∧ W.cell? ⟨b, 1, none⟩ = some (.int .i64 dt))
    (first | go_keep | (go_split_ands; exact ⟨keepB hb (by assumption) hlt, keepB hb (by assumption) hlt⟩))
    (first
      | (have q := P2; clear q; refine append_step _ rfl (.tmp 13) (.tmp 18) rfl w.heap.size _ _ _ _ rfl P2.out _ _ _ _ rfl r2.out B2.out.size (by omega) ?_; intro a3 c3 w3 o3 hb; have P3 := Lib.hid o3; have B3 := Lib.hid (B2.out.trans hb))
      | (have q := P1; clear q; go_at_call 76; refine (K1.out _).mono ?_; rintro e w2 ⟨rfl, o2, b2⟩; have P2 := Lib.hid (P1.out.below b2); have r2 := Lib.hid o2.rd; have hb := b2.mono B1.out.size; have B2 := Lib.hid (B1.out.trans hb))
      | (go_at_call 76; refine (K0.out _).mono ?_; rintro e w1 ⟨rfl, o1, b1⟩; have P1 := Lib.hid o1; have hb := b1; have B1 := Lib.hid ((Below.refl w.heap.size w).drew.trans hb)))
  clear o1 b1 o2 b2 hb P1 P2 r2 B1 B2 x0 x1 o3 K0 K1
  obtain ⟨_, _, _, x2⟩ := (X.out.below B3.out hlt).three
  go_wp2_with fail
  refine (K2.out _).mono ?_
  rintro e w4 ⟨rfl, o4, b4⟩
  have P4 := Lib.hid (P3.out.below b4)
  have r4 := Lib.hid o4.rd
  have B4 := Lib.hid (B3.out.trans (b4.mono B3.out.size))
  clear o4 b4 x2 P3 B3 K2
  go_wp2_with (first
    | (at_builtin; have q := P6; clear q; refine append_bytes _ rfl (.tmp 31) (.tmp 35) rfl w.heap.size _ _ _ _ rfl P6.out _ _ _ _ rfl (HR.out.below B6.out) B6.out.size (by omega) ?_; intro a7 c7 w7 o7 g7; have P7 := Lib.hid o7; have B7 := Lib.hid (B6.out.grown g7 B6.out.size (fun k e => own_blk P6.out k e)); clear o7 g7 P6 B6)
    | (at_builtin; have q := P5; clear q; refine append_bytes _ rfl (.tmp 28) (.tmp 29) rfl w.heap.size _ _ _ _ rfl P5.out _ _ _ _ rfl L5.out.rd B5.out.size (by omega) ?_; intro a6 c6 w6 o6 g6; have P6 := Lib.hid o6; have B6 := Lib.hid (B5.out.grown g6 B5.out.size (fun k e => own_blk P5.out k e)); have x2 : w6.cell? ⟨b, 2, none⟩ = some (.slice a len cap) := (X.out.below B6.out hlt).cell 2; clear o6 g6 P5 B5 L5)
    | (at_builtin; refine append_bytes _ rfl (.tmp 20) (.tmp 27) rfl w.heap.size _ _ _ _ rfl P4.out _ _ _ _ rfl r4.out B4.out.size (by omega) ?_; intro a5 c5 w5 o5 g5; have P5 := Lib.hid (o5.alloc (.cells #[.int .u8 0, .int .u8 0] 5)); have B5' := B4.out.grown g5 B4.out.size (fun k e => own_blk P4.out k e); have B5 := Lib.hid (B5'.alloc B5'.size (.cells #[.int .u8 0, .int .u8 0] 5)); have L5 := Lib.hid (LB.out w5); clear o5 g5 B5' P4 r4 B4))
  have O7 : Hid (Own w7 w.heap.size a7 (8 + len) c7 HH) := by rw [HL.out]; exact P7.out
  clear P7 x2
  refine (KS.out _ _ _ _ O7.out.rd).mono ?_
  rintro e w8 ⟨rfl, b8⟩
  have O8 := Lib.hid (O7.out.below b8)
  have B8 := Lib.hid (B7.out.trans (b8.mono B7.out.size))
  clear b8 O7 B7 KS
  rcases O8.out.shape with ⟨_, h0, _⟩ | ⟨g, rfl⟩
  · omega
  have gB := (O8.out.lt _ rfl).1
  dsimp only at gB
  obtain ⟨N, hN⟩ : ∃ N, N = 8 + len := ⟨_, rfl⟩
  rw [← hN] at O8 ⊢
  have i6 : (6 : Int) < N := by omega
  have i7 : (7 : Int) < N := by omega
  have j6 := O8.out.cellAt 6 (by omega)
  have f6 := O8.out.frozenAt 6
  clear hN
  by_cases hv0 : v = 0
  · subst hv0
    obtain ⟨o9, g9⟩ := O8.out.set 6 255 (by omega)
    have j7 := o9.cellAt 7 (by omega)
    have f7 := o9.frozenAt 7
    obtain ⟨o10, g10⟩ := o9.set 7 255 (by omega)
    have O10 : Hid (Own _ w.heap.size (some ⟨g, 0, none⟩) N c7 ((HH.set 6 (dgT 0 / 256)).set 7 (dgT 0 % 256))) := o10
    have B10 := Lib.hid (B8.out.grown (grown_trans g9 g10) B8.out.size (fun k e => by cases e; exact gB))
    clear o9 g9 o10 g10 O8 B8
    go_wp2
    go_ret
    exact ⟨_, _, _, rfl, O10.out, B10.out⟩
  · have e0 : (v == 0) = false := by simpa using hv0
    have hT : dgT v = v := by unfold dgT; rw [if_neg hv0]
    obtain ⟨o9, g9⟩ := O8.out.set 6 (v / 256) (by omega)
    have j7 := o9.cellAt 7 (by omega)
    have f7 := o9.frozenAt 7
    obtain ⟨o10, g10⟩ := o9.set 7 (v % 256) (by omega)
    have O10 : Hid (Own ((w8.setCell ⟨g, 6, none⟩ (.int .u8 (v / 256))).setCell ⟨g, 7, none⟩ (.int .u8 (v % 256))) w.heap.size (some ⟨g, 0, none⟩) N c7 ((HH.set 6 (dgT v / 256)).set 7 (dgT v % 256))) := by rw [hT]; exact o10
    have B10 := Lib.hid (B8.out.grown (grown_trans g9 g10) B8.out.size (fun k e => by cases e; exact gB))
    clear o9 g9 o10 g10 O8 B8 hT
    go_wp2
    go_ret
    exact ⟨_, _, _, rfl, O10.out, B10.out⟩

def pdC (f t df dt : Int) (n : Nat) : Int := if ipB f && ipB t then dgC df dt n else 3
def pdP (f t df dt : Int) (zs : List Int) : List Int := if pdC f t df dt zs.length = 0 then dgL f t df dt zs else []
theorem dgC_parts {df dt : Int} {n : Nat} (h : dgC df dt n = 0) : (1 ≤ df ∧ df ≤ 65535) ∧ (1 ≤ dt ∧ dt ≤ 65535) ∧ n ≤ 552 := by
  unfold dgC at h
  split at h
  · rename_i hk
    simp only [dgB, inB, Bool.and_eq_true, decide_eq_true_eq] at hk
    split at h
    · rename_i hn; exact ⟨hk.1, hk.2, hn⟩
    · omega
  · omega
theorem pdC_parts {f t df dt : Int} {n : Nat} (h : pdC f t df dt n = 0) : ipB f = true ∧ ipB t = true ∧ dgC df dt n = 0 := by
  unfold pdC at h
  split at h
  · rename_i hk
    simp only [Bool.and_eq_true] at hk
    exact ⟨hk.1, hk.2, h⟩
  · omega
theorem pdP_len (f t df dt : Int) (zs : List Int) : (pdP f t df dt zs).length ≤ 700 := by
  unfold pdP
  split
  · rename_i h
    obtain ⟨_, _, h'⟩ := pdC_parts h
    obtain ⟨_, _, hn⟩ := dgC_parts h'
    rw [dgL_len]; omega
  · exact Nat.zero_le _

set_option maxHeartbeats 2000000 in
theorem specPackDatagram (f t df dt : Int) (a : Option Addr) (len cap : Nat) (zs : List Int) (w : World) (hr : Rd w a len cap zs) :
    Calls Try.prog 17 #[.int .i64 f, .int .i64 t, .agg #[.int .i64 df, .int .i64 dt, .slice a len cap]] w (Packed w (pdC f t df dt zs.length) (pdP f t df dt zs)) := by
  have S := Lib.hid (fun W => specDatagramFault df dt a len cap W)
  have B0 := Lib.hid (((Below.refl w.heap.size w).alloc (Nat.le_refl _) (.cells #[.int .i64 df, .int .i64 dt, .slice a len cap] 25)).alloc (by simp) (.cells #[.int .i64 0, .slice none 0 0] 29))
  have X0 := Lib.hid ((Box.new w 25 #[.int .i64 df, .int .i64 dt, .slice a len cap]).alloc (.cells #[.int .i64 0, .slice none 0 0] 29))
  have R0 := Lib.hid (Box.new (w.alloc (.cells #[.int .i64 df, .int .i64 dt, .slice a len cap] 25)) 29 #[.int .i64 0, .slice none 0 0])
  simp only [World.size_alloc] at R0
  have hln := hr.length
  cases m0 : ipB f
  case' true => cases m1 : ipB t
  case' true.true => rcases Decidable.em (dgC df dt len = 0) with hk | hk
  case false =>
    have hc : pdC f t df dt zs.length = 3 := by simp [pdC, m0]
    have hp : pdP f t df dt zs = [] := by simp [pdP, hc]
    rw [hc, hp]
    clear hr hln hc hp S
    go_enter Try.func17, Try.ntmps17
    go_wp2_with (go_at_call 49; refine (l2Ip_any _ _).mono ?_; rintro e w' ⟨rfl, rfl⟩)
    exact bodyPost_ret (v := .agg #[.int .i64 3, .slice none 0 0]) (by simp [results, Try.results17, go_sem]) rfl ⟨none, 0, 0, rfl, Own.nil _ _, (((Below.refl _ _).alloc (Nat.le_refl _) _).alloc (by simp) _)⟩
  case true.false =>
    have hc : pdC f t df dt zs.length = 3 := by simp [pdC, m1]
    have hp : pdP f t df dt zs = [] := by simp [pdP, hc]
    rw [hc, hp]
    clear hr hln hc hp S
    go_enter Try.func17, Try.ntmps17
    go_wp2_with (go_at_call 49; refine (l2Ip_any _ _).mono ?_; rintro e w' ⟨rfl, rfl⟩)
    exact bodyPost_ret (v := .agg #[.int .i64 3, .slice none 0 0]) (by simp [results, Try.results17, go_sem]) rfl ⟨none, 0, 0, rfl, Own.nil _ _, (((Below.refl _ _).alloc (Nat.le_refl _) _).alloc (by simp) _)⟩
  case true.true.inr =>
    have hc : pdC f t df dt zs.length = dgC df dt len := by simp [pdC, m0, m1, hln]
    have hp : pdP f t df dt zs = [] := by unfold pdP; rw [hc, if_neg hk]
    have hne : (dgC df dt len != 0) = true := by simpa using hk
    rw [hc, hp]
    clear hr hln hc hp hk
    generalize dgC df dt len = c at *
    go_enter Try.func17, Try.ntmps17
    go_wp2_with (go_at_call 49; refine (l2Ip_any _ _).mono ?_; rintro e w' ⟨rfl, rfl⟩)
    refine (S.out _).mono ?_
    rintro e w1 ⟨rfl, b1⟩
    have R1 := R0.out.below b1 R0.out.lt
    obtain ⟨z2, r20, r21⟩ := R1.two
    have f0 := R1.frozen 0
    have f1 := R1.frozen 1
    have B1 := Lib.hid (B0.out.trans (b1.mono B0.out.size))
    clear b1 R0 B0 R1
    go_wp2
    exact bodyPost_ret (v := .agg #[.int .i64 c, .slice none 0 0]) (by simp [results, Try.results17, go_sem, r20, r21]) rfl ⟨none, 0, 0, rfl, Own.nil _ _, (B1.out.setCell (by simp) _).setCell (by simp) _⟩
  case true.true.inl =>
    have hc : pdC f t df dt zs.length = 0 := by simp [pdC, m0, m1, hln, hk]
    have hp : pdP f t df dt zs = dgL f t df dt zs := by unfold pdP; rw [if_pos hc]
    rw [hc, hp]
    rw [hk] at S
    obtain ⟨h2, h3, h4⟩ := dgC_parts hk
    have k0 := ipB_bd m0
    have k1 := ipB_bd m1
    have K := Lib.hid (fun W (hW : Below w.heap.size w W) (hX : Box W w.heap.size 25 #[.int .i64 df, .int .i64 dt, .slice a len cap]) => l4Pack_any f t w.heap.size df dt a len cap zs W hX (hr.below hW) (by omega) (by omega) (by omega) (by omega) h4)
    generalize dgL f t df dt zs = L at *
    clear hr hln hc hp hk h2 h3 h4 k0 k1
    go_enter Try.func17, Try.ntmps17
    go_wp2_with (go_at_call 49; refine (l2Ip_any _ _).mono ?_; rintro e w' ⟨rfl, rfl⟩)
    refine (S.out _).mono ?_
    rintro e w1 ⟨rfl, b1⟩
    have X1 := Lib.hid (X0.out.below b1 X0.out.lt)
    have R1 := Lib.hid (R0.out.below b1 R0.out.lt)
    have B1 := Lib.hid (B0.out.trans (b1.mono B0.out.size))
    clear b1 X0 R0 B0 S
    go_wp2_with fail
    refine (K.out _ B1.out X1.out).mono ?_
    rintro e w2 ⟨a2, l2, c2, rfl, o2, b2⟩
    have R2 := R1.out.below b2 R1.out.lt
    obtain ⟨z2, r20, r21⟩ := R2.two
    have f0 := R2.frozen 0
    have f1 := R2.frozen 1
    have B2 := Lib.hid (B1.out.trans (b2.mono B1.out.size))
    have O2 := Lib.hid (o2.rebase B1.out.size)
    have hx : Hid (∀ x, a2 = some x → ¬ x.block = w.heap.size + 1) := fun x hx e => by
      have := (o2.lt x hx).1
      have := R1.out.lt
      omega
    clear b2 o2 R2 R1 B1 X1 K
    go_wp2
    refine bodyPost_ret (v := .agg #[.int .i64 0, .slice a2 l2 c2]) (by simp [results, Try.results17, go_sem, r20, r21]) rfl ⟨_, _, _, rfl, ?_, (B2.out.setCell (by simp) _).setCell (by simp) _⟩
    exact (O2.out.setOther _ _ hx.out).setOther _ _ hx.out
end Go.Proofs.Ytmcllaefjgdbeaa

namespace Go.Proofs.Ytmcllaefjgdbeaa
open Go.ChangeShapes Go.WideShapes Go.ChangeAt Go.RowKit

theorem packed_code {w : World} {o : Obj} {c : Int} {e : Ending} (he : e = .returned (.agg #[.int .i64 c, .slice none 0 0])) : Packed w c [] e (w.alloc o) :=
  ⟨none, 0, 0, he, Own.nil _ _, (Below.refl _ _).alloc (Nat.le_refl _) _⟩

theorem below_grown {w w' : World} {B : Nat} {row : Option Nat} (hg : w.grownBy w' row) (hB : B ≤ w.heap.size) (hr : ∀ k, row = some k → B ≤ k) : Below B w w' := (Below.refl B w).grown hg hB hr

theorem field_ir (w : World) (c v : Int) : (Instr.field 71 (.agg #[.int .i64 c, .int .i64 v]) 1).run Try.prog w = .ok (.int .i64 v) w := by
  simp [Instr.field, asAgg, go_sem]
theorem field_br (w : World) (c : Int) (a : Option Addr) (l k : Nat) : (Instr.field 29 (.agg #[.int .i64 c, .slice a l k]) 1).run Try.prog w = .ok (.slice a l k) w := by
  simp [Instr.field, asAgg, go_sem]

theorem splice_cons (a : Int) (r : List Int) (A : Nat) (cs : List Int) : splice (a :: r) (A + 1) cs = a :: splice r A cs := by
  unfold splice
  rw [show A + 1 + cs.length = (A + cs.length) + 1 by omega]
  rfl
theorem set2_splice : ∀ (A : Nat) (L : List Int) (x y : Int), A + 2 ≤ L.length → (L.set A x).set (A + 1) y = splice L A [x, y]
  | _, [], _, _, h => absurd h (by simp)
  | 0, [_], _, _, h => absurd h (by simp)
  | 0, _ :: _ :: _, _, _, _ => rfl
  | A + 1, a :: r, x, y, h => by
    rw [splice_cons, ← set2_splice A r x y (by simpa using h)]
    rfl
theorem be2 (v : Int) (h : 0 ≤ v ∧ v ≤ 65535) : be v 2 = [v / 256, v % 256] := by
  have : v / 256 % 256 = v / 256 := by omega
  simp [be, this]
theorem sealB_splice (zs : List Int) (A : Nat) (h : A + 2 ≤ zs.length) : sealB zs A = splice (seal0 zs A) A (be (sumV (seal0 zs A)) 2) := by
  rw [be2 _ (sumV_bd _)]
  exact set2_splice _ _ _ _ (by simp [seal0]; omega)

end Go.Proofs.Ytmcllaefjgdbeaa
