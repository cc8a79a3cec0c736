/-
  PackSegment of the model, in closed form.
-/
import Derived.Test.YteaiemckcepphaaSgS
import Derived.Test.YteaiemckcepphaaMB
namespace Go.Proofs.Yteaiemckcepphaa
open Go.ChangeShapes Go.WideShapes Go.ChangeAt Go.RowKit

theorem own_zero4 (w : World) (base : Nat) (hb : base ≤ w.heap.size) : Own (w.alloc (.cells #[.int .u8 0, .int .u8 0, .int .u8 0, .int .u8 0] 5)) base (some ⟨w.heap.size, 0, none⟩) 4 4 [0, 0, 0, 0] :=
  ⟨World.ownsRow_lit w #[.int .u8 0, .int .u8 0, .int .u8 0, .int .u8 0] 4 hb (by unfold maxLen; omega) rfl, by intro n hn; simp at hn; omega⟩
def sgO (m : Int) : List Int := if m = 0 then [] else [2, 4] ++ be m 2
def sgT (m : Int) : Int := if m = 0 then 80 else 96
/-- a segment's bytes, its sum 0 -/
def sgH (x : Sg) (zs : List Int) : List Int := be x.f 2 ++ be x.t 2 ++ be x.s 4 ++ be x.a 4 ++ [sgT x.m, x.g] ++ be x.w 2 ++ [0, 0, 0, 0] ++ sgO x.m ++ zs
theorem sgO_len (m : Int) : (sgO m).length = if m = 0 then 0 else 4 := by unfold sgO; split <;> simp [be_len]
theorem sgH_len (x : Sg) (zs : List Int) : (sgH x zs).length = 20 + (sgO x.m).length + zs.length := by simp [sgH, be_len]; omega
def sgL (f t : Int) (x : Sg) (zs : List Int) : List Int := ((sgH x zs).set 16 (dgSum f t 6 (sgH x zs) / 256)).set 17 (dgSum f t 6 (sgH x zs) % 256)
theorem sgL_len (f t : Int) (x : Sg) (zs : List Int) : (sgL f t x zs).length = 20 + (sgO x.m).length + zs.length := by simp [sgL, sgH_len]


set_option maxRecDepth 20000 in
set_option maxHeartbeats 4000000 in
theorem l5Pack_0 (f t : Int) (b : Nat) (x : Sg) (a : Option Addr) (len cap : Nat) (zs : List Int) (w : World) (hx : Box w b 25 #[.int .i64 x.f, .int .i64 x.t, .int .i64 x.s, .int .i64 x.a, .int .i64 x.g, .int .i64 x.w, .int .i64 x.m, .slice a len cap]) (hr : Rd w a len cap zs)
    (h0 : 0 ≤ f ∧ f < 281474976710656) (h1 : 0 ≤ t ∧ t < 281474976710656) (hn : sgN x = true) (hl : len ≤ 560) (hm : x.m = 0) :
    Calls Try.prog 63 #[.int .i64 f, .int .i64 t, .pointer (some ⟨b, 0, none⟩)] w (FreshAny w (sgL f t x zs)) := by
  obtain ⟨n0, n1, n2, n3, n4, n5, n6⟩ := sgN_parts hn
  have K0 := Lib.hid (fun W => l1Pack_lit x.f 2 2 W rfl (by omega) (by omega))
  have K1 := Lib.hid (fun W => l1Pack_lit x.t 2 2 W rfl (by omega) (by omega))
  have K2 := Lib.hid (fun W => l1Pack_lit x.s 4 4 W rfl (by omega) (by omega))
  have K3 := Lib.hid (fun W => l1Pack_lit x.a 4 4 W rfl (by omega) (by omega))
  have K4 := Lib.hid (fun W => l1Pack_lit x.w 2 2 W rfl (by omega) (by omega))
  have K5 := Lib.hid (fun W => l1Pack_lit x.m 2 2 W rfl (by omega) (by omega))
  have hm0 : decide (0 < x.m) = false := decide_eq_false (by omega)
  obtain ⟨HH, hHH⟩ : ∃ HH, HH = sgH x zs := ⟨_, rfl⟩
  have HL : Hid (HH = be x.f 2 ++ be x.t 2 ++ be x.s 4 ++ be x.a 4 ++ [80, x.g] ++ be x.w 2 ++ [0, 0, 0, 0] ++ zs) := by
    have e1 : sgT x.m = 80 := by unfold sgT; rw [if_pos hm]
    have e2 : sgO x.m = [] := by unfold sgO; rw [if_pos hm]
    rw [hHH, sgH, e1, e2]; simp [Hid]
  have hhl : HH.length = 20 + len := by rw [HL.out]; simp [be_len, hr.length]; omega
  have KS := Lib.hid (fun (s : Option Addr) (l c : Nat) (W : World) (hR : Rd W s l c HH) => l4Sum_any f t 6 s l c HH W hR h0 h1 (by omega) (by have := hR.length; omega))
  obtain ⟨v, hv⟩ : ∃ v, v = dgSum f t 6 HH := ⟨_, rfl⟩
  have hvb : 0 ≤ v ∧ v ≤ 65535 := by rw [hv]; exact sumV_bd _
  have hE : sgL f t x zs = (HH.set 16 (v / 256)).set 17 (v % 256) := by rw [hv, hHH]; rfl
  rw [hE]
  rw [← hv] at KS
  have u4 := u8_in x.g (by omega)
  have X := Lib.hid hx
  have HR := Lib.hid hr
  have hlt := hx.lt
  have HHL := Lib.hid hhl
  clear h0 h1 hx hr hHH hE hv hhl hn n0 n1 n2 n3 n5 n6
  have L4 := Lib.hid (fun W => own_zero4 W W.heap.size (Nat.le_refl _))
  obtain ⟨_, x0, x1, _⟩ := X.out.eight
  go_enter Try.func63, Try.ntmps63
  go_wp2_with fail
  go_region_held3 (fun W => W.cell? ⟨b, 0, none⟩ = some (.int .i64 x.f) ∧ W.cell? ⟨b, 1, none⟩ = some (.int .i64 x.t))
    (first | go_keep | (go_split_ands; exact ⟨keepB hb (by assumption) hlt, keepB hb (by assumption) hlt⟩))
    (first
      | (have q := P2; clear q; refine append_step _ rfl (.tmp 14) (.tmp 19) rfl w.heap.size _ _ _ _ rfl P2.out _ _ _ _ rfl r2.out B2.out.size (by omega) ?_; intro a3 c3 w3 o3 hb; have P3 := Lib.hid o3; have B3 := Lib.hid (B2.out.trans hb))
      | (have q := P1; clear q; go_at_call 99; refine (K1.out _).mono ?_; rintro e w2 ⟨rfl, o2, b2⟩; have P2 := Lib.hid (P1.out.below b2); have r2 := Lib.hid o2.rd; have hb := b2.mono B1.out.size; have B2 := Lib.hid (B1.out.trans hb))
      | (go_at_call 99; refine (K0.out _).mono ?_; rintro e w1 ⟨rfl, o1, b1⟩; have P1 := Lib.hid o1; have hb := b1; have B1 := Lib.hid ((Below.refl w.heap.size w).drew.trans hb)))
  clear o1 b1 o2 b2 hb P1 P2 r2 B1 B2 x0 x1 o3 K0 K1
  obtain ⟨_, _, _, x2, x3, _⟩ := (X.out.below B3.out hlt).eight
  go_wp2_with fail
  go_region_held3 (fun W => W.cell? ⟨b, 2, none⟩ = some (.int .i64 x.s) ∧ W.cell? ⟨b, 3, none⟩ = some (.int .i64 x.a))
    (first | go_keep | (go_split_ands; exact ⟨keepB hb (by assumption) hlt, keepB hb (by assumption) hlt⟩))
    (first
      | (have q := P6; clear q; refine append_step _ rfl (.tmp 27) (.tmp 32) rfl w.heap.size _ _ _ _ rfl P6.out _ _ _ _ rfl r6.out B6.out.size (by omega) ?_; intro a7 c7 w7 o7 hb; have P7 := Lib.hid o7; have B7 := Lib.hid (B6.out.trans hb))
      | (have q := P5; clear q; go_at_call 99; refine (K3.out _).mono ?_; rintro e w6 ⟨rfl, o6, b6⟩; have P6 := Lib.hid (P5.out.below b6); have r6 := Lib.hid o6.rd; have hb := b6.mono B5.out.size; have B6 := Lib.hid (B5.out.trans hb))
      | (have q := P4; clear q; refine append_step _ rfl (.tmp 21) (.tmp 26) rfl w.heap.size _ _ _ _ rfl P4.out _ _ _ _ rfl r4.out B4.out.size (by omega) ?_; intro a5 c5 w5 o5 hb; have P5 := Lib.hid o5; have B5 := Lib.hid (B4.out.trans hb))
      | (go_at_call 99; refine (K2.out _).mono ?_; rintro e w4 ⟨rfl, o4, b4⟩; have P4 := Lib.hid (P3.out.drew.below b4); have r4 := Lib.hid o4.rd; have hb := b4.mono B3.out.drew.size; have B4 := Lib.hid (B3.out.drew.trans hb)))
  clear o4 b4 o5 o6 b6 hb P3 P4 P5 P6 r4 r6 B3 B4 B5 B6 x2 x3 o7 K2 K3
  obtain ⟨_, _, _, _, _, x4, x5, x6, _⟩ := (X.out.below B7.out hlt).eight
  go_wp2_with fail
  go_region_held3 (fun W => W.cell? ⟨b, 4, none⟩ = some (.int .i64 x.g) ∧ W.cell? ⟨b, 5, none⟩ = some (.int .i64 x.w))
    (first | go_keep | (go_split_ands; exact ⟨keepB hb (by assumption) hlt, keepB hb (by assumption) hlt⟩))
    (first
      | (have q := P10; clear q; refine append_step _ rfl (.tmp 47) (.tmp 52) rfl w.heap.size _ _ _ _ rfl P10.out _ _ _ _ rfl r10.out B10.out.size (by omega) ?_; intro a11 c11 w11 o11 hb; have P11 := Lib.hid o11; have B11 := Lib.hid (B10.out.trans hb))
      | (have q := P9; clear q; go_at_call 99; refine (K4.out _).mono ?_; rintro e w10 ⟨rfl, o10, b10⟩; have P10 := Lib.hid (P9.out.below b10); have r10 := Lib.hid o10.rd; have hb := b10.mono B9.out.size; have B10 := Lib.hid (B9.out.trans hb))
      | (refine append_step _ rfl (.tmp 39) (.tmp 46) rfl w.heap.size _ _ _ _ rfl (P7.out.drew.alloc _) _ _ _ _ rfl (own_litB2 _ w.heap.size (80) (x.g) (by omega) (by omega) B7.out.drew.size).rd (B7.out.drew.alloc B7.out.drew.size _).size (by omega) ?_; intro a9 c9 w9 o9 hb; have P9 := Lib.hid o9; have B9 := Lib.hid ((B7.out.drew.alloc B7.out.drew.size _).trans hb)))
  clear o9 o10 b10 hb P7 P9 P10 r10 B7 B9 B10 x4 x5 x6 o11 K4
  go_wp2_with (first | (at_builtin; have q := P11; clear q; refine append_bytes _ rfl (.tmp 54) (.tmp 55) rfl w.heap.size _ _ _ _ rfl (P11.out.alloc (.cells #[.int .u8 0, .int .u8 0, .int .u8 0, .int .u8 0] 5)) _ _ _ _ rfl (L4.out w11).rd (B11.out.alloc B11.out.size (.cells #[.int .u8 0, .int .u8 0, .int .u8 0, .int .u8 0] 5)).size (by omega) ?_; intro a12 c12 w12 o12 g12; have P12 := Lib.hid o12; have B12 := Lib.hid ((B11.out.alloc B11.out.size (.cells #[.int .u8 0, .int .u8 0, .int .u8 0, .int .u8 0] 5)).grown g12 (B11.out.alloc B11.out.size (.cells #[.int .u8 0, .int .u8 0, .int .u8 0, .int .u8 0] 5)).size (fun k e => own_blk P11.out k e)); have x6 : w12.cell? ⟨b, 6, none⟩ = some (.int .i64 x.m) := (X.out.below B12.out hlt).cell 6; have x7 : w12.cell? ⟨b, 7, none⟩ = some (.slice a len cap) := (X.out.below B12.out hlt).cell 7; clear o12 g12 P11 B11) | (at_builtin; have q := P12; clear q; refine append_bytes _ rfl (.tmp 71) (.tmp 75) rfl w.heap.size _ _ _ _ rfl P12.out _ _ _ _ rfl (HR.out.below B12.out) B12.out.size (by omega) ?_; intro a17 c17 w17 o17 g17; have P17 := Lib.hid o17; have B17 := Lib.hid (B12.out.grown g17 B12.out.size (fun k e => own_blk P12.out k e)); clear o17 g17 P12 B12))
  clear x6 x7
  have O7 : Hid (Own w17 w.heap.size a17 (20 + len) c17 HH) := by rw [HL.out]; exact P17.out
  clear P17
  refine (KS.out _ _ _ _ O7.out.rd).mono ?_
  rintro e w18 ⟨rfl, b18⟩
  have O8 := Lib.hid (O7.out.below b18)
  have B18 := Lib.hid (B17.out.trans (b18.mono B17.out.size))
  clear b18 O7 B17 KS
  rcases O8.out.shape with ⟨_, h0, _⟩ | ⟨g, rfl⟩
  · omega
  have gB := (O8.out.lt _ rfl).1
  dsimp only at gB
  obtain ⟨N, hN⟩ : ∃ N, N = 20 + len := ⟨_, rfl⟩
  rw [← hN] at O8 ⊢
  have i6 : (16 : Int) < N := by omega
  have i7 : (17 : Int) < N := by omega
  have j6 := O8.out.cellAt 16 (by omega)
  have f6 := O8.out.frozenAt 16
  clear hN
  obtain ⟨o9, g9⟩ := O8.out.set 16 (v / 256) (by omega)
  have j7 := o9.cellAt 17 (by omega)
  have f7 := o9.frozenAt 17
  obtain ⟨o10, g10⟩ := o9.set 17 (v % 256) (by omega)
  have O10 := Lib.hid o10
  have B10 := Lib.hid (B18.out.grown (grown_trans g9 g10) B18.out.size (fun k e => by cases e; exact gB))
  clear o9 g9 o10 g10 O8 B18
  go_wp2
  go_ret
  exact ⟨_, _, _, rfl, O10.out, B10.out⟩

set_option maxRecDepth 20000 in
set_option maxHeartbeats 4000000 in
theorem l5Pack_1 (f t : Int) (b : Nat) (x : Sg) (a : Option Addr) (len cap : Nat) (zs : List Int) (w : World) (hx : Box w b 25 #[.int .i64 x.f, .int .i64 x.t, .int .i64 x.s, .int .i64 x.a, .int .i64 x.g, .int .i64 x.w, .int .i64 x.m, .slice a len cap]) (hr : Rd w a len cap zs)
    (h0 : 0 ≤ f ∧ f < 281474976710656) (h1 : 0 ≤ t ∧ t < 281474976710656) (hn : sgN x = true) (hl : len ≤ 560) (hm : ¬ x.m = 0) :
    Calls Try.prog 63 #[.int .i64 f, .int .i64 t, .pointer (some ⟨b, 0, none⟩)] w (FreshAny w (sgL f t x zs)) := by
  obtain ⟨n0, n1, n2, n3, n4, n5, n6⟩ := sgN_parts hn
  have K0 := Lib.hid (fun W => l1Pack_lit x.f 2 2 W rfl (by omega) (by omega))
  have K1 := Lib.hid (fun W => l1Pack_lit x.t 2 2 W rfl (by omega) (by omega))
  have K2 := Lib.hid (fun W => l1Pack_lit x.s 4 4 W rfl (by omega) (by omega))
  have K3 := Lib.hid (fun W => l1Pack_lit x.a 4 4 W rfl (by omega) (by omega))
  have K4 := Lib.hid (fun W => l1Pack_lit x.w 2 2 W rfl (by omega) (by omega))
  have K5 := Lib.hid (fun W => l1Pack_lit x.m 2 2 W rfl (by omega) (by omega))
  have hm0 : decide (0 < x.m) = true := decide_eq_true (by omega)
  obtain ⟨HH, hHH⟩ : ∃ HH, HH = sgH x zs := ⟨_, rfl⟩
  have HL : Hid (HH = be x.f 2 ++ be x.t 2 ++ be x.s 4 ++ be x.a 4 ++ [96, x.g] ++ be x.w 2 ++ [0, 0, 0, 0] ++ [2, 4] ++ be x.m 2 ++ zs) := by
    have e1 : sgT x.m = 96 := by unfold sgT; rw [if_neg hm]
    have e2 : sgO x.m = [2, 4] ++ be x.m 2 := by unfold sgO; rw [if_neg hm]
    rw [hHH, sgH, e1, e2]; simp [Hid]
  have hhl : HH.length = 24 + len := by rw [HL.out]; simp [be_len, hr.length]; omega
  have KS := Lib.hid (fun (s : Option Addr) (l c : Nat) (W : World) (hR : Rd W s l c HH) => l4Sum_any f t 6 s l c HH W hR h0 h1 (by omega) (by have := hR.length; omega))
  obtain ⟨v, hv⟩ : ∃ v, v = dgSum f t 6 HH := ⟨_, rfl⟩
  have hvb : 0 ≤ v ∧ v ≤ 65535 := by rw [hv]; exact sumV_bd _
  have hE : sgL f t x zs = (HH.set 16 (v / 256)).set 17 (v % 256) := by rw [hv, hHH]; rfl
  rw [hE]
  rw [← hv] at KS
  have u4 := u8_in x.g (by omega)
  have X := Lib.hid hx
  have HR := Lib.hid hr
  have hlt := hx.lt
  have HHL := Lib.hid hhl
  clear h0 h1 hx hr hHH hE hv hhl hn n0 n1 n2 n3 n5 n6
  have L4 := Lib.hid (fun W => own_zero4 W W.heap.size (Nat.le_refl _))
  obtain ⟨_, x0, x1, _⟩ := X.out.eight
  go_enter Try.func63, Try.ntmps63
  go_wp2_with fail
  go_region_held3 (fun W => W.cell? ⟨b, 0, none⟩ = some (.int .i64 x.f) ∧ W.cell? ⟨b, 1, none⟩ = some (.int .i64 x.t))
    (first | go_keep | (go_split_ands; exact ⟨keepB hb (by assumption) hlt, keepB hb (by assumption) hlt⟩))
    (first
      | (have q := P2; clear q; refine append_step _ rfl (.tmp 14) (.tmp 19) rfl w.heap.size _ _ _ _ rfl P2.out _ _ _ _ rfl r2.out B2.out.size (by omega) ?_; intro a3 c3 w3 o3 hb; have P3 := Lib.hid o3; have B3 := Lib.hid (B2.out.trans hb))
      | (have q := P1; clear q; go_at_call 99; refine (K1.out _).mono ?_; rintro e w2 ⟨rfl, o2, b2⟩; have P2 := Lib.hid (P1.out.below b2); have r2 := Lib.hid o2.rd; have hb := b2.mono B1.out.size; have B2 := Lib.hid (B1.out.trans hb))
      | (go_at_call 99; refine (K0.out _).mono ?_; rintro e w1 ⟨rfl, o1, b1⟩; have P1 := Lib.hid o1; have hb := b1; have B1 := Lib.hid ((Below.refl w.heap.size w).drew.trans hb)))
  clear o1 b1 o2 b2 hb P1 P2 r2 B1 B2 x0 x1 o3 K0 K1
  obtain ⟨_, _, _, x2, x3, _⟩ := (X.out.below B3.out hlt).eight
  go_wp2_with fail
  go_region_held3 (fun W => W.cell? ⟨b, 2, none⟩ = some (.int .i64 x.s) ∧ W.cell? ⟨b, 3, none⟩ = some (.int .i64 x.a))
    (first | go_keep | (go_split_ands; exact ⟨keepB hb (by assumption) hlt, keepB hb (by assumption) hlt⟩))
    (first
      | (have q := P6; clear q; refine append_step _ rfl (.tmp 27) (.tmp 32) rfl w.heap.size _ _ _ _ rfl P6.out _ _ _ _ rfl r6.out B6.out.size (by omega) ?_; intro a7 c7 w7 o7 hb; have P7 := Lib.hid o7; have B7 := Lib.hid (B6.out.trans hb))
      | (have q := P5; clear q; go_at_call 99; refine (K3.out _).mono ?_; rintro e w6 ⟨rfl, o6, b6⟩; have P6 := Lib.hid (P5.out.below b6); have r6 := Lib.hid o6.rd; have hb := b6.mono B5.out.size; have B6 := Lib.hid (B5.out.trans hb))
      | (have q := P4; clear q; refine append_step _ rfl (.tmp 21) (.tmp 26) rfl w.heap.size _ _ _ _ rfl P4.out _ _ _ _ rfl r4.out B4.out.size (by omega) ?_; intro a5 c5 w5 o5 hb; have P5 := Lib.hid o5; have B5 := Lib.hid (B4.out.trans hb))
      | (go_at_call 99; refine (K2.out _).mono ?_; rintro e w4 ⟨rfl, o4, b4⟩; have P4 := Lib.hid (P3.out.drew.below b4); have r4 := Lib.hid o4.rd; have hb := b4.mono B3.out.drew.size; have B4 := Lib.hid (B3.out.drew.trans hb)))
  clear o4 b4 o5 o6 b6 hb P3 P4 P5 P6 r4 r6 B3 B4 B5 B6 x2 x3 o7 K2 K3
  obtain ⟨_, _, _, _, _, x4, x5, x6, _⟩ := (X.out.below B7.out hlt).eight
  go_wp2_with fail
  go_region_held3 (fun W => W.cell? ⟨b, 4, none⟩ = some (.int .i64 x.g) ∧ W.cell? ⟨b, 5, none⟩ = some (.int .i64 x.w))
    (first | go_keep | (go_split_ands; exact ⟨keepB hb (by assumption) hlt, keepB hb (by assumption) hlt⟩))
    (first
      | (have q := P10; clear q; refine append_step _ rfl (.tmp 47) (.tmp 52) rfl w.heap.size _ _ _ _ rfl P10.out _ _ _ _ rfl r10.out B10.out.size (by omega) ?_; intro a11 c11 w11 o11 hb; have P11 := Lib.hid o11; have B11 := Lib.hid (B10.out.trans hb))
      | (have q := P9; clear q; go_at_call 99; refine (K4.out _).mono ?_; rintro e w10 ⟨rfl, o10, b10⟩; have P10 := Lib.hid (P9.out.below b10); have r10 := Lib.hid o10.rd; have hb := b10.mono B9.out.size; have B10 := Lib.hid (B9.out.trans hb))
      | (refine append_step _ rfl (.tmp 39) (.tmp 46) rfl w.heap.size _ _ _ _ rfl (P7.out.drew.alloc _) _ _ _ _ rfl (own_litB2 _ w.heap.size (96) (x.g) (by omega) (by omega) B7.out.drew.size).rd (B7.out.drew.alloc B7.out.drew.size _).size (by omega) ?_; intro a9 c9 w9 o9 hb; have P9 := Lib.hid o9; have B9 := Lib.hid ((B7.out.drew.alloc B7.out.drew.size _).trans hb)))
  clear o9 o10 b10 hb P7 P9 P10 r10 B7 B9 B10 x4 x5 x6 o11 K4
  go_wp2_with (at_builtin; have q := P11; clear q; refine append_bytes _ rfl (.tmp 54) (.tmp 55) rfl w.heap.size _ _ _ _ rfl (P11.out.alloc (.cells #[.int .u8 0, .int .u8 0, .int .u8 0, .int .u8 0] 5)) _ _ _ _ rfl (L4.out w11).rd (B11.out.alloc B11.out.size (.cells #[.int .u8 0, .int .u8 0, .int .u8 0, .int .u8 0] 5)).size (by omega) ?_; intro a12 c12 w12 o12 g12; have P12 := Lib.hid o12; have B12 := Lib.hid ((B11.out.alloc B11.out.size (.cells #[.int .u8 0, .int .u8 0, .int .u8 0, .int .u8 0] 5)).grown g12 (B11.out.alloc B11.out.size (.cells #[.int .u8 0, .int .u8 0, .int .u8 0, .int .u8 0] 5)).size (fun k e => own_blk P11.out k e)); have x6 : w12.cell? ⟨b, 6, none⟩ = some (.int .i64 x.m) := (X.out.below B12.out hlt).cell 6; have x7 : w12.cell? ⟨b, 7, none⟩ = some (.slice a len cap) := (X.out.below B12.out hlt).cell 7; clear o12 g12 P11 B11)
  clear x7
  go_region_held3 (fun W => W.cell? ⟨b, 6, none⟩ = some (.int .i64 x.m))
    (first | go_keep | (go_split_ands; exact keepB hb (by assumption) hlt))
    (first
      | (have q := P15; clear q; refine append_step _ rfl (.tmp 64) (.tmp 69) rfl w.heap.size _ _ _ _ rfl P15.out _ _ _ _ rfl r15.out B15.out.size (by omega) ?_; intro a16 c16 w16 o16 hb; have P16 := Lib.hid o16; have B16 := Lib.hid (B15.out.trans hb))
      | (have q := P14; clear q; go_at_call 99; refine (K5.out _).mono ?_; rintro e w15 ⟨rfl, o15, b15⟩; have P15 := Lib.hid (P14.out.below b15); have r15 := Lib.hid o15.rd; have hb := b15.mono B14.out.size; have B15 := Lib.hid (B14.out.trans hb))
      | (refine append_step _ rfl (.tmp 62) (.tmp 63) rfl w.heap.size _ _ _ _ rfl (P12.out.drew.alloc _) _ _ _ _ rfl (own_litB2 _ w.heap.size (2) (4) (by omega) (by omega) B12.out.drew.size).rd (B12.out.drew.alloc B12.out.drew.size _).size (by omega) ?_; intro a14 c14 w14 o14 hb; have P14 := Lib.hid o14; have B14 := Lib.hid ((B12.out.drew.alloc B12.out.drew.size _).trans hb)))
  clear o14 o15 b15 hb P12 P14 P15 r15 B12 B14 B15 x6 o16 K5
  have x7 : w16.cell? ⟨b, 7, none⟩ = some (.slice a len cap) := (X.out.below B16.out hlt).cell 7
  go_wp2_with (at_builtin; have q := P16; clear q; refine append_bytes _ rfl (.tmp 71) (.tmp 75) rfl w.heap.size _ _ _ _ rfl P16.out _ _ _ _ rfl (HR.out.below B16.out) B16.out.size (by omega) ?_; intro a17 c17 w17 o17 g17; have P17 := Lib.hid o17; have B17 := Lib.hid (B16.out.grown g17 B16.out.size (fun k e => own_blk P16.out k e)); clear o17 g17 P16 B16)
  clear x7
  have O7 : Hid (Own w17 w.heap.size a17 (24 + len) c17 HH) := by rw [HL.out]; exact P17.out
  clear P17
  refine (KS.out _ _ _ _ O7.out.rd).mono ?_
  rintro e w18 ⟨rfl, b18⟩
  have O8 := Lib.hid (O7.out.below b18)
  have B18 := Lib.hid (B17.out.trans (b18.mono B17.out.size))
  clear b18 O7 B17 KS
  rcases O8.out.shape with ⟨_, h0, _⟩ | ⟨g, rfl⟩
  · omega
  have gB := (O8.out.lt _ rfl).1
  dsimp only at gB
  obtain ⟨N, hN⟩ : ∃ N, N = 24 + len := ⟨_, rfl⟩
  rw [← hN] at O8 ⊢
  have i6 : (16 : Int) < N := by omega
  have i7 : (17 : Int) < N := by omega
  have j6 := O8.out.cellAt 16 (by omega)
  have f6 := O8.out.frozenAt 16
  clear hN
  obtain ⟨o9, g9⟩ := O8.out.set 16 (v / 256) (by omega)
  have j7 := o9.cellAt 17 (by omega)
  have f7 := o9.frozenAt 17
  obtain ⟨o10, g10⟩ := o9.set 17 (v % 256) (by omega)
  have O10 := Lib.hid o10
  have B10 := Lib.hid (B18.out.grown (grown_trans g9 g10) B18.out.size (fun k e => by cases e; exact gB))
  clear o9 g9 o10 g10 O8 B18
  go_wp2
  go_ret
  exact ⟨_, _, _, rfl, O10.out, B10.out⟩

theorem l5Pack_any (f t : Int) (b : Nat) (x : Sg) (a : Option Addr) (len cap : Nat) (zs : List Int) (w : World) (hx : Box w b 25 #[.int .i64 x.f, .int .i64 x.t, .int .i64 x.s, .int .i64 x.a, .int .i64 x.g, .int .i64 x.w, .int .i64 x.m, .slice a len cap]) (hr : Rd w a len cap zs)
    (h0 : 0 ≤ f ∧ f < 281474976710656) (h1 : 0 ≤ t ∧ t < 281474976710656) (hn : sgN x = true) (hl : len ≤ 560) :
    Calls Try.prog 63 #[.int .i64 f, .int .i64 t, .pointer (some ⟨b, 0, none⟩)] w (FreshAny w (sgL f t x zs)) := by
  by_cases hm : x.m = 0
  · exact l5Pack_0 f t b x a len cap zs w hx hr h0 h1 hn hl hm
  · exact l5Pack_1 f t b x a len cap zs w hx hr h0 h1 hn hl hm
def psC (f t : Int) (x : Sg) (n : Nat) : Int := if ipB f && ipB t then sgC x n else 3
def psP (f t : Int) (x : Sg) (zs : List Int) : List Int := if psC f t x zs.length = 0 then sgL f t x zs else []
theorem psC_parts {f t : Int} {x : Sg} {n : Nat} (h : psC f t x n = 0) : ipB f = true ∧ ipB t = true ∧ sgC x n = 0 := by
  unfold psC at h
  by_cases h1 : (ipB f && ipB t) = true
  · rw [if_pos h1] at h
    simp only [Bool.and_eq_true] at h1
    exact ⟨h1.1, h1.2, h⟩
  · rw [if_neg h1] at h; omega
theorem psP_len (f t : Int) (x : Sg) (zs : List Int) : (psP f t x zs).length ≤ 700 := by
  unfold psP
  by_cases h : psC f t x zs.length = 0
  · rw [if_pos h, sgL_len, sgO_len]
    have := (sgC_parts (psC_parts h).2.2).2.2.2
    split <;> omega
  · rw [if_neg h]; exact Nat.zero_le _
set_option maxRecDepth 20000 in
set_option maxHeartbeats 2000000 in
theorem specPackSegment (f t : Int) (x : Sg) (a : Option Addr) (len cap : Nat) (zs : List Int) (w : World) (hr : Rd w a len cap zs) :
    Calls Try.prog 18 #[.int .i64 f, .int .i64 t, .agg #[.int .i64 x.f, .int .i64 x.t, .int .i64 x.s, .int .i64 x.a, .int .i64 x.g, .int .i64 x.w, .int .i64 x.m, .slice a len cap]] w (Packed w (psC f t x zs.length) (psP f t x zs)) := by
  have S := Lib.hid (fun W => specSegmentFault x a len cap W)
  have HR := Lib.hid hr
  have B0 := Lib.hid (((Below.refl w.heap.size w).alloc (Nat.le_refl _) (.cells #[.int .i64 x.f, .int .i64 x.t, .int .i64 x.s, .int .i64 x.a, .int .i64 x.g, .int .i64 x.w, .int .i64 x.m, .slice a len cap] 25)).alloc (by simp) (.cells #[.int .i64 0, .slice none 0 0] 29))
  have X0 := Lib.hid ((Box.new w 25 #[.int .i64 x.f, .int .i64 x.t, .int .i64 x.s, .int .i64 x.a, .int .i64 x.g, .int .i64 x.w, .int .i64 x.m, .slice a len cap]).alloc (.cells #[.int .i64 0, .slice none 0 0] 29))
  have R0 := Lib.hid (Box.new (w.alloc (.cells #[.int .i64 x.f, .int .i64 x.t, .int .i64 x.s, .int .i64 x.a, .int .i64 x.g, .int .i64 x.w, .int .i64 x.m, .slice a len cap] 25)) 29 #[.int .i64 0, .slice none 0 0])
  simp only [World.size_alloc] at R0
  have hln := hr.length
  obtain ⟨C, hC⟩ : ∃ C, C = psC f t x zs.length := ⟨_, rfl⟩
  obtain ⟨L, hL⟩ : ∃ L, L = psP f t x zs := ⟨_, rfl⟩
  rw [← hC, ← hL]
  cases m0 : ipB f
  case' true => cases m1 : ipB t
  case false =>
    obtain rfl : C = 3 := by rw [hC]; simp [psC, m0]
    obtain rfl : L = [] := by rw [hL, psP, ← hC]; simp
    clear hr hln hC hL S HR
    go_enter Try.func18, Try.ntmps18
    go_wp2_with (go_at_call 60; refine (l2Ip_any _ _).mono ?_; rintro e w' ⟨rfl, rfl⟩)
    exact bodyPost_ret (v := .agg #[.int .i64 3, .slice none 0 0]) (by simp [results, Try.results18, go_sem]) rfl ⟨none, 0, 0, rfl, Own.nil _ _, (((Below.refl _ _).alloc (Nat.le_refl _) _).alloc (by simp) _)⟩
  case true.false =>
    obtain rfl : C = 3 := by rw [hC]; simp [psC, m1]
    obtain rfl : L = [] := by rw [hL, psP, ← hC]; simp
    clear hr hln hC hL S HR
    go_enter Try.func18, Try.ntmps18
    go_wp2_with (go_at_call 60; refine (l2Ip_any _ _).mono ?_; rintro e w' ⟨rfl, rfl⟩)
    exact bodyPost_ret (v := .agg #[.int .i64 3, .slice none 0 0]) (by simp [results, Try.results18, go_sem]) rfl ⟨none, 0, 0, rfl, Own.nil _ _, (((Below.refl _ _).alloc (Nat.le_refl _) _).alloc (by simp) _)⟩
  have hCc : C = sgC x len := by rw [hC, hln]; simp [psC, m0, m1]
  rw [← hCc] at S
  have HP := Lib.hid (fun h : C = 0 => sgC_parts (hCc.symm.trans h))
  have HL0 : Hid (C = 0 → L = sgL f t x zs) := fun h => by rw [hL, psP, ← hC, if_pos h]
  have HL1 : Hid (¬ C = 0 → L = []) := fun h => by rw [hL, psP, ← hC, if_neg h]
  clear hC hL hCc hr
  go_enter Try.func18, Try.ntmps18
  go_wp2_with (go_at_call 60; refine (l2Ip_any _ _).mono ?_; rintro e w' ⟨rfl, rfl⟩)
  refine (S.out _).mono ?_
  rintro e w1 ⟨rfl, b1⟩
  have X1 := Lib.hid (X0.out.below b1 X0.out.lt)
  have R1 := Lib.hid (R0.out.below b1 R0.out.lt)
  have B1 := Lib.hid (B0.out.trans (b1.mono B0.out.size))
  clear b1 X0 R0 B0 S
  by_cases hc0 : C = 0
  · subst hc0
    obtain ⟨hn, _, _, hl⟩ := HP.out rfl
    obtain rfl := HL0.out rfl
    have KP := Lib.hid (l5Pack_any f t w.heap.size x a len cap zs w1 X1.out (HR.out.below B1.out) (by have := ipB_bd m0; omega) (by have := ipB_bd m1; omega) hn (by omega))
    clear HP HL0 HL1 hn m0 m1
    generalize sgL f t x zs = L at *
    go_wp2_with fail
    refine KP.out.mono ?_
    rintro e w2 ⟨a2, l2, c2, rfl, o2, b2⟩
    have R2 := R1.out.below b2 R1.out.lt
    obtain ⟨_, r0, r1⟩ := R2.two
    have f0 := R2.frozen 0
    have f1 := R2.frozen 1
    have hr1 := R1.out.lt
    have B2 := Lib.hid (B1.out.trans (b2.mono B1.out.size))
    have hne : Hid (∀ y, a2 = some y → ¬ y.block = w.heap.size + 1) := fun y hy e => by
      have := (o2.lt y hy).1
      omega
    have O2 := Lib.hid (o2.rebase B1.out.size)
    clear o2 b2 R1 B1 KP R2 hr1
    go_wp2
    refine bodyPost_ret (v := .agg #[.int .i64 0, .slice a2 l2 c2]) (by simp [results, Try.results18, go_sem, r0, r1]) rfl ⟨_, _, _, rfl, ?_, (B2.out.setCell (by simp) _).setCell (by simp) _⟩
    exact (O2.out.setOther _ _ hne.out).setOther _ _ hne.out
  · obtain rfl := HL1.out hc0
    have hne : (C != 0) = true := by simpa using hc0
    obtain ⟨_, r0, r1⟩ := R1.out.two
    have f0 := R1.out.frozen 0
    have f1 := R1.out.frozen 1
    clear HP HL0 HL1
    go_wp2
    exact bodyPost_ret (v := .agg #[.int .i64 C, .slice none 0 0]) (by simp [results, Try.results18, go_sem, r0, r1]) rfl ⟨none, 0, 0, rfl, Own.nil _ _, (B1.out.setCell (by simp) _).setCell (by simp) _⟩
end Go.Proofs.Yteaiemckcepphaa
