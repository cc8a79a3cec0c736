/-
  PackDatagram of the model.
-/
import Derived.Test.YtmcllaefjgdbeaaDgS
import Derived.Test.YtmcllaefjgdbeaaAppR
import Derived.Test.YtmcllaefjgdbeaaStDatagram
namespace Go.Proofs.Ytmcllaefjgdbeaa
open Go.ChangeShapes Go.WideShapes Go.ChangeAt Go.RowKit

/-- a datagram's bytes, with a sum of 0 -/
def dgH (df dt : Int) (zs : List Int) : List Int := be df 2 ++ be dt 2 ++ be (8 + zs.length) 2 ++ [0, 0] ++ zs
theorem dgH_len (df dt : Int) (zs : List Int) : (dgH df dt zs).length = 8 + zs.length := by simp [dgH, be_len]; omega
/-- the sum that is told -/
def dgT (n : Int) : Int := if n = 0 then 65535 else n
theorem dgT_bd (n : Int) (h : 0 ≤ n ∧ n ≤ 65535) : 0 ≤ dgT n ∧ dgT n ≤ 65535 := by unfold dgT; split <;> omega
def dgL (f t df dt : Int) (zs : List Int) : List Int := ((dgH df dt zs).set 6 (dgT (dgSum f t 17 (dgH df dt zs)) / 256)).set 7 (dgT (dgSum f t 17 (dgH df dt zs)) % 256)
theorem dgL_len (f t df dt : Int) (zs : List Int) : (dgL f t df dt zs).length = 8 + zs.length := by simp [dgL, dgH_len]

set_option maxRecDepth 20000 in
set_option maxHeartbeats 2000000 in
theorem l4Pack_any (f t : Int) (b : Nat) (df dt : Int) (a : Option Addr) (len cap : Nat) (zs : List Int) (w : World) (hx : Box w b 25 #[.int .i64 df, .int .i64 dt, .slice a len cap]) (hr : Rd w a len cap zs)
    (h0 : 0 ≤ f ∧ f < 281474976710656) (h1 : 0 ≤ t ∧ t < 281474976710656) (h2 : 0 ≤ df ∧ df < 281474976710656) (h3 : 0 ≤ dt ∧ dt < 281474976710656) (hl : len ≤ 552) :
    Calls Try.prog 51 #[.int .i64 f, .int .i64 t, .pointer (some ⟨b, 0, none⟩)] w (FreshAny w (dgL f t df dt zs)) := by
  have K0 := Lib.hid (fun W => l1Pack_lit df 2 2 W rfl h2 (by omega))
  have K1 := Lib.hid (fun W => l1Pack_lit dt 2 2 W rfl h3 (by omega))
  have K2 := Lib.hid (fun W => l1Pack_lit (8 + len) 2 2 W rfl (by omega) (by omega))
  have X := Lib.hid hx
  have HR := Lib.hid hr
  have hlt := hx.lt
  obtain ⟨HH, hHH⟩ : ∃ HH, HH = dgH df dt zs := ⟨_, rfl⟩
  have HL : Hid (HH = be df 2 ++ be dt 2 ++ be (8 + len) 2 ++ [0, 0] ++ zs) := by rw [hHH, dgH, hr.length]; rfl
  have hhl : HH.length = 8 + len := by rw [hHH, dgH_len, hr.length]
  have KS := Lib.hid (fun (s : Option Addr) (l c : Nat) (W : World) (hR : Rd W s l c HH) => l4Sum_any f t 17 s l c HH W hR h0 h1 (by omega) (by have := hR.length; omega))
  have hsb := sumV_bd (pseudoL f t 17 HH.length ++ HH)
  obtain ⟨v, hv⟩ : ∃ v, v = dgSum f t 17 HH := ⟨_, rfl⟩
  have hvb : 0 ≤ v ∧ v ≤ 65535 := by rw [hv]; exact hsb
  have hE : dgL f t df dt zs = (HH.set 6 (dgT v / 256)).set 7 (dgT v % 256) := by rw [hv, hHH]; rfl
  rw [hE]
  rw [← hv] at KS
  have LB := Lib.hid (fun W => own_litB2 W W.heap.size 0 0 (by omega) (by omega) (Nat.le_refl _))
  clear h0 h1 h2 h3 hx hr hHH hE hsb hv
  have HHL := Lib.hid hhl
  clear hhl
  have hwr : IntKind.i64.wrap (8 + (len : Int)) = 8 + len := IntWalk.i64_in _ (by omega)
  obtain ⟨_, x0, x1, _⟩ := X.out.three
  go_enter Try.func51, Try.ntmps51
  go_wp2_with fail
  go_region_held3 (fun W => W.cell? ⟨b, 0, none⟩ = some (.int .i64 df) ∧ W.cell? ⟨b, 1, none⟩ = some (.int .i64 dt))
    (first | go_keep | (go_split_ands; exact ⟨keepB hb (by assumption) hlt, keepB hb (by assumption) hlt⟩))
    (first
      | (have q := P2; clear q; refine append_step _ rfl (.tmp 13) (.tmp 18) rfl w.heap.size _ _ _ _ rfl P2.out _ _ _ _ rfl r2.out B2.out.size (by omega) ?_; intro a3 c3 w3 o3 hb; have P3 := Lib.hid o3; have B3 := Lib.hid (B2.out.trans hb))
      | (have q := P1; clear q; go_at_call 76; refine (K1.out _).mono ?_; rintro e w2 ⟨rfl, o2, b2⟩; have P2 := Lib.hid (P1.out.below b2); have r2 := Lib.hid o2.rd; have hb := b2.mono B1.out.size; have B2 := Lib.hid (B1.out.trans hb))
      | (go_at_call 76; refine (K0.out _).mono ?_; rintro e w1 ⟨rfl, o1, b1⟩; have P1 := Lib.hid o1; have hb := b1; have B1 := Lib.hid ((Below.refl w.heap.size w).drew.trans hb)))
  clear o1 b1 o2 b2 hb P1 P2 r2 B1 B2 x0 x1 o3 K0 K1
  obtain ⟨_, _, _, x2⟩ := (X.out.below B3.out hlt).three
  go_wp2_with fail
  refine (K2.out _).mono ?_
  rintro e w4 ⟨rfl, o4, b4⟩
  have P4 := Lib.hid (P3.out.below b4)
  have r4 := Lib.hid o4.rd
  have B4 := Lib.hid (B3.out.trans (b4.mono B3.out.size))
  clear o4 b4 x2 P3 B3 K2
  go_wp2_with (first
    | (at_builtin; have q := P6; clear q; refine append_bytes _ rfl (.tmp 31) (.tmp 35) rfl w.heap.size _ _ _ _ rfl P6.out _ _ _ _ rfl (HR.out.below B6.out) B6.out.size (by omega) ?_; intro a7 c7 w7 o7 g7; have P7 := Lib.hid o7; have B7 := Lib.hid (B6.out.grown g7 B6.out.size (fun k e => own_blk P6.out k e)); clear o7 g7 P6 B6)
    | (at_builtin; have q := P5; clear q; refine append_bytes _ rfl (.tmp 28) (.tmp 29) rfl w.heap.size _ _ _ _ rfl P5.out _ _ _ _ rfl L5.out.rd B5.out.size (by omega) ?_; intro a6 c6 w6 o6 g6; have P6 := Lib.hid o6; have B6 := Lib.hid (B5.out.grown g6 B5.out.size (fun k e => own_blk P5.out k e)); have x2 : w6.cell? ⟨b, 2, none⟩ = some (.slice a len cap) := (X.out.below B6.out hlt).cell 2; clear o6 g6 P5 B5 L5)
    | (at_builtin; refine append_bytes _ rfl (.tmp 20) (.tmp 27) rfl w.heap.size _ _ _ _ rfl P4.out _ _ _ _ rfl r4.out B4.out.size (by omega) ?_; intro a5 c5 w5 o5 g5; have P5 := Lib.hid (o5.alloc (.cells #[.int .u8 0, .int .u8 0] 5)); have B5' := B4.out.grown g5 B4.out.size (fun k e => own_blk P4.out k e); have B5 := Lib.hid (B5'.alloc B5'.size (.cells #[.int .u8 0, .int .u8 0] 5)); have L5 := Lib.hid (LB.out w5); clear o5 g5 B5' P4 r4 B4))
  have O7 : Hid (Own w7 w.heap.size a7 (8 + len) c7 HH) := by rw [HL.out]; exact P7.out
  clear P7 x2
  refine (KS.out _ _ _ _ O7.out.rd).mono ?_
  rintro e w8 ⟨rfl, b8⟩
  have O8 := Lib.hid (O7.out.below b8)
  have B8 := Lib.hid (B7.out.trans (b8.mono B7.out.size))
  clear b8 O7 B7 KS
  rcases O8.out.shape with ⟨_, h0, _⟩ | ⟨g, rfl⟩
  · omega
  have gB := (O8.out.lt _ rfl).1
  dsimp only at gB
  obtain ⟨N, hN⟩ : ∃ N, N = 8 + len := ⟨_, rfl⟩
  rw [← hN] at O8 ⊢
  have i6 : (6 : Int) < N := by omega
  have i7 : (7 : Int) < N := by omega
  have j6 := O8.out.cellAt 6 (by omega)
  have f6 := O8.out.frozenAt 6
  clear hN
  by_cases hv0 : v = 0
  · subst hv0
    obtain ⟨o9, g9⟩ := O8.out.set 6 255 (by omega)
    have j7 := o9.cellAt 7 (by omega)
    have f7 := o9.frozenAt 7
    obtain ⟨o10, g10⟩ := o9.set 7 255 (by omega)
    have O10 : Hid (Own _ w.heap.size (some ⟨g, 0, none⟩) N c7 ((HH.set 6 (dgT 0 / 256)).set 7 (dgT 0 % 256))) := o10
    have B10 := Lib.hid (B8.out.grown (grown_trans g9 g10) B8.out.size (fun k e => by cases e; exact gB))
    clear o9 g9 o10 g10 O8 B8
    go_wp2
    go_ret
    exact ⟨_, _, _, rfl, O10.out, B10.out⟩
  · have e0 : (v == 0) = false := by simpa using hv0
    have hT : dgT v = v := by unfold dgT; rw [if_neg hv0]
    obtain ⟨o9, g9⟩ := O8.out.set 6 (v / 256) (by omega)
    have j7 := o9.cellAt 7 (by omega)
    have f7 := o9.frozenAt 7
    obtain ⟨o10, g10⟩ := o9.set 7 (v % 256) (by omega)
    have O10 : Hid (Own ((w8.setCell ⟨g, 6, none⟩ (.int .u8 (v / 256))).setCell ⟨g, 7, none⟩ (.int .u8 (v % 256))) w.heap.size (some ⟨g, 0, none⟩) N c7 ((HH.set 6 (dgT v / 256)).set 7 (dgT v % 256))) := by rw [hT]; exact o10
    have B10 := Lib.hid (B8.out.grown (grown_trans g9 g10) B8.out.size (fun k e => by cases e; exact gB))
    clear o9 g9 o10 g10 O8 B8 hT
    go_wp2
    go_ret
    exact ⟨_, _, _, rfl, O10.out, B10.out⟩

def pdC (f t df dt : Int) (n : Nat) : Int := if ipB f && ipB t then dgC df dt n else 3
def pdP (f t df dt : Int) (zs : List Int) : List Int := if pdC f t df dt zs.length = 0 then dgL f t df dt zs else []
theorem dgC_parts {df dt : Int} {n : Nat} (h : dgC df dt n = 0) : (1 ≤ df ∧ df ≤ 65535) ∧ (1 ≤ dt ∧ dt ≤ 65535) ∧ n ≤ 552 := by
  unfold dgC at h
  split at h
  · rename_i hk
    simp only [dgB, inB, Bool.and_eq_true, decide_eq_true_eq] at hk
    split at h
    · rename_i hn; exact ⟨hk.1, hk.2, hn⟩
    · omega
  · omega
theorem pdC_parts {f t df dt : Int} {n : Nat} (h : pdC f t df dt n = 0) : ipB f = true ∧ ipB t = true ∧ dgC df dt n = 0 := by
  unfold pdC at h
  split at h
  · rename_i hk
    simp only [Bool.and_eq_true] at hk
    exact ⟨hk.1, hk.2, h⟩
  · omega
theorem pdP_len (f t df dt : Int) (zs : List Int) : (pdP f t df dt zs).length ≤ 700 := by
  unfold pdP
  split
  · rename_i h
    obtain ⟨_, _, h'⟩ := pdC_parts h
    obtain ⟨_, _, hn⟩ := dgC_parts h'
    rw [dgL_len]; omega
  · exact Nat.zero_le _

set_option maxHeartbeats 2000000 in
theorem specPackDatagram (f t df dt : Int) (a : Option Addr) (len cap : Nat) (zs : List Int) (w : World) (hr : Rd w a len cap zs) :
    Calls Try.prog 17 #[.int .i64 f, .int .i64 t, .agg #[.int .i64 df, .int .i64 dt, .slice a len cap]] w (Packed w (pdC f t df dt zs.length) (pdP f t df dt zs)) := by
  have S := Lib.hid (fun W => specDatagramFault df dt a len cap W)
  have B0 := Lib.hid (((Below.refl w.heap.size w).alloc (Nat.le_refl _) (.cells #[.int .i64 df, .int .i64 dt, .slice a len cap] 25)).alloc (by simp) (.cells #[.int .i64 0, .slice none 0 0] 29))
  have X0 := Lib.hid ((Box.new w 25 #[.int .i64 df, .int .i64 dt, .slice a len cap]).alloc (.cells #[.int .i64 0, .slice none 0 0] 29))
  have R0 := Lib.hid (Box.new (w.alloc (.cells #[.int .i64 df, .int .i64 dt, .slice a len cap] 25)) 29 #[.int .i64 0, .slice none 0 0])
  simp only [World.size_alloc] at R0
  have hln := hr.length
  cases m0 : ipB f
  case' true => cases m1 : ipB t
  case' true.true => rcases Decidable.em (dgC df dt len = 0) with hk | hk
  case false =>
    have hc : pdC f t df dt zs.length = 3 := by simp [pdC, m0]
    have hp : pdP f t df dt zs = [] := by simp [pdP, hc]
    rw [hc, hp]
    clear hr hln hc hp S
    go_enter Try.func17, Try.ntmps17
    go_wp2_with (go_at_call 49; refine (l2Ip_any _ _).mono ?_; rintro e w' ⟨rfl, rfl⟩)
    exact bodyPost_ret (v := .agg #[.int .i64 3, .slice none 0 0]) (by simp [results, Try.results17, go_sem]) rfl ⟨none, 0, 0, rfl, Own.nil _ _, (((Below.refl _ _).alloc (Nat.le_refl _) _).alloc (by simp) _)⟩
  case true.false =>
    have hc : pdC f t df dt zs.length = 3 := by simp [pdC, m1]
    have hp : pdP f t df dt zs = [] := by simp [pdP, hc]
    rw [hc, hp]
    clear hr hln hc hp S
    go_enter Try.func17, Try.ntmps17
    go_wp2_with (go_at_call 49; refine (l2Ip_any _ _).mono ?_; rintro e w' ⟨rfl, rfl⟩)
    exact bodyPost_ret (v := .agg #[.int .i64 3, .slice none 0 0]) (by simp [results, Try.results17, go_sem]) rfl ⟨none, 0, 0, rfl, Own.nil _ _, (((Below.refl _ _).alloc (Nat.le_refl _) _).alloc (by simp) _)⟩
  case true.true.inr =>
    have hc : pdC f t df dt zs.length = dgC df dt len := by simp [pdC, m0, m1, hln]
    have hp : pdP f t df dt zs = [] := by unfold pdP; rw [hc, if_neg hk]
    have hne : (dgC df dt len != 0) = true := by simpa using hk
    rw [hc, hp]
    clear hr hln hc hp hk
    generalize dgC df dt len = c at *
    go_enter Try.func17, Try.ntmps17
    go_wp2_with (go_at_call 49; refine (l2Ip_any _ _).mono ?_; rintro e w' ⟨rfl, rfl⟩)
    refine (S.out _).mono ?_
    rintro e w1 ⟨rfl, b1⟩
    have R1 := R0.out.below b1 R0.out.lt
    obtain ⟨z2, r20, r21⟩ := R1.two
    have f0 := R1.frozen 0
    have f1 := R1.frozen 1
    have B1 := Lib.hid (B0.out.trans (b1.mono B0.out.size))
    clear b1 R0 B0 R1
    go_wp2
    exact bodyPost_ret (v := .agg #[.int .i64 c, .slice none 0 0]) (by simp [results, Try.results17, go_sem, r20, r21]) rfl ⟨none, 0, 0, rfl, Own.nil _ _, (B1.out.setCell (by simp) _).setCell (by simp) _⟩
  case true.true.inl =>
    have hc : pdC f t df dt zs.length = 0 := by simp [pdC, m0, m1, hln, hk]
    have hp : pdP f t df dt zs = dgL f t df dt zs := by unfold pdP; rw [if_pos hc]
    rw [hc, hp]
    rw [hk] at S
    obtain ⟨h2, h3, h4⟩ := dgC_parts hk
    have k0 := ipB_bd m0
    have k1 := ipB_bd m1
    have K := Lib.hid (fun W (hW : Below w.heap.size w W) (hX : Box W w.heap.size 25 #[.int .i64 df, .int .i64 dt, .slice a len cap]) => l4Pack_any f t w.heap.size df dt a len cap zs W hX (hr.below hW) (by omega) (by omega) (by omega) (by omega) h4)
    generalize dgL f t df dt zs = L at *
    clear hr hln hc hp hk h2 h3 h4 k0 k1
    go_enter Try.func17, Try.ntmps17
    go_wp2_with (go_at_call 49; refine (l2Ip_any _ _).mono ?_; rintro e w' ⟨rfl, rfl⟩)
    refine (S.out _).mono ?_
    rintro e w1 ⟨rfl, b1⟩
    have X1 := Lib.hid (X0.out.below b1 X0.out.lt)
    have R1 := Lib.hid (R0.out.below b1 R0.out.lt)
    have B1 := Lib.hid (B0.out.trans (b1.mono B0.out.size))
    clear b1 X0 R0 B0 S
    go_wp2_with fail
    refine (K.out _ B1.out X1.out).mono ?_
    rintro e w2 ⟨a2, l2, c2, rfl, o2, b2⟩
    have R2 := R1.out.below b2 R1.out.lt
    obtain ⟨z2, r20, r21⟩ := R2.two
    have f0 := R2.frozen 0
    have f1 := R2.frozen 1
    have B2 := Lib.hid (B1.out.trans (b2.mono B1.out.size))
    have O2 := Lib.hid (o2.rebase B1.out.size)
    have hx : Hid (∀ x, a2 = some x → ¬ x.block = w.heap.size + 1) := fun x hx e => by
      have := (o2.lt x hx).1
      have := R1.out.lt
      omega
    clear b2 o2 R2 R1 B1 X1 K
    go_wp2
    refine bodyPost_ret (v := .agg #[.int .i64 0, .slice a2 l2 c2]) (by simp [results, Try.results17, go_sem, r20, r21]) rfl ⟨_, _, _, rfl, ?_, (B2.out.setCell (by simp) _).setCell (by simp) _⟩
    exact (O2.out.setOther _ _ hx.out).setOther _ _ hx.out
end Go.Proofs.Ytmcllaefjgdbeaa
