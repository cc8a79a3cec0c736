/-
  PackPacket and PackEcho of the model.
-/
import Derived.Test.YtgjkbaplfbiomaaPkS
import Derived.Test.YtgjkbaplfbiomaaSeal
import Derived.Test.YtgjkbaplfbiomaaAppR
import Derived.Test.YtgjkbaplfbiomaaFrmP
namespace Go.Proofs.Ytgjkbaplfbiomaa
open Go.ChangeShapes Go.WideShapes Go.ChangeAt Go.RowKit

/-- the 20 bytes of a packet's head, ahead of the sum -/
def packH (kf kt kp kl : Int) (n : Nat) : List Int := [69, 0] ++ be (20 + n) 2 ++ [0, 0, 64, 0, kl, kp, 0, 0] ++ be kf 4 ++ be kt 4
def packL (kf kt kp kl : Int) (zs : List Int) : List Int := sealB (packH kf kt kp kl zs.length) 10 ++ zs
theorem packH_len (kf kt kp kl : Int) (n : Nat) : (packH kf kt kp kl n).length = 20 := by simp [packH, be_len]

theorem own_litB2 (w : World) (base : Nat) (x y : Int) (hx : 0 ≤ x ∧ x ≤ 255) (hy : 0 ≤ y ∧ y ≤ 255) (hb : base ≤ w.heap.size) : Own (w.alloc (.cells #[.int .u8 x, .int .u8 y] 5)) base (some ⟨w.heap.size, 0, none⟩) 2 2 [x, y] :=
  ⟨World.ownsRow_lit w #[.int .u8 x, .int .u8 y] 2 hb (by unfold maxLen; omega) rfl, by intro n hn; simp at hn; omega⟩
theorem own_litB8 (w : World) (base : Nat) (x y : Int) (hx : 0 ≤ x ∧ x ≤ 255) (hy : 0 ≤ y ∧ y ≤ 255) (hb : base ≤ w.heap.size) : Own (w.alloc (.cells #[.int .u8 0, .int .u8 0, .int .u8 64, .int .u8 0, .int .u8 x, .int .u8 y, .int .u8 0, .int .u8 0] 5)) base (some ⟨w.heap.size, 0, none⟩) 8 8 [0, 0, 64, 0, x, y, 0, 0] :=
  ⟨World.ownsRow_lit w #[.int .u8 0, .int .u8 0, .int .u8 64, .int .u8 0, .int .u8 x, .int .u8 y, .int .u8 0, .int .u8 0] 8 hb (by unfold maxLen; omega) rfl, by intro n hn; simp at hn; omega⟩
theorem u8_in (x : Int) (h : 0 ≤ x ∧ x ≤ 255) : IntKind.u8.wrap x = x := by
  rw [IntKind.wrap_u8]; omega

theorem l1Seal_lit (g len cap base A : Nat) (x : Int) (zs : List Int) (w : World) (hx : (A : Int) = x) (h : Own w base (some ⟨g, 0, none⟩) len cap zs) (hl : len ≤ 1048576) (hA : A + 2 ≤ len) :
    Calls Try.prog 72 #[.slice (some ⟨g, 0, none⟩) len cap, .int .i64 x] w fun e w' => e = .returned (.slice (some ⟨g, 0, none⟩) len cap) ∧ Own w' base (some ⟨g, 0, none⟩) len cap (sealB zs A) ∧ w.grownBy w' (some g) := by
  subst hx
  exact l1Seal_any g len cap base A zs w h hl hA

set_option maxHeartbeats 2000000 in
theorem l3Packet_any (b : Nat) (kf kt kp kl : Int) (a : Option Addr) (len cap : Nat) (zs : List Int) (w : World) (hx : Box w b 25 #[.int .i64 kf, .int .i64 kt, .int .i64 kp, .int .i64 kl, .slice a len cap]) (hr : Rd w a len cap zs)
    (h0 : 0 ≤ kf ∧ kf < 281474976710656) (h1 : 0 ≤ kt ∧ kt < 281474976710656) (h2 : 0 ≤ kp ∧ kp ≤ 255) (h3 : 0 ≤ kl ∧ kl ≤ 255) (hl : len ≤ 560) :
    Calls Try.prog 59 #[.pointer (some ⟨b, 0, none⟩)] w (FreshAny w (packL kf kt kp kl zs)) := by
  have K0 := Lib.hid (fun W => l1Pack_lit (20 + len) 2 2 W rfl (by omega) (by omega))
  have K1 := Lib.hid (fun W => l1Pack_lit kf 4 4 W rfl h0 (by omega))
  have K2 := Lib.hid (fun W => l1Pack_lit kt 4 4 W rfl h1 (by omega))
  have X := Lib.hid hx
  have HR := Lib.hid hr
  have hlt := hx.lt
  have HL : Hid (packL kf kt kp kl zs = sealB ([69, 0] ++ be (20 + len) 2 ++ [0, 0, 64, 0, kl, kp, 0, 0] ++ be kf 4 ++ be kt 4) 10 ++ zs) := by unfold Hid packL packH; rw [hr.length]
  obtain ⟨L, hL⟩ : ∃ L, L = packL kf kt kp kl zs := ⟨_, rfl⟩
  rw [← hL] at HL ⊢
  have O0 := Lib.hid (own_litB2 w w.heap.size 69 0 (by omega) (by omega) (Nat.le_refl _))
  have B0 := Lib.hid ((Below.refl w.heap.size w).alloc (Nat.le_refl _) (.cells #[.int .u8 69, .int .u8 0] 5))
  have u1 := u8_in kp h2
  have u2 := u8_in kl h3
  have H8 := Lib.hid (fun W hW => own_litB8 W w.heap.size kl kp h3 h2 hW)
  have hln := Lib.hid hr.length
  clear h0 h1 h2 h3 hx hr hL
  obtain ⟨_, _, _, _, _, x4⟩ := X.out.five
  go_enter Try.func59, Try.ntmps59
  go_wp2_with fail
  refine (K0.out _).mono ?_
  rintro e w1 ⟨rfl, o1, b1⟩
  simp only [World.size_alloc] at o1
  have P1 := Lib.hid (O0.out.below b1)
  have r1 := Lib.hid o1.rd
  have B1 := Lib.hid (B0.out.trans (b1.mono B0.out.size))
  clear o1 b1 O0 B0 x4 K0
  go_wp2_with (at_builtin; refine append_bytes _ rfl (.tmp 4) (.tmp 11) rfl w.heap.size _ _ _ _ rfl P1.out _ _ _ _ rfl r1.out B1.out.size (by omega) ?_; intro a2 c2 w2 o2 g2; have P2 := Lib.hid o2; have B2 := Lib.hid (B1.out.grown g2 B1.out.size (fun k e => by simp [Value.ownBlock] at e; omega)); clear o2 g2 P1 r1 B1)
  obtain ⟨_, _, _, x2, x3, _⟩ := (X.out.below B2.out hlt).five
  go_wp2_with fail
  go_region_held3 (fun W => W.cell? ⟨b, 2, none⟩ = some (.int .i64 kp) ∧ W.cell? ⟨b, 3, none⟩ = some (.int .i64 kl))
    (first | go_keep | (go_split_ands; exact ⟨keepB hb (by assumption) hlt, keepB hb (by assumption) hlt⟩))
    (first
      | (refine append_step _ rfl (.tmp 13) (.tmp 24) rfl w.heap.size _ _ _ _ rfl (P2.out.drew.alloc _) _ _ _ _ rfl (H8.out _ B2.out.drew.size).rd (Nat.le_trans B2.out.drew.size (by simp)) (by omega) ?_; intro a3 c3 w3 o3 hb; have P3 := Lib.hid o3; have B3 := Lib.hid ((B2.out.drew.alloc B2.out.drew.size _).trans hb)))
  clear o3 hb P2 B2 x2 x3 H8
  obtain ⟨_, x0, x1, _, _, _⟩ := (X.out.below B3.out hlt).five
  go_wp2_with fail
  go_region_held3 (fun W => W.cell? ⟨b, 0, none⟩ = some (.int .i64 kf) ∧ W.cell? ⟨b, 1, none⟩ = some (.int .i64 kt))
    (first | go_keep | (go_split_ands; exact ⟨keepB hb (by assumption) hlt, keepB hb (by assumption) hlt⟩))
    (first
      | (have q := P6; clear q; refine append_step _ rfl (.tmp 32) (.tmp 37) rfl w.heap.size _ _ _ _ rfl P6.out _ _ _ _ rfl r6.out B6.out.size (by omega) ?_; intro a7 c7 w7 o7 hb; have P7 := Lib.hid o7; have B7 := Lib.hid (B6.out.trans hb))
      | (have q := P4; clear q; refine append_step _ rfl (.tmp 26) (.tmp 31) rfl w.heap.size _ _ _ _ rfl P4.out _ _ _ _ rfl r4.out B4.out.size (by omega) ?_; intro a5 c5 w5 o5 hb; have P5 := Lib.hid o5; have B5 := Lib.hid (B4.out.trans hb))
      | (have q := P5; clear q; go_at_call 91; refine (K2.out _).mono ?_; rintro e w6 ⟨rfl, o6, b6⟩; have P6 := Lib.hid (P5.out.below b6); have r6 := Lib.hid o6.rd; have hb := b6.mono B5.out.size; have B6 := Lib.hid (B5.out.trans hb))
      | (go_at_call 91; refine (K1.out _).mono ?_; rintro e w4 ⟨rfl, o4, b4⟩; have P4 := Lib.hid (P3.out.drew.below b4); have r4 := Lib.hid o4.rd; have hb := b4.mono B3.out.drew.size; have B4 := Lib.hid (B3.out.drew.trans hb)))
  clear o4 b4 P4 r4 o5 P5 o6 b6 P6 r6 hb B3 B4 B5 B6 x0 x1 P3 o7 K1 K2
  rcases P7.out.shape with ⟨_, h0, _⟩ | ⟨g, rfl⟩
  · omega
  have gB := (P7.out.lt _ rfl).1
  dsimp only at gB
  obtain ⟨_, _, _, _, _, x4⟩ := (X.out.below B7.out hlt).five
  have H7 := Lib.hid (HR.out.below B7.out)
  go_wp2_with fail
  go_region_held3 (fun W => W.cell? ⟨b, 4, none⟩ = some (.slice a len cap))
    (first | go_keep | (go_split_ands; exact keepB hb (by assumption) hlt))
    (first
      | (have q := P8; clear q; refine append_step _ rfl (.tmp 40) (.tmp 44) rfl w.heap.size _ _ _ _ rfl P8.out _ _ _ _ rfl (HR.out.below B8.out) B8.out.size (by omega) ?_; intro a9 c9 w9 o9 hb; have P9 := Lib.hid o9; have B9 := Lib.hid (B8.out.trans hb))
      | (go_at_call 72; refine (l1Seal_lit g 20 c7 _ 10 10 _ _ rfl P7.out.drew (by omega) (by omega)).mono ?_; rintro e w8 ⟨rfl, o8, g8⟩; have P8 := Lib.hid o8; have hb := below_of_grown g8 B7.out.drew.size (fun k e => by cases e; exact gB); have B8 := Lib.hid (B7.out.drew.trans hb)))
  clear o8 g8 hb P7 B7 P8 B8 o9 x4
  go_wp2
  go_ret
  exact ⟨a9, _, c9, rfl, by rw [HL.out]; exact P9.out, B9.out⟩

def packP (kf kt kp kl : Int) (zs : List Int) : List Int := if packC kf kt kp kl zs.length = 0 then packL kf kt kp kl zs else []
theorem packC_parts {kf kt kp kl : Int} {n : Nat} (h : packC kf kt kp kl n = 0) : (0 ≤ kf ∧ kf < 4294967296) ∧ (0 ≤ kt ∧ kt < 4294967296) ∧ (0 ≤ kp ∧ kp ≤ 255) ∧ (1 ≤ kl ∧ kl ≤ 255) ∧ n ≤ 560 := by
  unfold packC at h
  split at h
  · rename_i hk
    split at h
    · simp only [packB, ipB, inB, Bool.and_eq_true, decide_eq_true_eq] at hk
      omega
    · omega
  · omega
theorem packP_len (kf kt kp kl : Int) (zs : List Int) : (packP kf kt kp kl zs).length ≤ 700 := by
  unfold packP
  split
  · rename_i h
    have := (packC_parts h).2.2.2.2
    rw [packL, List.length_append, sealB_len, packH_len]
    omega
  · simp

set_option maxHeartbeats 1000000 in
theorem specPackPacket (kf kt kp kl : Int) (a : Option Addr) (len cap : Nat) (zs : List Int) (w : World) (hr : Rd w a len cap zs) :
    Calls Try.prog 21 #[.agg #[.int .i64 kf, .int .i64 kt, .int .i64 kp, .int .i64 kl, .slice a len cap]] w (Packed w (packC kf kt kp kl zs.length) (packP kf kt kp kl zs)) := by
  have S := Lib.hid (fun W => specPacketFault kf kt kp kl a len cap W)
  have B0 := Lib.hid (((Below.refl w.heap.size w).alloc (Nat.le_refl _) (.cells #[.int .i64 kf, .int .i64 kt, .int .i64 kp, .int .i64 kl, .slice a len cap] 25)).alloc (by simp) (.cells #[.int .i64 0, .slice none 0 0] 28))
  have X0 := Lib.hid ((Box.new w 25 #[.int .i64 kf, .int .i64 kt, .int .i64 kp, .int .i64 kl, .slice a len cap]).alloc (.cells #[.int .i64 0, .slice none 0 0] 28))
  have R0 := Lib.hid (Box.new (w.alloc (.cells #[.int .i64 kf, .int .i64 kt, .int .i64 kp, .int .i64 kl, .slice a len cap] 25)) 28 #[.int .i64 0, .slice none 0 0])
  rw [hr.length]
  by_cases hk : packC kf kt kp kl len = 0
  · have hp : packP kf kt kp kl zs = packL kf kt kp kl zs := by unfold packP; rw [hr.length, if_pos hk]
    obtain ⟨h0, h1, h2, h3, h4⟩ := packC_parts hk
    have L := Lib.hid (fun W b hx hW => l3Packet_any b kf kt kp kl a len cap zs W hx (hr.below hW) (by omega) (by omega) h2 (by omega) h4)
    rw [hk] at S ⊢
    rw [hp]
    clear hk hp h0 h1 h2 h3 h4 hr
    generalize packL kf kt kp kl zs = ys at *
    go_enter Try.func21, Try.ntmps21
    go_wp2_with fail
    refine (S.out _).mono ?_
    rintro e w1 ⟨rfl, b1⟩
    have X1 := Lib.hid (X0.out.below b1 X0.out.lt)
    have R1 := Lib.hid (R0.out.below b1 R0.out.lt)
    have B1 := Lib.hid (B0.out.trans (b1.mono B0.out.size))
    clear b1 X0 R0 B0
    go_wp2_with fail
    refine (L.out _ _ X1.out B1.out).mono ?_
    rintro e w2 ⟨a2, l2, c2, rfl, o2, b2⟩
    have R2 := R1.out.below b2 R1.out.lt
    simp only [World.size_alloc] at R2
    have hz := R1.out.lt
    simp only [World.size_alloc] at hz
    obtain ⟨z2, r20, r21⟩ := R2.two
    have f0 := R2.frozen 0
    have f1 := R2.frozen 1
    have B2 := Lib.hid (B1.out.trans (b2.mono B1.out.size))
    have O2 := Lib.hid o2
    clear b2 o2 X1 R1 B1 R2
    go_wp2
    refine bodyPost_ret (v := .agg #[.int .i64 0, .slice a2 l2 c2]) (by simp [results, Try.results21, go_sem, r20, r21]) rfl ⟨_, _, _, rfl, ?_, (B2.out.setCell (by simp) _).setCell (by simp) _⟩
    have hn : ∀ x, a2 = some x → w1.heap.size ≤ x.block := fun x hx => (O2.out.lt x hx).1
    exact ((O2.out.setOther _ _ (fun x hx => by have := hn x hx; simp; omega)).setOther _ _ (fun x hx => by have := hn x hx; simp; omega)).rebase (by have := B2.out.size; omega)
  · have hp : packP kf kt kp kl zs = [] := by unfold packP; rw [hr.length, if_neg hk]
    have hne : (packC kf kt kp kl len != 0) = true := by simpa using hk
    rw [hp]
    clear hk hp hr
    generalize packC kf kt kp kl len = c at *
    go_enter Try.func21, Try.ntmps21
    go_wp2_with fail
    refine (S.out _).mono ?_
    rintro e w1 ⟨rfl, b1⟩
    have R1 := R0.out.below b1 R0.out.lt
    simp only [World.size_alloc] at R1
    obtain ⟨z2, r20, r21⟩ := R1.two
    have f0 := R1.frozen 0
    have f1 := R1.frozen 1
    have B1 := Lib.hid (B0.out.trans (b1.mono B0.out.size))
    clear b1 X0 R0 B0 R1
    go_wp2
    exact bodyPost_ret (v := .agg #[.int .i64 c, .slice none 0 0]) (by simp [results, Try.results21, go_sem, r20, r21]) rfl ⟨none, 0, 0, rfl, Own.nil _ _, (B1.out.setCell (by simp) _).setCell (by simp) _⟩
end Go.Proofs.Ytgjkbaplfbiomaa
