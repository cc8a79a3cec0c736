/-
  PackPacket and PackEcho of the model.
  How 'all below is as it was' is carried, hidden, over calls, allocations, draws and stores.
  ReadPacket of the model.
  PackEcho of the model.
  ReadEcho of the model.
  Contracts of the program's readers of heads and parties, whose addresses are arrays in a struct.
  Contracts of the program's parties of a question or an answer of addresses, and of the head of one.
  Contracts of the program's FrameFault and ArpFault.
  PackFrame of the program.
  PackArp of the model, and the law FnExactPackArp where the program's PackArp answers so.
  The law FnExactPackArp returns true, where the program's PackArp answers as the model's does.
  PackArp of the program.
  ReadFrame of the program.
  Contracts of isPacketLength and isCut, and of ReadWord and IsSummed at numbers.
  packetIn of the program: what is refused, and with which code.
  A region that draws its order, by what each operation leaves: one proof an operation, whatever the order. And values that own their bytes.
-/
import Derived.Test.YtgjkbaplfbiomaaPacketsM1
import Derived.Test.YtgjkbaplfbiomaaPacketsM0
import Derived.Deep.DeepCutAuto
import Derived.Deep.RegionHeld3
namespace Go.Proofs.Ytgjkbaplfbiomaa
open Go.ChangeShapes Go.WideShapes Go.ChangeAt Go.RowKit

/-- the 20 bytes of a packet's head, ahead of the sum -/
def packH (kf kt kp kl : Int) (n : Nat) : List Int := [69, 0] ++ be (20 + n) 2 ++ [0, 0, 64, 0, kl, kp, 0, 0] ++ be kf 4 ++ be kt 4
def packL (kf kt kp kl : Int) (zs : List Int) : List Int := sealB (packH kf kt kp kl zs.length) 10 ++ zs
theorem packH_len (kf kt kp kl : Int) (n : Nat) : (packH kf kt kp kl n).length = 20 := by simp [packH, be_len]

theorem own_litB2 (w : World) (base : Nat) (x y : Int) (hx : 0 ≤ x ∧ x ≤ 255) (hy : 0 ≤ y ∧ y ≤ 255) (hb : base ≤ w.heap.size) : Own (w.alloc (.cells #[.int .u8 x, .int .u8 y] 5)) base (some ⟨w.heap.size, 0, none⟩) 2 2 [x, y] :=
  ⟨World.ownsRow_lit w #[.int .u8 x, .int .u8 y] 2 hb (by unfold maxLen; omega) rfl, by intro n hn; simp at hn; omega⟩
theorem own_litB8 (w : World) (base : Nat) (x y : Int) (hx : 0 ≤ x ∧ x ≤ 255) (hy : 0 ≤ y ∧ y ≤ 255) (hb : base ≤ w.heap.size) : Own (w.alloc (.cells #[.int .u8 0, .int .u8 0, .int .u8 64, .int .u8 0, .int .u8 x, .int .u8 y, .int .u8 0, .int .u8 0] 5)) base (some ⟨w.heap.size, 0, none⟩) 8 8 [0, 0, 64, 0, x, y, 0, 0] :=
  ⟨World.ownsRow_lit w #[.int .u8 0, .int .u8 0, .int .u8 64, .int .u8 0, .int .u8 x, .int .u8 y, .int .u8 0, .int .u8 0] 8 hb (by unfold maxLen; omega) rfl, by intro n hn; simp at hn; omega⟩
theorem u8_in (x : Int) (h : 0 ≤ x ∧ x ≤ 255) : IntKind.u8.wrap x = x := by
  rw [IntKind.wrap_u8]; omega

theorem l1Seal_lit (g len cap base A : Nat) (x : Int) (zs : List Int) (w : World) (hx : (A : Int) = x) (h : Own w base (some ⟨g, 0, none⟩) len cap zs) (hl : len ≤ 1048576) (hA : A + 2 ≤ len) :
    Calls Try.prog 72 #[.slice (some ⟨g, 0, none⟩) len cap, .int .i64 x] w fun e w' => e = .returned (.slice (some ⟨g, 0, none⟩) len cap) ∧ Own w' base (some ⟨g, 0, none⟩) len cap (sealB zs A) ∧ w.grownBy w' (some g) := by
  subst hx
  exact l1Seal_any g len cap base A zs w h hl hA

set_option maxHeartbeats 2000000 in
theorem l3Packet_any (b : Nat) (kf kt kp kl : Int) (a : Option Addr) (len cap : Nat) (zs : List Int) (w : World) (hx : Box w b 25 #[.int .i64 kf, .int .i64 kt, .int .i64 kp, .int .i64 kl, .slice a len cap]) (hr : Rd w a len cap zs)
    (h0 : 0 ≤ kf ∧ kf < 281474976710656) (h1 : 0 ≤ kt ∧ kt < 281474976710656) (h2 : 0 ≤ kp ∧ kp ≤ 255) (h3 : 0 ≤ kl ∧ kl ≤ 255) (hl : len ≤ 560) :
    Calls Try.prog 59 #[.pointer (some ⟨b, 0, none⟩)] w (FreshAny w (packL kf kt kp kl zs)) := by
  have K0 := Lib.hid (fun W => l1Pack_lit (20 + len) 2 2 W rfl (by omega) (by omega))
  have K1 := Lib.hid (fun W => l1Pack_lit kf 4 4 W rfl h0 (by omega))
  have K2 := Lib.hid (fun W => l1Pack_lit kt 4 4 W rfl h1 (by omega))
  have X := Lib.hid hx
  have HR := Lib.hid hr
  have hlt := hx.lt
  have HL : Hid (packL kf kt kp kl zs = sealB ([69, 0] ++ be (20 + len) 2 ++ [0, 0, 64, 0, kl, kp, 0, 0] ++ be kf 4 ++ be kt 4) 10 ++ zs) := by unfold Hid packL packH; rw [hr.length]
  obtain ⟨L, hL⟩ : ∃ L, L = packL kf kt kp kl zs := ⟨_, rfl⟩
  rw [← hL] at HL ⊢
  have O0 := Lib.hid (own_litB2 w w.heap.size 69 0 (by omega) (by omega) (Nat.le_refl _))
  have B0 := Lib.hid ((Below.refl w.heap.size w).alloc (Nat.le_refl _) (.cells #[.int .u8 69, .int .u8 0] 5))
  have u1 := u8_in kp h2
  have u2 := u8_in kl h3
  have H8 := Lib.hid (fun W hW => own_litB8 W w.heap.size kl kp h3 h2 hW)
  have hln := Lib.hid hr.length
  clear h0 h1 h2 h3 hx hr hL
  obtain ⟨_, _, _, _, _, x4⟩ := X.out.five
  go_enter Try.func59, Try.ntmps59
  go_wp2_with fail
  refine (K0.out _).mono ?_
  rintro e w1 ⟨rfl, o1, b1⟩
  simp only [World.size_alloc] at o1
  have P1 := Lib.hid (O0.out.below b1)
  have r1 := Lib.hid o1.rd
  have B1 := Lib.hid (B0.out.trans (b1.mono B0.out.size))
  clear o1 b1 O0 B0 x4 K0
  go_wp2_with (at_builtin; refine append_bytes _ rfl (.tmp 4) (.tmp 11) rfl w.heap.size _ _ _ _ rfl P1.out _ _ _ _ rfl r1.out B1.out.size (by omega) ?_; intro a2 c2 w2 o2 g2; have P2 := Lib.hid o2; have B2 := Lib.hid (B1.out.grown g2 B1.out.size (fun k e => by simp [Value.ownBlock] at e; omega)); clear o2 g2 P1 r1 B1)
  obtain ⟨_, _, _, x2, x3, _⟩ := (X.out.below B2.out hlt).five
  go_wp2_with fail
  go_region_held3 (fun W => W.cell? ⟨b, 2, none⟩ = some (.int .i64 kp) ∧ W.cell? ⟨b, 3, none⟩ = some (.int .i64 kl))
    (first | go_keep | (go_split_ands; exact ⟨keepB hb (by assumption) hlt, keepB hb (by assumption) hlt⟩))
    (first
      | (refine append_step _ rfl (.tmp 13) (.tmp 24) rfl w.heap.size _ _ _ _ rfl (P2.out.drew.alloc _) _ _ _ _ rfl (H8.out _ B2.out.drew.size).rd (Nat.le_trans B2.out.drew.size (by simp)) (by omega) ?_; intro a3 c3 w3 o3 hb; have P3 := Lib.hid o3; have B3 := Lib.hid ((B2.out.drew.alloc B2.out.drew.size _).trans hb)))
  clear o3 hb P2 B2 x2 x3 H8
  obtain ⟨_, x0, x1, _, _, _⟩ := (X.out.below B3.out hlt).five
  go_wp2_with fail
  go_region_held3 (fun W => W.cell? ⟨b, 0, none⟩ = some (.int .i64 kf) ∧ W.cell? ⟨b, 1, none⟩ = some (.int .i64 kt))
    (first | go_keep | (go_split_ands; exact ⟨keepB hb (by assumption) hlt, keepB hb (by assumption) hlt⟩))
    (first
      | (have q := P6; clear q; refine append_step _ rfl (.tmp 32) (.tmp 37) rfl w.heap.size _ _ _ _ rfl P6.out _ _ _ _ rfl r6.out B6.out.size (by omega) ?_; intro a7 c7 w7 o7 hb; have P7 := Lib.hid o7; have B7 := Lib.hid (B6.out.trans hb))
      | (have q := P4; clear q; refine append_step _ rfl (.tmp 26) (.tmp 31) rfl w.heap.size _ _ _ _ rfl P4.out _ _ _ _ rfl r4.out B4.out.size (by omega) ?_; intro a5 c5 w5 o5 hb; have P5 := Lib.hid o5; have B5 := Lib.hid (B4.out.trans hb))
      | (have q := P5; clear q; go_at_call 91; refine (K2.out _).mono ?_; rintro e w6 ⟨rfl, o6, b6⟩; have P6 := Lib.hid (P5.out.below b6); have r6 := Lib.hid o6.rd; have hb := b6.mono B5.out.size; have B6 := Lib.hid (B5.out.trans hb))
      | (go_at_call 91; refine (K1.out _).mono ?_; rintro e w4 ⟨rfl, o4, b4⟩; have P4 := Lib.hid (P3.out.drew.below b4); have r4 := Lib.hid o4.rd; have hb := b4.mono B3.out.drew.size; have B4 := Lib.hid (B3.out.drew.trans hb)))
  clear o4 b4 P4 r4 o5 P5 o6 b6 P6 r6 hb B3 B4 B5 B6 x0 x1 P3 o7 K1 K2
  rcases P7.out.shape with ⟨_, h0, _⟩ | ⟨g, rfl⟩
  · omega
  have gB := (P7.out.lt _ rfl).1
  dsimp only at gB
  obtain ⟨_, _, _, _, _, x4⟩ := (X.out.below B7.out hlt).five
  have H7 := Lib.hid (HR.out.below B7.out)
  go_wp2_with fail
  go_region_held3 (fun W => W.cell? ⟨b, 4, none⟩ = some (.slice a len cap))
    (first | go_keep | (go_split_ands; exact keepB hb (by assumption) hlt))
    (first
      | (have q := P8; clear q; refine append_step _ rfl (.tmp 40) (.tmp 44) rfl w.heap.size _ _ _ _ rfl P8.out _ _ _ _ rfl (HR.out.below B8.out) B8.out.size (by omega) ?_; intro a9 c9 w9 o9 hb; have P9 := Lib.hid o9; have B9 := Lib.hid (B8.out.trans hb))
      | (go_at_call 72; refine (l1Seal_lit g 20 c7 _ 10 10 _ _ rfl P7.out.drew (by omega) (by omega)).mono ?_; rintro e w8 ⟨rfl, o8, g8⟩; have P8 := Lib.hid o8; have hb := below_of_grown g8 B7.out.drew.size (fun k e => by cases e; exact gB); have B8 := Lib.hid (B7.out.drew.trans hb)))
  clear o8 g8 hb P7 B7 P8 B8 o9 x4
  go_wp2
  go_ret
  exact ⟨a9, _, c9, rfl, by rw [HL.out]; exact P9.out, B9.out⟩

def packP (kf kt kp kl : Int) (zs : List Int) : List Int := if packC kf kt kp kl zs.length = 0 then packL kf kt kp kl zs else []
theorem packC_parts {kf kt kp kl : Int} {n : Nat} (h : packC kf kt kp kl n = 0) : (0 ≤ kf ∧ kf < 4294967296) ∧ (0 ≤ kt ∧ kt < 4294967296) ∧ (0 ≤ kp ∧ kp ≤ 255) ∧ (1 ≤ kl ∧ kl ≤ 255) ∧ n ≤ 560 := by
  unfold packC at h
  split at h
  · rename_i hk
    split at h
    · simp only [packB, ipB, inB, Bool.and_eq_true, decide_eq_true_eq] at hk
      omega
    · omega
  · omega
theorem packP_len (kf kt kp kl : Int) (zs : List Int) : (packP kf kt kp kl zs).length ≤ 700 := by
  unfold packP
  split
  · rename_i h
    have := (packC_parts h).2.2.2.2
    rw [packL, List.length_append, sealB_len, packH_len]
    omega
  · simp

set_option maxHeartbeats 1000000 in
theorem specPackPacket (kf kt kp kl : Int) (a : Option Addr) (len cap : Nat) (zs : List Int) (w : World) (hr : Rd w a len cap zs) :
    Calls Try.prog 21 #[.agg #[.int .i64 kf, .int .i64 kt, .int .i64 kp, .int .i64 kl, .slice a len cap]] w (Packed w (packC kf kt kp kl zs.length) (packP kf kt kp kl zs)) := by
  have S := Lib.hid (fun W => specPacketFault kf kt kp kl a len cap W)
  have B0 := Lib.hid (((Below.refl w.heap.size w).alloc (Nat.le_refl _) (.cells #[.int .i64 kf, .int .i64 kt, .int .i64 kp, .int .i64 kl, .slice a len cap] 25)).alloc (by simp) (.cells #[.int .i64 0, .slice none 0 0] 28))
  have X0 := Lib.hid ((Box.new w 25 #[.int .i64 kf, .int .i64 kt, .int .i64 kp, .int .i64 kl, .slice a len cap]).alloc (.cells #[.int .i64 0, .slice none 0 0] 28))
  have R0 := Lib.hid (Box.new (w.alloc (.cells #[.int .i64 kf, .int .i64 kt, .int .i64 kp, .int .i64 kl, .slice a len cap] 25)) 28 #[.int .i64 0, .slice none 0 0])
  rw [hr.length]
  by_cases hk : packC kf kt kp kl len = 0
  · have hp : packP kf kt kp kl zs = packL kf kt kp kl zs := by unfold packP; rw [hr.length, if_pos hk]
    obtain ⟨h0, h1, h2, h3, h4⟩ := packC_parts hk
    have L := Lib.hid (fun W b hx hW => l3Packet_any b kf kt kp kl a len cap zs W hx (hr.below hW) (by omega) (by omega) h2 (by omega) h4)
    rw [hk] at S ⊢
    rw [hp]
    clear hk hp h0 h1 h2 h3 h4 hr
    generalize packL kf kt kp kl zs = ys at *
    go_enter Try.func21, Try.ntmps21
    go_wp2_with fail
    refine (S.out _).mono ?_
    rintro e w1 ⟨rfl, b1⟩
    have X1 := Lib.hid (X0.out.below b1 X0.out.lt)
    have R1 := Lib.hid (R0.out.below b1 R0.out.lt)
    have B1 := Lib.hid (B0.out.trans (b1.mono B0.out.size))
    clear b1 X0 R0 B0
    go_wp2_with fail
    refine (L.out _ _ X1.out B1.out).mono ?_
    rintro e w2 ⟨a2, l2, c2, rfl, o2, b2⟩
    have R2 := R1.out.below b2 R1.out.lt
    simp only [World.size_alloc] at R2
    have hz := R1.out.lt
    simp only [World.size_alloc] at hz
    obtain ⟨z2, r20, r21⟩ := R2.two
    have f0 := R2.frozen 0
    have f1 := R2.frozen 1
    have B2 := Lib.hid (B1.out.trans (b2.mono B1.out.size))
    have O2 := Lib.hid o2
    clear b2 o2 X1 R1 B1 R2
    go_wp2
    refine bodyPost_ret (v := .agg #[.int .i64 0, .slice a2 l2 c2]) (by simp [results, Try.results21, go_sem, r20, r21]) rfl ⟨_, _, _, rfl, ?_, (B2.out.setCell (by simp) _).setCell (by simp) _⟩
    have hn : ∀ x, a2 = some x → w1.heap.size ≤ x.block := fun x hx => (O2.out.lt x hx).1
    exact ((O2.out.setOther _ _ (fun x hx => by have := hn x hx; simp; omega)).setOther _ _ (fun x hx => by have := hn x hx; simp; omega)).rebase (by have := B2.out.size; omega)
  · have hp : packP kf kt kp kl zs = [] := by unfold packP; rw [hr.length, if_neg hk]
    have hne : (packC kf kt kp kl len != 0) = true := by simpa using hk
    rw [hp]
    clear hk hp hr
    generalize packC kf kt kp kl len = c at *
    go_enter Try.func21, Try.ntmps21
    go_wp2_with fail
    refine (S.out _).mono ?_
    rintro e w1 ⟨rfl, b1⟩
    have R1 := R0.out.below b1 R0.out.lt
    simp only [World.size_alloc] at R1
    obtain ⟨z2, r20, r21⟩ := R1.two
    have f0 := R1.frozen 0
    have f1 := R1.frozen 1
    have B1 := Lib.hid (B0.out.trans (b1.mono B0.out.size))
    clear b1 X0 R0 B0 R1
    go_wp2
    exact bodyPost_ret (v := .agg #[.int .i64 c, .slice none 0 0]) (by simp [results, Try.results21, go_sem, r20, r21]) rfl ⟨none, 0, 0, rfl, Own.nil _ _, (B1.out.setCell (by simp) _).setCell (by simp) _⟩
end Go.Proofs.Ytgjkbaplfbiomaa

namespace Go.Proofs.Ytgjkbaplfbiomaa
open Go.ChangeShapes Go.WideShapes Go.ChangeAt Go.RowKit

theorem kCall {w0 W w' : World} {n : Nat} (hb : Below W.heap.size W w') (hn : n ≤ W.heap.size) (h : Hid (Below n w0 W)) : Hid (Below n w0 w') := h.out.trans (hb.mono hn)
theorem kAlloc {w0 W : World} {n : Nat} {o : Obj} (hn : n ≤ W.heap.size) (h : Hid (Below n w0 W)) : Hid (Below n w0 (W.alloc o)) := h.out.alloc hn o
theorem kDrew {w0 W : World} {n : Nat} (h : Hid (Below n w0 W)) : Hid (Below n w0 W.drew) := h.out.drew
theorem kSet {w0 W : World} {n : Nat} {p : Addr} {u : Value} (hp : n ≤ p.block) (h : Hid (Below n w0 W)) : Hid (Below n w0 (W.setCell p u)) := h.out.setCell hp u
theorem kGrown {w0 W w' : World} {b : Nat} (hg : W.grownBy w' (some b)) (h : Hid (Below w0.heap.size w0 W)) (hb : w0.heap.size ≤ b) : Hid (Below w0.heap.size w0 w') := h.out.grown hg h.out.size (fun k e => by cases e; exact hb)
theorem kSize {w0 W : World} (h : Hid (Below w0.heap.size w0 W)) : w0.heap.size ≤ W.heap.size := h.out.size

theorem want_none {o : Oper} {y : Nat → Option Bool} {A B : Prop} (h : o.guard = none) (hA : A) : if Region.wanted o y = true then A else B := by
  rw [if_pos (by simp [Region.wanted, h])]
  exact hA
end Go.Proofs.Ytgjkbaplfbiomaa

namespace Go.Proofs.Ytgjkbaplfbiomaa
open Go.ChangeShapes Go.WideShapes Go.ChangeAt Go.RowKit

def rpLen (n : Nat) : Bool := decide (20 ≤ n ∧ n ≤ 600)

set_option maxHeartbeats 1000000 in
theorem specReadPacket_len (a : Option Addr) (len cap : Nat) (w : World) (h : rpLen len = false) :
    Calls Try.prog 22 #[.slice a len cap] w (PacketRes w 2 0 0 0 0 []) := by
  simp only [rpLen, decide_eq_false_iff_not] at h
  by_cases h1 : 20 ≤ len
  · have h2 : ¬ len ≤ 600 := fun h2 => h ⟨h1, h2⟩
    have e1 : decide ((len : Int) < 20) = false := decide_eq_false (by omega)
    have e2 : decide ((600 : Int) < len) = true := decide_eq_true (by omega)
    clear h h1 h2
    go_enter Try.func22, Try.ntmps22
    go_wp2
    exact bodyPost_ret (v := .agg #[.int .i64 2, .int .i64 0, .int .i64 0, .int .i64 0, .int .i64 0, .slice none 0 0]) (by simp [results, Try.results22, go_sem]) rfl ⟨none, 0, 0, rfl, Own.nil _ _, (Below.refl _ _).alloc (Nat.le_refl _) _⟩
  · have e1 : decide ((len : Int) < 20) = true := decide_eq_true (by omega)
    clear h h1
    go_enter Try.func22, Try.ntmps22
    go_wp2
    exact bodyPost_ret (v := .agg #[.int .i64 2, .int .i64 0, .int .i64 0, .int .i64 0, .int .i64 0, .slice none 0 0]) (by simp [results, Try.results22, go_sem]) rfl ⟨none, 0, 0, rfl, Own.nil _ _, (Below.refl _ _).alloc (Nat.le_refl _) _⟩

set_option maxHeartbeats 2000000 in
theorem specReadPacket_form (a : Option Addr) (len cap : Nat) (zs : List Int) (w : World) (hr : Rd w a len cap zs) (h1 : 20 ≤ len) (h2 : len ≤ 600) (b0 n ct : Int) (q0 : zs.getD 0 0 = b0) (qn : rdTo zs 2 2 = n) (qc : rdTo zs 6 2 = ct)
    (hf : (b0 != 69) = true ∨ (b0 != 69) = false ∧ (decide (n < 20) = true ∨ decide (n < 20) = false ∧ (decide ((len : Int) < n) = true ∨ decide ((len : Int) < n) = false ∧ (decide (580 < n) = true ∨ decide (580 < n) = false ∧ (ct != 0) = true ∧ (ct != 16384) = true)))) :
    Calls Try.prog 22 #[.slice a len cap] w (PacketRes w 1 0 0 0 0 []) := by
  have hle := hr.le
  have hmx := hr.max
  rcases hr.cells with h0 | ⟨ba, off, rfl, hc⟩
  · omega
  have d1 : decide ((len : Int) < 20) = false := decide_eq_false (by omega)
  have d2 : decide ((600 : Int) < len) = false := decide_eq_false (by omega)
  have i0 : (0 : Int) < len := by omega
  have i0n : 0 < len := by omega
  have i8 : (8 : Int) < len := by omega
  have i9 : (9 : Int) < len := by omega
  have i20 : (20 : Int) ≤ cap := by omega
  have i20l : (20 : Int) ≤ len := by omega
  have i20n : 20 ≤ cap := by omega
  have HR := Lib.hid hr
  have K1 := Lib.hid (show ∀ W, Rd W (some ⟨ba, off, none⟩) len cap zs → Calls Try.prog 77 #[.slice (some ⟨ba, off, none⟩) len cap, .int .i64 2, .int .i64 2] W fun e w' => e = .returned (.int .i64 n) ∧ W = w' from fun W hW => by rw [← qn]; exact l1Read_lit _ len cap 2 2 2 2 zs W hW rfl rfl (by omega) (by omega))
  have K2 := Lib.hid (show ∀ W, Rd W (some ⟨ba, off, none⟩) len cap zs → Calls Try.prog 77 #[.slice (some ⟨ba, off, none⟩) len cap, .int .i64 6, .int .i64 2] W fun e w' => e = .returned (.int .i64 ct) ∧ W = w' from fun W hW => by rw [← qc]; exact l1Read_lit _ len cap 6 2 6 2 zs W hW rfl rfl (by omega) (by omega))
  have c0 : (w.alloc (.cells #[.int .i64 0, .int .i64 0, .int .i64 0, .int .i64 0, .int .i64 0, .slice none 0 0] 32)).cell? ⟨ba, off, none⟩ = some (.int .u8 (zs.getD 0 0)) := (((Below.refl w.heap.size w).alloc (Nat.le_refl _) _).cell (World.block_lt_of_cell? _ _ (hc 0 (by omega)))).trans (hc 0 (by omega))
  rw [q0] at c0
  clear hr hc q0 qn qc
  rcases hf with f1 | ⟨f1, f2 | ⟨f2, f3 | ⟨f3, f4 | ⟨f4, f5, f6⟩⟩⟩⟩
  all_goals
    go_enter Try.func22, Try.ntmps22
    go_wp2_with fail
    refine (K1.out _ (HR.out.alloc _)).mono ?_
    rintro e w' ⟨rfl, rfl⟩
    go_wp2_with fail
    refine (K2.out _ (HR.out.alloc _)).mono ?_
    rintro e w' ⟨rfl, rfl⟩
    go_wp2
    exact bodyPost_ret (v := .agg #[.int .i64 1, .int .i64 0, .int .i64 0, .int .i64 0, .int .i64 0, .slice none 0 0]) (by simp [results, Try.results22, go_sem]) rfl ⟨none, 0, 0, rfl, Own.nil _ _, (Below.refl _ _).alloc (Nat.le_refl _) _⟩

set_option maxHeartbeats 2000000 in
theorem specReadPacket_sum (a : Option Addr) (len cap : Nat) (zs : List Int) (w : World) (hr : Rd w a len cap zs) (h1 : 20 ≤ len) (h2 : len ≤ 600) (b0 n ct : Int) (q0 : zs.getD 0 0 = b0) (qn : rdTo zs 2 2 = n) (qc : rdTo zs 6 2 = ct) (hf : (b0 != 69) = false ∧ decide (n < 20) = false ∧ decide ((len : Int) < n) = false ∧ decide (580 < n) = false ∧ ((ct != 0) = false ∨ (ct != 0) = true ∧ (ct != 16384) = false)) (hs : ¬ sumV (zs.take 20) = 0) :
    Calls Try.prog 22 #[.slice a len cap] w (PacketRes w 6 0 0 0 0 []) := by
  have hle := hr.le
  have hmx := hr.max
  rcases hr.cells with h0 | ⟨ba, off, rfl, hc⟩
  · omega
  have d1 : decide ((len : Int) < 20) = false := decide_eq_false (by omega)
  have d2 : decide ((600 : Int) < len) = false := decide_eq_false (by omega)
  have i0 : (0 : Int) < len := by omega
  have i0n : 0 < len := by omega
  have i8 : (8 : Int) < len := by omega
  have i9 : (9 : Int) < len := by omega
  have i20 : (20 : Int) ≤ cap := by omega
  have i20l : (20 : Int) ≤ len := by omega
  have i20n : 20 ≤ cap := by omega
  have HR := Lib.hid hr
  have K1 := Lib.hid (show ∀ W, Rd W (some ⟨ba, off, none⟩) len cap zs → Calls Try.prog 77 #[.slice (some ⟨ba, off, none⟩) len cap, .int .i64 2, .int .i64 2] W fun e w' => e = .returned (.int .i64 n) ∧ W = w' from fun W hW => by rw [← qn]; exact l1Read_lit _ len cap 2 2 2 2 zs W hW rfl rfl (by omega) (by omega))
  have K2 := Lib.hid (show ∀ W, Rd W (some ⟨ba, off, none⟩) len cap zs → Calls Try.prog 77 #[.slice (some ⟨ba, off, none⟩) len cap, .int .i64 6, .int .i64 2] W fun e w' => e = .returned (.int .i64 ct) ∧ W = w' from fun W hW => by rw [← qc]; exact l1Read_lit _ len cap 6 2 6 2 zs W hW rfl rfl (by omega) (by omega))
  have c0 : (w.alloc (.cells #[.int .i64 0, .int .i64 0, .int .i64 0, .int .i64 0, .int .i64 0, .slice none 0 0] 32)).cell? ⟨ba, off, none⟩ = some (.int .u8 (zs.getD 0 0)) := (((Below.refl w.heap.size w).alloc (Nat.le_refl _) _).cell (World.block_lt_of_cell? _ _ (hc 0 (by omega)))).trans (hc 0 (by omega))
  rw [q0] at c0
  have KS := Lib.hid (show ∀ W, Rd W (some ⟨ba, off, none⟩) len cap zs → Calls Try.prog 78 #[.slice (some ⟨ba, off, none⟩) 20 cap] W fun e w' => e = .returned (.int .i64 (sumV (zs.take 20))) ∧ W = w' from fun W hW => by have := l1Sum_any _ 20 cap (zs.take 20) W (hW.upto 20 (by omega)) (by omega);  exact this)
  have f1 : (b0 != 69) = false := hf.1
  have f2 : decide (n < 20) = false := hf.2.1
  have f3 : decide ((len : Int) < n) = false := hf.2.2.1
  have f4 : decide (580 < n) = false := hf.2.2.2.1
  have hf5 : (ct != 0) = false ∨ (ct != 0) = true ∧ (ct != 16384) = false := hf.2.2.2.2
  have hn : (sumV (zs.take 20) != 0) = true := by simpa using hs
  clear hr hc q0 qn qc hf hs
  generalize sumV (zs.take 20) = v at *
  rcases hf5 with f5 | ⟨f5, f6⟩
  all_goals
    go_enter Try.func22, Try.ntmps22
    go_wp2_with fail
    refine (K1.out _ (HR.out.alloc _)).mono ?_
    rintro e w' ⟨rfl, rfl⟩
    go_wp2_with fail
    refine (K2.out _ (HR.out.alloc _)).mono ?_
    rintro e w' ⟨rfl, rfl⟩
    go_wp2_with fail
    refine (KS.out _ (HR.out.alloc _)).mono ?_
    rintro e w' ⟨rfl, rfl⟩
    go_wp2
    exact bodyPost_ret (v := .agg #[.int .i64 6, .int .i64 0, .int .i64 0, .int .i64 0, .int .i64 0, .slice none 0 0]) (by simp [results, Try.results22, go_sem]) rfl ⟨none, 0, 0, rfl, Own.nil _ _, (Below.refl _ _).alloc (Nat.le_refl _) _⟩

set_option maxHeartbeats 2000000 in
theorem specReadPacket_ttl (a : Option Addr) (len cap : Nat) (zs : List Int) (w : World) (hr : Rd w a len cap zs) (h1 : 20 ≤ len) (h2 : len ≤ 600) (b0 n ct : Int) (q0 : zs.getD 0 0 = b0) (qn : rdTo zs 2 2 = n) (qc : rdTo zs 6 2 = ct) (hf : (b0 != 69) = false ∧ decide (n < 20) = false ∧ decide ((len : Int) < n) = false ∧ decide (580 < n) = false ∧ ((ct != 0) = false ∨ (ct != 0) = true ∧ (ct != 16384) = false)) (hs : sumV (zs.take 20) = 0) (ht : zs.getD 8 0 = 0) :
    Calls Try.prog 22 #[.slice a len cap] w (PacketRes w 3 0 0 0 0 []) := by
  have hle := hr.le
  have hmx := hr.max
  rcases hr.cells with h0 | ⟨ba, off, rfl, hc⟩
  · omega
  have d1 : decide ((len : Int) < 20) = false := decide_eq_false (by omega)
  have d2 : decide ((600 : Int) < len) = false := decide_eq_false (by omega)
  have i0 : (0 : Int) < len := by omega
  have i0n : 0 < len := by omega
  have i8 : (8 : Int) < len := by omega
  have i9 : (9 : Int) < len := by omega
  have i20 : (20 : Int) ≤ cap := by omega
  have i20l : (20 : Int) ≤ len := by omega
  have i20n : 20 ≤ cap := by omega
  have HR := Lib.hid hr
  have K1 := Lib.hid (show ∀ W, Rd W (some ⟨ba, off, none⟩) len cap zs → Calls Try.prog 77 #[.slice (some ⟨ba, off, none⟩) len cap, .int .i64 2, .int .i64 2] W fun e w' => e = .returned (.int .i64 n) ∧ W = w' from fun W hW => by rw [← qn]; exact l1Read_lit _ len cap 2 2 2 2 zs W hW rfl rfl (by omega) (by omega))
  have K2 := Lib.hid (show ∀ W, Rd W (some ⟨ba, off, none⟩) len cap zs → Calls Try.prog 77 #[.slice (some ⟨ba, off, none⟩) len cap, .int .i64 6, .int .i64 2] W fun e w' => e = .returned (.int .i64 ct) ∧ W = w' from fun W hW => by rw [← qc]; exact l1Read_lit _ len cap 6 2 6 2 zs W hW rfl rfl (by omega) (by omega))
  have c0 : (w.alloc (.cells #[.int .i64 0, .int .i64 0, .int .i64 0, .int .i64 0, .int .i64 0, .slice none 0 0] 32)).cell? ⟨ba, off, none⟩ = some (.int .u8 (zs.getD 0 0)) := (((Below.refl w.heap.size w).alloc (Nat.le_refl _) _).cell (World.block_lt_of_cell? _ _ (hc 0 (by omega)))).trans (hc 0 (by omega))
  rw [q0] at c0
  have c8 : (w.alloc (.cells #[.int .i64 0, .int .i64 0, .int .i64 0, .int .i64 0, .int .i64 0, .slice none 0 0] 32)).cell? ⟨ba, off + 8, none⟩ = some (.int .u8 (zs.getD 8 0)) := (((Below.refl w.heap.size w).alloc (Nat.le_refl _) _).cell (World.block_lt_of_cell? _ _ (hc 8 (by omega)))).trans (hc 8 (by omega))
  rw [ht] at c8
  have KS := Lib.hid (show ∀ W, Rd W (some ⟨ba, off, none⟩) len cap zs → Calls Try.prog 78 #[.slice (some ⟨ba, off, none⟩) 20 cap] W fun e w' => e = .returned (.int .i64 0) ∧ W = w' from fun W hW => by have := l1Sum_any _ 20 cap (zs.take 20) W (hW.upto 20 (by omega)) (by omega); rw [hs] at this; exact this)
  have f1 : (b0 != 69) = false := hf.1
  have f2 : decide (n < 20) = false := hf.2.1
  have f3 : decide ((len : Int) < n) = false := hf.2.2.1
  have f4 : decide (580 < n) = false := hf.2.2.2.1
  have hf5 : (ct != 0) = false ∨ (ct != 0) = true ∧ (ct != 16384) = false := hf.2.2.2.2
  clear hr hc q0 qn qc hf hs ht
  rcases hf5 with f5 | ⟨f5, f6⟩
  all_goals
    go_enter Try.func22, Try.ntmps22
    go_wp2_with fail
    refine (K1.out _ (HR.out.alloc _)).mono ?_
    rintro e w' ⟨rfl, rfl⟩
    go_wp2_with fail
    refine (K2.out _ (HR.out.alloc _)).mono ?_
    rintro e w' ⟨rfl, rfl⟩
    go_wp2_with fail
    refine (KS.out _ (HR.out.alloc _)).mono ?_
    rintro e w' ⟨rfl, rfl⟩
    go_wp2
    exact bodyPost_ret (v := .agg #[.int .i64 3, .int .i64 0, .int .i64 0, .int .i64 0, .int .i64 0, .slice none 0 0]) (by simp [results, Try.results22, go_sem]) rfl ⟨none, 0, 0, rfl, Own.nil _ _, (Below.refl _ _).alloc (Nat.le_refl _) _⟩

set_option maxRecDepth 20000 in
set_option maxHeartbeats 4000000 in
theorem specReadPacket_ok1 (a : Option Addr) (len cap : Nat) (zs : List Int) (w : World) (hr : Rd w a len cap zs) (h1 : 20 ≤ len) (h2 : len ≤ 600) (b0 ct : Int) (N : Nat) (q0 : zs.getD 0 0 = b0) (qn : rdTo zs 2 2 = (N : Int)) (qc : rdTo zs 6 2 = ct) (hcap : ¬ cap = 20) (hf : (b0 != 69) = false ∧ decide ((N : Int) < 20) = false ∧ decide ((len : Int) < (N : Int)) = false ∧ decide (580 < (N : Int)) = false ∧ ((ct != 0) = false ∨ (ct != 0) = true ∧ (ct != 16384) = false)) (hs : sumV (zs.take 20) = 0) (kp kl : Int) (ht : zs.getD 8 0 = kl) (hp : zs.getD 9 0 = kp) (hz : (kl == 0) = false) :
    Calls Try.prog 22 #[.slice a len cap] w (PacketRes w 0 (rdTo zs 12 4) (rdTo zs 16 4) kp kl ((zs.take N).drop 20)) := by
  have hle := hr.le
  have hmx := hr.max
  rcases hr.cells with h0 | ⟨ba, off, rfl, hc⟩
  · omega
  have d1 : decide ((len : Int) < 20) = false := decide_eq_false (by omega)
  have d2 : decide ((600 : Int) < len) = false := decide_eq_false (by omega)
  have i0 : (0 : Int) < len := by omega
  have i0n : 0 < len := by omega
  have i8 : (8 : Int) < len := by omega
  have i9 : (9 : Int) < len := by omega
  have i20 : (20 : Int) ≤ cap := by omega
  have i20l : (20 : Int) ≤ len := by omega
  have i20n : 20 ≤ cap := by omega
  have HR := Lib.hid hr
  have K1 := Lib.hid (show ∀ W, Rd W (some ⟨ba, off, none⟩) len cap zs → Calls Try.prog 77 #[.slice (some ⟨ba, off, none⟩) len cap, .int .i64 2, .int .i64 2] W fun e w' => e = .returned (.int .i64 (N : Int)) ∧ W = w' from fun W hW => by rw [← qn]; exact l1Read_lit _ len cap 2 2 2 2 zs W hW rfl rfl (by omega) (by omega))
  have K2 := Lib.hid (show ∀ W, Rd W (some ⟨ba, off, none⟩) len cap zs → Calls Try.prog 77 #[.slice (some ⟨ba, off, none⟩) len cap, .int .i64 6, .int .i64 2] W fun e w' => e = .returned (.int .i64 ct) ∧ W = w' from fun W hW => by rw [← qc]; exact l1Read_lit _ len cap 6 2 6 2 zs W hW rfl rfl (by omega) (by omega))
  have c0 : (w.alloc (.cells #[.int .i64 0, .int .i64 0, .int .i64 0, .int .i64 0, .int .i64 0, .slice none 0 0] 32)).cell? ⟨ba, off, none⟩ = some (.int .u8 (zs.getD 0 0)) := (((Below.refl w.heap.size w).alloc (Nat.le_refl _) _).cell (World.block_lt_of_cell? _ _ (hc 0 (by omega)))).trans (hc 0 (by omega))
  rw [q0] at c0
  have c8 : (w.alloc (.cells #[.int .i64 0, .int .i64 0, .int .i64 0, .int .i64 0, .int .i64 0, .slice none 0 0] 32)).cell? ⟨ba, off + 8, none⟩ = some (.int .u8 (zs.getD 8 0)) := (((Below.refl w.heap.size w).alloc (Nat.le_refl _) _).cell (World.block_lt_of_cell? _ _ (hc 8 (by omega)))).trans (hc 8 (by omega))
  rw [ht] at c8
  have KS := Lib.hid (show ∀ W, Rd W (some ⟨ba, off, none⟩) len cap zs → Calls Try.prog 78 #[.slice (some ⟨ba, off, none⟩) 20 cap] W fun e w' => e = .returned (.int .i64 0) ∧ W = w' from fun W hW => by have := l1Sum_any _ 20 cap (zs.take 20) W (hW.upto 20 (by omega)) (by omega); rw [hs] at this; exact this)
  have f1 : (b0 != 69) = false := hf.1
  have f2 : decide ((N : Int) < 20) = false := hf.2.1
  have f3 : decide ((len : Int) < (N : Int)) = false := hf.2.2.1
  have f4 : decide (580 < (N : Int)) = false := hf.2.2.2.1
  have hf5 : (ct != 0) = false ∨ (ct != 0) = true ∧ (ct != 16384) = false := hf.2.2.2.2
  have n1 : 20 ≤ N := by have := of_decide_eq_false f2; omega
  have n2 : N ≤ len := by have := of_decide_eq_false f3; omega
  have n3 : N ≤ 580 := by have := of_decide_eq_false f4; omega
  have j1 : (20 : Int) ≤ N := by omega
  have j2 : (N : Int) ≤ cap := by omega
  have j3 : N ≤ cap := by omega
  have v8 : IntKind.i64.wrap kl = kl := IntWalk.i64_in _ (by have := b8_getD hr.b8 8; omega)
  have v9 : IntKind.i64.wrap kp = kp := IntWalk.i64_in _ (by have := b8_getD hr.b8 9; omega)
  have K3 := Lib.hid (fun W (hW : Rd W (some ⟨ba, off, none⟩) len cap zs) => l1Read_lit _ len cap 12 4 12 4 zs W hW rfl rfl (by omega) (by omega))
  have K4 := Lib.hid (fun W (hW : Rd W (some ⟨ba, off, none⟩) len cap zs) => l1Read_lit _ len cap 16 4 16 4 zs W hW rfl rfl (by omega) (by omega))
  have R0 := Lib.hid (Box.new w 32 #[.int .i64 0, .int .i64 0, .int .i64 0, .int .i64 0, .int .i64 0, .slice none 0 0])
  have B0 := Lib.hid ((Below.refl w.heap.size w).alloc (Nat.le_refl _) (.cells #[.int .i64 0, .int .i64 0, .int .i64 0, .int .i64 0, .int .i64 0, .slice none 0 0] 32))
  have SS := Lib.hid (show ∀ W, Hid (Below w.heap.size w W) → W.cell? ⟨ba, off + 8, none⟩ = some (.int .u8 kl) ∧ W.cell? ⟨ba, off + 9, none⟩ = some (.int .u8 kp) ∧ Hid (Below w.heap.size w W) from fun W h => by
    refine ⟨?_, ?_, h⟩
    · rw [← ht]; exact (h.out.cell (World.block_lt_of_cell? _ _ (hc 8 (by omega)))).trans (hc 8 (by omega))
    · rw [← hp]; exact (h.out.cell (World.block_lt_of_cell? _ _ (hc 9 (by omega)))).trans (hc 9 (by omega)))
  have HD := Lib.hid (show ∀ W, Hid (Below w.heap.size w W) → Rd W (some ⟨ba, off + 20, none⟩) (N - 20) (cap - 20) ((zs.take N).drop 20) from fun W h => ((HR.out.below h.out).upto N (by omega)).from 20 _ _ _ (by omega) rfl rfl rfl)
  have HW := Lib.hid (show ∀ W, Hid (Below w.heap.size w W) → Rd W (some ⟨ba, off, none⟩) len cap zs from fun W h => HR.out.below h.out)
  clear hr hc hs hf q0 qn qc ht hp
  generalize ((zs.take N).drop 20) = ys at *
  generalize rdTo zs 12 4 = m1 at *
  generalize rdTo zs 16 4 = m2 at *
  rcases hf5 with f5 | ⟨f5, f6⟩
  all_goals
    go_enter Try.func22, Try.ntmps22
    go_wp2_with fail
    refine (K1.out _ (HR.out.alloc _)).mono ?_
    rintro e w' ⟨rfl, rfl⟩
    go_wp2_with fail
    refine (K2.out _ (HR.out.alloc _)).mono ?_
    rintro e w' ⟨rfl, rfl⟩
    go_wp2_with fail
    refine (KS.out _ (HR.out.alloc _)).mono ?_
    rintro e w' ⟨rfl, rfl⟩
    go_wp2_with fail
    generalize w.alloc (.cells #[.int .i64 0, .int .i64 0, .int .i64 0, .int .i64 0, .int .i64 0, .slice none 0 0] 32) = W0 at *
    have T0 : Hid (Below w.heap.size w W0) := B0.out
    have TD := kDrew T0
    go_region_held3 (fun W => W.cell? ⟨ba, off + 8, none⟩ = some (.int .u8 kl) ∧ W.cell? ⟨ba, off + 9, none⟩ = some (.int .u8 kp) ∧ Hid (Below w.heap.size w W))
      (first
        | (go_split_ands; refine SS.out _ ?_; (with_reducible assumption))
        | (go_split_ands; refine SS.out _ ?_; (with_reducible refine kDrew ?_); (with_reducible assumption))
        | (go_split_ands; refine SS.out _ ?_; iterate 6 (with_reducible refine kSet (Nat.le_refl _) ?_)
           (with_reducible assumption)))
      (first
        | (have q := M1; clear q; go_at_call 76; refine (l1Copy_any _ _ _ ys _ (HD.out _ TD) (by omega)).mono ?_; rintro e w4 ⟨a4, c4, rfl, o4, b4⟩; have T4 := kCall b4 (kSize TD) TD; have R4 := (show Box W0.drew _ _ _ from R0.out).below b4 R0.out.lt; obtain ⟨_, r0, r1, r2, r3, r4, r5⟩ := R4.six; have g0 := R4.frozen 0; have g1 := R4.frozen 1; have g2 := R4.frozen 2; have g3 := R4.frozen 3; have g4 := R4.frozen 4; have g5 := R4.frozen 5)
        | (have q := M0; clear q; go_at_call 77; refine (K4.out _ (HW.out _ TD)).mono ?_; rintro e w3 ⟨rfl, rfl⟩; have M1 := Lib.hid trivial)
        | (go_at_call 77; refine (K3.out _ (HW.out _ TD)).mono ?_; rintro e w2 ⟨rfl, rfl⟩; have M0 := Lib.hid trivial))
    have hz0 := R0.out.lt
    have hn : Hid (∀ x, a4 = some x → ¬ x.block = w.heap.size) := fun x hx e => by
      have h3 : W0.heap.size ≤ x.block := (o4.lt x hx).1
      omega
    have O4 : Hid (Own w4 w.heap.size a4 (N - 20) c4 ys) := o4.rebase B0.out.size
    clear o4 b4 R4 SS TD T0 HD HW
    go_wp2
    refine bodyPost_ret (v := .agg #[.int .i64 0, .int .i64 m1, .int .i64 m2, .int .i64 kp, .int .i64 kl, .slice a4 (N - 20) c4]) (by simp [results, Try.results22, go_sem, r0, r1, r2, r3, r4, r5]) rfl ⟨_, _, _, rfl, ?_, ?_⟩
    · exact (((((O4.out.setOther _ _ hn.out).setOther _ _ hn.out).setOther _ _ hn.out).setOther _ _ hn.out).setOther _ _ hn.out).setOther _ _ hn.out
    · exact (((((T4.out.setCell (Nat.le_refl _) _).setCell (Nat.le_refl _) _).setCell (Nat.le_refl _) _).setCell (Nat.le_refl _) _).setCell (Nat.le_refl _) _).setCell (Nat.le_refl _) _

set_option maxRecDepth 20000 in
set_option maxHeartbeats 4000000 in
theorem specReadPacket_ok2 (a : Option Addr) (zs : List Int) (w : World) (hr : Rd w a 20 20 zs) (b0 ct : Int) (q0 : zs.getD 0 0 = b0) (qn : rdTo zs 2 2 = 20) (qc : rdTo zs 6 2 = ct) (hf : (b0 != 69) = false ∧ ((ct != 0) = false ∨ (ct != 0) = true ∧ (ct != 16384) = false)) (hs : sumV (zs.take 20) = 0) (kp kl : Int) (ht : zs.getD 8 0 = kl) (hp : zs.getD 9 0 = kp) (hz : (kl == 0) = false) :
    Calls Try.prog 22 #[.slice a 20 20] w (PacketRes w 0 (rdTo zs 12 4) (rdTo zs 16 4) kp kl (zs.drop 20)) := by
  have hle := hr.le
  have hmx := hr.max
  rcases hr.cells with h0 | ⟨ba, off, rfl, hc⟩
  · omega
  have HR := Lib.hid hr
  have K1 := Lib.hid (show ∀ W, Rd W (some ⟨ba, off, none⟩) 20 20 zs → Calls Try.prog 77 #[.slice (some ⟨ba, off, none⟩) 20 20, .int .i64 2, .int .i64 2] W fun e w' => e = .returned (.int .i64 20) ∧ W = w' from fun W hW => by rw [← qn]; exact l1Read_lit _ 20 20 2 2 2 2 zs W hW rfl rfl (by omega) (by omega))
  have K2 := Lib.hid (show ∀ W, Rd W (some ⟨ba, off, none⟩) 20 20 zs → Calls Try.prog 77 #[.slice (some ⟨ba, off, none⟩) 20 20, .int .i64 6, .int .i64 2] W fun e w' => e = .returned (.int .i64 ct) ∧ W = w' from fun W hW => by rw [← qc]; exact l1Read_lit _ 20 20 6 2 6 2 zs W hW rfl rfl (by omega) (by omega))
  have c0 : (w.alloc (.cells #[.int .i64 0, .int .i64 0, .int .i64 0, .int .i64 0, .int .i64 0, .slice none 0 0] 32)).cell? ⟨ba, off, none⟩ = some (.int .u8 (zs.getD 0 0)) := (((Below.refl w.heap.size w).alloc (Nat.le_refl _) _).cell (World.block_lt_of_cell? _ _ (hc 0 (by omega)))).trans (hc 0 (by omega))
  rw [q0] at c0
  have c8 : (w.alloc (.cells #[.int .i64 0, .int .i64 0, .int .i64 0, .int .i64 0, .int .i64 0, .slice none 0 0] 32)).cell? ⟨ba, off + 8, none⟩ = some (.int .u8 (zs.getD 8 0)) := (((Below.refl w.heap.size w).alloc (Nat.le_refl _) _).cell (World.block_lt_of_cell? _ _ (hc 8 (by omega)))).trans (hc 8 (by omega))
  rw [ht] at c8
  have KS := Lib.hid (show ∀ W, Rd W (some ⟨ba, off, none⟩) 20 20 zs → Calls Try.prog 78 #[.slice (some ⟨ba, off, none⟩) 20 20] W fun e w' => e = .returned (.int .i64 0) ∧ W = w' from fun W hW => by have := l1Sum_any _ 20 20 (zs.take 20) W (hW.upto 20 (by omega)) (by omega); rw [hs] at this; exact this)
  have f1 : (b0 != 69) = false := hf.1
  have hf5 : (ct != 0) = false ∨ (ct != 0) = true ∧ (ct != 16384) = false := hf.2
  have v8 : IntKind.i64.wrap kl = kl := IntWalk.i64_in _ (by have := b8_getD hr.b8 8; omega)
  have v9 : IntKind.i64.wrap kp = kp := IntWalk.i64_in _ (by have := b8_getD hr.b8 9; omega)
  have K3 := Lib.hid (fun W (hW : Rd W (some ⟨ba, off, none⟩) 20 20 zs) => l1Read_lit _ 20 20 12 4 12 4 zs W hW rfl rfl (by omega) (by omega))
  have K4 := Lib.hid (fun W (hW : Rd W (some ⟨ba, off, none⟩) 20 20 zs) => l1Read_lit _ 20 20 16 4 16 4 zs W hW rfl rfl (by omega) (by omega))
  have R0 := Lib.hid (Box.new w 32 #[.int .i64 0, .int .i64 0, .int .i64 0, .int .i64 0, .int .i64 0, .slice none 0 0])
  have B0 := Lib.hid ((Below.refl w.heap.size w).alloc (Nat.le_refl _) (.cells #[.int .i64 0, .int .i64 0, .int .i64 0, .int .i64 0, .int .i64 0, .slice none 0 0] 32))
  have SS := Lib.hid (show ∀ W, Hid (Below w.heap.size w W) → W.cell? ⟨ba, off + 8, none⟩ = some (.int .u8 kl) ∧ W.cell? ⟨ba, off + 9, none⟩ = some (.int .u8 kp) ∧ Hid (Below w.heap.size w W) from fun W h => by
    refine ⟨?_, ?_, h⟩
    · rw [← ht]; exact (h.out.cell (World.block_lt_of_cell? _ _ (hc 8 (by omega)))).trans (hc 8 (by omega))
    · rw [← hp]; exact (h.out.cell (World.block_lt_of_cell? _ _ (hc 9 (by omega)))).trans (hc 9 (by omega)))
  have HD := Lib.hid (show ∀ W, Hid (Below w.heap.size w W) → Rd W (some ⟨ba, off, none⟩) 0 0 (zs.drop 20) from fun W h => ⟨by have := HR.out.length; simp; omega, Nat.le_refl _, Nat.zero_le _, b8_drop HR.out.b8 20, by simp, .inl rfl⟩)
  have HW := Lib.hid (show ∀ W, Hid (Below w.heap.size w W) → Rd W (some ⟨ba, off, none⟩) 20 20 zs from fun W h => HR.out.below h.out)
  clear hr hc hs hf q0 qn qc ht hp
  generalize (zs.drop 20) = ys at *
  generalize rdTo zs 12 4 = m1 at *
  generalize rdTo zs 16 4 = m2 at *
  rcases hf5 with f5 | ⟨f5, f6⟩
  all_goals
    go_enter Try.func22, Try.ntmps22
    go_wp2_with fail
    refine (K1.out _ (HR.out.alloc _)).mono ?_
    rintro e w' ⟨rfl, rfl⟩
    go_wp2_with fail
    refine (K2.out _ (HR.out.alloc _)).mono ?_
    rintro e w' ⟨rfl, rfl⟩
    go_wp2_with fail
    refine (KS.out _ (HR.out.alloc _)).mono ?_
    rintro e w' ⟨rfl, rfl⟩
    go_wp2_with fail
    generalize w.alloc (.cells #[.int .i64 0, .int .i64 0, .int .i64 0, .int .i64 0, .int .i64 0, .slice none 0 0] 32) = W0 at *
    have T0 : Hid (Below w.heap.size w W0) := B0.out
    have TD := kDrew T0
    go_region_held3 (fun W => W.cell? ⟨ba, off + 8, none⟩ = some (.int .u8 kl) ∧ W.cell? ⟨ba, off + 9, none⟩ = some (.int .u8 kp) ∧ Hid (Below w.heap.size w W))
      (first
        | (go_split_ands; refine SS.out _ ?_; (with_reducible assumption))
        | (go_split_ands; refine SS.out _ ?_; (with_reducible refine kDrew ?_); (with_reducible assumption))
        | (go_split_ands; refine SS.out _ ?_; iterate 6 (with_reducible refine kSet (Nat.le_refl _) ?_)
           (with_reducible assumption)))
      (first
        | (have q := M1; clear q; go_at_call 76; refine (l1Copy_any _ _ _ ys _ (HD.out _ TD) (by omega)).mono ?_; rintro e w4 ⟨a4, c4, rfl, o4, b4⟩; have T4 := kCall b4 (kSize TD) TD; have R4 := (show Box W0.drew _ _ _ from R0.out).below b4 R0.out.lt; obtain ⟨_, r0, r1, r2, r3, r4, r5⟩ := R4.six; have g0 := R4.frozen 0; have g1 := R4.frozen 1; have g2 := R4.frozen 2; have g3 := R4.frozen 3; have g4 := R4.frozen 4; have g5 := R4.frozen 5)
        | (have q := M0; clear q; go_at_call 77; refine (K4.out _ (HW.out _ TD)).mono ?_; rintro e w3 ⟨rfl, rfl⟩; have M1 := Lib.hid trivial)
        | (go_at_call 77; refine (K3.out _ (HW.out _ TD)).mono ?_; rintro e w2 ⟨rfl, rfl⟩; have M0 := Lib.hid trivial))
    have hz0 := R0.out.lt
    have hn : Hid (∀ x, a4 = some x → ¬ x.block = w.heap.size) := fun x hx e => by
      have h3 : W0.heap.size ≤ x.block := (o4.lt x hx).1
      omega
    have O4 : Hid (Own w4 w.heap.size a4 0 c4 ys) := o4.rebase B0.out.size
    clear o4 b4 R4 SS TD T0 HD HW
    go_wp2
    refine bodyPost_ret (v := .agg #[.int .i64 0, .int .i64 m1, .int .i64 m2, .int .i64 kp, .int .i64 kl, .slice a4 0 c4]) (by simp [results, Try.results22, go_sem, r0, r1, r2, r3, r4, r5]) rfl ⟨_, _, _, rfl, ?_, ?_⟩
    · exact (((((O4.out.setOther _ _ hn.out).setOther _ _ hn.out).setOther _ _ hn.out).setOther _ _ hn.out).setOther _ _ hn.out).setOther _ _ hn.out
    · exact (((((T4.out.setCell (Nat.le_refl _) _).setCell (Nat.le_refl _) _).setCell (Nat.le_refl _) _).setCell (Nat.le_refl _) _).setCell (Nat.le_refl _) _).setCell (Nat.le_refl _) _
end Go.Proofs.Ytgjkbaplfbiomaa

namespace Go.Proofs.Ytgjkbaplfbiomaa
open Go.ChangeShapes Go.WideShapes Go.ChangeAt Go.RowKit

def echoL (er : Bool) (ei es : Int) (zs : List Int) : List Int := sealB ([if er then 0 else 8, 0, 0, 0] ++ be ei 2 ++ be es 2 ++ zs) 2
theorem own_litB4 (w : World) (base : Nat) (x : Int) (hx : 0 ≤ x ∧ x ≤ 255) (hb : base ≤ w.heap.size) : Own (w.alloc (.cells #[.int .u8 x, .int .u8 0, .int .u8 0, .int .u8 0] 5)) base (some ⟨w.heap.size, 0, none⟩) 4 4 [x, 0, 0, 0] :=
  ⟨World.ownsRow_lit w #[.int .u8 x, .int .u8 0, .int .u8 0, .int .u8 0] 4 hb (by unfold maxLen; omega) rfl, by intro n hn; simp at hn; omega⟩

set_option maxHeartbeats 2000000 in
theorem l3Echo_false (b : Nat) (ei es : Int) (a : Option Addr) (len cap : Nat) (zs : List Int) (w : World) (hx : Box w b 35 #[.bool false, .int .i64 ei, .int .i64 es, .slice a len cap]) (hr : Rd w a len cap zs)
    (h0 : 0 ≤ ei ∧ ei < 281474976710656) (h1 : 0 ≤ es ∧ es < 281474976710656) (hl : len ≤ 552) :
    Calls Try.prog 71 #[.pointer (some ⟨b, 0, none⟩)] w (FreshAny w (echoL false ei es zs)) := by
  have K1 := Lib.hid (fun W => l1Pack_lit ei 2 2 W rfl h0 (by omega))
  have K2 := Lib.hid (fun W => l1Pack_lit es 2 2 W rfl h1 (by omega))
  have X := Lib.hid hx
  have HR := Lib.hid hr
  have hlt := hx.lt
  obtain ⟨L, hL⟩ : ∃ L, L = echoL false ei es zs := ⟨_, rfl⟩
  have HL : Hid (L = sealB ([8, 0, 0, 0] ++ be ei 2 ++ be es 2 ++ zs) 2) := by rw [hL]; rfl
  rw [← hL]
  have O0 := Lib.hid (own_litB4 w w.heap.size 8 (by omega) (Nat.le_refl _))
  have B0 := Lib.hid ((Below.refl w.heap.size w).alloc (Nat.le_refl _) (.cells #[.int .u8 8, .int .u8 0, .int .u8 0, .int .u8 0] 5))
  have O1 := Lib.hid O0.out
  have B1 := Lib.hid B0.out
  clear h0 h1 hx hr hL
  obtain ⟨_, x0, _, _, _⟩ := X.out.four
  go_enter Try.func71, Try.ntmps71
  go_wp2_with fail
  obtain ⟨_, _, x1, x2, _⟩ := (X.out.below B1.out hlt).four
  generalize w.alloc (.cells #[.int .u8 8, .int .u8 0, .int .u8 0, .int .u8 0] 5) = W1 at *
  go_region_held3 (fun W => W.cell? ⟨b, 1, none⟩ = some (.int .i64 ei) ∧ W.cell? ⟨b, 2, none⟩ = some (.int .i64 es))
    (first | go_keep | (go_split_ands; exact ⟨keepB hb (by assumption) hlt, keepB hb (by assumption) hlt⟩))
    (first
      | (have q := P4; clear q; refine append_step _ rfl (.tmp 17) (.tmp 22) rfl w.heap.size _ _ _ _ rfl P4.out _ _ _ _ rfl r4.out B4.out.size (by omega) ?_; intro a5 c5 w5 o5 hb; have P5 := Lib.hid o5; have B5 := Lib.hid (B4.out.trans hb))
      | (have q := P2; clear q; refine append_step _ rfl (.tmp 11) (.tmp 16) rfl w.heap.size _ _ _ _ rfl P2.out _ _ _ _ rfl r2.out B2.out.size (by omega) ?_; intro a3 c3 w3 o3 hb; have P3 := Lib.hid o3; have B3 := Lib.hid (B2.out.trans hb))
      | (have q := P3; clear q; go_at_call 91; refine (K2.out _).mono ?_; rintro e w4 ⟨rfl, o4, b4⟩; have P4 := Lib.hid (P3.out.below b4); have r4 := Lib.hid o4.rd; have hb := b4.mono B3.out.size; have B4 := Lib.hid (B3.out.trans hb))
      | (go_at_call 91; refine (K1.out _).mono ?_; rintro e w2 ⟨rfl, o2, b2⟩; have P2 := Lib.hid (O1.out.drew.below b2); have r2 := Lib.hid o2.rd; have hb := b2.mono B1.out.drew.size; have B2 := Lib.hid (B1.out.drew.trans hb)))
  clear o2 b2 P2 r2 o3 P3 o4 b4 P4 r4 hb B1 B2 B3 B4 x0 x1 x2 O1 O0 B0 o5 K1 K2
  obtain ⟨_, _, _, _, x3⟩ := (X.out.below B5.out hlt).four
  have H5 := Lib.hid (HR.out.below B5.out)
  go_wp2_with (at_builtin; refine append_bytes _ rfl (.tmp 24) (.tmp 28) rfl w.heap.size _ _ _ _ rfl P5.out _ _ _ _ rfl H5.out B5.out.size (by omega) ?_; intro a6 c6 w6 o6 g6; have P6 := Lib.hid o6; have B6 := Lib.hid (B5.out.grown g6 B5.out.size (own_rows P5.out _ (Nat.le_refl _))); clear o6 g6 P5 B5 H5)
  rcases P6.out.shape with ⟨_, h0, _⟩ | ⟨g, rfl⟩
  · omega
  have gB := (P6.out.lt _ rfl).1
  dsimp only at gB
  refine (l1Seal_lit g _ c6 _ 2 2 _ _ rfl P6.out (by omega) (by omega)).mono ?_
  rintro e w7 ⟨rfl, o7, g7⟩
  have B7 := Lib.hid (B6.out.grown g7 B6.out.size (fun k e => by cases e; exact gB))
  have P7 := Lib.hid o7
  clear o7 g7 P6 B6
  go_wp2
  go_ret
  exact ⟨_, _, _, rfl, by rw [HL.out]; exact P7.out, B7.out⟩

set_option maxHeartbeats 2000000 in
theorem l3Echo_true (b : Nat) (ei es : Int) (a : Option Addr) (len cap : Nat) (zs : List Int) (w : World) (hx : Box w b 35 #[.bool true, .int .i64 ei, .int .i64 es, .slice a len cap]) (hr : Rd w a len cap zs)
    (h0 : 0 ≤ ei ∧ ei < 281474976710656) (h1 : 0 ≤ es ∧ es < 281474976710656) (hl : len ≤ 552) :
    Calls Try.prog 71 #[.pointer (some ⟨b, 0, none⟩)] w (FreshAny w (echoL true ei es zs)) := by
  have K1 := Lib.hid (fun W => l1Pack_lit ei 2 2 W rfl h0 (by omega))
  have K2 := Lib.hid (fun W => l1Pack_lit es 2 2 W rfl h1 (by omega))
  have X := Lib.hid hx
  have HR := Lib.hid hr
  have hlt := hx.lt
  obtain ⟨L, hL⟩ : ∃ L, L = echoL true ei es zs := ⟨_, rfl⟩
  have HL : Hid (L = sealB ([0, 0, 0, 0] ++ be ei 2 ++ be es 2 ++ zs) 2) := by rw [hL]; rfl
  rw [← hL]
  have O0 := Lib.hid (own_litB4 w w.heap.size 0 (by omega) (Nat.le_refl _))
  have B0 := Lib.hid ((Below.refl w.heap.size w).alloc (Nat.le_refl _) (.cells #[.int .u8 0, .int .u8 0, .int .u8 0, .int .u8 0] 5))
  have O1 := Lib.hid O0.out
  have B1 := Lib.hid B0.out
  clear h0 h1 hx hr hL
  obtain ⟨_, x0, _, _, _⟩ := X.out.four
  go_enter Try.func71, Try.ntmps71
  go_wp2_with fail
  obtain ⟨_, _, x1, x2, _⟩ := (X.out.below B1.out hlt).four
  generalize w.alloc (.cells #[.int .u8 0, .int .u8 0, .int .u8 0, .int .u8 0] 5) = W1 at *
  go_region_held3 (fun W => W.cell? ⟨b, 1, none⟩ = some (.int .i64 ei) ∧ W.cell? ⟨b, 2, none⟩ = some (.int .i64 es))
    (first | go_keep | (go_split_ands; exact ⟨keepB hb (by assumption) hlt, keepB hb (by assumption) hlt⟩))
    (first
      | (have q := P4; clear q; refine append_step _ rfl (.tmp 17) (.tmp 22) rfl w.heap.size _ _ _ _ rfl P4.out _ _ _ _ rfl r4.out B4.out.size (by omega) ?_; intro a5 c5 w5 o5 hb; have P5 := Lib.hid o5; have B5 := Lib.hid (B4.out.trans hb))
      | (have q := P2; clear q; refine append_step _ rfl (.tmp 11) (.tmp 16) rfl w.heap.size _ _ _ _ rfl P2.out _ _ _ _ rfl r2.out B2.out.size (by omega) ?_; intro a3 c3 w3 o3 hb; have P3 := Lib.hid o3; have B3 := Lib.hid (B2.out.trans hb))
      | (have q := P3; clear q; go_at_call 91; refine (K2.out _).mono ?_; rintro e w4 ⟨rfl, o4, b4⟩; have P4 := Lib.hid (P3.out.below b4); have r4 := Lib.hid o4.rd; have hb := b4.mono B3.out.size; have B4 := Lib.hid (B3.out.trans hb))
      | (go_at_call 91; refine (K1.out _).mono ?_; rintro e w2 ⟨rfl, o2, b2⟩; have P2 := Lib.hid (O1.out.drew.below b2); have r2 := Lib.hid o2.rd; have hb := b2.mono B1.out.drew.size; have B2 := Lib.hid (B1.out.drew.trans hb)))
  clear o2 b2 P2 r2 o3 P3 o4 b4 P4 r4 hb B1 B2 B3 B4 x0 x1 x2 O1 O0 B0 o5 K1 K2
  obtain ⟨_, _, _, _, x3⟩ := (X.out.below B5.out hlt).four
  have H5 := Lib.hid (HR.out.below B5.out)
  go_wp2_with (at_builtin; refine append_bytes _ rfl (.tmp 24) (.tmp 28) rfl w.heap.size _ _ _ _ rfl P5.out _ _ _ _ rfl H5.out B5.out.size (by omega) ?_; intro a6 c6 w6 o6 g6; have P6 := Lib.hid o6; have B6 := Lib.hid (B5.out.grown g6 B5.out.size (own_rows P5.out _ (Nat.le_refl _))); clear o6 g6 P5 B5 H5)
  rcases P6.out.shape with ⟨_, h0, _⟩ | ⟨g, rfl⟩
  · omega
  have gB := (P6.out.lt _ rfl).1
  dsimp only at gB
  refine (l1Seal_lit g _ c6 _ 2 2 _ _ rfl P6.out (by omega) (by omega)).mono ?_
  rintro e w7 ⟨rfl, o7, g7⟩
  have B7 := Lib.hid (B6.out.grown g7 B6.out.size (fun k e => by cases e; exact gB))
  have P7 := Lib.hid o7
  clear o7 g7 P6 B6
  go_wp2
  go_ret
  exact ⟨_, _, _, rfl, by rw [HL.out]; exact P7.out, B7.out⟩

theorem l3Echo_any (b : Nat) (er : Bool) (ei es : Int) (a : Option Addr) (len cap : Nat) (zs : List Int) (w : World) (hx : Box w b 35 #[.bool er, .int .i64 ei, .int .i64 es, .slice a len cap]) (hr : Rd w a len cap zs)
    (h0 : 0 ≤ ei ∧ ei < 281474976710656) (h1 : 0 ≤ es ∧ es < 281474976710656) (hl : len ≤ 552) :
    Calls Try.prog 71 #[.pointer (some ⟨b, 0, none⟩)] w (FreshAny w (echoL er ei es zs)) := by
  cases er with
  | true => exact l3Echo_true b ei es a len cap zs w hx hr h0 h1 hl
  | false => exact l3Echo_false b ei es a len cap zs w hx hr h0 h1 hl

def echoP (er : Bool) (ei es : Int) (zs : List Int) : List Int := if echoC ei es zs.length = 0 then echoL er ei es zs else []
theorem echoC_parts {ei es : Int} {n : Nat} (h : echoC ei es n = 0) : (0 ≤ ei ∧ ei < 65536) ∧ (0 ≤ es ∧ es < 65536) ∧ n ≤ 552 := by
  unfold echoC at h
  split at h
  · rename_i hk
    split at h
    · simp only [echoB, inB, Bool.and_eq_true, decide_eq_true_eq] at hk
      omega
    · omega
  · omega
theorem echoL_len (er : Bool) (ei es : Int) (zs : List Int) : (echoL er ei es zs).length = 8 + zs.length := by
  rw [echoL, sealB_len]; simp [be_len]; omega
theorem echoP_len (er : Bool) (ei es : Int) (zs : List Int) : (echoP er ei es zs).length ≤ 700 := by
  unfold echoP
  split
  · rename_i h
    have := (echoC_parts h).2.2
    rw [echoL_len]
    omega
  · simp

set_option maxHeartbeats 1000000 in
theorem specPackEcho (er : Bool) (ei es : Int) (a : Option Addr) (len cap : Nat) (zs : List Int) (w : World) (hr : Rd w a len cap zs) :
    Calls Try.prog 24 #[.agg #[.bool er, .int .i64 ei, .int .i64 es, .slice a len cap]] w (Packed w (echoC ei es zs.length) (echoP er ei es zs)) := by
  have S := Lib.hid (fun W => specEchoFault er ei es a len cap W)
  have B0 := Lib.hid (((Below.refl w.heap.size w).alloc (Nat.le_refl _) (.cells #[.bool er, .int .i64 ei, .int .i64 es, .slice a len cap] 35)).alloc (by simp) (.cells #[.int .i64 0, .slice none 0 0] 28))
  have X0 := Lib.hid ((Box.new w 35 #[.bool er, .int .i64 ei, .int .i64 es, .slice a len cap]).alloc (.cells #[.int .i64 0, .slice none 0 0] 28))
  have R0 := Lib.hid (Box.new (w.alloc (.cells #[.bool er, .int .i64 ei, .int .i64 es, .slice a len cap] 35)) 28 #[.int .i64 0, .slice none 0 0])
  rw [hr.length]
  by_cases hk : echoC ei es len = 0
  · have hp : echoP er ei es zs = echoL er ei es zs := by unfold echoP; rw [hr.length, if_pos hk]
    obtain ⟨h0, h1, h2⟩ := echoC_parts hk
    have L := Lib.hid (fun W b hx hW => l3Echo_any b er ei es a len cap zs W hx (hr.below hW) (by omega) (by omega) h2)
    rw [hk] at S ⊢
    rw [hp]
    clear hk hp h0 h1 h2 hr
    generalize echoL er ei es zs = ys at *
    go_enter Try.func24, Try.ntmps24
    go_wp2_with fail
    refine (S.out _).mono ?_
    rintro e w1 ⟨rfl, b1⟩
    have X1 := Lib.hid (X0.out.below b1 X0.out.lt)
    have R1 := Lib.hid (R0.out.below b1 R0.out.lt)
    have B1 := Lib.hid (B0.out.trans (b1.mono B0.out.size))
    clear b1 X0 R0 B0
    go_wp2_with fail
    refine (L.out _ _ X1.out B1.out).mono ?_
    rintro e w2 ⟨a2, l2, c2, rfl, o2, b2⟩
    have R2 := R1.out.below b2 R1.out.lt
    simp only [World.size_alloc] at R2
    have hz := R1.out.lt
    simp only [World.size_alloc] at hz
    obtain ⟨z2, r20, r21⟩ := R2.two
    have f0 := R2.frozen 0
    have f1 := R2.frozen 1
    have B2 := Lib.hid (B1.out.trans (b2.mono B1.out.size))
    have O2 := Lib.hid o2
    clear b2 o2 X1 R1 B1 R2
    go_wp2
    refine bodyPost_ret (v := .agg #[.int .i64 0, .slice a2 l2 c2]) (by simp [results, Try.results24, go_sem, r20, r21]) rfl ⟨_, _, _, rfl, ?_, (B2.out.setCell (by simp) _).setCell (by simp) _⟩
    have hn : ∀ x, a2 = some x → w1.heap.size ≤ x.block := fun x hx => (O2.out.lt x hx).1
    exact ((O2.out.setOther _ _ (fun x hx => by have := hn x hx; simp; omega)).setOther _ _ (fun x hx => by have := hn x hx; simp; omega)).rebase (by have := B2.out.size; omega)
  · have hp : echoP er ei es zs = [] := by unfold echoP; rw [hr.length, if_neg hk]
    have hne : (echoC ei es len != 0) = true := by simpa using hk
    rw [hp]
    clear hk hp hr
    generalize echoC ei es len = c at *
    go_enter Try.func24, Try.ntmps24
    go_wp2_with fail
    refine (S.out _).mono ?_
    rintro e w1 ⟨rfl, b1⟩
    have R1 := R0.out.below b1 R0.out.lt
    simp only [World.size_alloc] at R1
    obtain ⟨z2, r20, r21⟩ := R1.two
    have f0 := R1.frozen 0
    have f1 := R1.frozen 1
    have B1 := Lib.hid (B0.out.trans (b1.mono B0.out.size))
    clear b1 X0 R0 B0 R1
    go_wp2
    exact bodyPost_ret (v := .agg #[.int .i64 c, .slice none 0 0]) (by simp [results, Try.results24, go_sem, r20, r21]) rfl ⟨none, 0, 0, rfl, Own.nil _ _, (B1.out.setCell (by simp) _).setCell (by simp) _⟩
end Go.Proofs.Ytgjkbaplfbiomaa

namespace Go.Proofs.Ytgjkbaplfbiomaa
open Go.ChangeShapes Go.WideShapes Go.ChangeAt Go.RowKit

def reLen (n : Nat) : Bool := decide (8 ≤ n ∧ n ≤ 560)
def reForm (b0 b1 : Int) : Bool := ((b0 == 8) || (b0 == 0)) && (b1 == 0)

set_option maxHeartbeats 1000000 in
theorem specReadEcho_len (a : Option Addr) (len cap : Nat) (w : World) (h : reLen len = false) :
    Calls Try.prog 25 #[.slice a len cap] w (EchoRes w 2 false 0 0 []) := by
  simp only [reLen, decide_eq_false_iff_not] at h
  by_cases h1 : 8 ≤ len
  · have h2 : ¬ len ≤ 560 := fun h2 => h ⟨h1, h2⟩
    have e1 : decide ((len : Int) < 8) = false := decide_eq_false (by omega)
    have e2 : decide ((560 : Int) < len) = true := decide_eq_true (by omega)
    clear h h1 h2
    go_enter Try.func25, Try.ntmps25
    go_wp2
    exact bodyPost_ret (v := .agg #[.int .i64 2, .bool false, .int .i64 0, .int .i64 0, .slice none 0 0]) (by simp [results, Try.results25, go_sem]) rfl ⟨none, 0, 0, rfl, Own.nil _ _, (Below.refl _ _).alloc (Nat.le_refl _) _⟩
  · have e1 : decide ((len : Int) < 8) = true := decide_eq_true (by omega)
    clear h h1
    go_enter Try.func25, Try.ntmps25
    go_wp2
    exact bodyPost_ret (v := .agg #[.int .i64 2, .bool false, .int .i64 0, .int .i64 0, .slice none 0 0]) (by simp [results, Try.results25, go_sem]) rfl ⟨none, 0, 0, rfl, Own.nil _ _, (Below.refl _ _).alloc (Nat.le_refl _) _⟩

set_option maxHeartbeats 1000000 in
theorem specReadEcho_sum (a : Option Addr) (len cap : Nat) (zs : List Int) (w : World) (hr : Rd w a len cap zs) (h1 : 8 ≤ len) (h2 : len ≤ 560) (hs : ¬ sumV zs = 0) :
    Calls Try.prog 25 #[.slice a len cap] w (EchoRes w 6 false 0 0 []) := by
  have hle := hr.le
  have hmx := hr.max
  rcases hr.cells with h0 | ⟨ba, off, rfl, hc⟩
  · omega
  have d1 : decide ((len : Int) < 8) = false := decide_eq_false (by omega)
  have d2 : decide ((560 : Int) < len) = false := decide_eq_false (by omega)
  have HR := Lib.hid hr
  have KS := Lib.hid (show ∀ W, Rd W (some ⟨ba, off, none⟩) len cap zs → Calls Try.prog 78 #[.slice (some ⟨ba, off, none⟩) len cap] W fun e w' => e = .returned (.int .i64 (sumV zs)) ∧ W = w' from fun W hW => by have := l1Sum_any _ len cap zs W hW (by omega);  exact this)
  have hn : (sumV zs != 0) = true := by simpa using hs
  clear hr hc hs
  generalize sumV zs = v at *
  go_enter Try.func25, Try.ntmps25
  go_wp2_with (go_at_call 78; refine (KS.out _ (HR.out.alloc _)).mono ?_; rintro e w' ⟨rfl, rfl⟩)
  all_goals exact bodyPost_ret (v := .agg #[.int .i64 6, .bool false, .int .i64 0, .int .i64 0, .slice none 0 0]) (by simp [results, Try.results25, go_sem]) rfl ⟨none, 0, 0, rfl, Own.nil _ _, (Below.refl _ _).alloc (Nat.le_refl _) _⟩

set_option maxHeartbeats 1000000 in
theorem specReadEcho_form (a : Option Addr) (len cap : Nat) (zs : List Int) (w : World) (hr : Rd w a len cap zs) (h1 : 8 ≤ len) (h2 : len ≤ 560) (hs : sumV zs = 0) (b0 b1 : Int) (q0 : zs.getD 0 0 = b0) (q1 : zs.getD 1 0 = b1) (hf : reForm b0 b1 = false) :
    Calls Try.prog 25 #[.slice a len cap] w (EchoRes w 1 false 0 0 []) := by
  have hle := hr.le
  have hmx := hr.max
  rcases hr.cells with h0 | ⟨ba, off, rfl, hc⟩
  · omega
  have d1 : decide ((len : Int) < 8) = false := decide_eq_false (by omega)
  have d2 : decide ((560 : Int) < len) = false := decide_eq_false (by omega)
  have HR := Lib.hid hr
  have KS := Lib.hid (show ∀ W, Rd W (some ⟨ba, off, none⟩) len cap zs → Calls Try.prog 78 #[.slice (some ⟨ba, off, none⟩) len cap] W fun e w' => e = .returned (.int .i64 0) ∧ W = w' from fun W hW => by have := l1Sum_any _ len cap zs W hW (by omega); rw [hs] at this; exact this)
  have c0 : (w.alloc (.cells #[.int .i64 0, .bool false, .int .i64 0, .int .i64 0, .slice none 0 0] 39)).cell? ⟨ba, off, none⟩ = some (.int .u8 (zs.getD 0 0)) := (((Below.refl w.heap.size w).alloc (Nat.le_refl _) _).cell (World.block_lt_of_cell? _ _ (hc 0 (by omega)))).trans (hc 0 (by omega))
  have c1 : (w.alloc (.cells #[.int .i64 0, .bool false, .int .i64 0, .int .i64 0, .slice none 0 0] 39)).cell? ⟨ba, off + 1, none⟩ = some (.int .u8 (zs.getD 1 0)) := (((Below.refl w.heap.size w).alloc (Nat.le_refl _) _).cell (World.block_lt_of_cell? _ _ (hc 1 (by omega)))).trans (hc 1 (by omega))
  rw [q0] at c0
  rw [q1] at c1
  have hf' : (b0 != 8) = true ∧ (b0 != 0) = true ∨ ((b0 != 8) = false ∨ (b0 != 8) = true ∧ (b0 != 0) = false) ∧ (b1 != 0) = true := by
    unfold reForm at hf
    simp only [bne]
    cases hA : (b0 == 8) <;> cases hB : (b0 == 0) <;> cases hC : (b1 == 0) <;> simp_all
  clear hr hc hs hf q0 q1
  rcases hf' with ⟨f1, f2⟩ | ⟨f1 | ⟨f1, f2⟩, f3⟩
  all_goals
    go_enter Try.func25, Try.ntmps25
    go_wp2_with (go_at_call 78; refine (KS.out _ (HR.out.alloc _)).mono ?_; rintro e w' ⟨rfl, rfl⟩)
    exact bodyPost_ret (v := .agg #[.int .i64 1, .bool false, .int .i64 0, .int .i64 0, .slice none 0 0]) (by simp [results, Try.results25, go_sem]) rfl ⟨none, 0, 0, rfl, Own.nil _ _, (Below.refl _ _).alloc (Nat.le_refl _) _⟩

set_option maxRecDepth 20000 in
set_option maxHeartbeats 2000000 in
theorem specReadEcho_ok1 (a : Option Addr) (len cap : Nat) (zs : List Int) (w : World) (hr : Rd w a len cap zs) (h1 : 8 ≤ len) (h2 : len ≤ 560) (hcap : ¬ cap = 8) (hs : sumV zs = 0) (b0 b1 : Int) (q0 : zs.getD 0 0 = b0) (q1 : zs.getD 1 0 = b1) (hf : reForm b0 b1 = true) :
    Calls Try.prog 25 #[.slice a len cap] w (EchoRes w 0 (b0 == 0) (rdTo zs 4 2) (rdTo zs 6 2) (zs.drop 8)) := by
  have hle := hr.le
  have hmx := hr.max
  rcases hr.cells with h0 | ⟨ba, off, rfl, hc⟩
  · omega
  have d1 : decide ((len : Int) < 8) = false := decide_eq_false (by omega)
  have d2 : decide ((560 : Int) < len) = false := decide_eq_false (by omega)
  have HR := Lib.hid hr
  have KS := Lib.hid (show ∀ W, Rd W (some ⟨ba, off, none⟩) len cap zs → Calls Try.prog 78 #[.slice (some ⟨ba, off, none⟩) len cap] W fun e w' => e = .returned (.int .i64 0) ∧ W = w' from fun W hW => by have := l1Sum_any _ len cap zs W hW (by omega); rw [hs] at this; exact this)
  have c0 : (w.alloc (.cells #[.int .i64 0, .bool false, .int .i64 0, .int .i64 0, .slice none 0 0] 39)).cell? ⟨ba, off, none⟩ = some (.int .u8 (zs.getD 0 0)) := (((Below.refl w.heap.size w).alloc (Nat.le_refl _) _).cell (World.block_lt_of_cell? _ _ (hc 0 (by omega)))).trans (hc 0 (by omega))
  have c1 : (w.alloc (.cells #[.int .i64 0, .bool false, .int .i64 0, .int .i64 0, .slice none 0 0] 39)).cell? ⟨ba, off + 1, none⟩ = some (.int .u8 (zs.getD 1 0)) := (((Below.refl w.heap.size w).alloc (Nat.le_refl _) _).cell (World.block_lt_of_cell? _ _ (hc 1 (by omega)))).trans (hc 1 (by omega))
  rw [q0] at c0
  rw [q1] at c1
  have hf' : ((b0 != 8) = false ∨ (b0 != 8) = true ∧ (b0 != 0) = false) ∧ (b1 != 0) = false := by
    unfold reForm at hf
    simp only [bne]
    cases hA : (b0 == 8) <;> cases hB : (b0 == 0) <;> cases hC : (b1 == 0) <;> simp_all
  have K1 := Lib.hid (fun W (hW : Rd W (some ⟨ba, off, none⟩) len cap zs) => l1Read_lit _ len cap 4 2 4 2 zs W hW rfl rfl (by omega) (by omega))
  have K2 := Lib.hid (fun W (hW : Rd W (some ⟨ba, off, none⟩) len cap zs) => l1Read_lit _ len cap 6 2 6 2 zs W hW rfl rfl (by omega) (by omega))
  have R0 := Lib.hid (Box.new w 39 #[.int .i64 0, .bool false, .int .i64 0, .int .i64 0, .slice none 0 0])
  have B0 := Lib.hid ((Below.refl w.heap.size w).alloc (Nat.le_refl _) (.cells #[.int .i64 0, .bool false, .int .i64 0, .int .i64 0, .slice none 0 0] 39))
  have SS := Lib.hid (show ∀ W, Hid (Below w.heap.size w W) → W.cell? ⟨ba, off, none⟩ = some (.int .u8 b0) ∧ Hid (Below w.heap.size w W) from fun W h => by
    refine ⟨?_, h⟩
    rw [← q0]
    exact (h.out.cell (World.block_lt_of_cell? _ _ (hc 0 (by omega)))).trans (hc 0 (by omega)))
  have HD := Lib.hid (show ∀ W, Hid (Below w.heap.size w W) → Rd W (some ⟨ba, off + 8, none⟩) (len - 8) (cap - 8) (zs.drop 8) from fun W h => (HR.out.below h.out).from 8 _ _ _ (by omega) rfl rfl rfl)
  have HW := Lib.hid (show ∀ W, Hid (Below w.heap.size w W) → Rd W (some ⟨ba, off, none⟩) len cap zs from fun W h => HR.out.below h.out)
  have i1 : (8 : Int) ≤ len := by omega
  have i0 : (0 : Int) < len := by omega
  have i0n : 0 < len := by omega
  clear hr hc hs hf q0 q1
  generalize zs.drop 8 = ys at *
  generalize rdTo zs 4 2 = n1 at *
  generalize rdTo zs 6 2 = n2 at *
  generalize hr0 : (b0 == 0) = rp at *
  obtain ⟨hf1, f3⟩ := hf'
  rcases hf1 with f1 | ⟨f1, f2⟩
  all_goals
    go_enter Try.func25, Try.ntmps25
    go_wp2_with (go_at_call 78; refine (KS.out _ (HR.out.alloc _)).mono ?_; rintro e w' ⟨rfl, rfl⟩)
    generalize w.alloc (.cells #[.int .i64 0, .bool false, .int .i64 0, .int .i64 0, .slice none 0 0] 39) = W0 at *
    have T0 : Hid (Below w.heap.size w W0) := B0.out
    have TD := kDrew T0
    go_region_held3 (fun W => W.cell? ⟨ba, off, none⟩ = some (.int .u8 b0) ∧ Hid (Below w.heap.size w W))
      (first
        | (go_split_ands; refine SS.out _ ?_; (with_reducible assumption))
        | (go_split_ands; refine SS.out _ ?_; (with_reducible refine kDrew ?_); (with_reducible assumption))
        | (go_split_ands; refine SS.out _ ?_; iterate 5 (with_reducible refine kSet (Nat.le_refl _) ?_)
           (with_reducible assumption)))
      (first
        | (have q := M1; clear q; go_at_call 76; refine (l1Copy_any _ _ _ ys _ (HD.out _ TD) (by omega)).mono ?_; rintro e w4 ⟨a4, c4, rfl, o4, b4⟩; have T4 := kCall b4 (kSize TD) TD; have R4 := (show Box W0.drew _ _ _ from R0.out).below b4 R0.out.lt; obtain ⟨_, r0, r1, r2, r3, r4⟩ := R4.five; have f4 := R4.frozen 0; have f5 := R4.frozen 1; have f6 := R4.frozen 2; have f7 := R4.frozen 3; have f8 := R4.frozen 4)
        | (have q := M0; clear q; go_at_call 77; refine (K2.out _ (HW.out _ TD)).mono ?_; rintro e w3 ⟨rfl, rfl⟩; have M1 := Lib.hid trivial)
        | (go_at_call 77; refine (K1.out _ (HW.out _ TD)).mono ?_; rintro e w2 ⟨rfl, rfl⟩; have M0 := Lib.hid trivial))
    have hz := R0.out.lt
    have hn : Hid (∀ x, a4 = some x → ¬ x.block = w.heap.size) := fun x hx e => by
      have h3 : W0.heap.size ≤ x.block := (o4.lt x hx).1
      omega
    have O4 : Hid (Own w4 w.heap.size a4 (len - 8) c4 ys) := o4.rebase B0.out.size
    clear o4 b4 R4 SS TD T0 HD HW
    go_wp2
    refine bodyPost_ret (v := .agg #[.int .i64 0, .bool rp, .int .i64 n1, .int .i64 n2, .slice a4 (len - 8) c4]) (by simp [results, Try.results25, go_sem, r0, r1, r2, r3, r4]) rfl ⟨_, _, _, rfl, ?_, ?_⟩
    · exact ((((O4.out.setOther _ _ hn.out).setOther _ _ hn.out).setOther _ _ hn.out).setOther _ _ hn.out).setOther _ _ hn.out
    · exact ((((T4.out.setCell (Nat.le_refl _) _).setCell (Nat.le_refl _) _).setCell (Nat.le_refl _) _).setCell (Nat.le_refl _) _).setCell (Nat.le_refl _) _

set_option maxRecDepth 20000 in
set_option maxHeartbeats 2000000 in
theorem specReadEcho_ok2 (a : Option Addr) (zs : List Int) (w : World) (hr : Rd w a 8 8 zs) (hs : sumV zs = 0) (b0 b1 : Int) (q0 : zs.getD 0 0 = b0) (q1 : zs.getD 1 0 = b1) (hf : reForm b0 b1 = true) :
    Calls Try.prog 25 #[.slice a 8 8] w (EchoRes w 0 (b0 == 0) (rdTo zs 4 2) (rdTo zs 6 2) (zs.drop 8)) := by
  rcases hr.cells with h0 | ⟨ba, off, rfl, hc⟩
  · omega
  have HR := Lib.hid hr
  have KS := Lib.hid (show ∀ W, Rd W (some ⟨ba, off, none⟩) 8 8 zs → Calls Try.prog 78 #[.slice (some ⟨ba, off, none⟩) 8 8] W fun e w' => e = .returned (.int .i64 0) ∧ W = w' from fun W hW => by have := l1Sum_any _ 8 8 zs W hW (by omega); rw [hs] at this; exact this)
  have c0 : (w.alloc (.cells #[.int .i64 0, .bool false, .int .i64 0, .int .i64 0, .slice none 0 0] 39)).cell? ⟨ba, off, none⟩ = some (.int .u8 (zs.getD 0 0)) := (((Below.refl w.heap.size w).alloc (Nat.le_refl _) _).cell (World.block_lt_of_cell? _ _ (hc 0 (by omega)))).trans (hc 0 (by omega))
  have c1 : (w.alloc (.cells #[.int .i64 0, .bool false, .int .i64 0, .int .i64 0, .slice none 0 0] 39)).cell? ⟨ba, off + 1, none⟩ = some (.int .u8 (zs.getD 1 0)) := (((Below.refl w.heap.size w).alloc (Nat.le_refl _) _).cell (World.block_lt_of_cell? _ _ (hc 1 (by omega)))).trans (hc 1 (by omega))
  rw [q0] at c0
  rw [q1] at c1
  have hf' : ((b0 != 8) = false ∨ (b0 != 8) = true ∧ (b0 != 0) = false) ∧ (b1 != 0) = false := by
    unfold reForm at hf
    simp only [bne]
    cases hA : (b0 == 8) <;> cases hB : (b0 == 0) <;> cases hC : (b1 == 0) <;> simp_all
  have K1 := Lib.hid (fun W (hW : Rd W (some ⟨ba, off, none⟩) 8 8 zs) => l1Read_lit _ 8 8 4 2 4 2 zs W hW rfl rfl (by omega) (by omega))
  have K2 := Lib.hid (fun W (hW : Rd W (some ⟨ba, off, none⟩) 8 8 zs) => l1Read_lit _ 8 8 6 2 6 2 zs W hW rfl rfl (by omega) (by omega))
  have R0 := Lib.hid (Box.new w 39 #[.int .i64 0, .bool false, .int .i64 0, .int .i64 0, .slice none 0 0])
  have B0 := Lib.hid ((Below.refl w.heap.size w).alloc (Nat.le_refl _) (.cells #[.int .i64 0, .bool false, .int .i64 0, .int .i64 0, .slice none 0 0] 39))
  have SS := Lib.hid (show ∀ W, Hid (Below w.heap.size w W) → W.cell? ⟨ba, off, none⟩ = some (.int .u8 b0) ∧ Hid (Below w.heap.size w W) from fun W h => by
    refine ⟨?_, h⟩
    rw [← q0]
    exact (h.out.cell (World.block_lt_of_cell? _ _ (hc 0 (by omega)))).trans (hc 0 (by omega)))
  have HD := Lib.hid (show ∀ W, Hid (Below w.heap.size w W) → Rd W (some ⟨ba, off, none⟩) 0 0 (zs.drop 8) from fun W h => ⟨by have := HR.out.length; simp; omega, Nat.le_refl _, Nat.zero_le _, b8_drop HR.out.b8 8, by simp, .inl rfl⟩)
  have HW := Lib.hid (show ∀ W, Hid (Below w.heap.size w W) → Rd W (some ⟨ba, off, none⟩) 8 8 zs from fun W h => HR.out.below h.out)
  clear hr hc hs hf q0 q1
  generalize zs.drop 8 = ys at *
  generalize rdTo zs 4 2 = n1 at *
  generalize rdTo zs 6 2 = n2 at *
  generalize hr0 : (b0 == 0) = rp at *
  obtain ⟨hf1, f3⟩ := hf'
  rcases hf1 with f1 | ⟨f1, f2⟩
  all_goals
    go_enter Try.func25, Try.ntmps25
    go_wp2_with (go_at_call 78; refine (KS.out _ (HR.out.alloc _)).mono ?_; rintro e w' ⟨rfl, rfl⟩)
    generalize w.alloc (.cells #[.int .i64 0, .bool false, .int .i64 0, .int .i64 0, .slice none 0 0] 39) = W0 at *
    have T0 : Hid (Below w.heap.size w W0) := B0.out
    have TD := kDrew T0
    go_region_held3 (fun W => W.cell? ⟨ba, off, none⟩ = some (.int .u8 b0) ∧ Hid (Below w.heap.size w W))
      (first
        | (go_split_ands; refine SS.out _ ?_; (with_reducible assumption))
        | (go_split_ands; refine SS.out _ ?_; (with_reducible refine kDrew ?_); (with_reducible assumption))
        | (go_split_ands; refine SS.out _ ?_; iterate 5 (with_reducible refine kSet (Nat.le_refl _) ?_)
           (with_reducible assumption)))
      (first
        | (have q := M1; clear q; go_at_call 76; refine (l1Copy_any _ _ _ ys _ (HD.out _ TD) (by omega)).mono ?_; rintro e w4 ⟨a4, c4, rfl, o4, b4⟩; have T4 := kCall b4 (kSize TD) TD; have R4 := (show Box W0.drew _ _ _ from R0.out).below b4 R0.out.lt; obtain ⟨_, r0, r1, r2, r3, r4⟩ := R4.five; have f4 := R4.frozen 0; have f5 := R4.frozen 1; have f6 := R4.frozen 2; have f7 := R4.frozen 3; have f8 := R4.frozen 4)
        | (have q := M0; clear q; go_at_call 77; refine (K2.out _ (HW.out _ TD)).mono ?_; rintro e w3 ⟨rfl, rfl⟩; have M1 := Lib.hid trivial)
        | (go_at_call 77; refine (K1.out _ (HW.out _ TD)).mono ?_; rintro e w2 ⟨rfl, rfl⟩; have M0 := Lib.hid trivial))
    have hz := R0.out.lt
    have hn : Hid (∀ x, a4 = some x → ¬ x.block = w.heap.size) := fun x hx e => by
      have h3 : W0.heap.size ≤ x.block := (o4.lt x hx).1
      omega
    have O4 : Hid (Own w4 w.heap.size a4 0 c4 ys) := o4.rebase B0.out.size
    clear o4 b4 R4 SS TD T0 HD HW
    go_wp2
    refine bodyPost_ret (v := .agg #[.int .i64 0, .bool rp, .int .i64 n1, .int .i64 n2, .slice a4 0 c4]) (by simp [results, Try.results25, go_sem, r0, r1, r2, r3, r4]) rfl ⟨_, _, _, rfl, ?_, ?_⟩
    · exact ((((O4.out.setOther _ _ hn.out).setOther _ _ hn.out).setOther _ _ hn.out).setOther _ _ hn.out).setOther _ _ hn.out
    · exact ((((T4.out.setCell (Nat.le_refl _) _).setCell (Nat.le_refl _) _).setCell (Nat.le_refl _) _).setCell (Nat.le_refl _) _).setCell (Nat.le_refl _) _
end Go.Proofs.Ytgjkbaplfbiomaa

namespace Go.Proofs.Ytgjkbaplfbiomaa
open Go.ChangeShapes Go.WideShapes Go.ChangeAt Go.RowKit

/-- a whole struct loaded out of its block -/
theorem loadBox_list (w : World) {ops : Array Oper} {rest : List Oper} {o : Oper} {ac : Act} {Q : Exit → Act → World → Prop} (hgd : o.guard = none) (ty : TypeId) (x : Operand)
    (ho : o.op = .load ty x) (b : Nat) (t : TypeId) (vs : Array Value) (hx : Box w b t vs) (ex : ac.eval x = .pointer (some ⟨b, 0, none⟩)) (d : TypeDesc) (hd : (match d with | .struct _ | .array _ _ => true | _ => false) = true) (hu : Try.prog.underlying ty = some d)
    (hi : (Try.prog.info? ty).map (·.size) = some vs.size)
    (h : wpList Try.prog ops Q rest (ac.put o.dst (.agg vs)) w) : wpList Try.prog ops Q (o :: rest) ac w := by
  refine wpList_plain hgd fun K hK => ?_
  have hrun := run_loadVar_row (P := Try.prog) w b t ty vs (0, 0) d hx hu (by cases d <;> first | rfl | exact hd) hi
  unfold Oper.wp execOp
  simp only [ho, ex, Instr.loadAt, Instr.sureAddr, Sem.run_bind, Sem.run_pure, Result.andThen_ok, hrun]
  exact hK _ _ h

end Go.Proofs.Ytgjkbaplfbiomaa

namespace Go.Proofs.Ytgjkbaplfbiomaa
open Go.ChangeShapes Go.WideShapes Go.ChangeAt Go.RowKit

theorem own_lit2 (w : World) (base : Nat) (x y : Int) (hx : 0 ≤ x ∧ x ≤ 255) (hy : 0 ≤ y ∧ y ≤ 255) (hb : base ≤ w.heap.size) : Own (w.alloc (.cells #[.int .u8 x, .int .u8 y] 5)) base (some ⟨w.heap.size, 0, none⟩) 2 2 [x, y] :=
  ⟨World.ownsRow_lit w #[.int .u8 x, .int .u8 y] 2 hb (by unfold maxLen; omega) rfl, by intro n hn; simp at hn; omega⟩

end Go.Proofs.Ytgjkbaplfbiomaa

namespace Go.Proofs.Ytgjkbaplfbiomaa
open Go.ChangeShapes Go.WideShapes Go.ChangeAt Go.RowKit

theorem isIp_any (n : Int) (w : World) : Calls Try.prog 80 #[.int .i64 n] w fun e w' => e = .returned (.bool (ipB n)) ∧ w = w' := by
  by_cases h1 : 0 ≤ n
  · by_cases h2 : n ≤ 4294967295
    · have H : Hid (ipB n = true) := in_t ⟨h1, h2⟩
      go_enter Try.func80, Try.ntmps80
      go_wp2
      go_ret
      exact ⟨ret_b H.out.symm, rfl⟩
    · have H : Hid (ipB n = false) := in_f (by omega)
      go_enter Try.func80, Try.ntmps80
      go_wp2
      go_ret
      exact ⟨ret_b H.out.symm, rfl⟩
  · have H : Hid (ipB n = false) := in_f (by omega)
    go_enter Try.func80, Try.ntmps80
    go_wp2
    go_ret
    exact ⟨ret_b H.out.symm, rfl⟩

end Go.Proofs.Ytgjkbaplfbiomaa

namespace Go.Proofs.Ytgjkbaplfbiomaa
open Go.ChangeShapes Go.WideShapes Go.ChangeAt Go.RowKit

theorem box_after {W w' : World} {vs : Array Value} {t : TypeId} (hb : Below (W.alloc (.cells vs t)).heap.size (W.alloc (.cells vs t)) w') : Box w' W.heap.size t vs := (Box.new W t vs).below hb (Box.new W t vs).lt

theorem Box.c14 {w : World} {b : Nat} {t : TypeId} {x0 x1 x2 x3 x4 x5 x6 x7 x8 x9 x10 x11 x12 x13 : Value} (h : Box w b t #[x0, x1, x2, x3, x4, x5, x6, x7, x8, x9, x10, x11, x12, x13]) : w.cell? ⟨b, 0, none⟩ = some x0 ∧ w.cell? ⟨b, 1, none⟩ = some x1 ∧ w.cell? ⟨b, 2, none⟩ = some x2 ∧ w.cell? ⟨b, 3, none⟩ = some x3 ∧ w.cell? ⟨b, 4, none⟩ = some x4 ∧ w.cell? ⟨b, 5, none⟩ = some x5 ∧ w.cell? ⟨b, 6, none⟩ = some x6 ∧ w.cell? ⟨b, 7, none⟩ = some x7 ∧ w.cell? ⟨b, 8, none⟩ = some x8 ∧ w.cell? ⟨b, 9, none⟩ = some x9 ∧ w.cell? ⟨b, 10, none⟩ = some x10 ∧ w.cell? ⟨b, 11, none⟩ = some x11 ∧ w.cell? ⟨b, 12, none⟩ = some x12 ∧ w.cell? ⟨b, 13, none⟩ = some x13 := ⟨h.cell 0, h.cell 1, h.cell 2, h.cell 3, h.cell 4, h.cell 5, h.cell 6, h.cell 7, h.cell 8, h.cell 9, h.cell 10, h.cell 11, h.cell 12, h.cell 13⟩
theorem be6 (n : Int) : ∃ y0 y1 y2 y3 y4 y5, be n 6 = [y0, y1, y2, y3, y4, y5] := ⟨_, _, _, _, _, _, rfl⟩

theorem frameC_kd {tq fr kd : Int} {n : Nat} (h : frameC tq fr kd n = 0) : 0 ≤ kd ∧ kd < 65536 := by
  unfold frameC at h
  split at h
  · rename_i hk
    simp only [frameB, inB, Bool.and_eq_true, decide_eq_true_eq] at hk
    omega
  · omega

end Go.Proofs.Ytgjkbaplfbiomaa

namespace Go.Proofs.Ytgjkbaplfbiomaa
open Go.ChangeShapes Go.WideShapes Go.ChangeAt Go.RowKit

def arpP (op fm fi tm ti : Int) : List Int := if arpB op fm fi tm ti then arpL op fm fi tm ti else []
theorem arpL_len (op fm fi tm ti : Int) : (arpL op fm fi tm ti).length = 28 := by simp [arpL, be_len]
theorem arpP_len (op fm fi tm ti : Int) : (arpP op fm fi tm ti).length ≤ 28 := by
  unfold arpP
  split
  · rw [arpL_len]; exact Nat.le_refl _
  · simp
theorem arpB_parts {op fm fi tm ti : Int} (h : arpB op fm fi tm ti = true) : (0 ≤ op ∧ op < 281474976710656) ∧ (0 ≤ fm ∧ fm < 281474976710656) ∧ (0 ≤ fi ∧ fi < 281474976710656) ∧ (0 ≤ tm ∧ tm < 281474976710656) ∧ (0 ≤ ti ∧ ti < 281474976710656) := by
  simp only [arpB, macB, ipB, inB, Bool.and_eq_true, decide_eq_true_eq] at h
  omega

end Go.Proofs.Ytgjkbaplfbiomaa

namespace Go.Proofs.Ytgjkbaplfbiomaa
open Go.ChangeShapes Go.WideShapes Go.ChangeAt Go.RowKit

end Go.Proofs.Ytgjkbaplfbiomaa

namespace Go.Proofs.Ytgjkbaplfbiomaa
open Go.ChangeShapes Go.WideShapes Go.ChangeAt Go.RowKit

/-- these blocks hold just these cells -/
def Bs (l : List (Nat × TypeId × Array Value)) (W : World) : Prop := ∀ x ∈ l, Box W x.1 x.2.1 x.2.2
theorem bsCall {l : List (Nat × TypeId × Array Value)} {W w' : World} (hb : Below W.heap.size W w') (h : Hid (Bs l W)) : Hid (Bs l w') := fun x hx => (h.out x hx).below hb (h.out x hx).lt
theorem bsAlloc {l : List (Nat × TypeId × Array Value)} {W : World} {o : Obj} (h : Hid (Bs l W)) : Hid (Bs l (W.alloc o)) := fun x hx => (h.out x hx).alloc o
theorem bsDrew {l : List (Nat × TypeId × Array Value)} {W : World} (h : Hid (Bs l W)) : Hid (Bs l W.drew) := fun x hx => h.out x hx
theorem bsSet {l : List (Nat × TypeId × Array Value)} {W : World} {p : Addr} {u : Value} (hp : ∀ x ∈ l, x.1 ≠ p.block) (h : Hid (Bs l W)) : Hid (Bs l (W.setCell p u)) := fun x hx => (h.out x hx).grown (grown_setCell W p u) (by have := hp x hx; simpa using this)
theorem be4 (n : Int) : ∃ y0 y1 y2 y3, be n 4 = [y0, y1, y2, y3] := ⟨_, _, _, _, rfl⟩
theorem b8_4 {y0 y1 y2 y3 : Int} {n : Int} {k : Nat} (h : be n k = [y0, y1, y2, y3]) : B8 [y0, y1, y2, y3] := by rw [← h]; exact b8_be k n
theorem arpB_ip {op fm fi tm ti : Int} (h : arpB op fm fi tm ti = true) : (0 ≤ op ∧ op < 65536) ∧ (0 ≤ fi ∧ fi < 4294967296) ∧ (0 ≤ ti ∧ ti < 4294967296) := by
  simp only [arpB, macB, ipB, inB, Bool.and_eq_true, decide_eq_true_eq] at h
  omega

end Go.Proofs.Ytgjkbaplfbiomaa

namespace Go.Proofs.Ytgjkbaplfbiomaa
open Go.ChangeShapes Go.WideShapes Go.ChangeAt Go.RowKit

theorem rdTo_take (zs : List Int) (A n : Nat) : ∀ k, A + k ≤ n → rdTo (zs.take n) A k = rdTo zs A k
  | 0, _ => rfl
  | k + 1, h => by
    simp only [rdTo]
    rw [rdTo_take zs A n k (by omega), List.getD_eq_getElem?_getD, List.getD_eq_getElem?_getD, List.getElem?_take, if_pos (by omega)]
theorem rdTo_drop (zs : List Int) (A n : Nat) : ∀ k, rdTo (zs.drop n) A k = rdTo zs (n + A) k
  | 0 => rfl
  | k + 1 => by
    simp only [rdTo]
    rw [rdTo_drop zs A n k, List.getD_eq_getElem?_getD, List.getD_eq_getElem?_getD, List.getElem?_drop, Nat.add_assoc]

set_option maxHeartbeats 1000000 in
theorem bclone_any (a : Option Addr) (len cap : Nat) (zs : List Int) (w : World) (h : Rd w a len cap zs) (hl : len ≤ 1048576) :
    Calls Try.prog 97 #[.slice a len cap] w (Fresh w len zs) := by
  cases a with
  | none =>
    obtain ⟨rfl, rfl⟩ := h.nil rfl
    have hz := Lib.hid (List.length_eq_zero_iff.1 h.length)
    clear h
    have q := Lib.run_eql_slice_nil (P := Try.prog) w 22 5 none 0 0 0 0 Try.underlying22
    go_enter Try.func97, Try.ntmps97
    go_wp2
    go_ret
    exact ⟨none, 0, rfl, by rw [hz.out]; exact Own.nil _ _, Below.refl _ _⟩
  | some x =>
    have o0 := own_lit w w.heap.size (Nat.le_refl _)
    have r0 := h.alloc (.cells #[] 5)
    have q := Lib.run_eql_slice_nil (P := Try.prog) w 22 5 (some x) len cap 0 0 Try.underlying22
    go_enter Try.func97, Try.ntmps97
    go_wp2_with (at_builtin; refine append_bytes _ rfl (.tmp 5) (.tmp 6) rfl w.heap.size _ _ _ [] rfl o0 (some x) len cap zs rfl r0 (by simp) (by omega) ?_; intro a' c' w' ho hg)
    go_ret
    refine ⟨a', c', by simp [Array.getD], by simpa using ho, ?_⟩
    exact ((Below.refl _ _).alloc (Nat.le_refl _) _).grown hg (by simp) (fun k e => by simp [Value.ownBlock] at e; omega)

theorem take6 (zs : List Int) (n : Nat) (h : n + 6 ≤ zs.length) : ∃ y0 y1 y2 y3 y4 y5, (zs.drop n).take 6 = [y0, y1, y2, y3, y4, y5] := by
  have hl : ((zs.drop n).take 6).length = 6 := by simp; omega
  match h' : (zs.drop n).take 6, hl with
  | [y0, y1, y2, y3, y4, y5], _ => exact ⟨y0, y1, y2, y3, y4, y5, rfl⟩

end Go.Proofs.Ytgjkbaplfbiomaa

namespace Go.Proofs.Ytgjkbaplfbiomaa
open Go.ChangeShapes Go.WideShapes Go.ChangeAt Go.RowKit

def plB (n : Int) (len : Nat) : Bool := decide (20 ≤ n) && (decide (n ≤ len) && decide (n ≤ 580))
theorem packetLength_any (n : Int) (a : Option Addr) (len cap : Nat) (w : World) :
    Calls Try.prog 94 #[.int .i64 n, .slice a len cap] w fun e w' => e = .returned (.bool (plB n len)) ∧ w = w' := by
  have H : Hid (plB n len = (decide (20 ≤ n) && (decide (n ≤ len) && decide (n ≤ 580)))) := rfl
  generalize plB n len = b at *
  cases m0 : decide (20 ≤ n)
  case' true => cases m1 : decide (n ≤ (len : Int))
  case' true.true => cases m2 : decide (n ≤ 580)
  all_goals
    go_enter Try.func94, Try.ntmps94
    go_wp2
    go_ret
    exact ⟨ret_b (by rw [H.out]; simp [*]), rfl⟩

def cutB (ct : Int) : Bool := (ct != 0) && (ct != 16384)
theorem readWord_lit (a : Option Addr) (len cap A S : Nat) (x y v : Int) (zs : List Int) (w : World) (h : Rd w a len cap zs) (hx : (A : Int) = x) (hy : (S : Int) = y) (hS1 : 1 ≤ S) (hS2 : S ≤ 6) (hA : A + S ≤ len) (hv : rdTo zs A S = v) :
    Calls Try.prog 93 #[.slice a len cap, .int .i64 x, .int .i64 y] w fun e w' => e = .returned (.agg #[.int .i64 0, .int .i64 v]) ∧ Below w.heap.size w w' := by
  subst hx hy hv
  exact implRead_ok a len cap A S zs w h hS1 hS2 hA
theorem isCut_any (a : Option Addr) (len cap : Nat) (zs : List Int) (ct : Int) (w : World) (h : Rd w a len cap zs) (hl : 8 ≤ len) (hc : rdTo zs 6 2 = ct) :
    Calls Try.prog 95 #[.slice a len cap] w fun e w' => e = .returned (.bool (cutB ct)) ∧ Below w.heap.size w w' := by
  have K := Lib.hid (readWord_lit a len cap 6 2 6 2 ct zs w h rfl rfl (by omega) (by omega) (by omega) hc)
  have H : Hid (cutB ct = ((ct != 0) && (ct != 16384))) := rfl
  have hfi := fld_ir
  clear h hc
  generalize cutB ct = b at *
  cases m0 : (ct != 0)
  case' true => cases m1 : (ct != 16384)
  all_goals
    go_enter Try.func95, Try.ntmps95
    go_wp2_with fail
    refine K.out.mono ?_
    rintro e w1 ⟨rfl, b1⟩
    have B1 := Lib.hid b1
    clear b1
    go_wp2
    go_ret
    exact ⟨ret_b (by rw [H.out]; simp [*]), B1.out⟩
theorem isSummed_is (a : Option Addr) (len cap : Nat) (zs : List Int) (b : Bool) (w : World) (h : Rd w a len cap zs) (hl : len ≤ 700) (hb : decide (sumV zs = 0) = b) :
    Calls Try.prog 96 #[.slice a len cap] w fun e w' => e = .returned (.bool b) ∧ Below w.heap.size w w' := by
  have := implIs a len cap zs w h
  rw [isS, h.length, decide_eq_true hl, Bool.true_and, hb] at this
  exact this
end Go.Proofs.Ytgjkbaplfbiomaa

namespace Go.Proofs.Ytgjkbaplfbiomaa
open Go.ChangeShapes Go.WideShapes Go.ChangeAt Go.RowKit

theorem packetIn_len (a : Option Addr) (len cap : Nat) (w : World) (h : rpLen len = false) : Calls Try.prog 67 #[.slice a len cap] w (Refused w 2) := by
  simp only [rpLen, decide_eq_false_iff_not] at h
  have B0 := Lib.hid ((Below.refl w.heap.size w).alloc (Nat.le_refl _) (.cells #[.int .i64 0, .int .i64 0, .int .i64 0, .int .i64 0, .slice none 0 0] 25))
  by_cases h1 : 20 ≤ len
  · have h2 : ¬ len ≤ 600 := fun h2 => h ⟨h1, h2⟩
    have e1 : decide ((len : Int) < 20) = false := decide_eq_false (by omega)
    have e2 : decide ((600 : Int) < len) = true := decide_eq_true (by omega)
    clear h h1 h2
    go_enter Try.func67, Try.ntmps67
    go_wp2_with fail
    refine (refuse_yes _ _).mono ?_
    rintro e w' ⟨rfl, rfl⟩
    go_wp2
    exact ⟨rfl, rfl, B0.out⟩
  · have e1 : decide ((len : Int) < 20) = true := decide_eq_true (by omega)
    clear h h1
    go_enter Try.func67, Try.ntmps67
    go_wp2_with fail
    refine (refuse_yes _ _).mono ?_
    rintro e w' ⟨rfl, rfl⟩
    go_wp2
    exact ⟨rfl, rfl, B0.out⟩

set_option maxRecDepth 20000 in
set_option maxHeartbeats 2000000 in
theorem packetIn_form0 (a : Option Addr) (len cap : Nat) (zs : List Int) (w : World) (hr : Rd w a len cap zs) (h1 : 20 ≤ len) (h2 : len ≤ 600) (b0 n ct : Int) (q0 : zs.getD 0 0 = b0) (qn : rdTo zs 2 2 = n) (qc : rdTo zs 6 2 = ct) (hf : (b0 != 69) = true) : Calls Try.prog 67 #[.slice a len cap] w (Refused w 1) := by
  have hle := hr.le
  have hmx := hr.max
  rcases hr.cells with h0 | ⟨ba, off, rfl, hc⟩
  · omega
  have d1 : decide ((len : Int) < 20) = false := decide_eq_false (by omega)
  have d2 : decide ((600 : Int) < len) = false := decide_eq_false (by omega)
  have i0 : (0 : Int) < len := by omega
  have i0n : 0 < len := by omega
  have i8 : (8 : Int) < len := by omega
  have i9 : (9 : Int) < len := by omega
  have i20 : (20 : Int) ≤ cap := by omega
  have i20l : (20 : Int) ≤ len := by omega
  have i20n : 20 ≤ cap := by omega
  have hfi := fld_ir
  have HR := Lib.hid (fun W (hW : Below w.heap.size w W) => hr.below hW)
  have K1 := Lib.hid (fun W (hW : Below w.heap.size w W) => readWord_lit _ len cap 2 2 2 2 n zs W (hr.below hW) rfl rfl (by omega) (by omega) (by omega) qn)
  have KL := Lib.hid (fun W => packetLength_any n (some ⟨ba, off, none⟩) len cap W)
  have KC := Lib.hid (fun W (hW : Below w.heap.size w W) => isCut_any _ len cap zs ct W (hr.below hW) (by omega) qc)
  have CC := Lib.hid (fun W (hW : Below w.heap.size w W) (i : Nat) (hi : i < len) => (hW.cell (World.block_lt_of_cell? _ _ (hc i hi))).trans (hc i hi))
  have B0 := Lib.hid ((Below.refl w.heap.size w).alloc (Nat.le_refl _) (.cells #[.int .i64 0, .int .i64 0, .int .i64 0, .int .i64 0, .slice none 0 0] 25))
  have X0 := Lib.hid (Box.new w 25 #[.int .i64 0, .int .i64 0, .int .i64 0, .int .i64 0, .slice none 0 0])
  have Q0 := Lib.hid q0
  clear hr hc q0 qn qc
  go_enter Try.func67, Try.ntmps67
  go_wp2_with fail
  refine (refuse_no _ _).mono ?_
  rintro e w' ⟨rfl, rfl⟩
  go_wp2_with fail
  refine (K1.out _ B0.out).mono ?_
  rintro e w1 ⟨rfl, b1⟩
  have B1 := Lib.hid (B0.out.trans (b1.mono B0.out.size))
  have X1 := Lib.hid (X0.out.below b1 X0.out.lt)
  clear b1 X0 B0
  have c0 := CC.out _ B1.out 0 i0n
  rw [Q0.out] at c0
  simp only [Nat.add_zero] at c0
  go_wp2_with fail
  refine (refuse_yes _ _).mono ?_
  rintro e w' ⟨rfl, rfl⟩
  go_wp2
  exact ⟨rfl, rfl, B1.out⟩

set_option maxRecDepth 20000 in
set_option maxHeartbeats 2000000 in
theorem packetIn_form1 (a : Option Addr) (len cap : Nat) (zs : List Int) (w : World) (hr : Rd w a len cap zs) (h1 : 20 ≤ len) (h2 : len ≤ 600) (b0 n ct : Int) (q0 : zs.getD 0 0 = b0) (qn : rdTo zs 2 2 = n) (qc : rdTo zs 6 2 = ct) (f0 : (b0 != 69) = false) (f1 : plB n len = false) : Calls Try.prog 67 #[.slice a len cap] w (Refused w 1) := by
  have hle := hr.le
  have hmx := hr.max
  rcases hr.cells with h0 | ⟨ba, off, rfl, hc⟩
  · omega
  have d1 : decide ((len : Int) < 20) = false := decide_eq_false (by omega)
  have d2 : decide ((600 : Int) < len) = false := decide_eq_false (by omega)
  have i0 : (0 : Int) < len := by omega
  have i0n : 0 < len := by omega
  have i8 : (8 : Int) < len := by omega
  have i9 : (9 : Int) < len := by omega
  have i20 : (20 : Int) ≤ cap := by omega
  have i20l : (20 : Int) ≤ len := by omega
  have i20n : 20 ≤ cap := by omega
  have hfi := fld_ir
  have HR := Lib.hid (fun W (hW : Below w.heap.size w W) => hr.below hW)
  have K1 := Lib.hid (fun W (hW : Below w.heap.size w W) => readWord_lit _ len cap 2 2 2 2 n zs W (hr.below hW) rfl rfl (by omega) (by omega) (by omega) qn)
  have KL := Lib.hid (fun W => packetLength_any n (some ⟨ba, off, none⟩) len cap W)
  have KC := Lib.hid (fun W (hW : Below w.heap.size w W) => isCut_any _ len cap zs ct W (hr.below hW) (by omega) qc)
  have CC := Lib.hid (fun W (hW : Below w.heap.size w W) (i : Nat) (hi : i < len) => (hW.cell (World.block_lt_of_cell? _ _ (hc i hi))).trans (hc i hi))
  have B0 := Lib.hid ((Below.refl w.heap.size w).alloc (Nat.le_refl _) (.cells #[.int .i64 0, .int .i64 0, .int .i64 0, .int .i64 0, .slice none 0 0] 25))
  have X0 := Lib.hid (Box.new w 25 #[.int .i64 0, .int .i64 0, .int .i64 0, .int .i64 0, .slice none 0 0])
  have Q0 := Lib.hid q0
  rw [f1] at KL
  clear hr hc q0 qn qc
  go_enter Try.func67, Try.ntmps67
  go_wp2_with fail
  refine (refuse_no _ _).mono ?_
  rintro e w' ⟨rfl, rfl⟩
  go_wp2_with fail
  refine (K1.out _ B0.out).mono ?_
  rintro e w1 ⟨rfl, b1⟩
  have B1 := Lib.hid (B0.out.trans (b1.mono B0.out.size))
  have X1 := Lib.hid (X0.out.below b1 X0.out.lt)
  clear b1 X0 B0
  have c0 := CC.out _ B1.out 0 i0n
  rw [Q0.out] at c0
  simp only [Nat.add_zero] at c0
  go_wp2_with fail
  refine (KL.out _).mono ?_
  rintro e w' ⟨rfl, rfl⟩
  go_wp2_with fail
  refine (refuse_yes _ _).mono ?_
  rintro e w' ⟨rfl, rfl⟩
  go_wp2
  exact ⟨rfl, rfl, B1.out⟩

set_option maxRecDepth 20000 in
set_option maxHeartbeats 2000000 in
theorem packetIn_form2 (a : Option Addr) (len cap : Nat) (zs : List Int) (w : World) (hr : Rd w a len cap zs) (h1 : 20 ≤ len) (h2 : len ≤ 600) (b0 n ct : Int) (q0 : zs.getD 0 0 = b0) (qn : rdTo zs 2 2 = n) (qc : rdTo zs 6 2 = ct) (f0 : (b0 != 69) = false) (f1 : plB n len = true) (f2 : cutB ct = true) : Calls Try.prog 67 #[.slice a len cap] w (Refused w 1) := by
  have hle := hr.le
  have hmx := hr.max
  rcases hr.cells with h0 | ⟨ba, off, rfl, hc⟩
  · omega
  have d1 : decide ((len : Int) < 20) = false := decide_eq_false (by omega)
  have d2 : decide ((600 : Int) < len) = false := decide_eq_false (by omega)
  have i0 : (0 : Int) < len := by omega
  have i0n : 0 < len := by omega
  have i8 : (8 : Int) < len := by omega
  have i9 : (9 : Int) < len := by omega
  have i20 : (20 : Int) ≤ cap := by omega
  have i20l : (20 : Int) ≤ len := by omega
  have i20n : 20 ≤ cap := by omega
  have hfi := fld_ir
  have HR := Lib.hid (fun W (hW : Below w.heap.size w W) => hr.below hW)
  have K1 := Lib.hid (fun W (hW : Below w.heap.size w W) => readWord_lit _ len cap 2 2 2 2 n zs W (hr.below hW) rfl rfl (by omega) (by omega) (by omega) qn)
  have KL := Lib.hid (fun W => packetLength_any n (some ⟨ba, off, none⟩) len cap W)
  have KC := Lib.hid (fun W (hW : Below w.heap.size w W) => isCut_any _ len cap zs ct W (hr.below hW) (by omega) qc)
  have CC := Lib.hid (fun W (hW : Below w.heap.size w W) (i : Nat) (hi : i < len) => (hW.cell (World.block_lt_of_cell? _ _ (hc i hi))).trans (hc i hi))
  have B0 := Lib.hid ((Below.refl w.heap.size w).alloc (Nat.le_refl _) (.cells #[.int .i64 0, .int .i64 0, .int .i64 0, .int .i64 0, .slice none 0 0] 25))
  have X0 := Lib.hid (Box.new w 25 #[.int .i64 0, .int .i64 0, .int .i64 0, .int .i64 0, .slice none 0 0])
  have Q0 := Lib.hid q0
  rw [f1] at KL
  rw [f2] at KC
  clear hr hc q0 qn qc
  go_enter Try.func67, Try.ntmps67
  go_wp2_with fail
  refine (refuse_no _ _).mono ?_
  rintro e w' ⟨rfl, rfl⟩
  go_wp2_with fail
  refine (K1.out _ B0.out).mono ?_
  rintro e w1 ⟨rfl, b1⟩
  have B1 := Lib.hid (B0.out.trans (b1.mono B0.out.size))
  have X1 := Lib.hid (X0.out.below b1 X0.out.lt)
  clear b1 X0 B0
  have c0 := CC.out _ B1.out 0 i0n
  rw [Q0.out] at c0
  simp only [Nat.add_zero] at c0
  go_wp2_with fail
  refine (KL.out _).mono ?_
  rintro e w' ⟨rfl, rfl⟩
  go_wp2_with fail
  refine (KC.out _ B1.out).mono ?_
  rintro e w2 ⟨rfl, b2⟩
  have B2 := Lib.hid (B1.out.trans (b2.mono B1.out.size))
  have X2 := Lib.hid (X1.out.below b2 X1.out.lt)
  clear b2 X1 B1 c0
  go_wp2_with fail
  refine (refuse_yes _ _).mono ?_
  rintro e w' ⟨rfl, rfl⟩
  go_wp2
  exact ⟨rfl, rfl, B2.out⟩

set_option maxRecDepth 20000 in
set_option maxHeartbeats 2000000 in
theorem packetIn_sum (a : Option Addr) (len cap : Nat) (zs : List Int) (w : World) (hr : Rd w a len cap zs) (h1 : 20 ≤ len) (h2 : len ≤ 600) (b0 n ct : Int) (q0 : zs.getD 0 0 = b0) (qn : rdTo zs 2 2 = n) (qc : rdTo zs 6 2 = ct) (f0 : (b0 != 69) = false) (f1 : plB n len = true) (f2 : cutB ct = false) (hs : decide (sumV (zs.take 20) = 0) = false) : Calls Try.prog 67 #[.slice a len cap] w (Refused w 6) := by
  have hle := hr.le
  have hmx := hr.max
  rcases hr.cells with h0 | ⟨ba, off, rfl, hc⟩
  · omega
  have d1 : decide ((len : Int) < 20) = false := decide_eq_false (by omega)
  have d2 : decide ((600 : Int) < len) = false := decide_eq_false (by omega)
  have i0 : (0 : Int) < len := by omega
  have i0n : 0 < len := by omega
  have i8 : (8 : Int) < len := by omega
  have i9 : (9 : Int) < len := by omega
  have i20 : (20 : Int) ≤ cap := by omega
  have i20l : (20 : Int) ≤ len := by omega
  have i20n : 20 ≤ cap := by omega
  have hfi := fld_ir
  have HR := Lib.hid (fun W (hW : Below w.heap.size w W) => hr.below hW)
  have K1 := Lib.hid (fun W (hW : Below w.heap.size w W) => readWord_lit _ len cap 2 2 2 2 n zs W (hr.below hW) rfl rfl (by omega) (by omega) (by omega) qn)
  have KL := Lib.hid (fun W => packetLength_any n (some ⟨ba, off, none⟩) len cap W)
  have KC := Lib.hid (fun W (hW : Below w.heap.size w W) => isCut_any _ len cap zs ct W (hr.below hW) (by omega) qc)
  have CC := Lib.hid (fun W (hW : Below w.heap.size w W) (i : Nat) (hi : i < len) => (hW.cell (World.block_lt_of_cell? _ _ (hc i hi))).trans (hc i hi))
  have B0 := Lib.hid ((Below.refl w.heap.size w).alloc (Nat.le_refl _) (.cells #[.int .i64 0, .int .i64 0, .int .i64 0, .int .i64 0, .slice none 0 0] 25))
  have X0 := Lib.hid (Box.new w 25 #[.int .i64 0, .int .i64 0, .int .i64 0, .int .i64 0, .slice none 0 0])
  have Q0 := Lib.hid q0
  rw [f1] at KL
  rw [f2] at KC
  have KS := Lib.hid (fun W (hW : Below w.heap.size w W) => isSummed_is _ 20 cap (zs.take 20) false W ((hr.below hW).upto 20 (by omega)) (by omega) hs)
  clear hr hc q0 qn qc
  clear hs
  go_enter Try.func67, Try.ntmps67
  go_wp2_with fail
  refine (refuse_no _ _).mono ?_
  rintro e w' ⟨rfl, rfl⟩
  go_wp2_with fail
  refine (K1.out _ B0.out).mono ?_
  rintro e w1 ⟨rfl, b1⟩
  have B1 := Lib.hid (B0.out.trans (b1.mono B0.out.size))
  have X1 := Lib.hid (X0.out.below b1 X0.out.lt)
  clear b1 X0 B0
  have c0 := CC.out _ B1.out 0 i0n
  rw [Q0.out] at c0
  simp only [Nat.add_zero] at c0
  go_wp2_with fail
  refine (KL.out _).mono ?_
  rintro e w' ⟨rfl, rfl⟩
  go_wp2_with fail
  refine (KC.out _ B1.out).mono ?_
  rintro e w2 ⟨rfl, b2⟩
  have B2 := Lib.hid (B1.out.trans (b2.mono B1.out.size))
  have X2 := Lib.hid (X1.out.below b2 X1.out.lt)
  clear b2 X1 B1 c0
  go_wp2_with fail
  refine (refuse_no _ _).mono ?_
  rintro e w' ⟨rfl, rfl⟩
  go_wp2_with fail
  refine (KS.out _ B2.out).mono ?_
  rintro e w3 ⟨rfl, b3⟩
  have B3 := Lib.hid (B2.out.trans (b3.mono B2.out.size))
  have X3 := Lib.hid (X2.out.below b3 X2.out.lt)
  clear b3 X2 B2
  go_wp2_with fail
  refine (refuse_yes _ _).mono ?_
  rintro e w' ⟨rfl, rfl⟩
  go_wp2
  exact ⟨rfl, rfl, B3.out⟩

set_option maxRecDepth 20000 in
set_option maxHeartbeats 2000000 in
theorem packetIn_ttl (a : Option Addr) (len cap : Nat) (zs : List Int) (w : World) (hr : Rd w a len cap zs) (h1 : 20 ≤ len) (h2 : len ≤ 600) (b0 n ct : Int) (q0 : zs.getD 0 0 = b0) (qn : rdTo zs 2 2 = n) (qc : rdTo zs 6 2 = ct) (f0 : (b0 != 69) = false) (f1 : plB n len = true) (f2 : cutB ct = false) (hs : decide (sumV (zs.take 20) = 0) = true) (ht : zs.getD 8 0 = 0) : Calls Try.prog 67 #[.slice a len cap] w (Refused w 3) := by
  have hle := hr.le
  have hmx := hr.max
  rcases hr.cells with h0 | ⟨ba, off, rfl, hc⟩
  · omega
  have d1 : decide ((len : Int) < 20) = false := decide_eq_false (by omega)
  have d2 : decide ((600 : Int) < len) = false := decide_eq_false (by omega)
  have i0 : (0 : Int) < len := by omega
  have i0n : 0 < len := by omega
  have i8 : (8 : Int) < len := by omega
  have i9 : (9 : Int) < len := by omega
  have i20 : (20 : Int) ≤ cap := by omega
  have i20l : (20 : Int) ≤ len := by omega
  have i20n : 20 ≤ cap := by omega
  have hfi := fld_ir
  have HR := Lib.hid (fun W (hW : Below w.heap.size w W) => hr.below hW)
  have K1 := Lib.hid (fun W (hW : Below w.heap.size w W) => readWord_lit _ len cap 2 2 2 2 n zs W (hr.below hW) rfl rfl (by omega) (by omega) (by omega) qn)
  have KL := Lib.hid (fun W => packetLength_any n (some ⟨ba, off, none⟩) len cap W)
  have KC := Lib.hid (fun W (hW : Below w.heap.size w W) => isCut_any _ len cap zs ct W (hr.below hW) (by omega) qc)
  have CC := Lib.hid (fun W (hW : Below w.heap.size w W) (i : Nat) (hi : i < len) => (hW.cell (World.block_lt_of_cell? _ _ (hc i hi))).trans (hc i hi))
  have B0 := Lib.hid ((Below.refl w.heap.size w).alloc (Nat.le_refl _) (.cells #[.int .i64 0, .int .i64 0, .int .i64 0, .int .i64 0, .slice none 0 0] 25))
  have X0 := Lib.hid (Box.new w 25 #[.int .i64 0, .int .i64 0, .int .i64 0, .int .i64 0, .slice none 0 0])
  have Q0 := Lib.hid q0
  rw [f1] at KL
  rw [f2] at KC
  have KS := Lib.hid (fun W (hW : Below w.heap.size w W) => isSummed_is _ 20 cap (zs.take 20) true W ((hr.below hW).upto 20 (by omega)) (by omega) hs)
  clear hr hc q0 qn qc
  have HT := Lib.hid ht
  clear hs ht
  go_enter Try.func67, Try.ntmps67
  go_wp2_with fail
  refine (refuse_no _ _).mono ?_
  rintro e w' ⟨rfl, rfl⟩
  go_wp2_with fail
  refine (K1.out _ B0.out).mono ?_
  rintro e w1 ⟨rfl, b1⟩
  have B1 := Lib.hid (B0.out.trans (b1.mono B0.out.size))
  have X1 := Lib.hid (X0.out.below b1 X0.out.lt)
  clear b1 X0 B0
  have c0 := CC.out _ B1.out 0 i0n
  rw [Q0.out] at c0
  simp only [Nat.add_zero] at c0
  go_wp2_with fail
  refine (KL.out _).mono ?_
  rintro e w' ⟨rfl, rfl⟩
  go_wp2_with fail
  refine (KC.out _ B1.out).mono ?_
  rintro e w2 ⟨rfl, b2⟩
  have B2 := Lib.hid (B1.out.trans (b2.mono B1.out.size))
  have X2 := Lib.hid (X1.out.below b2 X1.out.lt)
  clear b2 X1 B1 c0
  go_wp2_with fail
  refine (refuse_no _ _).mono ?_
  rintro e w' ⟨rfl, rfl⟩
  go_wp2_with fail
  refine (KS.out _ B2.out).mono ?_
  rintro e w3 ⟨rfl, b3⟩
  have B3 := Lib.hid (B2.out.trans (b3.mono B2.out.size))
  have X3 := Lib.hid (X2.out.below b3 X2.out.lt)
  clear b3 X2 B2
  go_wp2_with fail
  refine (refuse_no _ _).mono ?_
  rintro e w' ⟨rfl, rfl⟩
  have c8 := CC.out _ B3.out 8 (by omega)
  rw [HT.out] at c8
  go_wp2_with fail
  refine (refuse_yes _ _).mono ?_
  rintro e w' ⟨rfl, rfl⟩
  go_wp2
  exact ⟨rfl, rfl, B3.out⟩
end Go.Proofs.Ytgjkbaplfbiomaa

namespace Go.Proofs.Ytgjkbaplfbiomaa
open Go.ChangeShapes Go.WideShapes Go.ChangeAt Go.RowKit

section
variable {P : Program} {ops : Array Oper} {Q : Exit → Act → World → Prop} {md : Region.Mode} {S : World → Prop}

/-- every operation waits for earlier ones alone -/
def inOrder (ops : Array Oper) : Bool := (List.range ops.size).all fun i => match ops[i]? with
  | some o => o.after.all fun e => decide (e.on < i)
  | none => true

theorem all_listed (ho : inOrder ops = true) {listed : Array Bool} (hz : listed.size = ops.size) (hr : Region.ready md ops listed = []) : ∀ i, i < ops.size → listed.getD i false = true := by
  intro i
  induction i using Nat.strongRecOn with
  | ind i ih =>
    intro hi
    cases hl : listed.getD i false with
    | true => rfl
    | false =>
      exfalso
      have ho' := List.all_eq_true.1 ho i (List.mem_range.2 hi)
      rw [Array.getElem?_eq_getElem hi] at ho'
      have hm : i ∈ Region.ready md ops listed := by
        refine mem_ready.2 ⟨?_, ops[i], Array.getElem?_eq_getElem hi, fun e he _ => ?_⟩
        · rw [Array.getD_eq_getD_getElem?, Array.getElem?_eq_getElem (by omega)] at hl ⊢
          simpa using hl
        · have := Array.all_eq_true_iff_forall_mem.1 ho' e he
          have hlt := of_decide_eq_true this
          exact ih e.on hlt (by omega)
      rw [hr] at hm
      cases hm

theorem count_down {listed : Array Bool} {i : Nat} (h : listed.getD i true = false) : (listed.setIfInBounds i true).toList.count false + 1 = listed.toList.count false := by
  rw [Array.getD_eq_getD_getElem?] at h
  rcases Nat.lt_or_ge i listed.size with hi | hi
  · rw [Array.getElem?_eq_getElem hi] at h
    simp only [Option.getD_some] at h
    rw [Array.toList_setIfInBounds, List.count_set (by simpa using hi)]
    have e : listed.toList[i]'(by simpa using hi) = false := by simpa using h
    have hp : 0 < listed.toList.count false := List.count_pos_iff.2 (by rw [← e]; exact List.getElem_mem _)
    simp only [e, beq_self_eq_true, if_true]
    have : ((true : Bool) == false) = false := rfl
    simp only [this, Bool.false_eq_true, if_false]
    omega
  · rw [Array.getElem?_eq_none hi] at h
    cases h

theorem getD_unlisted {listed : Array Bool} {i : Nat} (h : listed.getD i true = false) : listed.getD i false = false := by
  rw [Array.getD_eq_getD_getElem?] at h ⊢
  cases hx : listed[i]? with
  | none => rfl
  | some b => rw [hx] at h; simpa using h
/-- what is asked of the operation number i: from what holds when it comes up, what holds behind it -/
def FlowAt (P : Program) (md : Region.Mode) (ops : Array Oper) (Q : Exit → Act → World → Prop) (S : World → Prop) (Inv : Array Bool → Act → World → Prop) (i : Nat) : Prop :=
  ∀ o, ops[i]? = some o → ∀ listed a w, Inv listed a w → listed.getD i true = false → (∀ e ∈ o.after, Region.binds md e = true → listed.getD e.on false = true) →
    ∀ K' : Act → World → Prop, Shut (∀ a w, S w → Inv (listed.setIfInBounds i true) a w → K' a w) → if Region.wanted o (yielded ops a.tmps) = true then Oper.wp P o a w K' Q else K' (a.put o.dst undef) w
def FlowAll (P : Program) (md : Region.Mode) (ops : Array Oper) (Q : Exit → Act → World → Prop) (S : World → Prop) (Inv : Array Bool → Act → World → Prop) (l : List Nat) : Prop := ∀ i ∈ l, FlowAt P md ops Q S Inv i
theorem FlowAll.nil {Inv : Array Bool → Act → World → Prop} : FlowAll P md ops Q S Inv [] := fun _ h => by cases h
theorem FlowAll.cons {Inv : Array Bool → Act → World → Prop} {i : Nat} {l : List Nat} {o : Oper} (D : List Nat) (ho : ops[i]? = some o) (hD : (D.all fun d => o.after.any fun e => Region.binds md e && e.on == d) = true)
    (h : ∀ listed a w, Inv listed a w → listed.getD i true = false → (∀ d ∈ D, listed.getD d false = true) → ∀ K' : Act → World → Prop, Shut (∀ a w, S w → Inv (listed.setIfInBounds i true) a w → K' a w) → if Region.wanted o (yielded ops a.tmps) = true then Oper.wp P o a w K' Q else K' (a.put o.dst undef) w)
    (hs : FlowAll P md ops Q S Inv l) : FlowAll P md ops Q S Inv (i :: l) := by
  intro j hj
  rcases List.mem_cons.1 hj with rfl | hj
  · intro o' ho' listed a w hI hu hd K' hK
    rw [ho] at ho'
    obtain rfl := Option.some.inj ho'
    refine h listed a w hI hu (fun d hdD => ?_) K' hK
    have h1 := List.all_eq_true.1 hD d hdD
    obtain ⟨k, hk, h2⟩ := Array.any_eq_true.1 h1
    obtain ⟨e, hee⟩ : ∃ e, e = o.after[k] := ⟨_, rfl⟩
    have he : e ∈ o.after := by rw [hee]; exact Array.getElem_mem _
    rw [← hee] at h2
    simp only [Bool.and_eq_true, beq_iff_eq] at h2
    have := hd e he h2.1
    rwa [h2.2] at this
  · exact hs j hj

theorem wpAnyH_flow {Inv : Array Bool → Act → World → Prop} (todo : List Nat) (hord : inOrder ops = true) (steps : FlowAll P md ops Q S Inv todo)
    (done : ∀ listed a w, Inv listed a w → (∀ i, i < ops.size → listed.getD i false = true) → Q .normal a w) :
    ∀ (fuel : Nat) (listed : Array Bool) (a : Act) (w : World), listed.size = ops.size → listed.toList.count false ≤ fuel → (∀ i, i < ops.size → listed.getD i false = true ∨ i ∈ todo) → Inv listed a w → wpAnyH P md ops Q S fuel listed a w := by
  intro fuel
  induction fuel with
  | zero =>
    intro listed a w hz hc ht hI
    have hr : Region.ready md ops listed = [] := by
      rw [List.eq_nil_iff_forall_not_mem]
      intro i hi
      have := count_down (mem_ready.1 hi).1
      omega
    exact ⟨hr, done listed a w hI (all_listed hord hz hr)⟩
  | succ fuel ih =>
    intro listed a w hz hc ht hI
    refine ⟨fun hr => done listed a w hI (all_listed hord hz hr), fun i hi => ?_⟩
    obtain ⟨hun, o, ho, hall⟩ := mem_ready.1 hi
    have hin : i ∈ todo := by
      rcases ht i (Array.getElem?_eq_some_iff.1 ho).1 with h | h
      · rw [Array.getD_eq_getD_getElem?] at h hun
        cases hx : listed[i]? with
        | none => rw [hx] at h; cases h
        | some b => rw [hx] at h hun; simp at h hun; rw [h] at hun; cases hun
      · exact h
    refine wpOp_step ho (fun K' hK => steps i hin o ho listed a w hI hun hall K' (fun a' w' hS hI' => hK a' w' ⟨hS, ih _ _ _ (by simpa using hz) ?_ (fun j hj => ?_) hI'⟩))
    · have := count_down hun
      omega
    · rcases ht j hj with h | h
      · exact .inl (getD_set_true h)
      · exact .inr h
theorem flow_go {Inv : Array Bool → Act → World → Prop} (todo : List Nat) (hord : inOrder ops = true) {fuel : Nat} {listed : Array Bool} {a : Act} {w : World}
    (hz : (decide (listed.size = ops.size) && decide (listed.toList.count false ≤ fuel) && (List.range ops.size).all fun i => listed.getD i false || todo.contains i) = true)
    (hI : Inv listed a w) (steps : FlowAll P md ops Q S Inv todo)
    (done : ∀ listed a w, Inv listed a w → (∀ i, i < ops.size → listed.getD i false = true) → Q .normal a w) : wpAnyH P md ops Q S fuel listed a w := by
  simp only [Bool.and_eq_true, decide_eq_true_eq, List.all_eq_true, List.mem_range, Bool.or_eq_true, List.contains_iff_mem] at hz
  exact wpAnyH_flow todo hord steps done fuel listed a w hz.1.1 hz.1.2 hz.2 hI
end

/-- it holds once the operation has come up -/
def Fl (listed : Array Bool) (j : Nat) (p : Prop) : Prop := listed.getD j false = true → p
theorem Fl.get {listed : Array Bool} {j : Nat} {p : Prop} (h : Fl listed j p) (hl : listed.getD j false = true) : p := h hl
theorem Fl.new {listed : Array Bool} {j : Nat} {p : Prop} (h : p) : Fl listed j p := fun _ => h
theorem Fl.keep {listed : Array Bool} {i j : Nat} {p q : Prop} (hij : i ≠ j) (hpq : p → q) (h : Fl listed j p) : Fl (listed.setIfInBounds i true) j q := fun hl => hpq (h (by rwa [getD_set_ne false hij] at hl))
/-- it holds till the operation comes up -/
def NFl (listed : Array Bool) (j : Nat) (p : Prop) : Prop := listed.getD j false = false → p
theorem NFl.get {listed : Array Bool} {j : Nat} {p : Prop} (h : NFl listed j p) (hl : listed.getD j true = false) : p := h (getD_unlisted hl)
theorem NFl.new {listed : Array Bool} {j : Nat} {p : Prop} (h : p) : NFl listed j p := fun _ => h
theorem NFl.keep {listed : Array Bool} {i j : Nat} {p q : Prop} (hij : i ≠ j) (hpq : p → q) (h : NFl listed j p) : NFl (listed.setIfInBounds i true) j q := fun hl => hpq (h (by rwa [getD_set_ne false hij] at hl))
theorem NFl.past {listed : Array Bool} {j : Nat} {p : Prop} (hu : listed.getD j true = false) : NFl (listed.setIfInBounds j true) j p := fun hl => by
  have hj : j < listed.size := by
    rw [Array.getD_eq_getD_getElem?] at hu
    cases hx : listed[j]? with
    | none => rw [hx] at hu; cases hu
    | some b => exact (Array.getElem?_eq_some_iff.1 hx).1
  rw [Array.getD_eq_getD_getElem?, Array.getElem?_setIfInBounds_self_of_lt hj] at hl
  cases hl
theorem Fl.not {listed : Array Bool} {j : Nat} {p : Prop} (h : listed.getD j false = false) : Fl listed j p := fun hl => by rw [h] at hl; cases hl

/-- a slice of L bytes zs in an array of its own -/
def SlV (W : World) (n0 : Nat) (v : Value) (L : Nat) (zs : List Int) : Prop := ∃ a c, v = .slice a L c ∧ Own W n0 a L c zs
/-- such a one, without a code -/
def BrV (W : World) (n0 : Nat) (v : Value) (L : Nat) (zs : List Int) : Prop := ∃ a c, v = .agg #[.int .i64 0, .slice a L c] ∧ Own W n0 a L c zs
theorem SlV.below {W W' : World} {n0 L : Nat} {v : Value} {zs : List Int} (hb : Below W.heap.size W W') (h : SlV W n0 v L zs) : SlV W' n0 v L zs := by
  obtain ⟨a, c, e, o⟩ := h
  exact ⟨a, c, e, o.below hb⟩
theorem BrV.below {W W' : World} {n0 L : Nat} {v : Value} {zs : List Int} (hb : Below W.heap.size W W') (h : BrV W n0 v L zs) : BrV W' n0 v L zs := by
  obtain ⟨a, c, e, o⟩ := h
  exact ⟨a, c, e, o.below hb⟩
theorem BrV.of_packed {W W' : World} {n0 L : Nat} {zs : List Int} {e : Ending} (h : Packed W 0 zs e W') (hL : zs.length = L) (hn : n0 ≤ W.heap.size) : ∃ v, e = .returned v ∧ BrV W' n0 v L zs ∧ Below W.heap.size W W' := by
  obtain ⟨a, l, c, rfl, o, b⟩ := h
  obtain rfl : l = L := o.length.symm.trans hL
  exact ⟨_, rfl, ⟨a, c, rfl, o.rebase hn⟩, b⟩
/-- slices of bytes, one behind the other, in one array: n of them, zs in all -/
def CatV (W : World) (v : Value) (n : Nat) (zs : List Int) : Prop := ∃ g ss, v = .slice (some ⟨g, 0, none⟩) n n ∧ ss.length = n ∧ Sls W g ss ∧ catZ ss = zs ∧ sumN ss ≤ 1048576
theorem Sls.below {W W' : World} {g : Nat} {ss : List Sl} (hb : Below W.heap.size W W') (h : Sls W g ss) : Sls W' g ss := fun i s hs => ⟨keepB' hb (h i s hs).1, (h i s hs).2.below hb⟩
theorem CatV.below {W W' : World} {n : Nat} {v : Value} {zs : List Int} (hb : Below W.heap.size W W') (h : CatV W v n zs) : CatV W' v n zs := by
  obtain ⟨g, ss, e, l, s, z, m⟩ := h
  exact ⟨g, ss, e, l, s.below hb, z, m⟩
theorem sls_box {W : World} {g : Nat} {t : TypeId} {ss : List Sl} (hx : Box W g t (ss.map fun s => Value.slice s.a s.len s.cap).toArray) (h : ∀ s ∈ ss, Rd W s.a s.len s.cap s.zs) : Sls W g ss := by
  intro i s hs
  refine ⟨(hx.cell i).trans ?_, h s (List.mem_of_getElem? hs)⟩
  simp [hs]
theorem Own.keepOff {W W' : World} {n0 r L c : Nat} {a : Option Addr} {zs : List Int} (hg : W.grownBy W' (some r)) (hrn : r < n0) (o : Own W n0 a L c zs) : Own W' n0 a L c zs :=
  o.grown hg (fun x hx e => by have := (o.lt x hx).1; simp only [Option.some.injEq] at e; omega)
theorem SlV.grown {W W' : World} {n0 r L : Nat} {v : Value} {zs : List Int} (hg : W.grownBy W' (some r)) (hrn : r < n0) (h : SlV W n0 v L zs) : SlV W' n0 v L zs := by
  obtain ⟨a, c, e, o⟩ := h
  exact ⟨a, c, e, o.keepOff hg hrn⟩
theorem BrV.grown {W W' : World} {n0 r L : Nat} {v : Value} {zs : List Int} (hg : W.grownBy W' (some r)) (hrn : r < n0) (h : BrV W n0 v L zs) : BrV W' n0 v L zs := by
  obtain ⟨a, c, e, o⟩ := h
  exact ⟨a, c, e, o.keepOff hg hrn⟩
/-- a slice of bytes zs in an array of its own, of whatever length -/
def AnyV (W : World) (n0 : Nat) (v : Value) (zs : List Int) : Prop := ∃ a l c, v = .slice a l c ∧ Own W n0 a l c zs
theorem AnyV.below {W W' : World} {n0 : Nat} {v : Value} {zs : List Int} (hb : Below W.heap.size W W') (h : AnyV W n0 v zs) : AnyV W' n0 v zs := by
  obtain ⟨a, l, c, e, o⟩ := h
  exact ⟨a, l, c, e, o.below hb⟩
theorem AnyV.grown {W W' : World} {n0 r : Nat} {v : Value} {zs : List Int} (hg : W.grownBy W' (some r)) (hrn : r < n0) (h : AnyV W n0 v zs) : AnyV W' n0 v zs := by
  obtain ⟨a, l, c, e, o⟩ := h
  exact ⟨a, l, c, e, o.keepOff hg hrn⟩
/-- a struct of these cells, behind them a slice of L bytes zs in an array of its own -/
def AgV (W : World) (n0 : Nat) (v : Value) (cs : Array Value) (L : Nat) (zs : List Int) : Prop := ∃ a c, v = .agg (cs ++ #[.slice a L c]) ∧ Own W n0 a L c zs
theorem AgV.below {W W' : World} {n0 L : Nat} {v : Value} {cs : Array Value} {zs : List Int} (hb : Below W.heap.size W W') (h : AgV W n0 v cs L zs) : AgV W' n0 v cs L zs := by
  obtain ⟨a, c, e, o⟩ := h
  exact ⟨a, c, e, o.below hb⟩
theorem AgV.grown {W W' : World} {n0 r L : Nat} {v : Value} {cs : Array Value} {zs : List Int} (hg : W.grownBy W' (some r)) (hrn : r < n0) (h : AgV W n0 v cs L zs) : AgV W' n0 v cs L zs := by
  obtain ⟨a, c, e, o⟩ := h
  exact ⟨a, c, e, o.keepOff hg hrn⟩
/-- such a struct in the block r -/
def BxV (W : World) (n0 r : Nat) (t : TypeId) (cs : Array Value) (L : Nat) (zs : List Int) : Prop := ∃ a c, Box W r t (cs ++ #[.slice a L c]) ∧ Own W n0 a L c zs
theorem BxV.below {W W' : World} {n0 r L : Nat} {t : TypeId} {cs : Array Value} {zs : List Int} (hb : Below W.heap.size W W') (h : BxV W n0 r t cs L zs) : BxV W' n0 r t cs L zs := by
  obtain ⟨a, c, x, o⟩ := h
  exact ⟨a, c, x.below hb x.lt, o.below hb⟩
/-- it is this value -/
structure EqV (v x : Value) : Prop where
  eq : v = x
theorem EqV.rfl (x : Value) : EqV x x := ⟨Eq.refl x⟩
theorem keepE {W W' : World} {p : Prop} (_ : Below W.heap.size W W') (h : p) : p := h
theorem kGrownB {w0 W w' : World} {b : Nat} (hg : W.grownBy w' (some b)) (h : Hid (Below w0.heap.size w0 W)) (hb : w0.heap.size ≤ b) : Hid (Below w0.heap.size w0 w') := kGrown hg h hb
theorem bAlloc (W : World) (o : Obj) : Below W.heap.size W (W.alloc o) := (Below.refl _ _).alloc (Nat.le_refl _) o
theorem SlV.lit {W : World} {n0 : Nat} {zs : List Int} (hn : n0 ≤ W.heap.size) (L : Nat) (hL : zs.length = L) (h8 : B8 zs) (hm : L ≤ maxLen) (xs : Array Value) (hx : xs = (zs.map (Value.int .u8)).toArray) : SlV (W.alloc (.cells xs 5)) n0 (.slice (some ⟨W.heap.size, 0, none⟩) L L) L zs := by
  subst hx
  refine ⟨_, _, rfl, ?_, h8⟩
  have h := World.ownsRow_lit (e := 5) (size := 1) W (zs.map (Value.int .u8)).toArray L hn hm (by simp [hL])
  simpa using h
end Go.Proofs.Ytgjkbaplfbiomaa
