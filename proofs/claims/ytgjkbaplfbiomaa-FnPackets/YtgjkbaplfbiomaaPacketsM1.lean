/-
  The helpers of the laws over Packet, and the exact laws of its functions, where model and program answer the same.
  The helpers of the laws over Echo, and the exact laws of its functions, where model and program answer the same.
  What is no packet is a panic, recovered at the face: refuseIf, codeOf, the deferred closures, and the faces ReadPacket and ReadEcho over what lies behind them.
  The model's PacketFault, EchoFault and SamePackets.
  Contracts of the sum of sixteen bits in the model, and the function of numbers by which it answers.
  Contracts of SumOf of the program: its words come from an iterator that is ranged over; its sum folds in a closure.
  SumOf and IsSummed of the program answer as the model does.
  IsSummed of the program answers as the model does; the laws FnExactSumOf and FnExactIsSummed return true.
  Contracts of SealSum of the model: the sum of bytes is laid at its place.
-/
import Derived.Test.YtgjkbaplfbiomaaPacketsM0
import Derived.Defers
import Derived.Recover
import Derived.WalkLawsBesides
import Derived.RangeFuncNested
import Derived.RangeFuncBound
import Derived.RangeFuncCalls
import Derived.RangeFuncLeaves
import Derived.Shelf.Abstract
import Derived.Shelf.RegionOpen
import Derived.WalkKit
import Derived.OwnWalkIn
import Derived.TacticsInMore
import Derived.LoopNIn
import Derived.LoopIn
namespace Go.Proofs.Ytgjkbaplfbiomaa
open Go.ChangeShapes Go.WideShapes Go.ChangeAt Go.RowKit

theorem szPacket_t (kf kt kp kl : Int) (a : Option Addr) (len cap : Nat) (l : Int) (w : World) (h : (len : Int) ≤ l) (hl : l ≤ 1048576) :
    Calls Try.prog 31 #[.agg #[.int .i64 kf, .int .i64 kt, .int .i64 kp, .int .i64 kl, .slice a len cap], .int .i64 l] w fun e w' => e = .returned (.int .i64 (l - len)) ∧ Below w.heap.size w w' := by
  have K := Lib.hid (fun W => szByteS_t a len cap l W h hl)
  have e1 : decide (l - len < 0) = false := decide_eq_false (by omega)
  go_enter Try.func31, Try.ntmps31
  go_wp2_with fail
  refine (K.out _).mono ?_
  rintro e w1 ⟨rfl, rfl⟩
  go_wp2
  go_ret
  exact ⟨rfl, (Below.refl _ _).alloc (Nat.le_refl _) _⟩

theorem szPacket_f (kf kt kp kl : Int) (a : Option Addr) (len cap : Nat) (l : Int) (w : World) (h : ¬ (len : Int) ≤ l) (h0 : 0 ≤ l) (hl : l ≤ 1048576) (hm : len ≤ maxLen) :
    Calls Try.prog 31 #[.agg #[.int .i64 kf, .int .i64 kt, .int .i64 kp, .int .i64 kl, .slice a len cap], .int .i64 l] w fun e w' => e = .returned (.int .i64 (-1)) ∧ Below w.heap.size w w' := by
  have K := Lib.hid (fun W => szByteS_f a len cap l W h h0 hl hm)
  go_enter Try.func31, Try.ntmps31
  go_wp2_with fail
  refine (K.out _).mono ?_
  rintro e w1 ⟨rfl, rfl⟩
  go_wp2
  go_ret
  exact ⟨rfl, (Below.refl _ _).alloc (Nat.le_refl _) _⟩

/-- a frame of these numbers and bytes whose body is of this call's own -/
def PacketOut (w : World) (kf kt kp kl : Int) (zs : List Int) (e : Ending) (w' : World) : Prop :=
  ∃ a' l' c', e = .returned (.agg #[.int .i64 kf, .int .i64 kt, .int .i64 kp, .int .i64 kl, .slice a' l' c']) ∧ Own w' w.heap.size a' l' c' zs ∧ Below w.heap.size w w'

set_option maxHeartbeats 1000000 in
theorem toPacket_any (kf kt kp kl : Int) (a : Option Addr) (len cap : Nat) (zs : List Int) (w : World) (h : Rd w a len cap zs) (hl : len ≤ 1048576) :
    Calls Try.prog 33 #[.agg #[.int .i64 kf, .int .i64 kt, .int .i64 kp, .int .i64 kl, .slice a len cap]] w (PacketOut w kf kt kp kl zs) := by
  have T := Lib.hid (fun W (hW : Below w.heap.size w W) => toByteS_any a len cap zs W (h.below hW) hl)
  clear h
  have B0 := Lib.hid ((((Below.refl w.heap.size w).alloc (Nat.le_refl _) (.cells #[.int .i64 kf, .int .i64 kt, .int .i64 kp, .int .i64 kl, .slice a len cap] 49)).alloc (by simp) (.cells #[.int .i64 0, .int .i64 0, .int .i64 0, .int .i64 0, .slice none 0 0] 25)).alloc (by simp; omega) (.cells #[.int .i64 kf, .int .i64 kt, .int .i64 kp, .int .i64 kl, .slice none 0 0] 25))
  have R0 := Lib.hid ((Box.new (w.alloc (.cells #[.int .i64 kf, .int .i64 kt, .int .i64 kp, .int .i64 kl, .slice a len cap] 49)) 25 #[.int .i64 0, .int .i64 0, .int .i64 0, .int .i64 0, .slice none 0 0]).alloc (.cells #[.int .i64 kf, .int .i64 kt, .int .i64 kp, .int .i64 kl, .slice none 0 0] 25))
  have U0 := Lib.hid (Box.new ((w.alloc (.cells #[.int .i64 kf, .int .i64 kt, .int .i64 kp, .int .i64 kl, .slice a len cap] 49)).alloc (.cells #[.int .i64 0, .int .i64 0, .int .i64 0, .int .i64 0, .slice none 0 0] 25)) 25 #[.int .i64 kf, .int .i64 kt, .int .i64 kp, .int .i64 kl, .slice none 0 0])
  go_enter Try.func33, Try.ntmps33
  go_wp2_with fail
  refine (T.out _ B0.out).mono ?_
  rintro e w1 ⟨rfl, o1, b1⟩
  have R1 := R0.out.below b1 R0.out.lt
  have U1 := U0.out.below b1 U0.out.lt
  simp only [World.size_alloc] at R1 U1 o1
  have B1 := Lib.hid (B0.out.trans (b1.mono B0.out.size))
  obtain ⟨zr, r0, r1, r2, r3, r4⟩ := R1.five
  obtain ⟨zu, u0, u1, u2, u3, u4⟩ := U1.five
  have fr0 := R1.frozen 0
  have fr1 := R1.frozen 1
  have fr2 := R1.frozen 2
  have fr3 := R1.frozen 3
  have fr4 := R1.frozen 4
  have fu4 := U1.frozen 4
  have O1 := Lib.hid o1
  simp only [World.size_alloc]
  clear b1 o1 B0 R0 U0 R1 U1
  go_wp2
  refine bodyPost_ret (v := .agg #[.int .i64 kf, .int .i64 kt, .int .i64 kp, .int .i64 kl, .slice (some ⟨w.heap.size + 1 + 1 + 1, 0, none⟩) len len]) (by simp [results, Try.results33, go_sem, r0, r1, r2, r3, r4]) rfl ⟨_, _, _, rfl, ?_, (((((B1.out.setCell (by simp; omega) _).setCell (by simp) _).setCell (by simp) _).setCell (by simp) _).setCell (by simp) _).setCell (by simp) _⟩
  exact ((((((O1.out.setOther _ _ (by rintro x hx; cases hx; dsimp only; omega)).setOther _ _ (by rintro x hx; cases hx; dsimp only; omega)).setOther _ _ (by rintro x hx; cases hx; dsimp only; omega)).setOther _ _ (by rintro x hx; cases hx; dsimp only; omega)).setOther _ _ (by rintro x hx; cases hx; dsimp only; omega)).setOther _ _ (by rintro x hx; cases hx; dsimp only; omega)).rebase (by omega)

theorem eqPacket_t (kf kt kp kl : Int) (a b : Option Addr) (la ca lb cb : Nat) (zs : List Int) (w : World) (ha : Rd w a la ca zs) (hb : Rd w b lb cb zs) :
    Calls Try.prog 34 #[.agg #[.int .i64 kf, .int .i64 kt, .int .i64 kp, .int .i64 kl, .slice a la ca], .agg #[.int .i64 kf, .int .i64 kt, .int .i64 kp, .int .i64 kl, .slice b lb cb]] w fun e w' => e = .returned (.bool true) ∧ Below w.heap.size w w' := by
  have hq : eqL zs zs = true := decide_eq_true rfl
  have K := Lib.hid (fun W (hW : Below w.heap.size w W) => eqByteS_any a b la ca lb cb zs zs W (ha.below hW) (hb.below hW))
  rw [hq] at K
  go_enter Try.func34, Try.ntmps34
  go_wp2_with fail
  refine (K.out _ (((Below.refl _ _).alloc (Nat.le_refl _) _).alloc (by simp) _)).mono ?_
  rintro e w1 ⟨rfl, hb1⟩
  go_wp2
  go_ret
  exact ⟨rfl, (((Below.refl _ _).alloc (Nat.le_refl _) _).alloc (by simp) _).trans (hb1.mono (by simp; omega))⟩

set_option maxHeartbeats 1000000 in
theorem exactPacketFault (kf kt kp kl : Int) (a : Option Addr) (len cap : Nat) (zs : List Int) (w : World) (hr : Rd w a len cap zs)
    (c : Int) (hS : ∀ (a' : Option Addr) (l' c' : Nat) (W : World), Rd W a' l' c' zs → Calls Try.prog 32 #[.agg #[.int .i64 kf, .int .i64 kt, .int .i64 kp, .int .i64 kl, .slice a' l' c']] W fun e w' => e = .returned (.int .i64 c) ∧ Below W.heap.size W w')
    (h : ∀ (a' : Option Addr) (l' c' : Nat) (W : World), Rd W a' l' c' zs → Calls Try.prog 26 #[.agg #[.int .i64 kf, .int .i64 kt, .int .i64 kp, .int .i64 kl, .slice a' l' c']] W fun e w' => e = .returned (.int .i64 c) ∧ Below W.heap.size W w') :
    Calls Try.prog 4 #[.agg #[.int .i64 kf, .int .i64 kt, .int .i64 kp, .int .i64 kl, .slice a len cap]] w fun e w' => e = .returned (.bool true) ∧ Below w.heap.size w w' := by
  have hm : len ≤ maxLen := Nat.le_trans hr.le hr.max
  have B0 := Lib.hid ((Below.refl w.heap.size w).alloc (Nat.le_refl _) (.cells #[.int .i64 kf, .int .i64 kt, .int .i64 kp, .int .i64 kl, .slice a len cap] 49))
  have A0 := Lib.hid (Box.new w 49 #[.int .i64 kf, .int .i64 kt, .int .i64 kp, .int .i64 kl, .slice a len cap])
  by_cases hbig : (len : Int) ≤ 1048576
  · have K := Lib.hid h
    have S := Lib.hid hS
    have T := Lib.hid (fun W (hW : Below w.heap.size w W) => toPacket_any kf kt kp kl a len cap zs W (hr.below hW) (by omega))
    have Z := Lib.hid (fun W => szPacket_t kf kt kp kl a len cap 1048576 W hbig (by omega))
    have hn : decide ((1048576 : Int) - len < 0) = false := decide_eq_false (by omega)
    have hne : (c != c) = false := by simp
    clear h hS hr
    go_enter Try.func4, Try.ntmps4
    go_wp2_with fail
    refine (Z.out _).mono ?_
    rintro e w1 ⟨rfl, b1⟩
    have B1 := Lib.hid (B0.out.trans (b1.mono B0.out.size))
    have A1 := Lib.hid (A0.out.below b1 A0.out.lt)
    clear b1 B0 A0
    obtain ⟨zA, p0, p1, p2, p3, p4⟩ := A1.out.five
    go_wp2_with fail
    refine (T.out _ B1.out).mono ?_
    rintro e w2 ⟨a2, l2, c2, rfl, o2, b2⟩
    have B2 := Lib.hid (B1.out.trans (b2.mono B1.out.size))
    have A2 := Lib.hid (A1.out.below b2 A1.out.lt)
    clear b2 B1 A1 zA p0 p1 p2 p3 p4
    go_wp2_with fail
    refine (S.out _ _ _ _ o2.rd).mono ?_
    rintro e w3 ⟨rfl, b3⟩
    have B3 := Lib.hid (B2.out.trans (b3.mono B2.out.size))
    have A3 := Lib.hid (A2.out.below b3 A2.out.lt)
    clear b3 B2 A2 o2
    obtain ⟨zA, p0, p1, p2, p3, p4⟩ := A3.out.five
    go_wp2_with fail
    refine (T.out _ B3.out).mono ?_
    rintro e w4 ⟨a4, l4, c4, rfl, o4, b4⟩
    have B4 := Lib.hid ((B3.out.trans (b4.mono B3.out.size)).alloc (Nat.le_trans B3.out.size b4.size) (.cells #[.int .i64 kf, .int .i64 kt, .int .i64 kp, .int .i64 kl, .slice a4 l4 c4] 25))
    have A4 := Lib.hid ((A3.out.below b4 A3.out.lt).alloc (.cells #[.int .i64 kf, .int .i64 kt, .int .i64 kp, .int .i64 kl, .slice a4 l4 c4] 25))
    have X4 := Lib.hid (Box.new w4 25 #[.int .i64 kf, .int .i64 kt, .int .i64 kp, .int .i64 kl, .slice a4 l4 c4])
    have O4 := Lib.hid (o4.alloc (.cells #[.int .i64 kf, .int .i64 kt, .int .i64 kp, .int .i64 kl, .slice a4 l4 c4] 25))
    clear b4 B3 A3 o4 zA p0 p1 p2 p3 p4
    generalize hW4 : w4.alloc (.cells #[.int .i64 kf, .int .i64 kt, .int .i64 kp, .int .i64 kl, .slice a4 l4 c4] 25) = W4 at *
    obtain ⟨zX, x0, x1, x2, x3, x4⟩ := X4.out.five
    go_wp2_with fail
    clear hW4
    refine (K.out _ _ _ _ O4.out.rd).mono ?_
    rintro e w5 ⟨rfl, b5⟩
    have B5 := Lib.hid (B4.out.trans (b5.mono B4.out.size))
    have A5 := Lib.hid (A4.out.below b5 A4.out.lt)
    have X5 := Lib.hid (X4.out.below b5 X4.out.lt)
    have O5 := Lib.hid (O4.out.below b5)
    clear b5 B4 A4 X4 O4 zX x0 x1 x2 x3 x4
    obtain ⟨zA, p0, p1, p2, p3, p4⟩ := A5.out.five
    obtain ⟨zX, x0, x1, x2, x3, x4⟩ := X5.out.five
    go_wp2_with fail
    go_region_held3 (fun W => W.cell? ⟨w.heap.size, 0, none⟩ = some (.int .i64 kf) ∧ W.cell? ⟨w.heap.size, 1, none⟩ = some (.int .i64 kt) ∧ W.cell? ⟨w.heap.size, 2, none⟩ = some (.int .i64 kp) ∧ W.cell? ⟨w.heap.size, 3, none⟩ = some (.int .i64 kl) ∧ W.cell? ⟨w.heap.size, 4, none⟩ = some (.slice a len cap) ∧ W.cell? ⟨w4.heap.size, 0, none⟩ = some (.int .i64 kf) ∧ W.cell? ⟨w4.heap.size, 1, none⟩ = some (.int .i64 kt) ∧ W.cell? ⟨w4.heap.size, 2, none⟩ = some (.int .i64 kp) ∧ W.cell? ⟨w4.heap.size, 3, none⟩ = some (.int .i64 kl) ∧ W.cell? ⟨w4.heap.size, 4, none⟩ = some (.slice a4 l4 c4))
      (first | go_keep | (go_split_ands; exact ⟨keepK hb (by assumption), keepK hb (by assumption), keepK hb (by assumption), keepK hb (by assumption), keepK hb (by assumption), keepK hb (by assumption), keepK hb (by assumption), keepK hb (by assumption), keepK hb (by assumption), keepK hb (by assumption)⟩))
      (first
        | (go_at_call 33; refine (T.out _ B5.out.drew).mono ?_; rintro e w6 ⟨a6, l6, c6, rfl, o6, b6⟩; have hb := b6)
        | (go_at_call 34; refine (eqPacket_t _ _ _ _ _ _ _ _ _ _ zs _ (O5.out.drew.below b6).rd o6.rd).mono ?_; rintro e w7 ⟨rfl, b7⟩; have hb := b7))
    go_wp2
    go_ret
    exact ⟨rfl, (B5.out.drew.trans (b6.mono B5.out.drew.size)).trans (b7.mono (Nat.le_trans B5.out.drew.size b6.size))⟩
  · have Z := Lib.hid (fun W => szPacket_f kf kt kp kl a len cap 1048576 W hbig (by omega) (by omega) hm)
    clear h hS hr
    go_enter Try.func4, Try.ntmps4
    go_wp2_with fail
    refine (Z.out _).mono ?_
    rintro e w1 ⟨rfl, b1⟩
    have B1 := Lib.hid (B0.out.trans (b1.mono B0.out.size))
    clear b1 B0 A0
    go_wp2
    go_ret
    exact ⟨rfl, B1.out⟩

theorem markPacket_any (kf kt kp kl : Int) (a : Option Addr) (len cap base k0 : Nat) (zs : List Int) (w : World) (h : Own w base a len cap zs) (hl : len ≤ 2097152) (hk0 : k0 ≤ 1000000000) :
    Calls Try.prog 36 #[.agg #[.int .i64 kf, .int .i64 kt, .int .i64 kp, .int .i64 kl, .slice a len cap], .int .i64 k0] w fun e w' => e = .returned (.int .i64 (k0 + len : Nat)) ∧ Own w' base a len cap (marks k0 len) ∧ w.grownBy w' ((Value.slice a len cap).ownBlock) := by
  have K := Lib.hid (fun o => markByteS_any a len cap base k0 zs (w.alloc o) (h.alloc o) hl hk0)
  go_enter Try.func36, Try.ntmps36
  go_wp2_with fail
  refine (K.out _).mono ?_
  rintro e w1 ⟨rfl, ho, hg⟩
  go_wp2
  go_ret
  exact ⟨rfl, ho, grown_trans (grown_alloc _ _) hg⟩

set_option maxHeartbeats 4000000 in
theorem exactPackPacket (kf kt kp kl : Int) (a : Option Addr) (len cap : Nat) (zs : List Int) (w : World) (hr : Rd w a len cap zs)
    (c : Int) (ys : List Int) (hyl : ys.length ≤ 700) (hS : ∀ (a' : Option Addr) (l' c' : Nat) (W : World), Rd W a' l' c' zs → Calls Try.prog 21 #[.agg #[.int .i64 kf, .int .i64 kt, .int .i64 kp, .int .i64 kl, .slice a' l' c']] W (Packed W c ys))
    (h : ∀ (a' : Option Addr) (l' c' : Nat) (W : World), Rd W a' l' c' zs → Calls Try.prog 13 #[.agg #[.int .i64 kf, .int .i64 kt, .int .i64 kp, .int .i64 kl, .slice a' l' c']] W (Packed W c ys)) :
    Calls Try.prog 5 #[.agg #[.int .i64 kf, .int .i64 kt, .int .i64 kp, .int .i64 kl, .slice a len cap]] w fun e w' => e = .returned (.bool true) ∧ Below w.heap.size w w' := by
  have hm : len ≤ maxLen := Nat.le_trans hr.le hr.max
  have B0 := Lib.hid ((Below.refl w.heap.size w).alloc (Nat.le_refl _) (.cells #[.int .i64 kf, .int .i64 kt, .int .i64 kp, .int .i64 kl, .slice a len cap] 49))
  have A0 := Lib.hid (Box.new w 49 #[.int .i64 kf, .int .i64 kt, .int .i64 kp, .int .i64 kl, .slice a len cap])
  by_cases hbig : (len : Int) ≤ 1048576
  · have K := Lib.hid h
    have S := Lib.hid hS
    have T := Lib.hid (fun W (hW : Below w.heap.size w W) => toPacket_any kf kt kp kl a len cap zs W (hr.below hW) (by omega))
    have Z := Lib.hid (fun W => szPacket_t kf kt kp kl a len cap 1048576 W hbig (by omega))
    have hn : decide ((1048576 : Int) - len < 0) = false := decide_eq_false (by omega)
    have HZ := Lib.hid hr.length
    clear h hS hr
    go_enter Try.func5, Try.ntmps5
    go_wp2_with fail
    refine (Z.out _).mono ?_
    rintro e w1 ⟨rfl, b1⟩
    have A1 := Lib.hid (A0.out.below b1 A0.out.lt)
    have B1 := Lib.hid (B0.out.trans (b1.mono B0.out.size))
    clear b1 A0 B0
    obtain ⟨pz, p0, p1, p2, p3, p4⟩ := A1.out.five
    go_wp2_with fail
    refine (T.out _ B1.out).mono ?_
    rintro e w2 ⟨a2, l2, c2, rfl, o2, b2⟩
    clear pz p0 p1 p2 p3 p4
    have A2 := Lib.hid (A1.out.below b2 A1.out.lt)
    have B2 := Lib.hid (B1.out.trans (b2.mono B1.out.size))
    clear b2 A1 B1
    go_wp2_with fail
    refine (S.out _ _ _ _ o2.rd).mono ?_
    rintro e w3 ⟨a3, l3, c3, rfl, o3, b3⟩
    have A3 := Lib.hid ((A2.out.below b3 A2.out.lt).alloc (.cells #[.int .i64 c, .slice a3 l3 c3] 28))
    have B3 := Lib.hid ((B2.out.trans (b3.mono B2.out.size)).alloc (Nat.le_trans B2.out.size b3.size) (.cells #[.int .i64 c, .slice a3 l3 c3] 28))
    have X3 := Lib.hid (Box.new w3 28 #[.int .i64 c, .slice a3 l3 c3])
    have O3 := Lib.hid (o3.alloc (.cells #[.int .i64 c, .slice a3 l3 c3] 28))
    clear b3 o2 o3 A2 B2
    generalize hW : w3.alloc (.cells #[.int .i64 c, .slice a3 l3 c3] 28) = W3 at *
    obtain ⟨pz, p0, p1, p2, p3, p4⟩ := A3.out.five
    go_wp2_with fail
    clear hW
    refine (T.out _ B3.out).mono ?_
    rintro e w4 ⟨a4, l4, c4, rfl, o4, b4⟩
    have hl4 : l4 ≤ 1048576 := by have := o4.length; have := HZ.out; omega
    clear pz p0 p1 p2 p3 p4
    have NA := Lib.hid (ne_block o4 w.heap.size (.inl A3.out.lt))
    have NX := Lib.hid (ne_block o4 w3.heap.size (.inl X3.out.lt))
    have NO := Lib.hid (ne_of_lt_own O3.out o4 (Nat.le_refl _))
    have NY := Lib.hid (ne_block o4 w4.heap.size (.inr (Nat.le_refl _)))
    have NB := Lib.hid (own_rows o4 w.heap.size B3.out.size)
    have N4 := Lib.hid o4
    have A4 := Lib.hid ((A3.out.below b4 A3.out.lt).alloc (.cells #[.int .i64 kf, .int .i64 kt, .int .i64 kp, .int .i64 kl, .slice a4 l4 c4] 25))
    have B4 := Lib.hid ((B3.out.trans (b4.mono B3.out.size)).alloc (Nat.le_trans B3.out.size b4.size) (.cells #[.int .i64 kf, .int .i64 kt, .int .i64 kp, .int .i64 kl, .slice a4 l4 c4] 25))
    have X4 := Lib.hid ((X3.out.below b4 X3.out.lt).alloc (.cells #[.int .i64 kf, .int .i64 kt, .int .i64 kp, .int .i64 kl, .slice a4 l4 c4] 25))
    have O4 := Lib.hid ((O3.out.below b4).alloc (.cells #[.int .i64 kf, .int .i64 kt, .int .i64 kp, .int .i64 kl, .slice a4 l4 c4] 25))
    have Y4 := Lib.hid (Box.new w4 25 #[.int .i64 kf, .int .i64 kt, .int .i64 kp, .int .i64 kl, .slice a4 l4 c4])
    have Q4 := Lib.hid (o4.alloc (.cells #[.int .i64 kf, .int .i64 kt, .int .i64 kp, .int .i64 kl, .slice a4 l4 c4] 25))
    have s4 : w4.heap.size ≤ (w4.alloc (.cells #[.int .i64 kf, .int .i64 kt, .int .i64 kp, .int .i64 kl, .slice a4 l4 c4] 25)).heap.size := by simp
    clear b4 o4 A3 B3 X3 O3
    generalize hW : w4.alloc (.cells #[.int .i64 kf, .int .i64 kt, .int .i64 kp, .int .i64 kl, .slice a4 l4 c4] 25) = W4 at *
    obtain ⟨xz, x0, x1, x2, x3, x4⟩ := Y4.out.five
    go_wp2_with fail
    clear hW
    refine (K.out _ _ _ _ Q4.out.rd).mono ?_
    rintro e w5 ⟨a5, l5, c5, rfl, o5, b5⟩
    have hl5 : l5 ≤ 700 := by rw [← o5.length]; exact hyl
    clear xz x0 x1 x2 x3 x4
    have MA := Lib.hid (ne_block o5 w.heap.size (.inl A4.out.lt))
    have MX := Lib.hid (ne_block o5 w3.heap.size (.inl X4.out.lt))
    have MO := Lib.hid (ne_of_lt_own O4.out o5 (Nat.le_refl _))
    have MY := Lib.hid (ne_block o5 w4.heap.size (.inl Y4.out.lt))
    have MQ := Lib.hid (ne_of_lt_own Q4.out o5 (Nat.le_refl _))
    have MG := Lib.hid (ne_block o5 w5.heap.size (.inr (Nat.le_refl _)))
    have MB := Lib.hid (own_rows o5 w.heap.size B4.out.size)
    have NP := Lib.hid (ne_of_gt_own o5 N4.out s4)
    have NG := Lib.hid (ne_block N4.out w5.heap.size (.inr (Nat.le_trans s4 b5.size)))
    have A5 := Lib.hid ((A4.out.below b5 A4.out.lt).alloc (.cells #[.int .i64 c, .slice a5 l5 c5] 28))
    have B5 := Lib.hid ((B4.out.trans (b5.mono B4.out.size)).alloc (Nat.le_trans B4.out.size b5.size) (.cells #[.int .i64 c, .slice a5 l5 c5] 28))
    have X5 := Lib.hid ((X4.out.below b5 X4.out.lt).alloc (.cells #[.int .i64 c, .slice a5 l5 c5] 28))
    have O5 := Lib.hid ((O4.out.below b5).alloc (.cells #[.int .i64 c, .slice a5 l5 c5] 28))
    have Y5 := Lib.hid ((Y4.out.below b5 Y4.out.lt).alloc (.cells #[.int .i64 c, .slice a5 l5 c5] 28))
    have Q5 := Lib.hid ((Q4.out.below b5).alloc (.cells #[.int .i64 c, .slice a5 l5 c5] 28))
    have G5 := Lib.hid (Box.new w5 28 #[.int .i64 c, .slice a5 l5 c5])
    have P5 := Lib.hid (o5.alloc (.cells #[.int .i64 c, .slice a5 l5 c5] 28))
    clear b5 o5 N4 s4 A4 B4 X4 O4 Y4 Q4
    generalize hW : w5.alloc (.cells #[.int .i64 c, .slice a5 l5 c5] 28) = W5 at *
    obtain ⟨gz, g0, g1⟩ := G5.out.two
    obtain ⟨xz, x0, x1⟩ := X5.out.two
    go_wp2_with fail
    clear hW
    refine (eqBytes_any _ _ _ _ _ _ _ _ ys ys _ P5.out.rd O5.out.rd rfl rfl).mono ?_
    rintro e w6 ⟨rfl, b6⟩
    clear gz g0 g1 xz x0 x1
    have A6 := Lib.hid (A5.out.below b6 A5.out.lt)
    have B6 := Lib.hid (B5.out.trans (b6.mono B5.out.size))
    have X6 := Lib.hid (X5.out.below b6 X5.out.lt)
    have O6 := Lib.hid (O5.out.below b6)
    have Y6 := Lib.hid (Y5.out.below b6 Y5.out.lt)
    have Q6 := Lib.hid (Q5.out.below b6)
    have G6 := Lib.hid (G5.out.below b6 G5.out.lt)
    have P6 := Lib.hid (P5.out.below b6)
    clear b6 A5 B5 X5 O5 Y5 Q5 G5 P5
    obtain ⟨pz, p0, p1, p2, p3, p4⟩ := A6.out.five
    obtain ⟨xz, x0, x1, x2, x3, x4⟩ := Y6.out.five
    go_wp2_with fail
    go_region_held3 (fun W => W.cell? ⟨w.heap.size, 0, none⟩ = some (.int .i64 kf) ∧ W.cell? ⟨w.heap.size, 1, none⟩ = some (.int .i64 kt) ∧ W.cell? ⟨w.heap.size, 2, none⟩ = some (.int .i64 kp) ∧ W.cell? ⟨w.heap.size, 3, none⟩ = some (.int .i64 kl) ∧ W.cell? ⟨w.heap.size, 4, none⟩ = some (.slice a len cap) ∧ W.cell? ⟨w4.heap.size, 0, none⟩ = some (.int .i64 kf) ∧ W.cell? ⟨w4.heap.size, 1, none⟩ = some (.int .i64 kt) ∧ W.cell? ⟨w4.heap.size, 2, none⟩ = some (.int .i64 kp) ∧ W.cell? ⟨w4.heap.size, 3, none⟩ = some (.int .i64 kl) ∧ W.cell? ⟨w4.heap.size, 4, none⟩ = some (.slice a4 l4 c4))
      (first | go_keep | (go_split_ands; exact ⟨keepK hb (by assumption), keepK hb (by assumption), keepK hb (by assumption), keepK hb (by assumption), keepK hb (by assumption), keepK hb (by assumption), keepK hb (by assumption), keepK hb (by assumption), keepK hb (by assumption), keepK hb (by assumption)⟩))
      (first
        | (go_at_call 33; refine (T.out _ B6.out.drew).mono ?_; rintro e w7 ⟨a7, l7, c7, rfl, o7, b7⟩; have hb := b7)
        | (go_at_call 34; refine (eqPacket_t _ _ _ _ _ _ _ _ _ _ zs _ (Q6.out.drew.below b7).rd o7.rd).mono ?_; rintro e w8 ⟨rfl, b8⟩; have hb := b8))
    have b68 : Below w6.drew.heap.size w6.drew w8 := b7.trans (b8.mono b7.size)
    clear hb o7 b7 b8 pz p0 p1 p2 p3 p4 xz x0 x1 x2 x3 x4
    have A8 := Lib.hid ((A6.out.drewB).below b68 A6.out.drewB.lt)
    have B8 := Lib.hid (B6.out.drew.trans (b68.mono B6.out.drew.size))
    have X8 := Lib.hid ((X6.out.drewB).below b68 X6.out.drewB.lt)
    have O8 := Lib.hid (O6.out.drew.below b68)
    have Y8 := Lib.hid ((Y6.out.drewB).below b68 Y6.out.drewB.lt)
    have Q8 := Lib.hid (Q6.out.drew.below b68)
    have G8 := Lib.hid ((G6.out.drewB).below b68 G6.out.drewB.lt)
    have P8 := Lib.hid (P6.out.drew.below b68)
    clear b68 A6 B6 X6 O6 Y6 Q6 G6 P6
    obtain ⟨xz, x0, x1, x2, x3, x4⟩ := Y8.out.five
    go_wp2_with fail
    refine (markPacket_any _ _ _ _ _ _ _ _ 1 _ _ Q8.out (by omega) (by omega)).mono ?_
    rintro e w9 ⟨rfl, q9, g9⟩
    clear xz x0 x1 x2 x3 x4
    have A9 := Lib.hid (A8.out.grown g9 NA.out)
    have B9 := Lib.hid (B8.out.grown g9 B8.out.size NB.out)
    have X9 := Lib.hid (X8.out.grown g9 NX.out)
    have O9 := Lib.hid (O8.out.grown g9 NO.out)
    have Y9 := Lib.hid (Y8.out.grown g9 NY.out)
    have Q9 := Lib.hid q9
    have G9 := Lib.hid (G8.out.grown g9 NG.out)
    have P9 := Lib.hid (P8.out.grown g9 NP.out)
    clear g9 q9 NA NX NO NY NG NP NB A8 B8 X8 O8 Y8 Q8 G8 P8
    have hk4 : ¬ ((1 + l4 : Nat) : Int) < 0 := by omega
    have hk4d : decide (((1 + l4 : Nat) : Int) < 0) = false := decide_eq_false hk4
    obtain ⟨gz, g0, g1⟩ := G9.out.two
    obtain ⟨xz, x0, x1⟩ := X9.out.two
    go_wp2_with fail
    refine (eqBytes_any _ _ _ _ _ _ _ _ ys ys _ P9.out.rd O9.out.rd rfl rfl).mono ?_
    rintro e w10 ⟨rfl, b10⟩
    clear gz g0 g1 xz x0 x1 Q9 Y9
    have A10 := Lib.hid (A9.out.below b10 A9.out.lt)
    have B10 := Lib.hid (B9.out.trans (b10.mono B9.out.size))
    have X10 := Lib.hid (X9.out.below b10 X9.out.lt)
    have O10 := Lib.hid (O9.out.below b10)
    have G10 := Lib.hid (G9.out.below b10 G9.out.lt)
    have P10 := Lib.hid (P9.out.below b10)
    clear b10 A9 B9 X9 O9 G9 P9
    obtain ⟨gz, g0, g1⟩ := G10.out.two
    go_wp2_with fail
    refine (markBytes_any _ _ _ _ _ 1 _ _ P10.out (by omega) (by omega)).mono ?_
    rintro e w11 ⟨rfl, q11, g11⟩
    clear gz g0 g1
    have A11 := Lib.hid (A10.out.grown g11 MA.out)
    have B11 := Lib.hid (B10.out.grown g11 B10.out.size MB.out)
    have X11 := Lib.hid (X10.out.grown g11 MX.out)
    have O11 := Lib.hid (O10.out.grown g11 MO.out)
    have G11 := Lib.hid (G10.out.grown g11 MG.out)
    have P11 := Lib.hid q11
    clear g11 q11 MA MX MO MY MQ MG MB A10 B10 X10 O10 G10 P10
    obtain ⟨gz, g0, g1⟩ := G11.out.two
    go_wp2_with fail
    refine (heldBytes_any _ _ _ _ 1 _ P11.out.rd (by omega) (by omega)).mono ?_
    rintro e w12 ⟨rfl, b12⟩
    clear gz g0 g1
    have A12 := Lib.hid (A11.out.below b12 A11.out.lt)
    have B12 := Lib.hid (B11.out.trans (b12.mono B11.out.size))
    have X12 := Lib.hid (X11.out.below b12 X11.out.lt)
    have O12 := Lib.hid (O11.out.below b12)
    have G12 := Lib.hid (G11.out.below b12 G11.out.lt)
    have P12 := Lib.hid (P11.out.below b12)
    clear b12 A11 B11 X11 O11 G11 P11
    have hn5 : ¬ ((1 + l5 : Nat) : Int) < 0 := by omega
    have hne5 : (((1 + l5 : Nat) : Int) != ((1 + l5 : Nat) : Int)) = false := by simp
    obtain ⟨pz, p0, p1, p2, p3, p4⟩ := A12.out.five
    go_wp2_with fail
    refine (T.out _ B12.out).mono ?_
    rintro e w13 ⟨a13, l13, c13, rfl, o13, b13⟩
    clear pz p0 p1 p2 p3 p4 A12
    have B13 := Lib.hid (B12.out.trans (b13.mono B12.out.size))
    have X13 := Lib.hid (X12.out.below b13 X12.out.lt)
    have O13 := Lib.hid (O12.out.below b13)
    have G13 := Lib.hid (G12.out.below b13 G12.out.lt)
    have P13 := Lib.hid (P12.out.below b13)
    clear b13 B12 X12 O12 G12 P12
    go_wp2_with fail
    refine (K.out _ _ _ _ o13.rd).mono ?_
    rintro e w14 ⟨a14, l14, c14, rfl, o14, b14⟩
    have B14 := Lib.hid ((B13.out.trans (b14.mono B13.out.size)).alloc (Nat.le_trans B13.out.size b14.size) (.cells #[.int .i64 c, .slice a14 l14 c14] 28))
    have X14 := Lib.hid ((X13.out.below b14 X13.out.lt).alloc (.cells #[.int .i64 c, .slice a14 l14 c14] 28))
    have O14 := Lib.hid ((O13.out.below b14).alloc (.cells #[.int .i64 c, .slice a14 l14 c14] 28))
    have G14 := Lib.hid ((G13.out.below b14 G13.out.lt).alloc (.cells #[.int .i64 c, .slice a14 l14 c14] 28))
    have P14 := Lib.hid ((P13.out.below b14).alloc (.cells #[.int .i64 c, .slice a14 l14 c14] 28))
    have H14 := Lib.hid (Box.new w14 28 #[.int .i64 c, .slice a14 l14 c14])
    have R14 := Lib.hid (o14.alloc (.cells #[.int .i64 c, .slice a14 l14 c14] 28))
    clear b14 o13 o14 B13 X13 O13 G13 P13
    generalize hW : w14.alloc (.cells #[.int .i64 c, .slice a14 l14 c14] 28) = W14 at *
    obtain ⟨gz, g0, g1⟩ := H14.out.two
    obtain ⟨xz, x0, x1⟩ := X14.out.two
    go_wp2_with fail
    clear hW
    refine (eqBytes_any _ _ _ _ _ _ _ _ ys ys _ R14.out.rd O14.out.rd rfl rfl).mono ?_
    rintro e w15 ⟨rfl, b15⟩
    clear gz g0 g1 xz x0 x1 H14 R14 X14 O14
    have B15 := Lib.hid (B14.out.trans (b15.mono B14.out.size))
    have G15 := Lib.hid (G14.out.below b15 G14.out.lt)
    have P15 := Lib.hid (P14.out.below b15)
    clear b15 B14 G14 P14
    obtain ⟨gz, g0, g1⟩ := G15.out.two
    go_wp2_with fail
    refine (heldBytes_any _ _ _ _ 1 _ P15.out.rd (by omega) (by omega)).mono ?_
    rintro e w16 ⟨rfl, b16⟩
    clear gz g0 g1 P15 G15
    have B16 := Lib.hid (B15.out.trans (b16.mono B15.out.size))
    clear b16 B15
    go_wp2
    go_ret
    exact ⟨rfl, B16.out⟩
  · have Z := Lib.hid (fun W => szPacket_f kf kt kp kl a len cap 1048576 W hbig (by omega) (by omega) hm)
    clear h hS hr
    go_enter Try.func5, Try.ntmps5
    go_wp2_with fail
    refine (Z.out _).mono ?_
    rintro e w1 ⟨rfl, b1⟩
    have B1 := Lib.hid (B0.out.trans (b1.mono B0.out.size))
    clear b1 B0 A0
    go_wp2
    go_ret
    exact ⟨rfl, B1.out⟩

set_option maxHeartbeats 4000000 in
theorem exactSamePackets (kf kt kp kl : Int) (a : Option Addr) (len cap : Nat) (zs : List Int) (kf' kt' kp' kl' : Int) (a' : Option Addr) (len' cap' : Nat) (zs' : List Int) (w : World) (hr : Rd w a len cap zs) (hr' : Rd w a' len' cap' zs')
    (v : Bool) (hS : ∀ (b : Option Addr) (l c : Nat) (b' : Option Addr) (l' c' : Nat) (W : World), Rd W b l c zs → Rd W b' l' c' zs' → Calls Try.prog 28 #[.agg #[.int .i64 kf, .int .i64 kt, .int .i64 kp, .int .i64 kl, .slice b l c], .agg #[.int .i64 kf', .int .i64 kt', .int .i64 kp', .int .i64 kl', .slice b' l' c']] W fun e w' => e = .returned (.bool v) ∧ Below W.heap.size W w')
    (h : ∀ (b : Option Addr) (l c : Nat) (b' : Option Addr) (l' c' : Nat) (W : World), Rd W b l c zs → Rd W b' l' c' zs' → Calls Try.prog 23 #[.agg #[.int .i64 kf, .int .i64 kt, .int .i64 kp, .int .i64 kl, .slice b l c], .agg #[.int .i64 kf', .int .i64 kt', .int .i64 kp', .int .i64 kl', .slice b' l' c']] W fun e w' => e = .returned (.bool v) ∧ Below W.heap.size W w') :
    Calls Try.prog 10 #[.agg #[.int .i64 kf, .int .i64 kt, .int .i64 kp, .int .i64 kl, .slice a len cap], .agg #[.int .i64 kf', .int .i64 kt', .int .i64 kp', .int .i64 kl', .slice a' len' cap']] w fun e w' => e = .returned (.bool true) ∧ Below w.heap.size w w' := by
  have hm : len ≤ maxLen := Nat.le_trans hr.le hr.max
  have hm' : len' ≤ maxLen := Nat.le_trans hr'.le hr'.max
  have B0 := Lib.hid (((Below.refl w.heap.size w).alloc (Nat.le_refl _) (.cells #[.int .i64 kf, .int .i64 kt, .int .i64 kp, .int .i64 kl, .slice a len cap] 49)).alloc (by simp) (.cells #[.int .i64 kf', .int .i64 kt', .int .i64 kp', .int .i64 kl', .slice a' len' cap'] 49))
  have A0 := Lib.hid ((Box.new w 49 #[.int .i64 kf, .int .i64 kt, .int .i64 kp, .int .i64 kl, .slice a len cap]).alloc (.cells #[.int .i64 kf', .int .i64 kt', .int .i64 kp', .int .i64 kl', .slice a' len' cap'] 49))
  have D0 : Hid (Box ((w.alloc (.cells #[.int .i64 kf, .int .i64 kt, .int .i64 kp, .int .i64 kl, .slice a len cap] 49)).alloc (.cells #[.int .i64 kf', .int .i64 kt', .int .i64 kp', .int .i64 kl', .slice a' len' cap'] 49)) (w.heap.size + 1) 49 #[.int .i64 kf', .int .i64 kt', .int .i64 kp', .int .i64 kl', .slice a' len' cap']) := by
    have := Box.new (w.alloc (.cells #[.int .i64 kf, .int .i64 kt, .int .i64 kp, .int .i64 kl, .slice a len cap] 49)) 49 #[.int .i64 kf', .int .i64 kt', .int .i64 kp', .int .i64 kl', .slice a' len' cap']
    simp only [World.size_alloc] at this
    exact this
  by_cases hbig : (len : Int) ≤ 1048576
  · have Z := Lib.hid (fun W => szPacket_t kf kt kp kl a len cap 1048576 W hbig (by omega))
    have hn : decide ((1048576 : Int) - len < 0) = false := decide_eq_false (by omega)
    by_cases hbig' : (len' : Int) ≤ 1048576 - len
    · have Z' := Lib.hid (fun W => szPacket_t kf' kt' kp' kl' a' len' cap' (1048576 - len) W hbig' (by omega))
      have hn' : decide ((1048576 : Int) - len - len' < 0) = false := decide_eq_false (by omega)
      have K := Lib.hid h
      have S := Lib.hid hS
      have T := Lib.hid (fun W (hW : Below w.heap.size w W) => toPacket_any kf kt kp kl a len cap zs W (hr.below hW) (by omega))
      have T' := Lib.hid (fun W (hW : Below w.heap.size w W) => toPacket_any kf' kt' kp' kl' a' len' cap' zs' W (hr'.below hW) (by omega))
      have hne : (v != v) = false := by cases v <;> rfl
      clear h hS hr hr'
      go_enter Try.func10, Try.ntmps10
      go_wp2_with fail
      refine (Z.out _).mono ?_
      rintro e w1 ⟨rfl, b1⟩
      have A1 := Lib.hid (A0.out.below b1 A0.out.lt)
      have D1 := Lib.hid (D0.out.below b1 D0.out.lt)
      have B1 := Lib.hid (B0.out.trans (b1.mono B0.out.size))
      clear b1 A0 D0 B0
      obtain ⟨qz, q0, q1, q2, q3, q4⟩ := D1.out.five
      go_wp2_with fail
      refine (Z'.out _).mono ?_
      rintro e w2 ⟨rfl, b2⟩
      clear qz q0 q1 q2 q3 q4
      have A2 := Lib.hid (A1.out.below b2 A1.out.lt)
      have D2 := Lib.hid (D1.out.below b2 D1.out.lt)
      have B2 := Lib.hid (B1.out.trans (b2.mono B1.out.size))
      clear b2 A1 D1 B1
      obtain ⟨pz, p0, p1, p2, p3, p4⟩ := A2.out.five
      obtain ⟨qz, q0, q1, q2, q3, q4⟩ := D2.out.five
      go_wp2_with fail
      go_region_held3 (fun W => W.cell? ⟨w.heap.size, 0, none⟩ = some (.int .i64 kf) ∧ W.cell? ⟨w.heap.size, 1, none⟩ = some (.int .i64 kt) ∧ W.cell? ⟨w.heap.size, 2, none⟩ = some (.int .i64 kp) ∧ W.cell? ⟨w.heap.size, 3, none⟩ = some (.int .i64 kl) ∧ W.cell? ⟨w.heap.size, 4, none⟩ = some (.slice a len cap) ∧ W.cell? ⟨w.heap.size + 1, 0, none⟩ = some (.int .i64 kf') ∧ W.cell? ⟨w.heap.size + 1, 1, none⟩ = some (.int .i64 kt') ∧ W.cell? ⟨w.heap.size + 1, 2, none⟩ = some (.int .i64 kp') ∧ W.cell? ⟨w.heap.size + 1, 3, none⟩ = some (.int .i64 kl') ∧ W.cell? ⟨w.heap.size + 1, 4, none⟩ = some (.slice a' len' cap'))
        (first | go_keep | (go_split_ands; exact ⟨keepK hb (by assumption), keepK hb (by assumption), keepK hb (by assumption), keepK hb (by assumption), keepK hb (by assumption), keepK hb (by assumption), keepK hb (by assumption), keepK hb (by assumption), keepK hb (by assumption), keepK hb (by assumption)⟩))
        (first
          | (have q := R4; clear q; go_at_call 28; refine (S.out _ _ _ _ _ _ _ (o3.below b4).rd o4.rd).mono ?_; rintro e w5 ⟨rfl, b5⟩; have hb := b5)
          | (have q := R3; clear q; go_at_call 33; refine (T'.out _ (B2.out.drew.trans (b3.mono B2.out.drew.size))).mono ?_; rintro e w4 ⟨a4, l4, c4, rfl, o4, b4⟩; have hb := b4; have R4 : Hid True := trivial)
          | (go_at_call 33; refine (T.out _ B2.out.drew).mono ?_; rintro e w3 ⟨a3, l3, c3, rfl, o3, b3⟩; have hb := b3; have R3 : Hid True := trivial))
      have b25 : Below w2.drew.heap.size w2.drew w5 := (b3.trans (b4.mono b3.size)).trans (b5.mono (Nat.le_trans b3.size b4.size))
      clear hb o3 b3 o4 b4 b5 R3 R4 pz p0 p1 p2 p3 p4 qz q0 q1 q2 q3 q4
      have A5 := Lib.hid ((A2.out.drewB).below b25 A2.out.drewB.lt)
      have D5 := Lib.hid ((D2.out.drewB).below b25 D2.out.drewB.lt)
      have B5 := Lib.hid (B2.out.drew.trans (b25.mono B2.out.drew.size))
      clear b25 A2 D2 B2
      obtain ⟨pz, p0, p1, p2, p3, p4⟩ := A5.out.five
      go_wp2_with fail
      refine (T.out _ B5.out).mono ?_
      rintro e w6 ⟨a6, l6, c6, rfl, o6, b6⟩
      clear pz p0 p1 p2 p3 p4
      have A6 := Lib.hid ((A5.out.below b6 A5.out.lt).alloc (.cells #[.int .i64 kf, .int .i64 kt, .int .i64 kp, .int .i64 kl, .slice a6 l6 c6] 25))
      have D6 := Lib.hid ((D5.out.below b6 D5.out.lt).alloc (.cells #[.int .i64 kf, .int .i64 kt, .int .i64 kp, .int .i64 kl, .slice a6 l6 c6] 25))
      have B6 := Lib.hid ((B5.out.trans (b6.mono B5.out.size)).alloc (Nat.le_trans B5.out.size b6.size) (.cells #[.int .i64 kf, .int .i64 kt, .int .i64 kp, .int .i64 kl, .slice a6 l6 c6] 25))
      have X6 := Lib.hid (Box.new w6 25 #[.int .i64 kf, .int .i64 kt, .int .i64 kp, .int .i64 kl, .slice a6 l6 c6])
      have O6 := Lib.hid (o6.alloc (.cells #[.int .i64 kf, .int .i64 kt, .int .i64 kp, .int .i64 kl, .slice a6 l6 c6] 25))
      clear b6 o6 A5 D5 B5
      generalize hW : w6.alloc (.cells #[.int .i64 kf, .int .i64 kt, .int .i64 kp, .int .i64 kl, .slice a6 l6 c6] 25) = W6 at *
      obtain ⟨qz, q0, q1, q2, q3, q4⟩ := D6.out.five
      go_wp2_with fail
      clear hW
      refine (T'.out _ B6.out).mono ?_
      rintro e w7 ⟨a7, l7, c7, rfl, o7, b7⟩
      clear qz q0 q1 q2 q3 q4
      have A7 := Lib.hid ((A6.out.below b7 A6.out.lt).alloc (.cells #[.int .i64 kf', .int .i64 kt', .int .i64 kp', .int .i64 kl', .slice a7 l7 c7] 25))
      have D7 := Lib.hid ((D6.out.below b7 D6.out.lt).alloc (.cells #[.int .i64 kf', .int .i64 kt', .int .i64 kp', .int .i64 kl', .slice a7 l7 c7] 25))
      have B7 := Lib.hid ((B6.out.trans (b7.mono B6.out.size)).alloc (Nat.le_trans B6.out.size b7.size) (.cells #[.int .i64 kf', .int .i64 kt', .int .i64 kp', .int .i64 kl', .slice a7 l7 c7] 25))
      have X7 := Lib.hid ((X6.out.below b7 X6.out.lt).alloc (.cells #[.int .i64 kf', .int .i64 kt', .int .i64 kp', .int .i64 kl', .slice a7 l7 c7] 25))
      have O7 := Lib.hid ((O6.out.below b7).alloc (.cells #[.int .i64 kf', .int .i64 kt', .int .i64 kp', .int .i64 kl', .slice a7 l7 c7] 25))
      have Y7 := Lib.hid (Box.new w7 25 #[.int .i64 kf', .int .i64 kt', .int .i64 kp', .int .i64 kl', .slice a7 l7 c7])
      have P7 := Lib.hid (o7.alloc (.cells #[.int .i64 kf', .int .i64 kt', .int .i64 kp', .int .i64 kl', .slice a7 l7 c7] 25))
      clear b7 o7 A6 D6 B6 X6 O6
      generalize hW : w7.alloc (.cells #[.int .i64 kf', .int .i64 kt', .int .i64 kp', .int .i64 kl', .slice a7 l7 c7] 25) = W7 at *
      obtain ⟨pz, p0, p1, p2, p3, p4⟩ := X7.out.five
      obtain ⟨qz, q0, q1, q2, q3, q4⟩ := Y7.out.five
      go_wp2_with fail
      clear hW
      refine (K.out _ _ _ _ _ _ _ O7.out.rd P7.out.rd).mono ?_
      rintro e w8 ⟨rfl, b8⟩
      clear pz p0 p1 p2 p3 p4 qz q0 q1 q2 q3 q4
      have A8 := Lib.hid (A7.out.below b8 A7.out.lt)
      have D8 := Lib.hid (D7.out.below b8 D7.out.lt)
      have B8 := Lib.hid (B7.out.trans (b8.mono B7.out.size))
      have X8 := Lib.hid (X7.out.below b8 X7.out.lt)
      have O8 := Lib.hid (O7.out.below b8)
      have Y8 := Lib.hid (Y7.out.below b8 Y7.out.lt)
      have P8 := Lib.hid (P7.out.below b8)
      clear b8 A7 D7 B7 X7 O7 Y7 P7
      obtain ⟨pz, p0, p1, p2, p3, p4⟩ := A8.out.five
      obtain ⟨qz, q0, q1, q2, q3, q4⟩ := X8.out.five
      go_wp2_with fail
      go_region_held3 (fun W => W.cell? ⟨w.heap.size, 0, none⟩ = some (.int .i64 kf) ∧ W.cell? ⟨w.heap.size, 1, none⟩ = some (.int .i64 kt) ∧ W.cell? ⟨w.heap.size, 2, none⟩ = some (.int .i64 kp) ∧ W.cell? ⟨w.heap.size, 3, none⟩ = some (.int .i64 kl) ∧ W.cell? ⟨w.heap.size, 4, none⟩ = some (.slice a len cap) ∧ W.cell? ⟨w6.heap.size, 0, none⟩ = some (.int .i64 kf) ∧ W.cell? ⟨w6.heap.size, 1, none⟩ = some (.int .i64 kt) ∧ W.cell? ⟨w6.heap.size, 2, none⟩ = some (.int .i64 kp) ∧ W.cell? ⟨w6.heap.size, 3, none⟩ = some (.int .i64 kl) ∧ W.cell? ⟨w6.heap.size, 4, none⟩ = some (.slice a6 l6 c6))
        (first | go_keep | (go_split_ands; exact ⟨keepK hb (by assumption), keepK hb (by assumption), keepK hb (by assumption), keepK hb (by assumption), keepK hb (by assumption), keepK hb (by assumption), keepK hb (by assumption), keepK hb (by assumption), keepK hb (by assumption), keepK hb (by assumption)⟩))
        (first
          | (have q := R9; clear q; go_at_call 34; refine (eqPacket_t _ _ _ _ _ _ _ _ _ _ zs _ (O8.out.drew.below b9).rd o9.rd).mono ?_; rintro e w10 ⟨rfl, b10⟩; have hb := b10)
          | (go_at_call 33; refine (T.out _ B8.out.drew).mono ?_; rintro e w9 ⟨a9, l9, c9, rfl, o9, b9⟩; have hb := b9; have R9 : Hid True := trivial))
      have b81 : Below w8.drew.heap.size w8.drew w10 := b9.trans (b10.mono b9.size)
      clear hb o9 b9 b10 R9 pz p0 p1 p2 p3 p4 qz q0 q1 q2 q3 q4 X8 O8 A8
      have D10 := Lib.hid ((D8.out.drewB).below b81 D8.out.drewB.lt)
      have B10 := Lib.hid (B8.out.drew.trans (b81.mono B8.out.drew.size))
      have Y10 := Lib.hid ((Y8.out.drewB).below b81 Y8.out.drewB.lt)
      have P10 := Lib.hid (P8.out.drew.below b81)
      clear b81 D8 B8 Y8 P8
      obtain ⟨pz, p0, p1, p2, p3, p4⟩ := D10.out.five
      obtain ⟨qz, q0, q1, q2, q3, q4⟩ := Y10.out.five
      go_wp2_with fail
      go_region_held3 (fun W => W.cell? ⟨w.heap.size + 1, 0, none⟩ = some (.int .i64 kf') ∧ W.cell? ⟨w.heap.size + 1, 1, none⟩ = some (.int .i64 kt') ∧ W.cell? ⟨w.heap.size + 1, 2, none⟩ = some (.int .i64 kp') ∧ W.cell? ⟨w.heap.size + 1, 3, none⟩ = some (.int .i64 kl') ∧ W.cell? ⟨w.heap.size + 1, 4, none⟩ = some (.slice a' len' cap') ∧ W.cell? ⟨w7.heap.size, 0, none⟩ = some (.int .i64 kf') ∧ W.cell? ⟨w7.heap.size, 1, none⟩ = some (.int .i64 kt') ∧ W.cell? ⟨w7.heap.size, 2, none⟩ = some (.int .i64 kp') ∧ W.cell? ⟨w7.heap.size, 3, none⟩ = some (.int .i64 kl') ∧ W.cell? ⟨w7.heap.size, 4, none⟩ = some (.slice a7 l7 c7))
        (first | go_keep | (go_split_ands; exact ⟨keepK hb (by assumption), keepK hb (by assumption), keepK hb (by assumption), keepK hb (by assumption), keepK hb (by assumption), keepK hb (by assumption), keepK hb (by assumption), keepK hb (by assumption), keepK hb (by assumption), keepK hb (by assumption)⟩))
        (first
          | (have q := R11; clear q; go_at_call 34; refine (eqPacket_t _ _ _ _ _ _ _ _ _ _ zs' _ (P10.out.drew.below b11).rd o11.rd).mono ?_; rintro e w12 ⟨rfl, b12⟩; have hb := b12)
          | (go_at_call 33; refine (T'.out _ B10.out.drew).mono ?_; rintro e w11 ⟨a11, l11, c11, rfl, o11, b11⟩; have hb := b11; have R11 : Hid True := trivial))
      have B12 := Lib.hid ((B10.out.drew.trans (b11.mono B10.out.drew.size)).trans (b12.mono (Nat.le_trans B10.out.drew.size b11.size)))
      clear hb o11 b11 b12 R11 pz p0 p1 p2 p3 p4 qz q0 q1 q2 q3 q4 B10 D10 Y10 P10
      go_wp2
      go_ret
      exact ⟨rfl, B12.out⟩
    · have Z' := Lib.hid (fun W => szPacket_f kf' kt' kp' kl' a' len' cap' (1048576 - len) W hbig' (by omega) (by omega) hm')
      clear h hS hr hr'
      go_enter Try.func10, Try.ntmps10
      go_wp2_with fail
      refine (Z.out _).mono ?_
      rintro e w1 ⟨rfl, b1⟩
      have B1 := Lib.hid (B0.out.trans (b1.mono B0.out.size))
      have D1 := Lib.hid (D0.out.below b1 D0.out.lt)
      clear b1 B0 A0 D0
      obtain ⟨qz, q0, q1, q2, q3, q4⟩ := D1.out.five
      go_wp2_with fail
      refine (Z'.out _).mono ?_
      rintro e w2 ⟨rfl, b2⟩
      have B2 := Lib.hid (B1.out.trans (b2.mono B1.out.size))
      clear b2 B1 D1 qz q0 q1 q2 q3 q4
      go_wp2
      go_ret
      exact ⟨rfl, B2.out⟩
  · have Z := Lib.hid (fun W => szPacket_f kf kt kp kl a len cap 1048576 W hbig (by omega) (by omega) hm)
    clear h hS hr hr'
    go_enter Try.func10, Try.ntmps10
    go_wp2_with fail
    refine (Z.out _).mono ?_
    rintro e w1 ⟨rfl, b1⟩
    have B1 := Lib.hid (B0.out.trans (b1.mono B0.out.size))
    clear b1 B0 A0 D0
    go_wp2
    go_ret
    exact ⟨rfl, B1.out⟩

/-- a frame's result: the code, the numbers, the body of its own -/
def PacketRes (w : World) (c : Int) (kf kt kp kl : Int) (zs : List Int) (e : Ending) (w' : World) : Prop :=
  ∃ a' l' c', e = .returned (.agg #[.int .i64 c, .int .i64 kf, .int .i64 kt, .int .i64 kp, .int .i64 kl, .slice a' l' c']) ∧ Own w' w.heap.size a' l' c' zs ∧ Below w.heap.size w w'

theorem heldPacket_any (kf kt kp kl : Int) (a : Option Addr) (len cap k0 : Nat) (w : World) (h : Rd w a len cap (marks k0 len)) (hl : len ≤ 2097152) (hk0 : k0 ≤ 1000000000) :
    Calls Try.prog 85 #[.agg #[.int .i64 kf, .int .i64 kt, .int .i64 kp, .int .i64 kl, .slice a len cap], .int .i64 k0] w fun e w' => e = .returned (.int .i64 (k0 + len : Nat)) ∧ Below w.heap.size w w' := by
  have K := Lib.hid (fun o => heldByteS_any a len cap k0 (w.alloc o) (h.alloc o) hl hk0)
  go_enter Try.func85, Try.ntmps85
  go_wp2_with fail
  refine (K.out _).mono ?_
  rintro e w1 ⟨rfl, rfl⟩
  have hn : ¬ ((k0 + len : Nat) : Int) < 0 := by omega
  go_wp2
  go_ret
  exact ⟨rfl, (Below.refl _ _).alloc (Nat.le_refl _) _⟩

theorem heldPacketR_any (c : Int) (kf kt kp kl : Int) (a : Option Addr) (len cap k0 : Nat) (w : World) (h : Rd w a len cap (marks k0 len)) (hl : len ≤ 2097152) (hk0 : k0 ≤ 1000000000) :
    Calls Try.prog 44 #[.agg #[.int .i64 c, .int .i64 kf, .int .i64 kt, .int .i64 kp, .int .i64 kl, .slice a len cap], .int .i64 k0] w fun e w' => e = .returned (.int .i64 (k0 + len : Nat)) ∧ Below w.heap.size w w' := by
  have K := Lib.hid (fun o => heldPacket_any kf kt kp kl a len cap k0 (w.alloc o) (h.alloc o) hl hk0)
  go_enter Try.func44, Try.ntmps44
  go_wp2_with fail
  refine (K.out _).mono ?_
  rintro e w1 ⟨rfl, b1⟩
  have hn : ¬ ((k0 + len : Nat) : Int) < 0 := by omega
  go_wp2
  go_ret
  exact ⟨rfl, ((Below.refl _ _).alloc (Nat.le_refl _) _).trans (b1.mono (by simp))⟩

theorem markPacketR_any (c : Int) (kf kt kp kl : Int) (a : Option Addr) (len cap base k0 : Nat) (zs : List Int) (w : World) (h : Own w base a len cap zs) (hl : len ≤ 2097152) (hk0 : k0 ≤ 1000000000) :
    Calls Try.prog 43 #[.agg #[.int .i64 c, .int .i64 kf, .int .i64 kt, .int .i64 kp, .int .i64 kl, .slice a len cap], .int .i64 k0] w fun e w' => e = .returned (.int .i64 (k0 + len : Nat)) ∧ Own w' base a len cap (marks k0 len) ∧ w.grownBy w' ((Value.slice a len cap).ownBlock) := by
  have K := Lib.hid (fun o => markPacket_any kf kt kp kl a len cap base k0 zs (w.alloc o) (h.alloc o) hl hk0)
  go_enter Try.func43, Try.ntmps43
  go_wp2_with fail
  refine (K.out _).mono ?_
  rintro e w1 ⟨rfl, ho, hg⟩
  go_wp2
  go_ret
  exact ⟨rfl, ho, grown_trans (grown_alloc _ _) hg⟩

theorem eqPacketR_any (c : Int) (kf kt kp kl : Int) (a b : Option Addr) (la ca lb cb : Nat) (zs : List Int) (w : World) (ha : Rd w a la ca zs) (hb : Rd w b lb cb zs) :
    Calls Try.prog 40 #[.agg #[.int .i64 c, .int .i64 kf, .int .i64 kt, .int .i64 kp, .int .i64 kl, .slice a la ca], .agg #[.int .i64 c, .int .i64 kf, .int .i64 kt, .int .i64 kp, .int .i64 kl, .slice b lb cb]] w fun e w' => e = .returned (.bool true) ∧ Below w.heap.size w w' := by
  have K := Lib.hid (fun W (hW : Below w.heap.size w W) => eqPacket_t kf kt kp kl a b la ca lb cb zs W (ha.below hW) (hb.below hW))
  go_enter Try.func40, Try.ntmps40
  go_wp2_with fail
  refine (K.out _ (((Below.refl _ _).alloc (Nat.le_refl _) _).alloc (by simp) _)).mono ?_
  rintro e w1 ⟨rfl, hb1⟩
  go_wp2
  go_ret
  exact ⟨rfl, (((Below.refl _ _).alloc (Nat.le_refl _) _).alloc (by simp) _).trans (hb1.mono (by simp; omega))⟩

set_option maxHeartbeats 4000000 in
theorem exactReadPacket (a : Option Addr) (len cap : Nat) (zs : List Int) (c : Int) (kf kt kp kl : Int) (rs : List Int) (w : World) (h : Rd w a len cap zs)
    (hS : ∀ (a' : Option Addr) (l' c' : Nat) (W : World), Rd W a' l' c' zs → Calls Try.prog 22 #[.slice a' l' c'] W (PacketRes W c kf kt kp kl rs))
    (hI : ∀ (a' : Option Addr) (l' c' : Nat) (W : World), Rd W a' l' c' zs → Calls Try.prog 15 #[.slice a' l' c'] W (PacketRes W c kf kt kp kl rs)) (hB : rs.length ≤ 700) :
    Calls Try.prog 6 #[.slice a len cap] w fun e w' => e = .returned (.bool true) ∧ Below w.heap.size w w' := by
  by_cases hbig : len ≤ 1048576
  · have K1 := Lib.hid hS
    have K2 := Lib.hid hI
    have hrs : rs.length ≤ 700 := hB
    have T := Lib.hid (fun W (hW : Below w.heap.size w W) => toByteS_any a len cap zs W (h.below hW) hbig)
    have hq : eqL zs zs = true := decide_eq_true rfl
    clear hS hI hB h
    go_enter Try.func6, Try.ntmps6
    go_wp2_with fail
    refine (T.out _ (Below.refl _ _)).mono ?_
    rintro e w1 ⟨rfl, o1, b1⟩
    have B1 := Lib.hid b1
    clear b1
    go_wp2_with fail
    refine (K1.out _ _ _ _ o1.rd).mono ?_
    rintro e w2 ⟨a2, l2, k2, rfl, o2, b2⟩
    have B2 : Hid (Below w.heap.size w (w2.alloc (.cells #[.int .i64 c, .int .i64 kf, .int .i64 kt, .int .i64 kp, .int .i64 kl, .slice a2 l2 k2] 32))) := (B1.out.trans (b2.mono B1.out.size)).alloc (Nat.le_trans B1.out.size b2.size) _
    have x2 := Box.new w2 32 #[.int .i64 c, .int .i64 kf, .int .i64 kt, .int .i64 kp, .int .i64 kl, .slice a2 l2 k2]
    have p2 := o2.alloc (.cells #[.int .i64 c, .int .i64 kf, .int .i64 kt, .int .i64 kp, .int .i64 kl, .slice a2 l2 k2] 32)
    have s2 := Nat.le_trans B1.out.size b2.size
    have sW2 : (w2.alloc (.cells #[.int .i64 c, .int .i64 kf, .int .i64 kt, .int .i64 kp, .int .i64 kl, .slice a2 l2 k2] 32)).heap.size = w2.heap.size + 1 := World.size_alloc _ _
    have SW2 := Lib.hid sW2
    clear b2 o1 sW2
    generalize hW2 : w2.alloc (.cells #[.int .i64 c, .int .i64 kf, .int .i64 kt, .int .i64 kp, .int .i64 kl, .slice a2 l2 k2] 32) = W2 at *
    go_wp2_with fail
    refine (T.out _ B2.out).mono ?_
    rintro e w3 ⟨rfl, o3, b3⟩
    rw [SW2.out] at o3
    have B3 : Hid (Below w.heap.size w w3) := B2.out.trans (b3.mono B2.out.size)
    have x3 := x2.below b3 x2.lt
    have p3 := p2.below b3
    have s3 := (o3.lt _ rfl).2
    dsimp only at s3
    clear b3 x2 p2 hW2
    rw [SW2.out]
    go_wp2_with fail
    refine (K2.out _ _ _ _ o3.rd).mono ?_
    rintro e w4 ⟨a4, l4, k4, rfl, o4, b4⟩
    have hl4 : l4 ≤ 700 := by rw [← o4.length]; exact hrs
    have B4 : Hid (Below w.heap.size w (w4.alloc (.cells #[.int .i64 c, .int .i64 kf, .int .i64 kt, .int .i64 kp, .int .i64 kl, .slice a4 l4 k4] 32))) := (B3.out.trans (b4.mono B3.out.size)).alloc (Nat.le_trans B3.out.size b4.size) _
    have x4 := (x3.below b4 x3.lt).alloc (.cells #[.int .i64 c, .int .i64 kf, .int .i64 kt, .int .i64 kp, .int .i64 kl, .slice a4 l4 k4] 32)
    have p4 := (p3.below b4).alloc (.cells #[.int .i64 c, .int .i64 kf, .int .i64 kt, .int .i64 kp, .int .i64 kl, .slice a4 l4 k4] 32)
    have q4 := (o3.below b4).alloc (.cells #[.int .i64 c, .int .i64 kf, .int .i64 kt, .int .i64 kp, .int .i64 kl, .slice a4 l4 k4] 32)
    have r4 := o4.alloc (.cells #[.int .i64 c, .int .i64 kf, .int .i64 kt, .int .i64 kp, .int .i64 kl, .slice a4 l4 k4] 32)
    have y4 := Box.new w4 32 #[.int .i64 c, .int .i64 kf, .int .i64 kt, .int .i64 kp, .int .i64 kl, .slice a4 l4 k4]
    obtain ⟨z4, c0, c1, c2, c3, c4, c5⟩ := (x3.below b4 x3.lt).six
    have s4 := b4.size
    clear b4 x3 p3
    go_wp2_with fail
    refine (eqPacketR_any _ _ _ _ _ _ _ _ _ _ _ rs _ r4.rd p4.rd).mono ?_
    rintro e w5 ⟨rfl, b5⟩
    have B5 : Hid (Below w.heap.size w w5) := B4.out.trans (b5.mono B4.out.size)
    have x5 := x4.below b5 x4.lt
    have y5 := y4.below b5 y4.lt
    have p5 := p4.below b5
    have q5 := q4.below b5
    have r5 := r4.below b5
    clear b5 x4 y4 p4 q4 r4 z4 c0 c1 c2 c3 c4 c5
    go_wp2_with fail
    refine (T.out _ B5.out).mono ?_
    rintro e w6 ⟨rfl, o6, b6⟩
    have B6 : Hid (Below w.heap.size w w6) := B5.out.trans (b6.mono B5.out.size)
    have x6 := x5.below b6 x5.lt
    have y6 := y5.below b6 y5.lt
    have p6 := p5.below b6
    have q6 := q5.below b6
    have r6 := r5.below b6
    clear b6 x5 y5 p5 q5 r5
    go_wp2_with fail
    refine (eqByteS_any _ _ _ _ _ _ zs zs _ q6.rd o6.rd).mono ?_
    rintro e w7 ⟨rfl, b7⟩
    have B7 : Hid (Below w.heap.size w w7) := B6.out.trans (b7.mono B6.out.size)
    have x7 := x6.below b7 x6.lt
    have y7 := y6.below b7 y6.lt
    have p7 := p6.below b7
    have q7 := q6.below b7
    have r7 := r6.below b7
    clear b7 x6 y6 p6 q6 r6 o6
    go_wp2_with fail
    refine (markByteS_any _ _ _ _ 1 _ _ q7 (by omega) (by omega)).mono ?_
    rintro e w8 ⟨rfl, q8, g8⟩
    have x8 := x7.grown g8 (by simp [Value.ownBlock])
    have y8 := y7.grown g8 (by simp [Value.ownBlock]; omega)
    have p8 := p7.grown g8 (fun x hx e => by have := o2.lt x hx; simp [Value.ownBlock] at e; omega)
    have r8 := r7.grown g8 (fun x hx e => by have := o4.lt x hx; simp [Value.ownBlock] at e; omega)
    have B8 : Hid (Below w.heap.size w w8) := B7.out.grown g8 (by have := B7.out.size; omega) (fun k e => by simp [Value.ownBlock] at e; omega)
    have hn : ¬ ((1 + len : Nat) : Int) < 0 := by omega
    obtain ⟨zx, cx0, cx1, cx2, cx3, cx4, cx5⟩ := x8.six
    obtain ⟨zy, cy0, cy1, cy2, cy3, cy4, cy5⟩ := y8.six
    clear g8 x7 y7 p7 q7 r7 q8
    go_wp2_with fail
    refine (eqPacketR_any _ _ _ _ _ _ _ _ _ _ _ rs _ r8.rd p8.rd).mono ?_
    rintro e w9 ⟨rfl, b9⟩
    have B9 : Hid (Below w.heap.size w w9) := B8.out.trans (b9.mono B8.out.size)
    have x9 := x8.below b9 x8.lt
    have y9 := y8.below b9 y8.lt
    have p9 := p8.below b9
    have r9 := r8.below b9
    obtain ⟨zy', cy0', cy1', cy2', cy3', cy4', cy5'⟩ := y9.six
    clear b9 x8 y8 p8 r8 zx cx0 cx1 cx2 cx3 cx4 cx5 zy cy0 cy1 cy2 cy3 cy4 cy5
    go_wp2_with fail
    refine (markPacketR_any _ _ _ _ _ _ _ _ _ 1 _ _ r9 (by omega) (by omega)).mono ?_
    rintro e wa ⟨rfl, ra, ga⟩
    have ya := y9.grown ga (ne_block o4 _ (.inr (Nat.le_refl _)))
    have xa := x9.grown ga (ne_block o4 _ (.inl (by omega)))
    have pa := p9.grown ga (ne_of_lt_own o2 o4 (by omega))
    have Ba : Hid (Below w.heap.size w wa) := B9.out.grown ga (by have := B9.out.size; omega) (fun k e => by
      cases a4 with
      | none => simp [Value.ownBlock] at e
      | some y => simp [Value.ownBlock] at e; have := o4.lt y rfl; omega)
    obtain ⟨zya, cya0, cya1, cya2, cya3, cya4, cya5⟩ := ya.six
    clear ga x9 y9 p9 r9 zy' cy0' cy1' cy2' cy3' cy4' cy5'
    go_wp2_with fail
    refine (heldPacketR_any _ _ _ _ _ _ _ _ 1 _ ra.rd (by omega) (by omega)).mono ?_
    rintro e wb ⟨rfl, bb⟩
    have Bb : Hid (Below w.heap.size w wb) := Ba.out.trans (bb.mono Ba.out.size)
    have xb := xa.below bb xa.lt
    have yb := ya.below bb ya.lt
    have pb := pa.below bb
    have rb := ra.below bb
    have hn2 : ¬ ((1 + l4 : Nat) : Int) < 0 := by omega
    have hne : (((1 + l4 : Nat) : Int) != ((1 + l4 : Nat) : Int)) = false := by simp
    clear bb xa ya pa ra zya cya0 cya1 cya2 cya3 cya4 cya5
    go_wp2_with fail
    refine (T.out _ Bb.out).mono ?_
    rintro e wc ⟨rfl, oc, bc⟩
    have Bc : Hid (Below w.heap.size w wc) := Bb.out.trans (bc.mono Bb.out.size)
    have xc := xb.below bc xb.lt
    have yc := yb.below bc yb.lt
    have pc := pb.below bc
    have rc := rb.below bc
    clear bc xb yb pb rb
    go_wp2_with fail
    refine (K2.out _ _ _ _ oc.rd).mono ?_
    rintro e wd ⟨ad, ld, kd, rfl, od, bd⟩
    have Bd : Hid (Below w.heap.size w (wd.alloc (.cells #[.int .i64 c, .int .i64 kf, .int .i64 kt, .int .i64 kp, .int .i64 kl, .slice ad ld kd] 32))) := (Bc.out.trans (bd.mono Bc.out.size)).alloc (Nat.le_trans Bc.out.size bd.size) _
    have yd := (yc.below bd yc.lt).alloc (.cells #[.int .i64 c, .int .i64 kf, .int .i64 kt, .int .i64 kp, .int .i64 kl, .slice ad ld kd] 32)
    have pd := (pc.below bd).alloc (.cells #[.int .i64 c, .int .i64 kf, .int .i64 kt, .int .i64 kp, .int .i64 kl, .slice ad ld kd] 32)
    have rd := (rc.below bd).alloc (.cells #[.int .i64 c, .int .i64 kf, .int .i64 kt, .int .i64 kp, .int .i64 kl, .slice ad ld kd] 32)
    obtain ⟨zxd, cxd0, cxd1, cxd2, cxd3, cxd4, cxd5⟩ := (xc.below bd xc.lt).six
    clear bd xc yc pc rc oc
    go_wp2_with fail
    refine (eqPacketR_any _ _ _ _ _ _ _ _ _ _ _ rs _ (od.alloc _).rd pd.rd).mono ?_
    rintro e we ⟨rfl, be'⟩
    have Be : Hid (Below w.heap.size w we) := Bd.out.trans (be'.mono Bd.out.size)
    have ye := yd.below be' yd.lt
    have re := rd.below be'
    obtain ⟨zye, cye0, cye1, cye2, cye3, cye4, cye5⟩ := ye.six
    clear be' yd pd rd zxd cxd0 cxd1 cxd2 cxd3 cxd4 cxd5
    go_wp2_with fail
    refine (heldPacketR_any _ _ _ _ _ _ _ _ 1 _ re.rd (by omega) (by omega)).mono ?_
    rintro e wf ⟨rfl, bf⟩
    have Bf : Hid (Below w.heap.size w wf) := Be.out.trans (bf.mono Be.out.size)
    clear bf
    go_wp2
    go_ret
    exact ⟨rfl, Bf.out⟩
  · go_enter Try.func6, Try.ntmps6
    go_wp2
    go_ret
    exact ⟨rfl, Below.refl _ _⟩
end Go.Proofs.Ytgjkbaplfbiomaa

namespace Go.Proofs.Ytgjkbaplfbiomaa
open Go.ChangeShapes Go.WideShapes Go.ChangeAt Go.RowKit

theorem szEcho_t (er : Bool) (ei es : Int) (a : Option Addr) (len cap : Nat) (l : Int) (w : World) (h : (len : Int) ≤ l) (hl : l ≤ 1048576) :
    Calls Try.prog 45 #[.agg #[.bool er, .int .i64 ei, .int .i64 es, .slice a len cap], .int .i64 l] w fun e w' => e = .returned (.int .i64 (l - len)) ∧ Below w.heap.size w w' := by
  have K := Lib.hid (fun W => szByteS_t a len cap l W h hl)
  have e1 : decide (l - len < 0) = false := decide_eq_false (by omega)
  go_enter Try.func45, Try.ntmps45
  go_wp2_with fail
  refine (K.out _).mono ?_
  rintro e w1 ⟨rfl, rfl⟩
  go_wp2
  go_ret
  exact ⟨rfl, (Below.refl _ _).alloc (Nat.le_refl _) _⟩

theorem szEcho_f (er : Bool) (ei es : Int) (a : Option Addr) (len cap : Nat) (l : Int) (w : World) (h : ¬ (len : Int) ≤ l) (h0 : 0 ≤ l) (hl : l ≤ 1048576) (hm : len ≤ maxLen) :
    Calls Try.prog 45 #[.agg #[.bool er, .int .i64 ei, .int .i64 es, .slice a len cap], .int .i64 l] w fun e w' => e = .returned (.int .i64 (-1)) ∧ Below w.heap.size w w' := by
  have K := Lib.hid (fun W => szByteS_f a len cap l W h h0 hl hm)
  go_enter Try.func45, Try.ntmps45
  go_wp2_with fail
  refine (K.out _).mono ?_
  rintro e w1 ⟨rfl, rfl⟩
  go_wp2
  go_ret
  exact ⟨rfl, (Below.refl _ _).alloc (Nat.le_refl _) _⟩

/-- a frame of these numbers and bytes whose body is of this call's own -/
def EchoOut (w : World) (er : Bool) (ei es : Int) (zs : List Int) (e : Ending) (w' : World) : Prop :=
  ∃ a' l' c', e = .returned (.agg #[.bool er, .int .i64 ei, .int .i64 es, .slice a' l' c']) ∧ Own w' w.heap.size a' l' c' zs ∧ Below w.heap.size w w'

set_option maxHeartbeats 1000000 in
theorem toEcho_any (er : Bool) (ei es : Int) (a : Option Addr) (len cap : Nat) (zs : List Int) (w : World) (h : Rd w a len cap zs) (hl : len ≤ 1048576) :
    Calls Try.prog 47 #[.agg #[.bool er, .int .i64 ei, .int .i64 es, .slice a len cap]] w (EchoOut w er ei es zs) := by
  have T := Lib.hid (fun W (hW : Below w.heap.size w W) => toByteS_any a len cap zs W (h.below hW) hl)
  clear h
  have B0 := Lib.hid ((((Below.refl w.heap.size w).alloc (Nat.le_refl _) (.cells #[.bool er, .int .i64 ei, .int .i64 es, .slice a len cap] 59)).alloc (by simp) (.cells #[.bool false, .int .i64 0, .int .i64 0, .slice none 0 0] 35)).alloc (by simp; omega) (.cells #[.bool er, .int .i64 ei, .int .i64 es, .slice none 0 0] 35))
  have R0 := Lib.hid ((Box.new (w.alloc (.cells #[.bool er, .int .i64 ei, .int .i64 es, .slice a len cap] 59)) 35 #[.bool false, .int .i64 0, .int .i64 0, .slice none 0 0]).alloc (.cells #[.bool er, .int .i64 ei, .int .i64 es, .slice none 0 0] 35))
  have U0 := Lib.hid (Box.new ((w.alloc (.cells #[.bool er, .int .i64 ei, .int .i64 es, .slice a len cap] 59)).alloc (.cells #[.bool false, .int .i64 0, .int .i64 0, .slice none 0 0] 35)) 35 #[.bool er, .int .i64 ei, .int .i64 es, .slice none 0 0])
  go_enter Try.func47, Try.ntmps47
  go_wp2_with fail
  refine (T.out _ B0.out).mono ?_
  rintro e w1 ⟨rfl, o1, b1⟩
  have R1 := R0.out.below b1 R0.out.lt
  have U1 := U0.out.below b1 U0.out.lt
  simp only [World.size_alloc] at R1 U1 o1
  have B1 := Lib.hid (B0.out.trans (b1.mono B0.out.size))
  obtain ⟨zr, r0, r1, r2, r3⟩ := R1.four
  obtain ⟨zu, u0, u1, u2, u3⟩ := U1.four
  have fr0 := R1.frozen 0
  have fr1 := R1.frozen 1
  have fr2 := R1.frozen 2
  have fr3 := R1.frozen 3
  have fu3 := U1.frozen 3
  have O1 := Lib.hid o1
  simp only [World.size_alloc]
  clear b1 o1 B0 R0 U0 R1 U1
  go_wp2
  refine bodyPost_ret (v := .agg #[.bool er, .int .i64 ei, .int .i64 es, .slice (some ⟨w.heap.size + 1 + 1 + 1, 0, none⟩) len len]) (by simp [results, Try.results47, go_sem, r0, r1, r2, r3]) rfl ⟨_, _, _, rfl, ?_, ((((B1.out.setCell (by simp; omega) _).setCell (by simp) _).setCell (by simp) _).setCell (by simp) _).setCell (by simp) _⟩
  exact (((((O1.out.setOther _ _ (by rintro x hx; cases hx; dsimp only; omega)).setOther _ _ (by rintro x hx; cases hx; dsimp only; omega)).setOther _ _ (by rintro x hx; cases hx; dsimp only; omega)).setOther _ _ (by rintro x hx; cases hx; dsimp only; omega)).setOther _ _ (by rintro x hx; cases hx; dsimp only; omega)).rebase (by omega)

theorem eqEcho_t (er : Bool) (ei es : Int) (a b : Option Addr) (la ca lb cb : Nat) (zs : List Int) (w : World) (ha : Rd w a la ca zs) (hb : Rd w b lb cb zs) :
    Calls Try.prog 48 #[.agg #[.bool er, .int .i64 ei, .int .i64 es, .slice a la ca], .agg #[.bool er, .int .i64 ei, .int .i64 es, .slice b lb cb]] w fun e w' => e = .returned (.bool true) ∧ Below w.heap.size w w' := by
  have hq : eqL zs zs = true := decide_eq_true rfl
  have K := Lib.hid (fun W (hW : Below w.heap.size w W) => eqByteS_any a b la ca lb cb zs zs W (ha.below hW) (hb.below hW))
  rw [hq] at K
  have eer : (er != er) = false := by simp
  go_enter Try.func48, Try.ntmps48
  go_wp2_with fail
  refine (K.out _ (((Below.refl _ _).alloc (Nat.le_refl _) _).alloc (by simp) _)).mono ?_
  rintro e w1 ⟨rfl, hb1⟩
  go_wp2
  go_ret
  exact ⟨rfl, (((Below.refl _ _).alloc (Nat.le_refl _) _).alloc (by simp) _).trans (hb1.mono (by simp; omega))⟩

set_option maxHeartbeats 1000000 in
theorem exactEchoFault (er : Bool) (ei es : Int) (a : Option Addr) (len cap : Nat) (zs : List Int) (w : World) (hr : Rd w a len cap zs)
    (c : Int) (hS : ∀ (a' : Option Addr) (l' c' : Nat) (W : World), Rd W a' l' c' zs → Calls Try.prog 46 #[.agg #[.bool er, .int .i64 ei, .int .i64 es, .slice a' l' c']] W fun e w' => e = .returned (.int .i64 c) ∧ Below W.heap.size W w')
    (h : ∀ (a' : Option Addr) (l' c' : Nat) (W : World), Rd W a' l' c' zs → Calls Try.prog 27 #[.agg #[.bool er, .int .i64 ei, .int .i64 es, .slice a' l' c']] W fun e w' => e = .returned (.int .i64 c) ∧ Below W.heap.size W w') :
    Calls Try.prog 7 #[.agg #[.bool er, .int .i64 ei, .int .i64 es, .slice a len cap]] w fun e w' => e = .returned (.bool true) ∧ Below w.heap.size w w' := by
  have hm : len ≤ maxLen := Nat.le_trans hr.le hr.max
  have B0 := Lib.hid ((Below.refl w.heap.size w).alloc (Nat.le_refl _) (.cells #[.bool er, .int .i64 ei, .int .i64 es, .slice a len cap] 59))
  have A0 := Lib.hid (Box.new w 59 #[.bool er, .int .i64 ei, .int .i64 es, .slice a len cap])
  by_cases hbig : (len : Int) ≤ 1048576
  · have K := Lib.hid h
    have S := Lib.hid hS
    have T := Lib.hid (fun W (hW : Below w.heap.size w W) => toEcho_any er ei es a len cap zs W (hr.below hW) (by omega))
    have Z := Lib.hid (fun W => szEcho_t er ei es a len cap 1048576 W hbig (by omega))
    have hn : decide ((1048576 : Int) - len < 0) = false := decide_eq_false (by omega)
    have hne : (c != c) = false := by simp
    clear h hS hr
    go_enter Try.func7, Try.ntmps7
    go_wp2_with fail
    refine (Z.out _).mono ?_
    rintro e w1 ⟨rfl, b1⟩
    have B1 := Lib.hid (B0.out.trans (b1.mono B0.out.size))
    have A1 := Lib.hid (A0.out.below b1 A0.out.lt)
    clear b1 B0 A0
    obtain ⟨zA, p0, p1, p2, p3⟩ := A1.out.four
    go_wp2_with fail
    refine (T.out _ B1.out).mono ?_
    rintro e w2 ⟨a2, l2, c2, rfl, o2, b2⟩
    have B2 := Lib.hid (B1.out.trans (b2.mono B1.out.size))
    have A2 := Lib.hid (A1.out.below b2 A1.out.lt)
    clear b2 B1 A1 zA p0 p1 p2 p3
    go_wp2_with fail
    refine (S.out _ _ _ _ o2.rd).mono ?_
    rintro e w3 ⟨rfl, b3⟩
    have B3 := Lib.hid (B2.out.trans (b3.mono B2.out.size))
    have A3 := Lib.hid (A2.out.below b3 A2.out.lt)
    clear b3 B2 A2 o2
    obtain ⟨zA, p0, p1, p2, p3⟩ := A3.out.four
    go_wp2_with fail
    refine (T.out _ B3.out).mono ?_
    rintro e w4 ⟨a4, l4, c4, rfl, o4, b4⟩
    have B4 := Lib.hid ((B3.out.trans (b4.mono B3.out.size)).alloc (Nat.le_trans B3.out.size b4.size) (.cells #[.bool er, .int .i64 ei, .int .i64 es, .slice a4 l4 c4] 35))
    have A4 := Lib.hid ((A3.out.below b4 A3.out.lt).alloc (.cells #[.bool er, .int .i64 ei, .int .i64 es, .slice a4 l4 c4] 35))
    have X4 := Lib.hid (Box.new w4 35 #[.bool er, .int .i64 ei, .int .i64 es, .slice a4 l4 c4])
    have O4 := Lib.hid (o4.alloc (.cells #[.bool er, .int .i64 ei, .int .i64 es, .slice a4 l4 c4] 35))
    clear b4 B3 A3 o4 zA p0 p1 p2 p3
    generalize hW4 : w4.alloc (.cells #[.bool er, .int .i64 ei, .int .i64 es, .slice a4 l4 c4] 35) = W4 at *
    obtain ⟨zX, x0, x1, x2, x3⟩ := X4.out.four
    go_wp2_with fail
    clear hW4
    refine (K.out _ _ _ _ O4.out.rd).mono ?_
    rintro e w5 ⟨rfl, b5⟩
    have B5 := Lib.hid (B4.out.trans (b5.mono B4.out.size))
    have A5 := Lib.hid (A4.out.below b5 A4.out.lt)
    have X5 := Lib.hid (X4.out.below b5 X4.out.lt)
    have O5 := Lib.hid (O4.out.below b5)
    clear b5 B4 A4 X4 O4 zX x0 x1 x2 x3
    obtain ⟨zA, p0, p1, p2, p3⟩ := A5.out.four
    obtain ⟨zX, x0, x1, x2, x3⟩ := X5.out.four
    go_wp2_with fail
    go_region_held3 (fun W => W.cell? ⟨w.heap.size, 0, none⟩ = some (.bool er) ∧ W.cell? ⟨w.heap.size, 1, none⟩ = some (.int .i64 ei) ∧ W.cell? ⟨w.heap.size, 2, none⟩ = some (.int .i64 es) ∧ W.cell? ⟨w.heap.size, 3, none⟩ = some (.slice a len cap) ∧ W.cell? ⟨w4.heap.size, 0, none⟩ = some (.bool er) ∧ W.cell? ⟨w4.heap.size, 1, none⟩ = some (.int .i64 ei) ∧ W.cell? ⟨w4.heap.size, 2, none⟩ = some (.int .i64 es) ∧ W.cell? ⟨w4.heap.size, 3, none⟩ = some (.slice a4 l4 c4))
      (first | go_keep | (go_split_ands; exact ⟨keepK hb (by assumption), keepK hb (by assumption), keepK hb (by assumption), keepK hb (by assumption), keepK hb (by assumption), keepK hb (by assumption), keepK hb (by assumption), keepK hb (by assumption)⟩))
      (first
        | (go_at_call 47; refine (T.out _ B5.out.drew).mono ?_; rintro e w6 ⟨a6, l6, c6, rfl, o6, b6⟩; have hb := b6)
        | (go_at_call 48; refine (eqEcho_t _ _ _ _ _ _ _ _ _ zs _ (O5.out.drew.below b6).rd o6.rd).mono ?_; rintro e w7 ⟨rfl, b7⟩; have hb := b7))
    go_wp2
    go_ret
    exact ⟨rfl, (B5.out.drew.trans (b6.mono B5.out.drew.size)).trans (b7.mono (Nat.le_trans B5.out.drew.size b6.size))⟩
  · have Z := Lib.hid (fun W => szEcho_f er ei es a len cap 1048576 W hbig (by omega) (by omega) hm)
    clear h hS hr
    go_enter Try.func7, Try.ntmps7
    go_wp2_with fail
    refine (Z.out _).mono ?_
    rintro e w1 ⟨rfl, b1⟩
    have B1 := Lib.hid (B0.out.trans (b1.mono B0.out.size))
    clear b1 B0 A0
    go_wp2
    go_ret
    exact ⟨rfl, B1.out⟩

theorem markEcho_any (er : Bool) (ei es : Int) (a : Option Addr) (len cap base k0 : Nat) (zs : List Int) (w : World) (h : Own w base a len cap zs) (hl : len ≤ 2097152) (hk0 : k0 ≤ 1000000000) :
    Calls Try.prog 49 #[.agg #[.bool er, .int .i64 ei, .int .i64 es, .slice a len cap], .int .i64 k0] w fun e w' => e = .returned (.int .i64 (k0 + len : Nat)) ∧ Own w' base a len cap (marks k0 len) ∧ w.grownBy w' ((Value.slice a len cap).ownBlock) := by
  have K := Lib.hid (fun o => markByteS_any a len cap base k0 zs (w.alloc o) (h.alloc o) hl hk0)
  go_enter Try.func49, Try.ntmps49
  go_wp2_with fail
  refine (K.out _).mono ?_
  rintro e w1 ⟨rfl, ho, hg⟩
  go_wp2
  go_ret
  exact ⟨rfl, ho, grown_trans (grown_alloc _ _) hg⟩

set_option maxHeartbeats 4000000 in
theorem exactPackEcho (er : Bool) (ei es : Int) (a : Option Addr) (len cap : Nat) (zs : List Int) (w : World) (hr : Rd w a len cap zs)
    (c : Int) (ys : List Int) (hyl : ys.length ≤ 700) (hS : ∀ (a' : Option Addr) (l' c' : Nat) (W : World), Rd W a' l' c' zs → Calls Try.prog 24 #[.agg #[.bool er, .int .i64 ei, .int .i64 es, .slice a' l' c']] W (Packed W c ys))
    (h : ∀ (a' : Option Addr) (l' c' : Nat) (W : World), Rd W a' l' c' zs → Calls Try.prog 17 #[.agg #[.bool er, .int .i64 ei, .int .i64 es, .slice a' l' c']] W (Packed W c ys)) :
    Calls Try.prog 8 #[.agg #[.bool er, .int .i64 ei, .int .i64 es, .slice a len cap]] w fun e w' => e = .returned (.bool true) ∧ Below w.heap.size w w' := by
  have hm : len ≤ maxLen := Nat.le_trans hr.le hr.max
  have B0 := Lib.hid ((Below.refl w.heap.size w).alloc (Nat.le_refl _) (.cells #[.bool er, .int .i64 ei, .int .i64 es, .slice a len cap] 59))
  have A0 := Lib.hid (Box.new w 59 #[.bool er, .int .i64 ei, .int .i64 es, .slice a len cap])
  by_cases hbig : (len : Int) ≤ 1048576
  · have K := Lib.hid h
    have S := Lib.hid hS
    have T := Lib.hid (fun W (hW : Below w.heap.size w W) => toEcho_any er ei es a len cap zs W (hr.below hW) (by omega))
    have Z := Lib.hid (fun W => szEcho_t er ei es a len cap 1048576 W hbig (by omega))
    have hn : decide ((1048576 : Int) - len < 0) = false := decide_eq_false (by omega)
    have HZ := Lib.hid hr.length
    clear h hS hr
    go_enter Try.func8, Try.ntmps8
    go_wp2_with fail
    refine (Z.out _).mono ?_
    rintro e w1 ⟨rfl, b1⟩
    have A1 := Lib.hid (A0.out.below b1 A0.out.lt)
    have B1 := Lib.hid (B0.out.trans (b1.mono B0.out.size))
    clear b1 A0 B0
    obtain ⟨pz, p0, p1, p2, p3⟩ := A1.out.four
    go_wp2_with fail
    refine (T.out _ B1.out).mono ?_
    rintro e w2 ⟨a2, l2, c2, rfl, o2, b2⟩
    clear pz p0 p1 p2 p3
    have A2 := Lib.hid (A1.out.below b2 A1.out.lt)
    have B2 := Lib.hid (B1.out.trans (b2.mono B1.out.size))
    clear b2 A1 B1
    go_wp2_with fail
    refine (S.out _ _ _ _ o2.rd).mono ?_
    rintro e w3 ⟨a3, l3, c3, rfl, o3, b3⟩
    have A3 := Lib.hid ((A2.out.below b3 A2.out.lt).alloc (.cells #[.int .i64 c, .slice a3 l3 c3] 28))
    have B3 := Lib.hid ((B2.out.trans (b3.mono B2.out.size)).alloc (Nat.le_trans B2.out.size b3.size) (.cells #[.int .i64 c, .slice a3 l3 c3] 28))
    have X3 := Lib.hid (Box.new w3 28 #[.int .i64 c, .slice a3 l3 c3])
    have O3 := Lib.hid (o3.alloc (.cells #[.int .i64 c, .slice a3 l3 c3] 28))
    clear b3 o2 o3 A2 B2
    generalize hW : w3.alloc (.cells #[.int .i64 c, .slice a3 l3 c3] 28) = W3 at *
    obtain ⟨pz, p0, p1, p2, p3⟩ := A3.out.four
    go_wp2_with fail
    clear hW
    refine (T.out _ B3.out).mono ?_
    rintro e w4 ⟨a4, l4, c4, rfl, o4, b4⟩
    have hl4 : l4 ≤ 1048576 := by have := o4.length; have := HZ.out; omega
    clear pz p0 p1 p2 p3
    have NA := Lib.hid (ne_block o4 w.heap.size (.inl A3.out.lt))
    have NX := Lib.hid (ne_block o4 w3.heap.size (.inl X3.out.lt))
    have NO := Lib.hid (ne_of_lt_own O3.out o4 (Nat.le_refl _))
    have NY := Lib.hid (ne_block o4 w4.heap.size (.inr (Nat.le_refl _)))
    have NB := Lib.hid (own_rows o4 w.heap.size B3.out.size)
    have N4 := Lib.hid o4
    have A4 := Lib.hid ((A3.out.below b4 A3.out.lt).alloc (.cells #[.bool er, .int .i64 ei, .int .i64 es, .slice a4 l4 c4] 35))
    have B4 := Lib.hid ((B3.out.trans (b4.mono B3.out.size)).alloc (Nat.le_trans B3.out.size b4.size) (.cells #[.bool er, .int .i64 ei, .int .i64 es, .slice a4 l4 c4] 35))
    have X4 := Lib.hid ((X3.out.below b4 X3.out.lt).alloc (.cells #[.bool er, .int .i64 ei, .int .i64 es, .slice a4 l4 c4] 35))
    have O4 := Lib.hid ((O3.out.below b4).alloc (.cells #[.bool er, .int .i64 ei, .int .i64 es, .slice a4 l4 c4] 35))
    have Y4 := Lib.hid (Box.new w4 35 #[.bool er, .int .i64 ei, .int .i64 es, .slice a4 l4 c4])
    have Q4 := Lib.hid (o4.alloc (.cells #[.bool er, .int .i64 ei, .int .i64 es, .slice a4 l4 c4] 35))
    have s4 : w4.heap.size ≤ (w4.alloc (.cells #[.bool er, .int .i64 ei, .int .i64 es, .slice a4 l4 c4] 35)).heap.size := by simp
    clear b4 o4 A3 B3 X3 O3
    generalize hW : w4.alloc (.cells #[.bool er, .int .i64 ei, .int .i64 es, .slice a4 l4 c4] 35) = W4 at *
    obtain ⟨xz, x0, x1, x2, x3⟩ := Y4.out.four
    go_wp2_with fail
    clear hW
    refine (K.out _ _ _ _ Q4.out.rd).mono ?_
    rintro e w5 ⟨a5, l5, c5, rfl, o5, b5⟩
    have hl5 : l5 ≤ 700 := by rw [← o5.length]; exact hyl
    clear xz x0 x1 x2 x3
    have MA := Lib.hid (ne_block o5 w.heap.size (.inl A4.out.lt))
    have MX := Lib.hid (ne_block o5 w3.heap.size (.inl X4.out.lt))
    have MO := Lib.hid (ne_of_lt_own O4.out o5 (Nat.le_refl _))
    have MY := Lib.hid (ne_block o5 w4.heap.size (.inl Y4.out.lt))
    have MQ := Lib.hid (ne_of_lt_own Q4.out o5 (Nat.le_refl _))
    have MG := Lib.hid (ne_block o5 w5.heap.size (.inr (Nat.le_refl _)))
    have MB := Lib.hid (own_rows o5 w.heap.size B4.out.size)
    have NP := Lib.hid (ne_of_gt_own o5 N4.out s4)
    have NG := Lib.hid (ne_block N4.out w5.heap.size (.inr (Nat.le_trans s4 b5.size)))
    have A5 := Lib.hid ((A4.out.below b5 A4.out.lt).alloc (.cells #[.int .i64 c, .slice a5 l5 c5] 28))
    have B5 := Lib.hid ((B4.out.trans (b5.mono B4.out.size)).alloc (Nat.le_trans B4.out.size b5.size) (.cells #[.int .i64 c, .slice a5 l5 c5] 28))
    have X5 := Lib.hid ((X4.out.below b5 X4.out.lt).alloc (.cells #[.int .i64 c, .slice a5 l5 c5] 28))
    have O5 := Lib.hid ((O4.out.below b5).alloc (.cells #[.int .i64 c, .slice a5 l5 c5] 28))
    have Y5 := Lib.hid ((Y4.out.below b5 Y4.out.lt).alloc (.cells #[.int .i64 c, .slice a5 l5 c5] 28))
    have Q5 := Lib.hid ((Q4.out.below b5).alloc (.cells #[.int .i64 c, .slice a5 l5 c5] 28))
    have G5 := Lib.hid (Box.new w5 28 #[.int .i64 c, .slice a5 l5 c5])
    have P5 := Lib.hid (o5.alloc (.cells #[.int .i64 c, .slice a5 l5 c5] 28))
    clear b5 o5 N4 s4 A4 B4 X4 O4 Y4 Q4
    generalize hW : w5.alloc (.cells #[.int .i64 c, .slice a5 l5 c5] 28) = W5 at *
    obtain ⟨gz, g0, g1⟩ := G5.out.two
    obtain ⟨xz, x0, x1⟩ := X5.out.two
    go_wp2_with fail
    clear hW
    refine (eqBytes_any _ _ _ _ _ _ _ _ ys ys _ P5.out.rd O5.out.rd rfl rfl).mono ?_
    rintro e w6 ⟨rfl, b6⟩
    clear gz g0 g1 xz x0 x1
    have A6 := Lib.hid (A5.out.below b6 A5.out.lt)
    have B6 := Lib.hid (B5.out.trans (b6.mono B5.out.size))
    have X6 := Lib.hid (X5.out.below b6 X5.out.lt)
    have O6 := Lib.hid (O5.out.below b6)
    have Y6 := Lib.hid (Y5.out.below b6 Y5.out.lt)
    have Q6 := Lib.hid (Q5.out.below b6)
    have G6 := Lib.hid (G5.out.below b6 G5.out.lt)
    have P6 := Lib.hid (P5.out.below b6)
    clear b6 A5 B5 X5 O5 Y5 Q5 G5 P5
    obtain ⟨pz, p0, p1, p2, p3⟩ := A6.out.four
    obtain ⟨xz, x0, x1, x2, x3⟩ := Y6.out.four
    go_wp2_with fail
    go_region_held3 (fun W => W.cell? ⟨w.heap.size, 0, none⟩ = some (.bool er) ∧ W.cell? ⟨w.heap.size, 1, none⟩ = some (.int .i64 ei) ∧ W.cell? ⟨w.heap.size, 2, none⟩ = some (.int .i64 es) ∧ W.cell? ⟨w.heap.size, 3, none⟩ = some (.slice a len cap) ∧ W.cell? ⟨w4.heap.size, 0, none⟩ = some (.bool er) ∧ W.cell? ⟨w4.heap.size, 1, none⟩ = some (.int .i64 ei) ∧ W.cell? ⟨w4.heap.size, 2, none⟩ = some (.int .i64 es) ∧ W.cell? ⟨w4.heap.size, 3, none⟩ = some (.slice a4 l4 c4))
      (first | go_keep | (go_split_ands; exact ⟨keepK hb (by assumption), keepK hb (by assumption), keepK hb (by assumption), keepK hb (by assumption), keepK hb (by assumption), keepK hb (by assumption), keepK hb (by assumption), keepK hb (by assumption)⟩))
      (first
        | (go_at_call 47; refine (T.out _ B6.out.drew).mono ?_; rintro e w7 ⟨a7, l7, c7, rfl, o7, b7⟩; have hb := b7)
        | (go_at_call 48; refine (eqEcho_t _ _ _ _ _ _ _ _ _ zs _ (Q6.out.drew.below b7).rd o7.rd).mono ?_; rintro e w8 ⟨rfl, b8⟩; have hb := b8))
    have b68 : Below w6.drew.heap.size w6.drew w8 := b7.trans (b8.mono b7.size)
    clear hb o7 b7 b8 pz p0 p1 p2 p3 xz x0 x1 x2 x3
    have A8 := Lib.hid ((A6.out.drewB).below b68 A6.out.drewB.lt)
    have B8 := Lib.hid (B6.out.drew.trans (b68.mono B6.out.drew.size))
    have X8 := Lib.hid ((X6.out.drewB).below b68 X6.out.drewB.lt)
    have O8 := Lib.hid (O6.out.drew.below b68)
    have Y8 := Lib.hid ((Y6.out.drewB).below b68 Y6.out.drewB.lt)
    have Q8 := Lib.hid (Q6.out.drew.below b68)
    have G8 := Lib.hid ((G6.out.drewB).below b68 G6.out.drewB.lt)
    have P8 := Lib.hid (P6.out.drew.below b68)
    clear b68 A6 B6 X6 O6 Y6 Q6 G6 P6
    obtain ⟨xz, x0, x1, x2, x3⟩ := Y8.out.four
    go_wp2_with fail
    refine (markEcho_any _ _ _ _ _ _ _ 1 _ _ Q8.out (by omega) (by omega)).mono ?_
    rintro e w9 ⟨rfl, q9, g9⟩
    clear xz x0 x1 x2 x3
    have A9 := Lib.hid (A8.out.grown g9 NA.out)
    have B9 := Lib.hid (B8.out.grown g9 B8.out.size NB.out)
    have X9 := Lib.hid (X8.out.grown g9 NX.out)
    have O9 := Lib.hid (O8.out.grown g9 NO.out)
    have Y9 := Lib.hid (Y8.out.grown g9 NY.out)
    have Q9 := Lib.hid q9
    have G9 := Lib.hid (G8.out.grown g9 NG.out)
    have P9 := Lib.hid (P8.out.grown g9 NP.out)
    clear g9 q9 NA NX NO NY NG NP NB A8 B8 X8 O8 Y8 Q8 G8 P8
    have hk4 : ¬ ((1 + l4 : Nat) : Int) < 0 := by omega
    have hk4d : decide (((1 + l4 : Nat) : Int) < 0) = false := decide_eq_false hk4
    obtain ⟨gz, g0, g1⟩ := G9.out.two
    obtain ⟨xz, x0, x1⟩ := X9.out.two
    go_wp2_with fail
    refine (eqBytes_any _ _ _ _ _ _ _ _ ys ys _ P9.out.rd O9.out.rd rfl rfl).mono ?_
    rintro e w10 ⟨rfl, b10⟩
    clear gz g0 g1 xz x0 x1 Q9 Y9
    have A10 := Lib.hid (A9.out.below b10 A9.out.lt)
    have B10 := Lib.hid (B9.out.trans (b10.mono B9.out.size))
    have X10 := Lib.hid (X9.out.below b10 X9.out.lt)
    have O10 := Lib.hid (O9.out.below b10)
    have G10 := Lib.hid (G9.out.below b10 G9.out.lt)
    have P10 := Lib.hid (P9.out.below b10)
    clear b10 A9 B9 X9 O9 G9 P9
    obtain ⟨gz, g0, g1⟩ := G10.out.two
    go_wp2_with fail
    refine (markBytes_any _ _ _ _ _ 1 _ _ P10.out (by omega) (by omega)).mono ?_
    rintro e w11 ⟨rfl, q11, g11⟩
    clear gz g0 g1
    have A11 := Lib.hid (A10.out.grown g11 MA.out)
    have B11 := Lib.hid (B10.out.grown g11 B10.out.size MB.out)
    have X11 := Lib.hid (X10.out.grown g11 MX.out)
    have O11 := Lib.hid (O10.out.grown g11 MO.out)
    have G11 := Lib.hid (G10.out.grown g11 MG.out)
    have P11 := Lib.hid q11
    clear g11 q11 MA MX MO MY MQ MG MB A10 B10 X10 O10 G10 P10
    obtain ⟨gz, g0, g1⟩ := G11.out.two
    go_wp2_with fail
    refine (heldBytes_any _ _ _ _ 1 _ P11.out.rd (by omega) (by omega)).mono ?_
    rintro e w12 ⟨rfl, b12⟩
    clear gz g0 g1
    have A12 := Lib.hid (A11.out.below b12 A11.out.lt)
    have B12 := Lib.hid (B11.out.trans (b12.mono B11.out.size))
    have X12 := Lib.hid (X11.out.below b12 X11.out.lt)
    have O12 := Lib.hid (O11.out.below b12)
    have G12 := Lib.hid (G11.out.below b12 G11.out.lt)
    have P12 := Lib.hid (P11.out.below b12)
    clear b12 A11 B11 X11 O11 G11 P11
    have hn5 : ¬ ((1 + l5 : Nat) : Int) < 0 := by omega
    have hne5 : (((1 + l5 : Nat) : Int) != ((1 + l5 : Nat) : Int)) = false := by simp
    obtain ⟨pz, p0, p1, p2, p3⟩ := A12.out.four
    go_wp2_with fail
    refine (T.out _ B12.out).mono ?_
    rintro e w13 ⟨a13, l13, c13, rfl, o13, b13⟩
    clear pz p0 p1 p2 p3 A12
    have B13 := Lib.hid (B12.out.trans (b13.mono B12.out.size))
    have X13 := Lib.hid (X12.out.below b13 X12.out.lt)
    have O13 := Lib.hid (O12.out.below b13)
    have G13 := Lib.hid (G12.out.below b13 G12.out.lt)
    have P13 := Lib.hid (P12.out.below b13)
    clear b13 B12 X12 O12 G12 P12
    go_wp2_with fail
    refine (K.out _ _ _ _ o13.rd).mono ?_
    rintro e w14 ⟨a14, l14, c14, rfl, o14, b14⟩
    have B14 := Lib.hid ((B13.out.trans (b14.mono B13.out.size)).alloc (Nat.le_trans B13.out.size b14.size) (.cells #[.int .i64 c, .slice a14 l14 c14] 28))
    have X14 := Lib.hid ((X13.out.below b14 X13.out.lt).alloc (.cells #[.int .i64 c, .slice a14 l14 c14] 28))
    have O14 := Lib.hid ((O13.out.below b14).alloc (.cells #[.int .i64 c, .slice a14 l14 c14] 28))
    have G14 := Lib.hid ((G13.out.below b14 G13.out.lt).alloc (.cells #[.int .i64 c, .slice a14 l14 c14] 28))
    have P14 := Lib.hid ((P13.out.below b14).alloc (.cells #[.int .i64 c, .slice a14 l14 c14] 28))
    have H14 := Lib.hid (Box.new w14 28 #[.int .i64 c, .slice a14 l14 c14])
    have R14 := Lib.hid (o14.alloc (.cells #[.int .i64 c, .slice a14 l14 c14] 28))
    clear b14 o13 o14 B13 X13 O13 G13 P13
    generalize hW : w14.alloc (.cells #[.int .i64 c, .slice a14 l14 c14] 28) = W14 at *
    obtain ⟨gz, g0, g1⟩ := H14.out.two
    obtain ⟨xz, x0, x1⟩ := X14.out.two
    go_wp2_with fail
    clear hW
    refine (eqBytes_any _ _ _ _ _ _ _ _ ys ys _ R14.out.rd O14.out.rd rfl rfl).mono ?_
    rintro e w15 ⟨rfl, b15⟩
    clear gz g0 g1 xz x0 x1 H14 R14 X14 O14
    have B15 := Lib.hid (B14.out.trans (b15.mono B14.out.size))
    have G15 := Lib.hid (G14.out.below b15 G14.out.lt)
    have P15 := Lib.hid (P14.out.below b15)
    clear b15 B14 G14 P14
    obtain ⟨gz, g0, g1⟩ := G15.out.two
    go_wp2_with fail
    refine (heldBytes_any _ _ _ _ 1 _ P15.out.rd (by omega) (by omega)).mono ?_
    rintro e w16 ⟨rfl, b16⟩
    clear gz g0 g1 P15 G15
    have B16 := Lib.hid (B15.out.trans (b16.mono B15.out.size))
    clear b16 B15
    go_wp2
    go_ret
    exact ⟨rfl, B16.out⟩
  · have Z := Lib.hid (fun W => szEcho_f er ei es a len cap 1048576 W hbig (by omega) (by omega) hm)
    clear h hS hr
    go_enter Try.func8, Try.ntmps8
    go_wp2_with fail
    refine (Z.out _).mono ?_
    rintro e w1 ⟨rfl, b1⟩
    have B1 := Lib.hid (B0.out.trans (b1.mono B0.out.size))
    clear b1 B0 A0
    go_wp2
    go_ret
    exact ⟨rfl, B1.out⟩

/-- a frame's result: the code, the numbers, the body of its own -/
def EchoRes (w : World) (c : Int) (er : Bool) (ei es : Int) (zs : List Int) (e : Ending) (w' : World) : Prop :=
  ∃ a' l' c', e = .returned (.agg #[.int .i64 c, .bool er, .int .i64 ei, .int .i64 es, .slice a' l' c']) ∧ Own w' w.heap.size a' l' c' zs ∧ Below w.heap.size w w'

theorem heldEcho_any (er : Bool) (ei es : Int) (a : Option Addr) (len cap k0 : Nat) (w : World) (h : Rd w a len cap (marks k0 len)) (hl : len ≤ 2097152) (hk0 : k0 ≤ 1000000000) :
    Calls Try.prog 86 #[.agg #[.bool er, .int .i64 ei, .int .i64 es, .slice a len cap], .int .i64 k0] w fun e w' => e = .returned (.int .i64 (k0 + len : Nat)) ∧ Below w.heap.size w w' := by
  have K := Lib.hid (fun o => heldByteS_any a len cap k0 (w.alloc o) (h.alloc o) hl hk0)
  go_enter Try.func86, Try.ntmps86
  go_wp2_with fail
  refine (K.out _).mono ?_
  rintro e w1 ⟨rfl, rfl⟩
  have hn : ¬ ((k0 + len : Nat) : Int) < 0 := by omega
  go_wp2
  go_ret
  exact ⟨rfl, (Below.refl _ _).alloc (Nat.le_refl _) _⟩

theorem heldEchoR_any (c : Int) (er : Bool) (ei es : Int) (a : Option Addr) (len cap k0 : Nat) (w : World) (h : Rd w a len cap (marks k0 len)) (hl : len ≤ 2097152) (hk0 : k0 ≤ 1000000000) :
    Calls Try.prog 52 #[.agg #[.int .i64 c, .bool er, .int .i64 ei, .int .i64 es, .slice a len cap], .int .i64 k0] w fun e w' => e = .returned (.int .i64 (k0 + len : Nat)) ∧ Below w.heap.size w w' := by
  have K := Lib.hid (fun o => heldEcho_any er ei es a len cap k0 (w.alloc o) (h.alloc o) hl hk0)
  go_enter Try.func52, Try.ntmps52
  go_wp2_with fail
  refine (K.out _).mono ?_
  rintro e w1 ⟨rfl, b1⟩
  have hn : ¬ ((k0 + len : Nat) : Int) < 0 := by omega
  go_wp2
  go_ret
  exact ⟨rfl, ((Below.refl _ _).alloc (Nat.le_refl _) _).trans (b1.mono (by simp))⟩

theorem markEchoR_any (c : Int) (er : Bool) (ei es : Int) (a : Option Addr) (len cap base k0 : Nat) (zs : List Int) (w : World) (h : Own w base a len cap zs) (hl : len ≤ 2097152) (hk0 : k0 ≤ 1000000000) :
    Calls Try.prog 51 #[.agg #[.int .i64 c, .bool er, .int .i64 ei, .int .i64 es, .slice a len cap], .int .i64 k0] w fun e w' => e = .returned (.int .i64 (k0 + len : Nat)) ∧ Own w' base a len cap (marks k0 len) ∧ w.grownBy w' ((Value.slice a len cap).ownBlock) := by
  have K := Lib.hid (fun o => markEcho_any er ei es a len cap base k0 zs (w.alloc o) (h.alloc o) hl hk0)
  go_enter Try.func51, Try.ntmps51
  go_wp2_with fail
  refine (K.out _).mono ?_
  rintro e w1 ⟨rfl, ho, hg⟩
  go_wp2
  go_ret
  exact ⟨rfl, ho, grown_trans (grown_alloc _ _) hg⟩

theorem eqEchoR_any (c : Int) (er : Bool) (ei es : Int) (a b : Option Addr) (la ca lb cb : Nat) (zs : List Int) (w : World) (ha : Rd w a la ca zs) (hb : Rd w b lb cb zs) :
    Calls Try.prog 50 #[.agg #[.int .i64 c, .bool er, .int .i64 ei, .int .i64 es, .slice a la ca], .agg #[.int .i64 c, .bool er, .int .i64 ei, .int .i64 es, .slice b lb cb]] w fun e w' => e = .returned (.bool true) ∧ Below w.heap.size w w' := by
  have K := Lib.hid (fun W (hW : Below w.heap.size w W) => eqEcho_t er ei es a b la ca lb cb zs W (ha.below hW) (hb.below hW))
  go_enter Try.func50, Try.ntmps50
  go_wp2_with fail
  refine (K.out _ (((Below.refl _ _).alloc (Nat.le_refl _) _).alloc (by simp) _)).mono ?_
  rintro e w1 ⟨rfl, hb1⟩
  go_wp2
  go_ret
  exact ⟨rfl, (((Below.refl _ _).alloc (Nat.le_refl _) _).alloc (by simp) _).trans (hb1.mono (by simp; omega))⟩

set_option maxHeartbeats 4000000 in
theorem exactReadEcho (a : Option Addr) (len cap : Nat) (zs : List Int) (c : Int) (er : Bool) (ei es : Int) (rs : List Int) (w : World) (h : Rd w a len cap zs)
    (hS : ∀ (a' : Option Addr) (l' c' : Nat) (W : World), Rd W a' l' c' zs → Calls Try.prog 25 #[.slice a' l' c'] W (EchoRes W c er ei es rs))
    (hI : ∀ (a' : Option Addr) (l' c' : Nat) (W : World), Rd W a' l' c' zs → Calls Try.prog 19 #[.slice a' l' c'] W (EchoRes W c er ei es rs)) (hB : rs.length ≤ 700) :
    Calls Try.prog 9 #[.slice a len cap] w fun e w' => e = .returned (.bool true) ∧ Below w.heap.size w w' := by
  by_cases hbig : len ≤ 1048576
  · have K1 := Lib.hid hS
    have K2 := Lib.hid hI
    have hrs : rs.length ≤ 700 := hB
    have T := Lib.hid (fun W (hW : Below w.heap.size w W) => toByteS_any a len cap zs W (h.below hW) hbig)
    have hq : eqL zs zs = true := decide_eq_true rfl
    clear hS hI hB h
    go_enter Try.func9, Try.ntmps9
    go_wp2_with fail
    refine (T.out _ (Below.refl _ _)).mono ?_
    rintro e w1 ⟨rfl, o1, b1⟩
    have B1 := Lib.hid b1
    clear b1
    go_wp2_with fail
    refine (K1.out _ _ _ _ o1.rd).mono ?_
    rintro e w2 ⟨a2, l2, k2, rfl, o2, b2⟩
    have B2 : Hid (Below w.heap.size w (w2.alloc (.cells #[.int .i64 c, .bool er, .int .i64 ei, .int .i64 es, .slice a2 l2 k2] 39))) := (B1.out.trans (b2.mono B1.out.size)).alloc (Nat.le_trans B1.out.size b2.size) _
    have x2 := Box.new w2 39 #[.int .i64 c, .bool er, .int .i64 ei, .int .i64 es, .slice a2 l2 k2]
    have p2 := o2.alloc (.cells #[.int .i64 c, .bool er, .int .i64 ei, .int .i64 es, .slice a2 l2 k2] 39)
    have s2 := Nat.le_trans B1.out.size b2.size
    have sW2 : (w2.alloc (.cells #[.int .i64 c, .bool er, .int .i64 ei, .int .i64 es, .slice a2 l2 k2] 39)).heap.size = w2.heap.size + 1 := World.size_alloc _ _
    have SW2 := Lib.hid sW2
    clear b2 o1 sW2
    generalize hW2 : w2.alloc (.cells #[.int .i64 c, .bool er, .int .i64 ei, .int .i64 es, .slice a2 l2 k2] 39) = W2 at *
    go_wp2_with fail
    refine (T.out _ B2.out).mono ?_
    rintro e w3 ⟨rfl, o3, b3⟩
    rw [SW2.out] at o3
    have B3 : Hid (Below w.heap.size w w3) := B2.out.trans (b3.mono B2.out.size)
    have x3 := x2.below b3 x2.lt
    have p3 := p2.below b3
    have s3 := (o3.lt _ rfl).2
    dsimp only at s3
    clear b3 x2 p2 hW2
    rw [SW2.out]
    go_wp2_with fail
    refine (K2.out _ _ _ _ o3.rd).mono ?_
    rintro e w4 ⟨a4, l4, k4, rfl, o4, b4⟩
    have hl4 : l4 ≤ 700 := by rw [← o4.length]; exact hrs
    have B4 : Hid (Below w.heap.size w (w4.alloc (.cells #[.int .i64 c, .bool er, .int .i64 ei, .int .i64 es, .slice a4 l4 k4] 39))) := (B3.out.trans (b4.mono B3.out.size)).alloc (Nat.le_trans B3.out.size b4.size) _
    have x4 := (x3.below b4 x3.lt).alloc (.cells #[.int .i64 c, .bool er, .int .i64 ei, .int .i64 es, .slice a4 l4 k4] 39)
    have p4 := (p3.below b4).alloc (.cells #[.int .i64 c, .bool er, .int .i64 ei, .int .i64 es, .slice a4 l4 k4] 39)
    have q4 := (o3.below b4).alloc (.cells #[.int .i64 c, .bool er, .int .i64 ei, .int .i64 es, .slice a4 l4 k4] 39)
    have r4 := o4.alloc (.cells #[.int .i64 c, .bool er, .int .i64 ei, .int .i64 es, .slice a4 l4 k4] 39)
    have y4 := Box.new w4 39 #[.int .i64 c, .bool er, .int .i64 ei, .int .i64 es, .slice a4 l4 k4]
    obtain ⟨z4, c0, c1, c2, c3, c4⟩ := (x3.below b4 x3.lt).five
    have s4 := b4.size
    clear b4 x3 p3
    go_wp2_with fail
    refine (eqEchoR_any _ _ _ _ _ _ _ _ _ _ rs _ r4.rd p4.rd).mono ?_
    rintro e w5 ⟨rfl, b5⟩
    have B5 : Hid (Below w.heap.size w w5) := B4.out.trans (b5.mono B4.out.size)
    have x5 := x4.below b5 x4.lt
    have y5 := y4.below b5 y4.lt
    have p5 := p4.below b5
    have q5 := q4.below b5
    have r5 := r4.below b5
    clear b5 x4 y4 p4 q4 r4 z4 c0 c1 c2 c3 c4
    go_wp2_with fail
    refine (T.out _ B5.out).mono ?_
    rintro e w6 ⟨rfl, o6, b6⟩
    have B6 : Hid (Below w.heap.size w w6) := B5.out.trans (b6.mono B5.out.size)
    have x6 := x5.below b6 x5.lt
    have y6 := y5.below b6 y5.lt
    have p6 := p5.below b6
    have q6 := q5.below b6
    have r6 := r5.below b6
    clear b6 x5 y5 p5 q5 r5
    go_wp2_with fail
    refine (eqByteS_any _ _ _ _ _ _ zs zs _ q6.rd o6.rd).mono ?_
    rintro e w7 ⟨rfl, b7⟩
    have B7 : Hid (Below w.heap.size w w7) := B6.out.trans (b7.mono B6.out.size)
    have x7 := x6.below b7 x6.lt
    have y7 := y6.below b7 y6.lt
    have p7 := p6.below b7
    have q7 := q6.below b7
    have r7 := r6.below b7
    clear b7 x6 y6 p6 q6 r6 o6
    go_wp2_with fail
    refine (markByteS_any _ _ _ _ 1 _ _ q7 (by omega) (by omega)).mono ?_
    rintro e w8 ⟨rfl, q8, g8⟩
    have x8 := x7.grown g8 (by simp [Value.ownBlock])
    have y8 := y7.grown g8 (by simp [Value.ownBlock]; omega)
    have p8 := p7.grown g8 (fun x hx e => by have := o2.lt x hx; simp [Value.ownBlock] at e; omega)
    have r8 := r7.grown g8 (fun x hx e => by have := o4.lt x hx; simp [Value.ownBlock] at e; omega)
    have B8 : Hid (Below w.heap.size w w8) := B7.out.grown g8 (by have := B7.out.size; omega) (fun k e => by simp [Value.ownBlock] at e; omega)
    have hn : ¬ ((1 + len : Nat) : Int) < 0 := by omega
    obtain ⟨zx, cx0, cx1, cx2, cx3, cx4⟩ := x8.five
    obtain ⟨zy, cy0, cy1, cy2, cy3, cy4⟩ := y8.five
    clear g8 x7 y7 p7 q7 r7 q8
    go_wp2_with fail
    refine (eqEchoR_any _ _ _ _ _ _ _ _ _ _ rs _ r8.rd p8.rd).mono ?_
    rintro e w9 ⟨rfl, b9⟩
    have B9 : Hid (Below w.heap.size w w9) := B8.out.trans (b9.mono B8.out.size)
    have x9 := x8.below b9 x8.lt
    have y9 := y8.below b9 y8.lt
    have p9 := p8.below b9
    have r9 := r8.below b9
    obtain ⟨zy', cy0', cy1', cy2', cy3', cy4'⟩ := y9.five
    clear b9 x8 y8 p8 r8 zx cx0 cx1 cx2 cx3 cx4 zy cy0 cy1 cy2 cy3 cy4
    go_wp2_with fail
    refine (markEchoR_any _ _ _ _ _ _ _ _ 1 _ _ r9 (by omega) (by omega)).mono ?_
    rintro e wa ⟨rfl, ra, ga⟩
    have ya := y9.grown ga (ne_block o4 _ (.inr (Nat.le_refl _)))
    have xa := x9.grown ga (ne_block o4 _ (.inl (by omega)))
    have pa := p9.grown ga (ne_of_lt_own o2 o4 (by omega))
    have Ba : Hid (Below w.heap.size w wa) := B9.out.grown ga (by have := B9.out.size; omega) (fun k e => by
      cases a4 with
      | none => simp [Value.ownBlock] at e
      | some y => simp [Value.ownBlock] at e; have := o4.lt y rfl; omega)
    obtain ⟨zya, cya0, cya1, cya2, cya3, cya4⟩ := ya.five
    clear ga x9 y9 p9 r9 zy' cy0' cy1' cy2' cy3' cy4'
    go_wp2_with fail
    refine (heldEchoR_any _ _ _ _ _ _ _ 1 _ ra.rd (by omega) (by omega)).mono ?_
    rintro e wb ⟨rfl, bb⟩
    have Bb : Hid (Below w.heap.size w wb) := Ba.out.trans (bb.mono Ba.out.size)
    have xb := xa.below bb xa.lt
    have yb := ya.below bb ya.lt
    have pb := pa.below bb
    have rb := ra.below bb
    have hn2 : ¬ ((1 + l4 : Nat) : Int) < 0 := by omega
    have hne : (((1 + l4 : Nat) : Int) != ((1 + l4 : Nat) : Int)) = false := by simp
    clear bb xa ya pa ra zya cya0 cya1 cya2 cya3 cya4
    go_wp2_with fail
    refine (T.out _ Bb.out).mono ?_
    rintro e wc ⟨rfl, oc, bc⟩
    have Bc : Hid (Below w.heap.size w wc) := Bb.out.trans (bc.mono Bb.out.size)
    have xc := xb.below bc xb.lt
    have yc := yb.below bc yb.lt
    have pc := pb.below bc
    have rc := rb.below bc
    clear bc xb yb pb rb
    go_wp2_with fail
    refine (K2.out _ _ _ _ oc.rd).mono ?_
    rintro e wd ⟨ad, ld, kd, rfl, od, bd⟩
    have Bd : Hid (Below w.heap.size w (wd.alloc (.cells #[.int .i64 c, .bool er, .int .i64 ei, .int .i64 es, .slice ad ld kd] 39))) := (Bc.out.trans (bd.mono Bc.out.size)).alloc (Nat.le_trans Bc.out.size bd.size) _
    have yd := (yc.below bd yc.lt).alloc (.cells #[.int .i64 c, .bool er, .int .i64 ei, .int .i64 es, .slice ad ld kd] 39)
    have pd := (pc.below bd).alloc (.cells #[.int .i64 c, .bool er, .int .i64 ei, .int .i64 es, .slice ad ld kd] 39)
    have rd := (rc.below bd).alloc (.cells #[.int .i64 c, .bool er, .int .i64 ei, .int .i64 es, .slice ad ld kd] 39)
    obtain ⟨zxd, cxd0, cxd1, cxd2, cxd3, cxd4⟩ := (xc.below bd xc.lt).five
    clear bd xc yc pc rc oc
    go_wp2_with fail
    refine (eqEchoR_any _ _ _ _ _ _ _ _ _ _ rs _ (od.alloc _).rd pd.rd).mono ?_
    rintro e we ⟨rfl, be'⟩
    have Be : Hid (Below w.heap.size w we) := Bd.out.trans (be'.mono Bd.out.size)
    have ye := yd.below be' yd.lt
    have re := rd.below be'
    obtain ⟨zye, cye0, cye1, cye2, cye3, cye4⟩ := ye.five
    clear be' yd pd rd zxd cxd0 cxd1 cxd2 cxd3 cxd4
    go_wp2_with fail
    refine (heldEchoR_any _ _ _ _ _ _ _ 1 _ re.rd (by omega) (by omega)).mono ?_
    rintro e wf ⟨rfl, bf⟩
    have Bf : Hid (Below w.heap.size w wf) := Be.out.trans (bf.mono Be.out.size)
    clear bf
    go_wp2
    go_ret
    exact ⟨rfl, Bf.out⟩
  · go_enter Try.func9, Try.ntmps9
    go_wp2
    go_ret
    exact ⟨rfl, Below.refl _ _⟩
end Go.Proofs.Ytgjkbaplfbiomaa

namespace Go.Proofs.Ytgjkbaplfbiomaa
open Go.ChangeShapes Go.WideShapes Go.ChangeAt Go.RowKit

theorem refuse_no (c : Int) (w : World) : Calls Try.prog 92 #[.bool false, .int .i64 c] w fun e w' => e = .returned (.tuple #[]) ∧ w = w' := by
  go_enter Try.func92, Try.ntmps92
  go_wp2
  go_end0
  exact ⟨rfl, rfl⟩
theorem refuse_yes (c : Int) (w : World) : Calls Try.prog 92 #[.bool true, .int .i64 c] w fun e w' => e = .panicked [{ v := .iface 100 (.int .i64 c), recovered := false }] ∧ w = w' := by
  go_enter Try.func92, Try.ntmps92
  go_wp2
  exact ⟨rfl, rfl, rfl⟩
theorem assertR (c : Int) (w : World) : (Instr.typeAssert (.iface 100 (.int .i64 c)) 20 100 true).run Try.prog w = .ok (.tuple #[.int .i64 c, .bool true]) w := by kernel_rfl
set_option maxRecDepth 20000 in
theorem codeOf_any (c : Int) (w : World) : Calls Try.prog 66 #[.iface 100 (.int .i64 c)] w fun e w' => e = .returned (.int .i64 c) ∧ w = w' := by
  have hta := assertR c
  go_enter Try.func66, Try.ntmps66
  go_wp2
  go_ret
  exact ⟨rfl, rfl⟩
/-- it is refused: a panic with this code -/
def Refused (w : World) (c : Int) (e : Ending) (w' : World) : Prop := e = .panicked [{ v := .iface 100 (.int .i64 c), recovered := false }] ∧ Below w.heap.size w w'

theorem catchPacket_panic (g : Nat) (c : Int) (older : List PanicEntry) (w : World) (hx : Box w g 32 #[.int .i64 0, .int .i64 0, .int .i64 0, .int .i64 0, .int .i64 0, .slice none 0 0]) :
    CallsD Try.prog 65 #[.pointer (some ⟨g, 0, none⟩)] (.panicking ({ v := .iface 100 (.int .i64 c), recovered := false } :: older)) w fun e u' w' =>
      e = .returned (.tuple #[]) ∧ u' = .panicking ({ v := .iface 100 (.int .i64 c), recovered := true } :: older) ∧ Box w' g 32 #[.int .i64 c, .int .i64 0, .int .i64 0, .int .i64 0, .int .i64 0, .slice none 0 0] ∧ w.grownBy w' (some g) := by
  refine callsD_of_wpS Try.func65 rfl fun c₀ cs hu => ?_
  apply wpS_seq
  apply wpS_region
  simp [wpOpsS, go_sem, recoverD, hu, Try.ntmps65, Exit.thenS]
  refine wpS_of_wp ?_
  have X := Lib.hid hx
  have K := Lib.hid (codeOf_any c w)
  clear hx
  change Code.wp _ _ _ { tmps := #[.pointer (some ⟨g, 0, none⟩), .iface 100 (.int .i64 c), .iface 100 (.int .i64 c), undef, undef, undef, undef, undef], defers := [] } w
  go_wp2_with (first
    | ((with_reducible change wpList _ _ _ (Oper.mk none (Op.store _ _ _) _ _ _ _ :: _) _ _); refine storeBox_list _ rfl 32 (.tmp 0) (.tmp 7) rfl g 32 _ #[.int .i64 c, .int .i64 0, .int .i64 0, .int .i64 0, .int .i64 0, .slice none 0 0] X.out (by exact rfl) (by exact rfl) (by kernel_rfl) (by exact rfl) (by simp [Value.oneCell']) ?_; intro w4 x4 g4)
    | (go_at_call 66; refine K.out.mono ?_; rintro e w' ⟨rfl, rfl⟩))
  exact ⟨rfl, _, rfl, .tuple #[], by simp [results, Try.results65, go_sem], rfl, rfl, x4, g4⟩
theorem catchPacket_idle (p : Addr) (w : World) :
    CallsD Try.prog 65 #[.pointer (some p)] .returning w fun e u' w' => e = .returned (.tuple #[]) ∧ u' = .returning ∧ w = w' := by
  refine callsD_of_wpS Try.func65 rfl fun c₀ cs hu => ?_
  apply wpS_seq
  apply wpS_region
  simp [wpOpsS, go_sem, recoverD, hu, Try.ntmps65, Exit.thenS]
  refine wpS_of_wp ?_
  change Code.wp _ _ _ { tmps := #[.pointer (some p), .nilIface, .nilIface, undef, undef, undef, undef, undef], defers := [] } w
  go_wp2
  cases c₀
  simp_all [bodyPostS, results, Try.results65]

set_option maxHeartbeats 1000000 in
theorem facePacket_no (a : Option Addr) (len cap : Nat) (c : Int) (w : World) (h : ∀ W, Below w.heap.size w W → Calls Try.prog 67 #[.slice a len cap] W (Refused W c)) :
    Calls Try.prog 15 #[.slice a len cap] w (PacketRes w c 0 0 0 0 []) := by
  have hmf : ∀ (fn : Fn) (first cap : Array Value) (w : World), (Instr.makeFunc fn first cap).run Try.prog w = .ok (.func fn first cap) w := fun _ _ _ _ => rfl
  have K := Lib.hid h
  have B0 := Lib.hid ((Below.refl w.heap.size w).alloc (Nat.le_refl _) (.cells #[.int .i64 0, .int .i64 0, .int .i64 0, .int .i64 0, .int .i64 0, .slice none 0 0] 32))
  have X0 := Lib.hid (Box.new w 32 #[.int .i64 0, .int .i64 0, .int .i64 0, .int .i64 0, .int .i64 0, .slice none 0 0])
  clear h
  go_enter_defers Try.func15, Try.ntmps15
  go_wp2_with fail
  refine (K.out _ B0.out).mono ?_
  rintro e w1 ⟨rfl, b1⟩
  have X1 := Lib.hid (X0.out.below b1 X0.out.lt)
  have B1 := Lib.hid (B0.out.trans (b1.mono B0.out.size))
  clear b1 X0 B0
  go_wp2
  refine leaves_cons (f := 65) (args := #[.pointer (some ⟨w.heap.size, 0, none⟩)]) (by simp) (by simp [go_sem]) ?_
  refine (catchPacket_panic w.heap.size c [] _ X1.out).mono ?_
  rintro e u' w2 ⟨rfl, rfl, x2, g2⟩
  have B2 := B1.out.grown g2 B1.out.size (fun k e => by cases e; exact Nat.le_refl _)
  have hr : (results Try.f15 #[.slice a len cap, undef, .pointer (some ⟨w.heap.size, 0, none⟩), .func (.func 65) #[] #[.pointer (some ⟨w.heap.size, 0, none⟩)], .slice a len cap, undef, undef]).run Try.prog w2 = .ok (.agg #[.int .i64 c, .int .i64 0, .int .i64 0, .int .i64 0, .int .i64 0, .slice none 0 0]) w2 := results_cell_row Try.results15 _ _ _ _ _ _ _ rfl x2 Try.underlying32 rfl (by kernel_rfl)
  simp only [Leaves, settle, List.dropWhile]
  exact ⟨_, hr, none, 0, 0, rfl, Own.nil _ _, B2⟩

set_option maxHeartbeats 1000000 in
theorem facePacket_ok (a : Option Addr) (len cap : Nat) (kf kt kp kl : Int) (rs : List Int) (w : World) (h : ∀ W, Below w.heap.size w W → Calls Try.prog 67 #[.slice a len cap] W (PacketOut W kf kt kp kl rs)) :
    Calls Try.prog 15 #[.slice a len cap] w (PacketRes w 0 kf kt kp kl rs) := by
  have hmf : ∀ (fn : Fn) (first cap : Array Value) (w : World), (Instr.makeFunc fn first cap).run Try.prog w = .ok (.func fn first cap) w := fun _ _ _ _ => rfl
  have K := Lib.hid h
  have B0 := Lib.hid ((Below.refl w.heap.size w).alloc (Nat.le_refl _) (.cells #[.int .i64 0, .int .i64 0, .int .i64 0, .int .i64 0, .int .i64 0, .slice none 0 0] 32))
  have X0 := Lib.hid (Box.new w 32 #[.int .i64 0, .int .i64 0, .int .i64 0, .int .i64 0, .int .i64 0, .slice none 0 0])
  clear h
  go_enter_defers Try.func15, Try.ntmps15
  go_wp2_with fail
  refine (K.out _ B0.out).mono ?_
  rintro e w1 ⟨a', l', c', rfl, o1, b1⟩
  have X1 := Lib.hid (X0.out.below b1 X0.out.lt)
  have B1 := Lib.hid (B0.out.trans (b1.mono B0.out.size))
  have O1 := Lib.hid (o1.rebase (Nat.le_trans B0.out.size (Nat.le_refl _)))
  have hn : Hid (∀ x, a' = some x → some x.block ≠ some w.heap.size) := fun x hx e => by
    have := (o1.lt x hx).1
    have := X0.out.lt
    simp only [Option.some.injEq] at e
    omega
  clear b1 o1 X0 B0
  go_wp2_with ((with_reducible change wpList _ _ _ (Oper.mk none (Op.store _ _ _) _ _ _ _ :: _) _ _); refine storeBox_list _ rfl 32 (.tmp 2) (.tmp 6) rfl w.heap.size 32 _ #[.int .i64 0, .int .i64 kf, .int .i64 kt, .int .i64 kp, .int .i64 kl, .slice a' l' c'] X1.out (by exact rfl) (by exact rfl) (by kernel_rfl) (by exact rfl) (by simp [Value.oneCell']) ?_; intro w2 x2 g2)
  refine leaves_cons (f := 65) (args := #[.pointer (some ⟨w.heap.size, 0, none⟩)]) (by simp) (by simp [go_sem]) ?_
  refine (catchPacket_idle ⟨w.heap.size, 0, none⟩ _).mono ?_
  rintro e u' w3 ⟨rfl, rfl, rfl⟩
  have B2 := B1.out.grown g2 B1.out.size (fun k e => by cases e; exact Nat.le_refl _)
  have O2 := O1.out.grown g2 hn.out
  simp only [Leaves, settle]
  refine ⟨.agg #[.int .i64 0, .int .i64 kf, .int .i64 kt, .int .i64 kp, .int .i64 kl, .slice a' l' c'], ?_, a', l', c', rfl, O2, B2⟩
  exact results_cell_row Try.results15 _ _ _ _ _ _ _ rfl x2 Try.underlying32 rfl (by kernel_rfl)

theorem catchEcho_panic (g : Nat) (c : Int) (older : List PanicEntry) (w : World) (hx : Box w g 39 #[.int .i64 0, .bool false, .int .i64 0, .int .i64 0, .slice none 0 0]) :
    CallsD Try.prog 73 #[.pointer (some ⟨g, 0, none⟩)] (.panicking ({ v := .iface 100 (.int .i64 c), recovered := false } :: older)) w fun e u' w' =>
      e = .returned (.tuple #[]) ∧ u' = .panicking ({ v := .iface 100 (.int .i64 c), recovered := true } :: older) ∧ Box w' g 39 #[.int .i64 c, .bool false, .int .i64 0, .int .i64 0, .slice none 0 0] ∧ w.grownBy w' (some g) := by
  refine callsD_of_wpS Try.func73 rfl fun c₀ cs hu => ?_
  apply wpS_seq
  apply wpS_region
  simp [wpOpsS, go_sem, recoverD, hu, Try.ntmps73, Exit.thenS]
  refine wpS_of_wp ?_
  have X := Lib.hid hx
  have K := Lib.hid (codeOf_any c w)
  clear hx
  change Code.wp _ _ _ { tmps := #[.pointer (some ⟨g, 0, none⟩), .iface 100 (.int .i64 c), .iface 100 (.int .i64 c), undef, undef, undef, undef, undef], defers := [] } w
  go_wp2_with (first
    | ((with_reducible change wpList _ _ _ (Oper.mk none (Op.store _ _ _) _ _ _ _ :: _) _ _); refine storeBox_list _ rfl 39 (.tmp 0) (.tmp 7) rfl g 39 _ #[.int .i64 c, .bool false, .int .i64 0, .int .i64 0, .slice none 0 0] X.out (by exact rfl) (by exact rfl) (by kernel_rfl) (by exact rfl) (by simp [Value.oneCell']) ?_; intro w4 x4 g4)
    | (go_at_call 66; refine K.out.mono ?_; rintro e w' ⟨rfl, rfl⟩))
  exact ⟨rfl, _, rfl, .tuple #[], by simp [results, Try.results73, go_sem], rfl, rfl, x4, g4⟩
theorem catchEcho_idle (p : Addr) (w : World) :
    CallsD Try.prog 73 #[.pointer (some p)] .returning w fun e u' w' => e = .returned (.tuple #[]) ∧ u' = .returning ∧ w = w' := by
  refine callsD_of_wpS Try.func73 rfl fun c₀ cs hu => ?_
  apply wpS_seq
  apply wpS_region
  simp [wpOpsS, go_sem, recoverD, hu, Try.ntmps73, Exit.thenS]
  refine wpS_of_wp ?_
  change Code.wp _ _ _ { tmps := #[.pointer (some p), .nilIface, .nilIface, undef, undef, undef, undef, undef], defers := [] } w
  go_wp2
  cases c₀
  simp_all [bodyPostS, results, Try.results73]

set_option maxHeartbeats 1000000 in
theorem faceEcho_no (a : Option Addr) (len cap : Nat) (c : Int) (w : World) (h : ∀ W, Below w.heap.size w W → Calls Try.prog 74 #[.slice a len cap] W (Refused W c)) :
    Calls Try.prog 19 #[.slice a len cap] w (EchoRes w c false 0 0 []) := by
  have hmf : ∀ (fn : Fn) (first cap : Array Value) (w : World), (Instr.makeFunc fn first cap).run Try.prog w = .ok (.func fn first cap) w := fun _ _ _ _ => rfl
  have K := Lib.hid h
  have B0 := Lib.hid ((Below.refl w.heap.size w).alloc (Nat.le_refl _) (.cells #[.int .i64 0, .bool false, .int .i64 0, .int .i64 0, .slice none 0 0] 39))
  have X0 := Lib.hid (Box.new w 39 #[.int .i64 0, .bool false, .int .i64 0, .int .i64 0, .slice none 0 0])
  clear h
  go_enter_defers Try.func19, Try.ntmps19
  go_wp2_with fail
  refine (K.out _ B0.out).mono ?_
  rintro e w1 ⟨rfl, b1⟩
  have X1 := Lib.hid (X0.out.below b1 X0.out.lt)
  have B1 := Lib.hid (B0.out.trans (b1.mono B0.out.size))
  clear b1 X0 B0
  go_wp2
  refine leaves_cons (f := 73) (args := #[.pointer (some ⟨w.heap.size, 0, none⟩)]) (by simp) (by simp [go_sem]) ?_
  refine (catchEcho_panic w.heap.size c [] _ X1.out).mono ?_
  rintro e u' w2 ⟨rfl, rfl, x2, g2⟩
  have B2 := B1.out.grown g2 B1.out.size (fun k e => by cases e; exact Nat.le_refl _)
  have hr : (results Try.f19 #[.slice a len cap, undef, .pointer (some ⟨w.heap.size, 0, none⟩), .func (.func 73) #[] #[.pointer (some ⟨w.heap.size, 0, none⟩)], .slice a len cap, undef, undef]).run Try.prog w2 = .ok (.agg #[.int .i64 c, .bool false, .int .i64 0, .int .i64 0, .slice none 0 0]) w2 := results_cell_row Try.results19 _ _ _ _ _ _ _ rfl x2 Try.underlying39 rfl (by kernel_rfl)
  simp only [Leaves, settle, List.dropWhile]
  exact ⟨_, hr, none, 0, 0, rfl, Own.nil _ _, B2⟩

set_option maxHeartbeats 1000000 in
theorem faceEcho_ok (a : Option Addr) (len cap : Nat) (er : Bool) (ei es : Int) (rs : List Int) (w : World) (h : ∀ W, Below w.heap.size w W → Calls Try.prog 74 #[.slice a len cap] W (EchoOut W er ei es rs)) :
    Calls Try.prog 19 #[.slice a len cap] w (EchoRes w 0 er ei es rs) := by
  have hmf : ∀ (fn : Fn) (first cap : Array Value) (w : World), (Instr.makeFunc fn first cap).run Try.prog w = .ok (.func fn first cap) w := fun _ _ _ _ => rfl
  have K := Lib.hid h
  have B0 := Lib.hid ((Below.refl w.heap.size w).alloc (Nat.le_refl _) (.cells #[.int .i64 0, .bool false, .int .i64 0, .int .i64 0, .slice none 0 0] 39))
  have X0 := Lib.hid (Box.new w 39 #[.int .i64 0, .bool false, .int .i64 0, .int .i64 0, .slice none 0 0])
  clear h
  go_enter_defers Try.func19, Try.ntmps19
  go_wp2_with fail
  refine (K.out _ B0.out).mono ?_
  rintro e w1 ⟨a', l', c', rfl, o1, b1⟩
  have X1 := Lib.hid (X0.out.below b1 X0.out.lt)
  have B1 := Lib.hid (B0.out.trans (b1.mono B0.out.size))
  have O1 := Lib.hid (o1.rebase (Nat.le_trans B0.out.size (Nat.le_refl _)))
  have hn : Hid (∀ x, a' = some x → some x.block ≠ some w.heap.size) := fun x hx e => by
    have := (o1.lt x hx).1
    have := X0.out.lt
    simp only [Option.some.injEq] at e
    omega
  clear b1 o1 X0 B0
  go_wp2_with ((with_reducible change wpList _ _ _ (Oper.mk none (Op.store _ _ _) _ _ _ _ :: _) _ _); refine storeBox_list _ rfl 39 (.tmp 2) (.tmp 6) rfl w.heap.size 39 _ #[.int .i64 0, .bool er, .int .i64 ei, .int .i64 es, .slice a' l' c'] X1.out (by exact rfl) (by exact rfl) (by kernel_rfl) (by exact rfl) (by simp [Value.oneCell']) ?_; intro w2 x2 g2)
  refine leaves_cons (f := 73) (args := #[.pointer (some ⟨w.heap.size, 0, none⟩)]) (by simp) (by simp [go_sem]) ?_
  refine (catchEcho_idle ⟨w.heap.size, 0, none⟩ _).mono ?_
  rintro e u' w3 ⟨rfl, rfl, rfl⟩
  have B2 := B1.out.grown g2 B1.out.size (fun k e => by cases e; exact Nat.le_refl _)
  have O2 := O1.out.grown g2 hn.out
  simp only [Leaves, settle]
  refine ⟨.agg #[.int .i64 0, .bool er, .int .i64 ei, .int .i64 es, .slice a' l' c'], ?_, a', l', c', rfl, O2, B2⟩
  exact results_cell_row Try.results19 _ _ _ _ _ _ _ rfl x2 Try.underlying39 rfl (by kernel_rfl)
end Go.Proofs.Ytgjkbaplfbiomaa

namespace Go.Proofs.Ytgjkbaplfbiomaa
open Go.ChangeShapes Go.WideShapes Go.ChangeAt Go.RowKit

def packB (kf kt kp kl : Int) : Bool := ipB kf && ipB kt && inB kp 0 255 && inB kl 1 255
def packC (kf kt kp kl : Int) (n : Nat) : Int := if packB kf kt kp kl then (if n ≤ 560 then 0 else 2) else 3

set_option maxHeartbeats 2000000 in
theorem specPacketFault (kf kt kp kl : Int) (a : Option Addr) (len cap : Nat) (w : World) :
    Calls Try.prog 32 #[.agg #[.int .i64 kf, .int .i64 kt, .int .i64 kp, .int .i64 kl, .slice a len cap]] w fun e w' => e = .returned (.int .i64 (packC kf kt kp kl len)) ∧ Below w.heap.size w w' := by
  have H : Hid (packC kf kt kp kl len = if ipB kf && ipB kt && inB kp 0 255 && inB kl 1 255 then (if len ≤ 560 then 0 else 2) else 3) := rfl
  generalize packC kf kt kp kl len = c at *
  cases m0 : ipB kf
  case' true => cases m1 : ipB kt
  case' true.true => cases m2 : inB kp 0 255
  case' true.true.true => cases m3 : inB kl 1 255
  case' true.true.true.true => rcases Nat.lt_or_ge 560 len with hl | hl
  case' true.true.true.true.inl => have hl' : ¬ len ≤ 560 := Nat.not_le.2 hl
  case' true.true.true.true.inr => have hl' : len ≤ 560 := hl
  all_goals
    go_enter Try.func32, Try.ntmps32
    go_wp2_with (first | (go_at_call 83; refine (l1In_any _ _ _ _).mono ?_; rintro e w' ⟨rfl, rfl⟩) | (go_at_call 82; refine (l2Ip_any _ _).mono ?_; rintro e w' ⟨rfl, rfl⟩))
    go_ret
    exact ⟨ret_i (by rw [H.out]; simp [*]), (Below.refl _ _).alloc (Nat.le_refl _) _⟩

def echoB (ei es : Int) : Bool := inB ei 0 65535 && inB es 0 65535
def echoC (ei es : Int) (n : Nat) : Int := if echoB ei es then (if n ≤ 552 then 0 else 2) else 3

set_option maxHeartbeats 2000000 in
theorem specEchoFault (er : Bool) (ei es : Int) (a : Option Addr) (len cap : Nat) (w : World) :
    Calls Try.prog 46 #[.agg #[.bool er, .int .i64 ei, .int .i64 es, .slice a len cap]] w fun e w' => e = .returned (.int .i64 (echoC ei es len)) ∧ Below w.heap.size w w' := by
  have H : Hid (echoC ei es len = if inB ei 0 65535 && inB es 0 65535 then (if len ≤ 552 then 0 else 2) else 3) := rfl
  generalize echoC ei es len = c at *
  cases m0 : inB ei 0 65535
  case' true => cases m1 : inB es 0 65535
  case' true.true => rcases Nat.lt_or_ge 552 len with hl | hl
  case' true.true.inl => have hl' : ¬ len ≤ 552 := Nat.not_le.2 hl
  case' true.true.inr => have hl' : len ≤ 552 := hl
  all_goals
    go_enter Try.func46, Try.ntmps46
    go_wp2_with (go_at_call 83; refine (l1In_any _ _ _ _).mono ?_; rintro e w' ⟨rfl, rfl⟩)
    go_ret
    exact ⟨ret_i (by rw [H.out]; simp [*]), (Below.refl _ _).alloc (Nat.le_refl _) _⟩

def sameP (kf kt kp kl : Int) (zs : List Int) (kf' kt' kp' kl' : Int) (zs' : List Int) : Bool := decide (kf = kf') && decide (kt = kt') && decide (kp = kp') && decide (kl = kl') && eqL zs zs'

set_option maxHeartbeats 1000000 in
theorem specSamePackets (kf kt kp kl : Int) (a : Option Addr) (len cap : Nat) (zs : List Int) (kf' kt' kp' kl' : Int) (a' : Option Addr) (len' cap' : Nat) (zs' : List Int) (w : World) (hr : Rd w a len cap zs) (hr' : Rd w a' len' cap' zs') :
    Calls Try.prog 28 #[.agg #[.int .i64 kf, .int .i64 kt, .int .i64 kp, .int .i64 kl, .slice a len cap], .agg #[.int .i64 kf', .int .i64 kt', .int .i64 kp', .int .i64 kl', .slice a' len' cap']] w fun e w' => e = .returned (.bool (sameP kf kt kp kl zs kf' kt' kp' kl' zs')) ∧ Below w.heap.size w w' := by
  have B0 := Lib.hid (((Below.refl w.heap.size w).alloc (Nat.le_refl _) (.cells #[.int .i64 kf, .int .i64 kt, .int .i64 kp, .int .i64 kl, .slice a len cap] 25)).alloc (by simp) (.cells #[.int .i64 kf', .int .i64 kt', .int .i64 kp', .int .i64 kl', .slice a' len' cap'] 25))
  have c1 := conv_rd (hr.below B0.out)
  have c2 := conv_rd (hr'.below B0.out)
  have H : Hid (sameP kf kt kp kl zs kf' kt' kp' kl' zs' = ((kf == kf') && (kt == kt') && (kp == kp') && (kl == kl') && eqL zs zs')) := rfl
  have hs : ((strOfNums zs).toList == (strOfNums zs').toList) = eqL zs zs' := by
    unfold eqL
    by_cases h3 : zs = zs'
    · subst h3; simp
    · rw [str_ne hr.b8 hr'.b8 h3]; simp [h3]
  clear hr hr'
  generalize sameP kf kt kp kl zs kf' kt' kp' kl' zs' = v at *
  generalize strOfNums zs = s at *
  generalize strOfNums zs' = s' at *
  generalize eqL zs zs' = q at *
  cases m0 : (kf == kf')
  case' true => cases m1 : (kt == kt')
  case' true.true => cases m2 : (kp == kp')
  case' true.true.true => cases m3 : (kl == kl')
  all_goals
    go_enter Try.func28, Try.ntmps28
    go_wp2
    go_ret
    exact ⟨ret_b (by rw [H.out]; simp [*]), B0.out⟩
end Go.Proofs.Ytgjkbaplfbiomaa

namespace Go.Proofs.Ytgjkbaplfbiomaa
open Go.ChangeShapes Go.WideShapes Go.ChangeAt Go.RowKit

/-- what 65536 leaves, and how often it is in it, together, as long as it is above 65535 -/
def foldN (n : Nat) : Nat := if n ≤ 65535 then n else foldN (n % 65536 + n / 65536)
termination_by n
decreasing_by omega
theorem foldN_le {n : Nat} (h : n ≤ 65535) : foldN n = n := by rw [foldN, if_pos h]
theorem foldN_gt {n : Nat} (h : ¬ n ≤ 65535) : foldN n = foldN (n % 65536 + n / 65536) := by rw [foldN, if_neg h]
theorem foldN_bd (n : Nat) : foldN n ≤ 65535 := by
  induction n using Nat.strongRecOn with
  | _ n ih =>
    by_cases h : n ≤ 65535
    · rw [foldN_le h]; exact h
    · rw [foldN_gt h]; exact ih _ (by omega)

/-- the bytes ahead of place k, as numbers of two bytes, added -/
def sumTo (zs : List Int) : Nat → Nat
  | 0 => 0
  | k + 1 => sumTo zs k + if k % 2 = 0 then 256 * (zs.getD k 0).toNat else (zs.getD k 0).toNat
theorem sumTo_bd (zs : List Int) (h : B8 zs) : ∀ k, sumTo zs k ≤ 65280 * k
  | 0 => by simp [sumTo]
  | k + 1 => by
    have ih := sumTo_bd zs h k
    have hb := b8_getD h k
    simp only [sumTo]
    split <;> omega
def sumV (zs : List Int) : Int := 65535 - foldN (sumTo zs zs.length)
def smC (zs : List Int) : Int := if zs.length ≤ 700 then 0 else 2
def smV (zs : List Int) : Int := if zs.length ≤ 700 then sumV zs else 0

set_option maxHeartbeats 1000000 in
theorem l1Sum_any (a : Option Addr) (len cap : Nat) (zs : List Int) (w : World) (h : Rd w a len cap zs) (hl : len ≤ 1048576) :
    Calls Try.prog 78 #[.slice a len cap] w fun e w' => e = .returned (.int .i64 (sumV zs)) ∧ w = w' := by
  have h8 := Lib.hid h.b8
  have hzl := Lib.hid h.length
  go_enter Try.func78, Try.ntmps78
  go_wp2
  go_loopw [3, 4] (fun n i wr => ∃ (k m : Nat), k ≤ len ∧ i = .int .i64 k ∧ n = .int .i64 m ∧ Hid (m = sumTo zs k) ∧ Hid (w = wr)) (fun _ i _ => len - (intOf i).toNat)
  case atStart => exact ⟨0, 0, Nat.zero_le _, rfl, rfl, rfl, rfl⟩
  case round =>
    obtain ⟨k, m, hk, rfl, rfl, hm, hW⟩ := hrel
    obtain rfl : w = wr := hW.out
    by_cases hlt : k < len
    · rcases h.cells with h0 | ⟨b, off, rfl, hc⟩
      · omega
      have hck := hc k hlt
      have hbd := b8_getD h8.out k
      have hmb : m ≤ 65280 * k := by rw [hm.out]; exact sumTo_bd zs h8.out k
      have hst : Hid (sumTo zs (k + 1) = m + if k % 2 = 0 then 256 * (zs.getD k 0).toNat else (zs.getD k 0).toNat) := by rw [hm.out]; rfl
      clear hW hm h hc
      obtain ⟨x, hx⟩ := Int.eq_ofNat_of_zero_le hbd.1
      rw [hx] at hck hbd hst
      rw [Int.toNat_natCast] at hst
      clear hx
      by_cases hp : k % 2 = 0
      · have hpb : ((k : Int) % 2 == 0) = true := by simp; omega
        go_wp2
        go_roundw
        case rel => exact ⟨k + 1, m + 256 * x, by omega, by go_num, by go_num, by rw [hst.out, if_pos hp]; rfl, trivial⟩
        case measure => simp [intOf]; omega
      · have hpb : ((k : Int) % 2 == 0) = false := by simp; omega
        go_wp2
        go_roundw
        case rel => exact ⟨k + 1, m + x, by omega, by go_num, by go_num, by rw [hst.out, if_neg hp]; rfl, trivial⟩
        case measure => simp [intOf]; omega
    · obtain rfl : k = len := by omega
      have hmb : m ≤ 65280 * k := by rw [hm.out]; exact sumTo_bd zs h8.out k
      have hst : Hid (sumV zs = 65535 - foldN m) := by unfold Hid sumV; rw [hm.out, hzl.out]
      clear hW hm h
      go_wp2
      go_loopw [3] (fun n wr => ∃ (j : Nat), n = .int .i64 j ∧ Hid (foldN j = foldN m) ∧ j ≤ 65280 * 1048576 ∧ Hid (w = wr)) (fun n _ => (intOf n).toNat)
      case atStart => exact ⟨m, rfl, rfl, by omega, rfl⟩
      case round =>
        obtain ⟨j, rfl, hj, hjb, hW⟩ := hrel
        obtain rfl : w = wr := hW.out
        clear hW
        by_cases hgt : j ≤ 65535
        · have hf : Hid (foldN m = j) := by unfold Hid; rw [← hj.out, foldN_le hgt]
          go_wp2
          go_ret
          exact ⟨ret_i (by rw [hst.out, hf.out]), rfl⟩
        · have hf : Hid (foldN (j % 65536 + j / 65536) = foldN m) := by unfold Hid; rw [← hj.out, foldN_gt hgt]
          clear hj
          go_wp2
          go_roundw
          case rel => exact ⟨j % 65536 + j / 65536, by go_num, hf.out, by omega, trivial⟩
          case measure => simp [intOf]; omega

end Go.Proofs.Ytgjkbaplfbiomaa

namespace Go.Proofs.Ytgjkbaplfbiomaa
open Go.ChangeShapes Go.WideShapes Go.ChangeAt Go.RowKit Go.Shelf
attribute [local go_sem] Oper.semAt_some

/-- the number of two bytes at place k, and how many there are -/
def wd (zs : List Int) (k : Nat) : Nat := 256 * (zs.getD (2 * k) 0).toNat + (zs.getD (2 * k + 1) 0).toNat
abbrev Wd := { x : Nat // x ≤ 65535 }
theorem wd_bd (zs : List Int) (h : B8 zs) (k : Nat) : wd zs k ≤ 65535 := by
  have h1 := b8_getD h (2 * k)
  have h2 := b8_getD h (2 * k + 1)
  unfold wd; omega
def wdS (zs : List Int) (h : B8 zs) (k : Nat) : Wd := ⟨wd zs k, wd_bd zs h k⟩
def upto {α : Type} (f : Nat → α) (k : Nat) : List α := (List.range k).map f
theorem upto_succ {α : Type} (f : Nat → α) (k : Nat) : upto f (k + 1) = upto f k ++ [f k] := by simp [upto, List.range_succ]
theorem upto_length {α : Type} (f : Nat → α) (k : Nat) : (upto f k).length = k := by simp [upto]
def tot (l : List Wd) : Nat := (l.map (·.1)).sum
theorem tot_snoc (l : List Wd) (x : Wd) : tot (l ++ [x]) = tot l + x.1 := by simp [tot]
theorem tot_bd : ∀ l : List Wd, tot l ≤ 65535 * l.length
  | [] => by simp [tot]
  | x :: l => by
    have := tot_bd l
    have hx := x.2
    simp only [tot, List.map_cons, List.sum_cons, List.length_cons] at *
    omega
theorem sumTo_even (zs : List Int) (h : B8 zs) : ∀ k, sumTo zs (2 * k) = tot (upto (wdS zs h) k)
  | 0 => by simp [sumTo, tot, upto]
  | k + 1 => by
    rw [upto_succ, tot_snoc, ← sumTo_even zs h k]
    have e : 2 * (k + 1) = (2 * k + 1) + 1 := by omega
    rw [e]
    simp only [sumTo, wdS, wd]
    rw [if_pos (by omega), if_neg (by omega)]
    omega
theorem sumTo_past (zs : List Int) (h : B8 zs) : sumTo zs zs.length = tot (upto (wdS zs h) ((zs.length + 1) / 2)) := by
  rw [← sumTo_even]
  by_cases e : zs.length % 2 = 0
  · rw [show 2 * ((zs.length + 1) / 2) = zs.length by omega]
  · rw [show 2 * ((zs.length + 1) / 2) = zs.length + 1 by omega]
    simp only [sumTo]
    rw [if_neg e, List.getD_eq_getElem?_getD, List.getElem?_eq_none (Nat.le_refl _)]
    simp

/-- what a round keeps: all below n₀, and the block Bs -/
def KpB (n₀ Bs : Nat) (W W' : World) : Prop := Below n₀ W W' ∧ W'.heap[Bs]? = W.heap[Bs]?
theorem KpB.refl (n₀ Bs : Nat) (W : World) : KpB n₀ Bs W W := ⟨Below.refl _ _, rfl⟩
theorem KpB.trans {n₀ Bs : Nat} {A B C : World} (h : KpB n₀ Bs A B) (k : KpB n₀ Bs B C) : KpB n₀ Bs A C := ⟨h.1.trans k.1, k.2.trans h.2⟩
theorem KpB.put {n₀ Bs : Nat} {w : World} (hn : n₀ ≤ w.heap.size) (hB : Bs < w.heap.size) (W : World) (l : Nat) (o o' : Obj) (hl : w.heap.size ≤ l) (h : W.heap[l]? = some o) (h1 : o.isCells = false) (h2 : o.isWalk = false) : KpB n₀ Bs W (W.putObj l o') :=
  ⟨belowK_b hn W l o o' hl h h1 h2, (grownBy_putObj' W l o').block Bs (by have := (Array.getElem?_eq_some_iff.1 h).1; omega) (by intro e; cases e; omega)⟩

set_option maxRecDepth 100000 in
set_option maxHeartbeats 2000000 in
theorem words1_in (F : Fence) (n : Nat) (hf : F.fn 101) (hro : F.round = none) (hn : 1 ≤ n) (l Bs n₀ b off len cap : Nat) (zs : List Int) (hlz : zs.length = len) (hlen : len ≤ 700) (h8 : B8 zs) (hb : b < n₀) (J Jx : List Wd → World → Prop)
    (hY : ∀ pre x W, J pre W → pre.length < (len + 1) / 2 → YieldAt F (n - 1) Try.prog l #[.int .i64 ((x.1 : Nat) : Int)] W fun e W' =>
      (e = .returned (.bool true) ∧ J (pre ++ [x]) W' ∧ KpB n₀ Bs W W') ∨ (e = .returned (.bool false) ∧ Jx (pre ++ [x]) W'))
    (W : World) (hBs : W.cell? ⟨Bs, 0, none⟩ = some (.slice (some ⟨b, off, none⟩) len cap)) (hc : ∀ j, j < len → W.cell? ⟨b, off + j, none⟩ = some (.int .u8 (zs.getD j 0))) (h0 : J [] W) :
    CallsIn F n Try.prog 101 #[.func (.yield l) #[] #[], .pointer (some ⟨Bs, 0, none⟩)] W fun e W' => (∃ v, e = .returned v) ∧
      ((∃ ys, ys = upto (wdS zs h8) ((len + 1) / 2) ∧ J ys W') ∨ (∃ pre, True ∧ Jx pre W')) := by
  refine callsIn_of_wp Try.func101 rfl hf ?_ hro
  simp only [Try.ntmps101, List.size_toArray, List.length_cons, List.length_nil, Nat.reduceAdd, Nat.reduceSub, Array.replicate_succ, Array.replicate_zero, List.push_toArray, List.append_toArray, List.nil_append, List.cons_append]
  have HC := Lib.hid hc
  have HY := Lib.hid hY
  have H8 := Lib.hid h8
  have HL := Lib.hid hlz
  clear hc hY
  gi_wp2
  gi_loopw [3] (fun i wr => ∃ k : Nat, k ≤ (len + 1) / 2 ∧ i = .int .i64 (2 * k : Nat) ∧ J (upto (wdS zs h8) k) wr ∧ KpB n₀ Bs W wr)
    (fun i _ => 2 * len - (intOf i).toNat)
  case atStart => exact ⟨0, Nat.zero_le _, rfl, h0, KpB.refl _ _ _⟩
  case round =>
    obtain ⟨k, hk, rfl, hJs, hnx⟩ := hrel
    have hbs := (World.cell?_of_block (a := ⟨Bs, 0, none⟩) hnx.2).trans hBs
    by_cases hlt : 2 * k < len
    · obtain ⟨fn, tmps, assign, body, hy, hR⟩ := HY.out _ (wdS zs h8 k) wr hJs (by rw [upto_length]; omega)
      have c1 := (hnx.1.cell (p := ⟨b, off + 2 * k, none⟩) hb).trans (HC.out (2 * k) hlt)
      have b1 := b8_getD H8.out (2 * k)
      have b2 := b8_getD H8.out (2 * k + 1)
      obtain ⟨x, hx⟩ := Int.eq_ofNat_of_zero_le b1.1
      obtain ⟨y, hy'⟩ := Int.eq_ofNat_of_zero_le b2.1
      have hv : ((wd zs k : Nat) : Int) = (x : Int) * 256 + y := by unfold wd; rw [hx, hy']; simp only [Int.toNat_natCast]; omega
      dsimp only [wdS] at hy
      rw [hv] at hy
      rw [hx] at c1 b1
      rw [hy'] at b2
      by_cases hlt2 : 2 * k + 1 < len
      · have c2 := (hnx.1.cell (p := ⟨b, off + (2 * k + 1), none⟩) hb).trans (HC.out (2 * k + 1) hlt2)
        rw [hy'] at c2
        clear hx hy' hv
        gi_wp2
        refine hR.mono ?_
        rintro e W3 (⟨rfl, hJ3, hk3⟩ | ⟨rfl, hJx3⟩)
        · gi_wp2
          go_roundw
          case rel => exact ⟨k + 1, by omega, by go_num, by rw [upto_succ]; exact hJ3, hnx.trans hk3⟩
          case measure => simp [intOf]; omega
        · gi_wp2
          refine bodyPost_ret (results_none rfl _ _ _) rfl ?_
          exact ⟨⟨_, rfl⟩, .inr ⟨_, trivial, hJx3⟩⟩
      · have hy0 : y = 0 := by
          have : zs.getD (2 * k + 1) 0 = 0 := by rw [List.getD_eq_getElem?_getD, List.getElem?_eq_none (by have := HL.out; omega)]; rfl
          omega
        subst hy0
        clear hx hy' hv
        simp only [Int.natCast_zero, Int.add_zero] at hy
        gi_wp2
        refine hR.mono ?_
        rintro e W3 (⟨rfl, hJ3, hk3⟩ | ⟨rfl, hJx3⟩)
        · gi_wp2
          go_roundw
          case rel => exact ⟨k + 1, by omega, by go_num, by rw [upto_succ]; exact hJ3, hnx.trans hk3⟩
          case measure => simp [intOf]; omega
        · gi_wp2
          refine bodyPost_ret (results_none rfl _ _ _) rfl ?_
          exact ⟨⟨_, rfl⟩, .inr ⟨_, trivial, hJx3⟩⟩
    · obtain rfl : k = (len + 1) / 2 := by omega
      gi_wp2
      go_end0
      exact ⟨⟨_, rfl⟩, .inl ⟨_, rfl, hJs⟩⟩
end Go.Proofs.Ytgjkbaplfbiomaa

namespace Go.Proofs.Ytgjkbaplfbiomaa
open Go.ChangeShapes Go.WideShapes Go.ChangeAt Go.RowKit Go.Shelf
attribute [local go_sem] Oper.semAt_some

set_option maxRecDepth 100000 in
set_option maxHeartbeats 1000000 in
theorem words0_in (F : Fence) (n : Nat) (hf : F.fn 101) (hro : F.round = none) (l Bs cap : Nat) (a : Option Addr) (J : List Wd → World → Prop) (W : World) (hBs : W.cell? ⟨Bs, 0, none⟩ = some (.slice a 0 cap)) (h0 : J [] W) :
    CallsIn F n Try.prog 101 #[.func (.yield l) #[] #[], .pointer (some ⟨Bs, 0, none⟩)] W fun e W' => (∃ v, e = .returned v) ∧ J [] W' := by
  refine callsIn_of_wp Try.func101 rfl hf ?_ hro
  simp only [Try.ntmps101, List.size_toArray, List.length_cons, List.length_nil, Nat.reduceAdd, Nat.reduceSub, Array.replicate_succ, Array.replicate_zero, List.push_toArray, List.append_toArray, List.nil_append, List.cons_append]
  gi_wp2
  gi_loopw [3] (fun i wr => i = .int .i64 0 ∧ J [] wr ∧ wr.cell? ⟨Bs, 0, none⟩ = some (.slice a 0 cap)) (fun _ _ => 0)
  case atStart => exact ⟨rfl, h0, hBs⟩
  case round =>
    obtain ⟨rfl, hJs, hc⟩ := hrel
    gi_wp2
    go_end0
    exact ⟨⟨_, rfl⟩, hJs⟩

set_option maxHeartbeats 1000000 in
theorem words_in (F : Fence) (n : Nat) (h5 : F.fn 99) (hro : F.round = none) (a : Option Addr) (len cap : Nat) (w : World) :
    CallsIn F n Try.prog 99 #[.slice a len cap] w fun e w' => e = .returned (.func (.func 101) #[] #[.pointer (some ⟨w.heap.size, 0, none⟩)]) ∧ w' = w.alloc (.cells #[.slice a len cap] 22) := by
  refine callsIn_of_wp Try.func99 rfl h5 ?_ hro
  simp only [Try.ntmps99, List.size_toArray, List.length_cons, List.length_nil, Nat.reduceAdd, Nat.reduceSub, Array.replicate_succ, Array.replicate_zero, List.push_toArray, List.append_toArray, List.nil_append, List.cons_append]
  gi_wp2
  go_ret
  exact ⟨rfl, rfl⟩

theorem words_stops (F : Fence) (n : Nat) (hf : F.fn 101) (hro : F.round = none) (hn : 1 ≤ n) (Bs n₀ : Nat) (a : Option Addr) (len cap : Nat) (zs : List Int) (hlen : len ≤ 700) (w : World) (hBn : Bs < w.heap.size)
    (hc : w.cell? ⟨Bs, 0, none⟩ = some (.slice a len cap)) (h : Rd w a len cap zs) (hlo : ∀ b off, a = some ⟨b, off, none⟩ → 0 < len → b < n₀) :
    SeqStopsK F n Try.prog 101 #[.pointer (some ⟨Bs, 0, none⟩)] (fun x : Wd => #[Value.int .i64 ((x.1 : Nat) : Int)]) (KpB n₀ Bs) (fun ys => ys = upto (wdS zs h.b8) ((len + 1) / 2)) (fun _ => True) ((len + 1) / 2) w := fun l J Jx W hW _ _ hY h0 => by
  have hc' := (hW.cell (p := ⟨Bs, 0, none⟩) hBn).trans hc
  by_cases hz : len = 0
  · subst hz
    exact (words0_in F n hf hro l Bs cap a J W hc' h0).mono fun e W' ⟨he, hj⟩ => ⟨he, .inl ⟨_, rfl, hj⟩⟩
  · rcases (h.below hW).cells with h1 | ⟨b, off, rfl, hcs⟩
    · omega
    · exact words1_in F n hf hro hn l Bs n₀ b off len cap zs h.length hlen h.b8 (hlo b off rfl (by omega)) J Jx hY W hc' hcs h0

/-- the number in a cell -/
def cellN (b : Nat) (w : World) : Nat := match w.cell? ⟨b, 0, none⟩ with
  | some v => (intOf v).toNat
  | none => 0
theorem cellN_eq {b j : Nat} {w : World} (h : w.cell? ⟨b, 0, none⟩ = some (.int .i64 (j : Int))) : cellN b w = j := by simp [cellN, h, intOf]

set_option maxHeartbeats 1000000 in
theorem fold_in (F : Fence) (n : Nat) (hf : F.fn 100) (hro : F.round = none) (b j : Nat) (w : World) (hc : w.cell? ⟨b, 0, none⟩ = some (.int .i64 (j : Int))) (hz : w.frozen? ⟨b, 0, none⟩ = false) (hj : j ≤ 65535 * 700) :
    CallsIn F n Try.prog 100 #[.pointer (some ⟨b, 0, none⟩)] w fun e w' => (∃ v, e = .returned v) ∧ w' = w.setCell ⟨b, 0, none⟩ (.int .i64 ((j % 65536 + j / 65536 : Nat) : Int)) := by
  refine callsIn_of_wp Try.func100 rfl hf ?_ hro
  simp only [Try.ntmps100, List.size_toArray, List.length_cons, List.length_nil, Nat.reduceAdd, Nat.reduceSub, Array.replicate_succ, Array.replicate_zero, List.push_toArray, List.append_toArray, List.nil_append, List.cons_append]
  gi_wp2
  go_end0
  exact ⟨⟨_, rfl⟩, by congr 2⟩

set_option maxRecDepth 100000 in
set_option maxHeartbeats 2000000 in
theorem sum_in (F : Fence) (n : Nat) (hs : F.fn 89) (hw : F.fn 99) (h1w : F.fn 101) (hfo : F.fn 100) (hro : F.round = none) (hn : 3 ≤ n) (a : Option Addr) (len cap : Nat) (zs : List Int) (w : World) (h : Rd w a len cap zs) (hlen : len ≤ 700) :
    CallsIn F n Try.prog 89 #[.slice a len cap] w fun e W' => e = .returned (ir 0 (sumV zs)) ∧ Below w.heap.size w W' := by
  have h1 : 1 ≤ n := by omega
  have hgt : decide ((700 : Int) < len) = false := decide_eq_false (by omega)
  refine callsIn_of_wp_marks Try.func89 rfl hs ?_ hro
  simp only [Try.ntmps89, List.size_toArray, List.length_cons, List.length_nil, Nat.reduceAdd, Nat.reduceSub, Array.replicate_succ, Array.replicate_zero, List.push_toArray, List.append_toArray, List.nil_append, List.cons_append]
  gi_wp2_with (gi_at_call 99; refine (words_in F (n - 1) hw hro _ _ _ _).mono ?_; rintro e w' ⟨rfl, rfl⟩)
  have bR := Box.new w 92 #[.int .i64 0, .int .i64 0]
  have bT := Box.new (w.alloc (.cells #[.int .i64 0, .int .i64 0] 92)) 2 #[.int .i64 0]
  have bS := Box.new ((w.alloc (.cells #[.int .i64 0, .int .i64 0] 92)).alloc (.cells #[.int .i64 0] 2)) 22 #[.slice a len cap]
  have hB0 : Below w.heap.size w (((w.alloc (.cells #[.int .i64 0, .int .i64 0] 92)).alloc (.cells #[.int .i64 0] 2)).alloc (.cells #[.slice a len cap] 22)) := (((Below.refl _ w).alloc (Nat.le_refl _) _).alloc (by simp) _).alloc (by simp; omega) _
  have bR' := (bR.alloc (.cells #[.int .i64 0] 2)).alloc (.cells #[.slice a len cap] 22)
  have bT' := bT.alloc (.cells #[.slice a len cap] 22)
  simp only [World.size_alloc] at bT bS bT' bR'
  refine wpIn_rangeFunc_ownG hro h1 (gf := 101) (lb := #[.pointer (some ⟨w.heap.size + 1 + 1, 0, none⟩)]) rfl h1w (enters_of Try.func101 (by kernel_rfl) rfl)
    (words_stops F (n - 1) h1w hro (by omega) (w.heap.size + 1 + 1) w.heap.size a len cap zs hlen _ (by simp) (bS.cell 0) (h.below hB0) (fun b off e hp => by
      rcases h.cells with h0 | ⟨b', off', e', hc⟩
      · omega
      · rw [e] at e'; cases e'; exact World.block_lt_of_cell? _ _ (hc 0 hp))) KpB.trans (KpB.put (by simp; omega) (by simp)) (Below.refl _ _) (fun _ => rfl)
    (fun pre W => ((W.cell? ⟨w.heap.size + 1, 0, none⟩ = some (.int .i64 (tot pre : Nat)) ∧ W.frozen? ⟨w.heap.size + 1, 0, none⟩ = false) ∧ (W.cell? ⟨w.heap.size, 0, none⟩ = some (.int .i64 0) ∧ W.frozen? ⟨w.heap.size, 0, none⟩ = false) ∧ (W.cell? ⟨w.heap.size, 1, none⟩ = some (.int .i64 0) ∧ W.frozen? ⟨w.heap.size, 1, none⟩ = false)) ∧ Below w.heap.size w W)
    (fun _ _ _ => False)
    (OwnFrom.and (_root_.Go.Own.from (fun s A B row hs hg hr => ⟨⟨cell_kept hs.1.1 hg hr, (frozen_kept hs.1.1 hg hr).trans hs.1.2⟩, ⟨cell_kept hs.2.1.1 hg hr, (frozen_kept hs.2.1.1 hg hr).trans hs.2.1.2⟩, ⟨cell_kept hs.2.2.1 hg hr, (frozen_kept hs.2.2.1 hg hr).trans hs.2.2.2⟩⟩) _) (ownFrom_below (Nat.le_refl _) (by simp; omega)))
    (fun _ _ _ _ _ hs _ _ => hs)
    ⟨⟨⟨bT'.cell 0, bT'.frozen 0⟩, ⟨bR'.cell 0, bR'.frozen 0⟩, ⟨bR'.cell 1, bR'.frozen 1⟩⟩, hB0⟩
    (fun x => { tmps := #[.slice a len cap, undef, .pointer (some ⟨w.heap.size, 0, none⟩), .pointer (some ⟨w.heap.size + 1, 0, none⟩), .int .i64 ((x.1 : Nat) : Int), undef, .slice a len cap, .int .i64 len, .bool false, undef, .slice a len cap, .func (.func 101) #[] #[.pointer (some ⟨w.heap.size + 1 + 1, 0, none⟩)], .int .i64 ((x.1 : Nat) : Int), undef, undef, undef, undef, undef, undef, undef, undef, undef, undef, undef], defers := [] }) ?assign ?body ?done ?stop
  case assign =>
    intro l x W K hK
    gi_wp2
    exact hK
  case body =>
    rintro l pre ⟨x, hx⟩ W ⟨⟨⟨hc, hf⟩, ⟨r0, f0⟩, ⟨r1, f1⟩⟩, hB⟩ hpre
    have hpb := tot_bd pre
    have H := Lib.hid (tot_snoc pre ⟨x, hx⟩)
    dsimp only
    gi_wp2
    have e : ((tot pre : Nat) : Int) + (x : Int) = ((tot (pre ++ [⟨x, hx⟩]) : Nat) : Int) := by rw [H.out]; omega
    have hg := grown_setCell W ⟨w.heap.size + 1, 0, none⟩ (.int .i64 (((tot pre : Nat) : Int) + (x : Int)))
    refine ⟨(KeepsOthers.setCell _ _ _).from _, ⟨(Below.refl w.heap.size W).setCell (p := ⟨w.heap.size + 1, 0, none⟩) (Nat.le_succ _) _, heap_setCell_other W ⟨w.heap.size + 1, 0, none⟩ _ _ (by simp)⟩, ⟨⟨?_, by rw [World.frozen?_setCell]; exact hf⟩, ⟨hg.cell r0 (by simp), by rw [World.frozen?_setCell]; exact f0⟩, hg.cell r1 (by simp), by rw [World.frozen?_setCell]; exact f1⟩, hB.setCell (p := ⟨w.heap.size + 1, 0, none⟩) (Nat.le_succ _) _⟩
    rw [e]
    exact World.cell?_setCell_same' _ _ _ (by rw [hc]; rfl)
  case done =>
    rintro D ys W hD rfl ⟨⟨⟨hc, hf⟩, ⟨r0, f0⟩, ⟨r1, f1⟩⟩, hB⟩ hK
    have ht : Hid (sumV zs = 65535 - foldN (tot (upto (wdS zs h.b8) ((len + 1) / 2)))) := by
      have := sumTo_past zs h.b8
      unfold Hid sumV
      rw [this, h.length]
    have htb := tot_bd (upto (wdS zs h.b8) ((len + 1) / 2))
    rw [upto_length] at htb
    generalize tot (upto (wdS zs h.b8) ((len + 1) / 2)) = m at *
    clear bR bT bS bT' bR' hB0 h
    gi_wp2
    gi_loopw [17] (fun _ wr => ∃ j : Nat, Hid (foldN j = foldN m) ∧ j ≤ 65535 * 700 ∧ (wr.cell? ⟨w.heap.size + 1, 0, none⟩ = some (.int .i64 (j : Int)) ∧ wr.frozen? ⟨w.heap.size + 1, 0, none⟩ = false) ∧ (wr.cell? ⟨w.heap.size, 0, none⟩ = some (.int .i64 0) ∧ wr.frozen? ⟨w.heap.size, 0, none⟩ = false) ∧ (wr.cell? ⟨w.heap.size, 1, none⟩ = some (.int .i64 0) ∧ wr.frozen? ⟨w.heap.size, 1, none⟩ = false) ∧ Below w.heap.size w wr ∧ wr.heap[D]? = some (.deferred (some []))) (fun _ wr => cellN (w.heap.size + 1) wr)
    case atStart => exact ⟨m, rfl, by omega, ⟨hc, hf⟩, ⟨r0, f0⟩, ⟨r1, f1⟩, hB, hK⟩
    case round =>
      obtain ⟨j, hj, hjb, ⟨cj, fj⟩, ⟨r0, f0⟩, ⟨r1, f1⟩, hB, hK⟩ := hrel
      by_cases hle : j ≤ 65535
      · have hf' : Hid (sumV zs = 65535 - (j : Int)) := by unfold Hid; rw [ht.out, ← hj.out, foldN_le hle]
        gi_wp2
        have k1 := (KeepsOthers.setCell wr ⟨w.heap.size, 0, none⟩ (.int .i64 0)).same D _ hK rfl
        have k2 := (KeepsOthers.setCell (wr.setCell ⟨w.heap.size, 0, none⟩ (.int .i64 0)) ⟨w.heap.size, 1, none⟩ (.int .i64 (65535 - (j : Int)))).same D _ k1 rfl
        have d0 : ((wr.setCell ⟨w.heap.size, 0, none⟩ (.int .i64 0)).setCell ⟨w.heap.size, 1, none⟩ (.int .i64 (65535 - (j : Int)))).cell? ⟨w.heap.size, 0, none⟩ = some (.int .i64 0) := by simp [go_sem, r0]
        have d1 : ((wr.setCell ⟨w.heap.size, 0, none⟩ (.int .i64 0)).setCell ⟨w.heap.size, 1, none⟩ (.int .i64 (65535 - (j : Int)))).cell? ⟨w.heap.size, 1, none⟩ = some (.int .i64 (65535 - (j : Int))) := by simp [go_sem, r1]
        refine ⟨by simp, .inl ⟨_, _, rfl, run_takeDeferred k2, ?_⟩⟩
        have e0 := cell_kept d0 (grownBy_putObj' _ D (.deferred none)) (fun r e => by cases e; exact ⟨_, k2, rfl⟩)
        have e1 := cell_kept d1 (grownBy_putObj' _ D (.deferred none)) (fun r e => by cases e; exact ⟨_, k2, rfl⟩)
        refine ⟨.agg #[.int .i64 0, .int .i64 (65535 - (j : Int))], by simp [results, Try.f89, go_sem, e0, e1], ret_ir rfl hf'.out.symm, ?_⟩
        exact ((hB.setCell (p := ⟨w.heap.size, 0, none⟩) (Nat.le_refl _) _).setCell (p := ⟨w.heap.size, 1, none⟩) (Nat.le_refl _) _).trans (belowK_b (w := w) (Nat.le_refl _) _ D _ _ (by simp at hD; omega) k2 rfl rfl)
      · have hf' : Hid (foldN (j % 65536 + j / 65536) = foldN m) := by unfold Hid; rw [← hj.out, foldN_gt hle]
        gi_wp2
        refine (fold_in F (n - 1) hfo hro _ j wr cj fj hjb).mono ?_
        rintro e w' ⟨⟨v, rfl⟩, rfl⟩
        have hg := grown_setCell wr ⟨w.heap.size + 1, 0, none⟩ (.int .i64 ((j % 65536 + j / 65536 : Nat) : Int))
        have cs := World.cell?_setCell_same' wr ⟨w.heap.size + 1, 0, none⟩ (.int .i64 ((j % 65536 + j / 65536 : Nat) : Int)) (by rw [cj]; rfl)
        have hk := (KeepsOthers.setCell wr ⟨w.heap.size + 1, 0, none⟩ (.int .i64 ((j % 65536 + j / 65536 : Nat) : Int))).same D _ hK rfl
        have hB' := hB.setCell (p := ⟨w.heap.size + 1, 0, none⟩) (Nat.le_succ _) (.int .i64 ((j % 65536 + j / 65536 : Nat) : Int))
        have q0 := hg.cell r0 (by simp)
        have q1 := hg.cell r1 (by simp)
        have g : ((wr.setCell ⟨w.heap.size + 1, 0, none⟩ (.int .i64 ((j % 65536 + j / 65536 : Nat) : Int))).frozen? ⟨w.heap.size + 1, 0, none⟩ = false ∧ (wr.setCell ⟨w.heap.size + 1, 0, none⟩ (.int .i64 ((j % 65536 + j / 65536 : Nat) : Int))).frozen? ⟨w.heap.size, 0, none⟩ = false ∧ (wr.setCell ⟨w.heap.size + 1, 0, none⟩ (.int .i64 ((j % 65536 + j / 65536 : Nat) : Int))).frozen? ⟨w.heap.size, 1, none⟩ = false) := by
          refine ⟨?_, ?_, ?_⟩ <;> (rw [World.frozen?_setCell]; assumption)
        have hm := cellN_eq cs
        have hm' := cellN_eq cj
        have R := Lib.hid (And.intro cs (And.intro hk (And.intro hB' (And.intro q0 (And.intro q1 (And.intro g (And.intro hm hm')))))))
        clear cs hk hB' q0 q1 g hm hm' hg cj fj r0 f0 r1 f1 hB hK
        generalize wr.setCell ⟨w.heap.size + 1, 0, none⟩ (.int .i64 ((j % 65536 + j / 65536 : Nat) : Int)) = W5 at *
        gi_wp2
        obtain ⟨cs, hk, hB', q0, q1, ⟨g, g0, g1⟩, hm, hm'⟩ := R.out
        go_roundw
        case rel => exact ⟨_, hf'.out, by omega, ⟨cs, g⟩, ⟨q0, g0⟩, ⟨q1, g1⟩, hB', hk⟩
        case measure => rw [hm, hm']; omega
  case stop =>
    rintro D c pre W _ _ h _
    exact h.elim

theorem implSum (a : Option Addr) (len cap : Nat) (zs : List Int) (w : World) (h : Rd w a len cap zs) :
    Calls Try.prog 89 #[.slice a len cap] w fun e w' => e = .returned (ir (smC zs) (smV zs)) ∧ Below w.heap.size w w' := by
  by_cases hl : len ≤ 700
  · simp only [smC, smV, h.length, hl, if_true]
    exact (callsIn_wide (n := 3)).1 (sum_in Fence.wide 3 trivial trivial trivial trivial rfl (by omega) a len cap zs w h hl)
  · simp only [smC, smV, h.length, hl, if_false]
    clear h
    go_enter Try.func89, Try.ntmps89
    go_wp2
    all_goals exact bodyPost_ret (v := .agg #[.int .i64 2, .int .i64 0]) (by simp [results, Try.results89, go_sem]) rfl ⟨rfl, ((Below.refl _ _).alloc (Nat.le_refl _) _)⟩
end Go.Proofs.Ytgjkbaplfbiomaa

namespace Go.Proofs.Ytgjkbaplfbiomaa
open Go.ChangeShapes Go.WideShapes Go.ChangeAt Go.RowKit

def isS (zs : List Int) : Bool := decide (zs.length ≤ 700) && decide (sumV zs = 0)
theorem implIs (a : Option Addr) (len cap : Nat) (zs : List Int) (w : World) (h : Rd w a len cap zs) :
    Calls Try.prog 96 #[.slice a len cap] w fun e w' => e = .returned (.bool (isS zs)) ∧ Below w.heap.size w w' := by
  by_cases hl : zs.length ≤ 700
  · have K := Lib.hid (show Calls Try.prog 89 #[.slice a len cap] w fun e w' => e = .returned (.agg #[.int .i64 0, .int .i64 (sumV zs)]) ∧ Below w.heap.size w w' by
      have := implSum a len cap zs w h
      simp only [smC, smV, hl, if_true] at this
      exact this)
    have H : Hid (isS zs = (sumV zs == 0)) := by unfold Hid isS; rw [decide_eq_true hl, Bool.true_and]; rfl
    generalize isS zs = b at *
    generalize sumV zs = v at *
    clear h
    go_enter Try.func96, Try.ntmps96
    go_wp2_with fail
    refine (K.out).mono ?_
    rintro e w1 ⟨rfl, hb1⟩
    go_wp2
    go_ret
    exact ⟨ret_b (a := v == 0) H.out.symm, hb1.alloc hb1.size _⟩
  · have K := Lib.hid (show Calls Try.prog 89 #[.slice a len cap] w fun e w' => e = .returned (.agg #[.int .i64 2, .int .i64 0]) ∧ Below w.heap.size w w' by
      have := implSum a len cap zs w h
      simp only [smC, smV, hl, if_false] at this
      exact this)
    have H : Hid (isS zs = false) := by unfold Hid isS; rw [decide_eq_false hl, Bool.false_and]
    generalize isS zs = b at *
    clear h
    go_enter Try.func96, Try.ntmps96
    go_wp2_with fail
    refine (K.out).mono ?_
    rintro e w1 ⟨rfl, hb1⟩
    go_wp2
    go_ret
    exact ⟨ret_b H.out.symm, hb1.alloc hb1.size _⟩

end Go.Proofs.Ytgjkbaplfbiomaa

namespace Go.Proofs.Ytgjkbaplfbiomaa
open Go.ChangeShapes Go.WideShapes Go.ChangeAt Go.RowKit

def seal0 (zs : List Int) (A : Nat) : List Int := (zs.set A 0).set (A + 1) 0
def sealB (zs : List Int) (A : Nat) : List Int := ((seal0 zs A).set A (sumV (seal0 zs A) / 256)).set (A + 1) (sumV (seal0 zs A) % 256)
theorem sumV_bd (zs : List Int) : 0 ≤ sumV zs ∧ sumV zs ≤ 65535 := by
  have := foldN_bd (sumTo zs zs.length)
  unfold sumV; omega
def slOk (len at' : Int) : Bool := decide (0 ≤ at' ∧ at' ≤ len - 2 ∧ at' % 2 = 0)
def slC (zs : List Int) (at' : Int) : Int := if zs.length ≤ 700 then (if slOk zs.length at' then 0 else 3) else 2
def slB (zs : List Int) (at' : Int) : List Int := if zs.length ≤ 700 then (if slOk zs.length at' then sealB zs at'.toNat else []) else []
theorem sealB_len (zs : List Int) (A : Nat) : (sealB zs A).length = zs.length := by simp [sealB, seal0]
theorem slB_len (zs : List Int) (at' : Int) : (slB zs at').length ≤ 700 := by
  unfold slB
  split
  · split
    · rw [sealB_len]; assumption
    · simp
  · simp

set_option maxHeartbeats 1000000 in
theorem l1Seal_any (g len cap base A : Nat) (zs : List Int) (w : World) (h : Own w base (some ⟨g, 0, none⟩) len cap zs) (hl : len ≤ 1048576) (hA : A + 2 ≤ len) :
    Calls Try.prog 72 #[.slice (some ⟨g, 0, none⟩) len cap, .int .i64 A] w fun e w' => e = .returned (.slice (some ⟨g, 0, none⟩) len cap) ∧ Own w' base (some ⟨g, 0, none⟩) len cap (sealB zs A) ∧ w.grownBy w' (some g) := by
  have hc0 := h.cellAt A (by omega)
  have hf0 := h.frozenAt A
  obtain ⟨o1, g1⟩ := h.set A 0 (by omega)
  have hc1 := o1.cellAt (A + 1) (by omega)
  have hf1 := o1.frozenAt (A + 1)
  obtain ⟨o2, g2⟩ := o1.set (A + 1) 0 (by omega)
  have K := Lib.hid (l1Sum_any _ _ _ _ _ o2.rd hl)
  obtain ⟨v, hv⟩ : ∃ v, v = sumV (seal0 zs A) := ⟨_, rfl⟩
  have hvb : 0 ≤ v ∧ v ≤ 65535 := by rw [hv]; exact sumV_bd _
  have K : Hid (Calls Try.prog 78 #[.slice (some ⟨g, 0, none⟩) len cap] ((w.setCell ⟨g, A, none⟩ (.int .u8 0)).setCell ⟨g, A + 1, none⟩ (.int .u8 0)) fun e w' => e = .returned (.int .i64 v) ∧ ((w.setCell ⟨g, A, none⟩ (.int .u8 0)).setCell ⟨g, A + 1, none⟩ (.int .u8 0)) = w') := by
    rw [hv]; exact K.out
  have HB : Hid (sealB zs A = ((seal0 zs A).set A (v / 256)).set (A + 1) (v % 256)) := by unfold Hid sealB; rw [hv]
  have O2 := Lib.hid o2
  have G2 := Lib.hid (grown_trans g1 g2)
  have i1 : (0 : Int) ≤ (A : Int) + 1 := by omega
  have i2 : (A : Int) + 1 < len := by omega
  have i3 : ((A : Int) + 1).toNat = A + 1 := by omega
  clear hv o1 o2 g1 g2 h
  go_enter Try.func72, Try.ntmps72
  go_wp2_with fail
  refine K.out.mono ?_
  rintro e w2 ⟨rfl, hw2⟩
  have o2 := O2.out
  have g2 := G2.out
  rw [hw2] at o2 g2
  have hc2 := o2.cellAt A (by omega)
  have hf2 := o2.frozenAt A
  obtain ⟨o3, g3⟩ := o2.set A (v / 256) (by omega)
  have hc3 := o3.cellAt (A + 1) (by omega)
  have hf3 := o3.frozenAt (A + 1)
  obtain ⟨o4, g4⟩ := o3.set (A + 1) (v % 256) (by omega)
  have R := Lib.hid (And.intro o4 (grown_trans g2 (grown_trans g3 g4)))
  clear hw2 hc0 hf0 hc1 hf1 o2 g2 o3 g3 o4 g4 O2 G2 K
  go_wp2
  go_ret
  refine ⟨rfl, ?_, R.out.2⟩
  rw [HB.out]
  exact R.out.1
end Go.Proofs.Ytgjkbaplfbiomaa
