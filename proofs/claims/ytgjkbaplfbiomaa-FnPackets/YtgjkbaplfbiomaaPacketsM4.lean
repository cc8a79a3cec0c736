/-
  Draws of packets.
  Draws of packets with a fault now and then.
  Draws of echos.
  Draws of echos with a fault now and then.
  Draws of what is packed: packets and echos with a fault now and then.
  Draws: bytes that are turned now and then.
  The sum of a head of 20 bytes made right again, by the model.
  Draws of the bytes of a packet, turned now and then.
  Draws of the bytes of an echo, turned now and then.
  Draws of two packets.
  The head of a packet, packed by the program.
  bytes.Equal, and SameFrames of the program.
  Contracts of the program's PacketFault, EchoFault and SamePackets, and their laws.
  PackPacket of the program, and its law.
-/
import Derived.Test.YtgjkbaplfbiomaaPacketsM3
import Derived.Test.YtgjkbaplfbiomaaPacketsM1
import Derived.Test.YtgjkbaplfbiomaaPacketsM0
import Derived.Test.YtgjkbaplfbiomaaPacketsM2
import Derived.Laws.Closers25b
import Derived.Deep.RegionHeld3
namespace Go.Proofs.Ytgjkbaplfbiomaa
open Go.ChangeShapes Go.WideShapes Go.ChangeAt Go.RowKit

/-- a packet was drawn, its body in an array of its own -/
def PkDrawn (w : World) (b t : Nat) (a : Option Addr) (len cap : Nat) (zs : List Int) (e : Ending) (w' : World) : Prop :=
  ∃ (kf kt kp kl : Int) (a' : Option Addr) (n c' : Nat) (ys : List Int), e = .returned (.agg #[.int .i64 kf, .int .i64 kt, .int .i64 kp, .int .i64 kl, .slice a' n c']) ∧ (0 ≤ kf ∧ kf ≤ 4294967295) ∧ (0 ≤ kt ∧ kt ≤ 4294967295) ∧ (0 ≤ kp ∧ kp ≤ 255) ∧ (1 ≤ kl ∧ kl ≤ 255) ∧ n ≤ 21 ∧
    Own w' w.heap.size a' n c' ys ∧ Src w' b (t + 5 + n) a len cap zs ∧ w.grownBy w' (some b)

set_option maxHeartbeats 2000000 in
theorem l3Draw_any (b t : Nat) (a : Option Addr) (len cap : Nat) (zs : List Int) (w : World) (h : Src w b t a len cap zs) (ht : t ≤ 900000) (hl : len ≤ 1048576) :
    Calls Try.prog 58 #[.pointer (some ⟨b, 0, none⟩)] w (PkDrawn w b t a len cap zs) := by
  have z0 := h.box.lt
  have S0 := Lib.hid (h.alloc (.cells #[.int .i64 0, .int .i64 0, .int .i64 0, .int .i64 0, .slice none 0 0] 25))
  have G0 := Lib.hid (World.grownBy_alloc w (.cells #[.int .i64 0, .int .i64 0, .int .i64 0, .int .i64 0, .slice none 0 0] 25) (some b))
  have R0 := Lib.hid (Box.new w 25 #[.int .i64 0, .int .i64 0, .int .i64 0, .int .i64 0, .slice none 0 0])
  have y0 : b < (w.alloc (.cells #[.int .i64 0, .int .i64 0, .int .i64 0, .int .i64 0, .slice none 0 0] 25)).heap.size := by simp; omega
  clear h
  go_enter Try.func58, Try.ntmps58
  have K0 := Lib.hid (l1Pick_any b (t + 0) (w.alloc (.cells #[.int .i64 0, .int .i64 0, .int .i64 0, .int .i64 0, .slice none 0 0] 25)).heap.size 3 [0, 167772161, 4294967295] 0 4294967295 a len cap zs ((w.alloc (.cells #[.int .i64 0, .int .i64 0, .int .i64 0, .int .i64 0, .slice none 0 0] 25)).alloc (.cells #[.int .i64 0, .int .i64 167772161, .int .i64 4294967295] 2)) (S0.out.alloc _) (fun x hx => by simp at hx; omega) rfl (by omega) (by omega) (Box.new _ _ _) (by omega) (by omega) hl)
  simp only [World.size_alloc] at K0
  have A0 := Lib.hid (grown_trans G0.out (World.grownBy_alloc (w.alloc (.cells #[.int .i64 0, .int .i64 0, .int .i64 0, .int .i64 0, .slice none 0 0] 25)) (.cells #[.int .i64 0, .int .i64 167772161, .int .i64 4294967295] 2) (some b)))
  have Q0 := Lib.hid (R0.out.alloc (.cells #[.int .i64 0, .int .i64 167772161, .int .i64 4294967295] 2))
  go_wp2_with fail
  refine K0.out.mono ?_
  rintro e w1 ⟨x0, rfl, l0, u0, s1, g1⟩
  have S1 := Lib.hid s1
  have G1 := Lib.hid (grown_trans A0.out g1)
  have R1 := Lib.hid (Q0.out.grown g1 (by simp; omega))
  have y1 : b < w1.heap.size := s1.box.lt
  clear s1 g1 K0 A0 Q0 S0 G0 R0 y0
  have K1 := Lib.hid (l1Pick_any b (t + 1) w1.heap.size 2 [167772162, 0] 0 4294967295 a len cap zs (w1.alloc (.cells #[.int .i64 167772162, .int .i64 0] 2)) (S1.out.alloc _) (fun x hx => by simp at hx; omega) rfl (by omega) (by omega) (Box.new _ _ _) (by omega) (by omega) hl)
  have A1 := Lib.hid (grown_trans G1.out (World.grownBy_alloc w1 (.cells #[.int .i64 167772162, .int .i64 0] 2) (some b)))
  have Q1 := Lib.hid (R1.out.alloc (.cells #[.int .i64 167772162, .int .i64 0] 2))
  go_wp2_with fail
  refine K1.out.mono ?_
  rintro e w2 ⟨x1, rfl, l1, u1, s2, g2⟩
  have S2 := Lib.hid s2
  have G2 := Lib.hid (grown_trans A1.out g2)
  have R2 := Lib.hid (Q1.out.grown g2 (by simp; omega))
  have y2 : b < w2.heap.size := s2.box.lt
  clear s2 g2 K1 A1 Q1 S1 G1 R1 y1
  have K2 := Lib.hid (l1Pick_any b (t + 2) w2.heap.size 5 [1, 6, 17, 0, 255] 0 255 a len cap zs (w2.alloc (.cells #[.int .i64 1, .int .i64 6, .int .i64 17, .int .i64 0, .int .i64 255] 2)) (S2.out.alloc _) (fun x hx => by simp at hx; omega) rfl (by omega) (by omega) (Box.new _ _ _) (by omega) (by omega) hl)
  have A2 := Lib.hid (grown_trans G2.out (World.grownBy_alloc w2 (.cells #[.int .i64 1, .int .i64 6, .int .i64 17, .int .i64 0, .int .i64 255] 2) (some b)))
  have Q2 := Lib.hid (R2.out.alloc (.cells #[.int .i64 1, .int .i64 6, .int .i64 17, .int .i64 0, .int .i64 255] 2))
  go_wp2_with fail
  refine K2.out.mono ?_
  rintro e w3 ⟨x2, rfl, l2, u2, s3, g3⟩
  have S3 := Lib.hid s3
  have G3 := Lib.hid (grown_trans A2.out g3)
  have R3 := Lib.hid (Q2.out.grown g3 (by simp; omega))
  have y3 : b < w3.heap.size := s3.box.lt
  clear s3 g3 K2 A2 Q2 S2 G2 R2 y2
  have K3 := Lib.hid (l1Pick_any b (t + 3) w3.heap.size 3 [1, 64, 255] 1 255 a len cap zs (w3.alloc (.cells #[.int .i64 1, .int .i64 64, .int .i64 255] 2)) (S3.out.alloc _) (fun x hx => by simp at hx; omega) rfl (by omega) (by omega) (Box.new _ _ _) (by omega) (by omega) hl)
  have A3 := Lib.hid (grown_trans G3.out (World.grownBy_alloc w3 (.cells #[.int .i64 1, .int .i64 64, .int .i64 255] 2) (some b)))
  have Q3 := Lib.hid (R3.out.alloc (.cells #[.int .i64 1, .int .i64 64, .int .i64 255] 2))
  go_wp2_with fail
  refine K3.out.mono ?_
  rintro e w4 ⟨x3, rfl, l3, u3, s4, g4⟩
  have S4 := Lib.hid s4
  have G4 := Lib.hid (grown_trans A3.out g4)
  have R4 := Lib.hid (Q3.out.grown g4 (by simp; omega))
  have y4 : b < w4.heap.size := s4.box.lt
  clear s4 g4 K3 A3 Q3 S3 G3 R3 y3
  have K4 := Lib.hid (l1Pick_any b (t + 4) w4.heap.size 4 [0, 1, 8, 21] 0 21 a len cap zs (w4.alloc (.cells #[.int .i64 0, .int .i64 1, .int .i64 8, .int .i64 21] 2)) (S4.out.alloc _) (fun x hx => by simp at hx; omega) rfl (by omega) (by omega) (Box.new _ _ _) (by omega) (by omega) hl)
  have A4 := Lib.hid (grown_trans G4.out (World.grownBy_alloc w4 (.cells #[.int .i64 0, .int .i64 1, .int .i64 8, .int .i64 21] 2) (some b)))
  have Q4 := Lib.hid (R4.out.alloc (.cells #[.int .i64 0, .int .i64 1, .int .i64 8, .int .i64 21] 2))
  go_wp2_with fail
  refine K4.out.mono ?_
  rintro e w5 ⟨x4, rfl, l4, u4, s5, g5⟩
  have S5 := Lib.hid s5
  have G5 := Lib.hid (grown_trans A4.out g5)
  have R5 := Lib.hid (Q4.out.grown g5 (by simp; omega))
  have y5 : b < w5.heap.size := s5.box.lt
  clear s5 g5 K4 A4 Q4 S4 G4 R4 y4
  obtain ⟨n, rfl⟩ := Int.eq_ofNat_of_zero_le l4
  have hn : n ≤ 21 := by omega
  have KS := Lib.hid (l1Some_any b (t + 5) n a len cap zs w5 S5.out (by omega) hl)
  have z5 := Lib.hid (G5.out.size)
  go_wp2_with fail
  refine KS.out.mono ?_
  rintro e w6 ⟨a6, c6, ys, rfl, o6, s6, g6⟩
  have R6 := R5.out.grown g6 (by simp; omega)
  have zR := R5.out.lt
  obtain ⟨_, r0, r1, r2, r3, r4⟩ := R6.five
  have f0 := R6.frozen 0
  have f1 := R6.frozen 1
  have f2 := R6.frozen 2
  have f3 := R6.frozen 3
  have f4 := R6.frozen 4
  have hne : Hid (∀ x, a6 = some x → ¬ x.block = w.heap.size) := fun x hx e => by
    have := (o6.lt x hx).1
    omega
  have O6 := Lib.hid (o6.rebase (show w.heap.size ≤ w5.heap.size by omega))
  have S6 := Lib.hid s6
  have G6 := Lib.hid (grown_trans G5.out g6)
  clear o6 s6 g6 KS S5 G5 R5 R6
  go_wp2
  refine bodyPost_ret (v := .agg #[.int .i64 x0, .int .i64 x1, .int .i64 x2, .int .i64 x3, .slice a6 n c6]) (by simp [results, Try.results58, go_sem, r0, r1, r2, r3, r4]) rfl ⟨x0, x1, x2, x3, a6, n, c6, ys, rfl, ⟨l0, u0⟩, ⟨l1, u1⟩, ⟨l2, u2⟩, ⟨l3, u3⟩, hn, (((((O6.out.setOther _ _ hne.out).setOther _ _ hne.out).setOther _ _ hne.out).setOther _ _ hne.out).setOther _ _ hne.out), ?_, ?_⟩
  · exact (((((S6.out.grown (grown_setCell _ _ _) (fun x e => by simp at e; omega)).grown (grown_setCell _ _ _) (fun x e => by simp at e; omega)).grown (grown_setCell _ _ _) (fun x e => by simp at e; omega)).grown (grown_setCell _ _ _) (fun x e => by simp at e; omega)).grown (grown_setCell _ _ _) (fun x e => by simp at e; omega))
  · exact (grown_through (grown_through (grown_through (grown_through (grown_through G6.out (grown_setCell _ _ _) (fun x e => by simp at e; omega)) (grown_setCell _ _ _) (fun x e => by simp at e; omega)) (grown_setCell _ _ _) (fun x e => by simp at e; omega)) (grown_setCell _ _ _) (fun x e => by simp at e; omega)) (grown_setCell _ _ _) (fun x e => by simp at e; omega))
end Go.Proofs.Ytgjkbaplfbiomaa

namespace Go.Proofs.Ytgjkbaplfbiomaa
open Go.ChangeShapes Go.WideShapes Go.ChangeAt Go.RowKit

/-- some packet, its body in an array of its own -/
def PkAny (w : World) (e : Ending) (w' : World) : Prop :=
  ∃ (kf kt kp kl : Int) (a' : Option Addr) (n c' : Nat) (ys : List Int), e = .returned (.agg #[.int .i64 kf, .int .i64 kt, .int .i64 kp, .int .i64 kl, .slice a' n c']) ∧ ((-1 ≤ kf ∧ kf ≤ 4294967296) ∧ (-1 ≤ kt ∧ kt ≤ 4294967296) ∧ (-1 ≤ kp ∧ kp ≤ 256) ∧ (0 ≤ kl ∧ kl ≤ 256)) ∧ n ≤ 561 ∧
    Own w' w.heap.size a' n c' ys ∧ Below w.heap.size w w'

set_option maxHeartbeats 4000000 in
theorem drawPacketFault (a : Option Addr) (len cap : Nat) (zs : List Int) (w : World) (h : Rd w a len cap zs) (hl : len ≤ 1048576) :
    Calls Try.prog 53 #[.slice a len cap] w (PkAny w) := by
  have K0 := Lib.hid (l1Source_any a len cap zs (w.alloc (.cells #[.int .i64 0, .int .i64 0, .int .i64 0, .int .i64 0, .slice none 0 0] 25)) (h.alloc _))
  have R0 := Lib.hid (Box.new w 25 #[.int .i64 0, .int .i64 0, .int .i64 0, .int .i64 0, .slice none 0 0])
  have B0 := Lib.hid ((Below.refl w.heap.size w).alloc (Nat.le_refl _) (.cells #[.int .i64 0, .int .i64 0, .int .i64 0, .int .i64 0, .slice none 0 0] 25))
  simp only [World.size_alloc] at K0
  clear h
  go_enter Try.func53, Try.ntmps53
  go_wp2_with fail
  refine K0.out.mono ?_
  rintro e w1 ⟨rfl, s1, b1⟩
  have R1 := Lib.hid (R0.out.below (B := w.heap.size + 1) b1 (by omega))
  have B1 := Lib.hid (B0.out.trans (b1.mono (by omega)))
  have z1 := Lib.hid s1.box.lt
  have K1 := Lib.hid (l3Draw_any _ _ a len cap zs w1 s1 (by omega) hl)
  clear s1 b1 K0 R0 B0
  go_wp2_with fail
  refine K1.out.mono ?_
  rintro e w2 ⟨kf, kt, kp, kl, a2, n2, c2, ys2, rfl, b_f, b_t, b_p, b_l, hn2, o2, s2, g2⟩
  have z2 := Lib.hid (Nat.lt_of_lt_of_le z1.out g2.size)
  have R2 := Lib.hid ((R1.out.grown g2 (by simp)).alloc (.cells #[.int .i64 kf, .int .i64 kt, .int .i64 kp, .int .i64 kl, .slice a2 n2 c2] 25))
  have P2 := Lib.hid (Box.new w2 25 #[.int .i64 kf, .int .i64 kt, .int .i64 kp, .int .i64 kl, .slice a2 n2 c2])
  have B2' := B1.out.grown g2 B1.out.size (fun k e => by cases e; omega)
  have B2 := Lib.hid (B2'.alloc B2'.size (.cells #[.int .i64 kf, .int .i64 kt, .int .i64 kp, .int .i64 kl, .slice a2 n2 c2] 25))
  have O2 := Lib.hid (o2.alloc (.cells #[.int .i64 kf, .int .i64 kt, .int .i64 kp, .int .i64 kl, .slice a2 n2 c2] 25))
  have NP := Lib.hid (show ∀ x, a2 = some x → ¬ x.block = w2.heap.size from fun x hx e => by have := (o2.lt x hx).2; omega)
  have NR := Lib.hid (show ∀ x, a2 = some x → ¬ x.block = w.heap.size from fun x hx e => by have := (o2.lt x hx).1; have := z1.out; omega)
  have NB := Lib.hid (show ∀ x, a2 = some x → some x.block ≠ some (w.heap.size + 1) from fun x hx e => by have := (o2.lt x hx).1; have := z1.out; simp at e; omega)
  have S2 := Lib.hid (s2.alloc (.cells #[.int .i64 kf, .int .i64 kt, .int .i64 kp, .int .i64 kl, .slice a2 n2 c2] 25))
  have y2 : w2.heap.size < (w2.alloc (.cells #[.int .i64 kf, .int .i64 kt, .int .i64 kp, .int .i64 kl, .slice a2 n2 c2] 25)).heap.size := by simp
  have q1 := Lib.hid (show w1.heap.size ≤ w2.heap.size from g2.size)
  clear o2 s2 g2 R1 B1 B2' K1
  generalize hW2 : w2.alloc (.cells #[.int .i64 kf, .int .i64 kt, .int .i64 kp, .int .i64 kl, .slice a2 n2 c2] 25) = W2 at *
  have K2 := Lib.hid (l1Next_any (w.heap.size + 1) _ 10 a len cap zs W2 S2.out (by omega) hl (by omega))
  clear S2
  go_wp2_with fail
  clear hW2
  refine K2.out.mono ?_
  rintro e w3 ⟨r, rfl, hr0, hr1, s3, g3⟩
  have hr2 := hr1 (by omega)
  have z2o := z2.out
  have R3 := Lib.hid (R2.out.grown g3 (by simp))
  have P3 := Lib.hid (P2.out.grown g3 (by simp; omega))
  have B3 := Lib.hid (B2.out.grown g3 B2.out.size (fun k e => by cases e; omega))
  have O3 := Lib.hid ((O2.out.grown g3 NB.out).rebase (show w.heap.size ≤ w1.heap.size by have := z1.out; omega))
  have S3 := Lib.hid s3
  have QL : Hid (w.heap.size + 1 < w2.heap.size) := z2.out
  have q3 : w2.heap.size < w3.heap.size := by have := g3.size; omega
  clear s3 g3 R2 P2 B2 O2 K2 hr1
  obtain ⟨rn, rfl⟩ := Int.eq_ofNat_of_zero_le hr0
  have hrn : rn = 0 ∨ rn = 1 ∨ rn = 2 ∨ rn = 3 ∨ 4 ≤ rn := by omega
  rcases hrn with rfl | rfl | rfl | rfl | hr4
  · have K4 := Lib.hid (l1Pick_any (w.heap.size + 1) _ w3.heap.size 2 [-1, 4294967296] (-1) 4294967296 a len cap zs (w3.alloc (.cells #[.int .i64 (-1), .int .i64 4294967296] 2)) (S3.out.alloc _) (fun x hx => by simp at hx; omega) rfl (by omega) (by omega) (Box.new _ _ _) (by omega) (by omega) hl)
    go_wp2_with fail
    refine K4.out.mono ?_
    rintro e w4 ⟨x, rfl, x0, x1, s4, g4⟩
    have RB := Lib.hid ((R3.out.alloc (.cells #[.int .i64 (-1), .int .i64 4294967296] 2)).grown g4 (by simp))
    have PB := Lib.hid ((P3.out.alloc (.cells #[.int .i64 (-1), .int .i64 4294967296] 2)).grown g4 (by simp; omega))
    have BL := Lib.hid ((B3.out.alloc B3.out.size (.cells #[.int .i64 (-1), .int .i64 4294967296] 2)).grown g4 (by have := B3.out.size; simp; omega) (fun k e => by cases e; omega))
    have OL := Lib.hid ((O3.out.alloc (.cells #[.int .i64 (-1), .int .i64 4294967296] 2)).grown g4 NB.out)
    have neP := NP
    have neR := NR
    clear s4 g4 K4 R3 P3 B3 O3 S3
    obtain ⟨_, p0, p1, p2, p3, p4⟩ := PB.out.five
    obtain ⟨_, r0, r1, r2, r3, r4⟩ := RB.out.five
    have fr0 := RB.out.frozen 0
    have fr1 := RB.out.frozen 1
    have fr2 := RB.out.frozen 2
    have fr3 := RB.out.frozen 3
    have fr4 := RB.out.frozen 4
    have fp0 := PB.out.frozen 0
    have hq1 := QL.out
    have hneP : ¬ w2.heap.size = w.heap.size := by omega
    clear PB RB
    go_wp2
    refine bodyPost_ret (v := .agg #[.int .i64 x, .int .i64 kt, .int .i64 kp, .int .i64 kl, .slice a2 n2 c2]) (by simp [results, Try.results53, go_sem, r0, r1, r2, r3, r4]) rfl ⟨_, _, _, _, a2, n2, c2, _, rfl, by omega, by omega, ((((((OL.out.setOther _ _ neP.out).setOther _ _ neR.out).setOther _ _ neR.out).setOther _ _ neR.out).setOther _ _ neR.out).setOther _ _ neR.out), ((((((BL.out.setCell (by dsimp only; omega) _).setCell (Nat.le_refl _) _).setCell (Nat.le_refl _) _).setCell (Nat.le_refl _) _).setCell (Nat.le_refl _) _).setCell (Nat.le_refl _) _)⟩
  · have K4 := Lib.hid (l1Pick_any (w.heap.size + 1) _ w3.heap.size 2 [0, 256] (0) 256 a len cap zs (w3.alloc (.cells #[.int .i64 0, .int .i64 256] 2)) (S3.out.alloc _) (fun x hx => by simp at hx; omega) rfl (by omega) (by omega) (Box.new _ _ _) (by omega) (by omega) hl)
    go_wp2_with fail
    refine K4.out.mono ?_
    rintro e w4 ⟨x, rfl, x0, x1, s4, g4⟩
    have RB := Lib.hid ((R3.out.alloc (.cells #[.int .i64 0, .int .i64 256] 2)).grown g4 (by simp))
    have PB := Lib.hid ((P3.out.alloc (.cells #[.int .i64 0, .int .i64 256] 2)).grown g4 (by simp; omega))
    have BL := Lib.hid ((B3.out.alloc B3.out.size (.cells #[.int .i64 0, .int .i64 256] 2)).grown g4 (by have := B3.out.size; simp; omega) (fun k e => by cases e; omega))
    have OL := Lib.hid ((O3.out.alloc (.cells #[.int .i64 0, .int .i64 256] 2)).grown g4 NB.out)
    have neP := NP
    have neR := NR
    clear s4 g4 K4 R3 P3 B3 O3 S3
    obtain ⟨_, p0, p1, p2, p3, p4⟩ := PB.out.five
    obtain ⟨_, r0, r1, r2, r3, r4⟩ := RB.out.five
    have fr0 := RB.out.frozen 0
    have fr1 := RB.out.frozen 1
    have fr2 := RB.out.frozen 2
    have fr3 := RB.out.frozen 3
    have fr4 := RB.out.frozen 4
    have fp3 := PB.out.frozen 3
    have hq1 := QL.out
    have hneP : ¬ w2.heap.size = w.heap.size := by omega
    clear PB RB
    go_wp2
    refine bodyPost_ret (v := .agg #[.int .i64 kf, .int .i64 kt, .int .i64 kp, .int .i64 x, .slice a2 n2 c2]) (by simp [results, Try.results53, go_sem, r0, r1, r2, r3, r4]) rfl ⟨_, _, _, _, a2, n2, c2, _, rfl, by omega, by omega, ((((((OL.out.setOther _ _ neP.out).setOther _ _ neR.out).setOther _ _ neR.out).setOther _ _ neR.out).setOther _ _ neR.out).setOther _ _ neR.out), ((((((BL.out.setCell (by dsimp only; omega) _).setCell (Nat.le_refl _) _).setCell (Nat.le_refl _) _).setCell (Nat.le_refl _) _).setCell (Nat.le_refl _) _).setCell (Nat.le_refl _) _)⟩
  · have K4 := Lib.hid (l1Pick_any (w.heap.size + 1) _ w3.heap.size 2 [-1, 256] (-1) 256 a len cap zs (w3.alloc (.cells #[.int .i64 (-1), .int .i64 256] 2)) (S3.out.alloc _) (fun x hx => by simp at hx; omega) rfl (by omega) (by omega) (Box.new _ _ _) (by omega) (by omega) hl)
    go_wp2_with fail
    refine K4.out.mono ?_
    rintro e w4 ⟨x, rfl, x0, x1, s4, g4⟩
    have RB := Lib.hid ((R3.out.alloc (.cells #[.int .i64 (-1), .int .i64 256] 2)).grown g4 (by simp))
    have PB := Lib.hid ((P3.out.alloc (.cells #[.int .i64 (-1), .int .i64 256] 2)).grown g4 (by simp; omega))
    have BL := Lib.hid ((B3.out.alloc B3.out.size (.cells #[.int .i64 (-1), .int .i64 256] 2)).grown g4 (by have := B3.out.size; simp; omega) (fun k e => by cases e; omega))
    have OL := Lib.hid ((O3.out.alloc (.cells #[.int .i64 (-1), .int .i64 256] 2)).grown g4 NB.out)
    have neP := NP
    have neR := NR
    clear s4 g4 K4 R3 P3 B3 O3 S3
    obtain ⟨_, p0, p1, p2, p3, p4⟩ := PB.out.five
    obtain ⟨_, r0, r1, r2, r3, r4⟩ := RB.out.five
    have fr0 := RB.out.frozen 0
    have fr1 := RB.out.frozen 1
    have fr2 := RB.out.frozen 2
    have fr3 := RB.out.frozen 3
    have fr4 := RB.out.frozen 4
    have fp2 := PB.out.frozen 2
    have hq1 := QL.out
    have hneP : ¬ w2.heap.size = w.heap.size := by omega
    clear PB RB
    go_wp2
    refine bodyPost_ret (v := .agg #[.int .i64 kf, .int .i64 kt, .int .i64 x, .int .i64 kl, .slice a2 n2 c2]) (by simp [results, Try.results53, go_sem, r0, r1, r2, r3, r4]) rfl ⟨_, _, _, _, a2, n2, c2, _, rfl, by omega, by omega, ((((((OL.out.setOther _ _ neP.out).setOther _ _ neR.out).setOther _ _ neR.out).setOther _ _ neR.out).setOther _ _ neR.out).setOther _ _ neR.out), ((((((BL.out.setCell (by dsimp only; omega) _).setCell (Nat.le_refl _) _).setCell (Nat.le_refl _) _).setCell (Nat.le_refl _) _).setCell (Nat.le_refl _) _).setCell (Nat.le_refl _) _)⟩

  · have K4 := Lib.hid (l1Chance_any (w.heap.size + 1) _ 3 a len cap zs w3 S3.out (by omega) hl (by omega))
    go_wp2_with fail
    refine K4.out.mono ?_
    rintro e w4 ⟨cc, rfl, s4, g4⟩
    have R4 := Lib.hid (R3.out.grown g4 (by simp))
    have P4 := Lib.hid (P3.out.grown g4 (by simp; omega))
    have B4 := Lib.hid (B3.out.grown g4 B3.out.size (fun k e => by cases e; omega))
    have O4 := Lib.hid (O3.out.grown g4 NB.out)
    have S4 := Lib.hid s4
    have q4 : w2.heap.size < w4.heap.size := by have := g4.size; omega
    clear s4 g4 K4 R3 P3 B3 O3 S3
    cases cc
    · have RB := R4
      have PB := P4
      have BL := B4
      have OL := O4
      have neP := NP
      have neR := NR
      clear S4 R4 P4 B4 O4
      obtain ⟨_, p0, p1, p2, p3, p4⟩ := PB.out.five
      obtain ⟨_, r0, r1, r2, r3, r4⟩ := RB.out.five
      have fr0 := RB.out.frozen 0
      have fr1 := RB.out.frozen 1
      have fr2 := RB.out.frozen 2
      have fr3 := RB.out.frozen 3
      have fr4 := RB.out.frozen 4
      have hq1 := QL.out
      have hneP : ¬ w2.heap.size = w.heap.size := by omega
      clear PB RB
      go_wp2
      refine bodyPost_ret (v := .agg #[.int .i64 kf, .int .i64 kt, .int .i64 kp, .int .i64 kl, .slice a2 n2 c2]) (by simp [results, Try.results53, go_sem, r0, r1, r2, r3, r4]) rfl ⟨_, _, _, _, a2, n2, c2, _, rfl, by omega, by omega, (((((OL.out.setOther _ _ neR.out).setOther _ _ neR.out).setOther _ _ neR.out).setOther _ _ neR.out).setOther _ _ neR.out), (((((BL.out.setCell (Nat.le_refl _) _).setCell (Nat.le_refl _) _).setCell (Nat.le_refl _) _).setCell (Nat.le_refl _) _).setCell (Nat.le_refl _) _)⟩
    · have K5 := Lib.hid (l1Pick_any (w.heap.size + 1) _ w4.heap.size 2 [560, 561] 560 561 a len cap zs (w4.alloc (.cells #[.int .i64 560, .int .i64 561] 2)) (S4.out.alloc _) (fun x hx => by simp at hx; omega) rfl (by omega) (by omega) (Box.new _ _ _) (by omega) (by omega) hl)
      go_wp2_with fail
      refine K5.out.mono ?_
      rintro e w5 ⟨x, rfl, x0, x1, s5, g5⟩
      obtain ⟨n, rfl⟩ := Int.eq_ofNat_of_zero_le (show 0 ≤ x by omega)
      have R5 := Lib.hid ((R4.out.alloc (.cells #[.int .i64 560, .int .i64 561] 2)).grown g5 (by simp))
      have P5 := Lib.hid ((P4.out.alloc (.cells #[.int .i64 560, .int .i64 561] 2)).grown g5 (by simp; omega))
      have B5 := Lib.hid ((B4.out.alloc B4.out.size (.cells #[.int .i64 560, .int .i64 561] 2)).grown g5 (by have := B4.out.size; simp; omega) (fun k e => by cases e; omega))
      have q5 : w2.heap.size < w5.heap.size := by have := g5.size; simp at this; omega
      have K6 := Lib.hid (l1Some_any (w.heap.size + 1) _ n a len cap zs w5 s5 (by omega) hl)
      clear s5 g5 K5 R4 P4 B4 O4 S4
      go_wp2_with fail
      refine K6.out.mono ?_
      rintro e w6 ⟨a6, c6, ys6, rfl, o6, s6, g6⟩
      have RB := Lib.hid (R5.out.grown g6 (by simp))
      have PB := Lib.hid (P5.out.grown g6 (by simp; omega))
      have BL := Lib.hid (B5.out.grown g6 B5.out.size (fun k e => by cases e; omega))
      have neP := Lib.hid (show ∀ x, a6 = some x → ¬ x.block = w2.heap.size from fun x hx e => by have := (o6.lt x hx).1; omega)
      have neR := Lib.hid (show ∀ x, a6 = some x → ¬ x.block = w.heap.size from fun x hx e => by have := (o6.lt x hx).1; omega)
      have OL := Lib.hid (o6.rebase (show w.heap.size ≤ w5.heap.size by omega))
      clear o6 s6 g6 K6 R5 P5 B5
      obtain ⟨_, p0, p1, p2, p3, p4⟩ := PB.out.five
      obtain ⟨_, r0, r1, r2, r3, r4⟩ := RB.out.five
      have fr0 := RB.out.frozen 0
      have fr1 := RB.out.frozen 1
      have fr2 := RB.out.frozen 2
      have fr3 := RB.out.frozen 3
      have fr4 := RB.out.frozen 4
      have fp4 := PB.out.frozen 4
      have hq1 := QL.out
      have hneP : ¬ w2.heap.size = w.heap.size := by omega
      clear PB RB
      go_wp2
      refine bodyPost_ret (v := .agg #[.int .i64 kf, .int .i64 kt, .int .i64 kp, .int .i64 kl, .slice a6 n c6]) (by simp [results, Try.results53, go_sem, r0, r1, r2, r3, r4]) rfl ⟨_, _, _, _, a6, n, c6, _, rfl, by omega, by omega, ((((((OL.out.setOther _ _ neP.out).setOther _ _ neR.out).setOther _ _ neR.out).setOther _ _ neR.out).setOther _ _ neR.out).setOther _ _ neR.out), ((((((BL.out.setCell (by dsimp only; omega) _).setCell (Nat.le_refl _) _).setCell (Nat.le_refl _) _).setCell (Nat.le_refl _) _).setCell (Nat.le_refl _) _).setCell (Nat.le_refl _) _)⟩
  · have h0 : ((rn : Int) == 0) = false := by simp; omega
    have h1 : ((rn : Int) == 1) = false := by simp; omega
    have h2 : ((rn : Int) == 2) = false := by simp; omega
    have h3 : ((rn : Int) == 3) = false := by simp; omega
    have RB := R3
    have PB := P3
    have BL := B3
    have OL := O3
    have neP := NP
    have neR := NR
    clear S3 R3 P3 B3 O3
    obtain ⟨_, p0, p1, p2, p3, p4⟩ := PB.out.five
    obtain ⟨_, r0, r1, r2, r3, r4⟩ := RB.out.five
    have fr0 := RB.out.frozen 0
    have fr1 := RB.out.frozen 1
    have fr2 := RB.out.frozen 2
    have fr3 := RB.out.frozen 3
    have fr4 := RB.out.frozen 4
    have hq1 := QL.out
    have hneP : ¬ w2.heap.size = w.heap.size := by omega
    clear PB RB
    go_wp2
    refine bodyPost_ret (v := .agg #[.int .i64 kf, .int .i64 kt, .int .i64 kp, .int .i64 kl, .slice a2 n2 c2]) (by simp [results, Try.results53, go_sem, r0, r1, r2, r3, r4]) rfl ⟨_, _, _, _, a2, n2, c2, _, rfl, by omega, by omega, (((((OL.out.setOther _ _ neR.out).setOther _ _ neR.out).setOther _ _ neR.out).setOther _ _ neR.out).setOther _ _ neR.out), (((((BL.out.setCell (Nat.le_refl _) _).setCell (Nat.le_refl _) _).setCell (Nat.le_refl _) _).setCell (Nat.le_refl _) _).setCell (Nat.le_refl _) _)⟩
end Go.Proofs.Ytgjkbaplfbiomaa

namespace Go.Proofs.Ytgjkbaplfbiomaa
open Go.ChangeShapes Go.WideShapes Go.ChangeAt Go.RowKit

/-- an echo was drawn, its data in an array of their own -/
def EcDrawn (w : World) (b t : Nat) (a : Option Addr) (len cap : Nat) (zs : List Int) (e : Ending) (w' : World) : Prop :=
  ∃ (er : Bool) (ei es : Int) (a' : Option Addr) (n c' : Nat) (ys : List Int), e = .returned (.agg #[.bool er, .int .i64 ei, .int .i64 es, .slice a' n c']) ∧ (0 ≤ ei ∧ ei ≤ 65535) ∧ (0 ≤ es ∧ es ≤ 65535) ∧ n ≤ 9 ∧
    Own w' w.heap.size a' n c' ys ∧ Src w' b (t + 4 + n) a len cap zs ∧ w.grownBy w' (some b)

set_option maxHeartbeats 2000000 in
theorem l3DrawEcho_any (b t : Nat) (a : Option Addr) (len cap : Nat) (zs : List Int) (w : World) (h : Src w b t a len cap zs) (ht : t ≤ 900000) (hl : len ≤ 1048576) :
    Calls Try.prog 70 #[.pointer (some ⟨b, 0, none⟩)] w (EcDrawn w b t a len cap zs) := by
  have z0 := h.box.lt
  have S0 := Lib.hid (h.alloc (.cells #[.bool false, .int .i64 0, .int .i64 0, .slice none 0 0] 35))
  have G0 := Lib.hid (World.grownBy_alloc w (.cells #[.bool false, .int .i64 0, .int .i64 0, .slice none 0 0] 35) (some b))
  have R0 := Lib.hid (Box.new w 35 #[.bool false, .int .i64 0, .int .i64 0, .slice none 0 0])
  have K0 := Lib.hid (l1Chance_any b t 2 a len cap zs (w.alloc (.cells #[.bool false, .int .i64 0, .int .i64 0, .slice none 0 0] 35)) S0.out (by omega) hl (by omega))
  clear h
  go_enter Try.func70, Try.ntmps70
  go_wp2_with fail
  refine K0.out.mono ?_
  rintro e w1 ⟨x0, rfl, s1, g1⟩
  have S1 := Lib.hid s1
  have G1 := Lib.hid (grown_trans G0.out g1)
  have R1 := Lib.hid (R0.out.grown g1 (by simp; omega))
  have y1 : b < w1.heap.size := s1.box.lt
  clear s1 g1 K0 S0 G0 R0
  have K1 := Lib.hid (l1Pick_any b (t + 1) w1.heap.size 3 [0, 7, 65535] 0 65535 a len cap zs (w1.alloc (.cells #[.int .i64 0, .int .i64 7, .int .i64 65535] 2)) (S1.out.alloc _) (fun x hx => by simp at hx; omega) rfl (by omega) (by omega) (Box.new _ _ _) (by omega) (by omega) hl)
  have A1 := Lib.hid (grown_trans G1.out (World.grownBy_alloc w1 (.cells #[.int .i64 0, .int .i64 7, .int .i64 65535] 2) (some b)))
  have Q1 := Lib.hid (R1.out.alloc (.cells #[.int .i64 0, .int .i64 7, .int .i64 65535] 2))
  go_wp2_with fail
  refine K1.out.mono ?_
  rintro e w2 ⟨x1, rfl, l1, u1, s2, g2⟩
  have S2 := Lib.hid s2
  have G2 := Lib.hid (grown_trans A1.out g2)
  have R2 := Lib.hid (Q1.out.grown g2 (by simp; omega))
  have y2 : b < w2.heap.size := s2.box.lt
  clear s2 g2 K1 A1 Q1 S1 G1 R1 y1
  have K2 := Lib.hid (l1Pick_any b (t + 2) w2.heap.size 3 [0, 1, 65535] 0 65535 a len cap zs (w2.alloc (.cells #[.int .i64 0, .int .i64 1, .int .i64 65535] 2)) (S2.out.alloc _) (fun x hx => by simp at hx; omega) rfl (by omega) (by omega) (Box.new _ _ _) (by omega) (by omega) hl)
  have A2 := Lib.hid (grown_trans G2.out (World.grownBy_alloc w2 (.cells #[.int .i64 0, .int .i64 1, .int .i64 65535] 2) (some b)))
  have Q2 := Lib.hid (R2.out.alloc (.cells #[.int .i64 0, .int .i64 1, .int .i64 65535] 2))
  go_wp2_with fail
  refine K2.out.mono ?_
  rintro e w3 ⟨x2, rfl, l2, u2, s3, g3⟩
  have S3 := Lib.hid s3
  have G3 := Lib.hid (grown_trans A2.out g3)
  have R3 := Lib.hid (Q2.out.grown g3 (by simp; omega))
  have y3 : b < w3.heap.size := s3.box.lt
  clear s3 g3 K2 A2 Q2 S2 G2 R2 y2
  have K3 := Lib.hid (l1Pick_any b (t + 3) w3.heap.size 3 [0, 1, 9] 0 9 a len cap zs (w3.alloc (.cells #[.int .i64 0, .int .i64 1, .int .i64 9] 2)) (S3.out.alloc _) (fun x hx => by simp at hx; omega) rfl (by omega) (by omega) (Box.new _ _ _) (by omega) (by omega) hl)
  have A3 := Lib.hid (grown_trans G3.out (World.grownBy_alloc w3 (.cells #[.int .i64 0, .int .i64 1, .int .i64 9] 2) (some b)))
  have Q3 := Lib.hid (R3.out.alloc (.cells #[.int .i64 0, .int .i64 1, .int .i64 9] 2))
  go_wp2_with fail
  refine K3.out.mono ?_
  rintro e w4 ⟨x3, rfl, l3, u3, s4, g4⟩
  have S4 := Lib.hid s4
  have G4 := Lib.hid (grown_trans A3.out g4)
  have R4 := Lib.hid (Q3.out.grown g4 (by simp; omega))
  have y4 : b < w4.heap.size := s4.box.lt
  clear s4 g4 K3 A3 Q3 S3 G3 R3 y3
  obtain ⟨n, rfl⟩ := Int.eq_ofNat_of_zero_le l3
  have hn : n ≤ 9 := by omega
  have KS := Lib.hid (l1Some_any b (t + 4) n a len cap zs w4 S4.out (by omega) hl)
  go_wp2_with fail
  refine KS.out.mono ?_
  rintro e w5 ⟨a5, c5, ys, rfl, o5, s5, g5⟩
  have R5 := R4.out.grown g5 (by simp; omega)
  have zR := R4.out.lt
  obtain ⟨_, r0, r1, r2, r3⟩ := R5.four
  have f0 := R5.frozen 0
  have f1 := R5.frozen 1
  have f2 := R5.frozen 2
  have f3 := R5.frozen 3
  have hne : Hid (∀ x, a5 = some x → ¬ x.block = w.heap.size) := fun x hx e => by
    have := (o5.lt x hx).1
    omega
  have O5 := Lib.hid (o5.rebase (show w.heap.size ≤ w4.heap.size by omega))
  have S5 := Lib.hid s5
  have G5 := Lib.hid (grown_trans G4.out g5)
  clear o5 s5 g5 KS S4 G4 R4 R5
  go_wp2
  refine bodyPost_ret (v := .agg #[.bool x0, .int .i64 x1, .int .i64 x2, .slice a5 n c5]) (by simp [results, Try.results70, go_sem, r0, r1, r2, r3]) rfl ⟨x0, x1, x2, a5, n, c5, ys, rfl, ⟨l1, u1⟩, ⟨l2, u2⟩, hn, ((((O5.out.setOther _ _ hne.out).setOther _ _ hne.out).setOther _ _ hne.out).setOther _ _ hne.out), ?_, ?_⟩
  · exact ((((S5.out.grown (grown_setCell _ _ _) (fun x e => by simp at e; omega)).grown (grown_setCell _ _ _) (fun x e => by simp at e; omega)).grown (grown_setCell _ _ _) (fun x e => by simp at e; omega)).grown (grown_setCell _ _ _) (fun x e => by simp at e; omega))
  · exact (grown_through (grown_through (grown_through (grown_through G5.out (grown_setCell _ _ _) (fun x e => by simp at e; omega)) (grown_setCell _ _ _) (fun x e => by simp at e; omega)) (grown_setCell _ _ _) (fun x e => by simp at e; omega)) (grown_setCell _ _ _) (fun x e => by simp at e; omega))
end Go.Proofs.Ytgjkbaplfbiomaa

namespace Go.Proofs.Ytgjkbaplfbiomaa
open Go.ChangeShapes Go.WideShapes Go.ChangeAt Go.RowKit

/-- some echo, its data in an array of its own -/
def EcAny (w : World) (e : Ending) (w' : World) : Prop :=
  ∃ (er : Bool) (ei es : Int) (a' : Option Addr) (n c' : Nat) (ys : List Int), e = .returned (.agg #[.bool er, .int .i64 ei, .int .i64 es, .slice a' n c']) ∧ ((-1 ≤ ei ∧ ei ≤ 65536) ∧ (-1 ≤ es ∧ es ≤ 65536)) ∧ n ≤ 561 ∧
    Own w' w.heap.size a' n c' ys ∧ Below w.heap.size w w'

set_option maxHeartbeats 4000000 in
theorem drawEchoFault (a : Option Addr) (len cap : Nat) (zs : List Int) (w : World) (h : Rd w a len cap zs) (hl : len ≤ 1048576) :
    Calls Try.prog 68 #[.slice a len cap] w (EcAny w) := by
  have K0 := Lib.hid (l1Source_any a len cap zs (w.alloc (.cells #[.bool false, .int .i64 0, .int .i64 0, .slice none 0 0] 35)) (h.alloc _))
  have R0 := Lib.hid (Box.new w 35 #[.bool false, .int .i64 0, .int .i64 0, .slice none 0 0])
  have B0 := Lib.hid ((Below.refl w.heap.size w).alloc (Nat.le_refl _) (.cells #[.bool false, .int .i64 0, .int .i64 0, .slice none 0 0] 35))
  simp only [World.size_alloc] at K0
  clear h
  go_enter Try.func68, Try.ntmps68
  go_wp2_with fail
  refine K0.out.mono ?_
  rintro e w1 ⟨rfl, s1, b1⟩
  have R1 := Lib.hid (R0.out.below (B := w.heap.size + 1) b1 (by omega))
  have B1 := Lib.hid (B0.out.trans (b1.mono (by omega)))
  have z1 := Lib.hid s1.box.lt
  have K1 := Lib.hid (l3DrawEcho_any _ _ a len cap zs w1 s1 (by omega) hl)
  clear s1 b1 K0 R0 B0
  go_wp2_with fail
  refine K1.out.mono ?_
  rintro e w2 ⟨er, ei, es, a2, n2, c2, ys2, rfl, b_i, b_s, hn2, o2, s2, g2⟩
  have z2 := Lib.hid (Nat.lt_of_lt_of_le z1.out g2.size)
  have R2 := Lib.hid ((R1.out.grown g2 (by simp)).alloc (.cells #[.bool er, .int .i64 ei, .int .i64 es, .slice a2 n2 c2] 35))
  have P2 := Lib.hid (Box.new w2 35 #[.bool er, .int .i64 ei, .int .i64 es, .slice a2 n2 c2])
  have B2' := B1.out.grown g2 B1.out.size (fun k e => by cases e; omega)
  have B2 := Lib.hid (B2'.alloc B2'.size (.cells #[.bool er, .int .i64 ei, .int .i64 es, .slice a2 n2 c2] 35))
  have O2 := Lib.hid (o2.alloc (.cells #[.bool er, .int .i64 ei, .int .i64 es, .slice a2 n2 c2] 35))
  have NP := Lib.hid (show ∀ x, a2 = some x → ¬ x.block = w2.heap.size from fun x hx e => by have := (o2.lt x hx).2; omega)
  have NR := Lib.hid (show ∀ x, a2 = some x → ¬ x.block = w.heap.size from fun x hx e => by have := (o2.lt x hx).1; have := z1.out; omega)
  have NB := Lib.hid (show ∀ x, a2 = some x → some x.block ≠ some (w.heap.size + 1) from fun x hx e => by have := (o2.lt x hx).1; have := z1.out; simp at e; omega)
  have S2 := Lib.hid (s2.alloc (.cells #[.bool er, .int .i64 ei, .int .i64 es, .slice a2 n2 c2] 35))
  have y2 : w2.heap.size < (w2.alloc (.cells #[.bool er, .int .i64 ei, .int .i64 es, .slice a2 n2 c2] 35)).heap.size := by simp
  have q1 := Lib.hid (show w1.heap.size ≤ w2.heap.size from g2.size)
  clear o2 s2 g2 R1 B1 B2' K1
  generalize hW2 : w2.alloc (.cells #[.bool er, .int .i64 ei, .int .i64 es, .slice a2 n2 c2] 35) = W2 at *
  have K2 := Lib.hid (l1Next_any (w.heap.size + 1) _ 9 a len cap zs W2 S2.out (by omega) hl (by omega))
  clear S2
  go_wp2_with fail
  clear hW2
  refine K2.out.mono ?_
  rintro e w3 ⟨r, rfl, hr0, hr1, s3, g3⟩
  have hr2 := hr1 (by omega)
  have z2o := z2.out
  have R3 := Lib.hid (R2.out.grown g3 (by simp))
  have P3 := Lib.hid (P2.out.grown g3 (by simp; omega))
  have B3 := Lib.hid (B2.out.grown g3 B2.out.size (fun k e => by cases e; omega))
  have O3 := Lib.hid ((O2.out.grown g3 NB.out).rebase (show w.heap.size ≤ w1.heap.size by have := z1.out; omega))
  have S3 := Lib.hid s3
  have QL : Hid (w.heap.size + 1 < w2.heap.size) := z2.out
  have q3 : w2.heap.size < w3.heap.size := by have := g3.size; omega
  clear s3 g3 R2 P2 B2 O2 K2 hr1
  obtain ⟨rn, rfl⟩ := Int.eq_ofNat_of_zero_le hr0
  have hrn : rn = 0 ∨ rn = 1 ∨ rn = 2 ∨ 3 ≤ rn := by omega
  rcases hrn with rfl | rfl | rfl | hr4
  · have K4 := Lib.hid (l1Pick_any (w.heap.size + 1) _ w3.heap.size 2 [-1, 65536] (-1) 65536 a len cap zs (w3.alloc (.cells #[.int .i64 (-1), .int .i64 65536] 2)) (S3.out.alloc _) (fun x hx => by simp at hx; omega) rfl (by omega) (by omega) (Box.new _ _ _) (by omega) (by omega) hl)
    go_wp2_with fail
    refine K4.out.mono ?_
    rintro e w4 ⟨x, rfl, x0, x1, s4, g4⟩
    have RB := Lib.hid ((R3.out.alloc (.cells #[.int .i64 (-1), .int .i64 65536] 2)).grown g4 (by simp))
    have PB := Lib.hid ((P3.out.alloc (.cells #[.int .i64 (-1), .int .i64 65536] 2)).grown g4 (by simp; omega))
    have BL := Lib.hid ((B3.out.alloc B3.out.size (.cells #[.int .i64 (-1), .int .i64 65536] 2)).grown g4 (by have := B3.out.size; simp; omega) (fun k e => by cases e; omega))
    have OL := Lib.hid ((O3.out.alloc (.cells #[.int .i64 (-1), .int .i64 65536] 2)).grown g4 NB.out)
    have neP := NP
    have neR := NR
    clear s4 g4 K4 R3 P3 B3 O3 S3
    obtain ⟨_, p0, p1, p2, p3⟩ := PB.out.four
    obtain ⟨_, r0, r1, r2, r3⟩ := RB.out.four
    have fr0 := RB.out.frozen 0
    have fr1 := RB.out.frozen 1
    have fr2 := RB.out.frozen 2
    have fr3 := RB.out.frozen 3
    have fp1 := PB.out.frozen 1
    have hq1 := QL.out
    have hneP : ¬ w2.heap.size = w.heap.size := by omega
    clear PB RB
    go_wp2
    refine bodyPost_ret (v := .agg #[.bool er, .int .i64 x, .int .i64 es, .slice a2 n2 c2]) (by simp [results, Try.results68, go_sem, r0, r1, r2, r3]) rfl ⟨_, _, _, a2, n2, c2, _, rfl, by omega, by omega, (((((OL.out.setOther _ _ neP.out).setOther _ _ neR.out).setOther _ _ neR.out).setOther _ _ neR.out).setOther _ _ neR.out), (((((BL.out.setCell (by dsimp only; omega) _).setCell (Nat.le_refl _) _).setCell (Nat.le_refl _) _).setCell (Nat.le_refl _) _).setCell (Nat.le_refl _) _)⟩
  · have K4 := Lib.hid (l1Pick_any (w.heap.size + 1) _ w3.heap.size 2 [-1, 65536] (-1) 65536 a len cap zs (w3.alloc (.cells #[.int .i64 (-1), .int .i64 65536] 2)) (S3.out.alloc _) (fun x hx => by simp at hx; omega) rfl (by omega) (by omega) (Box.new _ _ _) (by omega) (by omega) hl)
    go_wp2_with fail
    refine K4.out.mono ?_
    rintro e w4 ⟨x, rfl, x0, x1, s4, g4⟩
    have RB := Lib.hid ((R3.out.alloc (.cells #[.int .i64 (-1), .int .i64 65536] 2)).grown g4 (by simp))
    have PB := Lib.hid ((P3.out.alloc (.cells #[.int .i64 (-1), .int .i64 65536] 2)).grown g4 (by simp; omega))
    have BL := Lib.hid ((B3.out.alloc B3.out.size (.cells #[.int .i64 (-1), .int .i64 65536] 2)).grown g4 (by have := B3.out.size; simp; omega) (fun k e => by cases e; omega))
    have OL := Lib.hid ((O3.out.alloc (.cells #[.int .i64 (-1), .int .i64 65536] 2)).grown g4 NB.out)
    have neP := NP
    have neR := NR
    clear s4 g4 K4 R3 P3 B3 O3 S3
    obtain ⟨_, p0, p1, p2, p3⟩ := PB.out.four
    obtain ⟨_, r0, r1, r2, r3⟩ := RB.out.four
    have fr0 := RB.out.frozen 0
    have fr1 := RB.out.frozen 1
    have fr2 := RB.out.frozen 2
    have fr3 := RB.out.frozen 3
    have fp2 := PB.out.frozen 2
    have hq1 := QL.out
    have hneP : ¬ w2.heap.size = w.heap.size := by omega
    clear PB RB
    go_wp2
    refine bodyPost_ret (v := .agg #[.bool er, .int .i64 ei, .int .i64 x, .slice a2 n2 c2]) (by simp [results, Try.results68, go_sem, r0, r1, r2, r3]) rfl ⟨_, _, _, a2, n2, c2, _, rfl, by omega, by omega, (((((OL.out.setOther _ _ neP.out).setOther _ _ neR.out).setOther _ _ neR.out).setOther _ _ neR.out).setOther _ _ neR.out), (((((BL.out.setCell (by dsimp only; omega) _).setCell (Nat.le_refl _) _).setCell (Nat.le_refl _) _).setCell (Nat.le_refl _) _).setCell (Nat.le_refl _) _)⟩

  · have K4 := Lib.hid (l1Chance_any (w.heap.size + 1) _ 3 a len cap zs w3 S3.out (by omega) hl (by omega))
    go_wp2_with fail
    refine K4.out.mono ?_
    rintro e w4 ⟨cc, rfl, s4, g4⟩
    have R4 := Lib.hid (R3.out.grown g4 (by simp))
    have P4 := Lib.hid (P3.out.grown g4 (by simp; omega))
    have B4 := Lib.hid (B3.out.grown g4 B3.out.size (fun k e => by cases e; omega))
    have O4 := Lib.hid (O3.out.grown g4 NB.out)
    have S4 := Lib.hid s4
    have q4 : w2.heap.size < w4.heap.size := by have := g4.size; omega
    clear s4 g4 K4 R3 P3 B3 O3 S3
    cases cc
    · have RB := R4
      have PB := P4
      have BL := B4
      have OL := O4
      have neP := NP
      have neR := NR
      clear S4 R4 P4 B4 O4
      obtain ⟨_, p0, p1, p2, p3⟩ := PB.out.four
      obtain ⟨_, r0, r1, r2, r3⟩ := RB.out.four
      have fr0 := RB.out.frozen 0
      have fr1 := RB.out.frozen 1
      have fr2 := RB.out.frozen 2
      have fr3 := RB.out.frozen 3
      have hq1 := QL.out
      have hneP : ¬ w2.heap.size = w.heap.size := by omega
      clear PB RB
      go_wp2
      refine bodyPost_ret (v := .agg #[.bool er, .int .i64 ei, .int .i64 es, .slice a2 n2 c2]) (by simp [results, Try.results68, go_sem, r0, r1, r2, r3]) rfl ⟨_, _, _, a2, n2, c2, _, rfl, by omega, by omega, ((((OL.out.setOther _ _ neR.out).setOther _ _ neR.out).setOther _ _ neR.out).setOther _ _ neR.out), ((((BL.out.setCell (Nat.le_refl _) _).setCell (Nat.le_refl _) _).setCell (Nat.le_refl _) _).setCell (Nat.le_refl _) _)⟩
    · have K5 := Lib.hid (l1Pick_any (w.heap.size + 1) _ w4.heap.size 2 [552, 553] 552 553 a len cap zs (w4.alloc (.cells #[.int .i64 552, .int .i64 553] 2)) (S4.out.alloc _) (fun x hx => by simp at hx; omega) rfl (by omega) (by omega) (Box.new _ _ _) (by omega) (by omega) hl)
      go_wp2_with fail
      refine K5.out.mono ?_
      rintro e w5 ⟨x, rfl, x0, x1, s5, g5⟩
      obtain ⟨n, rfl⟩ := Int.eq_ofNat_of_zero_le (show 0 ≤ x by omega)
      have R5 := Lib.hid ((R4.out.alloc (.cells #[.int .i64 552, .int .i64 553] 2)).grown g5 (by simp))
      have P5 := Lib.hid ((P4.out.alloc (.cells #[.int .i64 552, .int .i64 553] 2)).grown g5 (by simp; omega))
      have B5 := Lib.hid ((B4.out.alloc B4.out.size (.cells #[.int .i64 552, .int .i64 553] 2)).grown g5 (by have := B4.out.size; simp; omega) (fun k e => by cases e; omega))
      have q5 : w2.heap.size < w5.heap.size := by have := g5.size; simp at this; omega
      have K6 := Lib.hid (l1Some_any (w.heap.size + 1) _ n a len cap zs w5 s5 (by omega) hl)
      clear s5 g5 K5 R4 P4 B4 O4 S4
      go_wp2_with fail
      refine K6.out.mono ?_
      rintro e w6 ⟨a6, c6, ys6, rfl, o6, s6, g6⟩
      have RB := Lib.hid (R5.out.grown g6 (by simp))
      have PB := Lib.hid (P5.out.grown g6 (by simp; omega))
      have BL := Lib.hid (B5.out.grown g6 B5.out.size (fun k e => by cases e; omega))
      have neP := Lib.hid (show ∀ x, a6 = some x → ¬ x.block = w2.heap.size from fun x hx e => by have := (o6.lt x hx).1; omega)
      have neR := Lib.hid (show ∀ x, a6 = some x → ¬ x.block = w.heap.size from fun x hx e => by have := (o6.lt x hx).1; omega)
      have OL := Lib.hid (o6.rebase (show w.heap.size ≤ w5.heap.size by omega))
      clear o6 s6 g6 K6 R5 P5 B5
      obtain ⟨_, p0, p1, p2, p3⟩ := PB.out.four
      obtain ⟨_, r0, r1, r2, r3⟩ := RB.out.four
      have fr0 := RB.out.frozen 0
      have fr1 := RB.out.frozen 1
      have fr2 := RB.out.frozen 2
      have fr3 := RB.out.frozen 3
      have fp3 := PB.out.frozen 3
      have hq1 := QL.out
      have hneP : ¬ w2.heap.size = w.heap.size := by omega
      clear PB RB
      go_wp2
      refine bodyPost_ret (v := .agg #[.bool er, .int .i64 ei, .int .i64 es, .slice a6 n c6]) (by simp [results, Try.results68, go_sem, r0, r1, r2, r3]) rfl ⟨_, _, _, a6, n, c6, _, rfl, by omega, by omega, (((((OL.out.setOther _ _ neP.out).setOther _ _ neR.out).setOther _ _ neR.out).setOther _ _ neR.out).setOther _ _ neR.out), (((((BL.out.setCell (by dsimp only; omega) _).setCell (Nat.le_refl _) _).setCell (Nat.le_refl _) _).setCell (Nat.le_refl _) _).setCell (Nat.le_refl _) _)⟩
  · have h0 : ((rn : Int) == 0) = false := by simp; omega
    have h1 : ((rn : Int) == 1) = false := by simp; omega
    have h2 : ((rn : Int) == 2) = false := by simp; omega
    have RB := R3
    have PB := P3
    have BL := B3
    have OL := O3
    have neP := NP
    have neR := NR
    clear S3 R3 P3 B3 O3
    obtain ⟨_, p0, p1, p2, p3⟩ := PB.out.four
    obtain ⟨_, r0, r1, r2, r3⟩ := RB.out.four
    have fr0 := RB.out.frozen 0
    have fr1 := RB.out.frozen 1
    have fr2 := RB.out.frozen 2
    have fr3 := RB.out.frozen 3
    have hq1 := QL.out
    have hneP : ¬ w2.heap.size = w.heap.size := by omega
    clear PB RB
    go_wp2
    refine bodyPost_ret (v := .agg #[.bool er, .int .i64 ei, .int .i64 es, .slice a2 n2 c2]) (by simp [results, Try.results68, go_sem, r0, r1, r2, r3]) rfl ⟨_, _, _, a2, n2, c2, _, rfl, by omega, by omega, ((((OL.out.setOther _ _ neR.out).setOther _ _ neR.out).setOther _ _ neR.out).setOther _ _ neR.out), ((((BL.out.setCell (Nat.le_refl _) _).setCell (Nat.le_refl _) _).setCell (Nat.le_refl _) _).setCell (Nat.le_refl _) _)⟩
end Go.Proofs.Ytgjkbaplfbiomaa

namespace Go.Proofs.Ytgjkbaplfbiomaa
open Go.ChangeShapes Go.WideShapes Go.ChangeAt Go.RowKit

set_option maxHeartbeats 1000000 in
theorem drawPackPacket (a : Option Addr) (len cap : Nat) (zs : List Int) (w : World) (h : Rd w a len cap zs) (hl : len ≤ 1048576) :
    Calls Try.prog 12 #[.slice a len cap] w (PkAny w) := by
  have K := Lib.hid (fun W (hW : Below w.heap.size w W) => drawPacketFault a len cap zs W (h.below hW) hl)
  have X0 := Lib.hid (Box.new w 25 #[.int .i64 0, .int .i64 0, .int .i64 0, .int .i64 0, .slice none 0 0])
  have B0 := Lib.hid ((Below.refl w.heap.size w).alloc (Nat.le_refl _) (.cells #[.int .i64 0, .int .i64 0, .int .i64 0, .int .i64 0, .slice none 0 0] 25))
  clear h
  go_enter Try.func12, Try.ntmps12
  go_wp2_with fail
  refine (K.out _ B0.out).mono ?_
  rintro e w1 ⟨kf, kt, kp, kl, a1, n1, c1, ys, rfl, hk, hn, o1, b1⟩
  have X1 := Lib.hid (X0.out.below b1 X0.out.lt)
  have B1 := Lib.hid (B0.out.trans (b1.mono B0.out.size))
  have HK := Lib.hid hk
  have O1 := Lib.hid (o1.rebase B0.out.size)
  have hx : Hid (∀ x, a1 = some x → some x.block ≠ some w.heap.size) := fun x hx e => by
    have := (o1.lt x hx).1
    have := X0.out.lt
    simp only [Option.some.injEq] at e
    omega
  clear b1 o1 X0 B0 hk
  go_wp2_with ((with_reducible change wpList _ _ _ (Oper.mk none (Op.store _ _ _) _ _ _ _ :: _) _ _); refine storeBox_list _ rfl 25 (.tmp 2) (.tmp 4) rfl w.heap.size 25 _ #[.int .i64 kf, .int .i64 kt, .int .i64 kp, .int .i64 kl, .slice a1 n1 c1] X1.out (by exact rfl) (by exact rfl) (by kernel_rfl) (by exact rfl) (by simp [Value.oneCell']) ?_; intro w2 x2 g2; have X2 := Lib.hid x2; have G2 := Lib.hid g2; clear x2 g2)
  exact bodyPost_ret (results_cell_row Try.results12 _ _ _ _ _ _ _ rfl X2.out Try.underlying25 rfl (by kernel_rfl)) rfl ⟨kf, kt, kp, kl, a1, n1, c1, ys, rfl, HK.out, hn, O1.out.grown G2.out hx.out, B1.out.grown G2.out B1.out.size (fun k e => by cases e; exact Nat.le_refl _)⟩

set_option maxHeartbeats 1000000 in
theorem drawPackEcho (a : Option Addr) (len cap : Nat) (zs : List Int) (w : World) (h : Rd w a len cap zs) (hl : len ≤ 1048576) :
    Calls Try.prog 16 #[.slice a len cap] w (EcAny w) := by
  have K := Lib.hid (fun W (hW : Below w.heap.size w W) => drawEchoFault a len cap zs W (h.below hW) hl)
  have X0 := Lib.hid (Box.new w 35 #[.bool false, .int .i64 0, .int .i64 0, .slice none 0 0])
  have B0 := Lib.hid ((Below.refl w.heap.size w).alloc (Nat.le_refl _) (.cells #[.bool false, .int .i64 0, .int .i64 0, .slice none 0 0] 35))
  clear h
  go_enter Try.func16, Try.ntmps16
  go_wp2_with fail
  refine (K.out _ B0.out).mono ?_
  rintro e w1 ⟨er, ei, es, a1, n1, c1, ys, rfl, hk, hn, o1, b1⟩
  have X1 := Lib.hid (X0.out.below b1 X0.out.lt)
  have B1 := Lib.hid (B0.out.trans (b1.mono B0.out.size))
  have HK := Lib.hid hk
  have O1 := Lib.hid (o1.rebase B0.out.size)
  have hx : Hid (∀ x, a1 = some x → some x.block ≠ some w.heap.size) := fun x hx e => by
    have := (o1.lt x hx).1
    have := X0.out.lt
    simp only [Option.some.injEq] at e
    omega
  clear b1 o1 X0 B0 hk
  go_wp2_with ((with_reducible change wpList _ _ _ (Oper.mk none (Op.store _ _ _) _ _ _ _ :: _) _ _); refine storeBox_list _ rfl 35 (.tmp 2) (.tmp 4) rfl w.heap.size 35 _ #[.bool er, .int .i64 ei, .int .i64 es, .slice a1 n1 c1] X1.out (by exact rfl) (by exact rfl) (by kernel_rfl) (by exact rfl) (by simp [Value.oneCell']) ?_; intro w2 x2 g2; have X2 := Lib.hid x2; have G2 := Lib.hid g2; clear x2 g2)
  exact bodyPost_ret (results_cell_row Try.results16 _ _ _ _ _ _ _ rfl X2.out Try.underlying35 rfl (by kernel_rfl)) rfl ⟨er, ei, es, a1, n1, c1, ys, rfl, HK.out, hn, O1.out.grown G2.out hx.out, B1.out.grown G2.out B1.out.size (fun k e => by cases e; exact Nat.le_refl _)⟩
end Go.Proofs.Ytgjkbaplfbiomaa

namespace Go.Proofs.Ytgjkbaplfbiomaa
open Go.ChangeShapes Go.WideShapes Go.ChangeAt Go.RowKit

theorem own_litB1 (w : World) (base : Nat) (x : Int) (hx : 0 ≤ x ∧ x ≤ 255) (hb : base ≤ w.heap.size) : Own (w.alloc (.cells #[.int .u8 x] 5)) base (some ⟨w.heap.size, 0, none⟩) 1 1 [x] :=
  ⟨World.ownsRow_lit w #[.int .u8 x] 1 hb (by unfold maxLen; omega) rfl, by intro n hn; simp at hn; omega⟩
/-- some bytes that can be read -/
def SomeRd (B N : Nat) (w : World) (e : Ending) (w' : World) : Prop :=
  ∃ (a' : Option Addr) (n c' : Nat) (ys : List Int), e = .returned (.slice a' n c') ∧ n ≤ N ∧ Rd w' a' n c' ys ∧ Below B w w'

set_option maxRecDepth 20000 in
set_option maxHeartbeats 2000000 in
theorem l1Spoil_any (b t g B : Nat) (a : Option Addr) (len cap : Nat) (zs : List Int) (l c base : Nat) (ys : List Int) (w : World) (h : Src w b t a len cap zs) (ho : Own w base (some ⟨g, 0, none⟩) l c ys) (hgb : g ≠ b)
    (hB1 : B ≤ b) (hB2 : B ≤ base) (h1 : 1 ≤ l) (h2 : l ≤ 100) (ht : t ≤ 900000) (hl : len ≤ 1048576) :
    Calls Try.prog 63 #[.pointer (some ⟨b, 0, none⟩), .slice (some ⟨g, 0, none⟩) l c] w (SomeRd B 101 w) := by
  have hgl := ho.lt _ rfl
  dsimp only at hgl
  have hbl := h.box.lt
  have K0 := Lib.hid (l1Next_any b t 8 a len cap zs w h (by omega) hl (by omega))
  have O0 := Lib.hid ho
  have hm := ho.max
  clear h ho
  go_enter Try.func63, Try.ntmps63
  go_wp2_with fail
  refine K0.out.mono ?_
  rintro e w1 ⟨r, rfl, hr0, hr1, s1, g1⟩
  have hr2 := hr1 (by omega)
  have S1 := Lib.hid s1
  have O1 := Lib.hid (O0.out.grown g1 (by rintro x hx; cases hx; simpa using hgb))
  have B1 := Lib.hid (below_of_grown g1 (show B ≤ w.heap.size by omega) (fun k e => by cases e; exact hB1))
  have z1 := Lib.hid g1.size
  clear s1 g1 O0 hr1 K0
  obtain e0 | e0 | e0 | e0 : r = 0 ∨ r = 1 ∨ r = 2 ∨ 3 ≤ r := by omega
  · subst e0
    have l1 : decide ((0 : Int) < l) = true := decide_eq_true (by omega)
    have K1 := Lib.hid (fun W (hS : Src W b (t + 1) a len cap zs) => l1Next_any b (t + 1) l a len cap zs W hS (by omega) hl (by omega))
    have K3 := Lib.hid (fun W (hS : Src W b (t + 2) a len cap zs) => l1Next_any b (t + 2) 255 a len cap zs W hS (by omega) hl (by omega))
    have SD := Lib.hid (S1.out.below (Below.refl _ w1).drew)
    have OD := Lib.hid O1.out.drew
    have BD := Lib.hid B1.out.drew
    clear S1 O1 B1 l1
    go_wp2_with fail
    refine wp_region_held_drew (S := fun _ => True) (by kernel_rfl) trivial (fun hHeld => ?_)
    refine wpAnyH_take (i := 0) (v := ?_) (by simp only [List.getElem?_toArray, List.getElem?_cons_zero]; exact rfl) (by kernel_rfl) (by kernel_rfl) (by kernel_rfl) (by exact fun _ _ _ h => h) (Or.inl ⟨by rfl, ?_⟩) hHeld ?_
    rotate_left
    · intro w' hSw
      go_simp
      try with_reducible rfl
    try simp only [Act.put, List.setIfInBounds_toArray, List.set_cons_zero, List.set_cons_succ]
    refine wpAnyH_take (i := 1) (v := ?_) (by simp only [List.getElem?_toArray, List.getElem?_cons_zero, List.getElem?_cons_succ]; exact rfl) (by kernel_rfl) (by kernel_rfl) (by kernel_rfl) (by exact fun _ _ _ h => h) (Or.inl ⟨by rfl, ?_⟩) hHeld ?_
    rotate_left
    · intro w' hSw
      go_simp
      try with_reducible rfl
    try simp only [Act.put, List.setIfInBounds_toArray, List.set_cons_zero, List.set_cons_succ]
    refine wpAnyH_take (i := 2) (v := ?_) (by simp only [List.getElem?_toArray, List.getElem?_cons_zero, List.getElem?_cons_succ]; exact rfl) (by kernel_rfl) (by kernel_rfl) (by kernel_rfl) (by exact fun _ _ _ h => h) (Or.inl ⟨by rfl, ?_⟩) hHeld ?_
    rotate_left
    · intro w' hSw
      go_simp
      try with_reducible rfl
    try simp only [Act.put, List.setIfInBounds_toArray, List.set_cons_zero, List.set_cons_succ]
    refine wpAnyH_take (i := 3) (v := ?_) (by simp only [List.getElem?_toArray, List.getElem?_cons_zero, List.getElem?_cons_succ]; exact rfl) (by kernel_rfl) (by kernel_rfl) (by kernel_rfl) (by exact fun _ _ _ h => h) (Or.inl ⟨by rfl, ?_⟩) hHeld ?_
    rotate_left
    · intro w' hSw
      go_simp
      try with_reducible rfl
    try simp only [Act.put, List.setIfInBounds_toArray, List.set_cons_zero, List.set_cons_succ]
    refine wpAnyH_take (i := 7) (v := ?_) (by simp only [List.getElem?_toArray, List.getElem?_cons_zero, List.getElem?_cons_succ]; exact rfl) (by kernel_rfl) (by kernel_rfl) (by kernel_rfl) (by exact fun _ _ _ h => h) (Or.inl ⟨by rfl, ?_⟩) hHeld ?_
    rotate_left
    · intro w' hSw
      go_simp
      try with_reducible rfl
    try simp only [Act.put, List.setIfInBounds_toArray, List.set_cons_zero, List.set_cons_succ]
    refine wpAnyH_ready (rs := [4]) (by kernel_rfl) (by simp) ?_
    refine (AllReadyH.cons (by simp only [List.getElem?_toArray, List.getElem?_cons_zero, List.getElem?_cons_succ]; exact rfl) (fun K hK => ?_) AllReadyH.nil)
    refine want_none (by exact rfl) ?_
    go_wp2_with fail
    refine (K1.out _ SD.out).mono ?_
    rintro e w3 ⟨r2, rfl, hq0, hq1, s3, g3⟩
    have hq2 := hq1 (by omega)
    obtain ⟨k, rfl⟩ := Int.eq_ofNat_of_zero_le hq0
    have hk : k < l := by omega
    have hki : (k : Int) < l := by omega
    have S3 := Lib.hid s3
    have O3 := Lib.hid (OD.out.grown g3 (by rintro x hx; cases hx; simpa using hgb))
    have B3 := Lib.hid (BD.out.trans (below_of_grown g3 (show B ≤ w1.drew.heap.size by have := z1.out; show B ≤ w1.heap.size; omega) (fun k e => by cases e; exact hB1)))
    have z3 := Lib.hid (show w.heap.size ≤ w3.heap.size from Nat.le_trans z1.out g3.size)
    clear s3 g3 OD BD SD
    go_wp2_with fail
    refine hK.out _ _ trivial (fun hHeld => ?_)
    clear hK K
    try simp only [Act.put, List.setIfInBounds_toArray, List.set_cons_zero, List.set_cons_succ]
    refine wpAnyH_take (i := 5) (v := ?_) (by simp only [List.getElem?_toArray, List.getElem?_cons_zero, List.getElem?_cons_succ]; exact rfl) (by kernel_rfl) (by kernel_rfl) (by kernel_rfl) (by exact fun _ _ _ h => h) (Or.inl ⟨by rfl, ?_⟩) hHeld ?_
    rotate_left
    · intro w' hSw
      go_simp
      try with_reducible rfl
    try simp only [Act.put, List.setIfInBounds_toArray, List.set_cons_zero, List.set_cons_succ]
    refine wpAnyH_ready (rs := [6, 8]) (by kernel_rfl) (by simp) ?_
    refine (AllReadyH.cons (by simp only [List.getElem?_toArray, List.getElem?_cons_zero, List.getElem?_cons_succ]; exact rfl) (fun K hK => ?_) (AllReadyH.cons (by simp only [List.getElem?_toArray, List.getElem?_cons_zero, List.getElem?_cons_succ]; exact rfl) (fun K hK => ?_) AllReadyH.nil))
    · skip
      have ck := O3.out.cellAt k hk
      refine want_none (by exact rfl) ?_
      go_wp2_with fail
      refine hK.out _ _ trivial (fun hHeld => ?_)
      clear hK K
      try simp only [Act.put, List.setIfInBounds_toArray, List.set_cons_zero, List.set_cons_succ]
      clear ck
      refine wpAnyH_ready (rs := [8]) (by kernel_rfl) (by simp) ?_
      refine (AllReadyH.cons (by simp only [List.getElem?_toArray, List.getElem?_cons_zero, List.getElem?_cons_succ]; exact rfl) (fun K hK => ?_) AllReadyH.nil)
      refine want_none (by exact rfl) ?_
      go_wp2_with fail
      refine (K3.out _ S3.out).mono ?_
      rintro e w4 ⟨r3, rfl, hp0, hp1, s4, g4⟩
      have hp2 := hp1 (by omega)
      have hw1 : IntKind.i64.wrap (1 + r3) = 1 + r3 := IntWalk.i64_in _ (by omega)
      have uw := u8_in (1 + r3) ⟨by omega, by omega⟩
      have O4 := Lib.hid (O3.out.grown g4 (by rintro x hx; cases hx; simpa using hgb))
      have B4 := Lib.hid (B3.out.trans (below_of_grown g4 (show B ≤ w3.heap.size by have := z3.out; omega) (fun k e => by cases e; exact hB1)))
      clear s4 g4 O3 B3 S3
      go_wp2_with fail
      refine hK.out _ _ trivial (fun hHeld => ?_)
      clear hK K
      try simp only [Act.put, List.setIfInBounds_toArray, List.set_cons_zero, List.set_cons_succ]
      refine wpAnyH_take (i := 9) (v := ?_) (by simp only [List.getElem?_toArray, List.getElem?_cons_zero, List.getElem?_cons_succ]; exact rfl) (by kernel_rfl) (by kernel_rfl) (by kernel_rfl) (by exact fun _ _ _ h => h) (Or.inl ⟨by rfl, ?_⟩) hHeld ?_
      rotate_left
      · intro w' hSw
        go_simp
        try with_reducible rfl
      try simp only [Act.put, List.setIfInBounds_toArray, List.set_cons_zero, List.set_cons_succ]
      refine wpAnyH_take (i := 10) (v := ?_) (by simp only [List.getElem?_toArray, List.getElem?_cons_zero, List.getElem?_cons_succ]; exact rfl) (by kernel_rfl) (by kernel_rfl) (by kernel_rfl) (by exact fun _ _ _ h => h) (Or.inl ⟨by rfl, ?_⟩) hHeld ?_
      rotate_left
      · intro w' hSw
        go_simp
        try with_reducible rfl
      try simp only [Act.put, List.setIfInBounds_toArray, List.set_cons_zero, List.set_cons_succ]
      refine wpAnyH_take (i := 11) (v := ?_) (by simp only [List.getElem?_toArray, List.getElem?_cons_zero, List.getElem?_cons_succ]; exact rfl) (by kernel_rfl) (by kernel_rfl) (by kernel_rfl) (by exact fun _ _ _ h => h) (Or.inl ⟨by rfl, ?_⟩) hHeld ?_
      rotate_left
      · intro w' hSw
        go_simp
        try with_reducible rfl
      try simp only [Act.put, List.setIfInBounds_toArray, List.set_cons_zero, List.set_cons_succ]
      refine wpAnyH_take (i := 12) (v := ?_) (by simp only [List.getElem?_toArray, List.getElem?_cons_zero, List.getElem?_cons_succ]; exact rfl) (by kernel_rfl) (by kernel_rfl) (by kernel_rfl) (by exact fun _ _ _ h => h) (Or.inl ⟨by rfl, ?_⟩) hHeld ?_
      rotate_left
      · intro w' hSw
        go_simp
        try with_reducible rfl
      try simp only [Act.put, List.setIfInBounds_toArray, List.set_cons_zero, List.set_cons_succ]
      refine wpAnyH_ready (rs := [13]) (by kernel_rfl) (by simp) ?_
      refine (AllReadyH.cons (by simp only [List.getElem?_toArray, List.getElem?_cons_zero, List.getElem?_cons_succ]; exact rfl) (fun K hK => ?_) AllReadyH.nil)
      have ck := O4.out.cellAt k hk
      have fk := O4.out.frozenAt k
      have OS := O4.out.set k (bits .xor .u8 (ys.getD k 0) (1 + r3)) (bits_within .xor .u8 _ _)
      have R5 := Lib.hid OS.1.rd
      have B5 := Lib.hid (B4.out.trans (below_of_grown OS.2 (show B ≤ w4.heap.size by have := z1.out; have := B4.out.size; omega) (fun k e => by cases e; omega)))
      clear OS
      refine want_none (by exact rfl) ?_
      go_wp2_with fail
      clear ck fk O4 B4
      refine hK.out _ _ trivial (fun hHeld => ?_)
      clear hK K
      try simp only [Act.put]
      refine wpAnyH_done (by kernel_rfl) ?_ _
      go_wp2
      go_ret
      exact ⟨_, _, _, _, rfl, by omega, R5.out, B5.out⟩
    · skip
      refine want_none (by exact rfl) ?_
      go_wp2_with fail
      refine (K3.out _ S3.out).mono ?_
      rintro e w4 ⟨r3, rfl, hp0, hp1, s4, g4⟩
      have hp2 := hp1 (by omega)
      have hw1 : IntKind.i64.wrap (1 + r3) = 1 + r3 := IntWalk.i64_in _ (by omega)
      have uw := u8_in (1 + r3) ⟨by omega, by omega⟩
      have O4 := Lib.hid (O3.out.grown g4 (by rintro x hx; cases hx; simpa using hgb))
      have B4 := Lib.hid (B3.out.trans (below_of_grown g4 (show B ≤ w3.heap.size by have := z3.out; omega) (fun k e => by cases e; exact hB1)))
      clear s4 g4 O3 B3 S3
      go_wp2_with fail
      refine hK.out _ _ trivial (fun hHeld => ?_)
      clear hK K
      try simp only [Act.put, List.setIfInBounds_toArray, List.set_cons_zero, List.set_cons_succ]
      refine wpAnyH_take (i := 9) (v := ?_) (by simp only [List.getElem?_toArray, List.getElem?_cons_zero, List.getElem?_cons_succ]; exact rfl) (by kernel_rfl) (by kernel_rfl) (by kernel_rfl) (by exact fun _ _ _ h => h) (Or.inl ⟨by rfl, ?_⟩) hHeld ?_
      rotate_left
      · intro w' hSw
        go_simp
        try with_reducible rfl
      try simp only [Act.put, List.setIfInBounds_toArray, List.set_cons_zero, List.set_cons_succ]
      refine wpAnyH_take (i := 10) (v := ?_) (by simp only [List.getElem?_toArray, List.getElem?_cons_zero, List.getElem?_cons_succ]; exact rfl) (by kernel_rfl) (by kernel_rfl) (by kernel_rfl) (by exact fun _ _ _ h => h) (Or.inl ⟨by rfl, ?_⟩) hHeld ?_
      rotate_left
      · intro w' hSw
        go_simp
        try with_reducible rfl
      try simp only [Act.put, List.setIfInBounds_toArray, List.set_cons_zero, List.set_cons_succ]
      refine wpAnyH_ready (rs := [6]) (by kernel_rfl) (by simp) ?_
      refine (AllReadyH.cons (by simp only [List.getElem?_toArray, List.getElem?_cons_zero, List.getElem?_cons_succ]; exact rfl) (fun K hK => ?_) AllReadyH.nil)
      have ck := O4.out.cellAt k hk
      refine want_none (by exact rfl) ?_
      go_wp2_with fail
      refine hK.out _ _ trivial (fun hHeld => ?_)
      clear hK K
      try simp only [Act.put, List.setIfInBounds_toArray, List.set_cons_zero, List.set_cons_succ]
      clear ck
      refine wpAnyH_take (i := 11) (v := ?_) (by simp only [List.getElem?_toArray, List.getElem?_cons_zero, List.getElem?_cons_succ]; exact rfl) (by kernel_rfl) (by kernel_rfl) (by kernel_rfl) (by exact fun _ _ _ h => h) (Or.inl ⟨by rfl, ?_⟩) hHeld ?_
      rotate_left
      · intro w' hSw
        go_simp
        try with_reducible rfl
      try simp only [Act.put, List.setIfInBounds_toArray, List.set_cons_zero, List.set_cons_succ]
      refine wpAnyH_take (i := 12) (v := ?_) (by simp only [List.getElem?_toArray, List.getElem?_cons_zero, List.getElem?_cons_succ]; exact rfl) (by kernel_rfl) (by kernel_rfl) (by kernel_rfl) (by exact fun _ _ _ h => h) (Or.inl ⟨by rfl, ?_⟩) hHeld ?_
      rotate_left
      · intro w' hSw
        go_simp
        try with_reducible rfl
      try simp only [Act.put, List.setIfInBounds_toArray, List.set_cons_zero, List.set_cons_succ]
      refine wpAnyH_ready (rs := [13]) (by kernel_rfl) (by simp) ?_
      refine (AllReadyH.cons (by simp only [List.getElem?_toArray, List.getElem?_cons_zero, List.getElem?_cons_succ]; exact rfl) (fun K hK => ?_) AllReadyH.nil)
      have ck := O4.out.cellAt k hk
      have fk := O4.out.frozenAt k
      have OS := O4.out.set k (bits .xor .u8 (ys.getD k 0) (1 + r3)) (bits_within .xor .u8 _ _)
      have R5 := Lib.hid OS.1.rd
      have B5 := Lib.hid (B4.out.trans (below_of_grown OS.2 (show B ≤ w4.heap.size by have := z1.out; have := B4.out.size; omega) (fun k e => by cases e; omega)))
      clear OS
      refine want_none (by exact rfl) ?_
      go_wp2_with fail
      clear ck fk O4 B4
      refine hK.out _ _ trivial (fun hHeld => ?_)
      clear hK K
      try simp only [Act.put]
      refine wpAnyH_done (by kernel_rfl) ?_ _
      go_wp2
      go_ret
      exact ⟨_, _, _, _, rfl, by omega, R5.out, B5.out⟩
  · subst e0
    have K1 := Lib.hid (l1Next_any b (t + 1) 3 a len cap zs w1 S1.out (by omega) hl (by omega))
    go_wp2_with fail
    refine K1.out.mono ?_
    rintro e w2 ⟨r2, rfl, hq0, hq1, s2, g2⟩
    have hq2 := hq1 (by omega)
    have u2 := u8_in r2 ⟨hq0, by omega⟩
    have O2 := Lib.hid (O1.out.grown g2 (by rintro x hx; cases hx; simpa using hgb))
    have B2 := Lib.hid (B1.out.trans (below_of_grown g2 (show B ≤ w1.heap.size by have := z1.out; omega) (fun k e => by cases e; exact hB1)))
    have L2 := Lib.hid (own_litB1 w2 w2.heap.size r2 ⟨hq0, by omega⟩ (Nat.le_refl _))
    have z2 := Lib.hid (Nat.le_trans z1.out g2.size)
    clear s2 g2 K1 hq1 O1 B1
    go_wp2_with (at_builtin; refine append_bytes _ rfl (.tmp 27) (.tmp 31) rfl base _ _ _ _ rfl (O2.out.alloc _) _ _ _ _ rfl L2.out.rd (by have := z2.out; simp; omega) (by omega) ?_; intro a3 c3 w3 o3 g3; have P3 := Lib.hid o3; have B3 := Lib.hid ((B2.out.alloc (by have := z2.out; omega) _).grown g3 (by have := z2.out; simp; omega) (fun k e => by simp [Value.ownBlock] at e; omega)); clear o3 g3 O2 L2)
    go_ret
    exact ⟨_, _, _, _, rfl, by omega, P3.out.rd, B3.out⟩
  · subst e0
    have hw : IntKind.i64.wrap ((l : Int) + 1) = (l : Int) + 1 := IntWalk.i64_in _ (by omega)
    have K1 := Lib.hid (l1Next_any b (t + 1) (l + 1) a len cap zs w1 S1.out (by omega) hl (by omega))
    go_wp2_with fail
    refine K1.out.mono ?_
    rintro e w2 ⟨r2, rfl, hq0, hq1, s2, g2⟩
    have hq2 := hq1 (by omega)
    obtain ⟨k, rfl⟩ := Int.eq_ofNat_of_zero_le hq0
    have O2 := O1.out.grown g2 (by rintro x hx; cases hx; simpa using hgb)
    have R2 := Lib.hid (O2.rd.upto k (by omega))
    have B2 := Lib.hid (B1.out.trans (below_of_grown g2 (show B ≤ w1.heap.size by have := z1.out; omega) (fun k e => by cases e; exact hB1)))
    have j1 : (k : Int) ≤ c := by omega
    have j2 : k ≤ c := by omega
    clear s2 g2 K1 hq1 O1 B1 O2 hw
    go_wp2
    go_ret
    exact ⟨_, _, _, _, rfl, by omega, R2.out, B2.out⟩
  · have e1 : (r == 0) = false := by simp; omega
    have e2 : (r == 1) = false := by simp; omega
    have e3 : (r == 2) = false := by simp; omega
    have R1 := Lib.hid O1.out.rd
    clear O1
    go_wp2
    go_ret
    exact ⟨_, _, _, _, rfl, by omega, R1.out, B1.out⟩
end Go.Proofs.Ytgjkbaplfbiomaa

namespace Go.Proofs.Ytgjkbaplfbiomaa
open Go.ChangeShapes Go.WideShapes Go.ChangeAt Go.RowKit

set_option maxHeartbeats 1000000 in
theorem l1Seal2_any (a : Option Addr) (len cap : Nat) (zs : List Int) (w : World) (hr : Rd w a len cap zs) (h1 : 20 ≤ len) (h2 : len ≤ 1048576) :
    Calls Try.prog 62 #[.slice a len cap] w (FreshAny w (sealB (zs.take 20) 10 ++ zs.drop 20)) := by
  have hle := hr.le
  have hmx := hr.max
  rcases hr.cells with h0 | ⟨ba, off, rfl, hc⟩
  · omega
  have i1 : (20 : Int) ≤ cap := by omega
  have i2 : (20 : Int) ≤ len := by omega
  have i3 : 20 ≤ cap := by omega
  have HR := Lib.hid hr
  have K0 := Lib.hid (l1Copy_any (some ⟨ba, off, none⟩) 20 cap (zs.take 20) w (hr.upto 20 h1) (by omega))
  obtain ⟨L, hL⟩ : ∃ L, L = sealB (zs.take 20) 10 ++ zs.drop 20 := ⟨_, rfl⟩
  have HL := Lib.hid hL
  rw [← hL]
  clear hr hc hL
  by_cases hcap : cap = 20
  · subst hcap
    obtain rfl : len = 20 := by omega
    have HD := Lib.hid (show ∀ W, Below w.heap.size w W → Rd W (some ⟨ba, off, none⟩) 0 0 (zs.drop 20) from fun W hW => by
      have hq := HR.out.length
      exact ⟨by simp; omega, by omega, by omega, b8_drop HR.out.b8 20, by simp, .inl rfl⟩)
    go_enter Try.func62, Try.ntmps62
    go_wp2_with fail
    refine K0.out.mono ?_
    rintro e w1 ⟨a1, c1, rfl, o1, b1⟩
    rcases o1.shape with ⟨_, h0, _⟩ | ⟨g, rfl⟩
    · omega
    have gB := (o1.lt _ rfl).1
    dsimp only at gB
    have P1 := Lib.hid o1
    have B1 := Lib.hid b1
    clear o1 b1 K0
    go_wp2_with fail
    refine (l1Seal_lit g 20 c1 _ 10 10 _ _ rfl P1.out (by omega) (by omega)).mono ?_
    rintro e w2 ⟨rfl, o2, g2⟩
    have P2 := Lib.hid o2
    have B2 := Lib.hid (B1.out.grown g2 B1.out.size (fun k e => by cases e; exact gB))
    have D2 := Lib.hid (HD.out _ B2.out)
    clear o2 g2 P1 B1 HD HR
    go_wp2_with (at_builtin; refine append_bytes _ rfl (.tmp 8) (.tmp 10) rfl w.heap.size _ _ _ _ rfl P2.out _ _ _ _ rfl D2.out B2.out.size (by omega) ?_; intro a3 c3 w3 o3 g3; have P3 := Lib.hid o3; have B3 := Lib.hid (B2.out.grown g3 B2.out.size (fun k e => by simp [Value.ownBlock] at e; omega)); clear o3 g3)
    go_ret
    exact ⟨_, _, _, rfl, by rw [HL.out]; exact P3.out, B3.out⟩
  · have HD := Lib.hid (show ∀ W, Below w.heap.size w W → Rd W (some ⟨ba, off + 20, none⟩) (len - 20) (cap - 20) (zs.drop 20) from fun W hW => (HR.out.below hW).from 20 _ _ _ h1 rfl rfl rfl)
    go_enter Try.func62, Try.ntmps62
    go_wp2_with fail
    refine K0.out.mono ?_
    rintro e w1 ⟨a1, c1, rfl, o1, b1⟩
    rcases o1.shape with ⟨_, h0, _⟩ | ⟨g, rfl⟩
    · omega
    have gB := (o1.lt _ rfl).1
    dsimp only at gB
    have P1 := Lib.hid o1
    have B1 := Lib.hid b1
    clear o1 b1 K0
    go_wp2_with fail
    refine (l1Seal_lit g 20 c1 _ 10 10 _ _ rfl P1.out (by omega) (by omega)).mono ?_
    rintro e w2 ⟨rfl, o2, g2⟩
    have P2 := Lib.hid o2
    have B2 := Lib.hid (B1.out.grown g2 B1.out.size (fun k e => by cases e; exact gB))
    have D2 := Lib.hid (HD.out _ B2.out)
    clear o2 g2 P1 B1 HD HR
    go_wp2_with (at_builtin; refine append_bytes _ rfl (.tmp 8) (.tmp 10) rfl w.heap.size _ _ _ _ rfl P2.out _ _ _ _ rfl D2.out B2.out.size (by omega) ?_; intro a3 c3 w3 o3 g3; have P3 := Lib.hid o3; have B3 := Lib.hid (B2.out.grown g3 B2.out.size (fun k e => by simp [Value.ownBlock] at e; omega)); clear o3 g3)
    go_ret
    exact ⟨_, _, _, rfl, by rw [HL.out]; have := P3.out; rwa [show 20 + (len - 20) = len by omega] at this, B3.out⟩
end Go.Proofs.Ytgjkbaplfbiomaa

namespace Go.Proofs.Ytgjkbaplfbiomaa
open Go.ChangeShapes Go.WideShapes Go.ChangeAt Go.RowKit

set_option maxRecDepth 20000 in
set_option maxHeartbeats 4000000 in
theorem drawReadPacket (a : Option Addr) (len cap : Nat) (zs : List Int) (w : World) (h : Rd w a len cap zs) (hl : len ≤ 1048576) :
    Calls Try.prog 14 #[.slice a len cap] w (SomeRd w.heap.size 1300 w) := by
  have K0 := Lib.hid (l1Source_any a len cap zs w h)
  clear h
  go_enter Try.func14, Try.ntmps14
  go_wp2_with fail
  refine K0.out.mono ?_
  rintro e w1 ⟨rfl, s1, b1⟩
  have B1 := Lib.hid b1
  have z1 := Lib.hid s1.box.lt
  have K1 := Lib.hid (l3Draw_any _ _ a len cap zs w1 s1 (by omega) hl)
  clear s1 b1 K0
  go_wp2_with fail
  refine K1.out.mono ?_
  rintro e w2 ⟨kf, kt, kp, kl, a2, n2, c2, ys2, rfl, b_f, b_t, b_p, b_l, hn2, o2, s2, g2⟩
  have z2 := Lib.hid (Nat.lt_of_lt_of_le z1.out g2.size)
  have P2 := Lib.hid (Box.new w2 25 #[.int .i64 kf, .int .i64 kt, .int .i64 kp, .int .i64 kl, .slice a2 n2 c2])
  have B2' := B1.out.grown g2 B1.out.size (fun k e => by cases e; omega)
  have B2 := Lib.hid (B2'.alloc B2'.size (.cells #[.int .i64 kf, .int .i64 kt, .int .i64 kp, .int .i64 kl, .slice a2 n2 c2] 25))
  have S2 := Lib.hid (s2.alloc (.cells #[.int .i64 kf, .int .i64 kt, .int .i64 kp, .int .i64 kl, .slice a2 n2 c2] 25))
  have K2 := Lib.hid (l3Packet_any w2.heap.size kf kt kp kl a2 n2 c2 ys2 (w2.alloc (.cells #[.int .i64 kf, .int .i64 kt, .int .i64 kp, .int .i64 kl, .slice a2 n2 c2] 25)) P2.out (o2.rd.alloc _) (by omega) (by omega) (by omega) (by omega) (by omega))
  have HN := Lib.hid o2.length
  clear o2 s2 g2 B1 B2' K1 P2
  generalize hW2 : w2.alloc (.cells #[.int .i64 kf, .int .i64 kt, .int .i64 kp, .int .i64 kl, .slice a2 n2 c2] 25) = W2 at *
  go_wp2_with fail
  clear hW2
  refine K2.out.mono ?_
  rintro e w3 ⟨a3, l3, c3, rfl, o3, b3⟩
  have hl3 : l3 = 20 + n2 := by rw [← o3.length, packL]; simp [sealB_len, packH_len, HN.out]
  have S3 := Lib.hid (S2.out.below b3)
  have B3 := Lib.hid (B2.out.trans (b3.mono B2.out.size))
  have O3 := Lib.hid (o3.rebase (show w.heap.size + 1 ≤ W2.heap.size by have := S2.out.box.lt; omega))
  have HL3 : 20 ≤ l3 ∧ l3 ≤ 41 := by omega
  clear o3 b3 K2 S2 B2 HN hl3
  generalize packL kf kt kp kl ys2 = ys at *
  have HY := Lib.hid O3.out.length
  rcases O3.out.shape with ⟨_, h0, _⟩ | ⟨g, rfl⟩
  · omega
  have gB := O3.out.lt _ rfl
  dsimp only at gB
  have K3 := Lib.hid (l1Next_any w.heap.size _ 9 a len cap zs w3 S3.out (by omega) hl (by omega))
  go_wp2_with fail
  refine K3.out.mono ?_
  rintro e w4 ⟨r, rfl, hr0, hr1, s4, g4⟩
  have hr2 := hr1 (by omega)
  have S4 := Lib.hid s4
  have O4 := Lib.hid (O3.out.grown g4 (by rintro x hx e; cases hx; simp at e; omega))
  have B4 := Lib.hid (B3.out.grown g4 B3.out.size (fun k e => by cases e; exact Nat.le_refl _))
  have z4 := Lib.hid (show w3.heap.size ≤ w4.heap.size from g4.size)
  clear s4 g4 O3 S3 B3 hr1 K3
  obtain e0 | e0 | e0 | e0 : r = 0 ∨ r = 1 ∨ r = 2 ∨ 3 ≤ r := by omega
  · subst e0
    have K5 := Lib.hid (l1Pick_any w.heap.size _ w4.heap.size 8 [0, 1, 2, 3, 4, 6, 7, 8] 0 8 a len cap zs (w4.alloc (.cells #[.int .i64 0, .int .i64 1, .int .i64 2, .int .i64 3, .int .i64 4, .int .i64 6, .int .i64 7, .int .i64 8] 2)) (S4.out.alloc _) (fun x hx => by simp at hx; omega) rfl (by omega) (by omega) (Box.new _ _ _) (by have := z4.out; omega) (by omega) hl)
    have O5' := Lib.hid (O4.out.alloc (.cells #[.int .i64 0, .int .i64 1, .int .i64 2, .int .i64 3, .int .i64 4, .int .i64 6, .int .i64 7, .int .i64 8] 2))
    have B5' := Lib.hid (B4.out.alloc B4.out.size (.cells #[.int .i64 0, .int .i64 1, .int .i64 2, .int .i64 3, .int .i64 4, .int .i64 6, .int .i64 7, .int .i64 8] 2))
    clear S4 O4 B4
    go_wp2_with fail
    refine K5.out.mono ?_
    rintro e w5 ⟨r5, rfl, hk0, hk1, s5, g5⟩
    obtain ⟨k, rfl⟩ := Int.eq_ofNat_of_zero_le hk0
    have hk : k < l3 := by omega
    have hki : (k : Int) < l3 := by omega
    have z5 := Lib.hid (show w4.heap.size < w5.heap.size by have := g5.size; simp at this; omega)
    have O5 := Lib.hid (O5'.out.grown g5 (by rintro x hx e; cases hx; simp at e; omega))
    have B5 := Lib.hid (B5'.out.grown g5 B5'.out.size (fun k e => by cases e; exact Nat.le_refl _))
    have K6 := Lib.hid (l1Pick_any w.heap.size _ w5.heap.size 5 [0, 1, 64, 70, 255] 0 255 a len cap zs (w5.alloc (.cells #[.int .i64 0, .int .i64 1, .int .i64 64, .int .i64 70, .int .i64 255] 2)) (s5.alloc _) (fun x hx => by simp at hx; omega) rfl (by omega) (by omega) (Box.new _ _ _) (by have := z5.out; have := z4.out; omega) (by omega) hl)
    have O6' := Lib.hid (O5.out.alloc (.cells #[.int .i64 0, .int .i64 1, .int .i64 64, .int .i64 70, .int .i64 255] 2))
    have B6' := Lib.hid (B5.out.alloc B5.out.size (.cells #[.int .i64 0, .int .i64 1, .int .i64 64, .int .i64 70, .int .i64 255] 2))
    clear s5 g5 O5' B5' K5 O5 B5
    go_wp2_with fail
    refine K6.out.mono ?_
    rintro e w6 ⟨r6, rfl, hj0, hj1, s6, g6⟩
    have u6 := u8_in r6 ⟨hj0, by omega⟩
    have O6 := O6'.out.grown g6 (by rintro x hx e; cases hx; simp at e; omega)
    have B6 := B6'.out.grown g6 B6'.out.size (fun k e => by cases e; exact Nat.le_refl _)
    have ck := O6.cellAt k hk
    have fk := O6.frozenAt k
    have OS := O6.set k r6 ⟨hj0, by omega⟩
    have B7 := Lib.hid (B6.setCell (p := ⟨g, k, none⟩) (by show w.heap.size ≤ g; omega) (.int .u8 r6))
    have K7 := Lib.hid (l1Seal2_any _ l3 c3 _ _ OS.1.rd (by omega) (by omega))
    clear s6 g6 O6' B6' K6 OS O6 B6
    go_wp2_with fail
    refine K7.out.mono ?_
    rintro e w8 ⟨a8, l8, c8, rfl, o8, b8⟩
    have hl8 : l8 ≤ 1300 := by
      rw [← o8.length]
      simp only [List.length_append, sealB_len, List.length_take, List.length_drop, List.length_set]
      have := HY.out
      omega
    have R8 := Lib.hid o8.rd
    have B8 := Lib.hid (B7.out.trans (b8.mono B7.out.size))
    clear o8 b8 K7 B7 ck fk
    go_wp2
    go_ret
    exact ⟨_, _, _, _, rfl, hl8, R8.out, B8.out⟩
  · subst e0
    have KS := Lib.hid (l1Spoil_any w.heap.size _ g w.heap.size a len cap zs l3 c3 (w.heap.size + 1) ys w4 S4.out O4.out (by omega) (Nat.le_refl _) (Nat.le_succ _) (by omega) (by omega) (by omega) hl)
    go_wp2_with fail
    refine KS.out.mono ?_
    rintro e w5 ⟨a5, n5, c5, ys5, rfl, hn5, r5, b5⟩
    have R5 := Lib.hid r5
    have B5 := Lib.hid (B4.out.trans b5)
    clear r5 b5 KS O4 S4 B4
    go_wp2
    go_ret
    exact ⟨_, _, _, _, rfl, by omega, R5.out, B5.out⟩
  · subst e0
    have K5 := Lib.hid (l1Pick_any w.heap.size _ w4.heap.size 4 [1, 9, 580, 581] 1 581 a len cap zs (w4.alloc (.cells #[.int .i64 1, .int .i64 9, .int .i64 580, .int .i64 581] 2)) (S4.out.alloc _) (fun x hx => by simp at hx; omega) rfl (by omega) (by omega) (Box.new _ _ _) (by have := z4.out; omega) (by omega) hl)
    have O5' := Lib.hid (O4.out.alloc (.cells #[.int .i64 1, .int .i64 9, .int .i64 580, .int .i64 581] 2))
    have B5' := Lib.hid (B4.out.alloc B4.out.size (.cells #[.int .i64 1, .int .i64 9, .int .i64 580, .int .i64 581] 2))
    clear S4 O4 B4
    go_wp2_with fail
    refine K5.out.mono ?_
    rintro e w5 ⟨r5, rfl, hk0, hk1, s5, g5⟩
    obtain ⟨k, rfl⟩ := Int.eq_ofNat_of_zero_le (show 0 ≤ r5 by omega)
    have O5 := Lib.hid (O5'.out.grown g5 (by rintro x hx e; cases hx; simp at e; omega))
    have B5 := Lib.hid (B5'.out.grown g5 B5'.out.size (fun k e => by cases e; exact Nat.le_refl _))
    have K6 := Lib.hid (l1Some_any w.heap.size _ k a len cap zs w5 s5 (by omega) hl)
    clear s5 g5 O5' B5' K5
    go_wp2_with fail
    refine K6.out.mono ?_
    rintro e w6 ⟨a6, c6, ys6, rfl, o6, s6, g6⟩
    have O6 := Lib.hid (O5.out.grown g6 (by rintro x hx e; cases hx; simp at e; omega))
    have B6 := Lib.hid (B5.out.grown g6 B5.out.size (fun k e => by cases e; exact Nat.le_refl _))
    have R6 := Lib.hid o6.rd
    clear o6 s6 g6 O5 B5 K6
    go_wp2_with (at_builtin; refine append_bytes _ rfl (.tmp 33) (.tmp 38) rfl (w.heap.size + 1) _ _ _ _ rfl O6.out _ _ _ _ rfl R6.out (by have := O6.out.lt _ rfl; dsimp only at this; omega) (by omega) ?_; intro a7 c7 w7 o7 g7; have P7 := Lib.hid o7; have B7 := Lib.hid (B6.out.grown g7 B6.out.size (fun k e => by simp [Value.ownBlock] at e; omega)); clear o7 g7 O6 R6 B6)
    go_ret
    exact ⟨_, _, _, _, rfl, by omega, P7.out.rd, B7.out⟩
  · have e1 : (r == 0) = false := by simp; omega
    have e2 : (r == 1) = false := by simp; omega
    have e3 : (r == 2) = false := by simp; omega
    have R1 := Lib.hid O4.out.rd
    clear O4
    go_wp2
    go_ret
    exact ⟨_, _, _, _, rfl, by omega, R1.out, B4.out⟩
end Go.Proofs.Ytgjkbaplfbiomaa

namespace Go.Proofs.Ytgjkbaplfbiomaa
open Go.ChangeShapes Go.WideShapes Go.ChangeAt Go.RowKit

set_option maxRecDepth 20000 in
set_option maxHeartbeats 4000000 in
theorem drawReadEcho (a : Option Addr) (len cap : Nat) (zs : List Int) (w : World) (h : Rd w a len cap zs) (hl : len ≤ 1048576) :
    Calls Try.prog 18 #[.slice a len cap] w (SomeRd w.heap.size 1300 w) := by
  have K0 := Lib.hid (l1Source_any a len cap zs w h)
  clear h
  go_enter Try.func18, Try.ntmps18
  go_wp2_with fail
  refine K0.out.mono ?_
  rintro e w1 ⟨rfl, s1, b1⟩
  have B1 := Lib.hid b1
  have z1 := Lib.hid s1.box.lt
  have K1 := Lib.hid (l3DrawEcho_any _ _ a len cap zs w1 s1 (by omega) hl)
  clear s1 b1 K0
  go_wp2_with fail
  refine K1.out.mono ?_
  rintro e w2 ⟨er, ei, es, a2, n2, c2, ys2, rfl, b_i, b_s, hn2, o2, s2, g2⟩
  have z2 := Lib.hid (Nat.lt_of_lt_of_le z1.out g2.size)
  have P2 := Lib.hid (Box.new w2 35 #[.bool er, .int .i64 ei, .int .i64 es, .slice a2 n2 c2])
  have B2' := B1.out.grown g2 B1.out.size (fun k e => by cases e; omega)
  have B2 := Lib.hid (B2'.alloc B2'.size (.cells #[.bool er, .int .i64 ei, .int .i64 es, .slice a2 n2 c2] 35))
  have S2 := Lib.hid (s2.alloc (.cells #[.bool er, .int .i64 ei, .int .i64 es, .slice a2 n2 c2] 35))
  have K2 := Lib.hid (l3Echo_any w2.heap.size er ei es a2 n2 c2 ys2 (w2.alloc (.cells #[.bool er, .int .i64 ei, .int .i64 es, .slice a2 n2 c2] 35)) P2.out (o2.rd.alloc _) (by omega) (by omega) (by omega))
  have HN := Lib.hid o2.length
  clear o2 s2 g2 B1 B2' K1 P2
  generalize hW2 : w2.alloc (.cells #[.bool er, .int .i64 ei, .int .i64 es, .slice a2 n2 c2] 35) = W2 at *
  go_wp2_with fail
  clear hW2
  refine K2.out.mono ?_
  rintro e w3 ⟨a3, l3, c3, rfl, o3, b3⟩
  have hl3 : l3 = 8 + n2 := by rw [← o3.length, echoL_len, HN.out]
  have S3 := Lib.hid (S2.out.below b3)
  have B3 := Lib.hid (B2.out.trans (b3.mono B2.out.size))
  have O3 := Lib.hid (o3.rebase (show w.heap.size + 1 ≤ W2.heap.size by have := S2.out.box.lt; omega))
  have HL3 : 8 ≤ l3 ∧ l3 ≤ 17 := by omega
  clear o3 b3 K2 S2 B2 HN hl3
  generalize echoL er ei es ys2 = ys at *
  rcases O3.out.shape with ⟨_, h0, _⟩ | ⟨g, rfl⟩
  · omega
  have gB := O3.out.lt _ rfl
  dsimp only at gB
  have K3 := Lib.hid (l1Next_any w.heap.size _ 6 a len cap zs w3 S3.out (by omega) hl (by omega))
  go_wp2_with fail
  refine K3.out.mono ?_
  rintro e w4 ⟨r, rfl, hr0, hr1, s4, g4⟩
  have hr2 := hr1 (by omega)
  have S4 := Lib.hid s4
  have O4 := Lib.hid (O3.out.grown g4 (by rintro x hx e; cases hx; simp at e; omega))
  have B4 := Lib.hid (B3.out.grown g4 B3.out.size (fun k e => by cases e; exact Nat.le_refl _))
  have z4 := Lib.hid (show w3.heap.size ≤ w4.heap.size from g4.size)
  clear s4 g4 O3 S3 B3 hr1 K3
  obtain e0 | e0 | e0 : r = 0 ∨ r = 1 ∨ 2 ≤ r := by omega
  · subst e0
    have K5 := Lib.hid (l1Next_any w.heap.size _ 2 a len cap zs w4 S4.out (by omega) hl (by omega))
    clear S4
    go_wp2_with fail
    refine K5.out.mono ?_
    rintro e w5 ⟨r5, rfl, hk0, hk1, s5, g5⟩
    have hk2 := hk1 (by omega)
    obtain ⟨k, rfl⟩ := Int.eq_ofNat_of_zero_le hk0
    have hk : k < l3 := by omega
    have hki : (k : Int) < l3 := by omega
    have z5 := Lib.hid (show w4.heap.size ≤ w5.heap.size from g5.size)
    have O5 := Lib.hid (O4.out.grown g5 (by rintro x hx e; cases hx; simp at e; omega))
    have B5 := Lib.hid (B4.out.grown g5 B4.out.size (fun k e => by cases e; exact Nat.le_refl _))
    have K6 := Lib.hid (l1Pick_any w.heap.size _ w5.heap.size 4 [3, 0, 8, 1] 0 8 a len cap zs (w5.alloc (.cells #[.int .i64 3, .int .i64 0, .int .i64 8, .int .i64 1] 2)) (s5.alloc _) (fun x hx => by simp at hx; omega) rfl (by omega) (by omega) (Box.new _ _ _) (by have := z5.out; have := z4.out; omega) (by omega) hl)
    have O6' := Lib.hid (O5.out.alloc (.cells #[.int .i64 3, .int .i64 0, .int .i64 8, .int .i64 1] 2))
    have B6' := Lib.hid (B5.out.alloc B5.out.size (.cells #[.int .i64 3, .int .i64 0, .int .i64 8, .int .i64 1] 2))
    clear s5 g5 K5 O5 B5 O4 B4 hk1
    go_wp2_with fail
    refine K6.out.mono ?_
    rintro e w6 ⟨r6, rfl, hj0, hj1, s6, g6⟩
    have u6 := u8_in r6 ⟨hj0, by omega⟩
    have O6 := O6'.out.grown g6 (by rintro x hx e; cases hx; simp at e; omega)
    have B6 := B6'.out.grown g6 B6'.out.size (fun k e => by cases e; exact Nat.le_refl _)
    have ck := O6.cellAt k hk
    have fk := O6.frozenAt k
    have OS := O6.set k r6 ⟨hj0, by omega⟩
    have B7 := Lib.hid (B6.setCell (p := ⟨g, k, none⟩) (by show w.heap.size ≤ g; omega) (.int .u8 r6))
    have K7 := Lib.hid (l1Seal_lit g l3 c3 _ 2 2 _ _ rfl OS.1 (by omega) (by omega))
    clear s6 g6 O6' B6' K6 OS O6 B6
    go_wp2_with fail
    refine K7.out.mono ?_
    rintro e w8 ⟨rfl, o8, g8⟩
    have R8 := Lib.hid o8.rd
    have B8 := Lib.hid (B7.out.grown g8 B7.out.size (fun k e => by cases e; omega))
    clear o8 g8 K7 B7 ck fk
    go_wp2
    go_ret
    exact ⟨_, _, _, _, rfl, by omega, R8.out, B8.out⟩
  · subst e0
    have KS := Lib.hid (l1Spoil_any w.heap.size _ g w.heap.size a len cap zs l3 c3 (w.heap.size + 1) ys w4 S4.out O4.out (by omega) (Nat.le_refl _) (Nat.le_succ _) (by omega) (by omega) (by omega) hl)
    go_wp2_with fail
    refine KS.out.mono ?_
    rintro e w5 ⟨a5, n5, c5, ys5, rfl, hn5, r5, b5⟩
    have R5 := Lib.hid r5
    have B5 := Lib.hid (B4.out.trans b5)
    clear r5 b5 KS O4 S4 B4
    go_wp2
    go_ret
    exact ⟨_, _, _, _, rfl, by omega, R5.out, B5.out⟩
  · have e1 : (r == 0) = false := by simp; omega
    have e2 : (r == 1) = false := by simp; omega
    have R1 := Lib.hid O4.out.rd
    clear O4
    go_wp2
    go_ret
    exact ⟨_, _, _, _, rfl, by omega, R1.out, B4.out⟩
end Go.Proofs.Ytgjkbaplfbiomaa

namespace Go.Proofs.Ytgjkbaplfbiomaa
open Go.ChangeShapes Go.WideShapes Go.ChangeAt Go.RowKit

theorem box_set4 {w : World} {b : Nat} {t : TypeId} {x0 x1 x2 x3 x4 : Value} (h : Box w b t #[x0, x1, x2, x3, x4]) (z : Value) : Box (w.setCell ⟨b, 4, none⟩ z) b t #[x0, x1, x2, x3, z] := by
  unfold Box at *
  simp [World.setCell, Array.getElem?_modify, h]
/-- some two packets -/
def TwoPk (w : World) (e : Ending) (w' : World) : Prop :=
  ∃ (kf kt kp kl : Int) (a1 : Option Addr) (n1 c1 : Nat) (ys1 : List Int) (kf' kt' kp' kl' : Int) (a2 : Option Addr) (n2 c2 : Nat) (ys2 : List Int),
    e = .returned (.tuple #[.agg #[.int .i64 kf, .int .i64 kt, .int .i64 kp, .int .i64 kl, .slice a1 n1 c1], .agg #[.int .i64 kf', .int .i64 kt', .int .i64 kp', .int .i64 kl', .slice a2 n2 c2]]) ∧ Rd w' a1 n1 c1 ys1 ∧ Rd w' a2 n2 c2 ys2 ∧ Below w.heap.size w w'

set_option maxRecDepth 20000 in
set_option maxHeartbeats 4000000 in
theorem drawSamePackets (a : Option Addr) (len cap : Nat) (zs : List Int) (w : World) (h : Rd w a len cap zs) (hl : len ≤ 1048576) :
    Calls Try.prog 20 #[.slice a len cap] w (TwoPk w) := by
  have B0 := Lib.hid (((Below.refl w.heap.size w).alloc (Nat.le_refl _) (.cells #[.int .i64 0, .int .i64 0, .int .i64 0, .int .i64 0, .slice none 0 0] 25)).alloc (by simp) (.cells #[.int .i64 0, .int .i64 0, .int .i64 0, .int .i64 0, .slice none 0 0] 25))
  have K0 := Lib.hid (l1Source_any a len cap zs _ (h.below B0.out))
  have KF := Lib.hid (fun W (hW : Below w.heap.size w W) => drawPacketFault a len cap zs W (h.below hW) hl)
  have R20 := Lib.hid ((Box.new w 25 #[.int .i64 0, .int .i64 0, .int .i64 0, .int .i64 0, .slice none 0 0]).alloc (.cells #[.int .i64 0, .int .i64 0, .int .i64 0, .int .i64 0, .slice none 0 0] 25))
  have R30 := Lib.hid (Box.new (w.alloc (.cells #[.int .i64 0, .int .i64 0, .int .i64 0, .int .i64 0, .slice none 0 0] 25)) 25 #[.int .i64 0, .int .i64 0, .int .i64 0, .int .i64 0, .slice none 0 0])
  simp only [World.size_alloc] at R30 K0
  clear h
  go_enter Try.func20, Try.ntmps20
  go_wp2_with fail
  refine K0.out.mono ?_
  rintro e w1 ⟨rfl, s1, b1⟩
  have R21 := Lib.hid (R20.out.below (B := w.heap.size + 1 + 1) b1 (by omega))
  have R31 := Lib.hid (R30.out.below (B := w.heap.size + 1 + 1) b1 (by omega))
  have B1 := Lib.hid (B0.out.trans (b1.mono (by omega)))
  have z1 := Lib.hid s1.box.lt
  have K1 := Lib.hid (l3Draw_any _ _ a len cap zs w1 s1 (by omega) hl)
  clear s1 b1 K0 R20 R30 B0
  go_wp2_with fail
  refine K1.out.mono ?_
  rintro e w2 ⟨kf, kt, kp, kl, a2, n2, c2, ys2, rfl, b_f, b_t, b_p, b_l, hn2, o2, s2, g2⟩
  have z2 := Lib.hid (Nat.lt_of_lt_of_le z1.out g2.size)
  have R22 := Lib.hid ((R21.out.grown g2 (by simp; omega)).alloc (.cells #[.int .i64 kf, .int .i64 kt, .int .i64 kp, .int .i64 kl, .slice a2 n2 c2] 25))
  have R32 := Lib.hid ((R31.out.grown g2 (by simp)).alloc (.cells #[.int .i64 kf, .int .i64 kt, .int .i64 kp, .int .i64 kl, .slice a2 n2 c2] 25))
  have P2 := Lib.hid (Box.new w2 25 #[.int .i64 kf, .int .i64 kt, .int .i64 kp, .int .i64 kl, .slice a2 n2 c2])
  have B2' := B1.out.grown g2 B1.out.size (fun k e => by cases e; omega)
  have B2 := Lib.hid (B2'.alloc B2'.size (.cells #[.int .i64 kf, .int .i64 kt, .int .i64 kp, .int .i64 kl, .slice a2 n2 c2] 25))
  have S2 := Lib.hid (s2.alloc (.cells #[.int .i64 kf, .int .i64 kt, .int .i64 kp, .int .i64 kl, .slice a2 n2 c2] 25))
  have O2 := Lib.hid (o2.alloc (.cells #[.int .i64 kf, .int .i64 kt, .int .i64 kp, .int .i64 kl, .slice a2 n2 c2] 25))
  have q12 := Lib.hid (show w1.heap.size ≤ w2.heap.size from g2.size)
  have NB := Lib.hid (show ∀ x, a2 = some x → x.block < w2.heap.size from fun x hx => (o2.lt x hx).2)
  clear o2 s2 g2 B1 B2' K1 R21 R31
  generalize hW2 : w2.alloc (.cells #[.int .i64 kf, .int .i64 kt, .int .i64 kp, .int .i64 kl, .slice a2 n2 c2] 25) = W2 at *
  have K2 := Lib.hid (l1Chance_any (w.heap.size + 1 + 1) _ 2 a len cap zs W2 S2.out (by omega) hl (by omega))
  clear S2
  go_wp2_with fail
  clear hW2
  refine K2.out.mono ?_
  rintro e w3 ⟨c, rfl, s3, g3⟩
  have z1o := z1.out
  have z2o := z2.out
  have q12o := q12.out
  have R23 := Lib.hid (R22.out.grown g3 (by simp; omega))
  have R33 := Lib.hid (R32.out.grown g3 (by simp))
  have P3 := Lib.hid (P2.out.grown g3 (by simp; omega))
  have B3 := Lib.hid (B2.out.grown g3 B2.out.size (fun k e => by cases e; omega))
  have O3 := Lib.hid (O2.out.grown g3 (by rintro x hx e; have := (O2.out.lt x hx).1; simp only [Option.some.injEq] at e; omega))
  have O3N := Lib.hid (show w.heap.size + 1 < w1.heap.size by omega)
  have P3N := Lib.hid (show w.heap.size + 1 < w2.heap.size by omega)
  have NB4 := Lib.hid (show ∀ x, a2 = some x → x.block < w2.heap.size from NB.out)
  clear s3 g3 R22 R32 P2 B2 O2 K2
  cases c
  case false =>
    have SS := Lib.hid (show ∀ W, Hid (Box W w2.heap.size 25 #[.int .i64 kf, .int .i64 kt, .int .i64 kp, .int .i64 kl, .slice a2 n2 c2]) → W.cell? ⟨w2.heap.size, 0, none⟩ = some (.int .i64 kf) ∧ W.cell? ⟨w2.heap.size, 1, none⟩ = some (.int .i64 kt) ∧ W.cell? ⟨w2.heap.size, 2, none⟩ = some (.int .i64 kp) ∧ W.cell? ⟨w2.heap.size, 3, none⟩ = some (.int .i64 kl) ∧ W.cell? ⟨w2.heap.size, 4, none⟩ = some (.slice a2 n2 c2) from fun W hW => by
      obtain ⟨_, x0, x1, x2, x3, x4⟩ := hW.out.five
      exact ⟨x0, x1, x2, x3, x4⟩)
    go_wp2_with fail
    have PD : Hid (Box w3.drew w2.heap.size _ _) := P3.out
    refine wp_region_held_drew (S := fun W => W.cell? ⟨w2.heap.size, 0, none⟩ = some (.int .i64 kf) ∧ W.cell? ⟨w2.heap.size, 1, none⟩ = some (.int .i64 kt) ∧ W.cell? ⟨w2.heap.size, 2, none⟩ = some (.int .i64 kp) ∧ W.cell? ⟨w2.heap.size, 3, none⟩ = some (.int .i64 kl) ∧ W.cell? ⟨w2.heap.size, 4, none⟩ = some (.slice a2 n2 c2)) (by kernel_rfl) (SS.out _ PD) (fun hHeld => ?_)
    refine wpAnyH_take (i := 0) (v := ?_) (by simp only [List.getElem?_toArray, List.getElem?_cons_zero]; exact rfl) (by kernel_rfl) (by kernel_rfl) (by kernel_rfl) (by exact fun _ _ _ h => h) (Or.inl ⟨by rfl, ?_⟩) hHeld ?_
    rotate_left
    · intro w' hSw
      obtain ⟨x0, x1, x2, x3, x4⟩ := hSw
      go_simp
      try with_reducible rfl
    try simp only [Act.put, List.setIfInBounds_toArray, List.set_cons_zero, List.set_cons_succ]
    refine wpAnyH_take (i := 1) (v := ?_) (by simp only [List.getElem?_toArray, List.getElem?_cons_zero, List.getElem?_cons_succ]; exact rfl) (by kernel_rfl) (by kernel_rfl) (by kernel_rfl) (by exact fun _ _ _ h => h) (Or.inl ⟨by rfl, ?_⟩) hHeld ?_
    rotate_left
    · intro w' hSw
      obtain ⟨x0, x1, x2, x3, x4⟩ := hSw
      go_simp
      try with_reducible rfl
    try simp only [Act.put, List.setIfInBounds_toArray, List.set_cons_zero, List.set_cons_succ]
    refine wpAnyH_ready (rs := [2]) (by kernel_rfl) (by simp) ?_
    refine (AllReadyH.cons (by simp only [List.getElem?_toArray, List.getElem?_cons_zero, List.getElem?_cons_succ]; exact rfl) (fun K hK => ?_) AllReadyH.nil)
    refine want_none (by exact rfl) ?_
    go_wp2_with fail
    refine (KF.out _ B3.out.drew).mono ?_
    rintro e w4 ⟨kf', kt', kp', kl', a4, n4, c4, ys4, rfl, _, hn4, o4, b4⟩
    have P4 := Lib.hid (PD.out.below b4 PD.out.lt)
    have R2 := Lib.hid ((show Box w3.drew _ _ _ from R23.out).below b4 R23.out.lt)
    have R3 := Lib.hid ((show Box w3.drew _ _ _ from R33.out).below b4 R33.out.lt)
    have O4 := Lib.hid (O3.out.drew.below b4)
    have O4N := O3N
    have P4N := P3N
    have Q4 := Lib.hid o4
    have Q4N := Lib.hid (show w.heap.size + 1 < w3.drew.heap.size from R33.out.lt)
    have T4 := Lib.hid (B3.out.drew.trans (b4.mono B3.out.drew.size))
    clear o4 b4 PD P3 R23 R33 O3 B3
    go_wp2_with fail
    refine hK.out _ _ (SS.out _ P4) (fun hHeld => ?_)
    clear hK K
    try simp only [Act.put, List.setIfInBounds_toArray, List.set_cons_zero, List.set_cons_succ]
    refine wpAnyH_ready (rs := [3]) (by kernel_rfl) (by simp) ?_
    refine (AllReadyH.cons (by simp only [List.getElem?_toArray, List.getElem?_cons_zero, List.getElem?_cons_succ]; exact rfl) (fun K hK => ?_) AllReadyH.nil)
    refine storeBox_step _ rfl 25 (.tmp 2) (.tmp 20) rfl w.heap.size 25 _ #[.int .i64 kf, .int .i64 kt, .int .i64 kp, .int .i64 kl, .slice a2 n2 c2] R2.out (by exact rfl) (by exact rfl) (by kernel_rfl) (by exact rfl) (by simp [Value.oneCell']) ?_
    intro wA xwA gwA
    have P4A := Lib.hid (P4.out.grown gwA (by have := P4N.out; simp only [ne_eq, Option.some.injEq]; omega))
    have R3A := Lib.hid (R3.out.grown gwA (by simp))
    have O4A := Lib.hid (O4.out.grown gwA (by rintro x hx e; have := (O4.out.lt x hx).1; have := O4N.out; simp only [Option.some.injEq] at e; omega))
    have Q4A := Lib.hid (Q4.out.grown gwA (by rintro x hx e; have := (Q4.out.lt x hx).1; have := Q4N.out; simp only [Option.some.injEq] at e; omega))
    have TA := Lib.hid (T4.out.grown gwA T4.out.size (fun k e => by cases e; omega))
    have XA := Lib.hid xwA
    clear xwA gwA
    refine hK.out _ _ (SS.out _ P4A) (fun hHeld => ?_)
    clear hK K
    try simp only [Act.put]
    try simp only [Act.put, List.setIfInBounds_toArray, List.set_cons_zero, List.set_cons_succ]
    refine wpAnyH_ready (rs := [4]) (by kernel_rfl) (by simp) ?_
    refine (AllReadyH.cons (by simp only [List.getElem?_toArray, List.getElem?_cons_zero, List.getElem?_cons_succ]; exact rfl) (fun K hK => ?_) AllReadyH.nil)
    refine storeBox_step _ rfl 25 (.tmp 3) (.tmp 22) rfl (w.heap.size + 1) 25 _ #[.int .i64 kf', .int .i64 kt', .int .i64 kp', .int .i64 kl', .slice a4 n4 c4] R3A.out (by exact rfl) (by exact rfl) (by kernel_rfl) (by exact rfl) (by simp [Value.oneCell']) ?_
    intro wB xwB gwB
    have P4B := Lib.hid (P4A.out.grown gwB (by have := P4N.out; simp only [ne_eq, Option.some.injEq]; omega))
    have O4B := Lib.hid (O4A.out.grown gwB (by rintro x hx e; have := (O4A.out.lt x hx).1; have := O4N.out; simp only [Option.some.injEq] at e; omega))
    have Q4B := Lib.hid (Q4A.out.grown gwB (by rintro x hx e; have := (Q4A.out.lt x hx).1; have := Q4N.out; simp only [Option.some.injEq] at e; omega))
    have TBB := Lib.hid (TA.out.grown gwB TA.out.size (fun k e => by cases e; omega))
    have XAB := Lib.hid (XA.out.grown gwB (by simp))
    have XB := Lib.hid xwB
    clear xwB gwB TA XA
    refine hK.out _ _ (SS.out _ P4B) (fun hHeld => ?_)
    clear hK K hHeld
    try simp only [Act.put]
    refine wpAnyH_done (by kernel_rfl) ?_ _
    go_wp2
    obtain ⟨_, p0, p1, p2, p3, p4⟩ := XAB.out.five
    obtain ⟨_, q0, q1, q2, q3, q4⟩ := XB.out.five
    exact bodyPost_ret (v := .tuple #[.agg #[.int .i64 kf, .int .i64 kt, .int .i64 kp, .int .i64 kl, .slice a2 n2 c2], .agg #[.int .i64 kf', .int .i64 kt', .int .i64 kp', .int .i64 kl', .slice a4 n4 c4]]) (by simp [results, Try.results20, go_sem, p0, p1, p2, p3, p4, q0, q1, q2, q3, q4]) rfl ⟨_, _, _, _, _, _, _, _, _, _, _, _, _, _, _, _, rfl, O4B.out.rd, Q4B.out.rd, TBB.out⟩
  case true =>
    have R24 := Lib.hid (R23.out.alloc (.cells #[.int .i64 kf, .int .i64 kt, .int .i64 kp, .int .i64 kl, .slice a2 n2 c2] 25))
    have R34 := Lib.hid (R33.out.alloc (.cells #[.int .i64 kf, .int .i64 kt, .int .i64 kp, .int .i64 kl, .slice a2 n2 c2] 25))
    have P4 := Lib.hid (P3.out.alloc (.cells #[.int .i64 kf, .int .i64 kt, .int .i64 kp, .int .i64 kl, .slice a2 n2 c2] 25))
    have U4 := Lib.hid (Box.new w3 25 #[.int .i64 kf, .int .i64 kt, .int .i64 kp, .int .i64 kl, .slice a2 n2 c2])
    have B4 := Lib.hid (B3.out.alloc B3.out.size (.cells #[.int .i64 kf, .int .i64 kt, .int .i64 kp, .int .i64 kl, .slice a2 n2 c2] 25))
    have O4 := Lib.hid (O3.out.alloc (.cells #[.int .i64 kf, .int .i64 kt, .int .i64 kp, .int .i64 kl, .slice a2 n2 c2] 25))
    have z3 := Lib.hid (show w.heap.size + 1 < w3.heap.size from R33.out.lt)
    have y3 := Lib.hid (show w2.heap.size < w3.heap.size from P3.out.lt)
    obtain ⟨_, x0, x1, x2, x3, x4⟩ := P3.out.five
    generalize hW4 : w3.alloc (.cells #[.int .i64 kf, .int .i64 kt, .int .i64 kp, .int .i64 kl, .slice a2 n2 c2] 25) = W4 at *
    have x4' : W4.cell? ⟨w2.heap.size, 4, none⟩ = some (.slice a2 n2 c2) := P4.out.cell 4
    have KC := Lib.hid (l1Copy_any a2 n2 c2 ys2 W4 O4.out.rd (by omega))
    clear R23 R33 P3 B3 O3 KF
    go_wp2_with fail
    clear hW4 x0 x1 x2 x3 x4 x4'
    refine KC.out.mono ?_
    rintro e w5 ⟨a6, c6, rfl, o5, b5⟩
    have R25 := R24.out.below b5 R24.out.lt
    have R35 := R34.out.below b5 R34.out.lt
    have P5 := P4.out.below b5 P4.out.lt
    have U5 := U4.out.below b5 U4.out.lt
    have B5 := B4.out.trans (b5.mono B4.out.size)
    have O5 := O4.out.below b5
    have hU5 := U5.cell 4
    have fU5 := U5.frozen 4
    have gS := grown_setCell w5 ⟨w3.heap.size, 4, none⟩ (.slice a6 n2 c6)
    have z3o := z3.out
    have y3o := y3.out
    have R2 := Lib.hid (R25.grown gS (by simp; omega))
    have R3 := Lib.hid (R35.grown gS (by simp; omega))
    have P6 := Lib.hid (P5.grown gS (by simp; omega))
    have U6 := Lib.hid (box_set4 U5 (.slice a6 n2 c6))
    have T6 := Lib.hid (B5.grown gS B5.size (fun k e => by cases e; dsimp only; omega))
    have O6 := Lib.hid (O5.grown gS (by rintro x hx e; have h9 := (O4.out.lt x hx).2; have h8 := (O4.out.lt x hx).1; simp only [Option.some.injEq] at e; have := NB4.out x hx; omega))
    have Q6 := Lib.hid (o5.grown gS (by rintro x hx e; have h8 := (o5.lt x hx).1; have := U4.out.lt; simp only [Option.some.injEq] at e; omega))
    have O6N := O3N
    have Q6N := Lib.hid (show w.heap.size + 1 < W4.heap.size from R34.out.lt)
    have P6N := P3N
    have U6N := z3
    clear R25 R35 P5 U5 B5 O5 o5 b5 gS R24 R34 P4 U4 B4 O4 KC
    go_wp2_with fail
    clear hU5 fU5
    generalize w5.setCell ⟨w3.heap.size, 4, none⟩ (.slice a6 n2 c6) = W6 at *
    have SS := Lib.hid (show ∀ W, Hid (Box W w2.heap.size 25 #[.int .i64 kf, .int .i64 kt, .int .i64 kp, .int .i64 kl, .slice a2 n2 c2]) → Hid (Box W w3.heap.size 25 #[.int .i64 kf, .int .i64 kt, .int .i64 kp, .int .i64 kl, .slice a6 n2 c6]) → W.cell? ⟨w2.heap.size, 0, none⟩ = some (.int .i64 kf) ∧ W.cell? ⟨w2.heap.size, 1, none⟩ = some (.int .i64 kt) ∧ W.cell? ⟨w2.heap.size, 2, none⟩ = some (.int .i64 kp) ∧ W.cell? ⟨w2.heap.size, 3, none⟩ = some (.int .i64 kl) ∧ W.cell? ⟨w2.heap.size, 4, none⟩ = some (.slice a2 n2 c2) ∧ W.cell? ⟨w3.heap.size, 0, none⟩ = some (.int .i64 kf) ∧ W.cell? ⟨w3.heap.size, 1, none⟩ = some (.int .i64 kt) ∧ W.cell? ⟨w3.heap.size, 2, none⟩ = some (.int .i64 kp) ∧ W.cell? ⟨w3.heap.size, 3, none⟩ = some (.int .i64 kl) ∧ W.cell? ⟨w3.heap.size, 4, none⟩ = some (.slice a6 n2 c6) from fun W hW hW' => by
      obtain ⟨_, x0, x1, x2, x3, x4⟩ := hW.out.five
      obtain ⟨_, y0, y1, y2, y3, y4⟩ := hW'.out.five
      exact ⟨x0, x1, x2, x3, x4, y0, y1, y2, y3, y4⟩)
    have PD : Hid (Box W6.drew w2.heap.size _ _) := P6.out
    have UD : Hid (Box W6.drew w3.heap.size _ _) := U6.out
    refine wp_region_held_drew (S := fun W => W.cell? ⟨w2.heap.size, 0, none⟩ = some (.int .i64 kf) ∧ W.cell? ⟨w2.heap.size, 1, none⟩ = some (.int .i64 kt) ∧ W.cell? ⟨w2.heap.size, 2, none⟩ = some (.int .i64 kp) ∧ W.cell? ⟨w2.heap.size, 3, none⟩ = some (.int .i64 kl) ∧ W.cell? ⟨w2.heap.size, 4, none⟩ = some (.slice a2 n2 c2) ∧ W.cell? ⟨w3.heap.size, 0, none⟩ = some (.int .i64 kf) ∧ W.cell? ⟨w3.heap.size, 1, none⟩ = some (.int .i64 kt) ∧ W.cell? ⟨w3.heap.size, 2, none⟩ = some (.int .i64 kp) ∧ W.cell? ⟨w3.heap.size, 3, none⟩ = some (.int .i64 kl) ∧ W.cell? ⟨w3.heap.size, 4, none⟩ = some (.slice a6 n2 c6)) (by kernel_rfl) (SS.out _ PD UD) (fun hHeld => ?_)
    refine wpAnyH_take (i := 0) (v := ?_) (by simp only [List.getElem?_toArray, List.getElem?_cons_zero]; exact rfl) (by kernel_rfl) (by kernel_rfl) (by kernel_rfl) (by exact fun _ _ _ h => h) (Or.inl ⟨by rfl, ?_⟩) hHeld ?_
    rotate_left
    · intro w' hSw
      obtain ⟨x0, x1, x2, x3, x4, y0, y1, y2, y3, y4⟩ := hSw
      go_simp
      try with_reducible rfl
    try simp only [Act.put, List.setIfInBounds_toArray, List.set_cons_zero, List.set_cons_succ]
    refine wpAnyH_take (i := 1) (v := ?_) (by simp only [List.getElem?_toArray, List.getElem?_cons_zero, List.getElem?_cons_succ]; exact rfl) (by kernel_rfl) (by kernel_rfl) (by kernel_rfl) (by exact fun _ _ _ h => h) (Or.inl ⟨by rfl, ?_⟩) hHeld ?_
    rotate_left
    · intro w' hSw
      obtain ⟨x0, x1, x2, x3, x4, y0, y1, y2, y3, y4⟩ := hSw
      go_simp
      try with_reducible rfl
    try simp only [Act.put, List.setIfInBounds_toArray, List.set_cons_zero, List.set_cons_succ]
    have R2 : Hid (Box W6.drew w.heap.size _ _) := R2.out
    have R3 : Hid (Box W6.drew (w.heap.size + 1) _ _) := R3.out
    have P6 := PD
    have U6 := UD
    have O6 := Lib.hid O6.out.drew
    have Q6 := Lib.hid Q6.out.drew
    have T6 := Lib.hid T6.out.drew
    clear PD UD
    refine wpAnyH_ready (rs := [2]) (by kernel_rfl) (by simp) ?_
    refine (AllReadyH.cons (by simp only [List.getElem?_toArray, List.getElem?_cons_zero, List.getElem?_cons_succ]; exact rfl) (fun K hK => ?_) AllReadyH.nil)
    refine storeBox_step _ rfl 25 (.tmp 2) (.tmp 18) rfl w.heap.size 25 _ #[.int .i64 kf, .int .i64 kt, .int .i64 kp, .int .i64 kl, .slice a2 n2 c2] R2.out (by exact rfl) (by exact rfl) (by kernel_rfl) (by exact rfl) (by simp [Value.oneCell']) ?_
    intro wA xwA gwA
    have P6A := Lib.hid (P6.out.grown gwA (by have := P6N.out; simp only [ne_eq, Option.some.injEq]; omega))
    have U6A := Lib.hid (U6.out.grown gwA (by have := U6N.out; simp only [ne_eq, Option.some.injEq]; omega))
    have R3A := Lib.hid (R3.out.grown gwA (by simp))
    have O6A := Lib.hid (O6.out.grown gwA (by rintro x hx e; have := (O6.out.lt x hx).1; have := O6N.out; simp only [Option.some.injEq] at e; omega))
    have Q6A := Lib.hid (Q6.out.grown gwA (by rintro x hx e; have := (Q6.out.lt x hx).1; have := Q6N.out; simp only [Option.some.injEq] at e; omega))
    have TA := Lib.hid (T6.out.grown gwA T6.out.size (fun k e => by cases e; omega))
    have XA := Lib.hid xwA
    clear xwA gwA
    refine hK.out _ _ (SS.out _ P6A U6A) (fun hHeld => ?_)
    clear hK K
    try simp only [Act.put]
    try simp only [Act.put, List.setIfInBounds_toArray, List.set_cons_zero, List.set_cons_succ]
    refine wpAnyH_ready (rs := [3]) (by kernel_rfl) (by simp) ?_
    refine (AllReadyH.cons (by simp only [List.getElem?_toArray, List.getElem?_cons_zero, List.getElem?_cons_succ]; exact rfl) (fun K hK => ?_) AllReadyH.nil)
    refine storeBox_step _ rfl 25 (.tmp 3) (.tmp 19) rfl (w.heap.size + 1) 25 _ #[.int .i64 kf, .int .i64 kt, .int .i64 kp, .int .i64 kl, .slice a6 n2 c6] R3A.out (by exact rfl) (by exact rfl) (by kernel_rfl) (by exact rfl) (by simp [Value.oneCell']) ?_
    intro wB xwB gwB
    have P6B := Lib.hid (P6A.out.grown gwB (by have := P6N.out; simp only [ne_eq, Option.some.injEq]; omega))
    have U6B := Lib.hid (U6A.out.grown gwB (by have := U6N.out; simp only [ne_eq, Option.some.injEq]; omega))
    have O6B := Lib.hid (O6A.out.grown gwB (by rintro x hx e; have := (O6A.out.lt x hx).1; have := O6N.out; simp only [Option.some.injEq] at e; omega))
    have Q6B := Lib.hid (Q6A.out.grown gwB (by rintro x hx e; have := (Q6A.out.lt x hx).1; have := Q6N.out; simp only [Option.some.injEq] at e; omega))
    have TBB := Lib.hid (TA.out.grown gwB TA.out.size (fun k e => by cases e; omega))
    have XAB := Lib.hid (XA.out.grown gwB (by simp))
    have XB := Lib.hid xwB
    clear xwB gwB TA XA
    refine hK.out _ _ (SS.out _ P6B U6B) (fun hHeld => ?_)
    clear hK K hHeld
    try simp only [Act.put]
    refine wpAnyH_done (by kernel_rfl) ?_ _
    go_wp2
    obtain ⟨_, p0, p1, p2, p3, p4⟩ := XAB.out.five
    obtain ⟨_, q0, q1, q2, q3, q4⟩ := XB.out.five
    exact bodyPost_ret (v := .tuple #[.agg #[.int .i64 kf, .int .i64 kt, .int .i64 kp, .int .i64 kl, .slice a2 n2 c2], .agg #[.int .i64 kf, .int .i64 kt, .int .i64 kp, .int .i64 kl, .slice a6 n2 c6]]) (by simp [results, Try.results20, go_sem, p0, p1, p2, p3, p4, q0, q1, q2, q3, q4]) rfl ⟨_, _, _, _, _, _, _, _, _, _, _, _, _, _, _, _, rfl, O6B.out.rd, Q6B.out.rd, TBB.out⟩
end Go.Proofs.Ytgjkbaplfbiomaa

namespace Go.Proofs.Ytgjkbaplfbiomaa
open Go.ChangeShapes Go.WideShapes Go.ChangeAt Go.RowKit

theorem catV_call {W : World} {g n : Nat} {ss : List Sl} {zs : List Int} (hs : ss.length = n) (hS : Sls W g ss) (hZ : catZ ss = zs) (hT : sumN ss ≤ 1048576) (hn : n ≤ 1000 := by omega) :
    Calls Try.prog 56 #[.slice (some ⟨g, 0, none⟩) n n] W (FreshA W zs) := by
  subst hs hZ
  exact concat_any g ss W hS hn hT

set_option maxRecDepth 20000 in
set_option maxHeartbeats 4000000 in
theorem packetHead_any (kf kt kp kl : Int) (a : Option Addr) (len cap : Nat) (w : World) (h0 : 0 ≤ kf ∧ kf < 4294967296) (h1 : 0 ≤ kt ∧ kt < 4294967296) (h2 : 0 ≤ kp ∧ kp ≤ 255) (h3 : 0 ≤ kl ∧ kl ≤ 255) (hl : len ≤ 560) :
    Calls Try.prog 55 #[.agg #[.int .i64 kf, .int .i64 kt, .int .i64 kp, .int .i64 kl, .slice a len cap]] w (FreshA w (packH kf kt kp kl len)) := by
  have K0 := Lib.hid (show ∀ W, Calls Try.prog 69 #[.int .i64 (20 + len), .int .i64 2] W (Packed W 0 (be (20 + len) 2)) from fun W => implPack_ok (20 + len) 2 W (by omega) (by omega) (by simp only [Int.reducePow]; omega))
  have K1 := Lib.hid (show ∀ W, Calls Try.prog 69 #[.int .i64 16384, .int .i64 2] W (Packed W 0 (be 16384 2)) from fun W => implPack_ok 16384 2 W (by omega) (by omega) (by simp only [Int.reducePow]; omega))
  have K2 := Lib.hid (show ∀ W, Calls Try.prog 69 #[.int .i64 kf, .int .i64 4] W (Packed W 0 (be kf 4)) from fun W => implPack_ok kf 4 W h0.1 (by omega) (by simp only [Int.reducePow]; omega))
  have K3 := Lib.hid (show ∀ W, Calls Try.prog 69 #[.int .i64 kt, .int .i64 4] W (Packed W 0 (be kt 4)) from fun W => implPack_ok kt 4 W h1.1 (by omega) (by simp only [Int.reducePow]; omega))
  obtain ⟨L, hL⟩ : ∃ L, L = packH kf kt kp kl len := ⟨_, rfl⟩
  have HL : Hid (L = [69, 0] ++ be (20 + len) 2 ++ [0, 0] ++ be 16384 2 ++ [kl, kp, 0, 0] ++ be kf 4 ++ be kt 4) := by rw [hL, packH]; simp [Hid, be]
  rw [← hL]
  clear hL h0 h1
  have hfb := fld_br
  have hwr : IntKind.i64.wrap (20 + (len : Int)) = 20 + len := IntWalk.i64_in _ (by omega)
  have u1 := u8_in kp h2
  have u2 := u8_in kl h3
  have B0 := Lib.hid ((Below.refl w.heap.size w).alloc (Nat.le_refl _) (.cells #[.int .i64 kf, .int .i64 kt, .int .i64 kp, .int .i64 kl, .slice a len cap] 25))
  have X0 := Lib.hid (Box.new w 25 #[.int .i64 kf, .int .i64 kt, .int .i64 kp, .int .i64 kl, .slice a len cap])
  go_enter Try.func55, Try.ntmps55
  go_wp2_with fail
  obtain ⟨n0, hn0⟩ : ∃ n0, n0 = w.heap.size := ⟨_, rfl⟩
  generalize w.alloc (.cells #[.int .i64 kf, .int .i64 kt, .int .i64 kp, .int .i64 kl, .slice a len cap] 25) = W0 at *
  have SS := Lib.hid (show ∀ W, Hid (Below W0.heap.size W0 W) → W.cell? ⟨w.heap.size, 0, none⟩ = some (.int .i64 kf) ∧ W.cell? ⟨w.heap.size, 1, none⟩ = some (.int .i64 kt) ∧ W.cell? ⟨w.heap.size, 2, none⟩ = some (.int .i64 kp) ∧ W.cell? ⟨w.heap.size, 3, none⟩ = some (.int .i64 kl) ∧ W.cell? ⟨w.heap.size, 4, none⟩ = some (.slice a len cap) ∧ Hid (Below W0.heap.size W0 W) from fun W h => by
    obtain ⟨_, x0, x1, x2, x3, x4⟩ := (X0.out.below h.out X0.out.lt).five
    exact ⟨x0, x1, x2, x3, x4, h⟩)
  have T1 := Lib.hid (Below.refl W0.heap.size W0)
  have hnn := Lib.hid hn0
  have hn0 : n0 ≤ W0.heap.size := by rw [hnn.out]; exact B0.out.size
  have TD := kDrew T1
  refine wp_region_held_drew (S := fun W => W.cell? ⟨w.heap.size, 0, none⟩ = some (.int .i64 kf) ∧ W.cell? ⟨w.heap.size, 1, none⟩ = some (.int .i64 kt) ∧ W.cell? ⟨w.heap.size, 2, none⟩ = some (.int .i64 kp) ∧ W.cell? ⟨w.heap.size, 3, none⟩ = some (.int .i64 kl) ∧ W.cell? ⟨w.heap.size, 4, none⟩ = some (.slice a len cap) ∧ Hid (Below W0.heap.size W0 W)) (by kernel_rfl) (SS.out _ TD) (fun hHeld => ?_)
  refine wpAnyH_take (i := 1) (v := ?_) (by simp only [List.getElem?_toArray, List.getElem?_cons_zero, List.getElem?_cons_succ]; exact rfl) (by kernel_rfl) (by kernel_rfl) (by kernel_rfl) (by exact fun _ _ _ h => h) (Or.inl ⟨by rfl, ?_⟩) hHeld ?_
  rotate_left
  · intro w' hSw
    obtain ⟨s0, s1, s2, s3, s4, _⟩ := hSw
    go_simp
    try with_reducible rfl
  try simp only [Act.put, List.setIfInBounds_toArray, List.set_cons_zero, List.set_cons_succ]
  refine wpAnyH_take (i := 2) (v := ?_) (by simp only [List.getElem?_toArray, List.getElem?_cons_zero, List.getElem?_cons_succ]; exact rfl) (by kernel_rfl) (by kernel_rfl) (by kernel_rfl) (by exact fun _ _ _ h => h) (Or.inl ⟨by rfl, ?_⟩) hHeld ?_
  rotate_left
  · intro w' hSw
    obtain ⟨s0, s1, s2, s3, s4, _⟩ := hSw
    go_simp
    try with_reducible rfl
  try simp only [Act.put, List.setIfInBounds_toArray, List.set_cons_zero, List.set_cons_succ]
  refine wpAnyH_take (i := 3) (v := ?_) (by simp only [List.getElem?_toArray, List.getElem?_cons_zero, List.getElem?_cons_succ]; exact rfl) (by kernel_rfl) (by kernel_rfl) (by kernel_rfl) (by exact fun _ _ _ h => h) (Or.inl ⟨by rfl, ?_⟩) hHeld ?_
  rotate_left
  · intro w' hSw
    obtain ⟨s0, s1, s2, s3, s4, _⟩ := hSw
    go_simp
    try with_reducible rfl
  try simp only [Act.put, List.setIfInBounds_toArray, List.set_cons_zero, List.set_cons_succ]
  refine wpAnyH_take (i := 4) (v := ?_) (by simp only [List.getElem?_toArray, List.getElem?_cons_zero, List.getElem?_cons_succ]; exact rfl) (by kernel_rfl) (by kernel_rfl) (by kernel_rfl) (by exact fun _ _ _ h => h) (Or.inl ⟨by rfl, ?_⟩) hHeld ?_
  rotate_left
  · intro w' hSw
    obtain ⟨s0, s1, s2, s3, s4, _⟩ := hSw
    go_simp
    try with_reducible rfl
  try simp only [Act.put, List.setIfInBounds_toArray, List.set_cons_zero, List.set_cons_succ]
  refine wpAnyH_take (i := 10) (v := ?_) (by simp only [List.getElem?_toArray, List.getElem?_cons_zero, List.getElem?_cons_succ]; exact rfl) (by kernel_rfl) (by kernel_rfl) (by kernel_rfl) (by exact fun _ _ _ h => h) (Or.inl ⟨by rfl, ?_⟩) hHeld ?_
  rotate_left
  · intro w' hSw
    obtain ⟨s0, s1, s2, s3, s4, _⟩ := hSw
    go_simp
    try with_reducible rfl
  try simp only [Act.put, List.setIfInBounds_toArray, List.set_cons_zero, List.set_cons_succ]
  refine wpAnyH_take (i := 11) (v := ?_) (by simp only [List.getElem?_toArray, List.getElem?_cons_zero, List.getElem?_cons_succ]; exact rfl) (by kernel_rfl) (by kernel_rfl) (by kernel_rfl) (by exact fun _ _ _ h => h) (Or.inl ⟨by rfl, ?_⟩) hHeld ?_
  rotate_left
  · intro w' hSw
    obtain ⟨s0, s1, s2, s3, s4, _⟩ := hSw
    go_simp
    try with_reducible rfl
  try simp only [Act.put, List.setIfInBounds_toArray, List.set_cons_zero, List.set_cons_succ]
  refine wpAnyH_take (i := 12) (v := ?_) (by simp only [List.getElem?_toArray, List.getElem?_cons_zero, List.getElem?_cons_succ]; exact rfl) (by kernel_rfl) (by kernel_rfl) (by kernel_rfl) (by exact fun _ _ _ h => h) (Or.inl ⟨by rfl, ?_⟩) hHeld ?_
  rotate_left
  · intro w' hSw
    obtain ⟨s0, s1, s2, s3, s4, _⟩ := hSw
    go_simp
    try with_reducible rfl
  try simp only [Act.put, List.setIfInBounds_toArray, List.set_cons_zero, List.set_cons_succ]
  refine wpAnyH_take (i := 13) (v := ?_) (by simp only [List.getElem?_toArray, List.getElem?_cons_zero, List.getElem?_cons_succ]; exact rfl) (by kernel_rfl) (by kernel_rfl) (by kernel_rfl) (by exact fun _ _ _ h => h) (Or.inl ⟨by rfl, ?_⟩) hHeld ?_
  rotate_left
  · intro w' hSw
    obtain ⟨s0, s1, s2, s3, s4, _⟩ := hSw
    go_simp
    try with_reducible rfl
  try simp only [Act.put, List.setIfInBounds_toArray, List.set_cons_zero, List.set_cons_succ]
  refine wpAnyH_take (i := 14) (v := ?_) (by simp only [List.getElem?_toArray, List.getElem?_cons_zero, List.getElem?_cons_succ]; exact rfl) (by kernel_rfl) (by kernel_rfl) (by kernel_rfl) (by exact fun _ _ _ h => h) (Or.inl ⟨by rfl, ?_⟩) hHeld ?_
  rotate_left
  · intro w' hSw
    obtain ⟨s0, s1, s2, s3, s4, _⟩ := hSw
    go_simp
    try with_reducible rfl
  try simp only [Act.put, List.setIfInBounds_toArray, List.set_cons_zero, List.set_cons_succ]
  refine wpAnyH_take (i := 15) (v := ?_) (by simp only [List.getElem?_toArray, List.getElem?_cons_zero, List.getElem?_cons_succ]; exact rfl) (by kernel_rfl) (by kernel_rfl) (by kernel_rfl) (by exact fun _ _ _ h => h) (Or.inl ⟨by rfl, ?_⟩) hHeld ?_
  rotate_left
  · intro w' hSw
    obtain ⟨s0, s1, s2, s3, s4, _⟩ := hSw
    go_simp
    try with_reducible rfl
  try simp only [Act.put, List.setIfInBounds_toArray, List.set_cons_zero, List.set_cons_succ]
  refine wpAnyH_take (i := 17) (v := ?_) (by simp only [List.getElem?_toArray, List.getElem?_cons_zero, List.getElem?_cons_succ]; exact rfl) (by kernel_rfl) (by kernel_rfl) (by kernel_rfl) (by exact fun _ _ _ h => h) (Or.inl ⟨by rfl, ?_⟩) hHeld ?_
  rotate_left
  · intro w' hSw
    obtain ⟨s0, s1, s2, s3, s4, _⟩ := hSw
    go_simp
    try with_reducible rfl
  try simp only [Act.put, List.setIfInBounds_toArray, List.set_cons_zero, List.set_cons_succ]
  refine wpAnyH_take (i := 18) (v := ?_) (by simp only [List.getElem?_toArray, List.getElem?_cons_zero, List.getElem?_cons_succ]; exact rfl) (by kernel_rfl) (by kernel_rfl) (by kernel_rfl) (by exact fun _ _ _ h => h) (Or.inl ⟨by rfl, ?_⟩) hHeld ?_
  rotate_left
  · intro w' hSw
    obtain ⟨s0, s1, s2, s3, s4, _⟩ := hSw
    go_simp
    try with_reducible rfl
  try simp only [Act.put, List.setIfInBounds_toArray, List.set_cons_zero, List.set_cons_succ]
  refine wpAnyH_take (i := 21) (v := ?_) (by simp only [List.getElem?_toArray, List.getElem?_cons_zero, List.getElem?_cons_succ]; exact rfl) (by kernel_rfl) (by kernel_rfl) (by kernel_rfl) (by exact fun _ _ _ h => h) (Or.inl ⟨by rfl, ?_⟩) hHeld ?_
  rotate_left
  · intro w' hSw
    obtain ⟨s0, s1, s2, s3, s4, _⟩ := hSw
    go_simp
    try with_reducible rfl
  try simp only [Act.put, List.setIfInBounds_toArray, List.set_cons_zero, List.set_cons_succ]
  refine wpAnyH_take (i := 22) (v := ?_) (by simp only [List.getElem?_toArray, List.getElem?_cons_zero, List.getElem?_cons_succ]; exact rfl) (by kernel_rfl) (by kernel_rfl) (by kernel_rfl) (by exact fun _ _ _ h => h) (Or.inl ⟨by rfl, ?_⟩) hHeld ?_
  rotate_left
  · intro w' hSw
    obtain ⟨s0, s1, s2, s3, s4, _⟩ := hSw
    go_simp
    try with_reducible rfl
  try simp only [Act.put, List.setIfInBounds_toArray, List.set_cons_zero, List.set_cons_succ]
  refine flow_go (Inv := fun listed ac W => ∃ v2 v3 v8 v9 v10 v11 v12 v19 v22 v23 v26 v27 v28 v29 : Value, ac = { tmps := #[.agg #[.int .i64 kf, .int .i64 kt, .int .i64 kp, .int .i64 kl, .slice a len cap], .pointer (some ⟨w.heap.size, 0, none⟩), v2, v3, .pointer (some ⟨w.heap.size, 4, none⟩), .slice a len cap, .int .i64 len, .int .i64 (20 + len), v8, v9, v10, v11, v12, .pointer (some ⟨w.heap.size, 3, none⟩), .int .i64 kl, .int .u8 kl, .pointer (some ⟨w.heap.size, 2, none⟩), .int .i64 kp, .int .u8 kp, v19, .pointer (some ⟨w.heap.size, 0, none⟩), .int .i64 kf, v22, v23, .pointer (some ⟨w.heap.size, 1, none⟩), .int .i64 kt, v26, v27, v28, v29], defers := [] } ∧ Hid (Below W0.heap.size W0 W) ∧ Fl listed 0 (SlV W n0 v3 2 [69, 0]) ∧ Fl listed 5 (BrV W n0 v8 2 (be (20 + len) 2)) ∧ Fl listed 6 (SlV W n0 v9 2 (be (20 + len) 2)) ∧ Fl listed 7 (SlV W n0 v10 2 [0, 0]) ∧ Fl listed 8 (BrV W n0 v11 2 (be 16384 2)) ∧ Fl listed 9 (SlV W n0 v12 2 (be 16384 2)) ∧ Fl listed 16 (SlV W n0 v19 4 [kl, kp, 0, 0]) ∧ Fl listed 19 (BrV W n0 v22 4 (be kf 4)) ∧ Fl listed 20 (SlV W n0 v23 4 (be kf 4)) ∧ Fl listed 23 (BrV W n0 v26 4 (be kt 4)) ∧ Fl listed 24 (SlV W n0 v27 4 (be kt 4)) ∧ Fl listed 25 (CatV W v28 7 L) ∧ Fl listed 26 (AnyV W n0 v29 L) ∧ Fl listed 27 (AnyV W n0 v2 L)) [0, 5, 6, 7, 8, 9, 16, 19, 20, 23, 24, 25, 26, 27] (by kernel_rfl) (by kernel_rfl) ⟨_, _, _, _, _, _, _, _, _, _, _, _, _, _, rfl, TD, Fl.not (by kernel_rfl), Fl.not (by kernel_rfl), Fl.not (by kernel_rfl), Fl.not (by kernel_rfl), Fl.not (by kernel_rfl), Fl.not (by kernel_rfl), Fl.not (by kernel_rfl), Fl.not (by kernel_rfl), Fl.not (by kernel_rfl), Fl.not (by kernel_rfl), Fl.not (by kernel_rfl), Fl.not (by kernel_rfl), Fl.not (by kernel_rfl), Fl.not (by kernel_rfl)⟩
    (FlowAll.cons [] (by simp only [List.getElem?_toArray, List.getElem?_cons_zero]; exact rfl) (by kernel_rfl) (fun listed ac W hI hu hd K hK => ?_)
      (FlowAll.cons [] (by simp only [List.getElem?_toArray, List.getElem?_cons_zero, List.getElem?_cons_succ]; exact rfl) (by kernel_rfl) (fun listed ac W hI hu hd K hK => ?_)
      (FlowAll.cons [5] (by simp only [List.getElem?_toArray, List.getElem?_cons_zero, List.getElem?_cons_succ]; exact rfl) (by kernel_rfl) (fun listed ac W hI hu hd K hK => ?_)
      (FlowAll.cons [] (by simp only [List.getElem?_toArray, List.getElem?_cons_zero, List.getElem?_cons_succ]; exact rfl) (by kernel_rfl) (fun listed ac W hI hu hd K hK => ?_)
      (FlowAll.cons [] (by simp only [List.getElem?_toArray, List.getElem?_cons_zero, List.getElem?_cons_succ]; exact rfl) (by kernel_rfl) (fun listed ac W hI hu hd K hK => ?_)
      (FlowAll.cons [8] (by simp only [List.getElem?_toArray, List.getElem?_cons_zero, List.getElem?_cons_succ]; exact rfl) (by kernel_rfl) (fun listed ac W hI hu hd K hK => ?_)
      (FlowAll.cons [] (by simp only [List.getElem?_toArray, List.getElem?_cons_zero, List.getElem?_cons_succ]; exact rfl) (by kernel_rfl) (fun listed ac W hI hu hd K hK => ?_)
      (FlowAll.cons [] (by simp only [List.getElem?_toArray, List.getElem?_cons_zero, List.getElem?_cons_succ]; exact rfl) (by kernel_rfl) (fun listed ac W hI hu hd K hK => ?_)
      (FlowAll.cons [19] (by simp only [List.getElem?_toArray, List.getElem?_cons_zero, List.getElem?_cons_succ]; exact rfl) (by kernel_rfl) (fun listed ac W hI hu hd K hK => ?_)
      (FlowAll.cons [] (by simp only [List.getElem?_toArray, List.getElem?_cons_zero, List.getElem?_cons_succ]; exact rfl) (by kernel_rfl) (fun listed ac W hI hu hd K hK => ?_)
      (FlowAll.cons [23] (by simp only [List.getElem?_toArray, List.getElem?_cons_zero, List.getElem?_cons_succ]; exact rfl) (by kernel_rfl) (fun listed ac W hI hu hd K hK => ?_)
      (FlowAll.cons [0, 6, 7, 9, 16, 20, 24] (by simp only [List.getElem?_toArray, List.getElem?_cons_zero, List.getElem?_cons_succ]; exact rfl) (by kernel_rfl) (fun listed ac W hI hu hd K hK => ?_)
      (FlowAll.cons [25] (by simp only [List.getElem?_toArray, List.getElem?_cons_zero, List.getElem?_cons_succ]; exact rfl) (by kernel_rfl) (fun listed ac W hI hu hd K hK => ?_)
      (FlowAll.cons [26] (by simp only [List.getElem?_toArray, List.getElem?_cons_zero, List.getElem?_cons_succ]; exact rfl) (by kernel_rfl) (fun listed ac W hI hu hd K hK => ?_)
      FlowAll.nil))))))))))))))
    (fun listed ac W hI hall => ?_)
  · obtain ⟨v2, v3, v8, v9, v10, v11, v12, v19, v22, v23, v26, v27, v28, v29, rfl, TB, f0, f5, f6, f7, f8, f9, f16, f19, f20, f23, f24, f25, f26, f27⟩ := hI
    have hnW : n0 ≤ W.heap.size := Nat.le_trans hn0 (kSize TB)
    refine want_none (by exact rfl) ?_
    go_wp2_with fail
    have hb : Below W.heap.size W _ := bAlloc W (.cells #[.int .u8 69, .int .u8 0] 5)
    have TB' := kCall hb (kSize TB) TB
    refine hK.out _ _ (SS.out _ TB') ?_
    exact ⟨_, _, _, _, _, _, _, _, _, _, _, _, _, _, rfl, TB', Fl.new (SlV.lit hnW 2 rfl (by intro n hn; simp at hn; omega) (by unfold maxLen; omega) _ rfl), f5.keep (by decide) (BrV.below hb), f6.keep (by decide) (SlV.below hb), f7.keep (by decide) (SlV.below hb), f8.keep (by decide) (BrV.below hb), f9.keep (by decide) (SlV.below hb), f16.keep (by decide) (SlV.below hb), f19.keep (by decide) (BrV.below hb), f20.keep (by decide) (SlV.below hb), f23.keep (by decide) (BrV.below hb), f24.keep (by decide) (SlV.below hb), f25.keep (by decide) (CatV.below hb), f26.keep (by decide) (AnyV.below hb), f27.keep (by decide) (AnyV.below hb)⟩
  · obtain ⟨v2, v3, v8, v9, v10, v11, v12, v19, v22, v23, v26, v27, v28, v29, rfl, TB, f0, f5, f6, f7, f8, f9, f16, f19, f20, f23, f24, f25, f26, f27⟩ := hI
    have hnW : n0 ≤ W.heap.size := Nat.le_trans hn0 (kSize TB)
    refine want_none (by exact rfl) ?_
    go_wp2_with fail
    refine (K0.out _).mono ?_
    intro e w' hp
    obtain ⟨v, rfl, hv, hb0⟩ := BrV.of_packed hp (be_len 2 _) hnW
    go_wp2_with fail
    have hb : Below W.heap.size W _ := hb0
    have TB' := kCall hb (kSize TB) TB
    refine hK.out _ _ (SS.out _ TB') ?_
    exact ⟨_, _, _, _, _, _, _, _, _, _, _, _, _, _, rfl, TB', f0.keep (by decide) (SlV.below hb), Fl.new (hv), f6.keep (by decide) (SlV.below hb), f7.keep (by decide) (SlV.below hb), f8.keep (by decide) (BrV.below hb), f9.keep (by decide) (SlV.below hb), f16.keep (by decide) (SlV.below hb), f19.keep (by decide) (BrV.below hb), f20.keep (by decide) (SlV.below hb), f23.keep (by decide) (BrV.below hb), f24.keep (by decide) (SlV.below hb), f25.keep (by decide) (CatV.below hb), f26.keep (by decide) (AnyV.below hb), f27.keep (by decide) (AnyV.below hb)⟩
  · obtain ⟨v2, v3, v8, v9, v10, v11, v12, v19, v22, v23, v26, v27, v28, v29, rfl, TB, f0, f5, f6, f7, f8, f9, f16, f19, f20, f23, f24, f25, f26, f27⟩ := hI
    have hnW : n0 ≤ W.heap.size := Nat.le_trans hn0 (kSize TB)
    obtain ⟨a8, c8, rfl, o8⟩ := f5.get (hd 5 (by simp))
    refine want_none (by exact rfl) ?_
    go_wp2_with fail
    refine hK.out _ _ (SS.out _ TB) ?_
    exact ⟨_, _, _, _, _, _, _, _, _, _, _, _, _, _, rfl, TB, f0.keep (by decide) id, f5.keep (by decide) id, Fl.new (⟨_, _, rfl, o8⟩), f7.keep (by decide) id, f8.keep (by decide) id, f9.keep (by decide) id, f16.keep (by decide) id, f19.keep (by decide) id, f20.keep (by decide) id, f23.keep (by decide) id, f24.keep (by decide) id, f25.keep (by decide) id, f26.keep (by decide) id, f27.keep (by decide) id⟩
  · obtain ⟨v2, v3, v8, v9, v10, v11, v12, v19, v22, v23, v26, v27, v28, v29, rfl, TB, f0, f5, f6, f7, f8, f9, f16, f19, f20, f23, f24, f25, f26, f27⟩ := hI
    have hnW : n0 ≤ W.heap.size := Nat.le_trans hn0 (kSize TB)
    refine want_none (by exact rfl) ?_
    go_wp2_with fail
    have hb : Below W.heap.size W _ := bAlloc W (.cells #[.int .u8 0, .int .u8 0] 5)
    have TB' := kCall hb (kSize TB) TB
    refine hK.out _ _ (SS.out _ TB') ?_
    exact ⟨_, _, _, _, _, _, _, _, _, _, _, _, _, _, rfl, TB', f0.keep (by decide) (SlV.below hb), f5.keep (by decide) (BrV.below hb), f6.keep (by decide) (SlV.below hb), Fl.new (SlV.lit hnW 2 rfl (by intro n hn; simp at hn; omega) (by unfold maxLen; omega) _ rfl), f8.keep (by decide) (BrV.below hb), f9.keep (by decide) (SlV.below hb), f16.keep (by decide) (SlV.below hb), f19.keep (by decide) (BrV.below hb), f20.keep (by decide) (SlV.below hb), f23.keep (by decide) (BrV.below hb), f24.keep (by decide) (SlV.below hb), f25.keep (by decide) (CatV.below hb), f26.keep (by decide) (AnyV.below hb), f27.keep (by decide) (AnyV.below hb)⟩
  · obtain ⟨v2, v3, v8, v9, v10, v11, v12, v19, v22, v23, v26, v27, v28, v29, rfl, TB, f0, f5, f6, f7, f8, f9, f16, f19, f20, f23, f24, f25, f26, f27⟩ := hI
    have hnW : n0 ≤ W.heap.size := Nat.le_trans hn0 (kSize TB)
    refine want_none (by exact rfl) ?_
    go_wp2_with fail
    refine (K1.out _).mono ?_
    intro e w' hp
    obtain ⟨v, rfl, hv, hb0⟩ := BrV.of_packed hp (be_len 2 _) hnW
    go_wp2_with fail
    have hb : Below W.heap.size W _ := hb0
    have TB' := kCall hb (kSize TB) TB
    refine hK.out _ _ (SS.out _ TB') ?_
    exact ⟨_, _, _, _, _, _, _, _, _, _, _, _, _, _, rfl, TB', f0.keep (by decide) (SlV.below hb), f5.keep (by decide) (BrV.below hb), f6.keep (by decide) (SlV.below hb), f7.keep (by decide) (SlV.below hb), Fl.new (hv), f9.keep (by decide) (SlV.below hb), f16.keep (by decide) (SlV.below hb), f19.keep (by decide) (BrV.below hb), f20.keep (by decide) (SlV.below hb), f23.keep (by decide) (BrV.below hb), f24.keep (by decide) (SlV.below hb), f25.keep (by decide) (CatV.below hb), f26.keep (by decide) (AnyV.below hb), f27.keep (by decide) (AnyV.below hb)⟩
  · obtain ⟨v2, v3, v8, v9, v10, v11, v12, v19, v22, v23, v26, v27, v28, v29, rfl, TB, f0, f5, f6, f7, f8, f9, f16, f19, f20, f23, f24, f25, f26, f27⟩ := hI
    have hnW : n0 ≤ W.heap.size := Nat.le_trans hn0 (kSize TB)
    obtain ⟨a11, c11, rfl, o11⟩ := f8.get (hd 8 (by simp))
    refine want_none (by exact rfl) ?_
    go_wp2_with fail
    refine hK.out _ _ (SS.out _ TB) ?_
    exact ⟨_, _, _, _, _, _, _, _, _, _, _, _, _, _, rfl, TB, f0.keep (by decide) id, f5.keep (by decide) id, f6.keep (by decide) id, f7.keep (by decide) id, f8.keep (by decide) id, Fl.new (⟨_, _, rfl, o11⟩), f16.keep (by decide) id, f19.keep (by decide) id, f20.keep (by decide) id, f23.keep (by decide) id, f24.keep (by decide) id, f25.keep (by decide) id, f26.keep (by decide) id, f27.keep (by decide) id⟩
  · obtain ⟨v2, v3, v8, v9, v10, v11, v12, v19, v22, v23, v26, v27, v28, v29, rfl, TB, f0, f5, f6, f7, f8, f9, f16, f19, f20, f23, f24, f25, f26, f27⟩ := hI
    have hnW : n0 ≤ W.heap.size := Nat.le_trans hn0 (kSize TB)
    refine want_none (by exact rfl) ?_
    go_wp2_with fail
    have hb : Below W.heap.size W _ := bAlloc W (.cells #[.int .u8 kl, .int .u8 kp, .int .u8 0, .int .u8 0] 5)
    have TB' := kCall hb (kSize TB) TB
    refine hK.out _ _ (SS.out _ TB') ?_
    exact ⟨_, _, _, _, _, _, _, _, _, _, _, _, _, _, rfl, TB', f0.keep (by decide) (SlV.below hb), f5.keep (by decide) (BrV.below hb), f6.keep (by decide) (SlV.below hb), f7.keep (by decide) (SlV.below hb), f8.keep (by decide) (BrV.below hb), f9.keep (by decide) (SlV.below hb), Fl.new (SlV.lit hnW 4 rfl (by intro n hn; simp at hn; omega) (by unfold maxLen; omega) _ rfl), f19.keep (by decide) (BrV.below hb), f20.keep (by decide) (SlV.below hb), f23.keep (by decide) (BrV.below hb), f24.keep (by decide) (SlV.below hb), f25.keep (by decide) (CatV.below hb), f26.keep (by decide) (AnyV.below hb), f27.keep (by decide) (AnyV.below hb)⟩
  · obtain ⟨v2, v3, v8, v9, v10, v11, v12, v19, v22, v23, v26, v27, v28, v29, rfl, TB, f0, f5, f6, f7, f8, f9, f16, f19, f20, f23, f24, f25, f26, f27⟩ := hI
    have hnW : n0 ≤ W.heap.size := Nat.le_trans hn0 (kSize TB)
    refine want_none (by exact rfl) ?_
    go_wp2_with fail
    refine (K2.out _).mono ?_
    intro e w' hp
    obtain ⟨v, rfl, hv, hb0⟩ := BrV.of_packed hp (be_len 4 _) hnW
    go_wp2_with fail
    have hb : Below W.heap.size W _ := hb0
    have TB' := kCall hb (kSize TB) TB
    refine hK.out _ _ (SS.out _ TB') ?_
    exact ⟨_, _, _, _, _, _, _, _, _, _, _, _, _, _, rfl, TB', f0.keep (by decide) (SlV.below hb), f5.keep (by decide) (BrV.below hb), f6.keep (by decide) (SlV.below hb), f7.keep (by decide) (SlV.below hb), f8.keep (by decide) (BrV.below hb), f9.keep (by decide) (SlV.below hb), f16.keep (by decide) (SlV.below hb), Fl.new (hv), f20.keep (by decide) (SlV.below hb), f23.keep (by decide) (BrV.below hb), f24.keep (by decide) (SlV.below hb), f25.keep (by decide) (CatV.below hb), f26.keep (by decide) (AnyV.below hb), f27.keep (by decide) (AnyV.below hb)⟩
  · obtain ⟨v2, v3, v8, v9, v10, v11, v12, v19, v22, v23, v26, v27, v28, v29, rfl, TB, f0, f5, f6, f7, f8, f9, f16, f19, f20, f23, f24, f25, f26, f27⟩ := hI
    have hnW : n0 ≤ W.heap.size := Nat.le_trans hn0 (kSize TB)
    obtain ⟨a22, c22, rfl, o22⟩ := f19.get (hd 19 (by simp))
    refine want_none (by exact rfl) ?_
    go_wp2_with fail
    refine hK.out _ _ (SS.out _ TB) ?_
    exact ⟨_, _, _, _, _, _, _, _, _, _, _, _, _, _, rfl, TB, f0.keep (by decide) id, f5.keep (by decide) id, f6.keep (by decide) id, f7.keep (by decide) id, f8.keep (by decide) id, f9.keep (by decide) id, f16.keep (by decide) id, f19.keep (by decide) id, Fl.new (⟨_, _, rfl, o22⟩), f23.keep (by decide) id, f24.keep (by decide) id, f25.keep (by decide) id, f26.keep (by decide) id, f27.keep (by decide) id⟩
  · obtain ⟨v2, v3, v8, v9, v10, v11, v12, v19, v22, v23, v26, v27, v28, v29, rfl, TB, f0, f5, f6, f7, f8, f9, f16, f19, f20, f23, f24, f25, f26, f27⟩ := hI
    have hnW : n0 ≤ W.heap.size := Nat.le_trans hn0 (kSize TB)
    refine want_none (by exact rfl) ?_
    go_wp2_with fail
    refine (K3.out _).mono ?_
    intro e w' hp
    obtain ⟨v, rfl, hv, hb0⟩ := BrV.of_packed hp (be_len 4 _) hnW
    go_wp2_with fail
    have hb : Below W.heap.size W _ := hb0
    have TB' := kCall hb (kSize TB) TB
    refine hK.out _ _ (SS.out _ TB') ?_
    exact ⟨_, _, _, _, _, _, _, _, _, _, _, _, _, _, rfl, TB', f0.keep (by decide) (SlV.below hb), f5.keep (by decide) (BrV.below hb), f6.keep (by decide) (SlV.below hb), f7.keep (by decide) (SlV.below hb), f8.keep (by decide) (BrV.below hb), f9.keep (by decide) (SlV.below hb), f16.keep (by decide) (SlV.below hb), f19.keep (by decide) (BrV.below hb), f20.keep (by decide) (SlV.below hb), Fl.new (hv), f24.keep (by decide) (SlV.below hb), f25.keep (by decide) (CatV.below hb), f26.keep (by decide) (AnyV.below hb), f27.keep (by decide) (AnyV.below hb)⟩
  · obtain ⟨v2, v3, v8, v9, v10, v11, v12, v19, v22, v23, v26, v27, v28, v29, rfl, TB, f0, f5, f6, f7, f8, f9, f16, f19, f20, f23, f24, f25, f26, f27⟩ := hI
    have hnW : n0 ≤ W.heap.size := Nat.le_trans hn0 (kSize TB)
    obtain ⟨a26, c26, rfl, o26⟩ := f23.get (hd 23 (by simp))
    refine want_none (by exact rfl) ?_
    go_wp2_with fail
    refine hK.out _ _ (SS.out _ TB) ?_
    exact ⟨_, _, _, _, _, _, _, _, _, _, _, _, _, _, rfl, TB, f0.keep (by decide) id, f5.keep (by decide) id, f6.keep (by decide) id, f7.keep (by decide) id, f8.keep (by decide) id, f9.keep (by decide) id, f16.keep (by decide) id, f19.keep (by decide) id, f20.keep (by decide) id, f23.keep (by decide) id, Fl.new (⟨_, _, rfl, o26⟩), f25.keep (by decide) id, f26.keep (by decide) id, f27.keep (by decide) id⟩
  · obtain ⟨v2, v3, v8, v9, v10, v11, v12, v19, v22, v23, v26, v27, v28, v29, rfl, TB, f0, f5, f6, f7, f8, f9, f16, f19, f20, f23, f24, f25, f26, f27⟩ := hI
    have hnW : n0 ≤ W.heap.size := Nat.le_trans hn0 (kSize TB)
    obtain ⟨a3, c3, rfl, o3⟩ := f0.get (hd 0 (by simp))
    obtain ⟨a9, c9, rfl, o9⟩ := f6.get (hd 6 (by simp))
    obtain ⟨a10, c10, rfl, o10⟩ := f7.get (hd 7 (by simp))
    obtain ⟨a12, c12, rfl, o12⟩ := f9.get (hd 9 (by simp))
    obtain ⟨a19, c19, rfl, o19⟩ := f16.get (hd 16 (by simp))
    obtain ⟨a23, c23, rfl, o23⟩ := f20.get (hd 20 (by simp))
    obtain ⟨a27, c27, rfl, o27⟩ := f24.get (hd 24 (by simp))
    refine want_none (by exact rfl) ?_
    go_wp2_with fail
    have hb : Below W.heap.size W _ := bAlloc W (.cells #[.slice a3 2 c3, .slice a9 2 c9, .slice a10 2 c10, .slice a12 2 c12, .slice a19 4 c19, .slice a23 4 c23, .slice a27 4 c27] 22)
    have TB' := kCall hb (kSize TB) TB
    refine hK.out _ _ (SS.out _ TB') ?_
    exact ⟨_, _, _, _, _, _, _, _, _, _, _, _, _, _, rfl, TB', f0.keep (by decide) (SlV.below hb), f5.keep (by decide) (BrV.below hb), f6.keep (by decide) (SlV.below hb), f7.keep (by decide) (SlV.below hb), f8.keep (by decide) (BrV.below hb), f9.keep (by decide) (SlV.below hb), f16.keep (by decide) (SlV.below hb), f19.keep (by decide) (BrV.below hb), f20.keep (by decide) (SlV.below hb), f23.keep (by decide) (BrV.below hb), f24.keep (by decide) (SlV.below hb), Fl.new (⟨_, [⟨a3, 2, c3, [69, 0]⟩, ⟨a9, 2, c9, be (20 + len) 2⟩, ⟨a10, 2, c10, [0, 0]⟩, ⟨a12, 2, c12, be 16384 2⟩, ⟨a19, 4, c19, [kl, kp, 0, 0]⟩, ⟨a23, 4, c23, be kf 4⟩, ⟨a27, 4, c27, be kt 4⟩], rfl, rfl, sls_box (Box.new _ _ _) (by intro s hs; simp only [List.mem_cons, List.not_mem_nil, or_false] at hs; rcases hs with rfl | rfl | rfl | rfl | rfl | rfl | rfl; exact o3.rd.below hb; exact o9.rd.below hb; exact o10.rd.below hb; exact o12.rd.below hb; exact o19.rd.below hb; exact o23.rd.below hb; exact o27.rd.below hb), by rw [HL.out]; simp [catZ], by simp only [sumN]; omega⟩), f26.keep (by decide) (AnyV.below hb), f27.keep (by decide) (AnyV.below hb)⟩
  · obtain ⟨v2, v3, v8, v9, v10, v11, v12, v19, v22, v23, v26, v27, v28, v29, rfl, TB, f0, f5, f6, f7, f8, f9, f16, f19, f20, f23, f24, f25, f26, f27⟩ := hI
    have hnW : n0 ≤ W.heap.size := Nat.le_trans hn0 (kSize TB)
    obtain ⟨g, ss, rfl, hs, hS, hZ, hT⟩ := f25.get (hd 25 (by simp))
    refine want_none (by exact rfl) ?_
    go_wp2_with fail
    refine (catV_call hs hS hZ hT).mono ?_
    rintro e w' ⟨a', l', c', rfl, o', hb0⟩
    go_wp2_with fail
    have hb : Below W.heap.size W _ := hb0
    have TB' := kCall hb (kSize TB) TB
    refine hK.out _ _ (SS.out _ TB') ?_
    exact ⟨_, _, _, _, _, _, _, _, _, _, _, _, _, _, rfl, TB', f0.keep (by decide) (SlV.below hb), f5.keep (by decide) (BrV.below hb), f6.keep (by decide) (SlV.below hb), f7.keep (by decide) (SlV.below hb), f8.keep (by decide) (BrV.below hb), f9.keep (by decide) (SlV.below hb), f16.keep (by decide) (SlV.below hb), f19.keep (by decide) (BrV.below hb), f20.keep (by decide) (SlV.below hb), f23.keep (by decide) (BrV.below hb), f24.keep (by decide) (SlV.below hb), f25.keep (by decide) (CatV.below hb), Fl.new (⟨_, _, _, rfl, o'.rebase hnW⟩), f27.keep (by decide) (AnyV.below hb)⟩
  · obtain ⟨v2, v3, v8, v9, v10, v11, v12, v19, v22, v23, v26, v27, v28, v29, rfl, TB, f0, f5, f6, f7, f8, f9, f16, f19, f20, f23, f24, f25, f26, f27⟩ := hI
    have hnW : n0 ≤ W.heap.size := Nat.le_trans hn0 (kSize TB)
    obtain ⟨a29, l29, c29, rfl, o29⟩ := f26.get (hd 26 (by simp))
    refine want_none (by exact rfl) ?_
    go_wp2_with fail
    refine hK.out _ _ (SS.out _ TB) ?_
    exact ⟨_, _, _, _, _, _, _, _, _, _, _, _, _, _, rfl, TB, f0.keep (by decide) id, f5.keep (by decide) id, f6.keep (by decide) id, f7.keep (by decide) id, f8.keep (by decide) id, f9.keep (by decide) id, f16.keep (by decide) id, f19.keep (by decide) id, f20.keep (by decide) id, f23.keep (by decide) id, f24.keep (by decide) id, f25.keep (by decide) id, f26.keep (by decide) id, Fl.new (⟨_, _, _, rfl, o29⟩)⟩
  · obtain ⟨v2, v3, v8, v9, v10, v11, v12, v19, v22, v23, v26, v27, v28, v29, rfl, TB, f0, f5, f6, f7, f8, f9, f16, f19, f20, f23, f24, f25, f26, f27⟩ := hI
    have hnW : n0 ≤ W.heap.size := Nat.le_trans hn0 (kSize TB)
    obtain ⟨a2, l2, c2, rfl, o2⟩ := f27.get (hall 27 (by decide))
    have O2 := Lib.hid (show Own W w.heap.size a2 l2 c2 L by rw [← hnn.out]; exact o2)
    have B2 := Lib.hid (B0.out.trans (TB.out.mono B0.out.size))
    clear o2 f0 f5 f6 f7 f8 f9 f16 f19 f20 f23 f24 f25 f26 f27 TB hall
    go_wp2
    go_ret
    exact ⟨a2, l2, c2, rfl, O2.out, B2.out⟩
end Go.Proofs.Ytgjkbaplfbiomaa

namespace Go.Proofs.Ytgjkbaplfbiomaa
open Go.ChangeShapes Go.WideShapes Go.ChangeAt Go.RowKit

theorem equal_any (a : Option Addr) (len cap : Nat) (zs : List Int) (a' : Option Addr) (len' cap' : Nat) (zs' : List Int) (w : World) (hr : Rd w a len cap zs) (hr' : Rd w a' len' cap' zs') :
    Calls Try.prog 79 #[.slice a len cap, .slice a' len' cap'] w fun e w' => e = .returned (.bool (eqL zs zs')) ∧ w = w' := by
  have c1 := conv_rd hr
  have c2 := conv_rd hr'
  by_cases h3 : zs = zs'
  · subst h3
    have H : Hid (eqL zs zs = true) := by simp [Hid, eqL]
    clear hr hr'
    generalize strOfNums zs = s at *
    go_enter Try.func79, Try.ntmps79
    go_wp2
    go_ret
    exact ⟨ret_b H.out.symm, rfl⟩
  · have H : Hid (eqL zs zs' = false) := by simp [Hid, eqL, h3]
    have h5 := str_ne hr.b8 hr'.b8 h3
    clear hr hr' h3
    generalize strOfNums zs = s at *
    generalize strOfNums zs' = s' at *
    go_enter Try.func79, Try.ntmps79
    go_wp2
    go_ret
    exact ⟨ret_b H.out.symm, rfl⟩

end Go.Proofs.Ytgjkbaplfbiomaa

namespace Go.Proofs.Ytgjkbaplfbiomaa
open Go.ChangeShapes Go.WideShapes Go.ChangeAt Go.RowKit

/-- a number is below its bounds, above them, or in them -/
theorem in_cases (k a b : Int) : (inB k a b = false ∧ k < a) ∨ (inB k a b = false ∧ ¬ k < a ∧ b < k) ∨ (inB k a b = true ∧ ¬ k < a ∧ ¬ b < k) := by
  by_cases h1 : k < a
  · exact .inl ⟨in_f (by omega), h1⟩
  · by_cases h2 : b < k
    · exact .inr (.inl ⟨in_f (by omega), h1, h2⟩)
    · exact .inr (.inr ⟨in_t (by omega), h1, h2⟩)

set_option maxHeartbeats 2000000 in
theorem implPacketFault (kf kt kp kl : Int) (a : Option Addr) (len cap : Nat) (w : World) :
    Calls Try.prog 26 #[.agg #[.int .i64 kf, .int .i64 kt, .int .i64 kp, .int .i64 kl, .slice a len cap]] w fun e w' => e = .returned (.int .i64 (packC kf kt kp kl len)) ∧ Below w.heap.size w w' := by
  have H : Hid (packC kf kt kp kl len = if ipB kf && ipB kt && inB kp 0 255 && inB kl 1 255 then (if len ≤ 560 then 0 else 2) else 3) := rfl
  generalize packC kf kt kp kl len = c at *
  cases m0 : ipB kf
  case' true => cases m1 : ipB kt
  case' true.true => rcases in_cases kp 0 255 with ⟨m2, q2⟩ | ⟨m2, q2, r2⟩ | ⟨m2, q2, r2⟩
  case' true.true.inr.inr => rcases in_cases kl 1 255 with ⟨m3, q3⟩ | ⟨m3, q3, r3⟩ | ⟨m3, q3, r3⟩
  case' true.true.inr.inr.inr.inr => rcases Nat.lt_or_ge 560 len with hl | hl
  case' true.true.inr.inr.inr.inr.inl => have hl' : ¬ len ≤ 560 := Nat.not_le.2 hl
  case' true.true.inr.inr.inr.inr.inr => have hl' : len ≤ 560 := hl
  all_goals
    have HC := Lib.hid (show c = _ from H.out)
    simp only [*, Bool.and_true, Bool.and_false, Bool.false_and, if_true, if_false, Bool.false_eq_true] at HC
    try clear m2
    try clear m3
    clear H
    go_enter Try.func26, Try.ntmps26
    go_wp2_with (go_at_call 80; refine (isIp_any _ _).mono ?_; rintro e w' ⟨rfl, rfl⟩)
    go_ret
    exact ⟨ret_i HC.out.symm, (Below.refl _ _).alloc (Nat.le_refl _) _⟩

theorem packetFault_law (kf kt kp kl : Int) (a : Option Addr) (len cap : Nat) (zs : List Int) (w : World) (hr : Rd w a len cap zs) :
    Calls Try.prog 4 #[.agg #[.int .i64 kf, .int .i64 kt, .int .i64 kp, .int .i64 kl, .slice a len cap]] w fun e w' => e = .returned (.bool true) ∧ Below w.heap.size w w' :=
  exactPacketFault kf kt kp kl a len cap zs w hr (packC kf kt kp kl zs.length) (fun a' l' c' W h => by rw [h.length]; exact specPacketFault kf kt kp kl a' l' c' W) (fun a' l' c' W h => by rw [h.length]; exact implPacketFault kf kt kp kl a' l' c' W)

set_option maxHeartbeats 2000000 in
theorem implEchoFault (er : Bool) (ei es : Int) (a : Option Addr) (len cap : Nat) (w : World) :
    Calls Try.prog 27 #[.agg #[.bool er, .int .i64 ei, .int .i64 es, .slice a len cap]] w fun e w' => e = .returned (.int .i64 (echoC ei es len)) ∧ Below w.heap.size w w' := by
  have H : Hid (echoC ei es len = if inB ei 0 65535 && inB es 0 65535 then (if len ≤ 552 then 0 else 2) else 3) := rfl
  generalize echoC ei es len = c at *
  rcases in_cases ei 0 65535 with ⟨m2, q2⟩ | ⟨m2, q2, r2⟩ | ⟨m2, q2, r2⟩
  case' inr.inr => rcases in_cases es 0 65535 with ⟨m3, q3⟩ | ⟨m3, q3, r3⟩ | ⟨m3, q3, r3⟩
  case' inr.inr.inr.inr => rcases Nat.lt_or_ge 552 len with hl | hl
  case' inr.inr.inr.inr.inl => have hl' : ¬ len ≤ 552 := Nat.not_le.2 hl
  case' inr.inr.inr.inr.inr => have hl' : len ≤ 552 := hl
  all_goals
    have HC := Lib.hid (show c = _ from H.out)
    simp only [*, Bool.and_true, Bool.and_false, Bool.false_and, if_true, if_false, Bool.false_eq_true] at HC
    clear m2
    try clear m3
    clear H
    go_enter Try.func27, Try.ntmps27
    go_wp2
    go_ret
    exact ⟨ret_i HC.out.symm, (Below.refl _ _).alloc (Nat.le_refl _) _⟩

theorem echoFault_law (er : Bool) (ei es : Int) (a : Option Addr) (len cap : Nat) (zs : List Int) (w : World) (hr : Rd w a len cap zs) :
    Calls Try.prog 7 #[.agg #[.bool er, .int .i64 ei, .int .i64 es, .slice a len cap]] w fun e w' => e = .returned (.bool true) ∧ Below w.heap.size w w' :=
  exactEchoFault er ei es a len cap zs w hr (echoC ei es zs.length) (fun a' l' c' W h => by rw [h.length]; exact specEchoFault er ei es a' l' c' W) (fun a' l' c' W h => by rw [h.length]; exact implEchoFault er ei es a' l' c' W)

set_option maxHeartbeats 1000000 in
theorem implSamePackets (kf kt kp kl : Int) (a : Option Addr) (len cap : Nat) (zs : List Int) (kf' kt' kp' kl' : Int) (a' : Option Addr) (len' cap' : Nat) (zs' : List Int) (w : World) (hr : Rd w a len cap zs) (hr' : Rd w a' len' cap' zs') :
    Calls Try.prog 23 #[.agg #[.int .i64 kf, .int .i64 kt, .int .i64 kp, .int .i64 kl, .slice a len cap], .agg #[.int .i64 kf', .int .i64 kt', .int .i64 kp', .int .i64 kl', .slice a' len' cap']] w fun e w' => e = .returned (.bool (sameP kf kt kp kl zs kf' kt' kp' kl' zs')) ∧ Below w.heap.size w w' := by
  have B0 := Lib.hid (((Below.refl w.heap.size w).alloc (Nat.le_refl _) (.cells #[.int .i64 kf, .int .i64 kt, .int .i64 kp, .int .i64 kl, .slice a len cap] 25)).alloc (by simp) (.cells #[.int .i64 kf', .int .i64 kt', .int .i64 kp', .int .i64 kl', .slice a' len' cap'] 25))
  have K := Lib.hid (fun W (hW : Below w.heap.size w W) => equal_any a len cap zs a' len' cap' zs' W (hr.below hW) (hr'.below hW))
  have H : Hid (sameP kf kt kp kl zs kf' kt' kp' kl' zs' = ((kf == kf') && (kt == kt') && (kp == kp') && (kl == kl') && eqL zs zs')) := rfl
  clear hr hr'
  generalize sameP kf kt kp kl zs kf' kt' kp' kl' zs' = v at *
  generalize eqL zs zs' = q at *
  cases m0 : (kf == kf')
  case' true => cases m1 : (kt == kt')
  case' true.true => cases m2 : (kp == kp')
  case' true.true.true => cases m3 : (kl == kl')
  all_goals
    go_enter Try.func23, Try.ntmps23
    go_wp2_with (go_at_call 79; refine (K.out _ B0.out).mono ?_; rintro e w' ⟨rfl, rfl⟩)
    go_ret
    exact ⟨ret_b (by rw [H.out]; simp [*]), B0.out⟩

theorem samePackets_law (kf kt kp kl : Int) (a : Option Addr) (len cap : Nat) (zs : List Int) (kf' kt' kp' kl' : Int) (a' : Option Addr) (len' cap' : Nat) (zs' : List Int) (w : World) (hr : Rd w a len cap zs) (hr' : Rd w a' len' cap' zs') :
    Calls Try.prog 10 #[.agg #[.int .i64 kf, .int .i64 kt, .int .i64 kp, .int .i64 kl, .slice a len cap], .agg #[.int .i64 kf', .int .i64 kt', .int .i64 kp', .int .i64 kl', .slice a' len' cap']] w fun e w' => e = .returned (.bool true) ∧ Below w.heap.size w w' :=
  exactSamePackets kf kt kp kl a len cap zs kf' kt' kp' kl' a' len' cap' zs' w hr hr' (sameP kf kt kp kl zs kf' kt' kp' kl' zs') (fun b l c b' l' c' W h h' => specSamePackets kf kt kp kl b l c zs kf' kt' kp' kl' b' l' c' zs' W h h') (fun b l c b' l' c' W h h' => implSamePackets kf kt kp kl b l c zs kf' kt' kp' kl' b' l' c' zs' W h h')
end Go.Proofs.Ytgjkbaplfbiomaa

namespace Go.Proofs.Ytgjkbaplfbiomaa
open Go.ChangeShapes Go.WideShapes Go.ChangeAt Go.RowKit

set_option maxRecDepth 20000 in
set_option maxHeartbeats 2000000 in
theorem implPackPacket_ok (kf kt kp kl : Int) (a : Option Addr) (len cap : Nat) (zs : List Int) (w : World) (hr : Rd w a len cap zs) (hk : packC kf kt kp kl len = 0) :
    Calls Try.prog 13 #[.agg #[.int .i64 kf, .int .i64 kt, .int .i64 kp, .int .i64 kl, .slice a len cap]] w (Packed w 0 (packL kf kt kp kl zs)) := by
  obtain ⟨h0, h1, h2, h3, h4⟩ := packC_parts hk
  have S := Lib.hid (fun W => implPacketFault kf kt kp kl a len cap W)
  rw [hk] at S
  have KH := Lib.hid (fun W => packetHead_any kf kt kp kl a len cap W h0 h1 h2 ⟨by omega, h3.2⟩ h4)
  have HR := Lib.hid hr
  obtain ⟨L, hL⟩ : ∃ L, L = packL kf kt kp kl zs := ⟨_, rfl⟩
  have hlen := packH_len kf kt kp kl len
  have HL : Hid (L = sealB (packH kf kt kp kl len) 10 ++ zs) := by rw [hL, packL, hr.length]; rfl
  rw [← hL]
  have KS := Lib.hid (fun (s : Option Addr) (l c : Nat) (W : World) (hR : Rd W s l c (packH kf kt kp kl len)) => show Calls Try.prog 54 #[.slice s l c, .int .i64 10] W (Packed W 0 (sealB (packH kf kt kp kl len) 10)) from implSeal_ok s l c 10 _ W hR (by have := hR.length; omega) (by have := hR.length; omega) (by omega))
  have EL := Lib.hid (show (sealB (packH kf kt kp kl len) 10).length = 20 by rw [sealB_len]; exact hlen)
  have B0 := Lib.hid (((Below.refl w.heap.size w).alloc (Nat.le_refl _) (.cells #[.int .i64 kf, .int .i64 kt, .int .i64 kp, .int .i64 kl, .slice a len cap] 25)).alloc (by simp) (.cells #[.int .i64 0, .slice none 0 0] 28))
  have X0 := Lib.hid ((Box.new w 25 #[.int .i64 kf, .int .i64 kt, .int .i64 kp, .int .i64 kl, .slice a len cap]).alloc (.cells #[.int .i64 0, .slice none 0 0] 28))
  have R0 := Lib.hid (Box.new (w.alloc (.cells #[.int .i64 kf, .int .i64 kt, .int .i64 kp, .int .i64 kl, .slice a len cap] 25)) 28 #[.int .i64 0, .slice none 0 0])
  simp only [World.size_alloc] at R0
  clear hL h0 h1 h2 h3 hr hk hlen
  generalize packH kf kt kp kl len = LH at *
  generalize sealB LH 10 = LS at *
  go_enter Try.func13, Try.ntmps13
  go_wp2_with fail
  refine (S.out _).mono ?_
  rintro e w1 ⟨rfl, b1⟩
  have X1 := Lib.hid (X0.out.below b1 X0.out.lt)
  have R1 := Lib.hid (R0.out.below b1 R0.out.lt)
  have B1 := Lib.hid (B0.out.trans (b1.mono B0.out.size))
  clear b1 X0 R0 B0 S
  obtain ⟨_, x0, x1, x2, x3, x4⟩ := X1.out.five
  go_wp2_with fail
  refine (KH.out _).mono ?_
  rintro e w2 ⟨a2, l2, c2, rfl, o2, b2⟩
  have X2 := Lib.hid (X1.out.below b2 X1.out.lt)
  have R2 := Lib.hid (R1.out.below b2 R1.out.lt)
  have B2 := Lib.hid (B1.out.trans (b2.mono B1.out.size))
  have O2 := Lib.hid o2
  clear b2 o2 X1 R1 B1 KH x0 x1 x2 x3 x4
  go_wp2_with fail
  refine (KS.out _ _ _ _ O2.out.rd).mono ?_
  rintro e w3 ⟨a3, l3, c3, rfl, o3, b3⟩
  obtain rfl : l3 = 20 := o3.length.symm.trans EL.out
  have X3 := Lib.hid ((X2.out.below b3 X2.out.lt).alloc (.cells #[.int .i64 0, .slice a3 20 c3] 28))
  have R3 := Lib.hid ((R2.out.below b3 R2.out.lt).alloc (.cells #[.int .i64 0, .slice a3 20 c3] 28))
  have B3' := B2.out.trans (b3.mono B2.out.size)
  have B3 := Lib.hid (B3'.alloc B3'.size (.cells #[.int .i64 0, .slice a3 20 c3] 28))
  have Y3 := Lib.hid (Box.new w3 28 #[.int .i64 0, .slice a3 20 c3])
  have O3 := Lib.hid (o3.alloc (.cells #[.int .i64 0, .slice a3 20 c3] 28))
  clear b3 o3 X2 R2 B2 B3' O2 KS
  generalize hW3 : w3.alloc (.cells #[.int .i64 0, .slice a3 20 c3] 28) = W3 at *
  obtain ⟨_, x0, x1, x2, x3, x4⟩ := X3.out.five
  obtain ⟨_, y0, y1⟩ := Y3.out.two
  go_wp2_with fail
  clear hW3
  refine (concat2 _ _ _ _ _ _ _ _ _ _ _ (Box.new _ _ _) (O3.out.rd.alloc _) ((HR.out.below B3.out).alloc _) (by omega)).mono ?_
  rintro e w4 ⟨a4, l4, c4, rfl, o4, b4⟩
  have R4 := (R3.out.alloc _).below b4 (R3.out.alloc _).lt
  obtain ⟨r0, r1, r2⟩ := R4.two
  have f0 := R4.frozen 0
  have f1 := R4.frozen 1
  have hs3 := B3.out.size
  have hr3 := R3.out.lt
  have B4 := Lib.hid ((B3.out.alloc hs3 (.cells #[.slice a3 20 c3, .slice a len cap] 22)).trans (b4.mono (by simp; omega)))
  have hn : Hid (∀ x, a4 = some x → ¬ x.block = w.heap.size + 1) := fun x hx e => by
    have := (o4.lt x hx).1
    simp at this
    omega
  have O4 : Hid (Own w4 w.heap.size a4 l4 c4 L) := by rw [HL.out]; exact o4.rebase (by simp; omega)
  clear o4 b4 O3 R3 B3 X3 Y3 R4 hs3 hr3 x0 x1 x2 x3 x4 y0 y1
  go_wp2
  refine bodyPost_ret (v := .agg #[.int .i64 0, .slice a4 l4 c4]) (by simp [results, Try.results13, go_sem, r1, r2]) rfl ⟨_, _, _, rfl, ?_, (B4.out.setCell (by simp) _).setCell (by simp) _⟩
  exact (O4.out.setOther _ _ hn.out).setOther _ _ hn.out

set_option maxHeartbeats 1000000 in
theorem implPackPacket (kf kt kp kl : Int) (a : Option Addr) (len cap : Nat) (zs : List Int) (w : World) (hr : Rd w a len cap zs) :
    Calls Try.prog 13 #[.agg #[.int .i64 kf, .int .i64 kt, .int .i64 kp, .int .i64 kl, .slice a len cap]] w (Packed w (packC kf kt kp kl zs.length) (packP kf kt kp kl zs)) := by
  rw [hr.length]
  by_cases hk : packC kf kt kp kl len = 0
  · have hp : packP kf kt kp kl zs = packL kf kt kp kl zs := by unfold packP; rw [hr.length, if_pos hk]
    rw [hk, hp]
    exact implPackPacket_ok kf kt kp kl a len cap zs w hr hk
  · have hp : packP kf kt kp kl zs = [] := by unfold packP; rw [hr.length, if_neg hk]
    have hne : (packC kf kt kp kl len != 0) = true := by simpa using hk
    have S := Lib.hid (fun W => implPacketFault kf kt kp kl a len cap W)
    have B0 := Lib.hid (((Below.refl w.heap.size w).alloc (Nat.le_refl _) (.cells #[.int .i64 kf, .int .i64 kt, .int .i64 kp, .int .i64 kl, .slice a len cap] 25)).alloc (by simp) (.cells #[.int .i64 0, .slice none 0 0] 28))
    have R0 := Lib.hid (Box.new (w.alloc (.cells #[.int .i64 kf, .int .i64 kt, .int .i64 kp, .int .i64 kl, .slice a len cap] 25)) 28 #[.int .i64 0, .slice none 0 0])
    rw [hp]
    clear hk hp hr
    generalize packC kf kt kp kl len = c at *
    go_enter Try.func13, Try.ntmps13
    go_wp2_with fail
    refine (S.out _).mono ?_
    rintro e w1 ⟨rfl, b1⟩
    have R1 := R0.out.below b1 R0.out.lt
    simp only [World.size_alloc] at R1
    obtain ⟨z2, r20, r21⟩ := R1.two
    have f0 := R1.frozen 0
    have f1 := R1.frozen 1
    have B1 := Lib.hid (B0.out.trans (b1.mono B0.out.size))
    clear b1 R0 B0 R1
    go_wp2
    exact bodyPost_ret (v := .agg #[.int .i64 c, .slice none 0 0]) (by simp [results, Try.results13, go_sem, r20, r21]) rfl ⟨none, 0, 0, rfl, Own.nil _ _, (B1.out.setCell (by simp) _).setCell (by simp) _⟩

theorem packPacket_law (kf kt kp kl : Int) (a : Option Addr) (len cap : Nat) (zs : List Int) (w : World) (hr : Rd w a len cap zs) :
    Calls Try.prog 5 #[.agg #[.int .i64 kf, .int .i64 kt, .int .i64 kp, .int .i64 kl, .slice a len cap]] w fun e w' => e = .returned (.bool true) ∧ Below w.heap.size w w' :=
  exactPackPacket kf kt kp kl a len cap zs w hr (packC kf kt kp kl zs.length) (packP kf kt kp kl zs) (packP_len kf kt kp kl zs) (fun a' l' c' W h => specPackPacket kf kt kp kl a' l' c' zs W h) (fun a' l' c' W h => implPackPacket kf kt kp kl a' l' c' zs W h)
end Go.Proofs.Ytgjkbaplfbiomaa
