/-
  PackPacket of the program, and its law.
-/
import Derived.Test.YtgjkbaplfbiomaaP3Head
import Derived.Test.YtgjkbaplfbiomaaP3Flt
import Derived.Test.YtgjkbaplfbiomaaSealS
namespace Go.Proofs.Ytgjkbaplfbiomaa
open Go.ChangeShapes Go.WideShapes Go.ChangeAt Go.RowKit

set_option maxRecDepth 20000 in
set_option maxHeartbeats 2000000 in
theorem implPackPacket_ok (kf kt kp kl : Int) (a : Option Addr) (len cap : Nat) (zs : List Int) (w : World) (hr : Rd w a len cap zs) (hk : packC kf kt kp kl len = 0) :
    Calls Try.prog 13 #[.agg #[.int .i64 kf, .int .i64 kt, .int .i64 kp, .int .i64 kl, .slice a len cap]] w (Packed w 0 (packL kf kt kp kl zs)) := by
  obtain ⟨h0, h1, h2, h3, h4⟩ := packC_parts hk
  have S := Lib.hid (fun W => implPacketFault kf kt kp kl a len cap W)
  rw [hk] at S
  have KH := Lib.hid (fun W => packetHead_any kf kt kp kl a len cap W h0 h1 h2 ⟨by omega, h3.2⟩ h4)
  have HR := Lib.hid hr
  obtain ⟨L, hL⟩ : ∃ L, L = packL kf kt kp kl zs := ⟨_, rfl⟩
  have hlen := packH_len kf kt kp kl len
  have HL : Hid (L = sealB (packH kf kt kp kl len) 10 ++ zs) := by rw [hL, packL, hr.length]; rfl
  rw [← hL]
  have KS := Lib.hid (fun (s : Option Addr) (l c : Nat) (W : World) (hR : Rd W s l c (packH kf kt kp kl len)) => show Calls Try.prog 54 #[.slice s l c, .int .i64 10] W (Packed W 0 (sealB (packH kf kt kp kl len) 10)) from implSeal_ok s l c 10 _ W hR (by have := hR.length; omega) (by have := hR.length; omega) (by omega))
  have EL := Lib.hid (show (sealB (packH kf kt kp kl len) 10).length = 20 by rw [sealB_len]; exact hlen)
  have B0 := Lib.hid (((Below.refl w.heap.size w).alloc (Nat.le_refl _) (.cells #[.int .i64 kf, .int .i64 kt, .int .i64 kp, .int .i64 kl, .slice a len cap] 25)).alloc (by simp) (.cells #[.int .i64 0, .slice none 0 0] 28))
  have X0 := Lib.hid ((Box.new w 25 #[.int .i64 kf, .int .i64 kt, .int .i64 kp, .int .i64 kl, .slice a len cap]).alloc (.cells #[.int .i64 0, .slice none 0 0] 28))
  have R0 := Lib.hid (Box.new (w.alloc (.cells #[.int .i64 kf, .int .i64 kt, .int .i64 kp, .int .i64 kl, .slice a len cap] 25)) 28 #[.int .i64 0, .slice none 0 0])
  simp only [World.size_alloc] at R0
  clear hL h0 h1 h2 h3 hr hk hlen
  generalize packH kf kt kp kl len = LH at *
  generalize sealB LH 10 = LS at *
  go_enter Try.func13, Try.ntmps13
  go_wp2_with fail
  refine (S.out _).mono ?_
  rintro e w1 ⟨rfl, b1⟩
  have X1 := Lib.hid (X0.out.below b1 X0.out.lt)
  have R1 := Lib.hid (R0.out.below b1 R0.out.lt)
  have B1 := Lib.hid (B0.out.trans (b1.mono B0.out.size))
  clear b1 X0 R0 B0 S
  obtain ⟨_, x0, x1, x2, x3, x4⟩ := X1.out.five
  go_wp2_with fail
  refine (KH.out _).mono ?_
  rintro e w2 ⟨a2, l2, c2, rfl, o2, b2⟩
  have X2 := Lib.hid (X1.out.below b2 X1.out.lt)
  have R2 := Lib.hid (R1.out.below b2 R1.out.lt)
  have B2 := Lib.hid (B1.out.trans (b2.mono B1.out.size))
  have O2 := Lib.hid o2
  clear b2 o2 X1 R1 B1 KH x0 x1 x2 x3 x4
  go_wp2_with fail
  refine (KS.out _ _ _ _ O2.out.rd).mono ?_
  rintro e w3 ⟨a3, l3, c3, rfl, o3, b3⟩
  obtain rfl : l3 = 20 := o3.length.symm.trans EL.out
  have X3 := Lib.hid ((X2.out.below b3 X2.out.lt).alloc (.cells #[.int .i64 0, .slice a3 20 c3] 28))
  have R3 := Lib.hid ((R2.out.below b3 R2.out.lt).alloc (.cells #[.int .i64 0, .slice a3 20 c3] 28))
  have B3' := B2.out.trans (b3.mono B2.out.size)
  have B3 := Lib.hid (B3'.alloc B3'.size (.cells #[.int .i64 0, .slice a3 20 c3] 28))
  have Y3 := Lib.hid (Box.new w3 28 #[.int .i64 0, .slice a3 20 c3])
  have O3 := Lib.hid (o3.alloc (.cells #[.int .i64 0, .slice a3 20 c3] 28))
  clear b3 o3 X2 R2 B2 B3' O2 KS
  generalize hW3 : w3.alloc (.cells #[.int .i64 0, .slice a3 20 c3] 28) = W3 at *
  obtain ⟨_, x0, x1, x2, x3, x4⟩ := X3.out.five
  obtain ⟨_, y0, y1⟩ := Y3.out.two
  go_wp2_with fail
  clear hW3
  refine (concat2 _ _ _ _ _ _ _ _ _ _ _ (Box.new _ _ _) (O3.out.rd.alloc _) ((HR.out.below B3.out).alloc _) (by omega)).mono ?_
  rintro e w4 ⟨a4, l4, c4, rfl, o4, b4⟩
  have R4 := (R3.out.alloc _).below b4 (R3.out.alloc _).lt
  obtain ⟨r0, r1, r2⟩ := R4.two
  have f0 := R4.frozen 0
  have f1 := R4.frozen 1
  have hs3 := B3.out.size
  have hr3 := R3.out.lt
  have B4 := Lib.hid ((B3.out.alloc hs3 (.cells #[.slice a3 20 c3, .slice a len cap] 22)).trans (b4.mono (by simp; omega)))
  have hn : Hid (∀ x, a4 = some x → ¬ x.block = w.heap.size + 1) := fun x hx e => by
    have := (o4.lt x hx).1
    simp at this
    omega
  have O4 : Hid (Own w4 w.heap.size a4 l4 c4 L) := by rw [HL.out]; exact o4.rebase (by simp; omega)
  clear o4 b4 O3 R3 B3 X3 Y3 R4 hs3 hr3 x0 x1 x2 x3 x4 y0 y1
  go_wp2
  refine bodyPost_ret (v := .agg #[.int .i64 0, .slice a4 l4 c4]) (by simp [results, Try.results13, go_sem, r1, r2]) rfl ⟨_, _, _, rfl, ?_, (B4.out.setCell (by simp) _).setCell (by simp) _⟩
  exact (O4.out.setOther _ _ hn.out).setOther _ _ hn.out

set_option maxHeartbeats 1000000 in
theorem implPackPacket (kf kt kp kl : Int) (a : Option Addr) (len cap : Nat) (zs : List Int) (w : World) (hr : Rd w a len cap zs) :
    Calls Try.prog 13 #[.agg #[.int .i64 kf, .int .i64 kt, .int .i64 kp, .int .i64 kl, .slice a len cap]] w (Packed w (packC kf kt kp kl zs.length) (packP kf kt kp kl zs)) := by
  rw [hr.length]
  by_cases hk : packC kf kt kp kl len = 0
  · have hp : packP kf kt kp kl zs = packL kf kt kp kl zs := by unfold packP; rw [hr.length, if_pos hk]
    rw [hk, hp]
    exact implPackPacket_ok kf kt kp kl a len cap zs w hr hk
  · have hp : packP kf kt kp kl zs = [] := by unfold packP; rw [hr.length, if_neg hk]
    have hne : (packC kf kt kp kl len != 0) = true := by simpa using hk
    have S := Lib.hid (fun W => implPacketFault kf kt kp kl a len cap W)
    have B0 := Lib.hid (((Below.refl w.heap.size w).alloc (Nat.le_refl _) (.cells #[.int .i64 kf, .int .i64 kt, .int .i64 kp, .int .i64 kl, .slice a len cap] 25)).alloc (by simp) (.cells #[.int .i64 0, .slice none 0 0] 28))
    have R0 := Lib.hid (Box.new (w.alloc (.cells #[.int .i64 kf, .int .i64 kt, .int .i64 kp, .int .i64 kl, .slice a len cap] 25)) 28 #[.int .i64 0, .slice none 0 0])
    rw [hp]
    clear hk hp hr
    generalize packC kf kt kp kl len = c at *
    go_enter Try.func13, Try.ntmps13
    go_wp2_with fail
    refine (S.out _).mono ?_
    rintro e w1 ⟨rfl, b1⟩
    have R1 := R0.out.below b1 R0.out.lt
    simp only [World.size_alloc] at R1
    obtain ⟨z2, r20, r21⟩ := R1.two
    have f0 := R1.frozen 0
    have f1 := R1.frozen 1
    have B1 := Lib.hid (B0.out.trans (b1.mono B0.out.size))
    clear b1 R0 B0 R1
    go_wp2
    exact bodyPost_ret (v := .agg #[.int .i64 c, .slice none 0 0]) (by simp [results, Try.results13, go_sem, r20, r21]) rfl ⟨none, 0, 0, rfl, Own.nil _ _, (B1.out.setCell (by simp) _).setCell (by simp) _⟩

theorem packPacket_law (kf kt kp kl : Int) (a : Option Addr) (len cap : Nat) (zs : List Int) (w : World) (hr : Rd w a len cap zs) :
    Calls Try.prog 5 #[.agg #[.int .i64 kf, .int .i64 kt, .int .i64 kp, .int .i64 kl, .slice a len cap]] w fun e w' => e = .returned (.bool true) ∧ Below w.heap.size w w' :=
  exactPackPacket kf kt kp kl a len cap zs w hr (packC kf kt kp kl zs.length) (packP kf kt kp kl zs) (packP_len kf kt kp kl zs) (fun a' l' c' W h => specPackPacket kf kt kp kl a' l' c' zs W h) (fun a' l' c' W h => implPackPacket kf kt kp kl a' l' c' zs W h)
end Go.Proofs.Ytgjkbaplfbiomaa
