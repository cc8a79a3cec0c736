/-
  The exact law of SamePieces.
-/
import Derived.Test.YtlmglepphjpohaaP6S
import Derived.Test.YtlmglepphjpohaaP6X
namespace Go.Proofs.Ytlmglepphjpohaa
open Go.ChangeShapes Go.WideShapes Go.ChangeAt Go.RowKit

theorem eqV_vals {ps qs ps' qs' : List Pm} (h : vals ps = vals ps') (h' : vals qs = vals qs') : eqV ps qs = eqV ps' qs' := by unfold eqV; rw [h, h']
set_option maxHeartbeats 2000000 in
theorem exactSamePieces (a : Option Addr) (len cap : Nat) (ps : List Pm) (a' : Option Addr) (len' cap' : Nat) (ps' : List Pm) (w : World) (h : Pl w a len cap ps) (h' : Pl w a' len' cap' ps') :
    Calls Try.prog 10 #[.slice a len cap, .slice a' len' cap'] w fun e w' => e = .returned (.bool true) ∧ Below w.heap.size w w' := by
  by_cases hs : len + sumL ps ≤ 1048576
  · have hd := sum_le hs
    have hl : len ≤ 1048576 := by omega
    have Z := Lib.hid (szPieceS_t a len cap ps 1048576 w h hs (by omega))
    have hn : ¬ ((1048576 - (len + sumL ps) : Nat) : Int) < 0 := by omega
    by_cases hs' : len' + sumL ps' ≤ 1048576 - (len + sumL ps)
    · have hd' := sum_le (m := 1048576) (show len' + sumL ps' ≤ 1048576 by omega)
      have hl' : len' ≤ 1048576 := by omega
      have Z' := Lib.hid (fun W (hW : Below w.heap.size w W) => szPieceS_t a' len' cap' ps' (1048576 - (len + sumL ps)) W (h'.below hW) hs' (by omega))
      have hn' : ¬ ((1048576 - (len + sumL ps) - (len' + sumL ps') : Nat) : Int) < 0 := by omega
      have T := Lib.hid (fun W (hW : Below w.heap.size w W) => toPieceS_any a len cap ps W (h.below hW) hl hd)
      have T' := Lib.hid (fun W (hW : Below w.heap.size w W) => toPieceS_any a' len' cap' ps' W (h'.below hW) hl' hd')
      clear h h' hs hs' hd hd'
      generalize 1048576 - (len + sumL ps) = r at *
      generalize r - (len' + sumL ps') = r' at *
      obtain ⟨Q, hQ⟩ : ∃ Q, Q = eqV ps ps' := ⟨_, rfl⟩
      have HQ := Lib.hid hQ
      clear hQ
      have hne : (Q != Q) = false := by simp
      go_enter Try.func10, Try.ntmps10
      go_wp2_with fail
      refine Z.out.mono ?_
      rintro e w1 ⟨rfl, b1⟩
      have B1 := Lib.hid b1
      clear b1 Z
      go_wp2_with fail
      refine (Z'.out _ B1.out).mono ?_
      rintro e w1' ⟨rfl, b1'⟩
      have B1' := Lib.hid (B1.out.trans (b1'.mono B1.out.size))
      clear b1' B1 Z'
      go_wp2_with fail
      refine (T.out _ B1'.out).mono ?_
      rintro e w2 ⟨a2, c2, qs2, rfl, p2, v2, b2⟩
      have B2 := Lib.hid (B1'.out.trans (b2.mono B1'.out.size))
      have P2 := Lib.hid p2.pl
      have V2 := Lib.hid v2
      clear b2 B1' p2 v2
      go_wp2_with fail
      refine (T'.out _ B2.out).mono ?_
      rintro e w3 ⟨a3, c3, qs3, rfl, p3, v3, b3⟩
      have B3 := Lib.hid (B2.out.trans (b3.mono B2.out.size))
      have K3 := specSamePieces a2 a3 len c2 len' c3 qs2 qs3 w3 (P2.out.below b3) p3.pl
      rw [eqV_vals V2.out v3, ← HQ.out] at K3
      have KK3 := Lib.hid K3
      clear b3 B2 p3 v3 K3 P2 V2
      go_wp2_with fail
      refine KK3.out.mono ?_
      rintro e w4 ⟨rfl, b4⟩
      have B4 := Lib.hid (B3.out.trans (b4.mono B3.out.size))
      clear b4 KK3 B3
      go_wp2_with fail
      refine (T.out _ B4.out).mono ?_
      rintro e w5 ⟨a5, c5, qs5, rfl, p5, v5, b5⟩
      have B5 := Lib.hid (B4.out.trans (b5.mono B4.out.size))
      have P5 := Lib.hid p5.pl
      have V5 := Lib.hid v5
      clear b5 B4 p5 v5
      go_wp2_with fail
      refine (T'.out _ B5.out).mono ?_
      rintro e w6 ⟨a6, c6, qs6, rfl, p6, v6, b6⟩
      have B6 := Lib.hid (B5.out.trans (b6.mono B5.out.size))
      have P6 := Lib.hid p6.pl
      have V6 := Lib.hid v6
      have O6 := Lib.hid (P5.out.below b6)
      clear b6 B5 p6 v6 P5
      have K6 := implSamePieces a5 a6 len c5 len' c6 qs5 qs6 w6 O6.out P6.out
      rw [eqV_vals V5.out V6.out, ← HQ.out] at K6
      have KK6 := Lib.hid K6
      clear K6
      go_wp2_with fail
      refine KK6.out.mono ?_
      rintro e w7 ⟨rfl, b7⟩
      have B7 := Lib.hid (B6.out.trans (b7.mono B6.out.size))
      have O7 := Lib.hid (O6.out.below b7)
      have P7 := Lib.hid (P6.out.below b7)
      clear b7 KK6 B6 O6 P6
      go_wp2_with fail
      refine (T.out _ B7.out).mono ?_
      rintro e w8 ⟨a8, c8, qs8, rfl, p8, v8, b8⟩
      have B8 := Lib.hid (B7.out.trans (b8.mono B7.out.size))
      have K8 := eqPieceS_any a5 a8 len c5 len c8 qs5 qs8 w8 (O7.out.below b8) p8.pl
      rw [eqV_refl (V5.out.trans v8.symm)] at K8
      have KK8 := Lib.hid K8
      have P8 := Lib.hid (P7.out.below b8)
      clear b8 B7 p8 v8 K8 O7 P7
      go_wp2_with fail
      refine KK8.out.mono ?_
      rintro e w9 ⟨rfl, b9⟩
      have B9 := Lib.hid (B8.out.trans (b9.mono B8.out.size))
      have P9 := Lib.hid (P8.out.below b9)
      clear b9 KK8 B8 P8
      go_wp2_with fail
      refine (T'.out _ B9.out).mono ?_
      rintro e w10 ⟨a10, c10, qs10, rfl, p10, v10, b10⟩
      have B10 := Lib.hid (B9.out.trans (b10.mono B9.out.size))
      have K10 := eqPieceS_any a6 a10 len' c6 len' c10 qs6 qs10 w10 (P9.out.below b10) p10.pl
      rw [eqV_refl (V6.out.trans v10.symm)] at K10
      have KK10 := Lib.hid K10
      clear b10 B9 p10 v10 K10 P9
      go_wp2_with fail
      refine KK10.out.mono ?_
      rintro e w11 ⟨rfl, b11⟩
      have B11 := Lib.hid (B10.out.trans (b11.mono B10.out.size))
      clear b11 KK10 B10
      go_wp2
      go_ret
      exact ⟨rfl, B11.out⟩
    · have Z' := Lib.hid (fun W (hW : Below w.heap.size w W) => szPieceS_f a' len' cap' ps' (1048576 - (len + sumL ps)) W (h'.below hW) hs' (by omega))
      clear h h' hs hs'
      generalize 1048576 - (len + sumL ps) = r at *
      go_enter Try.func10, Try.ntmps10
      go_wp2_with fail
      refine Z.out.mono ?_
      rintro e w1 ⟨rfl, b1⟩
      have B1 := Lib.hid b1
      clear b1 Z
      go_wp2_with fail
      refine (Z'.out _ B1.out).mono ?_
      rintro e w1' ⟨rfl, b1'⟩
      have B1' := Lib.hid (B1.out.trans (b1'.mono B1.out.size))
      clear b1' B1 Z'
      go_wp2
      go_ret
      exact ⟨rfl, B1'.out⟩
  · have Z := Lib.hid (szPieceS_f a len cap ps 1048576 w h hs (by omega))
    clear h hs
    go_enter Try.func10, Try.ntmps10
    go_wp2_with fail
    refine Z.out.mono ?_
    rintro e w1 ⟨rfl, b1⟩
    have B1 := Lib.hid b1
    clear b1 Z
    go_wp2
    go_ret
    exact ⟨rfl, B1.out⟩
end Go.Proofs.Ytlmglepphjpohaa
