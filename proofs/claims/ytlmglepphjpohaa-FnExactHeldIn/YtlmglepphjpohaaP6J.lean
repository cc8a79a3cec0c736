/-
  The exact law of HeldIn.
-/
import Derived.Test.YtlmglepphjpohaaP6I
namespace Go.Proofs.Ytlmglepphjpohaa
open Go.ChangeShapes Go.WideShapes Go.ChangeAt Go.RowKit

set_option maxHeartbeats 2000000 in
theorem exactHeld (a : Option Addr) (len cap : Nat) (ps : List Pm) (w : World) (h : Pl w a len cap ps) :
    Calls Try.prog 8 #[.slice a len cap] w fun e w' => e = .returned (.bool true) ∧ Below w.heap.size w w' := by
  by_cases hs : len + sumL ps ≤ 1048576
  · have hd := sum_le hs
    have hl : len ≤ 1048576 := by omega
    have Z := Lib.hid (szPieceS_t a len cap ps 1048576 w h hs (by omega))
    have T := Lib.hid (fun W (hW : Below w.heap.size w W) => toPieceS_any a len cap ps W (h.below hW) hl hd)
    have LV := Lib.hid (fun W a' c' (qs : List Pm) (h' : Pl W a' len c' qs) (hv : vals qs = vals ps) => len_of_vals h h' hv hd)
    have hn : ¬ ((1048576 - (len + sumL ps) : Nat) : Int) < 0 := by omega
    generalize hv : vals ps = vs at *
    clear h hs hd hv
    obtain ⟨C, hC⟩ : ∃ C, C = pfV vs := ⟨_, rfl⟩
    obtain ⟨V, hV⟩ : ∃ V, V = hvV vs := ⟨_, rfl⟩
    have HC := Lib.hid hC
    have HV := Lib.hid hV
    clear hC hV
    generalize 1048576 - (len + sumL ps) = r at *
    go_enter Try.func8, Try.ntmps8
    go_wp2_with fail
    refine Z.out.mono ?_
    rintro e w1 ⟨rfl, b1⟩
    have B1 := Lib.hid b1
    clear b1 Z
    go_wp2_with fail
    refine (T.out _ B1.out).mono ?_
    rintro e w2 ⟨a2, c2, qs2, rfl, p2, v2, b2⟩
    have B2 := Lib.hid (B1.out.trans (b2.mono B1.out.size))
    have K2 := specHeldIn a2 len c2 qs2 w2 p2.pl (LV.out _ _ _ _ p2.pl v2)
    rw [v2, ← HC.out, ← HV.out] at K2
    have KK2 := Lib.hid K2
    clear b2 B1 p2 v2 K2
    go_wp2_with fail
    refine KK2.out.mono ?_
    rintro e w3 ⟨rfl, b3⟩
    have B3 := Lib.hid ((B2.out.trans (b3.mono B2.out.size)).alloc (Nat.le_trans B2.out.size b3.size) (.cells #[.int .i64 C, .int .i64 V] 37))
    have X3 := Lib.hid (Box.new w3 37 #[.int .i64 C, .int .i64 V])
    clear b3 KK2 B2
    go_wp2_with fail
    refine (T.out _ B3.out).mono ?_
    rintro e w4 ⟨a4, c4, qs4, rfl, p4, v4, b4⟩
    have B4 := Lib.hid (B3.out.trans (b4.mono B3.out.size))
    have X4 := Lib.hid (X3.out.below b4 X3.out.lt)
    have K4 := implHeldIn a4 len c4 qs4 w4 p4.pl (LV.out _ _ _ _ p4.pl v4)
    rw [v4, ← HC.out, ← HV.out] at K4
    have KK4 := Lib.hid K4
    have P4 := Lib.hid p4.pl
    have V4 := Lib.hid v4
    clear b4 B3 X3 p4 v4 K4
    go_wp2_with fail
    refine KK4.out.mono ?_
    rintro e w5 ⟨rfl, b5⟩
    have B5 := Lib.hid ((B4.out.trans (b5.mono B4.out.size)).alloc (Nat.le_trans B4.out.size b5.size) (.cells #[.int .i64 C, .int .i64 V] 37))
    have X5 := X4.out.below b5 X4.out.lt
    obtain ⟨zz, x0, x1⟩ := X5.two
    have P5 := Lib.hid ((P4.out.below b5).alloc (.cells #[.int .i64 C, .int .i64 V] 37))
    clear b5 KK4 B4 P4 X5 X4
    go_wp2_with fail
    refine (eqInt_t C V _).mono ?_
    rintro e w5b ⟨rfl, b5b⟩
    have B5b := Lib.hid (B5.out.trans (b5b.mono B5.out.size))
    have P5b := Lib.hid (P5.out.below b5b)
    clear b5b B5 P5
    go_wp2_with fail
    refine (T.out _ B5b.out).mono ?_
    rintro e w6 ⟨a6, c6, qs6, rfl, p6, v6, b6⟩
    have B6 := Lib.hid (B5b.out.trans (b6.mono B5b.out.size))
    have K6 := eqPieceS_any a4 a6 len c4 len c6 qs4 qs6 w6 (P5b.out.below b6) p6.pl
    rw [eqV_refl (V4.out.trans v6.symm)] at K6
    have KK6 := Lib.hid K6
    clear b6 B5b p6 v6 K6 P5b
    go_wp2_with fail
    refine KK6.out.mono ?_
    rintro e w7 ⟨rfl, b7⟩
    have B7 := Lib.hid (B6.out.trans (b7.mono B6.out.size))
    clear b7 KK6 B6
    go_wp2
    go_ret
    exact ⟨rfl, B7.out⟩
  · have Z := Lib.hid (szPieceS_f a len cap ps 1048576 w h hs (by omega))
    clear h hs
    go_enter Try.func8, Try.ntmps8
    go_wp2_with fail
    refine Z.out.mono ?_
    rintro e w1 ⟨rfl, b1⟩
    have B1 := Lib.hid b1
    clear b1 Z
    go_wp2
    go_ret
    exact ⟨rfl, B1.out⟩
end Go.Proofs.Ytlmglepphjpohaa
