/-
  The exact law of TakeReady.
-/
import Derived.Test.YtimlobhlcmghfaaP6L
import Derived.Test.YtimlobhlcmghfaaP6G
import Derived.Test.YtimlobhlcmghfaaP6X
namespace Go.Proofs.Ytimlobhlcmghfaa
open Go.ChangeShapes Go.WideShapes Go.ChangeAt Go.RowKit

set_option maxHeartbeats 4000000 in
theorem exactTakeReady (a0 : Option Addr) (len0 cap0 : Nat) (ps0 : List Pm) (w : World) (h0 : Pl w a0 len0 cap0 ps0) :
    Calls Try.prog 6 #[.slice a0 len0 cap0] w fun e w' => e = .returned (.bool true) ∧ Below w.heap.size w w' := by
  by_cases hs0 : len0 + sumL ps0 ≤ 1048576
  case neg =>
    have Z := Lib.hid (szPieceS_f a0 len0 cap0 ps0 1048576 w h0 hs0 (by omega))
    clear h0 hs0
    go_enter Try.func6, Try.ntmps6
    go_wp2_with fail
    refine Z.out.mono ?_
    rintro e w1 ⟨rfl, b1⟩
    have B1 := Lib.hid b1
    clear b1 Z
    go_wp2
    go_ret
    exact ⟨rfl, B1.out⟩
  have hd0 := sum_le hs0
  have hl0 : len0 ≤ 1048576 := by omega
  have Z0 := Lib.hid (szPieceS_t a0 len0 cap0 ps0 1048576 w h0 hs0 (by omega))
  have T0 := Lib.hid (fun W (hW : Below w.heap.size w W) => toPieceS_any a0 len0 cap0 ps0 W (h0.below hW) hl0 hd0)
  have LV0 := Lib.hid (fun W a' c' (qs : List Pm) (h' : Pl W a' len0 c' qs) (hv : vals qs = vals ps0) => len_of_vals h0 h' hv hd0)
  have SZ0 := Lib.hid (fun W a' c' (qs : List Pm) (h' : Pl W a' len0 c' qs) (hv : vals qs = vals ps0) => (show szP qs ≤ 1048576 from by rw [szP_vals h', hv, ← szP_vals h0]; unfold szP; rw [h0.lb.length]; exact hs0))
  have hn0 : ¬ ((1048576 - (len0 + sumL ps0) : Nat) : Int) < 0 := by omega
  have HB := Lib.hid (tr_bound (vals ps0) (by rw [← szP_vals h0]; unfold szP; rw [h0.lb.length]; exact hs0))
  obtain ⟨C, hC⟩ : ∃ C, C = pfV (vals ps0) := ⟨_, rfl⟩
  obtain ⟨V, hV⟩ : ∃ V, V = trL (vals ps0) := ⟨_, rfl⟩
  obtain ⟨Z, hZ⟩ : ∃ Z, Z = trR (vals ps0) := ⟨_, rfl⟩
  rw [← hV, ← hZ] at HB
  have Kspec := Lib.hid (show ∀ (W : World) (y0 : Option Addr) (n0 : Nat) (qs0 : List Pm) (g0 : Pl W y0 len0 n0 qs0) (v0 : vals qs0 = vals ps0), Calls Try.prog 22 #[.slice y0 len0 n0] W (PrOut W C V Z) from fun W y0 n0 qs0 g0 v0 => by
    have q := specTakeReady y0 len0 n0 qs0 W g0 (LV0.out _ _ _ _ g0 v0)
    rw [v0] at q
    rw [hC, hV, hZ]
    exact q)
  have Kimpl := Lib.hid (show ∀ (W : World) (y0 : Option Addr) (n0 : Nat) (qs0 : List Pm) (g0 : Pl W y0 len0 n0 qs0) (v0 : vals qs0 = vals ps0), Calls Try.prog 18 #[.slice y0 len0 n0] W (PrOut W C V Z) from fun W y0 n0 qs0 g0 v0 => by
    have q := implTakeReady y0 len0 n0 qs0 W g0 (LV0.out _ _ _ _ g0 v0)
    rw [v0] at q
    rw [hC, hV, hZ]
    exact q)
  clear h0 hC hV hZ hd0
  generalize 1048576 - (len0 + sumL ps0) = r0 at *
  go_enter Try.func6, Try.ntmps6
  have B0 := Lib.hid (Below.refl w.heap.size w)
  go_wp2_with fail
  refine Z0.out.mono ?_
  rintro e w1 ⟨rfl, b1⟩
  have S1 := Lib.hid b1.size
  have B1 := Lib.hid (B0.out.trans (b1.mono B0.out.size))
  clear b1 B0
  clear Z0
  go_wp2_with fail
  refine (T0.out _ B1.out).mono ?_
  rintro e w2 ⟨as0, cs0, qss0, rfl, p1, v1, b1⟩
  have Vs0 := Lib.hid v1
  have Ps0_2 := Lib.hid p1
  clear p1 v1
  have S2 := Lib.hid b1.size
  have B2 := Lib.hid (B1.out.trans (b1.mono B1.out.size))
  clear b1 B1
  go_wp2_with fail
  refine (Kspec.out _ as0 cs0 qss0 Ps0_2.out.pl Vs0.out).mono ?_
  rintro e w3 ⟨aw, lw, cw, psw, bw, lbw, cbw, rfl, p1, v1, b1⟩
  have Vw := Lib.hid v1
  have Rw3 := Lib.hid p1
  clear p1 v1
  have S3 := Lib.hid b1.size
  have B3 := Lib.hid (B2.out.trans (b1.mono B2.out.size))
  have Ps0_3 := Lib.hid (Ps0_2.out.below b1)
  clear b1 B2 Ps0_2
  have S4 := Lib.hid (show w3.heap.size < (w3.alloc (.cells #[.int .i64 C, .slice aw lw cw, .slice bw lbw cbw] 28)).heap.size by simp)
  have B4 := Lib.hid (B3.out.alloc B3.out.size (.cells #[.int .i64 C, .slice aw lw cw, .slice bw lbw cbw] 28))
  have Ps0_4 := Lib.hid (Ps0_3.out.below ((Below.refl _ w3).alloc (Nat.le_refl _) (.cells #[.int .i64 C, .slice aw lw cw, .slice bw lbw cbw] 28)))
  have Rw4 := Lib.hid (Rw3.out.below ((Below.refl _ w3).alloc (Nat.le_refl _) (.cells #[.int .i64 C, .slice aw lw cw, .slice bw lbw cbw] 28)))
  have Xw4 := Lib.hid (Box.new w3 28 #[.int .i64 C, .slice aw lw cw, .slice bw lbw cbw])
  clear B3 Ps0_3 Rw3
  clear Ps0_4
  go_wp2_with fail
  generalize w3.alloc (.cells #[.int .i64 C, .slice aw lw cw, .slice bw lbw cbw] 28) = w4 at *
  refine (T0.out _ B4.out).mono ?_
  rintro e w5 ⟨ax0, cx0, qsx0, rfl, p1, v1, b1⟩
  have Vx0 := Lib.hid v1
  have Px0_5 := Lib.hid p1
  clear p1 v1
  have S5 := Lib.hid b1.size
  have B5 := Lib.hid (B4.out.trans (b1.mono B4.out.size))
  have Rw5 := Lib.hid (Rw4.out.below b1)
  have Xw5 := Lib.hid (Xw4.out.below b1 Xw4.out.lt)
  clear b1 B4 Rw4 Xw4
  go_wp2_with fail
  refine (Kimpl.out _ ax0 cx0 qsx0 Px0_5.out.pl Vx0.out).mono ?_
  rintro e w6 ⟨ag, lg, cg, psg, bg, lbg, cbg, rfl, p1, v1, b1⟩
  have Vg := Lib.hid v1
  have Rg6 := Lib.hid p1
  clear p1 v1
  have S6 := Lib.hid b1.size
  have B6 := Lib.hid (B5.out.trans (b1.mono B5.out.size))
  have Rw6 := Lib.hid (Rw5.out.below b1)
  have Xw6 := Lib.hid (Xw5.out.below b1 Xw5.out.lt)
  have Px0_6 := Lib.hid (Px0_5.out.below b1)
  clear b1 B5 Rw5 Xw5 Px0_5
  obtain ⟨Xwz, Xwc0, Xwc1, Xwc2⟩ := Xw6.out.three
  have S7 := Lib.hid (show w6.heap.size < (w6.alloc (.cells #[.int .i64 C, .slice ag lg cg, .slice bg lbg cbg] 28)).heap.size by simp)
  have B7 := Lib.hid (B6.out.alloc B6.out.size (.cells #[.int .i64 C, .slice ag lg cg, .slice bg lbg cbg] 28))
  have Rw7 := Lib.hid (Rw6.out.below ((Below.refl _ w6).alloc (Nat.le_refl _) (.cells #[.int .i64 C, .slice ag lg cg, .slice bg lbg cbg] 28)))
  have Xw7 := Lib.hid (Xw6.out.alloc (.cells #[.int .i64 C, .slice ag lg cg, .slice bg lbg cbg] 28))
  have Px0_7 := Lib.hid (Px0_6.out.below ((Below.refl _ w6).alloc (Nat.le_refl _) (.cells #[.int .i64 C, .slice ag lg cg, .slice bg lbg cbg] 28)))
  have Rg7 := Lib.hid (Rg6.out.below ((Below.refl _ w6).alloc (Nat.le_refl _) (.cells #[.int .i64 C, .slice ag lg cg, .slice bg lbg cbg] 28)))
  have Xg7 := Lib.hid (Box.new w6 28 #[.int .i64 C, .slice ag lg cg, .slice bg lbg cbg])
  clear B6 Rw6 Xw6 Px0_6 Rg6
  go_wp2_with fail
  clear Xwz Xwc0 Xwc1 Xwc2
  generalize w6.alloc (.cells #[.int .i64 C, .slice ag lg cg, .slice bg lbg cbg] 28) = w7 at *
  refine (eqPieces_t C _ _ _ _ _ _ psg psw _ _ _ _ _ _ Z _ Rg7.out.pl.pl Rw7.out.pl.pl (Vg.out.trans Vw.out.symm) Rg7.out.own.rd Rw7.out.own.rd).mono ?_
  rintro e w8 ⟨rfl, b1⟩
  have S8 := Lib.hid b1.size
  have B8 := Lib.hid (B7.out.trans (b1.mono B7.out.size))
  have Rw8 := Lib.hid (Rw7.out.below b1)
  have Xw8 := Lib.hid (Xw7.out.below b1 Xw7.out.lt)
  have Px0_8 := Lib.hid (Px0_7.out.below b1)
  have Rg8 := Lib.hid (Rg7.out.below b1)
  have Xg8 := Lib.hid (Xg7.out.below b1 Xg7.out.lt)
  clear b1 B7 Rw7 Xw7 Px0_7 Rg7 Xg7
  go_wp2_with fail
  refine (T0.out _ B8.out).mono ?_
  rintro e w9 ⟨ay0, cy0, qsy0, rfl, p1, v1, b1⟩
  have Vy0 := Lib.hid v1
  have Py0_9 := Lib.hid p1
  clear p1 v1
  have S9 := Lib.hid b1.size
  have B9 := Lib.hid (B8.out.trans (b1.mono B8.out.size))
  have Rw9 := Lib.hid (Rw8.out.below b1)
  have Xw9 := Lib.hid (Xw8.out.below b1 Xw8.out.lt)
  have Px0_9 := Lib.hid (Px0_8.out.below b1)
  have Rg9 := Lib.hid (Rg8.out.below b1)
  have Xg9 := Lib.hid (Xg8.out.below b1 Xg8.out.lt)
  clear b1 B8 Rw8 Xw8 Px0_8 Rg8 Xg8
  go_wp2_with fail
  have KE := eqPieceS_any ax0 ay0 len0 cx0 len0 cy0 qsx0 qsy0 _ Px0_9.out.pl Py0_9.out.pl
  rw [eqV_refl (Vx0.out.trans Vy0.out.symm)] at KE
  refine KE.mono ?_
  clear KE
  rintro e w10 ⟨rfl, b1⟩
  have S10 := Lib.hid b1.size
  have B10 := Lib.hid (B9.out.trans (b1.mono B9.out.size))
  have Rw10 := Lib.hid (Rw9.out.below b1)
  have Xw10 := Lib.hid (Xw9.out.below b1 Xw9.out.lt)
  have Px0_10 := Lib.hid (Px0_9.out.below b1)
  have Rg10 := Lib.hid (Rg9.out.below b1)
  have Xg10 := Lib.hid (Xg9.out.below b1 Xg9.out.lt)
  have Py0_10 := Lib.hid (Py0_9.out.below b1)
  clear b1 B9 Rw9 Xw9 Px0_9 Rg9 Xg9 Py0_9
  clear Py0_10
  have hk0 : szP qsx0 ≤ 1048576 := SZ0.out _ _ _ _ Px0_10.out.pl Vx0.out
  have MK := Lib.hid (markPieceS_any _ _ ax0 len0 cx0 1 qsx0 _ Px0_10.out (by omega) (by omega))
  obtain ⟨M0, hM0⟩ : ∃ M, M = 1 + szP qsx0 := ⟨_, rfl⟩
  rw [← hM0] at MK
  have hMb0 : M0 ≤ 1048577 := by omega
  clear hM0 hk0
  go_wp2_with fail
  refine MK.out.mono ?_
  clear MK
  rintro e w11 ⟨rfl, p1, t1, n1⟩
  clear n1 p1
  have S11 := Lib.hid t1.size
  have B11 := Lib.hid (B10.out.trans ((t1.mono (lo' := w.heap.size) (by have q0 := S1.out; have q1 := S2.out; have q2 := S3.out; have q3 := S4.out; have q4 := S5.out; have q5 := S6.out; have q6 := S7.out; have q7 := S8.out; have q8 := S9.out; have q9 := S10.out; have q10 := S11.out; omega) (Nat.le_refl _)).below B10.out.size))
  have Rw11 := Lib.hid (Rw10.out.turn t1 (.inl (by have q0 := S1.out; have q1 := S2.out; have q2 := S3.out; have q3 := S4.out; have q4 := S5.out; have q5 := S6.out; have q6 := S7.out; have q7 := S8.out; have q8 := S9.out; have q9 := S10.out; have q10 := S11.out; omega)))
  have Xw11 := Lib.hid (show Box w11 _ _ _ from (t1.block _ Xw10.out.lt (.inl (by have q0 := S1.out; have q1 := S2.out; have q2 := S3.out; have q3 := S4.out; have q4 := S5.out; have q5 := S6.out; have q6 := S7.out; have q7 := S8.out; have q8 := S9.out; have q9 := S10.out; have q10 := S11.out; omega))).trans Xw10.out)
  have Rg11 := Lib.hid (Rg10.out.turn t1 (.inr (by have q0 := S1.out; have q1 := S2.out; have q2 := S3.out; have q3 := S4.out; have q4 := S5.out; have q5 := S6.out; have q6 := S7.out; have q7 := S8.out; have q8 := S9.out; have q9 := S10.out; have q10 := S11.out; omega)))
  have Xg11 := Lib.hid (show Box w11 _ _ _ from (t1.block _ Xg10.out.lt (.inr (by have q0 := S1.out; have q1 := S2.out; have q2 := S3.out; have q3 := S4.out; have q4 := S5.out; have q5 := S6.out; have q6 := S7.out; have q7 := S8.out; have q8 := S9.out; have q9 := S10.out; have q10 := S11.out; omega))).trans Xg10.out)
  clear t1 B10 Rw10 Xw10 Px0_10 Rg10 Xg10
  have hnM : ¬ ((M0 : Nat) : Int) < 0 := by omega
  obtain ⟨_, Xgc0, Xgc1, Xgc2⟩ := Xg11.out.three
  obtain ⟨_, Xwc0, Xwc1, Xwc2⟩ := Xw11.out.three
  go_wp2_with fail
  clear Xgc0 Xgc1 Xgc2
  clear Xwc0 Xwc1 Xwc2
  refine (eqPieces_t C _ _ _ _ _ _ psg psw _ _ _ _ _ _ Z _ Rg11.out.pl.pl Rw11.out.pl.pl (Vg.out.trans Vw.out.symm) Rg11.out.own.rd Rw11.out.own.rd).mono ?_
  rintro e w12 ⟨rfl, b1⟩
  have S12 := Lib.hid b1.size
  have B12 := Lib.hid (B11.out.trans (b1.mono B11.out.size))
  have Rw12 := Lib.hid (Rw11.out.below b1)
  have Xw12 := Lib.hid (Xw11.out.below b1 Xw11.out.lt)
  have Rg12 := Lib.hid (Rg11.out.below b1)
  have Xg12 := Lib.hid (Xg11.out.below b1 Xg11.out.lt)
  clear b1 B11 Rw11 Xw11 Rg11 Xg11
  have hsg : szP psg ≤ 2097152 := by rw [szP_vals Rg12.out.pl.pl, Vg.out]; exact HB.out.1
  have hlg : lbg ≤ 2097152 := by rw [← Rg12.out.own.length]; exact HB.out.2
  have MK := Lib.hid (markPieces_any w5.heap.size w6.heap.size C ag lg cg 1 psg bg lbg cbg Z w12 Rg12.out (by have q0 := S1.out; have q1 := S2.out; have q2 := S3.out; have q3 := S4.out; have q4 := S5.out; have q5 := S6.out; have q6 := S7.out; have q7 := S8.out; have q8 := S9.out; have q9 := S10.out; have q10 := S11.out; have q11 := S12.out; omega) hsg hlg (by omega))
  have HK := Lib.hid (fun W (h : Pl W ag lg cg (markP 1 psg)) (hr : Rd W bg lbg cbg (marks (1 + szP psg) lbg)) => heldPieces_any C ag lg cg 1 psg bg lbg cbg W h hr hsg hlg (by omega))
  generalize 1 + szP psg + lbg = N at MK HK
  have hnN : ¬ ((N : Nat) : Int) < 0 := by omega
  have hneN : (((N : Nat) : Int) != ((N : Nat) : Int)) = false := by simp
  obtain ⟨_, Xgc0, Xgc1, Xgc2⟩ := Xg12.out.three
  go_wp2_with fail
  clear Xgc0 Xgc1 Xgc2
  refine MK.out.mono ?_
  clear MK
  rintro e w13 ⟨rfl, p1, t1⟩
  have Rg13 := Lib.hid p1
  clear p1
  have S13 := Lib.hid t1.size
  have B13 := Lib.hid (B12.out.trans ((t1.mono (lo' := w.heap.size) (by have q0 := S1.out; have q1 := S2.out; have q2 := S3.out; have q3 := S4.out; have q4 := S5.out; have q5 := S6.out; have q6 := S7.out; have q7 := S8.out; have q8 := S9.out; have q9 := S10.out; have q10 := S11.out; have q11 := S12.out; have q12 := S13.out; omega) (Nat.le_refl _)).below B12.out.size))
  have Rw13 := Lib.hid (Rw12.out.turn t1 (.inl (by have q0 := S1.out; have q1 := S2.out; have q2 := S3.out; have q3 := S4.out; have q4 := S5.out; have q5 := S6.out; have q6 := S7.out; have q7 := S8.out; have q8 := S9.out; have q9 := S10.out; have q10 := S11.out; have q11 := S12.out; have q12 := S13.out; omega)))
  have Xw13 := Lib.hid (show Box w13 _ _ _ from (t1.block _ Xw12.out.lt (.inl (by have q0 := S1.out; have q1 := S2.out; have q2 := S3.out; have q3 := S4.out; have q4 := S5.out; have q5 := S6.out; have q6 := S7.out; have q7 := S8.out; have q8 := S9.out; have q9 := S10.out; have q10 := S11.out; have q11 := S12.out; have q12 := S13.out; omega))).trans Xw12.out)
  have Xg13 := Lib.hid (show Box w13 _ _ _ from (t1.block _ Xg12.out.lt (.inr (by have q0 := S1.out; have q1 := S2.out; have q2 := S3.out; have q3 := S4.out; have q4 := S5.out; have q5 := S6.out; have q6 := S7.out; have q7 := S8.out; have q8 := S9.out; have q9 := S10.out; have q10 := S11.out; have q11 := S12.out; have q12 := S13.out; omega))).trans Xg12.out)
  clear t1 B12 Rw12 Xw12 Rg12 Xg12
  obtain ⟨_, Xgc0, Xgc1, Xgc2⟩ := Xg13.out.three
  go_wp2_with fail
  clear Xgc0 Xgc1 Xgc2
  refine (HK.out _ Rg13.out.pl.pl Rg13.out.own.rd).mono ?_
  rintro e w14 ⟨rfl, b1⟩
  have S14 := Lib.hid b1.size
  have B14 := Lib.hid (B13.out.trans (b1.mono B13.out.size))
  have Rw14 := Lib.hid (Rw13.out.below b1)
  have Xw14 := Lib.hid (Xw13.out.below b1 Xw13.out.lt)
  have Rg14 := Lib.hid (Rg13.out.below b1)
  have Xg14 := Lib.hid (Xg13.out.below b1 Xg13.out.lt)
  clear b1 B13 Rw13 Xw13 Rg13 Xg13
  go_wp2_with fail
  refine (T0.out _ B14.out).mono ?_
  rintro e w15 ⟨az0, cz0, qsz0, rfl, p1, v1, b1⟩
  have Vz0 := Lib.hid v1
  have Pz0_15 := Lib.hid p1
  clear p1 v1
  have S15 := Lib.hid b1.size
  have B15 := Lib.hid (B14.out.trans (b1.mono B14.out.size))
  have Rw15 := Lib.hid (Rw14.out.below b1)
  have Xw15 := Lib.hid (Xw14.out.below b1 Xw14.out.lt)
  have Rg15 := Lib.hid (Rg14.out.below b1)
  have Xg15 := Lib.hid (Xg14.out.below b1 Xg14.out.lt)
  clear b1 B14 Rw14 Xw14 Rg14 Xg14
  go_wp2_with fail
  refine (Kimpl.out _ az0 cz0 qsz0 Pz0_15.out.pl Vz0.out).mono ?_
  rintro e w16 ⟨ah, lh, ch, psh, bh, lbh, cbh, rfl, p1, v1, b1⟩
  have Vh := Lib.hid v1
  have Rh16 := Lib.hid p1
  clear p1 v1
  have S16 := Lib.hid b1.size
  have B16 := Lib.hid (B15.out.trans (b1.mono B15.out.size))
  have Rw16 := Lib.hid (Rw15.out.below b1)
  have Xw16 := Lib.hid (Xw15.out.below b1 Xw15.out.lt)
  have Rg16 := Lib.hid (Rg15.out.below b1)
  have Xg16 := Lib.hid (Xg15.out.below b1 Xg15.out.lt)
  have Pz0_16 := Lib.hid (Pz0_15.out.below b1)
  clear b1 B15 Rw15 Xw15 Rg15 Xg15 Pz0_15
  obtain ⟨Xwz, Xwc0, Xwc1, Xwc2⟩ := Xw16.out.three
  obtain ⟨Xgz, Xgc0, Xgc1, Xgc2⟩ := Xg16.out.three
  have S17 := Lib.hid (show w16.heap.size < (w16.alloc (.cells #[.int .i64 C, .slice ah lh ch, .slice bh lbh cbh] 28)).heap.size by simp)
  have B17 := Lib.hid (B16.out.alloc B16.out.size (.cells #[.int .i64 C, .slice ah lh ch, .slice bh lbh cbh] 28))
  have Rw17 := Lib.hid (Rw16.out.below ((Below.refl _ w16).alloc (Nat.le_refl _) (.cells #[.int .i64 C, .slice ah lh ch, .slice bh lbh cbh] 28)))
  have Xw17 := Lib.hid (Xw16.out.alloc (.cells #[.int .i64 C, .slice ah lh ch, .slice bh lbh cbh] 28))
  have Rg17 := Lib.hid (Rg16.out.below ((Below.refl _ w16).alloc (Nat.le_refl _) (.cells #[.int .i64 C, .slice ah lh ch, .slice bh lbh cbh] 28)))
  have Xg17 := Lib.hid (Xg16.out.alloc (.cells #[.int .i64 C, .slice ah lh ch, .slice bh lbh cbh] 28))
  have Pz0_17 := Lib.hid (Pz0_16.out.below ((Below.refl _ w16).alloc (Nat.le_refl _) (.cells #[.int .i64 C, .slice ah lh ch, .slice bh lbh cbh] 28)))
  have Rh17 := Lib.hid (Rh16.out.below ((Below.refl _ w16).alloc (Nat.le_refl _) (.cells #[.int .i64 C, .slice ah lh ch, .slice bh lbh cbh] 28)))
  have Xh17 := Lib.hid (Box.new w16 28 #[.int .i64 C, .slice ah lh ch, .slice bh lbh cbh])
  clear B16 Rw16 Xw16 Rg16 Xg16 Pz0_16 Rh16
  go_wp2_with fail
  clear Xwz Xwc0 Xwc1 Xwc2
  clear Xgz Xgc0 Xgc1 Xgc2
  generalize w16.alloc (.cells #[.int .i64 C, .slice ah lh ch, .slice bh lbh cbh] 28) = w17 at *
  refine (eqPieces_t C _ _ _ _ _ _ psh psw _ _ _ _ _ _ Z _ Rh17.out.pl.pl Rw17.out.pl.pl (Vh.out.trans Vw.out.symm) Rh17.out.own.rd Rw17.out.own.rd).mono ?_
  rintro e w18 ⟨rfl, b1⟩
  have S18 := Lib.hid b1.size
  have B18 := Lib.hid (B17.out.trans (b1.mono B17.out.size))
  have Rw18 := Lib.hid (Rw17.out.below b1)
  have Xw18 := Lib.hid (Xw17.out.below b1 Xw17.out.lt)
  have Rg18 := Lib.hid (Rg17.out.below b1)
  have Xg18 := Lib.hid (Xg17.out.below b1 Xg17.out.lt)
  have Pz0_18 := Lib.hid (Pz0_17.out.below b1)
  have Rh18 := Lib.hid (Rh17.out.below b1)
  have Xh18 := Lib.hid (Xh17.out.below b1 Xh17.out.lt)
  clear b1 B17 Rw17 Xw17 Rg17 Xg17 Pz0_17 Rh17 Xh17
  obtain ⟨_, Xgc0, Xgc1, Xgc2⟩ := Xg18.out.three
  go_wp2_with fail
  clear Xgc0 Xgc1 Xgc2
  refine (HK.out _ Rg18.out.pl.pl Rg18.out.own.rd).mono ?_
  rintro e w19 ⟨rfl, b1⟩
  have S19 := Lib.hid b1.size
  have B19 := Lib.hid (B18.out.trans (b1.mono B18.out.size))
  have Rw19 := Lib.hid (Rw18.out.below b1)
  have Xw19 := Lib.hid (Xw18.out.below b1 Xw18.out.lt)
  have Rg19 := Lib.hid (Rg18.out.below b1)
  have Xg19 := Lib.hid (Xg18.out.below b1 Xg18.out.lt)
  have Pz0_19 := Lib.hid (Pz0_18.out.below b1)
  have Rh19 := Lib.hid (Rh18.out.below b1)
  have Xh19 := Lib.hid (Xh18.out.below b1 Xh18.out.lt)
  clear b1 B18 Rw18 Xw18 Rg18 Xg18 Pz0_18 Rh18 Xh18
  go_wp2
  go_ret
  exact ⟨rfl, B19.out⟩
end Go.Proofs.Ytimlobhlcmghfaa
