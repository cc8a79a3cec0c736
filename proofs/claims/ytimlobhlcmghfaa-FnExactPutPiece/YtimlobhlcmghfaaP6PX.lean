/-
  The exact law of PutPiece.
-/
import Derived.Test.YtimlobhlcmghfaaP6PP
import Derived.Test.YtimlobhlcmghfaaP6G
import Derived.Test.YtimlobhlcmghfaaP6X
namespace Go.Proofs.Ytimlobhlcmghfaa
open Go.ChangeShapes Go.WideShapes Go.ChangeAt Go.RowKit

set_option maxHeartbeats 4000000 in
theorem exactPutPiece (a0 : Option Addr) (len0 cap0 : Nat) (ps0 : List Pm) (x1 : Int) (a2 : Option Addr) (len2 cap2 : Nat) (zs2 : List Int) (w : World) (h0 : Pl w a0 len0 cap0 ps0) (h2 : Rd w a2 len2 cap2 zs2) :
    Calls Try.prog 5 #[.slice a0 len0 cap0, .int .i64 x1, .slice a2 len2 cap2] w fun e w' => e = .returned (.bool true) ∧ Below w.heap.size w w' := by
  have hm2 : len2 ≤ maxLen := Nat.le_trans h2.le h2.max
  unfold maxLen at hm2
  by_cases hs2 : len2 ≤ 1048576
  case neg =>
    have hb2 : (1048576 : Int) < (len2 : Int) := by omega
    clear h0 h2
    go_enter Try.func5, Try.ntmps5
    go_wp2
    go_ret
    exact ⟨rfl, Below.refl _ _⟩
  have hn2 : ¬ (1048576 : Int) < (len2 : Int) := by omega
  by_cases hs0 : len0 + sumL ps0 ≤ 1048576
  case neg =>
    have Z := Lib.hid (szPieceS_f a0 len0 cap0 ps0 1048576 w h0 hs0 (by omega))
    clear h0 h2 hs0
    go_enter Try.func5, Try.ntmps5
    go_wp2_with fail
    refine Z.out.mono ?_
    rintro e w1 ⟨rfl, b1⟩
    have B1 := Lib.hid b1
    clear b1 Z
    go_wp2
    go_ret
    exact ⟨rfl, B1.out⟩
  have hd0 := sum_le hs0
  have hl0 : len0 ≤ 1048576 := by omega
  have Z0 := Lib.hid (szPieceS_t a0 len0 cap0 ps0 1048576 w h0 hs0 (by omega))
  have T0 := Lib.hid (fun W (hW : Below w.heap.size w W) => toPieceS_any a0 len0 cap0 ps0 W (h0.below hW) hl0 hd0)
  have LV0 := Lib.hid (fun W a' c' (qs : List Pm) (h' : Pl W a' len0 c' qs) (hv : vals qs = vals ps0) => len_of_vals h0 h' hv hd0)
  have SZ0 := Lib.hid (fun W a' c' (qs : List Pm) (h' : Pl W a' len0 c' qs) (hv : vals qs = vals ps0) => (show szP qs ≤ 1048576 from by rw [szP_vals h', hv, ← szP_vals h0]; unfold szP; rw [h0.lb.length]; exact hs0))
  have hn0 : ¬ ((1048576 - (len0 + sumL ps0) : Nat) : Int) < 0 := by omega
  have T2 := Lib.hid (fun W (hW : Below w.heap.size w W) => toByteS_any a2 len2 cap2 zs2 W (h2.below hW) hs2)
  have HB := Lib.hid (pu_bound (vals ps0) x1 zs2 (by rw [← szP_vals h0]; unfold szP; rw [h0.lb.length]; exact hs0) (by rw [h2.length]; exact hs2))
  obtain ⟨C, hC⟩ : ∃ C, C = puC (vals ps0) x1 zs2 := ⟨_, rfl⟩
  obtain ⟨V, hV⟩ : ∃ V, V = puL (vals ps0) x1 zs2 := ⟨_, rfl⟩
  obtain ⟨Z, hZ⟩ : ∃ Z, Z = ([] : List Int) := ⟨_, rfl⟩
  rw [← hV, ← hZ] at HB
  have Kspec := Lib.hid (show ∀ (W : World) (y0 : Option Addr) (n0 : Nat) (qs0 : List Pm) (y2 : Option Addr) (n2 : Nat) (g0 : Pl W y0 len0 n0 qs0) (v0 : vals qs0 = vals ps0) (g2 : Rd W y2 len2 n2 zs2), Calls Try.prog 20 #[.slice y0 len0 n0, .int .i64 x1, .slice y2 len2 n2] W (PrOut W C V Z) from fun W y0 n0 qs0 y2 n2 g0 v0 g2 => by
    have q := specPutPiece y0 len0 n0 qs0 x1 y2 len2 n2 zs2 W g0 (LV0.out _ _ _ _ g0 v0) g2 hs2
    rw [v0] at q
    rw [hC, hV, hZ]
    exact q)
  have Kimpl := Lib.hid (show ∀ (W : World) (y0 : Option Addr) (n0 : Nat) (qs0 : List Pm) (y2 : Option Addr) (n2 : Nat) (g0 : Pl W y0 len0 n0 qs0) (v0 : vals qs0 = vals ps0) (g2 : Rd W y2 len2 n2 zs2), Calls Try.prog 16 #[.slice y0 len0 n0, .int .i64 x1, .slice y2 len2 n2] W (PrOut W C V Z) from fun W y0 n0 qs0 y2 n2 g0 v0 g2 => by
    have q := implPutPiece y0 len0 n0 qs0 x1 y2 len2 n2 zs2 W g0 (LV0.out _ _ _ _ g0 v0) g2 hs2
    rw [v0] at q
    rw [hC, hV, hZ]
    exact q)
  clear h0 h2 hC hV hZ hd0
  generalize 1048576 - (len0 + sumL ps0) = r0 at *
  go_enter Try.func5, Try.ntmps5
  have B0 := Lib.hid (Below.refl w.heap.size w)
  go_wp2_with fail
  refine Z0.out.mono ?_
  rintro e w1 ⟨rfl, b1⟩
  have S1 := Lib.hid b1.size
  have B1 := Lib.hid (B0.out.trans (b1.mono B0.out.size))
  clear b1 B0
  clear Z0
  go_wp2_with fail
  refine (T0.out _ B1.out).mono ?_
  rintro e w2 ⟨as0, cs0, qss0, rfl, p1, v1, b1⟩
  have Vs0 := Lib.hid v1
  have Ps0_2 := Lib.hid p1
  clear p1 v1
  have S2 := Lib.hid b1.size
  have B2 := Lib.hid (B1.out.trans (b1.mono B1.out.size))
  clear b1 B1
  go_wp2_with fail
  refine (T2.out _ B2.out).mono ?_
  rintro e w3 ⟨rfl, p1, b1⟩
  have Ps2_3 := Lib.hid p1
  have SXs2 := Lib.hid (p1.lt _ rfl).2
  dsimp only at SXs2
  clear p1
  have S3 := Lib.hid b1.size
  have B3 := Lib.hid (B2.out.trans (b1.mono B2.out.size))
  have Ps0_3 := Lib.hid (Ps0_2.out.below b1)
  clear b1 B2 Ps0_2
  go_wp2_with fail
  refine (Kspec.out _ as0 cs0 qss0 (some ⟨w2.heap.size, 0, none⟩) len2 Ps0_3.out.pl Vs0.out Ps2_3.out.rd).mono ?_
  rintro e w4 ⟨aw, lw, cw, psw, bw, lbw, cbw, rfl, p1, v1, b1⟩
  have Vw := Lib.hid v1
  have Rw4 := Lib.hid p1
  clear p1 v1
  have S4 := Lib.hid b1.size
  have B4 := Lib.hid (B3.out.trans (b1.mono B3.out.size))
  have Ps0_4 := Lib.hid (Ps0_3.out.below b1)
  have Ps2_4 := Lib.hid (Ps2_3.out.below b1)
  clear b1 B3 Ps0_3 Ps2_3
  have S5 := Lib.hid (show w4.heap.size < (w4.alloc (.cells #[.int .i64 C, .slice aw lw cw, .slice bw lbw cbw] 28)).heap.size by simp)
  have B5 := Lib.hid (B4.out.alloc B4.out.size (.cells #[.int .i64 C, .slice aw lw cw, .slice bw lbw cbw] 28))
  have Ps0_5 := Lib.hid (Ps0_4.out.below ((Below.refl _ w4).alloc (Nat.le_refl _) (.cells #[.int .i64 C, .slice aw lw cw, .slice bw lbw cbw] 28)))
  have Ps2_5 := Lib.hid (Ps2_4.out.below ((Below.refl _ w4).alloc (Nat.le_refl _) (.cells #[.int .i64 C, .slice aw lw cw, .slice bw lbw cbw] 28)))
  have Rw5 := Lib.hid (Rw4.out.below ((Below.refl _ w4).alloc (Nat.le_refl _) (.cells #[.int .i64 C, .slice aw lw cw, .slice bw lbw cbw] 28)))
  have Xw5 := Lib.hid (Box.new w4 28 #[.int .i64 C, .slice aw lw cw, .slice bw lbw cbw])
  clear B4 Ps0_4 Ps2_4 Rw4
  clear Ps0_5
  clear Ps2_5
  go_wp2_with fail
  generalize w4.alloc (.cells #[.int .i64 C, .slice aw lw cw, .slice bw lbw cbw] 28) = w5 at *
  refine (T0.out _ B5.out).mono ?_
  rintro e w6 ⟨ax0, cx0, qsx0, rfl, p1, v1, b1⟩
  have Vx0 := Lib.hid v1
  have Px0_6 := Lib.hid p1
  clear p1 v1
  have S6 := Lib.hid b1.size
  have B6 := Lib.hid (B5.out.trans (b1.mono B5.out.size))
  have Rw6 := Lib.hid (Rw5.out.below b1)
  have Xw6 := Lib.hid (Xw5.out.below b1 Xw5.out.lt)
  clear b1 B5 Rw5 Xw5
  go_wp2_with fail
  refine (T2.out _ B6.out).mono ?_
  rintro e w7 ⟨rfl, p1, b1⟩
  have Px2_7 := Lib.hid p1
  have SXx2 := Lib.hid (p1.lt _ rfl).2
  dsimp only at SXx2
  clear p1
  have S7 := Lib.hid b1.size
  have B7 := Lib.hid (B6.out.trans (b1.mono B6.out.size))
  have Rw7 := Lib.hid (Rw6.out.below b1)
  have Xw7 := Lib.hid (Xw6.out.below b1 Xw6.out.lt)
  have Px0_7 := Lib.hid (Px0_6.out.below b1)
  clear b1 B6 Rw6 Xw6 Px0_6
  go_wp2_with fail
  refine (Kimpl.out _ ax0 cx0 qsx0 (some ⟨w6.heap.size, 0, none⟩) len2 Px0_7.out.pl Vx0.out Px2_7.out.rd).mono ?_
  rintro e w8 ⟨ag, lg, cg, psg, bg, lbg, cbg, rfl, p1, v1, b1⟩
  have Vg := Lib.hid v1
  have Rg8 := Lib.hid p1
  clear p1 v1
  have S8 := Lib.hid b1.size
  have B8 := Lib.hid (B7.out.trans (b1.mono B7.out.size))
  have Rw8 := Lib.hid (Rw7.out.below b1)
  have Xw8 := Lib.hid (Xw7.out.below b1 Xw7.out.lt)
  have Px0_8 := Lib.hid (Px0_7.out.below b1)
  have Px2_8 := Lib.hid (Px2_7.out.below b1)
  clear b1 B7 Rw7 Xw7 Px0_7 Px2_7
  obtain ⟨Xwz, Xwc0, Xwc1, Xwc2⟩ := Xw8.out.three
  have S9 := Lib.hid (show w8.heap.size < (w8.alloc (.cells #[.int .i64 C, .slice ag lg cg, .slice bg lbg cbg] 28)).heap.size by simp)
  have B9 := Lib.hid (B8.out.alloc B8.out.size (.cells #[.int .i64 C, .slice ag lg cg, .slice bg lbg cbg] 28))
  have Rw9 := Lib.hid (Rw8.out.below ((Below.refl _ w8).alloc (Nat.le_refl _) (.cells #[.int .i64 C, .slice ag lg cg, .slice bg lbg cbg] 28)))
  have Xw9 := Lib.hid (Xw8.out.alloc (.cells #[.int .i64 C, .slice ag lg cg, .slice bg lbg cbg] 28))
  have Px0_9 := Lib.hid (Px0_8.out.below ((Below.refl _ w8).alloc (Nat.le_refl _) (.cells #[.int .i64 C, .slice ag lg cg, .slice bg lbg cbg] 28)))
  have Px2_9 := Lib.hid (Px2_8.out.below ((Below.refl _ w8).alloc (Nat.le_refl _) (.cells #[.int .i64 C, .slice ag lg cg, .slice bg lbg cbg] 28)))
  have Rg9 := Lib.hid (Rg8.out.below ((Below.refl _ w8).alloc (Nat.le_refl _) (.cells #[.int .i64 C, .slice ag lg cg, .slice bg lbg cbg] 28)))
  have Xg9 := Lib.hid (Box.new w8 28 #[.int .i64 C, .slice ag lg cg, .slice bg lbg cbg])
  clear B8 Rw8 Xw8 Px0_8 Px2_8 Rg8
  go_wp2_with fail
  clear Xwz Xwc0 Xwc1 Xwc2
  generalize w8.alloc (.cells #[.int .i64 C, .slice ag lg cg, .slice bg lbg cbg] 28) = w9 at *
  refine (eqPieces_t C _ _ _ _ _ _ psg psw _ _ _ _ _ _ Z _ Rg9.out.pl.pl Rw9.out.pl.pl (Vg.out.trans Vw.out.symm) Rg9.out.own.rd Rw9.out.own.rd).mono ?_
  rintro e w10 ⟨rfl, b1⟩
  have S10 := Lib.hid b1.size
  have B10 := Lib.hid (B9.out.trans (b1.mono B9.out.size))
  have Rw10 := Lib.hid (Rw9.out.below b1)
  have Xw10 := Lib.hid (Xw9.out.below b1 Xw9.out.lt)
  have Px0_10 := Lib.hid (Px0_9.out.below b1)
  have Px2_10 := Lib.hid (Px2_9.out.below b1)
  have Rg10 := Lib.hid (Rg9.out.below b1)
  have Xg10 := Lib.hid (Xg9.out.below b1 Xg9.out.lt)
  clear b1 B9 Rw9 Xw9 Px0_9 Px2_9 Rg9 Xg9
  go_wp2_with fail
  refine (T0.out _ B10.out).mono ?_
  rintro e w11 ⟨ay0, cy0, qsy0, rfl, p1, v1, b1⟩
  have Vy0 := Lib.hid v1
  have Py0_11 := Lib.hid p1
  clear p1 v1
  have S11 := Lib.hid b1.size
  have B11 := Lib.hid (B10.out.trans (b1.mono B10.out.size))
  have Rw11 := Lib.hid (Rw10.out.below b1)
  have Xw11 := Lib.hid (Xw10.out.below b1 Xw10.out.lt)
  have Px0_11 := Lib.hid (Px0_10.out.below b1)
  have Px2_11 := Lib.hid (Px2_10.out.below b1)
  have Rg11 := Lib.hid (Rg10.out.below b1)
  have Xg11 := Lib.hid (Xg10.out.below b1 Xg10.out.lt)
  clear b1 B10 Rw10 Xw10 Px0_10 Px2_10 Rg10 Xg10
  go_wp2_with fail
  have KE := eqPieceS_any ax0 ay0 len0 cx0 len0 cy0 qsx0 qsy0 _ Px0_11.out.pl Py0_11.out.pl
  rw [eqV_refl (Vx0.out.trans Vy0.out.symm)] at KE
  refine KE.mono ?_
  clear KE
  rintro e w12 ⟨rfl, b1⟩
  have S12 := Lib.hid b1.size
  have B12 := Lib.hid (B11.out.trans (b1.mono B11.out.size))
  have Rw12 := Lib.hid (Rw11.out.below b1)
  have Xw12 := Lib.hid (Xw11.out.below b1 Xw11.out.lt)
  have Px0_12 := Lib.hid (Px0_11.out.below b1)
  have Px2_12 := Lib.hid (Px2_11.out.below b1)
  have Rg12 := Lib.hid (Rg11.out.below b1)
  have Xg12 := Lib.hid (Xg11.out.below b1 Xg11.out.lt)
  have Py0_12 := Lib.hid (Py0_11.out.below b1)
  clear b1 B11 Rw11 Xw11 Px0_11 Px2_11 Rg11 Xg11 Py0_11
  clear Py0_12
  go_wp2_with fail
  refine (T2.out _ B12.out).mono ?_
  rintro e w13 ⟨rfl, p1, b1⟩
  have Py2_13 := Lib.hid p1
  have SXy2 := Lib.hid (p1.lt _ rfl).2
  dsimp only at SXy2
  clear p1
  have S13 := Lib.hid b1.size
  have B13 := Lib.hid (B12.out.trans (b1.mono B12.out.size))
  have Rw13 := Lib.hid (Rw12.out.below b1)
  have Xw13 := Lib.hid (Xw12.out.below b1 Xw12.out.lt)
  have Px0_13 := Lib.hid (Px0_12.out.below b1)
  have Px2_13 := Lib.hid (Px2_12.out.below b1)
  have Rg13 := Lib.hid (Rg12.out.below b1)
  have Xg13 := Lib.hid (Xg12.out.below b1 Xg12.out.lt)
  clear b1 B12 Rw12 Xw12 Px0_12 Px2_12 Rg12 Xg12
  go_wp2_with fail
  have KE := eqByteS_any (some ⟨w6.heap.size, 0, none⟩) (some ⟨w12.heap.size, 0, none⟩) len2 len2 len2 len2 zs2 zs2 _ Px2_13.out.rd Py2_13.out.rd
  rw [show eqL zs2 zs2 = true from decide_eq_true rfl] at KE
  refine KE.mono ?_
  clear KE
  rintro e w14 ⟨rfl, b1⟩
  have S14 := Lib.hid b1.size
  have B14 := Lib.hid (B13.out.trans (b1.mono B13.out.size))
  have Rw14 := Lib.hid (Rw13.out.below b1)
  have Xw14 := Lib.hid (Xw13.out.below b1 Xw13.out.lt)
  have Px0_14 := Lib.hid (Px0_13.out.below b1)
  have Px2_14 := Lib.hid (Px2_13.out.below b1)
  have Rg14 := Lib.hid (Rg13.out.below b1)
  have Xg14 := Lib.hid (Xg13.out.below b1 Xg13.out.lt)
  have Py2_14 := Lib.hid (Py2_13.out.below b1)
  clear b1 B13 Rw13 Xw13 Px0_13 Px2_13 Rg13 Xg13 Py2_13
  clear Py2_14
  have hk0 : szP qsx0 ≤ 1048576 := SZ0.out _ _ _ _ Px0_14.out.pl Vx0.out
  have MK := Lib.hid (markPieceS_any _ _ ax0 len0 cx0 1 qsx0 _ Px0_14.out (by omega) (by omega))
  obtain ⟨M0, hM0⟩ : ∃ M, M = 1 + szP qsx0 := ⟨_, rfl⟩
  rw [← hM0] at MK
  have hMb0 : M0 ≤ 1048577 := by omega
  clear hM0 hk0
  go_wp2_with fail
  refine MK.out.mono ?_
  clear MK
  rintro e w15 ⟨rfl, p1, t1, n1⟩
  clear n1 p1
  have S15 := Lib.hid t1.size
  have B15 := Lib.hid (B14.out.trans ((t1.mono (lo' := w.heap.size) (by have q0 := S1.out; have q1 := S2.out; have q2 := SXs2.out; have q3 := S3.out; have q4 := S4.out; have q5 := S5.out; have q6 := S6.out; have q7 := SXx2.out; have q8 := S7.out; have q9 := S8.out; have q10 := S9.out; have q11 := S10.out; have q12 := S11.out; have q13 := S12.out; have q14 := SXy2.out; have q15 := S13.out; have q16 := S14.out; have q17 := S15.out; omega) (Nat.le_refl _)).below B14.out.size))
  have Rw15 := Lib.hid (Rw14.out.turn t1 (.inl (by have q0 := S1.out; have q1 := S2.out; have q2 := SXs2.out; have q3 := S3.out; have q4 := S4.out; have q5 := S5.out; have q6 := S6.out; have q7 := SXx2.out; have q8 := S7.out; have q9 := S8.out; have q10 := S9.out; have q11 := S10.out; have q12 := S11.out; have q13 := S12.out; have q14 := SXy2.out; have q15 := S13.out; have q16 := S14.out; have q17 := S15.out; omega)))
  have Xw15 := Lib.hid (show Box w15 _ _ _ from (t1.block _ Xw14.out.lt (.inl (by have q0 := S1.out; have q1 := S2.out; have q2 := SXs2.out; have q3 := S3.out; have q4 := S4.out; have q5 := S5.out; have q6 := S6.out; have q7 := SXx2.out; have q8 := S7.out; have q9 := S8.out; have q10 := S9.out; have q11 := S10.out; have q12 := S11.out; have q13 := S12.out; have q14 := SXy2.out; have q15 := S13.out; have q16 := S14.out; have q17 := S15.out; omega))).trans Xw14.out)
  have Px2_15 := Lib.hid (Px2_14.out.turn t1 (fun x hx => .inr (by cases hx; have q0 := S1.out; have q1 := S2.out; have q2 := SXs2.out; have q3 := S3.out; have q4 := S4.out; have q5 := S5.out; have q6 := S6.out; have q7 := SXx2.out; have q8 := S7.out; have q9 := S8.out; have q10 := S9.out; have q11 := S10.out; have q12 := S11.out; have q13 := S12.out; have q14 := SXy2.out; have q15 := S13.out; have q16 := S14.out; have q17 := S15.out; (try dsimp only); omega)))
  have Rg15 := Lib.hid (Rg14.out.turn t1 (.inr (by have q0 := S1.out; have q1 := S2.out; have q2 := SXs2.out; have q3 := S3.out; have q4 := S4.out; have q5 := S5.out; have q6 := S6.out; have q7 := SXx2.out; have q8 := S7.out; have q9 := S8.out; have q10 := S9.out; have q11 := S10.out; have q12 := S11.out; have q13 := S12.out; have q14 := SXy2.out; have q15 := S13.out; have q16 := S14.out; have q17 := S15.out; omega)))
  have Xg15 := Lib.hid (show Box w15 _ _ _ from (t1.block _ Xg14.out.lt (.inr (by have q0 := S1.out; have q1 := S2.out; have q2 := SXs2.out; have q3 := S3.out; have q4 := S4.out; have q5 := S5.out; have q6 := S6.out; have q7 := SXx2.out; have q8 := S7.out; have q9 := S8.out; have q10 := S9.out; have q11 := S10.out; have q12 := S11.out; have q13 := S12.out; have q14 := SXy2.out; have q15 := S13.out; have q16 := S14.out; have q17 := S15.out; omega))).trans Xg14.out)
  clear t1 B14 Rw14 Xw14 Px0_14 Px2_14 Rg14 Xg14
  have MK := Lib.hid (markByteS_any (some ⟨w6.heap.size, 0, none⟩) len2 len2 w6.heap.size M0 zs2 _ Px2_15.out (by omega) (by omega))
  obtain ⟨M2, hM2⟩ : ∃ M, M = M0 + len2 := ⟨_, rfl⟩
  rw [← hM2] at MK
  have hMb2 : M2 ≤ 3000000 := by omega
  clear hM2
  go_wp2_with fail
  refine MK.out.mono ?_
  clear MK
  rintro e w16 ⟨rfl, p1, g1⟩
  have t1 : Turn w6.heap.size w7.heap.size w15 w16 := Turn.of_grown g1 (Nat.le_refl _) (by have q0 := S1.out; have q1 := S2.out; have q2 := SXs2.out; have q3 := S3.out; have q4 := S4.out; have q5 := S5.out; have q6 := S6.out; have q7 := SXx2.out; have q8 := S7.out; have q9 := S8.out; have q10 := S9.out; have q11 := S10.out; have q12 := S11.out; have q13 := S12.out; have q14 := SXy2.out; have q15 := S13.out; have q16 := S14.out; have q17 := S15.out; omega)
  clear g1 p1
  have S16 := Lib.hid t1.size
  have B16 := Lib.hid (B15.out.trans ((t1.mono (lo' := w.heap.size) (by have q0 := S1.out; have q1 := S2.out; have q2 := SXs2.out; have q3 := S3.out; have q4 := S4.out; have q5 := S5.out; have q6 := S6.out; have q7 := SXx2.out; have q8 := S7.out; have q9 := S8.out; have q10 := S9.out; have q11 := S10.out; have q12 := S11.out; have q13 := S12.out; have q14 := SXy2.out; have q15 := S13.out; have q16 := S14.out; have q17 := S15.out; have q18 := S16.out; omega) (Nat.le_refl _)).below B15.out.size))
  have Rw16 := Lib.hid (Rw15.out.turn t1 (.inl (by have q0 := S1.out; have q1 := S2.out; have q2 := SXs2.out; have q3 := S3.out; have q4 := S4.out; have q5 := S5.out; have q6 := S6.out; have q7 := SXx2.out; have q8 := S7.out; have q9 := S8.out; have q10 := S9.out; have q11 := S10.out; have q12 := S11.out; have q13 := S12.out; have q14 := SXy2.out; have q15 := S13.out; have q16 := S14.out; have q17 := S15.out; have q18 := S16.out; omega)))
  have Xw16 := Lib.hid (show Box w16 _ _ _ from (t1.block _ Xw15.out.lt (.inl (by have q0 := S1.out; have q1 := S2.out; have q2 := SXs2.out; have q3 := S3.out; have q4 := S4.out; have q5 := S5.out; have q6 := S6.out; have q7 := SXx2.out; have q8 := S7.out; have q9 := S8.out; have q10 := S9.out; have q11 := S10.out; have q12 := S11.out; have q13 := S12.out; have q14 := SXy2.out; have q15 := S13.out; have q16 := S14.out; have q17 := S15.out; have q18 := S16.out; omega))).trans Xw15.out)
  have Rg16 := Lib.hid (Rg15.out.turn t1 (.inr (by have q0 := S1.out; have q1 := S2.out; have q2 := SXs2.out; have q3 := S3.out; have q4 := S4.out; have q5 := S5.out; have q6 := S6.out; have q7 := SXx2.out; have q8 := S7.out; have q9 := S8.out; have q10 := S9.out; have q11 := S10.out; have q12 := S11.out; have q13 := S12.out; have q14 := SXy2.out; have q15 := S13.out; have q16 := S14.out; have q17 := S15.out; have q18 := S16.out; omega)))
  have Xg16 := Lib.hid (show Box w16 _ _ _ from (t1.block _ Xg15.out.lt (.inr (by have q0 := S1.out; have q1 := S2.out; have q2 := SXs2.out; have q3 := S3.out; have q4 := S4.out; have q5 := S5.out; have q6 := S6.out; have q7 := SXx2.out; have q8 := S7.out; have q9 := S8.out; have q10 := S9.out; have q11 := S10.out; have q12 := S11.out; have q13 := S12.out; have q14 := SXy2.out; have q15 := S13.out; have q16 := S14.out; have q17 := S15.out; have q18 := S16.out; omega))).trans Xg15.out)
  clear t1 B15 Rw15 Xw15 Px2_15 Rg15 Xg15
  have hnM : ¬ ((M2 : Nat) : Int) < 0 := by omega
  obtain ⟨_, Xgc0, Xgc1, Xgc2⟩ := Xg16.out.three
  obtain ⟨_, Xwc0, Xwc1, Xwc2⟩ := Xw16.out.three
  go_wp2_with fail
  clear Xgc0 Xgc1 Xgc2
  clear Xwc0 Xwc1 Xwc2
  refine (eqPieces_t C _ _ _ _ _ _ psg psw _ _ _ _ _ _ Z _ Rg16.out.pl.pl Rw16.out.pl.pl (Vg.out.trans Vw.out.symm) Rg16.out.own.rd Rw16.out.own.rd).mono ?_
  rintro e w17 ⟨rfl, b1⟩
  have S17 := Lib.hid b1.size
  have B17 := Lib.hid (B16.out.trans (b1.mono B16.out.size))
  have Rw17 := Lib.hid (Rw16.out.below b1)
  have Xw17 := Lib.hid (Xw16.out.below b1 Xw16.out.lt)
  have Rg17 := Lib.hid (Rg16.out.below b1)
  have Xg17 := Lib.hid (Xg16.out.below b1 Xg16.out.lt)
  clear b1 B16 Rw16 Xw16 Rg16 Xg16
  have hsg : szP psg ≤ 2097152 := by rw [szP_vals Rg17.out.pl.pl, Vg.out]; exact HB.out.1
  have hlg : lbg ≤ 2097152 := by rw [← Rg17.out.own.length]; exact HB.out.2
  have MK := Lib.hid (markPieces_any w7.heap.size w8.heap.size C ag lg cg 1 psg bg lbg cbg Z w17 Rg17.out (by have q0 := S1.out; have q1 := S2.out; have q2 := SXs2.out; have q3 := S3.out; have q4 := S4.out; have q5 := S5.out; have q6 := S6.out; have q7 := SXx2.out; have q8 := S7.out; have q9 := S8.out; have q10 := S9.out; have q11 := S10.out; have q12 := S11.out; have q13 := S12.out; have q14 := SXy2.out; have q15 := S13.out; have q16 := S14.out; have q17 := S15.out; have q18 := S16.out; have q19 := S17.out; omega) hsg hlg (by omega))
  have HK := Lib.hid (fun W (h : Pl W ag lg cg (markP 1 psg)) (hr : Rd W bg lbg cbg (marks (1 + szP psg) lbg)) => heldPieces_any C ag lg cg 1 psg bg lbg cbg W h hr hsg hlg (by omega))
  generalize 1 + szP psg + lbg = N at MK HK
  have hnN : ¬ ((N : Nat) : Int) < 0 := by omega
  have hneN : (((N : Nat) : Int) != ((N : Nat) : Int)) = false := by simp
  obtain ⟨_, Xgc0, Xgc1, Xgc2⟩ := Xg17.out.three
  go_wp2_with fail
  clear Xgc0 Xgc1 Xgc2
  refine MK.out.mono ?_
  clear MK
  rintro e w18 ⟨rfl, p1, t1⟩
  have Rg18 := Lib.hid p1
  clear p1
  have S18 := Lib.hid t1.size
  have B18 := Lib.hid (B17.out.trans ((t1.mono (lo' := w.heap.size) (by have q0 := S1.out; have q1 := S2.out; have q2 := SXs2.out; have q3 := S3.out; have q4 := S4.out; have q5 := S5.out; have q6 := S6.out; have q7 := SXx2.out; have q8 := S7.out; have q9 := S8.out; have q10 := S9.out; have q11 := S10.out; have q12 := S11.out; have q13 := S12.out; have q14 := SXy2.out; have q15 := S13.out; have q16 := S14.out; have q17 := S15.out; have q18 := S16.out; have q19 := S17.out; have q20 := S18.out; omega) (Nat.le_refl _)).below B17.out.size))
  have Rw18 := Lib.hid (Rw17.out.turn t1 (.inl (by have q0 := S1.out; have q1 := S2.out; have q2 := SXs2.out; have q3 := S3.out; have q4 := S4.out; have q5 := S5.out; have q6 := S6.out; have q7 := SXx2.out; have q8 := S7.out; have q9 := S8.out; have q10 := S9.out; have q11 := S10.out; have q12 := S11.out; have q13 := S12.out; have q14 := SXy2.out; have q15 := S13.out; have q16 := S14.out; have q17 := S15.out; have q18 := S16.out; have q19 := S17.out; have q20 := S18.out; omega)))
  have Xw18 := Lib.hid (show Box w18 _ _ _ from (t1.block _ Xw17.out.lt (.inl (by have q0 := S1.out; have q1 := S2.out; have q2 := SXs2.out; have q3 := S3.out; have q4 := S4.out; have q5 := S5.out; have q6 := S6.out; have q7 := SXx2.out; have q8 := S7.out; have q9 := S8.out; have q10 := S9.out; have q11 := S10.out; have q12 := S11.out; have q13 := S12.out; have q14 := SXy2.out; have q15 := S13.out; have q16 := S14.out; have q17 := S15.out; have q18 := S16.out; have q19 := S17.out; have q20 := S18.out; omega))).trans Xw17.out)
  have Xg18 := Lib.hid (show Box w18 _ _ _ from (t1.block _ Xg17.out.lt (.inr (by have q0 := S1.out; have q1 := S2.out; have q2 := SXs2.out; have q3 := S3.out; have q4 := S4.out; have q5 := S5.out; have q6 := S6.out; have q7 := SXx2.out; have q8 := S7.out; have q9 := S8.out; have q10 := S9.out; have q11 := S10.out; have q12 := S11.out; have q13 := S12.out; have q14 := SXy2.out; have q15 := S13.out; have q16 := S14.out; have q17 := S15.out; have q18 := S16.out; have q19 := S17.out; have q20 := S18.out; omega))).trans Xg17.out)
  clear t1 B17 Rw17 Xw17 Rg17 Xg17
  obtain ⟨_, Xgc0, Xgc1, Xgc2⟩ := Xg18.out.three
  go_wp2_with fail
  clear Xgc0 Xgc1 Xgc2
  refine (HK.out _ Rg18.out.pl.pl Rg18.out.own.rd).mono ?_
  rintro e w19 ⟨rfl, b1⟩
  have S19 := Lib.hid b1.size
  have B19 := Lib.hid (B18.out.trans (b1.mono B18.out.size))
  have Rw19 := Lib.hid (Rw18.out.below b1)
  have Xw19 := Lib.hid (Xw18.out.below b1 Xw18.out.lt)
  have Rg19 := Lib.hid (Rg18.out.below b1)
  have Xg19 := Lib.hid (Xg18.out.below b1 Xg18.out.lt)
  clear b1 B18 Rw18 Xw18 Rg18 Xg18
  go_wp2_with fail
  refine (T0.out _ B19.out).mono ?_
  rintro e w20 ⟨az0, cz0, qsz0, rfl, p1, v1, b1⟩
  have Vz0 := Lib.hid v1
  have Pz0_20 := Lib.hid p1
  clear p1 v1
  have S20 := Lib.hid b1.size
  have B20 := Lib.hid (B19.out.trans (b1.mono B19.out.size))
  have Rw20 := Lib.hid (Rw19.out.below b1)
  have Xw20 := Lib.hid (Xw19.out.below b1 Xw19.out.lt)
  have Rg20 := Lib.hid (Rg19.out.below b1)
  have Xg20 := Lib.hid (Xg19.out.below b1 Xg19.out.lt)
  clear b1 B19 Rw19 Xw19 Rg19 Xg19
  go_wp2_with fail
  refine (T2.out _ B20.out).mono ?_
  rintro e w21 ⟨rfl, p1, b1⟩
  have Pz2_21 := Lib.hid p1
  have SXz2 := Lib.hid (p1.lt _ rfl).2
  dsimp only at SXz2
  clear p1
  have S21 := Lib.hid b1.size
  have B21 := Lib.hid (B20.out.trans (b1.mono B20.out.size))
  have Rw21 := Lib.hid (Rw20.out.below b1)
  have Xw21 := Lib.hid (Xw20.out.below b1 Xw20.out.lt)
  have Rg21 := Lib.hid (Rg20.out.below b1)
  have Xg21 := Lib.hid (Xg20.out.below b1 Xg20.out.lt)
  have Pz0_21 := Lib.hid (Pz0_20.out.below b1)
  clear b1 B20 Rw20 Xw20 Rg20 Xg20 Pz0_20
  go_wp2_with fail
  refine (Kimpl.out _ az0 cz0 qsz0 (some ⟨w20.heap.size, 0, none⟩) len2 Pz0_21.out.pl Vz0.out Pz2_21.out.rd).mono ?_
  rintro e w22 ⟨ah, lh, ch, psh, bh, lbh, cbh, rfl, p1, v1, b1⟩
  have Vh := Lib.hid v1
  have Rh22 := Lib.hid p1
  clear p1 v1
  have S22 := Lib.hid b1.size
  have B22 := Lib.hid (B21.out.trans (b1.mono B21.out.size))
  have Rw22 := Lib.hid (Rw21.out.below b1)
  have Xw22 := Lib.hid (Xw21.out.below b1 Xw21.out.lt)
  have Rg22 := Lib.hid (Rg21.out.below b1)
  have Xg22 := Lib.hid (Xg21.out.below b1 Xg21.out.lt)
  have Pz0_22 := Lib.hid (Pz0_21.out.below b1)
  have Pz2_22 := Lib.hid (Pz2_21.out.below b1)
  clear b1 B21 Rw21 Xw21 Rg21 Xg21 Pz0_21 Pz2_21
  obtain ⟨Xwz, Xwc0, Xwc1, Xwc2⟩ := Xw22.out.three
  obtain ⟨Xgz, Xgc0, Xgc1, Xgc2⟩ := Xg22.out.three
  have S23 := Lib.hid (show w22.heap.size < (w22.alloc (.cells #[.int .i64 C, .slice ah lh ch, .slice bh lbh cbh] 28)).heap.size by simp)
  have B23 := Lib.hid (B22.out.alloc B22.out.size (.cells #[.int .i64 C, .slice ah lh ch, .slice bh lbh cbh] 28))
  have Rw23 := Lib.hid (Rw22.out.below ((Below.refl _ w22).alloc (Nat.le_refl _) (.cells #[.int .i64 C, .slice ah lh ch, .slice bh lbh cbh] 28)))
  have Xw23 := Lib.hid (Xw22.out.alloc (.cells #[.int .i64 C, .slice ah lh ch, .slice bh lbh cbh] 28))
  have Rg23 := Lib.hid (Rg22.out.below ((Below.refl _ w22).alloc (Nat.le_refl _) (.cells #[.int .i64 C, .slice ah lh ch, .slice bh lbh cbh] 28)))
  have Xg23 := Lib.hid (Xg22.out.alloc (.cells #[.int .i64 C, .slice ah lh ch, .slice bh lbh cbh] 28))
  have Pz0_23 := Lib.hid (Pz0_22.out.below ((Below.refl _ w22).alloc (Nat.le_refl _) (.cells #[.int .i64 C, .slice ah lh ch, .slice bh lbh cbh] 28)))
  have Pz2_23 := Lib.hid (Pz2_22.out.below ((Below.refl _ w22).alloc (Nat.le_refl _) (.cells #[.int .i64 C, .slice ah lh ch, .slice bh lbh cbh] 28)))
  have Rh23 := Lib.hid (Rh22.out.below ((Below.refl _ w22).alloc (Nat.le_refl _) (.cells #[.int .i64 C, .slice ah lh ch, .slice bh lbh cbh] 28)))
  have Xh23 := Lib.hid (Box.new w22 28 #[.int .i64 C, .slice ah lh ch, .slice bh lbh cbh])
  clear B22 Rw22 Xw22 Rg22 Xg22 Pz0_22 Pz2_22 Rh22
  go_wp2_with fail
  clear Xwz Xwc0 Xwc1 Xwc2
  clear Xgz Xgc0 Xgc1 Xgc2
  generalize w22.alloc (.cells #[.int .i64 C, .slice ah lh ch, .slice bh lbh cbh] 28) = w23 at *
  refine (eqPieces_t C _ _ _ _ _ _ psh psw _ _ _ _ _ _ Z _ Rh23.out.pl.pl Rw23.out.pl.pl (Vh.out.trans Vw.out.symm) Rh23.out.own.rd Rw23.out.own.rd).mono ?_
  rintro e w24 ⟨rfl, b1⟩
  have S24 := Lib.hid b1.size
  have B24 := Lib.hid (B23.out.trans (b1.mono B23.out.size))
  have Rw24 := Lib.hid (Rw23.out.below b1)
  have Xw24 := Lib.hid (Xw23.out.below b1 Xw23.out.lt)
  have Rg24 := Lib.hid (Rg23.out.below b1)
  have Xg24 := Lib.hid (Xg23.out.below b1 Xg23.out.lt)
  have Pz0_24 := Lib.hid (Pz0_23.out.below b1)
  have Pz2_24 := Lib.hid (Pz2_23.out.below b1)
  have Rh24 := Lib.hid (Rh23.out.below b1)
  have Xh24 := Lib.hid (Xh23.out.below b1 Xh23.out.lt)
  clear b1 B23 Rw23 Xw23 Rg23 Xg23 Pz0_23 Pz2_23 Rh23 Xh23
  obtain ⟨_, Xgc0, Xgc1, Xgc2⟩ := Xg24.out.three
  go_wp2_with fail
  clear Xgc0 Xgc1 Xgc2
  refine (HK.out _ Rg24.out.pl.pl Rg24.out.own.rd).mono ?_
  rintro e w25 ⟨rfl, b1⟩
  have S25 := Lib.hid b1.size
  have B25 := Lib.hid (B24.out.trans (b1.mono B24.out.size))
  have Rw25 := Lib.hid (Rw24.out.below b1)
  have Xw25 := Lib.hid (Xw24.out.below b1 Xw24.out.lt)
  have Rg25 := Lib.hid (Rg24.out.below b1)
  have Xg25 := Lib.hid (Xg24.out.below b1 Xg24.out.lt)
  have Pz0_25 := Lib.hid (Pz0_24.out.below b1)
  have Pz2_25 := Lib.hid (Pz2_24.out.below b1)
  have Rh25 := Lib.hid (Rh24.out.below b1)
  have Xh25 := Lib.hid (Xh24.out.below b1 Xh24.out.lt)
  clear b1 B24 Rw24 Xw24 Rg24 Xg24 Pz0_24 Pz2_24 Rh24 Xh24
  go_wp2
  go_ret
  exact ⟨rfl, B25.out⟩
end Go.Proofs.Ytimlobhlcmghfaa
