/-
  The exact law of CutPiece.
-/
import Derived.Test.YtlmglepphjpohaaP6W
import Derived.Test.YtlmglepphjpohaaP6G
import Derived.Test.YtlmglepphjpohaaP6X
namespace Go.Proofs.Ytlmglepphjpohaa
open Go.ChangeShapes Go.WideShapes Go.ChangeAt Go.RowKit

set_option maxHeartbeats 4000000 in
theorem exactCutPiece (x0 : Int) (a1 : Option Addr) (len1 cap1 : Nat) (zs1 : List Int) (x2 : Int) (w : World) (h1 : Rd w a1 len1 cap1 zs1) :
    Calls Try.prog 9 #[.int .i64 x0, .slice a1 len1 cap1, .int .i64 x2] w fun e w' => e = .returned (.bool true) ∧ Below w.heap.size w w' := by
  have hm1 : len1 ≤ maxLen := Nat.le_trans h1.le h1.max
  unfold maxLen at hm1
  by_cases hs1 : len1 ≤ 1048576
  case neg =>
    have hb1 : (1048576 : Int) < (len1 : Int) := by omega
    clear h1
    go_enter Try.func9, Try.ntmps9
    go_wp2
    go_ret
    exact ⟨rfl, Below.refl _ _⟩
  have hn1 : ¬ (1048576 : Int) < (len1 : Int) := by omega
  have T1 := Lib.hid (fun W (hW : Below w.heap.size w W) => toByteS_any a1 len1 cap1 zs1 W (h1.below hW) hs1)
  have HB := Lib.hid (cu_bound x0 zs1 x2 (by rw [h1.length]; exact hs1))
  obtain ⟨C, hC⟩ : ∃ C, C = cuC x0 zs1 x2 := ⟨_, rfl⟩
  obtain ⟨V, hV⟩ : ∃ V, V = cuL x0 zs1 x2 := ⟨_, rfl⟩
  obtain ⟨Z, hZ⟩ : ∃ Z, Z = ([] : List Int) := ⟨_, rfl⟩
  rw [← hV, ← hZ] at HB
  have Kspec := Lib.hid (show ∀ (W : World) (y1 : Option Addr) (n1 : Nat) (g1 : Rd W y1 len1 n1 zs1), Calls Try.prog 28 #[.int .i64 x0, .slice y1 len1 n1, .int .i64 x2] W (PrOut W C V Z) from fun W y1 n1 g1 => by
    have q := specCutPiece x0 y1 len1 n1 zs1 x2 W g1 hs1
    rw [hC, hV, hZ]
    exact q)
  have Kimpl := Lib.hid (show ∀ (W : World) (y1 : Option Addr) (n1 : Nat) (g1 : Rd W y1 len1 n1 zs1), Calls Try.prog 27 #[.int .i64 x0, .slice y1 len1 n1, .int .i64 x2] W (PrOut W C V Z) from fun W y1 n1 g1 => by
    have q := implCutPiece x0 y1 len1 n1 zs1 x2 W g1 hs1
    rw [hC, hV, hZ]
    exact q)
  clear h1 hC hV hZ
  go_enter Try.func9, Try.ntmps9
  have B0 := Lib.hid (Below.refl w.heap.size w)
  go_wp2_with fail
  refine (T1.out _ B0.out).mono ?_
  rintro e w1 ⟨rfl, p1, b1⟩
  have Ps1_1 := Lib.hid p1
  have SXs1 := Lib.hid (p1.lt _ rfl).2
  dsimp only at SXs1
  clear p1
  have S1 := Lib.hid b1.size
  have B1 := Lib.hid (B0.out.trans (b1.mono B0.out.size))
  clear b1 B0
  go_wp2_with fail
  refine (Kspec.out _ (some ⟨w.heap.size, 0, none⟩) len1 Ps1_1.out.rd).mono ?_
  rintro e w2 ⟨aw, lw, cw, psw, bw, lbw, cbw, rfl, p1, v1, b1⟩
  have Vw := Lib.hid v1
  have Rw2 := Lib.hid p1
  clear p1 v1
  have S2 := Lib.hid b1.size
  have B2 := Lib.hid (B1.out.trans (b1.mono B1.out.size))
  have Ps1_2 := Lib.hid (Ps1_1.out.below b1)
  clear b1 B1 Ps1_1
  have S3 := Lib.hid (show w2.heap.size < (w2.alloc (.cells #[.int .i64 C, .slice aw lw cw, .slice bw lbw cbw] 28)).heap.size by simp)
  have B3 := Lib.hid (B2.out.alloc B2.out.size (.cells #[.int .i64 C, .slice aw lw cw, .slice bw lbw cbw] 28))
  have Ps1_3 := Lib.hid (Ps1_2.out.below ((Below.refl _ w2).alloc (Nat.le_refl _) (.cells #[.int .i64 C, .slice aw lw cw, .slice bw lbw cbw] 28)))
  have Rw3 := Lib.hid (Rw2.out.below ((Below.refl _ w2).alloc (Nat.le_refl _) (.cells #[.int .i64 C, .slice aw lw cw, .slice bw lbw cbw] 28)))
  have Xw3 := Lib.hid (Box.new w2 28 #[.int .i64 C, .slice aw lw cw, .slice bw lbw cbw])
  clear B2 Ps1_2 Rw2
  clear Ps1_3
  go_wp2_with fail
  generalize w2.alloc (.cells #[.int .i64 C, .slice aw lw cw, .slice bw lbw cbw] 28) = w3 at *
  refine (T1.out _ B3.out).mono ?_
  rintro e w4 ⟨rfl, p1, b1⟩
  have Px1_4 := Lib.hid p1
  have SXx1 := Lib.hid (p1.lt _ rfl).2
  dsimp only at SXx1
  clear p1
  have S4 := Lib.hid b1.size
  have B4 := Lib.hid (B3.out.trans (b1.mono B3.out.size))
  have Rw4 := Lib.hid (Rw3.out.below b1)
  have Xw4 := Lib.hid (Xw3.out.below b1 Xw3.out.lt)
  clear b1 B3 Rw3 Xw3
  go_wp2_with fail
  refine (Kimpl.out _ (some ⟨w3.heap.size, 0, none⟩) len1 Px1_4.out.rd).mono ?_
  rintro e w5 ⟨ag, lg, cg, psg, bg, lbg, cbg, rfl, p1, v1, b1⟩
  have Vg := Lib.hid v1
  have Rg5 := Lib.hid p1
  clear p1 v1
  have S5 := Lib.hid b1.size
  have B5 := Lib.hid (B4.out.trans (b1.mono B4.out.size))
  have Rw5 := Lib.hid (Rw4.out.below b1)
  have Xw5 := Lib.hid (Xw4.out.below b1 Xw4.out.lt)
  have Px1_5 := Lib.hid (Px1_4.out.below b1)
  clear b1 B4 Rw4 Xw4 Px1_4
  obtain ⟨Xwz, Xwc0, Xwc1, Xwc2⟩ := Xw5.out.three
  have S6 := Lib.hid (show w5.heap.size < (w5.alloc (.cells #[.int .i64 C, .slice ag lg cg, .slice bg lbg cbg] 28)).heap.size by simp)
  have B6 := Lib.hid (B5.out.alloc B5.out.size (.cells #[.int .i64 C, .slice ag lg cg, .slice bg lbg cbg] 28))
  have Rw6 := Lib.hid (Rw5.out.below ((Below.refl _ w5).alloc (Nat.le_refl _) (.cells #[.int .i64 C, .slice ag lg cg, .slice bg lbg cbg] 28)))
  have Xw6 := Lib.hid (Xw5.out.alloc (.cells #[.int .i64 C, .slice ag lg cg, .slice bg lbg cbg] 28))
  have Px1_6 := Lib.hid (Px1_5.out.below ((Below.refl _ w5).alloc (Nat.le_refl _) (.cells #[.int .i64 C, .slice ag lg cg, .slice bg lbg cbg] 28)))
  have Rg6 := Lib.hid (Rg5.out.below ((Below.refl _ w5).alloc (Nat.le_refl _) (.cells #[.int .i64 C, .slice ag lg cg, .slice bg lbg cbg] 28)))
  have Xg6 := Lib.hid (Box.new w5 28 #[.int .i64 C, .slice ag lg cg, .slice bg lbg cbg])
  clear B5 Rw5 Xw5 Px1_5 Rg5
  go_wp2_with fail
  clear Xwz Xwc0 Xwc1 Xwc2
  generalize w5.alloc (.cells #[.int .i64 C, .slice ag lg cg, .slice bg lbg cbg] 28) = w6 at *
  refine (eqPieces_t C _ _ _ _ _ _ psg psw _ _ _ _ _ _ Z _ Rg6.out.pl.pl Rw6.out.pl.pl (Vg.out.trans Vw.out.symm) Rg6.out.own.rd Rw6.out.own.rd).mono ?_
  rintro e w7 ⟨rfl, b1⟩
  have S7 := Lib.hid b1.size
  have B7 := Lib.hid (B6.out.trans (b1.mono B6.out.size))
  have Rw7 := Lib.hid (Rw6.out.below b1)
  have Xw7 := Lib.hid (Xw6.out.below b1 Xw6.out.lt)
  have Px1_7 := Lib.hid (Px1_6.out.below b1)
  have Rg7 := Lib.hid (Rg6.out.below b1)
  have Xg7 := Lib.hid (Xg6.out.below b1 Xg6.out.lt)
  clear b1 B6 Rw6 Xw6 Px1_6 Rg6 Xg6
  go_wp2_with fail
  refine (T1.out _ B7.out).mono ?_
  rintro e w8 ⟨rfl, p1, b1⟩
  have Py1_8 := Lib.hid p1
  have SXy1 := Lib.hid (p1.lt _ rfl).2
  dsimp only at SXy1
  clear p1
  have S8 := Lib.hid b1.size
  have B8 := Lib.hid (B7.out.trans (b1.mono B7.out.size))
  have Rw8 := Lib.hid (Rw7.out.below b1)
  have Xw8 := Lib.hid (Xw7.out.below b1 Xw7.out.lt)
  have Px1_8 := Lib.hid (Px1_7.out.below b1)
  have Rg8 := Lib.hid (Rg7.out.below b1)
  have Xg8 := Lib.hid (Xg7.out.below b1 Xg7.out.lt)
  clear b1 B7 Rw7 Xw7 Px1_7 Rg7 Xg7
  go_wp2_with fail
  have KE := eqByteS_any (some ⟨w3.heap.size, 0, none⟩) (some ⟨w7.heap.size, 0, none⟩) len1 len1 len1 len1 zs1 zs1 _ Px1_8.out.rd Py1_8.out.rd
  rw [show eqL zs1 zs1 = true from decide_eq_true rfl] at KE
  refine KE.mono ?_
  clear KE
  rintro e w9 ⟨rfl, b1⟩
  have S9 := Lib.hid b1.size
  have B9 := Lib.hid (B8.out.trans (b1.mono B8.out.size))
  have Rw9 := Lib.hid (Rw8.out.below b1)
  have Xw9 := Lib.hid (Xw8.out.below b1 Xw8.out.lt)
  have Px1_9 := Lib.hid (Px1_8.out.below b1)
  have Rg9 := Lib.hid (Rg8.out.below b1)
  have Xg9 := Lib.hid (Xg8.out.below b1 Xg8.out.lt)
  have Py1_9 := Lib.hid (Py1_8.out.below b1)
  clear b1 B8 Rw8 Xw8 Px1_8 Rg8 Xg8 Py1_8
  clear Py1_9
  have MK := Lib.hid (markByteS_any (some ⟨w3.heap.size, 0, none⟩) len1 len1 w3.heap.size 1 zs1 _ Px1_9.out (by omega) (by omega))
  obtain ⟨M1, hM1⟩ : ∃ M, M = 1 + len1 := ⟨_, rfl⟩
  rw [← hM1] at MK
  have hMb1 : M1 ≤ 3000000 := by omega
  clear hM1
  go_wp2_with fail
  refine MK.out.mono ?_
  clear MK
  rintro e w10 ⟨rfl, p1, g1⟩
  have t1 : Turn w3.heap.size w4.heap.size w9 w10 := Turn.of_grown g1 (Nat.le_refl _) (by have q0 := SXs1.out; have q1 := S1.out; have q2 := S2.out; have q3 := S3.out; have q4 := SXx1.out; have q5 := S4.out; have q6 := S5.out; have q7 := S6.out; have q8 := S7.out; have q9 := SXy1.out; have q10 := S8.out; have q11 := S9.out; omega)
  clear g1 p1
  have S10 := Lib.hid t1.size
  have B10 := Lib.hid (B9.out.trans ((t1.mono (lo' := w.heap.size) (by have q0 := SXs1.out; have q1 := S1.out; have q2 := S2.out; have q3 := S3.out; have q4 := SXx1.out; have q5 := S4.out; have q6 := S5.out; have q7 := S6.out; have q8 := S7.out; have q9 := SXy1.out; have q10 := S8.out; have q11 := S9.out; have q12 := S10.out; omega) (Nat.le_refl _)).below B9.out.size))
  have Rw10 := Lib.hid (Rw9.out.turn t1 (.inl (by have q0 := SXs1.out; have q1 := S1.out; have q2 := S2.out; have q3 := S3.out; have q4 := SXx1.out; have q5 := S4.out; have q6 := S5.out; have q7 := S6.out; have q8 := S7.out; have q9 := SXy1.out; have q10 := S8.out; have q11 := S9.out; have q12 := S10.out; omega)))
  have Xw10 := Lib.hid (show Box w10 _ _ _ from (t1.block _ Xw9.out.lt (.inl (by have q0 := SXs1.out; have q1 := S1.out; have q2 := S2.out; have q3 := S3.out; have q4 := SXx1.out; have q5 := S4.out; have q6 := S5.out; have q7 := S6.out; have q8 := S7.out; have q9 := SXy1.out; have q10 := S8.out; have q11 := S9.out; have q12 := S10.out; omega))).trans Xw9.out)
  have Rg10 := Lib.hid (Rg9.out.turn t1 (.inr (by have q0 := SXs1.out; have q1 := S1.out; have q2 := S2.out; have q3 := S3.out; have q4 := SXx1.out; have q5 := S4.out; have q6 := S5.out; have q7 := S6.out; have q8 := S7.out; have q9 := SXy1.out; have q10 := S8.out; have q11 := S9.out; have q12 := S10.out; omega)))
  have Xg10 := Lib.hid (show Box w10 _ _ _ from (t1.block _ Xg9.out.lt (.inr (by have q0 := SXs1.out; have q1 := S1.out; have q2 := S2.out; have q3 := S3.out; have q4 := SXx1.out; have q5 := S4.out; have q6 := S5.out; have q7 := S6.out; have q8 := S7.out; have q9 := SXy1.out; have q10 := S8.out; have q11 := S9.out; have q12 := S10.out; omega))).trans Xg9.out)
  clear t1 B9 Rw9 Xw9 Px1_9 Rg9 Xg9
  have hnM : ¬ ((M1 : Nat) : Int) < 0 := by omega
  obtain ⟨_, Xgc0, Xgc1, Xgc2⟩ := Xg10.out.three
  obtain ⟨_, Xwc0, Xwc1, Xwc2⟩ := Xw10.out.three
  go_wp2_with fail
  clear Xgc0 Xgc1 Xgc2
  clear Xwc0 Xwc1 Xwc2
  refine (eqPieces_t C _ _ _ _ _ _ psg psw _ _ _ _ _ _ Z _ Rg10.out.pl.pl Rw10.out.pl.pl (Vg.out.trans Vw.out.symm) Rg10.out.own.rd Rw10.out.own.rd).mono ?_
  rintro e w11 ⟨rfl, b1⟩
  have S11 := Lib.hid b1.size
  have B11 := Lib.hid (B10.out.trans (b1.mono B10.out.size))
  have Rw11 := Lib.hid (Rw10.out.below b1)
  have Xw11 := Lib.hid (Xw10.out.below b1 Xw10.out.lt)
  have Rg11 := Lib.hid (Rg10.out.below b1)
  have Xg11 := Lib.hid (Xg10.out.below b1 Xg10.out.lt)
  clear b1 B10 Rw10 Xw10 Rg10 Xg10
  have hsg : szP psg ≤ 2097152 := by rw [szP_vals Rg11.out.pl.pl, Vg.out]; exact HB.out.1
  have hlg : lbg ≤ 2097152 := by rw [← Rg11.out.own.length]; exact HB.out.2
  have MK := Lib.hid (markPieces_any w4.heap.size w5.heap.size C ag lg cg 1 psg bg lbg cbg Z w11 Rg11.out (by have q0 := SXs1.out; have q1 := S1.out; have q2 := S2.out; have q3 := S3.out; have q4 := SXx1.out; have q5 := S4.out; have q6 := S5.out; have q7 := S6.out; have q8 := S7.out; have q9 := SXy1.out; have q10 := S8.out; have q11 := S9.out; have q12 := S10.out; have q13 := S11.out; omega) hsg hlg (by omega))
  have HK := Lib.hid (fun W (h : Pl W ag lg cg (markP 1 psg)) (hr : Rd W bg lbg cbg (marks (1 + szP psg) lbg)) => heldPieces_any C ag lg cg 1 psg bg lbg cbg W h hr hsg hlg (by omega))
  generalize 1 + szP psg + lbg = N at MK HK
  have hnN : ¬ ((N : Nat) : Int) < 0 := by omega
  have hneN : (((N : Nat) : Int) != ((N : Nat) : Int)) = false := by simp
  obtain ⟨_, Xgc0, Xgc1, Xgc2⟩ := Xg11.out.three
  go_wp2_with fail
  clear Xgc0 Xgc1 Xgc2
  refine MK.out.mono ?_
  clear MK
  rintro e w12 ⟨rfl, p1, t1⟩
  have Rg12 := Lib.hid p1
  clear p1
  have S12 := Lib.hid t1.size
  have B12 := Lib.hid (B11.out.trans ((t1.mono (lo' := w.heap.size) (by have q0 := SXs1.out; have q1 := S1.out; have q2 := S2.out; have q3 := S3.out; have q4 := SXx1.out; have q5 := S4.out; have q6 := S5.out; have q7 := S6.out; have q8 := S7.out; have q9 := SXy1.out; have q10 := S8.out; have q11 := S9.out; have q12 := S10.out; have q13 := S11.out; have q14 := S12.out; omega) (Nat.le_refl _)).below B11.out.size))
  have Rw12 := Lib.hid (Rw11.out.turn t1 (.inl (by have q0 := SXs1.out; have q1 := S1.out; have q2 := S2.out; have q3 := S3.out; have q4 := SXx1.out; have q5 := S4.out; have q6 := S5.out; have q7 := S6.out; have q8 := S7.out; have q9 := SXy1.out; have q10 := S8.out; have q11 := S9.out; have q12 := S10.out; have q13 := S11.out; have q14 := S12.out; omega)))
  have Xw12 := Lib.hid (show Box w12 _ _ _ from (t1.block _ Xw11.out.lt (.inl (by have q0 := SXs1.out; have q1 := S1.out; have q2 := S2.out; have q3 := S3.out; have q4 := SXx1.out; have q5 := S4.out; have q6 := S5.out; have q7 := S6.out; have q8 := S7.out; have q9 := SXy1.out; have q10 := S8.out; have q11 := S9.out; have q12 := S10.out; have q13 := S11.out; have q14 := S12.out; omega))).trans Xw11.out)
  have Xg12 := Lib.hid (show Box w12 _ _ _ from (t1.block _ Xg11.out.lt (.inr (by have q0 := SXs1.out; have q1 := S1.out; have q2 := S2.out; have q3 := S3.out; have q4 := SXx1.out; have q5 := S4.out; have q6 := S5.out; have q7 := S6.out; have q8 := S7.out; have q9 := SXy1.out; have q10 := S8.out; have q11 := S9.out; have q12 := S10.out; have q13 := S11.out; have q14 := S12.out; omega))).trans Xg11.out)
  clear t1 B11 Rw11 Xw11 Rg11 Xg11
  obtain ⟨_, Xgc0, Xgc1, Xgc2⟩ := Xg12.out.three
  go_wp2_with fail
  clear Xgc0 Xgc1 Xgc2
  refine (HK.out _ Rg12.out.pl.pl Rg12.out.own.rd).mono ?_
  rintro e w13 ⟨rfl, b1⟩
  have S13 := Lib.hid b1.size
  have B13 := Lib.hid (B12.out.trans (b1.mono B12.out.size))
  have Rw13 := Lib.hid (Rw12.out.below b1)
  have Xw13 := Lib.hid (Xw12.out.below b1 Xw12.out.lt)
  have Rg13 := Lib.hid (Rg12.out.below b1)
  have Xg13 := Lib.hid (Xg12.out.below b1 Xg12.out.lt)
  clear b1 B12 Rw12 Xw12 Rg12 Xg12
  go_wp2_with fail
  refine (T1.out _ B13.out).mono ?_
  rintro e w14 ⟨rfl, p1, b1⟩
  have Pz1_14 := Lib.hid p1
  have SXz1 := Lib.hid (p1.lt _ rfl).2
  dsimp only at SXz1
  clear p1
  have S14 := Lib.hid b1.size
  have B14 := Lib.hid (B13.out.trans (b1.mono B13.out.size))
  have Rw14 := Lib.hid (Rw13.out.below b1)
  have Xw14 := Lib.hid (Xw13.out.below b1 Xw13.out.lt)
  have Rg14 := Lib.hid (Rg13.out.below b1)
  have Xg14 := Lib.hid (Xg13.out.below b1 Xg13.out.lt)
  clear b1 B13 Rw13 Xw13 Rg13 Xg13
  go_wp2_with fail
  refine (Kimpl.out _ (some ⟨w13.heap.size, 0, none⟩) len1 Pz1_14.out.rd).mono ?_
  rintro e w15 ⟨ah, lh, ch, psh, bh, lbh, cbh, rfl, p1, v1, b1⟩
  have Vh := Lib.hid v1
  have Rh15 := Lib.hid p1
  clear p1 v1
  have S15 := Lib.hid b1.size
  have B15 := Lib.hid (B14.out.trans (b1.mono B14.out.size))
  have Rw15 := Lib.hid (Rw14.out.below b1)
  have Xw15 := Lib.hid (Xw14.out.below b1 Xw14.out.lt)
  have Rg15 := Lib.hid (Rg14.out.below b1)
  have Xg15 := Lib.hid (Xg14.out.below b1 Xg14.out.lt)
  have Pz1_15 := Lib.hid (Pz1_14.out.below b1)
  clear b1 B14 Rw14 Xw14 Rg14 Xg14 Pz1_14
  obtain ⟨Xwz, Xwc0, Xwc1, Xwc2⟩ := Xw15.out.three
  obtain ⟨Xgz, Xgc0, Xgc1, Xgc2⟩ := Xg15.out.three
  have S16 := Lib.hid (show w15.heap.size < (w15.alloc (.cells #[.int .i64 C, .slice ah lh ch, .slice bh lbh cbh] 28)).heap.size by simp)
  have B16 := Lib.hid (B15.out.alloc B15.out.size (.cells #[.int .i64 C, .slice ah lh ch, .slice bh lbh cbh] 28))
  have Rw16 := Lib.hid (Rw15.out.below ((Below.refl _ w15).alloc (Nat.le_refl _) (.cells #[.int .i64 C, .slice ah lh ch, .slice bh lbh cbh] 28)))
  have Xw16 := Lib.hid (Xw15.out.alloc (.cells #[.int .i64 C, .slice ah lh ch, .slice bh lbh cbh] 28))
  have Rg16 := Lib.hid (Rg15.out.below ((Below.refl _ w15).alloc (Nat.le_refl _) (.cells #[.int .i64 C, .slice ah lh ch, .slice bh lbh cbh] 28)))
  have Xg16 := Lib.hid (Xg15.out.alloc (.cells #[.int .i64 C, .slice ah lh ch, .slice bh lbh cbh] 28))
  have Pz1_16 := Lib.hid (Pz1_15.out.below ((Below.refl _ w15).alloc (Nat.le_refl _) (.cells #[.int .i64 C, .slice ah lh ch, .slice bh lbh cbh] 28)))
  have Rh16 := Lib.hid (Rh15.out.below ((Below.refl _ w15).alloc (Nat.le_refl _) (.cells #[.int .i64 C, .slice ah lh ch, .slice bh lbh cbh] 28)))
  have Xh16 := Lib.hid (Box.new w15 28 #[.int .i64 C, .slice ah lh ch, .slice bh lbh cbh])
  clear B15 Rw15 Xw15 Rg15 Xg15 Pz1_15 Rh15
  go_wp2_with fail
  clear Xwz Xwc0 Xwc1 Xwc2
  clear Xgz Xgc0 Xgc1 Xgc2
  generalize w15.alloc (.cells #[.int .i64 C, .slice ah lh ch, .slice bh lbh cbh] 28) = w16 at *
  refine (eqPieces_t C _ _ _ _ _ _ psh psw _ _ _ _ _ _ Z _ Rh16.out.pl.pl Rw16.out.pl.pl (Vh.out.trans Vw.out.symm) Rh16.out.own.rd Rw16.out.own.rd).mono ?_
  rintro e w17 ⟨rfl, b1⟩
  have S17 := Lib.hid b1.size
  have B17 := Lib.hid (B16.out.trans (b1.mono B16.out.size))
  have Rw17 := Lib.hid (Rw16.out.below b1)
  have Xw17 := Lib.hid (Xw16.out.below b1 Xw16.out.lt)
  have Rg17 := Lib.hid (Rg16.out.below b1)
  have Xg17 := Lib.hid (Xg16.out.below b1 Xg16.out.lt)
  have Pz1_17 := Lib.hid (Pz1_16.out.below b1)
  have Rh17 := Lib.hid (Rh16.out.below b1)
  have Xh17 := Lib.hid (Xh16.out.below b1 Xh16.out.lt)
  clear b1 B16 Rw16 Xw16 Rg16 Xg16 Pz1_16 Rh16 Xh16
  obtain ⟨_, Xgc0, Xgc1, Xgc2⟩ := Xg17.out.three
  go_wp2_with fail
  clear Xgc0 Xgc1 Xgc2
  refine (HK.out _ Rg17.out.pl.pl Rg17.out.own.rd).mono ?_
  rintro e w18 ⟨rfl, b1⟩
  have S18 := Lib.hid b1.size
  have B18 := Lib.hid (B17.out.trans (b1.mono B17.out.size))
  have Rw18 := Lib.hid (Rw17.out.below b1)
  have Xw18 := Lib.hid (Xw17.out.below b1 Xw17.out.lt)
  have Rg18 := Lib.hid (Rg17.out.below b1)
  have Xg18 := Lib.hid (Xg17.out.below b1 Xg17.out.lt)
  have Pz1_18 := Lib.hid (Pz1_17.out.below b1)
  have Rh18 := Lib.hid (Rh17.out.below b1)
  have Xh18 := Lib.hid (Xh17.out.below b1 Xh17.out.lt)
  clear b1 B17 Rw17 Xw17 Rg17 Xg17 Pz1_17 Rh17 Xh17
  go_wp2
  go_ret
  exact ⟨rfl, B18.out⟩
end Go.Proofs.Ytlmglepphjpohaa
