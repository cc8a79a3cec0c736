/-
  The exact laws of LearnEntry and AgeCache, out of the contracts of both sides.
-/
import Derived.Test.YtimlobhlcmghfaaE8R
namespace Go.Proofs.Ytimlobhlcmghfaa
open Go.ChangeShapes Go.WideShapes Go.ChangeAt Go.RowKit

set_option maxHeartbeats 4000000 in
theorem exactLearnEntry_of (a : Option Addr) (len cap : Nat) (es : List En) (x1 x2 x3 : Int) (C : Int) (V : List En) (w : World) (h : Le w a len cap es) (hV : V.length ≤ 1048576)
    (hS : ∀ W y n, len ≤ 1048576 → Le W y len n es → Calls Try.prog 36 #[.slice y len n, .int .i64 x1, .int .i64 x2, .int .i64 x3] W (CaOut W C V))
    (hI : ∀ W y n, len ≤ 1048576 → Le W y len n es → Calls Try.prog 30 #[.slice y len n, .int .i64 x1, .int .i64 x2, .int .i64 x3] W (CaOut W C V)) :
    Calls Try.prog 7 #[.slice a len cap, .int .i64 x1, .int .i64 x2, .int .i64 x3] w fun e w' => e = .returned (.bool true) ∧ Below w.heap.size w w' := by
  by_cases hs : len ≤ 1048576
  case neg =>
    have Z := Lib.hid (szEntryS_f a len cap 1048576 w hs (by omega) (Nat.le_trans h.le h.max))
    clear h hs hS hI hV
    go_enter Try.func7, Try.ntmps7
    go_wp2_with fail
    refine Z.out.mono ?_
    rintro e w1 ⟨rfl, rfl⟩
    clear Z
    go_wp2
    go_ret
    exact ⟨rfl, Below.refl _ _⟩
  have Z0 := Lib.hid (szEntryS_t a len cap 1048576 w hs (by omega))
  have T0 := Lib.hid (fun W (hW : Below w.heap.size w W) => toEntryS_any a len cap es W (h.below hW) hs)
  have hn0 : ¬ ((1048576 - len : Nat) : Int) < 0 := by omega
  have KS := Lib.hid (fun W y n g => hS W y n hs g)
  have KI := Lib.hid (fun W y n g => hI W y n hs g)
  have HV := Lib.hid hV
  have HLE := Lib.hid h.length
  clear h hS hI hV
  generalize 1048576 - len = r0 at *
  go_enter Try.func7, Try.ntmps7
  have B0 := Lib.hid (Below.refl w.heap.size w)
  go_wp2_with fail
  refine Z0.out.mono ?_
  rintro e w1 ⟨rfl, rfl⟩
  clear Z0
  go_wp2_with fail
  refine (T0.out _ B0.out).mono ?_
  rintro e w1 ⟨bas, cas, rfl, p1, b1⟩
  have Ps_1 := Lib.hid (p1.eo (fun x hx => (p1.lt x hx).2))
  clear p1
  have S1 := Lib.hid b1.size
  have B1 := Lib.hid (B0.out.trans (b1.mono B0.out.size))
  clear b1 B0
  go_wp2_with fail
  refine (KS.out _ bas cas Ps_1.out.le).mono ?_
  rintro e w2 ⟨aw, lw, cw, rfl, p1, b1⟩
  have Rw2 := Lib.hid p1
  clear p1
  have S2 := Lib.hid b1.size
  have B2 := Lib.hid (B1.out.trans (b1.mono B1.out.size))
  have Ps_2 := Lib.hid (Ps_1.out.below b1)
  clear b1 B1 Ps_1
  have S3 := Lib.hid (show w2.heap.size < (w2.alloc (.cells #[.int .i64 C, .slice aw lw cw] 44)).heap.size by simp)
  have B3 := Lib.hid (B2.out.alloc B2.out.size (.cells #[.int .i64 C, .slice aw lw cw] 44))
  have Ps_3 := Lib.hid (Ps_2.out.below ((Below.refl _ w2).alloc (Nat.le_refl _) (.cells #[.int .i64 C, .slice aw lw cw] 44)))
  have Rw3 := Lib.hid (Rw2.out.below ((Below.refl _ w2).alloc (Nat.le_refl _) (.cells #[.int .i64 C, .slice aw lw cw] 44)))
  have Xw3 := Lib.hid (Box.new w2 44 #[.int .i64 C, .slice aw lw cw])
  clear B2 Ps_2 Rw2
  clear Ps_3
  go_wp2_with fail
  generalize w2.alloc (.cells #[.int .i64 C, .slice aw lw cw] 44) = w3 at *
  refine (T0.out _ B3.out).mono ?_
  rintro e w4 ⟨bax, cax, rfl, p1, b1⟩
  have Px_4 := Lib.hid (p1.eo (fun x hx => (p1.lt x hx).2))
  clear p1
  have S4 := Lib.hid b1.size
  have B4 := Lib.hid (B3.out.trans (b1.mono B3.out.size))
  have Rw4 := Lib.hid (Rw3.out.below b1)
  have Xw4 := Lib.hid (Xw3.out.below b1 Xw3.out.lt)
  clear b1 B3 Rw3 Xw3
  go_wp2_with fail
  refine (KI.out _ bax cax Px_4.out.le).mono ?_
  rintro e w5 ⟨ag, lg, cg, rfl, p1, b1⟩
  have Rg5 := Lib.hid p1
  clear p1
  have S5 := Lib.hid b1.size
  have B5 := Lib.hid (B4.out.trans (b1.mono B4.out.size))
  have Rw5 := Lib.hid (Rw4.out.below b1)
  have Xw5 := Lib.hid (Xw4.out.below b1 Xw4.out.lt)
  have Px_5 := Lib.hid (Px_4.out.below b1)
  clear b1 B4 Rw4 Xw4 Px_4
  obtain ⟨Xwz, Xwc0, Xwc1⟩ := Xw5.out.pair
  have S6 := Lib.hid (show w5.heap.size < (w5.alloc (.cells #[.int .i64 C, .slice ag lg cg] 44)).heap.size by simp)
  have B6 := Lib.hid (B5.out.alloc B5.out.size (.cells #[.int .i64 C, .slice ag lg cg] 44))
  have Rw6 := Lib.hid (Rw5.out.below ((Below.refl _ w5).alloc (Nat.le_refl _) (.cells #[.int .i64 C, .slice ag lg cg] 44)))
  have Xw6 := Lib.hid (Xw5.out.alloc (.cells #[.int .i64 C, .slice ag lg cg] 44))
  have Px_6 := Lib.hid (Px_5.out.below ((Below.refl _ w5).alloc (Nat.le_refl _) (.cells #[.int .i64 C, .slice ag lg cg] 44)))
  have Rg6 := Lib.hid (Rg5.out.below ((Below.refl _ w5).alloc (Nat.le_refl _) (.cells #[.int .i64 C, .slice ag lg cg] 44)))
  have Xg6 := Lib.hid (Box.new w5 44 #[.int .i64 C, .slice ag lg cg])
  clear B5 Rw5 Xw5 Px_5 Rg5
  go_wp2_with fail
  clear Xwz Xwc0 Xwc1
  generalize w5.alloc (.cells #[.int .i64 C, .slice ag lg cg] 44) = w6 at *
  refine (eqCache_t C _ _ _ _ _ _ V _ Rg6.out.le Rw6.out.le).mono ?_
  rintro e w7 ⟨rfl, b1⟩
  have S7 := Lib.hid b1.size
  have B7 := Lib.hid (B6.out.trans (b1.mono B6.out.size))
  have Rw7 := Lib.hid (Rw6.out.below b1)
  have Xw7 := Lib.hid (Xw6.out.below b1 Xw6.out.lt)
  have Px_7 := Lib.hid (Px_6.out.below b1)
  have Rg7 := Lib.hid (Rg6.out.below b1)
  have Xg7 := Lib.hid (Xg6.out.below b1 Xg6.out.lt)
  clear b1 B6 Rw6 Xw6 Px_6 Rg6 Xg6
  go_wp2_with fail
  refine (T0.out _ B7.out).mono ?_
  rintro e w8 ⟨bay, cay, rfl, p1, b1⟩
  have Py_8 := Lib.hid (p1.eo (fun x hx => (p1.lt x hx).2))
  clear p1
  have S8 := Lib.hid b1.size
  have B8 := Lib.hid (B7.out.trans (b1.mono B7.out.size))
  have Rw8 := Lib.hid (Rw7.out.below b1)
  have Xw8 := Lib.hid (Xw7.out.below b1 Xw7.out.lt)
  have Px_8 := Lib.hid (Px_7.out.below b1)
  have Rg8 := Lib.hid (Rg7.out.below b1)
  have Xg8 := Lib.hid (Xg7.out.below b1 Xg7.out.lt)
  clear b1 B7 Rw7 Xw7 Px_7 Rg7 Xg7
  go_wp2_with fail
  have KE := eqEntryS_any bax bay len cax len cay es es _ Px_8.out.le Py_8.out.le
  rw [eqE_refl] at KE
  refine KE.mono ?_
  clear KE
  rintro e w9 ⟨rfl, b1⟩
  have S9 := Lib.hid b1.size
  have B9 := Lib.hid (B8.out.trans (b1.mono B8.out.size))
  have Rw9 := Lib.hid (Rw8.out.below b1)
  have Xw9 := Lib.hid (Xw8.out.below b1 Xw8.out.lt)
  have Px_9 := Lib.hid (Px_8.out.below b1)
  have Rg9 := Lib.hid (Rg8.out.below b1)
  have Xg9 := Lib.hid (Xg8.out.below b1 Xg8.out.lt)
  have Py_9 := Lib.hid (Py_8.out.below b1)
  clear b1 B8 Rw8 Xw8 Px_8 Rg8 Xg8 Py_8
  clear Py_9
  have MK := Lib.hid (markEntryS_any _ _ bax len cax 1 es _ Px_9.out (by omega) (by omega))
  obtain ⟨M, hM⟩ : ∃ M, M = 1 + len * 3 := ⟨_, rfl⟩
  rw [← hM] at MK
  have hMb : M ≤ 4000000 := by omega
  clear hM
  go_wp2_with fail
  refine MK.out.mono ?_
  clear MK
  rintro e w10 ⟨rfl, p1, t1⟩
  clear p1
  have S10 := Lib.hid t1.size
  have B10 := Lib.hid (B9.out.trans ((t1.mono (lo' := w.heap.size) (by have q0 := S1.out; have q1 := S2.out; have q2 := S3.out; have q3 := S4.out; have q4 := S5.out; have q5 := S6.out; have q6 := S7.out; have q7 := S8.out; have q8 := S9.out; have q9 := S10.out; omega) (Nat.le_refl _)).below B9.out.size))
  have Rw10 := Lib.hid (Rw9.out.turn t1 (.inl (by have q0 := S1.out; have q1 := S2.out; have q2 := S3.out; have q3 := S4.out; have q4 := S5.out; have q5 := S6.out; have q6 := S7.out; have q7 := S8.out; have q8 := S9.out; have q9 := S10.out; omega)))
  have Xw10 := Lib.hid (show Box w10 _ _ _ from (t1.block _ Xw9.out.lt (.inl (by have q0 := S1.out; have q1 := S2.out; have q2 := S3.out; have q3 := S4.out; have q4 := S5.out; have q5 := S6.out; have q6 := S7.out; have q7 := S8.out; have q8 := S9.out; have q9 := S10.out; omega))).trans Xw9.out)
  have Rg10 := Lib.hid (Rg9.out.turn t1 (.inr (by have q0 := S1.out; have q1 := S2.out; have q2 := S3.out; have q3 := S4.out; have q4 := S5.out; have q5 := S6.out; have q6 := S7.out; have q7 := S8.out; have q8 := S9.out; have q9 := S10.out; omega)))
  have Xg10 := Lib.hid (show Box w10 _ _ _ from (t1.block _ Xg9.out.lt (.inr (by have q0 := S1.out; have q1 := S2.out; have q2 := S3.out; have q3 := S4.out; have q4 := S5.out; have q5 := S6.out; have q6 := S7.out; have q7 := S8.out; have q8 := S9.out; have q9 := S10.out; omega))).trans Xg9.out)
  clear t1 B9 Rw9 Xw9 Px_9 Rg9 Xg9
  have hnM : ¬ ((M : Nat) : Int) < 0 := by omega
  obtain ⟨_, Xgc0, Xgc1⟩ := Xg10.out.pair
  obtain ⟨_, Xwc0, Xwc1⟩ := Xw10.out.pair
  go_wp2_with fail
  clear Xgc0 Xgc1
  clear Xwc0 Xwc1
  refine (eqCache_t C _ _ _ _ _ _ V _ Rg10.out.le Rw10.out.le).mono ?_
  rintro e w11 ⟨rfl, b1⟩
  have S11 := Lib.hid b1.size
  have B11 := Lib.hid (B10.out.trans (b1.mono B10.out.size))
  have Rw11 := Lib.hid (Rw10.out.below b1)
  have Xw11 := Lib.hid (Xw10.out.below b1 Xw10.out.lt)
  have Rg11 := Lib.hid (Rg10.out.below b1)
  have Xg11 := Lib.hid (Xg10.out.below b1 Xg10.out.lt)
  clear b1 B10 Rw10 Xw10 Rg10 Xg10
  have hlg : lg ≤ 1048576 := by rw [← Rg11.out.le.length]; exact HV.out
  have MK := Lib.hid (markCache_any w4.heap.size w5.heap.size C ag lg cg 1 V w11 Rg11.out hlg (by omega))
  have HK := Lib.hid (fun W (h : Le W ag lg cg (markE 1 V)) => heldCache_any C ag lg cg 1 V W h hlg (by omega))
  generalize 1 + lg * 3 = N at MK HK
  have hnN : ¬ ((N : Nat) : Int) < 0 := by omega
  have hneN : (((N : Nat) : Int) != ((N : Nat) : Int)) = false := by simp
  obtain ⟨_, Xgc0, Xgc1⟩ := Xg11.out.pair
  go_wp2_with fail
  clear Xgc0 Xgc1
  refine MK.out.mono ?_
  clear MK
  rintro e w12 ⟨rfl, p1, t1⟩
  have Rg12 := Lib.hid p1
  clear p1
  have S12 := Lib.hid t1.size
  have B12 := Lib.hid (B11.out.trans ((t1.mono (lo' := w.heap.size) (by have q0 := S1.out; have q1 := S2.out; have q2 := S3.out; have q3 := S4.out; have q4 := S5.out; have q5 := S6.out; have q6 := S7.out; have q7 := S8.out; have q8 := S9.out; have q9 := S10.out; have q10 := S11.out; have q11 := S12.out; omega) (Nat.le_refl _)).below B11.out.size))
  have Rw12 := Lib.hid (Rw11.out.turn t1 (.inl (by have q0 := S1.out; have q1 := S2.out; have q2 := S3.out; have q3 := S4.out; have q4 := S5.out; have q5 := S6.out; have q6 := S7.out; have q7 := S8.out; have q8 := S9.out; have q9 := S10.out; have q10 := S11.out; have q11 := S12.out; omega)))
  have Xw12 := Lib.hid (show Box w12 _ _ _ from (t1.block _ Xw11.out.lt (.inl (by have q0 := S1.out; have q1 := S2.out; have q2 := S3.out; have q3 := S4.out; have q4 := S5.out; have q5 := S6.out; have q6 := S7.out; have q7 := S8.out; have q8 := S9.out; have q9 := S10.out; have q10 := S11.out; have q11 := S12.out; omega))).trans Xw11.out)
  have Xg12 := Lib.hid (show Box w12 _ _ _ from (t1.block _ Xg11.out.lt (.inr (by have q0 := S1.out; have q1 := S2.out; have q2 := S3.out; have q3 := S4.out; have q4 := S5.out; have q5 := S6.out; have q6 := S7.out; have q7 := S8.out; have q8 := S9.out; have q9 := S10.out; have q10 := S11.out; have q11 := S12.out; omega))).trans Xg11.out)
  clear t1 B11 Rw11 Xw11 Rg11 Xg11
  obtain ⟨_, Xgc0, Xgc1⟩ := Xg12.out.pair
  go_wp2_with fail
  clear Xgc0 Xgc1
  refine (HK.out _ Rg12.out.le).mono ?_
  rintro e w13 ⟨rfl, b1⟩
  have S13 := Lib.hid b1.size
  have B13 := Lib.hid (B12.out.trans (b1.mono B12.out.size))
  have Rw13 := Lib.hid (Rw12.out.below b1)
  have Xw13 := Lib.hid (Xw12.out.below b1 Xw12.out.lt)
  have Rg13 := Lib.hid (Rg12.out.below b1)
  have Xg13 := Lib.hid (Xg12.out.below b1 Xg12.out.lt)
  clear b1 B12 Rw12 Xw12 Rg12 Xg12
  go_wp2_with fail
  refine (T0.out _ B13.out).mono ?_
  rintro e w14 ⟨baz, caz, rfl, p1, b1⟩
  have Pz_14 := Lib.hid (p1.eo (fun x hx => (p1.lt x hx).2))
  clear p1
  have S14 := Lib.hid b1.size
  have B14 := Lib.hid (B13.out.trans (b1.mono B13.out.size))
  have Rw14 := Lib.hid (Rw13.out.below b1)
  have Xw14 := Lib.hid (Xw13.out.below b1 Xw13.out.lt)
  have Rg14 := Lib.hid (Rg13.out.below b1)
  have Xg14 := Lib.hid (Xg13.out.below b1 Xg13.out.lt)
  clear b1 B13 Rw13 Xw13 Rg13 Xg13
  go_wp2_with fail
  refine (KI.out _ baz caz Pz_14.out.le).mono ?_
  rintro e w15 ⟨ah, lh, ch, rfl, p1, b1⟩
  have Rh15 := Lib.hid p1
  clear p1
  have S15 := Lib.hid b1.size
  have B15 := Lib.hid (B14.out.trans (b1.mono B14.out.size))
  have Rw15 := Lib.hid (Rw14.out.below b1)
  have Xw15 := Lib.hid (Xw14.out.below b1 Xw14.out.lt)
  have Rg15 := Lib.hid (Rg14.out.below b1)
  have Xg15 := Lib.hid (Xg14.out.below b1 Xg14.out.lt)
  have Pz_15 := Lib.hid (Pz_14.out.below b1)
  clear b1 B14 Rw14 Xw14 Rg14 Xg14 Pz_14
  obtain ⟨Xwz, Xwc0, Xwc1⟩ := Xw15.out.pair
  obtain ⟨Xgz, Xgc0, Xgc1⟩ := Xg15.out.pair
  have S16 := Lib.hid (show w15.heap.size < (w15.alloc (.cells #[.int .i64 C, .slice ah lh ch] 44)).heap.size by simp)
  have B16 := Lib.hid (B15.out.alloc B15.out.size (.cells #[.int .i64 C, .slice ah lh ch] 44))
  have Rw16 := Lib.hid (Rw15.out.below ((Below.refl _ w15).alloc (Nat.le_refl _) (.cells #[.int .i64 C, .slice ah lh ch] 44)))
  have Xw16 := Lib.hid (Xw15.out.alloc (.cells #[.int .i64 C, .slice ah lh ch] 44))
  have Rg16 := Lib.hid (Rg15.out.below ((Below.refl _ w15).alloc (Nat.le_refl _) (.cells #[.int .i64 C, .slice ah lh ch] 44)))
  have Xg16 := Lib.hid (Xg15.out.alloc (.cells #[.int .i64 C, .slice ah lh ch] 44))
  have Pz_16 := Lib.hid (Pz_15.out.below ((Below.refl _ w15).alloc (Nat.le_refl _) (.cells #[.int .i64 C, .slice ah lh ch] 44)))
  have Rh16 := Lib.hid (Rh15.out.below ((Below.refl _ w15).alloc (Nat.le_refl _) (.cells #[.int .i64 C, .slice ah lh ch] 44)))
  have Xh16 := Lib.hid (Box.new w15 44 #[.int .i64 C, .slice ah lh ch])
  clear B15 Rw15 Xw15 Rg15 Xg15 Pz_15 Rh15
  go_wp2_with fail
  clear Xwz Xwc0 Xwc1
  clear Xgz Xgc0 Xgc1
  generalize w15.alloc (.cells #[.int .i64 C, .slice ah lh ch] 44) = w16 at *
  refine (eqCache_t C _ _ _ _ _ _ V _ Rh16.out.le Rw16.out.le).mono ?_
  rintro e w17 ⟨rfl, b1⟩
  have S17 := Lib.hid b1.size
  have B17 := Lib.hid (B16.out.trans (b1.mono B16.out.size))
  have Rw17 := Lib.hid (Rw16.out.below b1)
  have Xw17 := Lib.hid (Xw16.out.below b1 Xw16.out.lt)
  have Rg17 := Lib.hid (Rg16.out.below b1)
  have Xg17 := Lib.hid (Xg16.out.below b1 Xg16.out.lt)
  have Pz_17 := Lib.hid (Pz_16.out.below b1)
  have Rh17 := Lib.hid (Rh16.out.below b1)
  have Xh17 := Lib.hid (Xh16.out.below b1 Xh16.out.lt)
  clear b1 B16 Rw16 Xw16 Rg16 Xg16 Pz_16 Rh16 Xh16
  obtain ⟨_, Xgc0, Xgc1⟩ := Xg17.out.pair
  go_wp2_with fail
  clear Xgc0 Xgc1
  refine (HK.out _ Rg17.out.le).mono ?_
  rintro e w18 ⟨rfl, b1⟩
  have S18 := Lib.hid b1.size
  have B18 := Lib.hid (B17.out.trans (b1.mono B17.out.size))
  have Rw18 := Lib.hid (Rw17.out.below b1)
  have Xw18 := Lib.hid (Xw17.out.below b1 Xw17.out.lt)
  have Rg18 := Lib.hid (Rg17.out.below b1)
  have Xg18 := Lib.hid (Xg17.out.below b1 Xg17.out.lt)
  have Pz_18 := Lib.hid (Pz_17.out.below b1)
  have Rh18 := Lib.hid (Rh17.out.below b1)
  have Xh18 := Lib.hid (Xh17.out.below b1 Xh17.out.lt)
  clear b1 B17 Rw17 Xw17 Rg17 Xg17 Pz_17 Rh17 Xh17
  go_wp2
  go_ret
  exact ⟨rfl, B18.out⟩
end Go.Proofs.Ytimlobhlcmghfaa
