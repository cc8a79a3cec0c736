/-
  The law FnPieces.
-/
import Derived.Test.YtimlobhlcmghfaaD6X
import Derived.Test.YtimlobhlcmghfaaP6PP
import Derived.Test.YtimlobhlcmghfaaZPieces
import Derived.Deep.RegionHeld3
import Derived.Laws.StructEq
namespace Go.Proofs.Ytimlobhlcmghfaa
open Go.ChangeShapes Go.WideShapes Go.ChangeAt Go.RowKit

theorem lwSame6_t (a b : Option Addr) (la ca lb cb : Nat) (zs : List Int) (w : World) (ha : Rd w a la ca zs) (hb : Rd w b lb cb zs) :
    Calls Try.prog 28 #[.slice a la ca, .slice b lb cb] w fun e w' => e = .returned (.bool true) ∧ Below w.heap.size w w' := by
  have h1 := conv_rd ha
  have h2 := conv_rd hb
  generalize strOfNums zs = t at *
  clear ha hb
  go_enter Try.func28, Try.ntmps28
  go_wp2
  go_ret
  exact ⟨rfl, Below.refl _ _⟩
theorem field_pr2 (w : World) (c : Int) (a : Option Addr) (l k : Nat) (b : Option Addr) (m j : Nat) : (Instr.field 28 (.agg #[.int .i64 c, .slice a l k, .slice b m j]) 2).run Try.prog w = .ok (.slice b m j) w := by
  simp [Instr.field, asAgg, go_sem]
theorem field_ir61 (w : World) (c v : Int) : (Instr.field 37 (.agg #[.int .i64 c, .int .i64 v]) 1).run Try.prog w = .ok (.int .i64 v) w := by
  simp [Instr.field, asAgg, go_sem]
/-- what is put once more changes nothing -/
theorem pu_again {vs : List (Int × List Int)} {x : Int} {ys : List Int} (h : puC vs x ys = 0) : pfV vs = 0 ∧ pfV (puL vs x ys) = 0 ∧ puC (puL vs x ys) x ys = 0 ∧ puL (puL vs x ys) x ys = puL vs x ys ∧ sumV vs ≤ sumV (puL vs x ys) ∧ sumV (puL vs x ys) ≤ sumV vs + ys.length ∧ ys.length ≤ sumV (puL vs x ys) := by
  have hc := h
  unfold puC at hc
  by_cases h0 : pfV vs = 0
  · rw [if_pos h0] at hc
    by_cases h1 : spanB x ys.length = true
    · rw [if_pos h1] at hc
      by_cases h2 : (putV vs x ys).length ≤ 4
      · have hsp := of_decide_eq_true h1
        obtain ⟨X, rfl⟩ : ∃ X : Nat, x = X := ⟨x.toNat, by omega⟩
        have e : puL vs X ys = putV vs X ys := if_pos h
        have h3 := putV_ok (X := X) h0 (by omega) h2
        have h4 := putV_again (X := X) (zs := ys) h0 (by omega)
        have h5 := putV_sum (X := X) (zs := ys) h0 (by omega)
        rw [e]
        have h6 : puC (putV vs X ys) X ys = 0 := by unfold puC; rw [if_pos h3, if_pos h1, h4, if_pos h2]
        refine ⟨h0, h3, h6, ?_, h5⟩
        unfold puL
        rw [if_pos h6, h4]
      · rw [if_neg h2] at hc; omega
    · rw [if_neg h1] at hc; omega
  · rw [if_neg h0] at hc; exact absurd hc h0
theorem hv_of {vs : List (Int × List Int)} (h : pfV vs = 0) : hvV vs = sumV vs := if_pos h
theorem sumV_le {ps : List Pm} {w : World} {a : Option Addr} {n c : Nat} (h : Pl w a n c ps) (hn : n ≤ 5) (hd : ∀ p ∈ ps, p.l ≤ 2000) : sumV (vals ps) ≤ 10000 := by
  have hl := h.lb.length
  have key : ∀ (qs : List Pm), (∀ p ∈ qs, p ∈ ps) → sumV (vals qs) ≤ qs.length * 2000 := by
    intro qs
    induction qs with
    | nil => intro _; simp [vals, sumV]
    | cons q qs ih =>
      intro hq
      have h1 := ih (fun p hp => hq p (List.mem_cons_of_mem _ hp))
      have h2 := hd q (hq q (List.mem_cons_self ..))
      have h3 := (h.data q (hq q (List.mem_cons_self ..))).length
      show q.z.length + sumV (vals qs) ≤ (qs.length + 1) * 2000
      omega
  have := key ps (fun p hp => hp)
  omega

theorem pl_le {ps : List Pm} {w : World} {a : Option Addr} {n c : Nat} (h : Pl w a n c ps) {M : Nat} (hs : sumV (vals ps) ≤ M) : ∀ p ∈ ps, p.l ≤ M := by
  have key : ∀ (qs : List Pm), ∀ p ∈ qs, p.z.length ≤ sumV (vals qs) := by
    intro qs
    induction qs with
    | nil => intro p hp; cases hp
    | cons q qs ih =>
      intro p hp
      show p.z.length ≤ q.z.length + sumV (vals qs)
      rcases List.mem_cons.1 hp with h | h
      · subst h; omega
      · have := ih p h; omega
  intro p hp
  have h1 := key ps p hp
  have h2 := (h.data p hp).length
  omega

set_option maxRecDepth 20000 in
set_option maxHeartbeats 20000000 in
theorem pieces_law (a : Option Addr) (len cap : Nat) (zs : List Int) (w : World) (hr : Rd w a len cap zs) :
    Calls Try.prog 3 #[.slice a len cap] w fun e w' => e = .returned (.bool true) ∧ Below w.heap.size w w' := by
  by_cases hl : len ≤ 1048576
  case neg =>
    go_enter Try.func3, Try.ntmps3
    go_wp2_with fail
    refine (lwBig6_t a len cap w hl).mono ?_
    rintro e w1 ⟨rfl, rfl⟩
    go_wp2
    go_ret
    exact ⟨rfl, Below.refl _ _⟩
  have KB := Lib.hid (lwBig6_f a len cap w hl)
  have HR := Lib.hid hr
  clear hr
  have f0 := fun W c a l k b m j => field_pr0 W c a l k b m j
  have f1 := fun W c a l k b m j => field_pr1 W c a l k b m j
  have f2 := fun W c a l k b m j => field_pr2 W c a l k b m j
  have fi := fun W c v => field_ir61 W c v
  go_enter Try.func3, Try.ntmps3
  go_wp2_with fail
  refine KB.out.mono ?_
  rintro e w1 ⟨rfl, rfl⟩
  clear KB
  go_wp2_with fail
  refine (drawPutPiece a len cap zs _ HR.out hl).mono ?_
  rintro e w1 ⟨a0, n0, c0, ps, x, ad, ld, cd, ys, rfl, p0, hn0, hd0, rd0, hld, b1⟩
  have P0 := Lib.hid p0
  have D0 := Lib.hid rd0
  have H0 := Lib.hid hd0
  have B1 := Lib.hid b1
  have hys : ys.length = ld := rd0.length
  clear p0 rd0 hd0 b1
  go_wp2_with fail
  refine (implPutPiece a0 n0 c0 ps x ad ld cd ys w1 P0.out (fun p hp => by have := H0.out p hp; omega) D0.out (by omega)).mono ?_
  rintro e w2 ⟨a3, l3, c3, ps3, r3, lr3, cr3, rfl, q3, v3, b2⟩
  have P3 := Lib.hid (q3.pl.pl.alloc (.cells #[.int .i64 (puC (vals ps) x ys), .slice a3 l3 c3, .slice r3 lr3 cr3] 28))
  have V3 := Lib.hid v3
  have bA := b2.alloc b2.size (.cells #[.int .i64 (puC (vals ps) x ys), .slice a3 l3 c3, .slice r3 lr3 cr3] 28)
  have B2 := Lib.hid (B1.out.trans (bA.mono B1.out.size))
  have P0' := Lib.hid (P0.out.below bA)
  have D0' := Lib.hid (D0.out.below bA)
  have X2 := Lib.hid (Box.new w2 28 #[.int .i64 (puC (vals ps) x ys), .slice a3 l3 c3, .slice r3 lr3 cr3])
  clear q3 v3 b2 bA P0 D0 B1
  go_wp2_with fail
  generalize hgp : w2.heap.size = gp at *
  generalize w2.alloc (.cells #[.int .i64 (puC (vals ps) x ys), .slice a3 l3 c3, .slice r3 lr3 cr3] 28) = W2 at *
  clear hgp
  refine (drawTakeReady a len cap zs _ (HR.out.below B2.out) hl).mono ?_
  rintro e w4 ⟨am, nm, cm, pm, rfl, qm, hnm, hdm, b4⟩
  have PM := Lib.hid qm
  have HM := Lib.hid hdm
  have B4 := Lib.hid (B2.out.trans (b4.mono B2.out.size))
  have P04 := Lib.hid (P0'.out.below b4)
  have D04 := Lib.hid (D0'.out.below b4)
  have P34 := Lib.hid (P3.out.below b4)
  have X4 := Lib.hid (X2.out.below b4 X2.out.lt)
  clear qm hdm b4 B2 P0' D0' P3 X2
  go_wp2_with fail
  refine (implTakeReady am nm cm pm w4 PM.out (fun p hp => by have := HM.out p hp; omega)).mono ?_
  rintro e w5 ⟨a4, l4, c4, ps4, r4, lr4, cr4, rfl, q4, v4, b5⟩
  have P4 := Lib.hid (q4.pl.pl.alloc (.cells #[.int .i64 (pfV (vals pm)), .slice a4 l4 c4, .slice r4 lr4 cr4] 28))
  have R4 := Lib.hid (q4.own.rd.alloc (.cells #[.int .i64 (pfV (vals pm)), .slice a4 l4 c4, .slice r4 lr4 cr4] 28))
  have V4 := Lib.hid v4
  have bA := b5.alloc b5.size (.cells #[.int .i64 (pfV (vals pm)), .slice a4 l4 c4, .slice r4 lr4 cr4] 28)
  have B5 := Lib.hid (B4.out.trans (bA.mono B4.out.size))
  have P05 := Lib.hid (P04.out.below bA)
  have D05 := Lib.hid (D04.out.below bA)
  have P35 := Lib.hid (P34.out.below bA)
  have PM5 := Lib.hid (PM.out.below bA)
  have X5 := Lib.hid (X4.out.below bA X4.out.lt)
  have Y5 := Lib.hid (Box.new w5 28 #[.int .i64 (pfV (vals pm)), .slice a4 l4 c4, .slice r4 lr4 cr4])
  clear q4 v4 b5 bA P04 D04 P34 X4 PM B4
  go_wp2_with fail
  generalize hgt : w5.heap.size = gt at *
  generalize w5.alloc (.cells #[.int .i64 (pfV (vals pm)), .slice a4 l4 c4, .slice r4 lr4 cr4] 28) = W5 at *
  clear hgt
  refine (drawSamePieces a len cap zs _ (HR.out.below B5.out) hl).mono ?_
  rintro e W0 ⟨au, nu, cu, pu, av, nv, cv, pv, rfl, qu, qv, hnu, hnv, hdu, hdv, b7⟩
  have PU := Lib.hid qu
  have PV := Lib.hid qv
  have B0 := Lib.hid (B5.out.trans (b7.mono B5.out.size))
  have P0 := Lib.hid (P05.out.below b7)
  have D0 := Lib.hid (D05.out.below b7)
  have P3 := Lib.hid (P35.out.below b7)
  have PM := Lib.hid (PM5.out.below b7)
  have P4 := Lib.hid (P4.out.below b7)
  have R4 := Lib.hid (R4.out.below b7)
  have X0 := Lib.hid (X5.out.below b7 X5.out.lt)
  have Y0 := Lib.hid (Y5.out.below b7 Y5.out.lt)
  have HU := Lib.hid hdu
  have HV := Lib.hid hdv
  clear qu qv hdu hdv b7 P05 D05 P35 PM5 X5 Y5 B5 HR
  have PA := Lib.hid (fun h => pu_again (vs := vals ps) (x := x) (ys := ys) h)
  have LR := Lib.hid (fun h => left_right (vs := vals pm) h)
  have SB0 := Lib.hid (sumV_le P0.out hn0 H0.out)
  have SBM := Lib.hid (sumV_le PM.out hnm HM.out)
  have hd0 : Hid (∀ p ∈ ps, p.l ≤ 1048576) := fun p hp => by have := H0.out p hp; omega
  have hdm : Hid (∀ p ∈ pm, p.l ≤ 1048576) := fun p hp => by have := HM.out p hp; omega
  have hdu : Hid (∀ p ∈ pu, p.l ≤ 1048576) := fun p hp => by have := HU.out p hp; omega
  have hdv : Hid (∀ p ∈ pv, p.l ≤ 1048576) := fun p hp => by have := HV.out p hp; omega
  obtain ⟨C, hC⟩ : ∃ C, C = puC (vals ps) x ys := ⟨_, rfl⟩
  obtain ⟨L, hL⟩ : ∃ L, L = puL (vals ps) x ys := ⟨_, rfl⟩
  obtain ⟨Ct, hCt⟩ : ∃ Ct, Ct = pfV (vals pm) := ⟨_, rfl⟩
  obtain ⟨TL, hTL⟩ : ∃ TL, TL = trL (vals pm) := ⟨_, rfl⟩
  obtain ⟨TR, hTR⟩ : ∃ TR, TR = trR (vals pm) := ⟨_, rfl⟩
  rw [← hC] at X0
  rw [← hL] at V3
  rw [← hCt] at Y0
  rw [← hTL] at V4
  rw [← hTR] at R4
  have KP := Lib.hid (show ∀ W, Below W0.heap.size W0 W → Calls Try.prog 20 #[.slice a0 n0 c0, .int .i64 x, .slice ad ld cd] W (PrOut W C L []) from fun W h => by rw [hC, hL]; exact specPutPiece a0 n0 c0 ps x ad ld cd ys W (P0.out.below h) hd0.out (D0.out.below h) (by omega))
  have KS3 := Lib.hid (show ∀ W b m j qs, Below W0.heap.size W0 W → Pl W b m j qs → vals qs = L → Calls Try.prog 21 #[.slice a3 l3 c3, .slice b m j] W fun e w' => e = .returned (.bool true) ∧ Below W.heap.size W w' from fun W b m j qs h hp hv => by have q := implSamePieces a3 b l3 c3 m j ps3 qs W (P3.out.below h) hp; rw [eqV_refl (V3.out.trans hv.symm)] at q; exact q)
  have KT := Lib.hid (show ∀ W, Below W0.heap.size W0 W → Calls Try.prog 22 #[.slice am nm cm] W (PrOut W Ct TL TR) from fun W h => by rw [hCt, hTL, hTR]; exact specTakeReady am nm cm pm W (PM.out.below h) hdm.out)
  have KF1 := Lib.hid (show ∀ W, Below W0.heap.size W0 W → Calls Try.prog 23 #[.slice a0 n0 c0] W fun e w' => e = .returned (.int .i64 (pfV (vals ps))) ∧ Below W.heap.size W w' from fun W h => implPiecesFault a0 n0 c0 ps W (P0.out.below h) hd0.out)
  have KF2 := Lib.hid (show ∀ W, Below W0.heap.size W0 W → Calls Try.prog 24 #[.slice a0 n0 c0] W fun e w' => e = .returned (.int .i64 (pfV (vals ps))) ∧ Below W.heap.size W w' from fun W h => specPiecesFault a0 n0 c0 ps W (P0.out.below h) hd0.out)
  have KH1 := Lib.hid (show ∀ W, Below W0.heap.size W0 W → Calls Try.prog 25 #[.slice am nm cm] W fun e w' => e = .returned (.agg #[.int .i64 Ct, .int .i64 (hvV (vals pm))]) ∧ Below W.heap.size W w' from fun W h => by rw [hCt]; exact implHeldIn am nm cm pm W (PM.out.below h) hdm.out)
  have KH2 := Lib.hid (show ∀ W, Below W0.heap.size W0 W → Calls Try.prog 26 #[.slice am nm cm] W fun e w' => e = .returned (.agg #[.int .i64 Ct, .int .i64 (hvV (vals pm))]) ∧ Below W.heap.size W w' from fun W h => by rw [hCt]; exact specHeldIn am nm cm pm W (PM.out.below h) hdm.out)
  have KU1 := Lib.hid (show ∀ W, Below W0.heap.size W0 W → Calls Try.prog 21 #[.slice au nu cu, .slice av nv cv] W fun e w' => e = .returned (.bool (eqV pu pv)) ∧ Below W.heap.size W w' from fun W h => implSamePieces au av nu cu nv cv pu pv W (PU.out.below h) (PV.out.below h))
  have KU2 := Lib.hid (show ∀ W, Below W0.heap.size W0 W → Calls Try.prog 27 #[.slice au nu cu, .slice av nv cv] W fun e w' => e = .returned (.bool (eqV pu pv)) ∧ Below W.heap.size W w' from fun W h => specSamePieces au av nu cu nv cv pu pv W (PU.out.below h) (PV.out.below h))
  have SS := Lib.hid (show ∀ W, Hid (Below W0.heap.size W0 W) → (W.cell? ⟨gp, 0, none⟩ = some (.int .i64 C) ∧ W.cell? ⟨gp, 1, none⟩ = some (.slice a3 l3 c3) ∧ W.cell? ⟨gt, 0, none⟩ = some (.int .i64 Ct) ∧ W.cell? ⟨gt, 1, none⟩ = some (.slice a4 l4 c4) ∧ W.cell? ⟨gt, 2, none⟩ = some (.slice r4 lr4 cr4) ∧ Hid (Below W0.heap.size W0 W)) from fun W hW => by
    obtain ⟨_, x0, x1, _⟩ := (X0.out.below hW.out X0.out.lt).three
    obtain ⟨_, y0, y1, y2⟩ := (Y0.out.below hW.out Y0.out.lt).three
    exact ⟨x0, x1, y0, y1, y2, hW⟩)
  have HC := Lib.hid hC
  have HL := Lib.hid hL
  have HCt := Lib.hid hCt
  have HTL := Lib.hid hTL
  have HTR := Lib.hid hTR
  clear hC hL hCt hTL hTR HU HV hdu hdv
  obtain ⟨F, hF⟩ : ∃ F, F = pfV (vals ps) := ⟨_, rfl⟩
  obtain ⟨V, hV⟩ : ∃ V, V = hvV (vals pm) := ⟨_, rfl⟩
  obtain ⟨Q, hQ⟩ : ∃ Q, Q = eqV pu pv := ⟨_, rfl⟩
  rw [← hF] at KF1 KF2
  rw [← hV] at KH1 KH2
  rw [← hQ] at KU1 KU2
  have HVm := Lib.hid hV
  clear hF hV hQ
  have e1 : (C != C) = false := by simp
  have e2 : (Ct != Ct) = false := by simp
  have e3 : (F != F) = false := by simp
  have e4 : (V == V) = true := by simp
  have e5 : (Q != Q) = false := by simp
  have e6 : (Ct == Ct) = true := by simp
  obtain ⟨x0, x1, y0, y1, y2, _⟩ := SS.out W0 (Below.refl _ _)
  have uI0 : Hid (Below W0.heap.size W0 W0.drew) := (Below.refl _ W0).drew
  go_wp2_with fail
  go_region_held3 (fun W => W.cell? ⟨gp, 0, none⟩ = some (.int .i64 C) ∧ W.cell? ⟨gp, 1, none⟩ = some (.slice a3 l3 c3) ∧ W.cell? ⟨gt, 0, none⟩ = some (.int .i64 Ct) ∧ W.cell? ⟨gt, 1, none⟩ = some (.slice a4 l4 c4) ∧ W.cell? ⟨gt, 2, none⟩ = some (.slice r4 lr4 cr4) ∧ Hid (Below W0.heap.size W0 W))
    (first
      | (go_split_ands; refine SS.out _ ?_; (with_reducible assumption))
      | (go_split_ands; refine SS.out _ ?_; (with_reducible refine kDrew ?_); (with_reducible assumption)))
    (first
      | (have q := uM9; clear q; go_at_call 27; refine (KU2.out _ uI9.out).mono ?_; rintro e u10 ⟨rfl, hb⟩; have uM10 : Hid True := trivial; have uI10 : Hid (Below W0.heap.size W0 u10) := uI9.out.trans (hb.mono uI9.out.size))
      | (have q := uM8; clear q; go_at_call 21; refine (KU1.out _ uI8.out).mono ?_; rintro e u9 ⟨rfl, hb⟩; have uM9 : Hid True := trivial; have uI9 : Hid (Below W0.heap.size W0 u9) := uI8.out.trans (hb.mono uI8.out.size))
      | (have q := uM7; clear q; go_at_call 26; refine (KH2.out _ uI7.out).mono ?_; rintro e u8 ⟨rfl, hb⟩; have uM8 : Hid True := trivial; have uI8 : Hid (Below W0.heap.size W0 u8) := uI7.out.trans (hb.mono uI7.out.size))
      | (have q := uM6; clear q; go_at_call 25; refine (KH1.out _ uI6.out).mono ?_; rintro e u7 ⟨rfl, hb⟩; have uM7 : Hid True := trivial; have uI7 : Hid (Below W0.heap.size W0 u7) := uI6.out.trans (hb.mono uI6.out.size))
      | (have q := uM5; clear q; go_at_call 24; refine (KF2.out _ uI5.out).mono ?_; rintro e u6 ⟨rfl, hb⟩; have uM6 : Hid True := trivial; have uI6 : Hid (Below W0.heap.size W0 u6) := uI5.out.trans (hb.mono uI5.out.size))
      | (have q := uM4; clear q; go_at_call 23; refine (KF1.out _ uI4.out).mono ?_; rintro e u5 ⟨rfl, hb⟩; have uM5 : Hid True := trivial; have uI5 : Hid (Below W0.heap.size W0 u5) := uI4.out.trans (hb.mono uI4.out.size))
      | (have q := uM3; clear q; go_at_call 22; refine (KT.out _ uI3.out).mono ?_; rintro e u4 ⟨_, _, _, _, _, _, _, rfl, _, _, hb⟩; have uM4 : Hid True := trivial; have uI4 : Hid (Below W0.heap.size W0 u4) := uI3.out.trans (hb.mono uI3.out.size))
      | (have q := uM2; clear q; go_at_call 21; refine (K5.out).mono ?_; rintro e u3 ⟨rfl, hb⟩; have uM3 : Hid True := trivial; have uI3 : Hid (Below W0.heap.size W0 u3) := uI2.out.trans (hb.mono uI2.out.size))
      | (have q := uM1; clear q; go_at_call 20; refine (KP.out _ uI1.out).mono ?_; rintro e u2 ⟨a5, l5, c5, ps5, r5, lr5, cr5, rfl, p5, v5, hb⟩; have uM2 : Hid True := trivial; have uI2 : Hid (Below W0.heap.size W0 u2) := uI1.out.trans (hb.mono uI1.out.size); have K5 := Lib.hid (KS3.out _ a5 l5 c5 ps5 uI2.out p5.pl.pl v5))
      | (go_at_call 20; refine (KP.out _ uI0.out).mono ?_; rintro e u1 ⟨_, _, _, _, _, _, _, rfl, _, _, hb⟩; have uM1 : Hid True := trivial; have uI1 : Hid (Below W0.heap.size W0 u1) := uI0.out.trans (hb.mono uI0.out.size)))
  clear KP KS3 K5 KF1 KF2 KH2 KU1 KU2 x0 x1 y0 y1 y2 e1 e2 e3 e4 e5 e6 uI0 uI1 uI2 uI3 uI4 uI5 uI6 uI7 uI8 uI9
  rcases Decidable.em (Ct = 0) with rfl | hct
  case inr =>
    have hctn : (Ct == 0) = false := by simpa using hct
    obtain ⟨x0, x1, y0, y1, y2, _⟩ := SS.out u10 uI10
    rcases Decidable.em (C = 0) with rfl | hc
    case inr =>
      have hcn : (C != 0) = true := by simpa using hc
      go_wp2_with fail
      go_ret
      exact ⟨rfl, B0.out.trans (uI10.out.mono B0.out.size)⟩
    have PAo := PA.out HC.out.symm
    rw [← HL.out] at PAo
    obtain ⟨A0, A1, A2, A3, A4, A5, A6⟩ := PAo
    have hdL : ∀ p ∈ ps3, p.l ≤ 1048576 := pl_le P3.out (by rw [V3.out]; have := SB0.out; omega)
    have hld := hld
    have KQ := Lib.hid (show Calls Try.prog 16 #[.slice a3 l3 c3, .int .i64 x, .slice ad ld cd] u10 (PrOut u10 0 L []) from by have q := implPutPiece a3 l3 c3 ps3 x ad ld cd ys u10 (P3.out.below uI10.out) hdL (D0.out.below uI10.out) (by omega); rw [V3.out, A2, A3] at q; exact q)
    have KHL := Lib.hid (show ∀ W, Below W0.heap.size W0 W → Calls Try.prog 25 #[.slice a3 l3 c3] W fun e w' => e = .returned (.agg #[.int .i64 0, .int .i64 (sumV L : Nat)]) ∧ Below W.heap.size W w' from fun W h => by have q := implHeldIn a3 l3 c3 ps3 W (P3.out.below h) hdL; rw [V3.out, hv_of A1, A1] at q; exact q)
    have KFL := Lib.hid (show ∀ W, Below W0.heap.size W0 W → Calls Try.prog 23 #[.slice a3 l3 c3] W fun e w' => e = .returned (.int .i64 0) ∧ Below W.heap.size W w' from fun W h => by have q := implPiecesFault a3 l3 c3 ps3 W (P3.out.below h) hdL; rw [V3.out, A1] at q; exact q)
    have KHP := Lib.hid (show ∀ W, Below W0.heap.size W0 W → Calls Try.prog 25 #[.slice a0 n0 c0] W fun e w' => e = .returned (.agg #[.int .i64 0, .int .i64 (sumV (vals ps) : Nat)]) ∧ Below W.heap.size W w' from fun W h => by have q := implHeldIn a0 n0 c0 ps W (P0.out.below h) hd0.out; rw [hv_of A0, A0] at q; exact q)
    have hsB := SB0.out
    generalize sumV L = SL at *
    generalize sumV (vals ps) = SV at *
    rw [hys] at A5 A6
    have g1 : (SV : Int) ≤ SL := by omega
    have g2 : IntKind.i64.wrap ((SV : Int) + ld) = SV + ld := (IntWalk.i64_in _ (by omega)).trans (by omega)
    have g3 : (SL : Int) ≤ SV + ld := by omega
    have g4 : (ld : Int) ≤ SL := by omega
    have hcn : ((0 : Int) != 0) = false := rfl
    go_wp2_with fail
    refine KQ.out.mono ?_
    rintro e pa ⟨a6, l6, c6, ps6, r6, lr6, cr6, rfl, q6, v6, b6⟩
    have bA := uI10.out.trans ((b6.alloc b6.size (.cells #[.int .i64 0, .slice a6 l6 c6, .slice r6 lr6 cr6] 28)).mono uI10.out.size)
    have pIA := Lib.hid bA
    have P6 := Lib.hid (q6.pl.pl.alloc (.cells #[.int .i64 0, .slice a6 l6 c6, .slice r6 lr6 cr6] 28))
    have V6 := Lib.hid v6
    have Z := Lib.hid (Box.new pa 28 #[.int .i64 0, .slice a6 l6 c6, .slice r6 lr6 cr6])
    clear q6 v6 b6 bA KQ
    clear x0 x1 y0 y1 y2
    obtain ⟨x0, x1, _, _, _, _⟩ := SS.out _ pIA
    go_wp2_with fail
    generalize pa.heap.size = gz at *
    generalize pa.alloc (.cells #[.int .i64 0, .slice a6 l6 c6, .slice r6 lr6 cr6] 28) = pA at *
    refine (KHL.out _ pIA.out).mono ?_
    rintro e pb ⟨rfl, hb⟩
    have Z2 := Lib.hid (Z.out.below hb Z.out.lt)
    have P62 := Lib.hid (P6.out.below hb)
    have pIB := Lib.hid (pIA.out.trans (hb.mono pIA.out.size))
    clear hb x0 x1 Z P6
    obtain ⟨x0, x1, _, _, _, _⟩ := SS.out _ pIB
    go_wp2_with fail
    refine (KFL.out _ pIB.out).mono ?_
    rintro e pc ⟨rfl, hb⟩
    have Z3 := Lib.hid (Z2.out.below hb Z2.out.lt)
    have P63 := Lib.hid (P62.out.below hb)
    have pIC := Lib.hid (pIB.out.trans (hb.mono pIB.out.size))
    clear hb x0 x1 Z2 P62
    obtain ⟨x0, x1, _, _, _, _⟩ := SS.out _ pIC
    obtain ⟨_, z0, z1, _⟩ := Z3.out.three
    go_wp2_with fail
    have KS := implSamePieces a6 a3 l6 c6 l3 c3 ps6 ps3 _ P63.out (P3.out.below pIC.out)
    rw [eqV_refl (V6.out.trans V3.out.symm)] at KS
    refine KS.mono ?_
    rintro e pd ⟨rfl, hb⟩
    have pID := Lib.hid (pIC.out.trans (hb.mono pIC.out.size))
    clear hb x0 x1 z0 z1 Z3 P63 KS
    go_wp2_with fail
    refine (KHP.out _ pID.out).mono ?_
    rintro e pe ⟨rfl, hb⟩
    have pIE := Lib.hid (pID.out.trans (hb.mono pID.out.size))
    clear hb
    go_wp2_with fail
    refine (KHP.out _ pIE.out).mono ?_
    rintro e pf ⟨rfl, hb⟩
    have pIF := Lib.hid (pIE.out.trans (hb.mono pIE.out.size))
    clear hb
    go_wp2_with fail
    go_ret
    exact ⟨rfl, B0.out.trans (pIF.out.mono B0.out.size)⟩
  have LRo := LR.out HCt.out.symm
  rw [← HTL.out, ← HTR.out] at LRo
  obtain ⟨T0, T1, T2⟩ := LRo
  have hVm := HVm.out
  rw [hv_of HCt.out.symm] at hVm
  have hlr : TR.length = lr4 := R4.out.length
  have hdT : ∀ p ∈ ps4, p.l ≤ 1048576 := pl_le P4.out (by rw [V4.out]; have := SBM.out; omega)
  have KF3 := Lib.hid (show ∀ W, Below W0.heap.size W0 W → Calls Try.prog 23 #[.slice a4 l4 c4] W fun e w' => e = .returned (.int .i64 0) ∧ Below W.heap.size W w' from fun W h => by have q := implPiecesFault a4 l4 c4 ps4 W (P4.out.below h) hdT; rw [V4.out, T0] at q; exact q)
  have KH3 := Lib.hid (show ∀ W, Below W0.heap.size W0 W → Calls Try.prog 25 #[.slice a4 l4 c4] W fun e w' => e = .returned (.agg #[.int .i64 0, .int .i64 (sumV TL : Nat)]) ∧ Below W.heap.size W w' from fun W h => by have q := implHeldIn a4 l4 c4 ps4 W (P4.out.below h) hdT; rw [V4.out, hv_of T0, T0] at q; exact q)
  have KT3 := Lib.hid (show ∀ W, Below W0.heap.size W0 W → Calls Try.prog 18 #[.slice a4 l4 c4] W (PrOut W 0 (trL TL) []) from fun W h => by have q := implTakeReady a4 l4 c4 ps4 W (P4.out.below h) hdT; rw [V4.out, T0, T2] at q; exact q)
  have KS4 := Lib.hid (show ∀ W b m j qs, Below W0.heap.size W0 W → Pl W b m j qs → vals qs = TL → Calls Try.prog 21 #[.slice a4 l4 c4, .slice b m j] W fun e w' => e = .returned (.bool true) ∧ Below W.heap.size W w' from fun W b m j qs h hp hv => by have q := implSamePieces a4 b l4 c4 m j ps4 qs W (P4.out.below h) hp; rw [eqV_refl (V4.out.trans hv.symm)] at q; exact q)
  have KL4 := Lib.hid (show ∀ W b m j, Below W0.heap.size W0 W → Rd W b m j TR → Calls Try.prog 28 #[.slice r4 lr4 cr4, .slice b m j] W fun e w' => e = .returned (.bool true) ∧ Below W.heap.size W w' from fun W b m j h hp => lwSame6_t r4 b lr4 cr4 m j TR W (R4.out.below h) hp)
  have hsM := SBM.out
  have hvw : IntKind.i64.wrap ((sumV TL : Nat) + (lr4 : Int)) = V := (IntWalk.i64_in _ (by omega)).trans (by omega)
  have e0 : ((0 : Int) != 0) = false := rfl
  have e1 : (V != V) = false := by simp
  have e2 : ((0 : Int) == 0) = true := rfl
  generalize sumV TL = ST at *
  clear hVm T1 hlr hsM
  obtain ⟨x0, x1, y0, y1, y2, _⟩ := SS.out u10 uI10
  have vI0 : Hid (Below W0.heap.size W0 u10.drew) := uI10.out.drew
  go_wp2_with fail
  go_region_held3 (fun W => W.cell? ⟨gp, 0, none⟩ = some (.int .i64 C) ∧ W.cell? ⟨gp, 1, none⟩ = some (.slice a3 l3 c3) ∧ W.cell? ⟨gt, 0, none⟩ = some (.int .i64 0) ∧ W.cell? ⟨gt, 1, none⟩ = some (.slice a4 l4 c4) ∧ W.cell? ⟨gt, 2, none⟩ = some (.slice r4 lr4 cr4) ∧ Hid (Below W0.heap.size W0 W))
    (first
      | (go_split_ands; refine SS.out _ ?_; (with_reducible assumption))
      | (go_split_ands; refine SS.out _ ?_; (with_reducible refine kDrew ?_); (with_reducible assumption)))
    (first
      | (have q := vM7; clear q; go_at_call 18; refine (KT3.out _ vI7.out).mono ?_; rintro e v8 ⟨_, _, _, _, _, m8, _, rfl, p8, _, hb⟩; have vM8 : Hid True := trivial; have vI8 : Hid (Below W0.heap.size W0 v8) := vI7.out.trans (hb.mono vI7.out.size); obtain rfl : m8 = 0 := p8.own.rd.length.symm)
      | (have q := vM6; clear q; go_at_call 21; refine (K7.out).mono ?_; rintro e v7 ⟨rfl, hb⟩; have vM7 : Hid True := trivial; have vI7 : Hid (Below W0.heap.size W0 v7) := vI6.out.trans (hb.mono vI6.out.size))
      | (have q := vM5; clear q; go_at_call 22; refine (KT.out _ vI5.out).mono ?_; rintro e v6 ⟨a7, l7, c7, ps7, _, _, _, rfl, p7, v7, hb⟩; have vM6 : Hid True := trivial; have vI6 : Hid (Below W0.heap.size W0 v6) := vI5.out.trans (hb.mono vI5.out.size); have K7 := Lib.hid (KS4.out _ a7 l7 c7 ps7 vI6.out p7.pl.pl v7))
      | (have q := vM4; clear q; go_at_call 28; refine (K5.out).mono ?_; rintro e v5 ⟨rfl, hb⟩; have vM5 : Hid True := trivial; have vI5 : Hid (Below W0.heap.size W0 v5) := vI4.out.trans (hb.mono vI4.out.size))
      | (have q := vM3; clear q; go_at_call 22; refine (KT.out _ vI3.out).mono ?_; rintro e v4 ⟨_, _, _, _, b5, m5, j5, rfl, p5, _, hb⟩; have vM4 : Hid True := trivial; have vI4 : Hid (Below W0.heap.size W0 v4) := vI3.out.trans (hb.mono vI3.out.size); have K5 := Lib.hid (KL4.out _ b5 m5 j5 vI4.out p5.own.rd))
      | (have q := vM2; clear q; go_at_call 25; refine (KH1.out _ vI2.out).mono ?_; rintro e v3 ⟨rfl, hb⟩; have vM3 : Hid True := trivial; have vI3 : Hid (Below W0.heap.size W0 v3) := vI2.out.trans (hb.mono vI2.out.size))
      | (have q := vM1; clear q; go_at_call 25; refine (KH3.out _ vI1.out).mono ?_; rintro e v2 ⟨rfl, hb⟩; have vM2 : Hid True := trivial; have vI2 : Hid (Below W0.heap.size W0 v2) := vI1.out.trans (hb.mono vI1.out.size))
      | (go_at_call 23; refine (KF3.out _ vI0.out).mono ?_; rintro e v1 ⟨rfl, hb⟩; have vM1 : Hid True := trivial; have vI1 : Hid (Below W0.heap.size W0 v1) := vI0.out.trans (hb.mono vI0.out.size)))
  clear x0 x1 y0 y1 y2
  obtain ⟨x0, x1, y0, y1, y2, _⟩ := SS.out v8 vI8
  rcases Decidable.em (C = 0) with rfl | hc
  case inr =>
    have hcn : (C != 0) = true := by simpa using hc
    go_wp2_with fail
    go_ret
    exact ⟨rfl, B0.out.trans (vI8.out.mono B0.out.size)⟩
  have PAo := PA.out HC.out.symm
  rw [← HL.out] at PAo
  obtain ⟨A0, A1, A2, A3, A4, A5, A6⟩ := PAo
  have hdL : ∀ p ∈ ps3, p.l ≤ 1048576 := pl_le P3.out (by rw [V3.out]; have := SB0.out; omega)
  have hld := hld
  have KQ := Lib.hid (show Calls Try.prog 16 #[.slice a3 l3 c3, .int .i64 x, .slice ad ld cd] v8 (PrOut v8 0 L []) from by have q := implPutPiece a3 l3 c3 ps3 x ad ld cd ys v8 (P3.out.below vI8.out) hdL (D0.out.below vI8.out) (by omega); rw [V3.out, A2, A3] at q; exact q)
  have KHL := Lib.hid (show ∀ W, Below W0.heap.size W0 W → Calls Try.prog 25 #[.slice a3 l3 c3] W fun e w' => e = .returned (.agg #[.int .i64 0, .int .i64 (sumV L : Nat)]) ∧ Below W.heap.size W w' from fun W h => by have q := implHeldIn a3 l3 c3 ps3 W (P3.out.below h) hdL; rw [V3.out, hv_of A1, A1] at q; exact q)
  have KFL := Lib.hid (show ∀ W, Below W0.heap.size W0 W → Calls Try.prog 23 #[.slice a3 l3 c3] W fun e w' => e = .returned (.int .i64 0) ∧ Below W.heap.size W w' from fun W h => by have q := implPiecesFault a3 l3 c3 ps3 W (P3.out.below h) hdL; rw [V3.out, A1] at q; exact q)
  have KHP := Lib.hid (show ∀ W, Below W0.heap.size W0 W → Calls Try.prog 25 #[.slice a0 n0 c0] W fun e w' => e = .returned (.agg #[.int .i64 0, .int .i64 (sumV (vals ps) : Nat)]) ∧ Below W.heap.size W w' from fun W h => by have q := implHeldIn a0 n0 c0 ps W (P0.out.below h) hd0.out; rw [hv_of A0, A0] at q; exact q)
  have hsB := SB0.out
  generalize sumV L = SL at *
  generalize sumV (vals ps) = SV at *
  rw [hys] at A5 A6
  have g1 : (SV : Int) ≤ SL := by omega
  have g2 : IntKind.i64.wrap ((SV : Int) + ld) = SV + ld := (IntWalk.i64_in _ (by omega)).trans (by omega)
  have g3 : (SL : Int) ≤ SV + ld := by omega
  have g4 : (ld : Int) ≤ SL := by omega
  have hcn : ((0 : Int) != 0) = false := rfl
  go_wp2_with fail
  refine KQ.out.mono ?_
  rintro e qa ⟨a6, l6, c6, ps6, r6, lr6, cr6, rfl, q6, v6, b6⟩
  have bA := vI8.out.trans ((b6.alloc b6.size (.cells #[.int .i64 0, .slice a6 l6 c6, .slice r6 lr6 cr6] 28)).mono vI8.out.size)
  have qIA := Lib.hid bA
  have P6 := Lib.hid (q6.pl.pl.alloc (.cells #[.int .i64 0, .slice a6 l6 c6, .slice r6 lr6 cr6] 28))
  have V6 := Lib.hid v6
  have Z := Lib.hid (Box.new qa 28 #[.int .i64 0, .slice a6 l6 c6, .slice r6 lr6 cr6])
  clear q6 v6 b6 bA KQ
  clear x0 x1 y0 y1 y2
  obtain ⟨x0, x1, _, _, _, _⟩ := SS.out _ qIA
  go_wp2_with fail
  generalize qa.heap.size = gz at *
  generalize qa.alloc (.cells #[.int .i64 0, .slice a6 l6 c6, .slice r6 lr6 cr6] 28) = qA at *
  refine (KHL.out _ qIA.out).mono ?_
  rintro e qb ⟨rfl, hb⟩
  have Z2 := Lib.hid (Z.out.below hb Z.out.lt)
  have P62 := Lib.hid (P6.out.below hb)
  have qIB := Lib.hid (qIA.out.trans (hb.mono qIA.out.size))
  clear hb x0 x1 Z P6
  obtain ⟨x0, x1, _, _, _, _⟩ := SS.out _ qIB
  go_wp2_with fail
  refine (KFL.out _ qIB.out).mono ?_
  rintro e qc ⟨rfl, hb⟩
  have Z3 := Lib.hid (Z2.out.below hb Z2.out.lt)
  have P63 := Lib.hid (P62.out.below hb)
  have qIC := Lib.hid (qIB.out.trans (hb.mono qIB.out.size))
  clear hb x0 x1 Z2 P62
  obtain ⟨x0, x1, _, _, _, _⟩ := SS.out _ qIC
  obtain ⟨_, z0, z1, _⟩ := Z3.out.three
  go_wp2_with fail
  have KS := implSamePieces a6 a3 l6 c6 l3 c3 ps6 ps3 _ P63.out (P3.out.below qIC.out)
  rw [eqV_refl (V6.out.trans V3.out.symm)] at KS
  refine KS.mono ?_
  rintro e qd ⟨rfl, hb⟩
  have qID := Lib.hid (qIC.out.trans (hb.mono qIC.out.size))
  clear hb x0 x1 z0 z1 Z3 P63 KS
  go_wp2_with fail
  refine (KHP.out _ qID.out).mono ?_
  rintro e qe ⟨rfl, hb⟩
  have qIE := Lib.hid (qID.out.trans (hb.mono qID.out.size))
  clear hb
  go_wp2_with fail
  refine (KHP.out _ qIE.out).mono ?_
  rintro e qf ⟨rfl, hb⟩
  have qIF := Lib.hid (qIE.out.trans (hb.mono qIE.out.size))
  clear hb
  go_wp2_with fail
  go_ret
  exact ⟨rfl, B0.out.trans (qIF.out.mono B0.out.size)⟩
end Go.Proofs.Ytimlobhlcmghfaa
