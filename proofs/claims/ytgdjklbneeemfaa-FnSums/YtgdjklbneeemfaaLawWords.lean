/-
  The law FnWords returns true at every slice of bytes.
-/
import Derived.Test.YtgdjklbneeemfaaWords
import Derived.Test.YtgdjklbneeemfaaLawSeqs
namespace Go.Proofs.Ytgdjklbneeemfaa
open Go.ChangeShapes Go.WideShapes Go.ChangeAt Go.RowKit

theorem field_br0 (w : World) (c : Int) (a : Option Addr) (l k : Nat) : (Instr.field 27 (.agg #[.int .i64 c, .slice a l k]) 0).run Try.prog w = .ok (.int .i64 c) w := by
  simp [Instr.field, asAgg, go_sem]

theorem Rd.sub {w : World} {b off len cap : Nat} {zs : List Int} (h : Rd w (some ⟨b, off, none⟩) len cap zs) (A K l' c' off' : Nat) (hk : A + K ≤ len) (hl : l' = K) (hc : c' = cap - A) (ho : off' = off + A) (hp : 0 < K) : Rd w (some ⟨b, off', none⟩) l' c' ((zs.drop A).take K) := by
  subst hl; subst hc; subst ho
  have hle := h.le
  have hmx := h.max
  have hlen := h.length
  refine ⟨by simp; omega, by omega, by omega, b8_take (b8_drop h.b8 _) _, by simp, .inr ⟨b, off + A, rfl, fun i hi => ?_⟩⟩
  rcases h.cells with h0 | ⟨bb, o, e, hcell⟩
  · omega
  · cases e
    have := hcell (A + i) (by omega)
    rw [Nat.add_assoc, this, List.getD_eq_getElem?_getD, List.getD_eq_getElem?_getD, List.getElem?_take, if_pos hi, List.getElem?_drop]

set_option maxRecDepth 100000 in
set_option maxHeartbeats 4000000 in
theorem lawWords (a : Option Addr) (len cap : Nat) (zs : List Int) (w : World) (h : Rd w a len cap zs) :
    Calls Try.prog 3 #[.slice a len cap] w fun e w' => e = .returned (.bool true) ∧ Below w.heap.size w w' := by
  by_cases hl : len ≤ 1048576
  · have D1 := Lib.hid (drawPack a len cap zs w h hl)
    have D2 := Lib.hid (fun W (hW : Below w.heap.size w W) => drawRead a len cap zs W (h.below hW) hl)
    clear h
    go_enter Try.func3, Try.ntmps3
    go_wp2_with (go_at_call 14; refine (lwBig_f _ _ _ _ hl).mono ?_; rintro e w' ⟨rfl, rfl⟩)
    refine D1.out.mono ?_
    rintro e w1 ⟨n, k, rfl, hnk, b1⟩
    obtain ⟨cp, hcp⟩ : ∃ c, c = pwC n k := ⟨_, rfl⟩
    obtain ⟨bp, hbp⟩ : ∃ c, c = pwB n k := ⟨_, rfl⟩
    have HP := Lib.hid (And.intro hcp hbp)
    have KP := Lib.hid (show ∀ W, Calls Try.prog 16 #[.int .i64 n, .int .i64 k] W (Packed W cp bp) by
      subst hcp; subst hbp; exact fun W => implPack n k W)
    have wfn : (Lit.int .i64 n).wf = true := by
      obtain ⟨h1, h2, _⟩ := hnk
      exact WalkArith.wf_i64 ⟨by omega, by omega⟩
    have KP' := Lib.hid (show ∀ W, Calls Try.prog 19 #[.int .i64 n, .int .i64 k] W (Packed W cp bp) by
      subst hcp; subst hbp; exact fun W => specPack n k W wfn)
    have B1 := Lib.hid b1
    have HNK := Lib.hid hnk
    clear hcp hbp b1 D1 wfn hnk
    go_wp2_with fail
    refine (KP.out _).mono ?_
    rintro e w2 ⟨ap, lp, kp, rfl, op, b2⟩
    have B2 := Lib.hid ((B1.out.trans (b2.mono B1.out.size)).alloc (Nat.le_trans B1.out.size b2.size) (.cells #[.int .i64 cp, .slice ap lp kp] 27))
    have X2 := Lib.hid (Box.new w2 27 #[.int .i64 cp, .slice ap lp kp])
    have O2 := Lib.hid (op.alloc (.cells #[.int .i64 cp, .slice ap lp kp] 27))
    clear b2 op
    go_wp2_with fail
    refine (D2.out _ B2.out).mono ?_
    rintro e w3 ⟨ay, ly, cy, ys, at', q, rfl, oy, hly, q0, q1, b3⟩
    obtain ⟨cr, hcr⟩ : ∃ c, c = rwC ys at' q := ⟨_, rfl⟩
    obtain ⟨vr, hvr⟩ : ∃ c, c = rwV ys at' q := ⟨_, rfl⟩
    have HR := Lib.hid (And.intro hcr hvr)
    have KR := Lib.hid (show ∀ W, Rd W ay ly cy ys → Calls Try.prog 18 #[.slice ay ly cy, .int .i64 at', .int .i64 q] W fun e w' => e = .returned (.agg #[.int .i64 cr, .int .i64 vr]) ∧ Below W.heap.size W w' by
      subst hcr; subst hvr; exact fun W hr => implRead ay ly cy at' q ys W hr)
    have KR' := Lib.hid (show ∀ W, Rd W ay ly cy ys → Calls Try.prog 20 #[.slice ay ly cy, .int .i64 at', .int .i64 q] W fun e w' => e = .returned (.agg #[.int .i64 cr, .int .i64 vr]) ∧ Below W.heap.size W w' by
      subst hcr; subst hvr; exact fun W hr => specRead ay ly cy at' q ys W hr)
    have B3 := Lib.hid (B2.out.trans (b3.mono B2.out.size))
    have X3 := Lib.hid (X2.out.below b3 X2.out.lt)
    have O3 := Lib.hid (O2.out.below b3)
    have Y3 := Lib.hid oy
    clear hcr hvr b3 X2 O2 oy
    go_wp2_with fail
    refine (KR.out _ Y3.out.rd).mono ?_
    rintro e w4 ⟨rfl, b4⟩
    have B4 := Lib.hid ((B3.out.trans (b4.mono B3.out.size)).alloc (Nat.le_trans B3.out.size b4.size) (.cells #[.int .i64 cr, .int .i64 vr] 32))
    have X4 := Lib.hid ((X3.out.below b4 X3.out.lt).alloc (.cells #[.int .i64 cr, .int .i64 vr] 32))
    have O4 := Lib.hid ((O3.out.below b4).alloc (.cells #[.int .i64 cr, .int .i64 vr] 32))
    have Y4 := Lib.hid ((Y3.out.below b4).alloc (.cells #[.int .i64 cr, .int .i64 vr] 32))
    have Z4 := Lib.hid (Box.new w4 32 #[.int .i64 cr, .int .i64 vr])
    clear b4 X3 O3 Y3
    obtain ⟨zx, x0, x1⟩ := X4.out.two
    obtain ⟨zz, z0, z1⟩ := Z4.out.two
    have hf0 := field_br0
    generalize hW4 : w4.alloc (.cells #[.int .i64 cr, .int .i64 vr] 32) = W4 at *
    have HW4 := Lib.hid hW4
    go_wp2_with fail
    clear hW4
    go_region_held3 (fun W => W.cell? ⟨w2.heap.size, 0, none⟩ = some (.int .i64 cp) ∧ W.cell? ⟨w4.heap.size, 0, none⟩ = some (.int .i64 cr) ∧ W.cell? ⟨w4.heap.size, 1, none⟩ = some (.int .i64 vr))
      (first | go_keep | (go_split_ands; exact ⟨keepc hb (by assumption), keepc hb (by assumption), keepc hb (by assumption)⟩))
      (first
        | (go_at_call 19; refine (KP'.out _).mono ?_; rintro e wa ⟨a5, l5, k5, rfl, o5, hba⟩; have hb := hba)
        | (go_at_call 20; refine (KR'.out _ ((Y4.out.drew).below hba).rd).mono ?_; rintro e wb ⟨rfl, hbb⟩; have hb := hbb))
    have B7 : Hid (Below w.heap.size w wb) := (B4.out.drew.trans (hba.mono B4.out.size)).trans (hbb.mono (Nat.le_trans B4.out.size hba.size))
    have X7 : Hid (Box wb w2.heap.size 27 #[.int .i64 cp, .slice ap lp kp]) := ((show Box W4.drew w2.heap.size 27 #[.int .i64 cp, .slice ap lp kp] from X4.out).below hba X4.out.lt).below hbb (Nat.lt_of_lt_of_le X4.out.lt hba.size)
    have Z7 : Hid (Box wb w4.heap.size 32 #[.int .i64 cr, .int .i64 vr]) := ((show Box W4.drew w4.heap.size 32 #[.int .i64 cr, .int .i64 vr] from Z4.out).below hba Z4.out.lt).below hbb (Nat.lt_of_lt_of_le Z4.out.lt hba.size)
    have O7 := Lib.hid ((O4.out.drew.below hba).below hbb)
    have Y7 := Lib.hid ((Y4.out.drew.below hba).below hbb)
    obtain ⟨zx7, x70, x71⟩ := X7.out.two
    obtain ⟨zz7, z70, z71⟩ := Z7.out.two
    clear hba hbb hb X4 Z4 O4 Y4 x0 x1 z0 z1 zx zz o5 HW4 B1 B2 B3 B4 KP KP' KR KR' D2
    go_upto_region 9 with (fail)
    go_cut [63] (fun v wx => v = .bool false ∧ Hid (Below w.heap.size w wx) ∧ Hid (Box wx w4.heap.size 32 #[.int .i64 cr, .int .i64 vr]) ∧ Hid (Own wx (w2.alloc (.cells #[.int .i64 cp, .slice ap lp kp] 27)).heap.size ay ly cy ys))
    case first =>
      cases hok : pwOk n k with
      | true =>
        have hcp : cp = 0 := by rw [HP.out.1]; unfold pwC; rw [if_pos hok]
        have hbp : bp = be n k.toNat := by rw [HP.out.2]; unfold pwB; rw [if_pos hok]
        obtain ⟨S, rfl, s1, s2, s3, s4⟩ := pwOk_parts hok
        rw [Int.toNat_natCast] at hbp
        have hlp : lp = S := by rw [← O7.out.length, hbp, be_len]
        subst hcp
        subst hlp
        have K1 := Lib.hid (show Calls Try.prog 18 #[.slice ap lp kp, .int .i64 0, .int .i64 lp] wb fun e w' => e = .returned (.agg #[.int .i64 0, .int .i64 n]) ∧ Below wb.heap.size wb w' by
          have := implRead ap lp kp 0 lp bp wb O7.out.rd
          have hrw : rwOk bp.length 0 lp = true := by
            rw [hbp, be_len]
            simp only [rwOk, in_t (v := (lp : Int)) (a := 1) (b := 6) (by omega), Bool.true_and, decide_eq_true_eq]
            omega
          simp only [rwC, rwV, hrw, if_true, Int.toNat_natCast, Int.toNat_zero] at this
          rw [hbp, rd_be lp n s3 s4] at this
          exact this)
        have hne : ((lp : Int) != (lp : Int)) = false := by simp
        clear hok hbp HP HNK s3 s4
        go_wp2_with fail
        refine K1.out.mono ?_
        rintro e wd ⟨rfl, hbd⟩
        go_wp2_with fail
        go_meet
        exact ⟨rfl, B7.out.trans (hbd.mono B7.out.size), Z7.out.below hbd Z7.out.lt, Y7.out.below hbd⟩
      | false =>
        have hcp : cp = 3 := by rw [HP.out.1]; unfold pwC; rw [if_neg (by rw [hok]; simp)]
        subst hcp
        clear hok HP
        go_wp2_with fail
        go_meet
        exact ⟨rfl, B7.out, Z7.out, Y7.out⟩
    case rest =>
      obtain ⟨rfl, Bc, Zc, Yc⟩ := hcut
      clear x70 x71 z70 z71 zx7 zz7 X7 Z7 O7 Y7 B7
      obtain ⟨zc, c0, c1⟩ := Zc.out.two
      go_upto_region 11 with (fail)
      cases hok : rwOk ys.length at' q with
      | true =>
        have hcr : cr = 0 := by rw [HR.out.1]; unfold rwC; rw [if_pos hok]
        have hvr : vr = rdTo ys at'.toNat q.toNat := by rw [HR.out.2]; unfold rwV; rw [if_pos hok]
        simp only [rwOk, inB, Bool.and_eq_true, decide_eq_true_eq, Yc.out.length] at hok
        obtain ⟨K, rfl⟩ := Int.eq_ofNat_of_zero_le q0
        obtain ⟨A, rfl⟩ := Int.eq_ofNat_of_zero_le (show 0 ≤ at' by omega)
        rw [Int.toNat_natCast, Int.toNat_natCast] at hvr
        subst hcr
        have hAK : A + K ≤ ly := by omega
        have hK1 : 1 ≤ K := by omega
        have hK2 : K ≤ 6 := by omega
        rcases Yc.out.shape with ⟨_, h0, _⟩ | ⟨g, rfl⟩
        · omega
        have hbd := rdTo_bd ys A Yc.out.b8 K
        rw [← hvr] at hbd
        have hbe : be vr K = (ys.drop A).take K := by rw [hvr]; exact be_rd ys Yc.out.b8 A K (by rw [Yc.out.length]; exact hAK)
        have KQ := Lib.hid (show ∀ W, Calls Try.prog 16 #[.int .i64 vr, .int .i64 K] W (Packed W 0 ((ys.drop A).take K)) from fun W => by
          rw [← hbe]; exact implPack_ok vr K W hbd.1 ⟨hK1, hK2⟩ hbd.2)
        have hcm := Yc.out.max
        unfold maxLen at hcm
        have RS := Lib.hid (fun (W : World) (hr : Rd W (some ⟨g, 0, none⟩) ly cy ys) (l' c' off' : Nat) (hl : l' = K) (hc : c' = cy - A) (ho : off' = 0 + A) => hr.sub A K l' c' off' hAK hl hc ho (by omega))
        have i1 : (0 : Int) ≤ A := by omega
        have i2 : (A : Int) ≤ (A : Int) + K := by omega
        have i3 : (A : Int) + K ≤ cy := by omega
        have i4 : IntKind.i64.wrap ((A : Int) + K) = (A : Int) + K := IntWalk.i64_in _ (by omega)
        have i5 : (0 : Int) ≤ (A : Int) + K := by omega
        have i6 : ((A : Int) + K).toNat = A + K := by omega
        have hcA : ¬ cy = A := by omega
        have hfb := field_br
        have hne : ((0 : Int) != 0) = false := rfl
        clear hbd hbe hvr hok HR
        go_region_held3 (fun W => W.cell? ⟨w4.heap.size, 0, none⟩ = some (.int .i64 0) ∧ W.cell? ⟨w4.heap.size, 1, none⟩ = some (.int .i64 vr))
          (first | go_keep | (go_split_ands; exact ⟨keepc hb (by assumption), keepc hb (by assumption)⟩))
          (first
            | (go_at_call 16; refine (KQ.out _).mono ?_; rintro e wd ⟨a8, l8, k8, rfl, o8, hbd⟩; have hb := hbd)
            | (go_at_call 21; refine (lwSame_t _ _ _ _ _ _ _ _ o8.rd (RS.out _ ((Yc.out.drew).below hbd).rd _ _ _ (by omega) (by omega) (by omega))).mono ?_; rintro e we ⟨rfl, rfl⟩))
        go_wp2
        go_ret
        exact ⟨rfl, Bc.out.drew.trans (hbd.mono Bc.out.size)⟩
      | false =>
        have hcr : cr = 3 := by rw [HR.out.1]; unfold rwC; rw [if_neg (by rw [hok]; simp)]
        subst hcr
        have hne : ((3 : Int) != 0) = true := rfl
        clear hok HR
        go_quiet (fail)
        go_wp2
        go_ret
        exact ⟨rfl, belowN Bc.out _⟩
  · go_enter Try.func3, Try.ntmps3
    go_wp2_with (go_at_call 14; refine (lwBig_t _ _ _ _ hl).mono ?_; rintro e w' ⟨rfl, rfl⟩)
    go_ret
    exact ⟨rfl, Below.refl _ _⟩
end Go.Proofs.Ytgdjklbneeemfaa
