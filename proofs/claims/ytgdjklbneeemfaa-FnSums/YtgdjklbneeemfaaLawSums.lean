/-
  The law FnSums returns true at every slice of bytes.
-/
import Derived.Test.YtgdjklbneeemfaaDrawS
namespace Go.Proofs.Ytgdjklbneeemfaa
open Go.ChangeShapes Go.WideShapes Go.ChangeAt Go.RowKit

theorem own_some {w : World} {base : Nat} {a : Option Addr} {len cap : Nat} {zs : List Int} (h : Own w base a len cap zs) (hl : 0 < len) : ∃ g, a = some ⟨g, 0, none⟩ ∧ base ≤ g := by
  rcases h.shape with ⟨_, h0, _⟩ | ⟨g, rfl⟩
  · omega
  · exact ⟨g, rfl, (h.lt _ rfl).1⟩
theorem turn_own {w : World} {base g len cap : Nat} {ms : List Int} (h : Own w base (some ⟨g, 0, none⟩) len cap ms) {x0 x1 x2 x3 : Int} (h0 : ms.getD 0 0 = x0) (h1 : ms.getD 1 0 = x1) (h2 : ms.getD 2 0 = x2) (h3 : ms.getD 3 0 = x3) :
    Own ((((w.setCell ⟨g, 0, none⟩ (.int .u8 x2)).setCell ⟨g, 1, none⟩ (.int .u8 x3)).setCell ⟨g, 2, none⟩ (.int .u8 x0)).setCell ⟨g, 3, none⟩ (.int .u8 x1)) base (some ⟨g, 0, none⟩) len cap (turned ms) ∧
    w.grownBy ((((w.setCell ⟨g, 0, none⟩ (.int .u8 x2)).setCell ⟨g, 1, none⟩ (.int .u8 x3)).setCell ⟨g, 2, none⟩ (.int .u8 x0)).setCell ⟨g, 3, none⟩ (.int .u8 x1)) (some g) := by
  subst h0; subst h1; subst h2; subst h3
  obtain ⟨o1, g1⟩ := h.set 0 _ (b8_getD h.b8 2)
  obtain ⟨o2, g2⟩ := o1.set 1 _ (b8_getD h.b8 3)
  obtain ⟨o3, g3⟩ := o2.set 2 _ (b8_getD h.b8 0)
  obtain ⟨o4, g4⟩ := o3.set 3 _ (b8_getD h.b8 1)
  exact ⟨o4, grown_trans g1 (grown_trans g2 (grown_trans g3 g4))⟩

set_option maxRecDepth 100000 in
set_option maxHeartbeats 4000000 in
theorem lawSums (a : Option Addr) (len cap : Nat) (zs : List Int) (w : World) (h : Rd w a len cap zs) :
    Calls Try.prog 4 #[.slice a len cap] w fun e w' => e = .returned (.bool true) ∧ Below w.heap.size w w' := by
  by_cases hl : len ≤ 1048576
  · have D1 := Lib.hid (drawSeal a len cap zs w h hl)
    have D2 := Lib.hid (fun W (hW : Below w.heap.size w W) => drawSum a len cap zs W (h.below hW) hl)
    have D3 := Lib.hid (fun W (hW : Below w.heap.size w W) => drawIs a len cap zs W (h.below hW) hl)
    clear h
    go_enter Try.func4, Try.ntmps4
    go_wp2_with (go_at_call 14; refine (lwBig_f _ _ _ _ hl).mono ?_; rintro e w' ⟨rfl, rfl⟩)
    refine D1.out.mono ?_
    rintro e w1 ⟨ad, ld, kd, ds, at', rfl, hld, od, b1⟩
    obtain ⟨cs, hcs⟩ : ∃ c, c = slC ds at' := ⟨_, rfl⟩
    obtain ⟨bs, hbs⟩ : ∃ c, c = slB ds at' := ⟨_, rfl⟩
    have HS := Lib.hid (And.intro hcs hbs)
    have KS := Lib.hid (show ∀ W, Rd W ad ld kd ds → Calls Try.prog 23 #[.slice ad ld kd, .int .i64 at'] W (Packed W cs bs) by
      subst hcs; subst hbs; exact fun W hr => implSeal ad ld kd at' ds W hr)
    have KS' := Lib.hid (show ∀ W, Rd W ad ld kd ds → Calls Try.prog 27 #[.slice ad ld kd, .int .i64 at'] W (Packed W cs bs) by
      subst hcs; subst hbs; exact fun W hr => specSeal ad ld kd at' ds W hr)
    have B1 := Lib.hid b1
    have O1 := Lib.hid od
    clear hcs hbs b1 D1 od
    go_wp2_with fail
    refine (KS.out _ O1.out.rd).mono ?_
    rintro e w2 ⟨sa, ls, ks, rfl, os, b2⟩
    have B2 := Lib.hid ((B1.out.trans (b2.mono B1.out.size)).alloc (Nat.le_trans B1.out.size b2.size) (.cells #[.int .i64 cs, .slice sa ls ks] 27))
    have X2 := Lib.hid (Box.new w2 27 #[.int .i64 cs, .slice sa ls ks])
    have S2 := Lib.hid (os.alloc (.cells #[.int .i64 cs, .slice sa ls ks] 27))
    have O2 := Lib.hid ((O1.out.below b2).alloc (.cells #[.int .i64 cs, .slice sa ls ks] 27))
    clear b2 os O1
    generalize hW2 : w2.alloc (.cells #[.int .i64 cs, .slice sa ls ks] 27) = W2 at *
    go_wp2_with fail
    clear hW2
    refine (D2.out _ B2.out).mono ?_
    rintro e w3 ⟨am, lm, km, ms, rfl, hlm, om, b3⟩
    obtain ⟨cx, hcx⟩ : ∃ c, c = smC ms := ⟨_, rfl⟩
    obtain ⟨vx, hvx⟩ : ∃ c, c = smV ms := ⟨_, rfl⟩
    have HM := Lib.hid (And.intro hcx hvx)
    have KM := Lib.hid (show ∀ W, Rd W am lm km ms → Calls Try.prog 25 #[.slice am lm km] W fun e w' => e = .returned (.agg #[.int .i64 cx, .int .i64 vx]) ∧ Below W.heap.size W w' by
      subst hcx; subst hvx; exact fun W hr => implSum am lm km ms W hr)
    have KM' := Lib.hid (show ∀ W, Rd W am lm km ms → Calls Try.prog 28 #[.slice am lm km] W fun e w' => e = .returned (.agg #[.int .i64 cx, .int .i64 vx]) ∧ Below W.heap.size W w' by
      subst hcx; subst hvx; exact fun W hr => specSum am lm km ms W hr)
    have B3 := Lib.hid (B2.out.trans (b3.mono B2.out.size))
    have X3 := Lib.hid (X2.out.below b3 X2.out.lt)
    have S3 := Lib.hid (S2.out.below b3)
    have O3 := Lib.hid (O2.out.below b3)
    have M3 := Lib.hid om
    clear hcx hvx b3 X2 S2 O2 om D2
    go_wp2_with fail
    refine (KM.out _ M3.out.rd).mono ?_
    rintro e w4 ⟨rfl, b4⟩
    have B4 := Lib.hid ((B3.out.trans (b4.mono B3.out.size)).alloc (Nat.le_trans B3.out.size b4.size) (.cells #[.int .i64 cx, .int .i64 vx] 32))
    have X4 := Lib.hid ((X3.out.below b4 X3.out.lt).alloc (.cells #[.int .i64 cx, .int .i64 vx] 32))
    have S4 := Lib.hid ((S3.out.below b4).alloc (.cells #[.int .i64 cx, .int .i64 vx] 32))
    have O4 := Lib.hid ((O3.out.below b4).alloc (.cells #[.int .i64 cx, .int .i64 vx] 32))
    have M4 := Lib.hid ((M3.out.below b4).alloc (.cells #[.int .i64 cx, .int .i64 vx] 32))
    have Z4 := Lib.hid (Box.new w4 32 #[.int .i64 cx, .int .i64 vx])
    clear b4 X3 S3 O3 M3
    generalize hW4 : w4.alloc (.cells #[.int .i64 cx, .int .i64 vx] 32) = W4 at *
    go_wp2_with fail
    clear hW4
    refine (D3.out _ B4.out).mono ?_
    rintro e w5 ⟨ay, ly, ky, ys, rfl, hly, oy, b5⟩
    obtain ⟨bi, hbi⟩ : ∃ c, c = isS ys := ⟨_, rfl⟩
    have KI := Lib.hid (show ∀ W, Rd W ay ly ky ys → Calls Try.prog 29 #[.slice ay ly ky] W fun e w' => e = .returned (.bool bi) ∧ Below W.heap.size W w' by
      subst hbi; exact fun W hr => implIs ay ly ky ys W hr)
    have KI' := Lib.hid (show ∀ W, Rd W ay ly ky ys → Calls Try.prog 30 #[.slice ay ly ky] W fun e w' => e = .returned (.bool bi) ∧ W = w' by
      subst hbi; exact fun W hr => specIs ay ly ky ys W hr)
    have B5 := Lib.hid (B4.out.trans (b5.mono B4.out.size))
    have X5 := Lib.hid (X4.out.below b5 X4.out.lt)
    have Z5 := Lib.hid (Z4.out.below b5 Z4.out.lt)
    have S5 := Lib.hid (S4.out.below b5)
    have O5 := Lib.hid (O4.out.below b5)
    have M5 := Lib.hid (M4.out.below b5)
    have Y5 := Lib.hid oy
    clear hbi b5 X4 Z4 S4 O4 M4 oy D3
    obtain ⟨zx, x0, x1⟩ := X5.out.two
    obtain ⟨zz, z0, z1⟩ := Z5.out.two
    have hf0 := field_br0
    go_wp2_with fail
    go_region_held3 (fun W => W.cell? ⟨w2.heap.size, 0, none⟩ = some (.int .i64 cs) ∧ W.cell? ⟨w4.heap.size, 0, none⟩ = some (.int .i64 cx) ∧ W.cell? ⟨w4.heap.size, 1, none⟩ = some (.int .i64 vx))
      (first | go_keep | (go_split_ands; exact ⟨keepc hb (by assumption), keepc hb (by assumption), keepc hb (by assumption)⟩))
      (first
        | (go_at_call 27; refine (KS'.out _ (O5.out.drew).rd).mono ?_; rintro e wa ⟨a5, l5, k5, rfl, o5, hba⟩; have hb := hba)
        | (go_at_call 28; refine (KM'.out _ ((M5.out.drew).below hba).rd).mono ?_; rintro e wb ⟨rfl, hbb⟩; have hb := hbb)
        | (go_at_call 29; refine (KI.out _ (((Y5.out.drew).below hba).below hbb).rd).mono ?_; rintro e wc ⟨rfl, hbc⟩; have hb := hbc)
        | (go_at_call 30; refine (KI'.out _ ((((Y5.out.drew).below hba).below hbb).below hbc).rd).mono ?_; rintro e wd ⟨rfl, rfl⟩))
    have B6 : Hid (Below w.heap.size w wc) := ((B5.out.drew.trans (hba.mono B5.out.size)).trans (hbb.mono (Nat.le_trans B5.out.size hba.size))).trans (hbc.mono (Nat.le_trans (Nat.le_trans B5.out.size hba.size) hbb.size))
    have X6 : Hid (Box wc w2.heap.size 27 #[.int .i64 cs, .slice sa ls ks]) := (((show Box w5.drew w2.heap.size 27 #[.int .i64 cs, .slice sa ls ks] from X5.out).below hba X5.out.lt).below hbb (Nat.lt_of_lt_of_le X5.out.lt hba.size)).below hbc (Nat.lt_of_lt_of_le X5.out.lt (Nat.le_trans hba.size hbb.size))
    have Z6 : Hid (Box wc w4.heap.size 32 #[.int .i64 cx, .int .i64 vx]) := (((show Box w5.drew w4.heap.size 32 #[.int .i64 cx, .int .i64 vx] from Z5.out).below hba Z5.out.lt).below hbb (Nat.lt_of_lt_of_le Z5.out.lt hba.size)).below hbc (Nat.lt_of_lt_of_le Z5.out.lt (Nat.le_trans hba.size hbb.size))
    have S6 := Lib.hid (((S5.out.drew.below hba).below hbb).below hbc)
    have O6 := Lib.hid (((O5.out.drew.below hba).below hbb).below hbc)
    have M6 := Lib.hid (((M5.out.drew.below hba).below hbb).below hbc)
    obtain ⟨zx6, x60, x61⟩ := X6.out.two
    obtain ⟨zz6, z60, z61⟩ := Z6.out.two
    clear hba hbb hbc hb X5 Z5 S5 O5 M5 Y5 x0 x1 z0 z1 zx zz o5 B1 B2 B3 B4 B5 KM KM' KI KI'
    have h3 : (ms.length ≤ 700 ∧ 4 ≤ lm) ∨ (ms.length ≤ 700 ∧ ¬ 4 ≤ lm) ∨ ¬ ms.length ≤ 700 := by omega
    rcases h3 with hc | hc | hc
    case' inl =>
      have hcx : cx = 0 := by rw [HM.out.1]; unfold smC; rw [if_pos hc.1]
      have hvx : vx = sumV ms := by rw [HM.out.2]; unfold smV; rw [if_pos hc.1]
      subst hcx
      obtain ⟨hm7, hm4⟩ := hc
      have hml := M6.out.length
      have hshape : ∃ gm, am = some ⟨gm, 0, none⟩ := by
        rcases M6.out.shape with ⟨_, h0, _⟩ | hg
        · omega
        · exact hg
      obtain ⟨gm, rfl⟩ := hshape
      have o0 := own_lit wc wc.heap.size (Nat.le_refl _)
      have r0 := (M6.out.rd).alloc (.cells #[] 5)
      have hgm := (M6.out.lt _ rfl).2
      dsimp only at hgm
      have HML := Lib.hid hml
      have HV := Lib.hid hvx
      clear hml hvx
      have hm0 : ∃ x, ms.getD 0 0 = x := ⟨_, rfl⟩
      have hm1 : ∃ x, ms.getD 1 0 = x := ⟨_, rfl⟩
      have hm2 : ∃ x, ms.getD 2 0 = x := ⟨_, rfl⟩
      have hm3 : ∃ x, ms.getD 3 0 = x := ⟨_, rfl⟩
      obtain ⟨y0, e0⟩ := hm0
      obtain ⟨y1, e1⟩ := hm1
      obtain ⟨y2, e2⟩ := hm2
      obtain ⟨y3, e3⟩ := hm3
      have HE := Lib.hid (And.intro e0 (And.intro e1 (And.intro e2 e3)))
      have m0 := (M6.out.alloc (.cells #[] 5)).cellAt 0 (by omega)
      have m1 := (M6.out.alloc (.cells #[] 5)).cellAt 1 (by omega)
      have m2 := (M6.out.alloc (.cells #[] 5)).cellAt 2 (by omega)
      have m3 := (M6.out.alloc (.cells #[] 5)).cellAt 3 (by omega)
      rw [e0] at m0
      rw [e1] at m1
      rw [e2] at m2
      rw [e3] at m3
      have MM := Lib.hid (And.intro m0 (And.intro m1 (And.intro m2 m3)))
      clear e0 e1 e2 e3 m0 m1 m2 m3
      go_upto_region 11 with (fail)
      go_wp2_with (at_builtin; refine append_bytes _ rfl (.tmp 55) (.tmp 56) rfl wc.heap.size _ _ _ [] rfl o0 (some ⟨gm, 0, none⟩) lm km ms rfl r0 (by simp) (by omega) ?_; go_must (intro a9 c9 w9 o9 g9; simp only [List.nil_append, Nat.zero_add] at o9; obtain ⟨g, hg, hgb⟩ := own_some o9 (by omega); subst hg; have q0 := g9.cell MM.out.1 (by simp [Value.ownBlock]; omega); have q1 := g9.cell MM.out.2.1 (by simp [Value.ownBlock]; omega); have q2 := g9.cell MM.out.2.2.1 (by simp [Value.ownBlock]; omega); have q3 := g9.cell MM.out.2.2.2 (by simp [Value.ownBlock]; omega); have d0 := o9.cellAt 0 (by omega); have d1 := o9.cellAt 1 (by omega); have d2 := o9.cellAt 2 (by omega); have d3 := o9.cellAt 3 (by omega); have f0 := o9.frozenAt 0; have f1 := o9.frozenAt 1; have f2 := o9.frozenAt 2; have f3 := o9.frozenAt 3; have O9 := Lib.hid o9; have G9 := Lib.hid g9; have n1 : ¬ g = gm := (by omega); have n2 : ¬ gm = g := (by omega); clear o9 g9))
      obtain ⟨ot, gt⟩ := turn_own O9.out HE.out.1 HE.out.2.1 HE.out.2.2.1 HE.out.2.2.2
      have ct : Below wc.heap.size wc ((((w9.setCell ⟨g, 0, none⟩ (.int .u8 y2)).setCell ⟨g, 1, none⟩ (.int .u8 y3)).setCell ⟨g, 2, none⟩ (.int .u8 y0)).setCell ⟨g, 3, none⟩ (.int .u8 y1)) :=
        (((Below.refl _ _).alloc (Nat.le_refl _) _).grown G9.out (by simp) (fun k e => by simp [Value.ownBlock] at e; omega)).grown gt (Nat.le_trans (by simp) G9.out.size) (fun k e => by cases e; exact hgb)
      clear q0 q1 q2 q3 d0 d1 d2 d3 f0 f1 f2 f3 n1 n2 gt
      generalize (((w9.setCell ⟨g, 0, none⟩ (.int .u8 y2)).setCell ⟨g, 1, none⟩ (.int .u8 y3)).setCell ⟨g, 2, none⟩ (.int .u8 y0)).setCell ⟨g, 3, none⟩ (.int .u8 y1) = V at *
      have hT : (turned ms).length = lm := ot.length
      have KT := Lib.hid (show ∀ W, Rd W (some ⟨g, 0, none⟩) lm c9 (turned ms) → Calls Try.prog 25 #[.slice (some ⟨g, 0, none⟩) lm c9] W fun e w' => e = .returned (.agg #[.int .i64 0, .int .i64 vx]) ∧ Below W.heap.size W w' from fun W hr => by
        have := implSum _ _ _ _ W hr
        have h7 : (turned ms).length ≤ 700 := by have := HML.out; omega
        simp only [smC, smV, h7, if_true] at this
        rw [sumV_turned ms (by have := HML.out; omega)] at this
        rw [HV.out]; exact this)
      obtain ⟨zt, t0, t1⟩ := (Z6.out.below ct Z6.out.lt).two
      have OT := Lib.hid ot
      have CT := Lib.hid ct
      clear ot ct hT HE MM O9 G9 z60 z61 o0 r0
      go_region_held3 (fun W => W.cell? ⟨w4.heap.size, 0, none⟩ = some (.int .i64 0) ∧ W.cell? ⟨w4.heap.size, 1, none⟩ = some (.int .i64 vx))
        (first | go_keep | (go_split_ands; exact ⟨keepc hb (by assumption), keepc hb (by assumption)⟩))
        (first | (go_at_call 25; refine (KT.out _ OT.out.drew.rd).mono ?_; rintro e wx ⟨rfl, hbx⟩; have hb := hbx))
      have Cx : Hid (Below wc.heap.size wc wx) := CT.out.drew.trans (hbx.mono CT.out.size)
      clear hbx hb t0 t1 zt OT CT KT
    case' inr.inl =>
      have Cx : Hid (Below wc.heap.size wc wc) := Below.refl _ _
      have hcx : cx = 0 := by rw [HM.out.1]; unfold smC; rw [if_pos hc.1]
      subst hcx
      have hlt : decide ((4 : Int) ≤ lm) = false := decide_eq_false (by omega)
      clear hc
    case' inr.inr =>
      have Cx : Hid (Below wc.heap.size wc wc) := Below.refl _ _
      have hcx : cx = 2 := by rw [HM.out.1]; unfold smC; rw [if_neg hc]
      subst hcx
      have hne2 : ((2 : Int) == 0) = false := rfl
      clear hc
    all_goals
      have Bx := Lib.hid (B6.out.trans (Cx.out.mono B6.out.size))
      have Xx := Lib.hid (X6.out.below Cx.out X6.out.lt)
      have Sx := Lib.hid (S6.out.below Cx.out)
      have Ox := Lib.hid (O6.out.below Cx.out)
      obtain ⟨zxx, xx0, xx1⟩ := Xx.out.two
      clear Cx B6 X6 S6 O6 M6 HM
      by_cases hok : ds.length ≤ 700 ∧ slOk ds.length at' = true
      · have hcs : cs = 0 := by rw [HS.out.1]; unfold slC; rw [if_pos hok.1, if_pos hok.2]
        have hbs : bs = sealB ds at'.toNat := by rw [HS.out.2]; unfold slB; rw [if_pos hok.1, if_pos hok.2]
        have hok2 := hok.2
        simp only [slOk, decide_eq_true_eq] at hok2
        obtain ⟨A, rfl⟩ := Int.eq_ofNat_of_zero_le hok2.1
        rw [Int.toNat_natCast] at hbs
        have hdl := Ox.out.length
        have hbl : bs.length = ld := by rw [hbs, sealB_len]; exact hdl
        have hll : ls = ld := by rw [← Sx.out.length]; exact hbl
        have hsum : isS bs = true := by
          unfold isS
          rw [decide_eq_true (show bs.length ≤ 700 by omega), Bool.true_and, hbs, sum_sealB ds A (by omega) (by omega)]
          rfl
        have hagain : slC bs A = 0 ∧ slB bs A = bs := by
          have h1 : bs.length ≤ 700 := by omega
          have h2 : slOk bs.length A = true := by rw [hbl, ← hdl]; exact hok.2
          refine ⟨by unfold slC; rw [if_pos h1, if_pos h2], ?_⟩
          unfold slB
          rw [if_pos h1, if_pos h2, Int.toNat_natCast, hbs, sealB_sealB]
        subst hcs
        subst hll
        have KG := Lib.hid (show ∀ W, Rd W sa ls ks bs → Calls Try.prog 23 #[.slice sa ls ks, .int .i64 A] W (Packed W 0 bs) from fun W hr => by
          have := implSeal sa ls ks A bs W hr
          rw [hagain.1, hagain.2] at this
          exact this)
        have KJ := Lib.hid (show ∀ W, Rd W sa ls ks bs → Calls Try.prog 29 #[.slice sa ls ks] W fun e w' => e = .returned (.bool true) ∧ Below W.heap.size W w' from fun W hr => by
          have := implIs sa ls ks bs W hr
          rw [hsum] at this
          exact this)
        clear hok hok2 hbs hbl hsum hagain hdl HS
        go_wp2_with fail
        refine (KG.out _ Sx.out.rd).mono ?_
        rintro e wg ⟨ag, lg, kg, rfl, og, hbg⟩
        have Bg := Lib.hid ((Bx.out.trans (hbg.mono Bx.out.size)).alloc (Nat.le_trans Bx.out.size hbg.size) (.cells #[.int .i64 0, .slice ag lg kg] 27))
        have Xg := Lib.hid ((Xx.out.below hbg Xx.out.lt).alloc (.cells #[.int .i64 0, .slice ag lg kg] 27))
        have Sg := Lib.hid ((Sx.out.below hbg).alloc (.cells #[.int .i64 0, .slice ag lg kg] 27))
        have Og := Lib.hid ((Ox.out.below hbg).alloc (.cells #[.int .i64 0, .slice ag lg kg] 27))
        have Gg := Lib.hid (og.alloc (.cells #[.int .i64 0, .slice ag lg kg] 27))
        have Ng := Lib.hid (Box.new wg 27 #[.int .i64 0, .slice ag lg kg])
        clear hbg og Bx Xx Sx Ox xx0 xx1 zxx KG KS
        generalize hWg : wg.alloc (.cells #[.int .i64 0, .slice ag lg kg] 27) = Wg at *
        go_wp2_with fail
        clear hWg
        obtain ⟨zxg, xg0, xg1⟩ := Xg.out.two
        obtain ⟨zng, ng0, ng1⟩ := Ng.out.two
        have hfb := field_br
        have heq : ((ls : Int) == (ls : Int)) = true := by simp
        go_region_held3 (fun W => W.cell? ⟨w2.heap.size, 1, none⟩ = some (.slice sa ls ks) ∧ W.cell? ⟨wg.heap.size, 1, none⟩ = some (.slice ag lg kg))
          (first | go_keep | (go_split_ands; exact ⟨keepc hb (by assumption), keepc hb (by assumption)⟩))
          (first
            | (go_at_call 29; refine (KJ.out _ Sg.out.drew.rd).mono ?_; rintro e wj ⟨rfl, hbj⟩; have hb := hbj)
            | (go_at_call 27; refine (KS'.out _ (Og.out.drew.below hbj).rd).mono ?_; rintro e wk ⟨a8, l8, k8, rfl, o8, hbk⟩; have hb := hbk)
            | (go_at_call 21; refine (lwSame_t _ _ _ _ _ _ _ _ ((Sg.out.drew.below hbj).below hbk).rd o8.rd).mono ?_; rintro e we ⟨rfl, rfl⟩)
            | (go_at_call 21; refine (lwSame_t _ _ _ _ _ _ _ _ (Gg.out.drew.below hbj).rd (Sg.out.drew.below hbj).rd).mono ?_; rintro e we ⟨rfl, rfl⟩))
        go_wp2
        go_ret
        exact ⟨rfl, (Bg.out.drew.trans (hbj.mono Bg.out.size)).trans (hbk.mono (Nat.le_trans Bg.out.size hbj.size))⟩
      · have hcs : (cs != 0) = true := by
          rw [HS.out.1]
          unfold slC
          by_cases h1 : ds.length ≤ 700
          · rw [if_pos h1, if_neg (fun h2 => hok ⟨h1, h2⟩)]; rfl
          · rw [if_neg h1]; rfl
        clear hok HS
        go_wp2
        go_ret
        exact ⟨rfl, Bx.out⟩
  · go_enter Try.func4, Try.ntmps4
    go_wp2_with (go_at_call 14; refine (lwBig_t _ _ _ _ hl).mono ?_; rintro e w' ⟨rfl, rfl⟩)
    go_ret
    exact ⟨rfl, Below.refl _ _⟩
end Go.Proofs.Ytgdjklbneeemfaa
