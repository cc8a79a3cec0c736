/-
  SameEnds of the program.
-/
import Derived.Test.YtimlobhlcmghfaaE8Q
import Derived.Test.YtimlobhlcmghfaaK8P
import Derived.Test.YtimlobhlcmghfaaP6S
import Derived.Test.YtimlobhlcmghfaaImSame
import Derived.Deep.CutRange
import Derived.BigGuard
namespace Go.Proofs.Ytimlobhlcmghfaa
open Go.ChangeShapes Go.WideShapes Go.ChangeAt Go.RowKit

set_option maxHeartbeats 8000000 in
theorem implSameEnds (p q : EndR) (w : World) (h : EndR.ok w p) (h' : EndR.ok w q) :
    Calls Try.prog 87 #[.agg (EndR.cells p).toArray, .agg (EndR.cells q).toArray] w fun e w' => e = .returned (.bool (seR p q)) ∧ Below w.heap.size w w' := by
  obtain ⟨p0, p1, p2, p3, p4, p5, p6, p7, p8, p9, p10, p11, p12, p13⟩ := p
  obtain ⟨q0, q1, q2, q3, q4, q5, q6, q7, q8, q9, q10, q11, q12, q13⟩ := q
  show Calls Try.prog 87 #[.agg #[.int .i64 p0, .int .i64 p1, .int .i64 p2, .int .i64 p3, .int .i64 p4, .int .i64 p5, .slice p6.a p6.l p6.c, .bool p7, .int .i64 p8, .int .i64 p9, .slice p10.a p10.l p10.c, .int .i64 p11, .int .i64 p12, .int .i64 p13], .agg #[.int .i64 q0, .int .i64 q1, .int .i64 q2, .int .i64 q3, .int .i64 q4, .int .i64 q5, .slice q6.a q6.l q6.c, .bool q7, .int .i64 q8, .int .i64 q9, .slice q10.a q10.l q10.c, .int .i64 q11, .int .i64 q12, .int .i64 q13]] w fun e w' => e = .returned (.bool (seR ⟨p0, p1, p2, p3, p4, p5, p6, p7, p8, p9, p10, p11, p12, p13⟩ ⟨q0, q1, q2, q3, q4, q5, q6, q7, q8, q9, q10, q11, q12, q13⟩)) ∧ Below w.heap.size w w'
  have B0 := Lib.hid (((Below.refl w.heap.size w).alloc (Nat.le_refl _) (.cells #[.int .i64 p0, .int .i64 p1, .int .i64 p2, .int .i64 p3, .int .i64 p4, .int .i64 p5, .slice p6.a p6.l p6.c, .bool p7, .int .i64 p8, .int .i64 p9, .slice p10.a p10.l p10.c, .int .i64 p11, .int .i64 p12, .int .i64 p13] 120)).alloc (by simp) (.cells #[.int .i64 q0, .int .i64 q1, .int .i64 q2, .int .i64 q3, .int .i64 q4, .int .i64 q5, .slice q6.a q6.l q6.c, .bool q7, .int .i64 q8, .int .i64 q9, .slice q10.a q10.l q10.c, .int .i64 q11, .int .i64 q12, .int .i64 q13] 120))
  have X0 := Lib.hid ((Box.new w 120 #[.int .i64 p0, .int .i64 p1, .int .i64 p2, .int .i64 p3, .int .i64 p4, .int .i64 p5, .slice p6.a p6.l p6.c, .bool p7, .int .i64 p8, .int .i64 p9, .slice p10.a p10.l p10.c, .int .i64 p11, .int .i64 p12, .int .i64 p13]).alloc (.cells #[.int .i64 q0, .int .i64 q1, .int .i64 q2, .int .i64 q3, .int .i64 q4, .int .i64 q5, .slice q6.a q6.l q6.c, .bool q7, .int .i64 q8, .int .i64 q9, .slice q10.a q10.l q10.c, .int .i64 q11, .int .i64 q12, .int .i64 q13] 120))
  have y0 := Box.new (w.alloc (.cells #[.int .i64 p0, .int .i64 p1, .int .i64 p2, .int .i64 p3, .int .i64 p4, .int .i64 p5, .slice p6.a p6.l p6.c, .bool p7, .int .i64 p8, .int .i64 p9, .slice p10.a p10.l p10.c, .int .i64 p11, .int .i64 p12, .int .i64 p13] 120)) 120 #[.int .i64 q0, .int .i64 q1, .int .i64 q2, .int .i64 q3, .int .i64 q4, .int .i64 q5, .slice q6.a q6.l q6.c, .bool q7, .int .i64 q8, .int .i64 q9, .slice q10.a q10.l q10.c, .int .i64 q11, .int .i64 q12, .int .i64 q13]
  simp only [World.size_alloc] at y0
  have Y0 := Lib.hid y0
  have g1 : Yt.ok w p6 := h.1
  have g2 : Yt.ok w q6 := h'.1
  have k1 : Lt.ok PieceR.md w p10 := h.2
  have k2 : Lt.ok PieceR.md w q10 := h'.2
  have KP := Lib.hid (fun W (hW : Below w.heap.size w W) => implSamePieces p10.a q10.a p10.l p10.c q10.l q10.c (p10.rs.map PieceR.pm) (q10.rs.map PieceR.pm) W (Lt.ok.below (by decide) k1 hW).pl (Lt.ok.below (by decide) k2 hW).pl)
  rw [eqV_pm] at KP
  have KE := Lib.hid (fun W (hW : Below w.heap.size w W) => equal_any p6.a p6.l p6.c p6.z q6.a q6.l q6.c q6.z W (Rd.below g1 hW) (Rd.below g2 hW))
  have H : Hid (seR ⟨p0, p1, p2, p3, p4, p5, p6, p7, p8, p9, p10, p11, p12, p13⟩ ⟨q0, q1, q2, q3, q4, q5, q6, q7, q8, q9, q10, q11, q12, q13⟩ = ((p0 == q0) && ((p1 == q1) && ((p2 == q2) && ((p3 == q3) && ((p4 == q4) && ((p5 == q5) && (eqL p6.z q6.z && ((p7 == q7) && ((p8 == q8) && ((p9 == q9) && (decide (p10.rs.map PieceR.val = q10.rs.map PieceR.val) && ((p11 == q11) && ((p12 == q12) && (p13 == q13))))))))))))))) := rfl
  clear h h' g1 g2 k1 k2
  generalize seR _ _ = v at *
  generalize eqL p6.z q6.z = eb6 at *
  generalize decide (p10.rs.map PieceR.val = q10.rs.map PieceR.val) = eb10 at *
  obtain ⟨W0, hW0⟩ : ∃ W, W = (w.alloc (.cells #[.int .i64 p0, .int .i64 p1, .int .i64 p2, .int .i64 p3, .int .i64 p4, .int .i64 p5, .slice p6.a p6.l p6.c, .bool p7, .int .i64 p8, .int .i64 p9, .slice p10.a p10.l p10.c, .int .i64 p11, .int .i64 p12, .int .i64 p13] 120)).alloc (.cells #[.int .i64 q0, .int .i64 q1, .int .i64 q2, .int .i64 q3, .int .i64 q4, .int .i64 q5, .slice q6.a q6.l q6.c, .bool q7, .int .i64 q8, .int .i64 q9, .slice q10.a q10.l q10.c, .int .i64 q11, .int .i64 q12, .int .i64 q13] 120) := ⟨_, rfl⟩
  rw [← hW0] at B0 X0 y0
  have HW := Lib.hid hW0
  have Y0 := Lib.hid y0
  clear hW0 y0
  obtain ⟨A0, hB0⟩ : ∃ A, A = ((p1 == q1) && ((p2 == q2) && ((p3 == q3) && ((p4 == q4) && (p5 == q5))))) := ⟨_, rfl⟩
  obtain ⟨A1, hB1⟩ : ∃ A, A = ((p8 == q8) && ((p9 == q9) && eb10)) := ⟨_, rfl⟩
  obtain ⟨A2, hB2⟩ : ∃ A, A = ((p11 == q11) && (p12 == q12)) := ⟨_, rfl⟩
  obtain ⟨A3, hB3⟩ : ∃ A, A = ((p0 == q0) && ((p7 == q7) && (p13 == q13))) := ⟨_, rfl⟩
  have HV : Hid (v = (A0 && (A1 && (A2 && (A3 && eb6))))) := by
    rw [H.out, hB0, hB1, hB2, hB3]
    simp only [Bool.and_assoc]
    ac_rfl
  have hA0 := Lib.hid hB0
  have hA1 := Lib.hid hB1
  have hA2 := Lib.hid hB2
  have hA3 := Lib.hid hB3
  clear H hB0 hB1 hB2 hB3
  go_enter Try.func87, Try.ntmps87
  go_upto_region 1 with fail
  rw [← HW.out]
  clear HW
  change Code.wp _ _ _ _ _
  go_cut [5] from 9 to 41 (fun t wx => t = .bool A0 ∧ W0 = wx)
  case first =>
    have x1 : W0.cell? ⟨w.heap.size, 1, none⟩ = some (.int .i64 p1) := X0.out.cell 1
    have z1 : W0.cell? ⟨w.heap.size + 1, 1, none⟩ = some (.int .i64 q1) := Y0.out.cell 1
    have x2 : W0.cell? ⟨w.heap.size, 2, none⟩ = some (.int .i64 p2) := X0.out.cell 2
    have z2 : W0.cell? ⟨w.heap.size + 1, 2, none⟩ = some (.int .i64 q2) := Y0.out.cell 2
    have x3 : W0.cell? ⟨w.heap.size, 3, none⟩ = some (.int .i64 p3) := X0.out.cell 3
    have z3 : W0.cell? ⟨w.heap.size + 1, 3, none⟩ = some (.int .i64 q3) := Y0.out.cell 3
    have x4 : W0.cell? ⟨w.heap.size, 4, none⟩ = some (.int .i64 p4) := X0.out.cell 4
    have z4 : W0.cell? ⟨w.heap.size + 1, 4, none⟩ = some (.int .i64 q4) := Y0.out.cell 4
    have x5 : W0.cell? ⟨w.heap.size, 5, none⟩ = some (.int .i64 p5) := X0.out.cell 5
    have z5 : W0.cell? ⟨w.heap.size + 1, 5, none⟩ = some (.int .i64 q5) := Y0.out.cell 5
    cases m1 : (p1 == q1)
    case false =>
      go_wp2_with fail
      go_meet
      exact ⟨congrArg Value.bool (by rw [hA0.out]; simp [m1]), rfl⟩
    case true =>
      cases m2 : (p2 == q2)
      case false =>
        go_wp2_with fail
        go_meet
        exact ⟨congrArg Value.bool (by rw [hA0.out]; simp [m1, m2]), rfl⟩
      case true =>
        cases m3 : (p3 == q3)
        case false =>
          go_wp2_with fail
          go_meet
          exact ⟨congrArg Value.bool (by rw [hA0.out]; simp [m1, m2, m3]), rfl⟩
        case true =>
          cases m4 : (p4 == q4)
          case false =>
            go_wp2_with fail
            go_meet
            exact ⟨congrArg Value.bool (by rw [hA0.out]; simp [m1, m2, m3, m4]), rfl⟩
          case true =>
            cases m5 : (p5 == q5)
            case false =>
              go_wp2_with fail
              go_meet
              exact ⟨congrArg Value.bool (by rw [hA0.out]; simp [m1, m2, m3, m4, m5]), rfl⟩
            case true =>
              go_wp2_with fail
              go_meet
              exact ⟨congrArg Value.bool (by rw [hA0.out]; simp [m1, m2, m3, m4, m5]), rfl⟩
  case rest =>
  obtain ⟨rfl, rfl⟩ := hcut
  go_upto_region 2 with fail
  go_cut [6] from 42 to 60 (fun t wx => t = .bool A1 ∧ Hid (Below W0.heap.size W0 wx))
  case first =>
    have x8 : W0.cell? ⟨w.heap.size, 8, none⟩ = some (.int .i64 p8) := X0.out.cell 8
    have z8 : W0.cell? ⟨w.heap.size + 1, 8, none⟩ = some (.int .i64 q8) := Y0.out.cell 8
    have x9 : W0.cell? ⟨w.heap.size, 9, none⟩ = some (.int .i64 p9) := X0.out.cell 9
    have z9 : W0.cell? ⟨w.heap.size + 1, 9, none⟩ = some (.int .i64 q9) := Y0.out.cell 9
    have x10 : W0.cell? ⟨w.heap.size, 10, none⟩ = some (.slice p10.a p10.l p10.c) := X0.out.cell 10
    have z10 : W0.cell? ⟨w.heap.size + 1, 10, none⟩ = some (.slice q10.a q10.l q10.c) := Y0.out.cell 10
    cases m8 : (p8 == q8)
    case false =>
      go_wp2_with fail
      go_meet
      exact ⟨congrArg Value.bool (by rw [hA1.out]; simp [m8]), Below.refl _ _⟩
    case true =>
      cases m9 : (p9 == q9)
      case false =>
        go_wp2_with fail
        go_meet
        exact ⟨congrArg Value.bool (by rw [hA1.out]; simp [m8, m9]), Below.refl _ _⟩
      case true =>
        cases eb10
        case false =>
          go_wp2_with fail
          refine (KP.out _ B0.out).mono ?_
          rintro e w1 ⟨rfl, b1⟩
          have B1 := Lib.hid b1
          clear b1
          go_wp2_with fail
          go_meet
          exact ⟨congrArg Value.bool (by rw [hA1.out]; simp [m8, m9]), B1.out⟩
        case true =>
          go_wp2_with fail
          refine (KP.out _ B0.out).mono ?_
          rintro e w1 ⟨rfl, b1⟩
          have B1 := Lib.hid b1
          clear b1
          go_wp2_with fail
          go_meet
          exact ⟨congrArg Value.bool (by rw [hA1.out]; simp [m8, m9]), B1.out⟩
  case rest =>
  obtain ⟨rfl, b1⟩ := hcut
  have X1 := Lib.hid (X0.out.below b1.out X0.out.lt)
  have Y1 := Lib.hid (Y0.out.below b1.out Y0.out.lt)
  have B1 := Lib.hid (B0.out.trans (b1.out.mono B0.out.size))
  clear b1
  generalize hwc : wc = w1 at *
  clear hwc
  go_upto_region 3 with fail
  go_cut [7] from 61 to 72 (fun t wx => t = .bool A2 ∧ w1 = wx)
  case first =>
    have x11 : w1.cell? ⟨w.heap.size, 11, none⟩ = some (.int .i64 p11) := X1.out.cell 11
    have z11 : w1.cell? ⟨w.heap.size + 1, 11, none⟩ = some (.int .i64 q11) := Y1.out.cell 11
    have x12 : w1.cell? ⟨w.heap.size, 12, none⟩ = some (.int .i64 p12) := X1.out.cell 12
    have z12 : w1.cell? ⟨w.heap.size + 1, 12, none⟩ = some (.int .i64 q12) := Y1.out.cell 12
    cases m11 : (p11 == q11)
    case false =>
      go_wp2_with fail
      go_meet
      exact ⟨congrArg Value.bool (by rw [hA2.out]; simp [m11]), rfl⟩
    case true =>
      cases m12 : (p12 == q12)
      case false =>
        go_wp2_with fail
        go_meet
        exact ⟨congrArg Value.bool (by rw [hA2.out]; simp [m11, m12]), rfl⟩
      case true =>
        go_wp2_with fail
        go_meet
        exact ⟨congrArg Value.bool (by rw [hA2.out]; simp [m11, m12]), rfl⟩
  case rest =>
  obtain ⟨rfl, rfl⟩ := hcut
  go_upto_region 4 with fail
  go_cut [8] from 73 to 91 (fun t wx => t = .bool A3 ∧ w1 = wx)
  case first =>
    have x0 : w1.cell? ⟨w.heap.size, 0, none⟩ = some (.int .i64 p0) := X1.out.cell 0
    have z0 : w1.cell? ⟨w.heap.size + 1, 0, none⟩ = some (.int .i64 q0) := Y1.out.cell 0
    have x7 : w1.cell? ⟨w.heap.size, 7, none⟩ = some (.bool p7) := X1.out.cell 7
    have z7 : w1.cell? ⟨w.heap.size + 1, 7, none⟩ = some (.bool q7) := Y1.out.cell 7
    have x13 : w1.cell? ⟨w.heap.size, 13, none⟩ = some (.int .i64 p13) := X1.out.cell 13
    have z13 : w1.cell? ⟨w.heap.size + 1, 13, none⟩ = some (.int .i64 q13) := Y1.out.cell 13
    cases m0 : (p0 == q0)
    case false =>
      go_wp2_with fail
      go_meet
      exact ⟨congrArg Value.bool (by rw [hA3.out]; simp [m0]), rfl⟩
    case true =>
      cases m7 : (p7 == q7)
      case false =>
        go_wp2_with fail
        go_meet
        exact ⟨congrArg Value.bool (by rw [hA3.out]; simp [m0, m7]), rfl⟩
      case true =>
        cases m13 : (p13 == q13)
        case false =>
          go_wp2_with fail
          go_meet
          exact ⟨congrArg Value.bool (by rw [hA3.out]; simp [m0, m7, m13]), rfl⟩
        case true =>
          go_wp2_with fail
          go_meet
          exact ⟨congrArg Value.bool (by rw [hA3.out]; simp [m0, m7, m13]), rfl⟩
  case rest =>
  obtain ⟨rfl, rfl⟩ := hcut
  have x6 : w1.cell? ⟨w.heap.size, 6, none⟩ = some (.slice p6.a p6.l p6.c) := X1.out.cell 6
  have z6 : w1.cell? ⟨w.heap.size + 1, 6, none⟩ = some (.slice q6.a q6.l q6.c) := Y1.out.cell 6
  have KE1 := Lib.hid (KE.out _ B1.out)
  clear KE KP hA0 hA1 hA2 hA3
  cases A0 <;> cases A1 <;> cases A2 <;> cases A3 <;> cases eb6
  all_goals
    go_wp2_with (go_at_call 158; refine KE1.out.mono ?_; rintro e w9 ⟨rfl, rfl⟩)
    go_ret
    exact ⟨ret_b HV.out.symm, B1.out⟩
end Go.Proofs.Ytimlobhlcmghfaa
