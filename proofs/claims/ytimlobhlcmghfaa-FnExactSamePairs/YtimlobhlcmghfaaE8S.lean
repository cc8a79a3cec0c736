/-
  SameEnds of the model.
-/
import Derived.Test.YtimlobhlcmghfaaE8Q
import Derived.Test.YtimlobhlcmghfaaK8P
import Derived.Test.YtimlobhlcmghfaaP6S
import Derived.Test.YtimlobhlcmghfaaStr
import Derived.Deep.CutRange
import Derived.Test.YtimlobhlcmghfaaK8W
namespace Go.Proofs.Ytimlobhlcmghfaa
open Go.ChangeShapes Go.WideShapes Go.ChangeAt Go.RowKit

set_option maxRecDepth 20000 in
set_option maxHeartbeats 40000000 in
theorem specSameEnds (p q : EndR) (w : World) (h : EndR.ok w p) (h' : EndR.ok w q) :
    Calls Try.prog 86 #[.agg (EndR.cells p).toArray, .agg (EndR.cells q).toArray] w fun e w' => e = .returned (.bool (seR p q)) ∧ Below w.heap.size w w' := by
  obtain ⟨p0, p1, p2, p3, p4, p5, p6, p7, p8, p9, p10, p11, p12, p13⟩ := p
  obtain ⟨q0, q1, q2, q3, q4, q5, q6, q7, q8, q9, q10, q11, q12, q13⟩ := q
  show Calls Try.prog 86 #[.agg #[.int .i64 p0, .int .i64 p1, .int .i64 p2, .int .i64 p3, .int .i64 p4, .int .i64 p5, .slice p6.a p6.l p6.c, .bool p7, .int .i64 p8, .int .i64 p9, .slice p10.a p10.l p10.c, .int .i64 p11, .int .i64 p12, .int .i64 p13], .agg #[.int .i64 q0, .int .i64 q1, .int .i64 q2, .int .i64 q3, .int .i64 q4, .int .i64 q5, .slice q6.a q6.l q6.c, .bool q7, .int .i64 q8, .int .i64 q9, .slice q10.a q10.l q10.c, .int .i64 q11, .int .i64 q12, .int .i64 q13]] w fun e w' => e = .returned (.bool (seR ⟨p0, p1, p2, p3, p4, p5, p6, p7, p8, p9, p10, p11, p12, p13⟩ ⟨q0, q1, q2, q3, q4, q5, q6, q7, q8, q9, q10, q11, q12, q13⟩)) ∧ Below w.heap.size w w'
  have B0 := Lib.hid (((Below.refl w.heap.size w).alloc (Nat.le_refl _) (.cells #[.int .i64 p0, .int .i64 p1, .int .i64 p2, .int .i64 p3, .int .i64 p4, .int .i64 p5, .slice p6.a p6.l p6.c, .bool p7, .int .i64 p8, .int .i64 p9, .slice p10.a p10.l p10.c, .int .i64 p11, .int .i64 p12, .int .i64 p13] 120)).alloc (by simp) (.cells #[.int .i64 q0, .int .i64 q1, .int .i64 q2, .int .i64 q3, .int .i64 q4, .int .i64 q5, .slice q6.a q6.l q6.c, .bool q7, .int .i64 q8, .int .i64 q9, .slice q10.a q10.l q10.c, .int .i64 q11, .int .i64 q12, .int .i64 q13] 120))
  have X0 := Lib.hid ((Box.new w 120 #[.int .i64 p0, .int .i64 p1, .int .i64 p2, .int .i64 p3, .int .i64 p4, .int .i64 p5, .slice p6.a p6.l p6.c, .bool p7, .int .i64 p8, .int .i64 p9, .slice p10.a p10.l p10.c, .int .i64 p11, .int .i64 p12, .int .i64 p13]).alloc (.cells #[.int .i64 q0, .int .i64 q1, .int .i64 q2, .int .i64 q3, .int .i64 q4, .int .i64 q5, .slice q6.a q6.l q6.c, .bool q7, .int .i64 q8, .int .i64 q9, .slice q10.a q10.l q10.c, .int .i64 q11, .int .i64 q12, .int .i64 q13] 120))
  have y0 := Box.new (w.alloc (.cells #[.int .i64 p0, .int .i64 p1, .int .i64 p2, .int .i64 p3, .int .i64 p4, .int .i64 p5, .slice p6.a p6.l p6.c, .bool p7, .int .i64 p8, .int .i64 p9, .slice p10.a p10.l p10.c, .int .i64 p11, .int .i64 p12, .int .i64 p13] 120)) 120 #[.int .i64 q0, .int .i64 q1, .int .i64 q2, .int .i64 q3, .int .i64 q4, .int .i64 q5, .slice q6.a q6.l q6.c, .bool q7, .int .i64 q8, .int .i64 q9, .slice q10.a q10.l q10.c, .int .i64 q11, .int .i64 q12, .int .i64 q13]
  simp only [World.size_alloc] at y0
  have Y0 := Lib.hid y0
  have g1 : Yt.ok w p6 := h.1
  have g2 : Yt.ok w q6 := h'.1
  have k1 : Lt.ok PieceR.md w p10 := h.2
  have k2 : Lt.ok PieceR.md w q10 := h'.2
  have c1 := conv_rd (Rd.below g1 B0.out)
  have c2 := conv_rd (Rd.below g2 B0.out)
  have KP := Lib.hid (fun W (hW : Below w.heap.size w W) => specSamePieces p10.a q10.a p10.l p10.c q10.l q10.c (p10.rs.map PieceR.pm) (q10.rs.map PieceR.pm) W (Lt.ok.below (by decide) k1 hW).pl (Lt.ok.below (by decide) k2 hW).pl)
  rw [eqV_pm] at KP
  have H : Hid (seR ⟨p0, p1, p2, p3, p4, p5, p6, p7, p8, p9, p10, p11, p12, p13⟩ ⟨q0, q1, q2, q3, q4, q5, q6, q7, q8, q9, q10, q11, q12, q13⟩ = ((p0 == q0) && ((p1 == q1) && ((p2 == q2) && ((p3 == q3) && ((p4 == q4) && ((p5 == q5) && (eqL p6.z q6.z && ((p7 == q7) && ((p8 == q8) && ((p9 == q9) && (decide (p10.rs.map PieceR.val = q10.rs.map PieceR.val) && ((p11 == q11) && ((p12 == q12) && (p13 == q13))))))))))))))) := rfl
  have hs : ((strOfNums p6.z).toList == (strOfNums q6.z).toList) = eqL p6.z q6.z := by
    unfold eqL
    by_cases h3 : p6.z = q6.z
    · rw [h3]; simp
    · rw [str_ne g1.b8 g2.b8 h3]; simp [h3]
  clear h h' g1 g2 k1 k2
  generalize seR _ _ = v at *
  obtain ⟨W0, hW0⟩ : ∃ W, W = (w.alloc (.cells #[.int .i64 p0, .int .i64 p1, .int .i64 p2, .int .i64 p3, .int .i64 p4, .int .i64 p5, .slice p6.a p6.l p6.c, .bool p7, .int .i64 p8, .int .i64 p9, .slice p10.a p10.l p10.c, .int .i64 p11, .int .i64 p12, .int .i64 p13] 120)).alloc (.cells #[.int .i64 q0, .int .i64 q1, .int .i64 q2, .int .i64 q3, .int .i64 q4, .int .i64 q5, .slice q6.a q6.l q6.c, .bool q7, .int .i64 q8, .int .i64 q9, .slice q10.a q10.l q10.c, .int .i64 q11, .int .i64 q12, .int .i64 q13] 120) := ⟨_, rfl⟩
  rw [← hW0] at B0 X0 Y0 c1 c2
  have HW := Lib.hid hW0
  have x0 : W0.cell? ⟨w.heap.size, 0, none⟩ = some (.int .i64 p0) := X0.out.cell 0
  have z0 : W0.cell? ⟨w.heap.size + 1, 0, none⟩ = some (.int .i64 q0) := Y0.out.cell 0
  have x1 : W0.cell? ⟨w.heap.size, 1, none⟩ = some (.int .i64 p1) := X0.out.cell 1
  have z1 : W0.cell? ⟨w.heap.size + 1, 1, none⟩ = some (.int .i64 q1) := Y0.out.cell 1
  have x2 : W0.cell? ⟨w.heap.size, 2, none⟩ = some (.int .i64 p2) := X0.out.cell 2
  have z2 : W0.cell? ⟨w.heap.size + 1, 2, none⟩ = some (.int .i64 q2) := Y0.out.cell 2
  have x3 : W0.cell? ⟨w.heap.size, 3, none⟩ = some (.int .i64 p3) := X0.out.cell 3
  have z3 : W0.cell? ⟨w.heap.size + 1, 3, none⟩ = some (.int .i64 q3) := Y0.out.cell 3
  have x4 : W0.cell? ⟨w.heap.size, 4, none⟩ = some (.int .i64 p4) := X0.out.cell 4
  have z4 : W0.cell? ⟨w.heap.size + 1, 4, none⟩ = some (.int .i64 q4) := Y0.out.cell 4
  have x5 : W0.cell? ⟨w.heap.size, 5, none⟩ = some (.int .i64 p5) := X0.out.cell 5
  have z5 : W0.cell? ⟨w.heap.size + 1, 5, none⟩ = some (.int .i64 q5) := Y0.out.cell 5
  have x6 : W0.cell? ⟨w.heap.size, 6, none⟩ = some (.slice p6.a p6.l p6.c) := X0.out.cell 6
  have z6 : W0.cell? ⟨w.heap.size + 1, 6, none⟩ = some (.slice q6.a q6.l q6.c) := Y0.out.cell 6
  have x7 : W0.cell? ⟨w.heap.size, 7, none⟩ = some (.bool p7) := X0.out.cell 7
  have z7 : W0.cell? ⟨w.heap.size + 1, 7, none⟩ = some (.bool q7) := Y0.out.cell 7
  have x8 : W0.cell? ⟨w.heap.size, 8, none⟩ = some (.int .i64 p8) := X0.out.cell 8
  have z8 : W0.cell? ⟨w.heap.size + 1, 8, none⟩ = some (.int .i64 q8) := Y0.out.cell 8
  have x9 : W0.cell? ⟨w.heap.size, 9, none⟩ = some (.int .i64 p9) := X0.out.cell 9
  have z9 : W0.cell? ⟨w.heap.size + 1, 9, none⟩ = some (.int .i64 q9) := Y0.out.cell 9
  have x10 : W0.cell? ⟨w.heap.size, 10, none⟩ = some (.slice p10.a p10.l p10.c) := X0.out.cell 10
  have z10 : W0.cell? ⟨w.heap.size + 1, 10, none⟩ = some (.slice q10.a q10.l q10.c) := Y0.out.cell 10
  have x11 : W0.cell? ⟨w.heap.size, 11, none⟩ = some (.int .i64 p11) := X0.out.cell 11
  have z11 : W0.cell? ⟨w.heap.size + 1, 11, none⟩ = some (.int .i64 q11) := Y0.out.cell 11
  have x12 : W0.cell? ⟨w.heap.size, 12, none⟩ = some (.int .i64 p12) := X0.out.cell 12
  have z12 : W0.cell? ⟨w.heap.size + 1, 12, none⟩ = some (.int .i64 q12) := Y0.out.cell 12
  have x13 : W0.cell? ⟨w.heap.size, 13, none⟩ = some (.int .i64 p13) := X0.out.cell 13
  have z13 : W0.cell? ⟨w.heap.size + 1, 13, none⟩ = some (.int .i64 q13) := Y0.out.cell 13
  clear hW0
  generalize strOfNums p6.z = s1 at *
  generalize strOfNums q6.z = s2 at *
  generalize eqL p6.z q6.z = eb6 at *
  generalize decide (p10.rs.map PieceR.val = q10.rs.map PieceR.val) = eb10 at *
  go_enter Try.func86, Try.ntmps86
  go_upto_region 1 with fail
  rw [← HW.out]
  clear HW y0
  iterate 10 go_step
  cases m0 : (p0 == q0)
  case false =>
    rename_i X9 hX9
    refine hX9 _ _ ?_
    refine wpList_fin 4 (.bool false) (by kernel_rfl) ?_
    intro a9 h9 d9
    rename_i K9 hK9
    refine hK9 _ _ ?_
    go_wp2
    refine bodyPost_ret (results_tmp rfl _ _ _) (d9.trans rfl) ⟨?_, B0.out⟩
    rw [h9]
    exact ret_b (by rw [H.out]; simp [m0])
  case true =>
    iterate 14 go_step
    cases m1 : (p1 == q1)
    case false =>
      rename_i X9 hX9
      refine hX9 _ _ ?_
      refine wpList_fin 4 (.bool false) (by kernel_rfl) ?_
      intro a9 h9 d9
      rename_i K9 hK9
      refine hK9 _ _ ?_
      go_wp2
      refine bodyPost_ret (results_tmp rfl _ _ _) (d9.trans rfl) ⟨?_, B0.out⟩
      rw [h9]
      exact ret_b (by rw [H.out]; simp [m0, m1])
    case true =>
      iterate 14 go_step
      cases m2 : (p2 == q2)
      case false =>
        rename_i X9 hX9
        refine hX9 _ _ ?_
        refine wpList_fin 4 (.bool false) (by kernel_rfl) ?_
        intro a9 h9 d9
        rename_i K9 hK9
        refine hK9 _ _ ?_
        go_wp2
        refine bodyPost_ret (results_tmp rfl _ _ _) (d9.trans rfl) ⟨?_, B0.out⟩
        rw [h9]
        exact ret_b (by rw [H.out]; simp [m0, m1, m2])
      case true =>
        iterate 14 go_step
        cases m3 : (p3 == q3)
        case false =>
          rename_i X9 hX9
          refine hX9 _ _ ?_
          refine wpList_fin 4 (.bool false) (by kernel_rfl) ?_
          intro a9 h9 d9
          rename_i K9 hK9
          refine hK9 _ _ ?_
          go_wp2
          refine bodyPost_ret (results_tmp rfl _ _ _) (d9.trans rfl) ⟨?_, B0.out⟩
          rw [h9]
          exact ret_b (by rw [H.out]; simp [m0, m1, m2, m3])
        case true =>
          iterate 14 go_step
          cases m4 : (p4 == q4)
          case false =>
            rename_i X9 hX9
            refine hX9 _ _ ?_
            refine wpList_fin 4 (.bool false) (by kernel_rfl) ?_
            intro a9 h9 d9
            rename_i K9 hK9
            refine hK9 _ _ ?_
            go_wp2
            refine bodyPost_ret (results_tmp rfl _ _ _) (d9.trans rfl) ⟨?_, B0.out⟩
            rw [h9]
            exact ret_b (by rw [H.out]; simp [m0, m1, m2, m3, m4])
          case true =>
            iterate 14 go_step
            cases m5 : (p5 == q5)
            case false =>
              rename_i X9 hX9
              refine hX9 _ _ ?_
              refine wpList_fin 4 (.bool false) (by kernel_rfl) ?_
              intro a9 h9 d9
              rename_i K9 hK9
              refine hK9 _ _ ?_
              go_wp2
              refine bodyPost_ret (results_tmp rfl _ _ _) (d9.trans rfl) ⟨?_, B0.out⟩
              rw [h9]
              exact ret_b (by rw [H.out]; simp [m0, m1, m2, m3, m4, m5])
            case true =>
              cases eb6
              case false =>
                iterate 16 go_step
                rename_i X9 hX9
                refine hX9 _ _ ?_
                refine wpList_fin 4 (.bool false) (by kernel_rfl) ?_
                intro a9 h9 d9
                rename_i K9 hK9
                refine hK9 _ _ ?_
                go_wp2
                refine bodyPost_ret (results_tmp rfl _ _ _) (d9.trans rfl) ⟨?_, B0.out⟩
                rw [h9]
                exact ret_b (by rw [H.out]; simp [m0, m1, m2, m3, m4, m5])
              case true =>
                iterate 16 go_step
                repeat ((fail_if_success (with_reducible change wpList _ _ _ (Oper.mk (some 60) _ _ _ _ _ :: _) _ _)); go_step)
                cases m7 : (p7 == q7)
                case false =>
                  refine wpList_fin 4 (.bool false) (by kernel_rfl) ?_
                  intro a9 h9 d9
                  rename_i K9 hK9
                  refine hK9 _ _ ?_
                  go_wp2
                  refine bodyPost_ret (results_tmp rfl _ _ _) (d9.trans rfl) ⟨?_, B0.out⟩
                  rw [h9]
                  exact ret_b (by rw [H.out]; simp [m0, m1, m2, m3, m4, m5, m7])
                case true =>
                  repeat ((fail_if_success (with_reducible change wpList _ _ _ (Oper.mk (some 67) _ _ _ _ _ :: _) _ _)); go_step)
                  cases m8 : (p8 == q8)
                  case false =>
                    refine wpList_fin 4 (.bool false) (by kernel_rfl) ?_
                    intro a9 h9 d9
                    rename_i K9 hK9
                    refine hK9 _ _ ?_
                    go_wp2
                    refine bodyPost_ret (results_tmp rfl _ _ _) (d9.trans rfl) ⟨?_, B0.out⟩
                    rw [h9]
                    exact ret_b (by rw [H.out]; simp [m0, m1, m2, m3, m4, m5, m7, m8])
                  case true =>
                    repeat ((fail_if_success (with_reducible change wpList _ _ _ (Oper.mk (some 74) _ _ _ _ _ :: _) _ _)); go_step)
                    cases m9 : (p9 == q9)
                    case false =>
                      refine wpList_fin 4 (.bool false) (by kernel_rfl) ?_
                      intro a9 h9 d9
                      rename_i K9 hK9
                      refine hK9 _ _ ?_
                      go_wp2
                      refine bodyPost_ret (results_tmp rfl _ _ _) (d9.trans rfl) ⟨?_, B0.out⟩
                      rw [h9]
                      exact ret_b (by rw [H.out]; simp [m0, m1, m2, m3, m4, m5, m7, m8, m9])
                    case true =>
                      go_wp2_with fail
                      refine (KP.out _ B0.out).mono ?_
                      rintro e w1 ⟨rfl, b1⟩
                      have X1 := X0.out.below b1 X0.out.lt
                      have Y1 := Y0.out.below b1 Y0.out.lt
                      have B1 := Lib.hid (B0.out.trans (b1.mono B0.out.size))
                      clear x0 z0 x1 z1 x2 z2 x3 z3 x4 z4 x5 z5 x6 z6 x7 z7 x8 z8 x9 z9 x10 z10 x11 z11 x12 z12 x13 z13 c1 c2
                      have x11 : w1.cell? ⟨w.heap.size, 11, none⟩ = some (.int .i64 p11) := X1.cell 11
                      have z11 : w1.cell? ⟨w.heap.size + 1, 11, none⟩ = some (.int .i64 q11) := Y1.cell 11
                      have x12 : w1.cell? ⟨w.heap.size, 12, none⟩ = some (.int .i64 p12) := X1.cell 12
                      have z12 : w1.cell? ⟨w.heap.size + 1, 12, none⟩ = some (.int .i64 q12) := Y1.cell 12
                      have x13 : w1.cell? ⟨w.heap.size, 13, none⟩ = some (.int .i64 p13) := X1.cell 13
                      have z13 : w1.cell? ⟨w.heap.size + 1, 13, none⟩ = some (.int .i64 q13) := Y1.cell 13
                      clear b1 X1 Y1 KP
                      dsimp only
                      repeat ((fail_if_success (with_reducible change wpList _ _ _ (Oper.mk (some 81) _ _ _ _ _ :: _) _ _)); go_step)
                      cases eb10
                      case false =>
                        refine wpList_fin 4 (.bool false) (by kernel_rfl) ?_
                        intro a9 h9 d9
                        rename_i K9 hK9
                        refine hK9 _ _ ?_
                        go_wp2
                        refine bodyPost_ret (results_tmp rfl _ _ _) (d9.trans rfl) ⟨?_, B1.out⟩
                        rw [h9]
                        exact ret_b (by rw [H.out]; simp [m0, m1, m2, m3, m4, m5, m7, m8, m9])
                      case true =>
                        repeat ((fail_if_success (with_reducible change wpList _ _ _ (Oper.mk (some 88) _ _ _ _ _ :: _) _ _)); go_step)
                        cases m11 : (p11 == q11)
                        case false =>
                          refine wpList_fin 4 (.bool false) (by kernel_rfl) ?_
                          intro a9 h9 d9
                          rename_i K9 hK9
                          refine hK9 _ _ ?_
                          go_wp2
                          refine bodyPost_ret (results_tmp rfl _ _ _) (d9.trans rfl) ⟨?_, B1.out⟩
                          rw [h9]
                          exact ret_b (by rw [H.out]; simp [m0, m1, m2, m3, m4, m5, m7, m8, m9, m11])
                        case true =>
                          repeat ((fail_if_success (with_reducible change wpList _ _ _ (Oper.mk (some 95) _ _ _ _ _ :: _) _ _)); go_step)
                          cases m12 : (p12 == q12)
                          case false =>
                            refine wpList_fin 4 (.bool false) (by kernel_rfl) ?_
                            intro a9 h9 d9
                            rename_i K9 hK9
                            refine hK9 _ _ ?_
                            go_wp2
                            refine bodyPost_ret (results_tmp rfl _ _ _) (d9.trans rfl) ⟨?_, B1.out⟩
                            rw [h9]
                            exact ret_b (by rw [H.out]; simp [m0, m1, m2, m3, m4, m5, m7, m8, m9, m11, m12])
                          case true =>
                            go_wp2
                            go_ret
                            exact ⟨ret_b (by rw [H.out]; simp [m0, m1, m2, m3, m4, m5, m7, m8, m9, m11, m12]), B1.out⟩
end Go.Proofs.Ytimlobhlcmghfaa
