/-
  SamePairs of the model.
-/
import Derived.Test.YtimlobhlcmghfaaZPairs
import Derived.Deep.RegionHeld3
namespace Go.Proofs.Ytimlobhlcmghfaa
open Go.ChangeShapes Go.WideShapes Go.ChangeAt Go.RowKit

set_option maxRecDepth 20000 in
set_option maxHeartbeats 16000000 in
theorem specSamePairs (p q : PairR) (w : World) (h : PairR.ok w p) (h' : PairR.ok w q) :
    Calls Try.prog 88 #[.agg (PairR.cells p).toArray, .agg (PairR.cells q).toArray] w fun e w' => e = .returned (.bool (spB p q)) ∧ Below w.heap.size w w' := by
  obtain ⟨p0, ⟨a1, n1, c1, s1⟩, ⟨a2, n2, c2, s2⟩, ⟨a3, n3, c3, s3⟩⟩ := p
  obtain ⟨q0, ⟨a4, n4, c4, s4⟩, ⟨a5, n5, c5, s5⟩, ⟨a6, n6, c6, s6⟩⟩ := q
  show Calls Try.prog 88 #[.agg #[.int .i64 p0, .slice a1 n1 c1, .slice a2 n2 c2, .slice a3 n3 c3], .agg #[.int .i64 q0, .slice a4 n4 c4, .slice a5 n5 c5, .slice a6 n6 c6]] w _
  obtain ⟨⟨g1, g2⟩, g3⟩ := h
  obtain ⟨⟨g4, g5⟩, g6⟩ := h'
  have G1 := Lib.hid (show Lt.ok EndR.md w ⟨a1, n1, c1, s1⟩ from g1)
  have G2 := Lib.hid (show Lt.ok FlightR.md w ⟨a2, n2, c2, s2⟩ from g2)
  have G3 := Lib.hid (show Lt.ok ReplyR.md w ⟨a3, n3, c3, s3⟩ from g3)
  have G4 := Lib.hid (show Lt.ok EndR.md w ⟨a4, n4, c4, s4⟩ from g4)
  have G5 := Lib.hid (show Lt.ok FlightR.md w ⟨a5, n5, c5, s5⟩ from g5)
  have G6 := Lib.hid (show Lt.ok ReplyR.md w ⟨a6, n6, c6, s6⟩ from g6)
  clear g1 g2 g3 g4 g5 g6
  have L1 := Lib.hid (show s1.length = n1 from G1.out.length)
  have L2 := Lib.hid (show s2.length = n2 from G2.out.length)
  have L3 := Lib.hid (show s3.length = n3 from G3.out.length)
  have L4 := Lib.hid (show s4.length = n4 from G4.out.length)
  have L5 := Lib.hid (show s5.length = n5 from G5.out.length)
  have L6 := Lib.hid (show s6.length = n6 from G6.out.length)
  have M1 : n1 ≤ maxLen := Nat.le_trans G1.out.le G1.out.max
  have M2 : n2 ≤ maxLen := Nat.le_trans G2.out.le G2.out.max
  have M3 : n3 ≤ maxLen := Nat.le_trans G3.out.le G3.out.max
  unfold maxLen at M1 M2 M3
  have H : Hid (spB ⟨p0, ⟨a1, n1, c1, s1⟩, ⟨a2, n2, c2, s2⟩, ⟨a3, n3, c3, s3⟩⟩ ⟨q0, ⟨a4, n4, c4, s4⟩, ⟨a5, n5, c5, s5⟩, ⟨a6, n6, c6, s6⟩⟩ = ((p0 == q0) && (decide (s1.map EndR.val = s4.map EndR.val) && (decide (s2.map FlightR.val = s5.map FlightR.val) && decide (s3.map ReplyR.val = s6.map ReplyR.val))))) := rfl
  generalize spB _ _ = v at *
  have B0 := Lib.hid (((Below.refl w.heap.size w).alloc (Nat.le_refl _) (.cells #[.int .i64 p0, .slice a1 n1 c1, .slice a2 n2 c2, .slice a3 n3 c3] 104)).alloc (by simp) (.cells #[.int .i64 q0, .slice a4 n4 c4, .slice a5 n5 c5, .slice a6 n6 c6] 104))
  have X0 := Lib.hid ((Box.new w 104 #[.int .i64 p0, .slice a1 n1 c1, .slice a2 n2 c2, .slice a3 n3 c3]).alloc (.cells #[.int .i64 q0, .slice a4 n4 c4, .slice a5 n5 c5, .slice a6 n6 c6] 104))
  have y0 := Box.new (w.alloc (.cells #[.int .i64 p0, .slice a1 n1 c1, .slice a2 n2 c2, .slice a3 n3 c3] 104)) 104 #[.int .i64 q0, .slice a4 n4 c4, .slice a5 n5 c5, .slice a6 n6 c6]
  simp only [World.size_alloc] at y0
  have Y0 := Lib.hid y0
  clear y0
  obtain ⟨W0, hW0⟩ : ∃ W, W = (w.alloc (.cells #[.int .i64 p0, .slice a1 n1 c1, .slice a2 n2 c2, .slice a3 n3 c3] 104)).alloc (.cells #[.int .i64 q0, .slice a4 n4 c4, .slice a5 n5 c5, .slice a6 n6 c6] 104) := ⟨_, rfl⟩
  rw [← hW0] at B0 X0 Y0
  have HW := Lib.hid hW0
  clear hW0
  have x0 : W0.cell? ⟨w.heap.size, 0, none⟩ = some (.int .i64 p0) := X0.out.cell 0
  have x1 : W0.cell? ⟨w.heap.size, 1, none⟩ = some (.slice a1 n1 c1) := X0.out.cell 1
  have x2 : W0.cell? ⟨w.heap.size, 2, none⟩ = some (.slice a2 n2 c2) := X0.out.cell 2
  have x3 : W0.cell? ⟨w.heap.size, 3, none⟩ = some (.slice a3 n3 c3) := X0.out.cell 3
  have y0 : W0.cell? ⟨w.heap.size + 1, 0, none⟩ = some (.int .i64 q0) := Y0.out.cell 0
  have y1 : W0.cell? ⟨w.heap.size + 1, 1, none⟩ = some (.slice a4 n4 c4) := Y0.out.cell 1
  have y2 : W0.cell? ⟨w.heap.size + 1, 2, none⟩ = some (.slice a5 n5 c5) := Y0.out.cell 2
  have y3 : W0.cell? ⟨w.heap.size + 1, 3, none⟩ = some (.slice a6 n6 c6) := Y0.out.cell 3
  by_cases m0 : p0 = q0
  case neg =>
    have e0 : (p0 != q0) = true := by simpa using m0
    have E : Hid (v = false) := by
      have e : (p0 == q0) = false := by simpa using m0
      simp only [Hid]
      rw [H.out, e, Bool.false_and]
    clear H
    go_enter Try.func88, Try.ntmps88
    go_upto_region 1 with fail
    rw [← HW.out]
    clear HW
    go_wp2
    go_ret
    exact ⟨ret_b E.out.symm, B0.out⟩
  subst m0
  have e0 : (p0 != p0) = false := by simp
  by_cases m1 : n1 = n4
  case neg =>
    have e1 : (n1 != n4) = true := by simpa using m1
    have d : decide (s1.map EndR.val = s4.map EndR.val) = false := decide_eq_false fun e => m1 (by
      have := congrArg List.length e
      rw [List.length_map, List.length_map, L1.out, L4.out] at this
      exact this)
    have E : Hid (v = false) := by
      simp only [Hid]
      rw [H.out, d]
      simp
    clear H
    go_enter Try.func88, Try.ntmps88
    go_upto_region 1 with fail
    rw [← HW.out]
    clear HW
    go_wp2
    go_ret
    exact ⟨ret_b E.out.symm, B0.out⟩
  subst m1
  have e1 : (n1 != n1) = false := by simp
  by_cases m2 : n2 = n5
  case neg =>
    have e2 : (n2 != n5) = true := by simpa using m2
    have d : decide (s2.map FlightR.val = s5.map FlightR.val) = false := decide_eq_false fun e => m2 (by
      have := congrArg List.length e
      rw [List.length_map, List.length_map, L2.out, L5.out] at this
      exact this)
    have E : Hid (v = false) := by
      simp only [Hid]
      rw [H.out, d]
      simp
    clear H
    go_enter Try.func88, Try.ntmps88
    go_upto_region 1 with fail
    rw [← HW.out]
    clear HW
    go_wp2
    go_ret
    exact ⟨ret_b E.out.symm, B0.out⟩
  subst m2
  have e2 : (n2 != n2) = false := by simp
  by_cases m3 : n3 = n6
  case neg =>
    have e3 : (n3 != n6) = true := by simpa using m3
    have d : decide (s3.map ReplyR.val = s6.map ReplyR.val) = false := decide_eq_false fun e => m3 (by
      have := congrArg List.length e
      rw [List.length_map, List.length_map, L3.out, L6.out] at this
      exact this)
    have E : Hid (v = false) := by
      simp only [Hid]
      rw [H.out, d]
      simp
    clear H
    go_enter Try.func88, Try.ntmps88
    go_upto_region 1 with fail
    rw [← HW.out]
    clear HW
    go_wp2
    go_ret
    exact ⟨ret_b E.out.symm, B0.out⟩
  subst m3
  have e3 : (n3 != n3) = false := by simp
  go_enter Try.func88, Try.ntmps88
  go_upto_region 1 with fail
  rw [← HW.out]
  clear HW
  rw [beq_self_eq_true, Bool.true_and] at H
  go_wp2
  go_loopw [5] (fun i wr => ∃ k : Nat, k ≤ n1 ∧ i = .int .i64 k ∧ Hid (∀ j, j < k → (s1.map EndR.val)[j]? = (s4.map EndR.val)[j]?) ∧ Hid (Below W0.heap.size W0 wr)) (fun i _ => n1 - (intOf i).toNat)
  case atStart => exact ⟨0, Nat.zero_le _, rfl, fun j hj => absurd hj (by omega), Below.refl _ _⟩
  case round =>
    obtain ⟨k, hk, rfl, heq, hbel⟩ := hrel
    have bw := Lib.hid (B0.out.trans (hbel.out.mono B0.out.size))
    have f1 : wr.cell? ⟨w.heap.size, 1, none⟩ = some (.slice a1 n1 c1) := (X0.out.below hbel.out X0.out.lt).cell 1
    have f2 : wr.cell? ⟨w.heap.size + 1, 1, none⟩ = some (.slice a4 n1 c4) := (Y0.out.below hbel.out Y0.out.lt).cell 1
    by_cases hlt : k < n1
    · obtain ⟨b1, o1, p, e1, hp, r1, d1⟩ := (G1.out.below (by decide) bw.out).at hlt
      obtain ⟨b2, o2, q, e2, hq, r2, d2⟩ := (G4.out.below (by decide) bw.out).at hlt
      dsimp only at e1 e2 hp hq
      subst e1
      subst e2
      have E := Lib.hid (show p.val = q.val → (s1.map EndR.val)[k]? = (s4.map EndR.val)[k]? from fun h => by rw [List.getElem?_map, List.getElem?_map, hp, hq]; exact congrArg some h)
      have G := Lib.hid (show p.val ≠ q.val → v = false from fun h => by
        have d : decide (s1.map EndR.val = s4.map EndR.val) = false := decide_eq_false fun e => h (by
          have e := congrArg (fun l => l[k]?) e
          simpa [List.getElem?_map, hp, hq] using e)
        rw [H.out, d]
        simp)
      have R1 : wr.rangeAt b1 (o1 + k * 14) (EndR.cells p) := r1
      have R2 : wr.rangeAt b2 (o2 + k * 14) (EndR.cells q) := r2
      have xx0 : wr.cell? ⟨b1, o1 + k * 14, none⟩ = some (.int .i64 p.f0) := R1 0 _ rfl
      have xx1 : wr.cell? ⟨b1, o1 + k * 14 + 1, none⟩ = some (.int .i64 p.f1) := R1 1 _ rfl
      have xx2 : wr.cell? ⟨b1, o1 + k * 14 + 2, none⟩ = some (.int .i64 p.f2) := R1 2 _ rfl
      have xx3 : wr.cell? ⟨b1, o1 + k * 14 + 3, none⟩ = some (.int .i64 p.f3) := R1 3 _ rfl
      have xx4 : wr.cell? ⟨b1, o1 + k * 14 + 4, none⟩ = some (.int .i64 p.f4) := R1 4 _ rfl
      have xx5 : wr.cell? ⟨b1, o1 + k * 14 + 5, none⟩ = some (.int .i64 p.f5) := R1 5 _ rfl
      have xx6 : wr.cell? ⟨b1, o1 + k * 14 + 6, none⟩ = some (.slice p.f6.a p.f6.l p.f6.c) := R1 6 _ rfl
      have xx7 : wr.cell? ⟨b1, o1 + k * 14 + 7, none⟩ = some (.bool p.f7) := R1 7 _ rfl
      have xx8 : wr.cell? ⟨b1, o1 + k * 14 + 8, none⟩ = some (.int .i64 p.f8) := R1 8 _ rfl
      have xx9 : wr.cell? ⟨b1, o1 + k * 14 + 9, none⟩ = some (.int .i64 p.f9) := R1 9 _ rfl
      have xx10 : wr.cell? ⟨b1, o1 + k * 14 + 10, none⟩ = some (.slice p.f10.a p.f10.l p.f10.c) := R1 10 _ rfl
      have xx11 : wr.cell? ⟨b1, o1 + k * 14 + 11, none⟩ = some (.int .i64 p.f11) := R1 11 _ rfl
      have xx12 : wr.cell? ⟨b1, o1 + k * 14 + 12, none⟩ = some (.int .i64 p.f12) := R1 12 _ rfl
      have xx13 : wr.cell? ⟨b1, o1 + k * 14 + 13, none⟩ = some (.int .i64 p.f13) := R1 13 _ rfl
      have yx0 : wr.cell? ⟨b2, o2 + k * 14, none⟩ = some (.int .i64 q.f0) := R2 0 _ rfl
      have yx1 : wr.cell? ⟨b2, o2 + k * 14 + 1, none⟩ = some (.int .i64 q.f1) := R2 1 _ rfl
      have yx2 : wr.cell? ⟨b2, o2 + k * 14 + 2, none⟩ = some (.int .i64 q.f2) := R2 2 _ rfl
      have yx3 : wr.cell? ⟨b2, o2 + k * 14 + 3, none⟩ = some (.int .i64 q.f3) := R2 3 _ rfl
      have yx4 : wr.cell? ⟨b2, o2 + k * 14 + 4, none⟩ = some (.int .i64 q.f4) := R2 4 _ rfl
      have yx5 : wr.cell? ⟨b2, o2 + k * 14 + 5, none⟩ = some (.int .i64 q.f5) := R2 5 _ rfl
      have yx6 : wr.cell? ⟨b2, o2 + k * 14 + 6, none⟩ = some (.slice q.f6.a q.f6.l q.f6.c) := R2 6 _ rfl
      have yx7 : wr.cell? ⟨b2, o2 + k * 14 + 7, none⟩ = some (.bool q.f7) := R2 7 _ rfl
      have yx8 : wr.cell? ⟨b2, o2 + k * 14 + 8, none⟩ = some (.int .i64 q.f8) := R2 8 _ rfl
      have yx9 : wr.cell? ⟨b2, o2 + k * 14 + 9, none⟩ = some (.int .i64 q.f9) := R2 9 _ rfl
      have yx10 : wr.cell? ⟨b2, o2 + k * 14 + 10, none⟩ = some (.slice q.f10.a q.f10.l q.f10.c) := R2 10 _ rfl
      have yx11 : wr.cell? ⟨b2, o2 + k * 14 + 11, none⟩ = some (.int .i64 q.f11) := R2 11 _ rfl
      have yx12 : wr.cell? ⟨b2, o2 + k * 14 + 12, none⟩ = some (.int .i64 q.f12) := R2 12 _ rfl
      have yx13 : wr.cell? ⟨b2, o2 + k * 14 + 13, none⟩ = some (.int .i64 q.f13) := R2 13 _ rfl
      have hI0 : (0 : Int) ≤ (k : Int) := by omega
      have hI1 : (k : Int) < (n1 : Int) := by omega
      have KC := Lib.hid (sameEnd_spec p q wr.drew (EndR.md.drew d1) (EndR.md.drew d2))
      clear r1 r2 d1 d2 hp hq R1 R2
      by_cases hc : p.val = q.val
      · rw [show decide (p.val = q.val) = true from decide_eq_true hc] at KC
        have E' : Hid ((s1.map EndR.val)[k]? = (s4.map EndR.val)[k]?) := E.out (hc)
        clear E G
        clear hc
        go_wp2_with fail
        go_region_held3 (fun W => W.cell? ⟨b1, o1 + k * 14, none⟩ = some (.int .i64 p.f0) ∧ W.cell? ⟨b1, o1 + k * 14 + 1, none⟩ = some (.int .i64 p.f1) ∧ W.cell? ⟨b1, o1 + k * 14 + 2, none⟩ = some (.int .i64 p.f2) ∧ W.cell? ⟨b1, o1 + k * 14 + 3, none⟩ = some (.int .i64 p.f3) ∧ W.cell? ⟨b1, o1 + k * 14 + 4, none⟩ = some (.int .i64 p.f4) ∧ W.cell? ⟨b1, o1 + k * 14 + 5, none⟩ = some (.int .i64 p.f5) ∧ W.cell? ⟨b1, o1 + k * 14 + 6, none⟩ = some (.slice p.f6.a p.f6.l p.f6.c) ∧ W.cell? ⟨b1, o1 + k * 14 + 7, none⟩ = some (.bool p.f7) ∧ W.cell? ⟨b1, o1 + k * 14 + 8, none⟩ = some (.int .i64 p.f8) ∧ W.cell? ⟨b1, o1 + k * 14 + 9, none⟩ = some (.int .i64 p.f9) ∧ W.cell? ⟨b1, o1 + k * 14 + 10, none⟩ = some (.slice p.f10.a p.f10.l p.f10.c) ∧ W.cell? ⟨b1, o1 + k * 14 + 11, none⟩ = some (.int .i64 p.f11) ∧ W.cell? ⟨b1, o1 + k * 14 + 12, none⟩ = some (.int .i64 p.f12) ∧ W.cell? ⟨b1, o1 + k * 14 + 13, none⟩ = some (.int .i64 p.f13) ∧ W.cell? ⟨b2, o2 + k * 14, none⟩ = some (.int .i64 q.f0) ∧ W.cell? ⟨b2, o2 + k * 14 + 1, none⟩ = some (.int .i64 q.f1) ∧ W.cell? ⟨b2, o2 + k * 14 + 2, none⟩ = some (.int .i64 q.f2) ∧ W.cell? ⟨b2, o2 + k * 14 + 3, none⟩ = some (.int .i64 q.f3) ∧ W.cell? ⟨b2, o2 + k * 14 + 4, none⟩ = some (.int .i64 q.f4) ∧ W.cell? ⟨b2, o2 + k * 14 + 5, none⟩ = some (.int .i64 q.f5) ∧ W.cell? ⟨b2, o2 + k * 14 + 6, none⟩ = some (.slice q.f6.a q.f6.l q.f6.c) ∧ W.cell? ⟨b2, o2 + k * 14 + 7, none⟩ = some (.bool q.f7) ∧ W.cell? ⟨b2, o2 + k * 14 + 8, none⟩ = some (.int .i64 q.f8) ∧ W.cell? ⟨b2, o2 + k * 14 + 9, none⟩ = some (.int .i64 q.f9) ∧ W.cell? ⟨b2, o2 + k * 14 + 10, none⟩ = some (.slice q.f10.a q.f10.l q.f10.c) ∧ W.cell? ⟨b2, o2 + k * 14 + 11, none⟩ = some (.int .i64 q.f11) ∧ W.cell? ⟨b2, o2 + k * 14 + 12, none⟩ = some (.int .i64 q.f12) ∧ W.cell? ⟨b2, o2 + k * 14 + 13, none⟩ = some (.int .i64 q.f13) ∧ W.cell? ⟨w.heap.size, 1, none⟩ = some (.slice (some ⟨b1, o1, none⟩) n1 c1) ∧ W.cell? ⟨w.heap.size + 1, 1, none⟩ = some (.slice (some ⟨b2, o2, none⟩) n1 c4))
          (first | (go_split_ands; exact ⟨keepK hb (by assumption), keepK hb (by assumption), keepK hb (by assumption), keepK hb (by assumption), keepK hb (by assumption), keepK hb (by assumption), keepK hb (by assumption), keepK hb (by assumption), keepK hb (by assumption), keepK hb (by assumption), keepK hb (by assumption), keepK hb (by assumption), keepK hb (by assumption), keepK hb (by assumption), keepK hb (by assumption), keepK hb (by assumption), keepK hb (by assumption), keepK hb (by assumption), keepK hb (by assumption), keepK hb (by assumption), keepK hb (by assumption), keepK hb (by assumption), keepK hb (by assumption), keepK hb (by assumption), keepK hb (by assumption), keepK hb (by assumption), keepK hb (by assumption), keepK hb (by assumption), keepK hb (by assumption), keepK hb (by assumption)⟩) | go_keep)
          (first | (go_at_call 86; refine KC.out.mono ?_; rintro e w10 ⟨rfl, b10⟩; have hb := b10))
        have B10 := Lib.hid (hbel.out.drew.trans (b10.mono hbel.out.drew.size))
        clear hb b10 xx0 xx1 xx2 xx3 xx4 xx5 xx6 xx7 xx8 xx9 xx10 xx11 xx12 xx13 yx0 yx1 yx2 yx3 yx4 yx5 yx6 yx7 yx8 yx9 yx10 yx11 yx12 yx13 f1 f2
        go_wp2
        go_roundw
        case rel => exact ⟨k + 1, by omega, by go_num, fun j hj => by
          by_cases hjk : j < k
          · exact heq.out j hjk
          · obtain rfl : j = k := by omega
            exact E'.out, B10.out⟩
        case measure => simp [intOf]; omega
      · rw [show decide (p.val = q.val) = false from decide_eq_false hc] at KC
        have F' : Hid (v = false) := G.out hc
        clear E G
        clear hc
        go_wp2_with fail
        go_region_held3 (fun W => W.cell? ⟨b1, o1 + k * 14, none⟩ = some (.int .i64 p.f0) ∧ W.cell? ⟨b1, o1 + k * 14 + 1, none⟩ = some (.int .i64 p.f1) ∧ W.cell? ⟨b1, o1 + k * 14 + 2, none⟩ = some (.int .i64 p.f2) ∧ W.cell? ⟨b1, o1 + k * 14 + 3, none⟩ = some (.int .i64 p.f3) ∧ W.cell? ⟨b1, o1 + k * 14 + 4, none⟩ = some (.int .i64 p.f4) ∧ W.cell? ⟨b1, o1 + k * 14 + 5, none⟩ = some (.int .i64 p.f5) ∧ W.cell? ⟨b1, o1 + k * 14 + 6, none⟩ = some (.slice p.f6.a p.f6.l p.f6.c) ∧ W.cell? ⟨b1, o1 + k * 14 + 7, none⟩ = some (.bool p.f7) ∧ W.cell? ⟨b1, o1 + k * 14 + 8, none⟩ = some (.int .i64 p.f8) ∧ W.cell? ⟨b1, o1 + k * 14 + 9, none⟩ = some (.int .i64 p.f9) ∧ W.cell? ⟨b1, o1 + k * 14 + 10, none⟩ = some (.slice p.f10.a p.f10.l p.f10.c) ∧ W.cell? ⟨b1, o1 + k * 14 + 11, none⟩ = some (.int .i64 p.f11) ∧ W.cell? ⟨b1, o1 + k * 14 + 12, none⟩ = some (.int .i64 p.f12) ∧ W.cell? ⟨b1, o1 + k * 14 + 13, none⟩ = some (.int .i64 p.f13) ∧ W.cell? ⟨b2, o2 + k * 14, none⟩ = some (.int .i64 q.f0) ∧ W.cell? ⟨b2, o2 + k * 14 + 1, none⟩ = some (.int .i64 q.f1) ∧ W.cell? ⟨b2, o2 + k * 14 + 2, none⟩ = some (.int .i64 q.f2) ∧ W.cell? ⟨b2, o2 + k * 14 + 3, none⟩ = some (.int .i64 q.f3) ∧ W.cell? ⟨b2, o2 + k * 14 + 4, none⟩ = some (.int .i64 q.f4) ∧ W.cell? ⟨b2, o2 + k * 14 + 5, none⟩ = some (.int .i64 q.f5) ∧ W.cell? ⟨b2, o2 + k * 14 + 6, none⟩ = some (.slice q.f6.a q.f6.l q.f6.c) ∧ W.cell? ⟨b2, o2 + k * 14 + 7, none⟩ = some (.bool q.f7) ∧ W.cell? ⟨b2, o2 + k * 14 + 8, none⟩ = some (.int .i64 q.f8) ∧ W.cell? ⟨b2, o2 + k * 14 + 9, none⟩ = some (.int .i64 q.f9) ∧ W.cell? ⟨b2, o2 + k * 14 + 10, none⟩ = some (.slice q.f10.a q.f10.l q.f10.c) ∧ W.cell? ⟨b2, o2 + k * 14 + 11, none⟩ = some (.int .i64 q.f11) ∧ W.cell? ⟨b2, o2 + k * 14 + 12, none⟩ = some (.int .i64 q.f12) ∧ W.cell? ⟨b2, o2 + k * 14 + 13, none⟩ = some (.int .i64 q.f13) ∧ W.cell? ⟨w.heap.size, 1, none⟩ = some (.slice (some ⟨b1, o1, none⟩) n1 c1) ∧ W.cell? ⟨w.heap.size + 1, 1, none⟩ = some (.slice (some ⟨b2, o2, none⟩) n1 c4))
          (first | (go_split_ands; exact ⟨keepK hb (by assumption), keepK hb (by assumption), keepK hb (by assumption), keepK hb (by assumption), keepK hb (by assumption), keepK hb (by assumption), keepK hb (by assumption), keepK hb (by assumption), keepK hb (by assumption), keepK hb (by assumption), keepK hb (by assumption), keepK hb (by assumption), keepK hb (by assumption), keepK hb (by assumption), keepK hb (by assumption), keepK hb (by assumption), keepK hb (by assumption), keepK hb (by assumption), keepK hb (by assumption), keepK hb (by assumption), keepK hb (by assumption), keepK hb (by assumption), keepK hb (by assumption), keepK hb (by assumption), keepK hb (by assumption), keepK hb (by assumption), keepK hb (by assumption), keepK hb (by assumption), keepK hb (by assumption), keepK hb (by assumption)⟩) | go_keep)
          (first | (go_at_call 86; refine KC.out.mono ?_; rintro e w10 ⟨rfl, b10⟩; have hb := b10))
        have B10 := Lib.hid (hbel.out.drew.trans (b10.mono hbel.out.drew.size))
        clear hb b10 xx0 xx1 xx2 xx3 xx4 xx5 xx6 xx7 xx8 xx9 xx10 xx11 xx12 xx13 yx0 yx1 yx2 yx3 yx4 yx5 yx6 yx7 yx8 yx9 yx10 yx11 yx12 yx13 f1 f2
        go_wp2
        go_ret
        exact ⟨ret_b F'.out.symm, B0.out.trans ((B10.out).mono B0.out.size)⟩
    · obtain rfl : k = n1 := by omega
      have d : decide (s1.map EndR.val = s4.map EndR.val) = true := decide_eq_true (List.ext_getElem? fun j => by
        by_cases hj : j < k
        · exact heq.out j hj
        · rw [List.getElem?_eq_none (by rw [List.length_map, L1.out]; omega), List.getElem?_eq_none (by rw [List.length_map, L4.out]; omega)])
      rw [d, Bool.true_and] at H
      clear d heq bw G1 G4 L1 L4
      go_wp2
      go_loopw [6] (fun i wr => ∃ k : Nat, k ≤ n2 ∧ i = .int .i64 k ∧ Hid (∀ j, j < k → (s2.map FlightR.val)[j]? = (s5.map FlightR.val)[j]?) ∧ Hid (Below W0.heap.size W0 wr)) (fun i _ => n2 - (intOf i).toNat)
      case atStart => exact ⟨0, Nat.zero_le _, rfl, fun j hj => absurd hj (by omega), hbel.out⟩
      case round =>
        clear hbel
        obtain ⟨k, hk, rfl, heq, hbel⟩ := hrel
        have bw := Lib.hid (B0.out.trans (hbel.out.mono B0.out.size))
        have f1 : wr.cell? ⟨w.heap.size, 2, none⟩ = some (.slice a2 n2 c2) := (X0.out.below hbel.out X0.out.lt).cell 2
        have f2 : wr.cell? ⟨w.heap.size + 1, 2, none⟩ = some (.slice a5 n2 c5) := (Y0.out.below hbel.out Y0.out.lt).cell 2
        by_cases hlt : k < n2
        · obtain ⟨b1, o1, p, e1, hp, r1, d1⟩ := (G2.out.below (by decide) bw.out).at hlt
          obtain ⟨b2, o2, q, e2, hq, r2, d2⟩ := (G5.out.below (by decide) bw.out).at hlt
          dsimp only at e1 e2 hp hq
          subst e1
          subst e2
          have E := Lib.hid (show p.val = q.val → (s2.map FlightR.val)[k]? = (s5.map FlightR.val)[k]? from fun h => by rw [List.getElem?_map, List.getElem?_map, hp, hq]; exact congrArg some h)
          have G := Lib.hid (show p.val ≠ q.val → v = false from fun h => by
            have d : decide (s2.map FlightR.val = s5.map FlightR.val) = false := decide_eq_false fun e => h (by
              have e := congrArg (fun l => l[k]?) e
              simpa [List.getElem?_map, hp, hq] using e)
            rw [H.out, d]
            simp)
          have R1 : wr.rangeAt b1 (o1 + k * 9) (FlightR.cells p) := r1
          have R2 : wr.rangeAt b2 (o2 + k * 9) (FlightR.cells q) := r2
          have xx0 : wr.cell? ⟨b1, o1 + k * 9, none⟩ = some (.int .i64 p.f0) := R1 0 _ rfl
          have xx1 : wr.cell? ⟨b1, o1 + k * 9 + 1, none⟩ = some (.int .i64 p.f1.f0) := R1 1 _ rfl
          have xx2 : wr.cell? ⟨b1, o1 + k * 9 + 2, none⟩ = some (.int .i64 p.f1.f1) := R1 2 _ rfl
          have xx3 : wr.cell? ⟨b1, o1 + k * 9 + 3, none⟩ = some (.int .i64 p.f1.f2) := R1 3 _ rfl
          have xx4 : wr.cell? ⟨b1, o1 + k * 9 + 4, none⟩ = some (.int .i64 p.f1.f3) := R1 4 _ rfl
          have xx5 : wr.cell? ⟨b1, o1 + k * 9 + 5, none⟩ = some (.int .i64 p.f1.f4) := R1 5 _ rfl
          have xx6 : wr.cell? ⟨b1, o1 + k * 9 + 6, none⟩ = some (.int .i64 p.f1.f5) := R1 6 _ rfl
          have xx7 : wr.cell? ⟨b1, o1 + k * 9 + 7, none⟩ = some (.int .i64 p.f1.f6) := R1 7 _ rfl
          have xx8 : wr.cell? ⟨b1, o1 + k * 9 + 8, none⟩ = some (.slice p.f1.f7.a p.f1.f7.l p.f1.f7.c) := R1 8 _ rfl
          have yx0 : wr.cell? ⟨b2, o2 + k * 9, none⟩ = some (.int .i64 q.f0) := R2 0 _ rfl
          have yx1 : wr.cell? ⟨b2, o2 + k * 9 + 1, none⟩ = some (.int .i64 q.f1.f0) := R2 1 _ rfl
          have yx2 : wr.cell? ⟨b2, o2 + k * 9 + 2, none⟩ = some (.int .i64 q.f1.f1) := R2 2 _ rfl
          have yx3 : wr.cell? ⟨b2, o2 + k * 9 + 3, none⟩ = some (.int .i64 q.f1.f2) := R2 3 _ rfl
          have yx4 : wr.cell? ⟨b2, o2 + k * 9 + 4, none⟩ = some (.int .i64 q.f1.f3) := R2 4 _ rfl
          have yx5 : wr.cell? ⟨b2, o2 + k * 9 + 5, none⟩ = some (.int .i64 q.f1.f4) := R2 5 _ rfl
          have yx6 : wr.cell? ⟨b2, o2 + k * 9 + 6, none⟩ = some (.int .i64 q.f1.f5) := R2 6 _ rfl
          have yx7 : wr.cell? ⟨b2, o2 + k * 9 + 7, none⟩ = some (.int .i64 q.f1.f6) := R2 7 _ rfl
          have yx8 : wr.cell? ⟨b2, o2 + k * 9 + 8, none⟩ = some (.slice q.f1.f7.a q.f1.f7.l q.f1.f7.c) := R2 8 _ rfl
          have hI0 : (0 : Int) ≤ (k : Int) := by omega
          have hI1 : (k : Int) < (n2 : Int) := by omega
          have KC := Lib.hid (sameSegment_spec p.f1 q.f1 wr.drew (SegmentR.md.drew d1) (SegmentR.md.drew d2))
          clear r1 r2 d1 d2 hp hq R1 R2
          by_cases h0 : p.f0 = q.f0
          · have n0 : (p.f0 != q.f0) = false := by simpa using h0
            by_cases hc : p.f1.val = q.f1.val
            · rw [show decide (p.f1.val = q.f1.val) = true from decide_eq_true hc] at KC
              have E' : Hid ((s2.map FlightR.val)[k]? = (s5.map FlightR.val)[k]?) := E.out (by simp only [FlightR.val, h0, hc])
              clear E G
              clear hc h0
              go_wp2_with fail
              go_region_held3 (fun W => W.cell? ⟨b1, o1 + k * 9, none⟩ = some (.int .i64 p.f0) ∧ W.cell? ⟨b1, o1 + k * 9 + 1, none⟩ = some (.int .i64 p.f1.f0) ∧ W.cell? ⟨b1, o1 + k * 9 + 2, none⟩ = some (.int .i64 p.f1.f1) ∧ W.cell? ⟨b1, o1 + k * 9 + 3, none⟩ = some (.int .i64 p.f1.f2) ∧ W.cell? ⟨b1, o1 + k * 9 + 4, none⟩ = some (.int .i64 p.f1.f3) ∧ W.cell? ⟨b1, o1 + k * 9 + 5, none⟩ = some (.int .i64 p.f1.f4) ∧ W.cell? ⟨b1, o1 + k * 9 + 6, none⟩ = some (.int .i64 p.f1.f5) ∧ W.cell? ⟨b1, o1 + k * 9 + 7, none⟩ = some (.int .i64 p.f1.f6) ∧ W.cell? ⟨b1, o1 + k * 9 + 8, none⟩ = some (.slice p.f1.f7.a p.f1.f7.l p.f1.f7.c) ∧ W.cell? ⟨b2, o2 + k * 9, none⟩ = some (.int .i64 q.f0) ∧ W.cell? ⟨b2, o2 + k * 9 + 1, none⟩ = some (.int .i64 q.f1.f0) ∧ W.cell? ⟨b2, o2 + k * 9 + 2, none⟩ = some (.int .i64 q.f1.f1) ∧ W.cell? ⟨b2, o2 + k * 9 + 3, none⟩ = some (.int .i64 q.f1.f2) ∧ W.cell? ⟨b2, o2 + k * 9 + 4, none⟩ = some (.int .i64 q.f1.f3) ∧ W.cell? ⟨b2, o2 + k * 9 + 5, none⟩ = some (.int .i64 q.f1.f4) ∧ W.cell? ⟨b2, o2 + k * 9 + 6, none⟩ = some (.int .i64 q.f1.f5) ∧ W.cell? ⟨b2, o2 + k * 9 + 7, none⟩ = some (.int .i64 q.f1.f6) ∧ W.cell? ⟨b2, o2 + k * 9 + 8, none⟩ = some (.slice q.f1.f7.a q.f1.f7.l q.f1.f7.c) ∧ W.cell? ⟨w.heap.size, 2, none⟩ = some (.slice (some ⟨b1, o1, none⟩) n2 c2) ∧ W.cell? ⟨w.heap.size + 1, 2, none⟩ = some (.slice (some ⟨b2, o2, none⟩) n2 c5))
                (first | (go_split_ands; exact ⟨keepK hb (by assumption), keepK hb (by assumption), keepK hb (by assumption), keepK hb (by assumption), keepK hb (by assumption), keepK hb (by assumption), keepK hb (by assumption), keepK hb (by assumption), keepK hb (by assumption), keepK hb (by assumption), keepK hb (by assumption), keepK hb (by assumption), keepK hb (by assumption), keepK hb (by assumption), keepK hb (by assumption), keepK hb (by assumption), keepK hb (by assumption), keepK hb (by assumption), keepK hb (by assumption), keepK hb (by assumption)⟩) | go_keep)
                (first | (go_at_call 159; refine KC.out.mono ?_; rintro e w10 ⟨rfl, b10⟩; have hb := b10))
              have B10 := Lib.hid (hbel.out.drew.trans (b10.mono hbel.out.drew.size))
              clear hb b10 xx0 xx1 xx2 xx3 xx4 xx5 xx6 xx7 xx8 yx0 yx1 yx2 yx3 yx4 yx5 yx6 yx7 yx8 f1 f2
              go_wp2
              go_roundw
              case rel => exact ⟨k + 1, by omega, by go_num, fun j hj => by
                by_cases hjk : j < k
                · exact heq.out j hjk
                · obtain rfl : j = k := by omega
                  exact E'.out, B10.out⟩
              case measure => simp [intOf]; omega
            · rw [show decide (p.f1.val = q.f1.val) = false from decide_eq_false hc] at KC
              have F' : Hid (v = false) := G.out (fun e => hc (congrArg FlightV.f1 e))
              clear E G
              clear hc h0
              go_wp2_with fail
              go_region_held3 (fun W => W.cell? ⟨b1, o1 + k * 9, none⟩ = some (.int .i64 p.f0) ∧ W.cell? ⟨b1, o1 + k * 9 + 1, none⟩ = some (.int .i64 p.f1.f0) ∧ W.cell? ⟨b1, o1 + k * 9 + 2, none⟩ = some (.int .i64 p.f1.f1) ∧ W.cell? ⟨b1, o1 + k * 9 + 3, none⟩ = some (.int .i64 p.f1.f2) ∧ W.cell? ⟨b1, o1 + k * 9 + 4, none⟩ = some (.int .i64 p.f1.f3) ∧ W.cell? ⟨b1, o1 + k * 9 + 5, none⟩ = some (.int .i64 p.f1.f4) ∧ W.cell? ⟨b1, o1 + k * 9 + 6, none⟩ = some (.int .i64 p.f1.f5) ∧ W.cell? ⟨b1, o1 + k * 9 + 7, none⟩ = some (.int .i64 p.f1.f6) ∧ W.cell? ⟨b1, o1 + k * 9 + 8, none⟩ = some (.slice p.f1.f7.a p.f1.f7.l p.f1.f7.c) ∧ W.cell? ⟨b2, o2 + k * 9, none⟩ = some (.int .i64 q.f0) ∧ W.cell? ⟨b2, o2 + k * 9 + 1, none⟩ = some (.int .i64 q.f1.f0) ∧ W.cell? ⟨b2, o2 + k * 9 + 2, none⟩ = some (.int .i64 q.f1.f1) ∧ W.cell? ⟨b2, o2 + k * 9 + 3, none⟩ = some (.int .i64 q.f1.f2) ∧ W.cell? ⟨b2, o2 + k * 9 + 4, none⟩ = some (.int .i64 q.f1.f3) ∧ W.cell? ⟨b2, o2 + k * 9 + 5, none⟩ = some (.int .i64 q.f1.f4) ∧ W.cell? ⟨b2, o2 + k * 9 + 6, none⟩ = some (.int .i64 q.f1.f5) ∧ W.cell? ⟨b2, o2 + k * 9 + 7, none⟩ = some (.int .i64 q.f1.f6) ∧ W.cell? ⟨b2, o2 + k * 9 + 8, none⟩ = some (.slice q.f1.f7.a q.f1.f7.l q.f1.f7.c) ∧ W.cell? ⟨w.heap.size, 2, none⟩ = some (.slice (some ⟨b1, o1, none⟩) n2 c2) ∧ W.cell? ⟨w.heap.size + 1, 2, none⟩ = some (.slice (some ⟨b2, o2, none⟩) n2 c5))
                (first | (go_split_ands; exact ⟨keepK hb (by assumption), keepK hb (by assumption), keepK hb (by assumption), keepK hb (by assumption), keepK hb (by assumption), keepK hb (by assumption), keepK hb (by assumption), keepK hb (by assumption), keepK hb (by assumption), keepK hb (by assumption), keepK hb (by assumption), keepK hb (by assumption), keepK hb (by assumption), keepK hb (by assumption), keepK hb (by assumption), keepK hb (by assumption), keepK hb (by assumption), keepK hb (by assumption), keepK hb (by assumption), keepK hb (by assumption)⟩) | go_keep)
                (first | (go_at_call 159; refine KC.out.mono ?_; rintro e w10 ⟨rfl, b10⟩; have hb := b10))
              have B10 := Lib.hid (hbel.out.drew.trans (b10.mono hbel.out.drew.size))
              clear hb b10 xx0 xx1 xx2 xx3 xx4 xx5 xx6 xx7 xx8 yx0 yx1 yx2 yx3 yx4 yx5 yx6 yx7 yx8 f1 f2
              go_wp2
              go_ret
              exact ⟨ret_b F'.out.symm, B0.out.trans ((B10.out).mono B0.out.size)⟩
          · have n0 : (p.f0 != q.f0) = true := by simpa using h0
            have F' : Hid (v = false) := G.out (fun e => h0 (congrArg FlightV.f0 e))
            clear E G h0 KC
            go_wp2_with fail
            go_quiet (fail)
            go_wp2
            go_ret
            exact ⟨ret_b F'.out.symm, B0.out.trans ((belowN hbel.out _).mono B0.out.size)⟩
        · obtain rfl : k = n2 := by omega
          have d : decide (s2.map FlightR.val = s5.map FlightR.val) = true := decide_eq_true (List.ext_getElem? fun j => by
            by_cases hj : j < k
            · exact heq.out j hj
            · rw [List.getElem?_eq_none (by rw [List.length_map, L2.out]; omega), List.getElem?_eq_none (by rw [List.length_map, L5.out]; omega)])
          rw [d, Bool.true_and] at H
          clear d heq bw G2 G5 L2 L5
          go_wp2
          go_loopw [7] (fun i wr => ∃ k : Nat, k ≤ n3 ∧ i = .int .i64 k ∧ Hid (∀ j, j < k → (s3.map ReplyR.val)[j]? = (s6.map ReplyR.val)[j]?) ∧ Hid (Below W0.heap.size W0 wr)) (fun i _ => n3 - (intOf i).toNat)
          case atStart => exact ⟨0, Nat.zero_le _, rfl, fun j hj => absurd hj (by omega), hbel.out⟩
          case round =>
            clear hbel
            obtain ⟨k, hk, rfl, heq, hbel⟩ := hrel
            have bw := Lib.hid (B0.out.trans (hbel.out.mono B0.out.size))
            have f1 : wr.cell? ⟨w.heap.size, 3, none⟩ = some (.slice a3 n3 c3) := (X0.out.below hbel.out X0.out.lt).cell 3
            have f2 : wr.cell? ⟨w.heap.size + 1, 3, none⟩ = some (.slice a6 n3 c6) := (Y0.out.below hbel.out Y0.out.lt).cell 3
            by_cases hlt : k < n3
            · obtain ⟨b1, o1, p, e1, hp, r1, d1⟩ := (G3.out.below (by decide) bw.out).at hlt
              obtain ⟨b2, o2, q, e2, hq, r2, d2⟩ := (G6.out.below (by decide) bw.out).at hlt
              dsimp only at e1 e2 hp hq
              subst e1
              subst e2
              have E := Lib.hid (show p.val = q.val → (s3.map ReplyR.val)[k]? = (s6.map ReplyR.val)[k]? from fun h => by rw [List.getElem?_map, List.getElem?_map, hp, hq]; exact congrArg some h)
              have G := Lib.hid (show p.val ≠ q.val → v = false from fun h => by
                have d : decide (s3.map ReplyR.val = s6.map ReplyR.val) = false := decide_eq_false fun e => h (by
                  have e := congrArg (fun l => l[k]?) e
                  simpa [List.getElem?_map, hp, hq] using e)
                rw [H.out, d])
              have R1 : wr.rangeAt b1 (o1 + k * 3) (ReplyR.cells p) := r1
              have R2 : wr.rangeAt b2 (o2 + k * 3) (ReplyR.cells q) := r2
              have xx0 : wr.cell? ⟨b1, o1 + k * 3, none⟩ = some (.int .i64 p.f0) := R1 0 _ rfl
              have xx1 : wr.cell? ⟨b1, o1 + k * 3 + 1, none⟩ = some (.int .i64 p.f1) := R1 1 _ rfl
              have xx2 : wr.cell? ⟨b1, o1 + k * 3 + 2, none⟩ = some (.slice p.f2.a p.f2.l p.f2.c) := R1 2 _ rfl
              have yx0 : wr.cell? ⟨b2, o2 + k * 3, none⟩ = some (.int .i64 q.f0) := R2 0 _ rfl
              have yx1 : wr.cell? ⟨b2, o2 + k * 3 + 1, none⟩ = some (.int .i64 q.f1) := R2 1 _ rfl
              have yx2 : wr.cell? ⟨b2, o2 + k * 3 + 2, none⟩ = some (.slice q.f2.a q.f2.l q.f2.c) := R2 2 _ rfl
              have hI0 : (0 : Int) ≤ (k : Int) := by omega
              have hI1 : (k : Int) < (n3 : Int) := by omega
              have D1 := Lib.hid (show Yt.ok wr p.f2 from d1)
              have D2 := Lib.hid (show Yt.ok wr q.f2 from d2)
              clear r1 r2 d1 d2 hp hq R1 R2
              by_cases h0 : p.f0 = q.f0
              · have n0 : (p.f0 != q.f0) = false := by simpa using h0
                by_cases h1 : p.f1 = q.f1
                · have n1' : (p.f1 != q.f1) = false := by simpa using h1
                  have t1 := fun n => conv_rd (Rd.below D1.out (belowN (Below.refl _ wr) n))
                  have t2 := fun n => conv_rd (Rd.below D2.out (belowN (Below.refl _ wr) n))
                  by_cases h2 : p.f2.z = q.f2.z
                  · have E' : Hid ((s3.map ReplyR.val)[k]? = (s6.map ReplyR.val)[k]?) := E.out (by simp only [ReplyR.val, h0, h1, h2])
                    rw [← h2] at t2
                    clear E G D1 D2 h0 h1 h2
                    generalize strOfNums p.f2.z = str at *
                    go_wp2_with fail
                    go_quiet (fail)
                    go_wp2
                    go_roundw
                    case rel => exact ⟨k + 1, by omega, by go_num, fun j hj => by
                      by_cases hjk : j < k
                      · exact heq.out j hjk
                      · obtain rfl : j = k := by omega
                        exact E'.out, belowN hbel.out _⟩
                    case measure => simp [intOf]; omega
                  · have F' : Hid (v = false) := G.out (fun e => h2 (congrArg ReplyV.f2 e))
                    have h5 := str_ne D1.out.b8 D2.out.b8 h2
                    clear E G D1 D2 h0 h1 h2
                    generalize strOfNums p.f2.z = str at *
                    generalize strOfNums q.f2.z = str2 at *
                    go_wp2_with fail
                    go_quiet (fail)
                    go_wp2
                    go_ret
                    exact ⟨ret_b F'.out.symm, B0.out.trans ((belowN hbel.out _).mono B0.out.size)⟩
                · have n1' : (p.f1 != q.f1) = true := by simpa using h1
                  have F' : Hid (v = false) := G.out (fun e => h1 (congrArg ReplyV.f1 e))
                  clear E G h0 h1 D1 D2
                  go_wp2_with fail
                  go_quiet (fail)
                  go_wp2
                  go_ret
                  exact ⟨ret_b F'.out.symm, B0.out.trans ((belowN hbel.out _).mono B0.out.size)⟩
              · have n0 : (p.f0 != q.f0) = true := by simpa using h0
                have F' : Hid (v = false) := G.out (fun e => h0 (congrArg ReplyV.f0 e))
                clear E G h0 D1 D2
                go_wp2_with fail
                go_quiet (fail)
                go_wp2
                go_ret
                exact ⟨ret_b F'.out.symm, B0.out.trans ((belowN hbel.out _).mono B0.out.size)⟩
            · obtain rfl : k = n3 := by omega
              have d : decide (s3.map ReplyR.val = s6.map ReplyR.val) = true := decide_eq_true (List.ext_getElem? fun j => by
                by_cases hj : j < k
                · exact heq.out j hj
                · rw [List.getElem?_eq_none (by rw [List.length_map, L3.out]; omega), List.getElem?_eq_none (by rw [List.length_map, L6.out]; omega)])
              rw [d] at H
              clear d heq bw G3 G6 L3 L6
              go_wp2
              go_ret
              exact ⟨ret_b H.out.symm, B0.out.trans (hbel.out.mono B0.out.size)⟩
end Go.Proofs.Ytimlobhlcmghfaa
