/-
  SameSegments of both sides, over rows (as in SgS and G5Sz, without StSegment, whose names KSSegment has too).
  Replies and flights: whether two are the same, in the program and in the model.
  Whether two replies, or two flights, are the same: the program.
  slices.EqualFunc over lists of End.
  slices.EqualFunc over lists of Reply.
  slices.EqualFunc over lists of Flight.
  SamePairs of the program.
-/
import Derived.Test.YtimlobhlcmghfaaImSame
import Derived.Test.YtimlobhlcmghfaaStr
import Derived.Test.YtimlobhlcmghfaaE8S
import Derived.Test.YtimlobhlcmghfaaE8T
import Derived.Test.YtimlobhlcmghfaaKSPair
namespace Go.Proofs.Ytimlobhlcmghfaa
open Go.ChangeShapes Go.WideShapes Go.ChangeAt Go.RowKit

/-- the numbers of a segment -/
structure Sg where
  f : Int
  t : Int
  s : Int
  a : Int
  g : Int
  w : Int
  m : Int
/-- flags g have the flag k -/
def sameG (x : Sg) (zs : List Int) (y : Sg) (zs' : List Int) : Bool := (x.f == y.f) && (x.t == y.t) && (x.s == y.s) && (x.a == y.a) && (x.g == y.g) && (x.w == y.w) && (x.m == y.m) && eqL zs zs'
set_option maxRecDepth 20000 in
set_option maxHeartbeats 1000000 in
theorem specSameSegments (x : Sg) (a : Option Addr) (len cap : Nat) (zs : List Int) (y : Sg) (a' : Option Addr) (len' cap' : Nat) (zs' : List Int) (w : World) (hr : Rd w a len cap zs) (hr' : Rd w a' len' cap' zs') :
    Calls Try.prog 159 #[.agg #[.int .i64 x.f, .int .i64 x.t, .int .i64 x.s, .int .i64 x.a, .int .i64 x.g, .int .i64 x.w, .int .i64 x.m, .slice a len cap], .agg #[.int .i64 y.f, .int .i64 y.t, .int .i64 y.s, .int .i64 y.a, .int .i64 y.g, .int .i64 y.w, .int .i64 y.m, .slice a' len' cap']] w fun e w' => e = .returned (.bool (sameG x zs y zs')) ∧ Below w.heap.size w w' := by
  have B0 := Lib.hid (((Below.refl w.heap.size w).alloc (Nat.le_refl _) (.cells #[.int .i64 x.f, .int .i64 x.t, .int .i64 x.s, .int .i64 x.a, .int .i64 x.g, .int .i64 x.w, .int .i64 x.m, .slice a len cap] 198)).alloc (by simp) (.cells #[.int .i64 y.f, .int .i64 y.t, .int .i64 y.s, .int .i64 y.a, .int .i64 y.g, .int .i64 y.w, .int .i64 y.m, .slice a' len' cap'] 198))
  have c1 := conv_rd (hr.below B0.out)
  have c2 := conv_rd (hr'.below B0.out)
  have H : Hid (sameG x zs y zs' = ((x.f == y.f) && (x.t == y.t) && (x.s == y.s) && (x.a == y.a) && (x.g == y.g) && (x.w == y.w) && (x.m == y.m) && eqL zs zs')) := rfl
  have hs : ((strOfNums zs).toList == (strOfNums zs').toList) = eqL zs zs' := by
    unfold eqL
    by_cases h3 : zs = zs'
    · subst h3; simp
    · rw [str_ne hr.b8 hr'.b8 h3]; simp [h3]
  clear hr hr'
  generalize sameG x zs y zs' = v at *
  generalize strOfNums zs = s at *
  generalize strOfNums zs' = s' at *
  generalize eqL zs zs' = q at *
  cases m0 : (x.f == y.f)
  case' true => cases m1 : (x.t == y.t)
  case' true.true => cases m2 : (x.s == y.s)
  case' true.true.true => cases m3 : (x.a == y.a)
  case' true.true.true.true => cases m4 : (x.g == y.g)
  case' true.true.true.true.true => cases m5 : (x.w == y.w)
  case' true.true.true.true.true.true => cases m6 : (x.m == y.m)
  all_goals
    go_enter Try.func159, Try.ntmps159
    go_wp2
    go_ret
    exact ⟨ret_b (by rw [H.out]; simp [*]), B0.out⟩
set_option maxRecDepth 20000 in
set_option maxHeartbeats 1000000 in
theorem implSameSegments (x : Sg) (a : Option Addr) (len cap : Nat) (zs : List Int) (y : Sg) (a' : Option Addr) (len' cap' : Nat) (zs' : List Int) (w : World) (hr : Rd w a len cap zs) (hr' : Rd w a' len' cap' zs') :
    Calls Try.prog 186 #[.agg #[.int .i64 x.f, .int .i64 x.t, .int .i64 x.s, .int .i64 x.a, .int .i64 x.g, .int .i64 x.w, .int .i64 x.m, .slice a len cap], .agg #[.int .i64 y.f, .int .i64 y.t, .int .i64 y.s, .int .i64 y.a, .int .i64 y.g, .int .i64 y.w, .int .i64 y.m, .slice a' len' cap']] w fun e w' => e = .returned (.bool (sameG x zs y zs')) ∧ Below w.heap.size w w' := by
  have B0 := Lib.hid (((Below.refl w.heap.size w).alloc (Nat.le_refl _) (.cells #[.int .i64 x.f, .int .i64 x.t, .int .i64 x.s, .int .i64 x.a, .int .i64 x.g, .int .i64 x.w, .int .i64 x.m, .slice a len cap] 198)).alloc (by simp) (.cells #[.int .i64 y.f, .int .i64 y.t, .int .i64 y.s, .int .i64 y.a, .int .i64 y.g, .int .i64 y.w, .int .i64 y.m, .slice a' len' cap'] 198))
  have K := Lib.hid (fun W (hW : Below w.heap.size w W) => equal_any a len cap zs a' len' cap' zs' W (hr.below hW) (hr'.below hW))
  have H : Hid (sameG x zs y zs' = ((x.f == y.f) && (x.t == y.t) && (x.s == y.s) && (x.a == y.a) && (x.g == y.g) && (x.w == y.w) && (x.m == y.m) && eqL zs zs')) := rfl
  clear hr hr'
  generalize sameG x zs y zs' = v at *
  generalize eqL zs zs' = q at *
  cases m0 : (x.f == y.f)
  case' true => cases m1 : (x.t == y.t)
  all_goals cases m2 : (x.s == y.s)
  case' false.true => cases m3 : (x.a == y.a)
  case' true.false.true => cases m3 : (x.a == y.a)
  case' true.true.true => cases m3 : (x.a == y.a)
  case' false.true.true => cases m5 : (x.w == y.w)
  case' true.false.true.true => cases m5 : (x.w == y.w)
  case' true.true.true.true => cases m5 : (x.w == y.w)
  case' false.true.true.true => cases m6 : (x.m == y.m)
  case' true.false.true.true.true => cases m6 : (x.m == y.m)
  case' true.true.true.true.true => cases m6 : (x.m == y.m)
  case' true.true.true.true.true.true => cases m4 : (x.g == y.g)
  all_goals
    go_enter Try.func186, Try.ntmps186
    go_wp2_with (go_at_call 158; refine (K.out _ B0.out).mono ?_; rintro e w' ⟨rfl, rfl⟩)
    go_ret
    exact ⟨ret_b (by rw [H.out]; simp [*]), B0.out⟩
end Go.Proofs.Ytimlobhlcmghfaa

namespace Go.Proofs.Ytimlobhlcmghfaa
open Go.ChangeShapes Go.WideShapes Go.ChangeAt Go.RowKit

theorem seR_eq (p q : EndR) : seR p q = decide (p.val = q.val) := by
  unfold seR
  rw [Bool.eq_iff_iff, decide_eq_true_iff]
  simp only [Bool.and_eq_true, beq_iff_eq, eqL, decide_eq_true_eq, EndR.val, EndV.mk.injEq]
theorem sameEnd_any (p q : EndR) (w : World) (h : EndR.ok w p) (h' : EndR.ok w q) :
    Calls Try.prog 87 #[.agg (EndR.cells p).toArray, .agg (EndR.cells q).toArray] w fun e w' => e = .returned (.bool (decide (p.val = q.val))) ∧ Below w.heap.size w w' := by
  rw [← seR_eq]
  exact implSameEnds p q w h h'
theorem sameEnd_spec (p q : EndR) (w : World) (h : EndR.ok w p) (h' : EndR.ok w q) :
    Calls Try.prog 86 #[.agg (EndR.cells p).toArray, .agg (EndR.cells q).toArray] w fun e w' => e = .returned (.bool (decide (p.val = q.val))) ∧ Below w.heap.size w w' := by
  rw [← seR_eq]
  exact specSameEnds p q w h h'
def SegmentR.sg (p : SegmentR) : Sg := ⟨p.f0, p.f1, p.f2, p.f3, p.f4, p.f5, p.f6⟩
theorem sameG_val (p q : SegmentR) : sameG p.sg p.f7.z q.sg q.f7.z = decide (p.val = q.val) := by
  rw [Bool.eq_iff_iff, decide_eq_true_iff]
  simp only [sameG, SegmentR.sg, Bool.and_eq_true, beq_iff_eq, eqL, decide_eq_true_eq, SegmentR.val, SegmentV.mk.injEq, and_assoc]
theorem sameSegment_any (p q : SegmentR) (w : World) (h : SegmentR.ok w p) (h' : SegmentR.ok w q) :
    Calls Try.prog 186 #[.agg (SegmentR.cells p).toArray, .agg (SegmentR.cells q).toArray] w fun e w' => e = .returned (.bool (decide (p.val = q.val))) ∧ Below w.heap.size w w' := by
  rw [← sameG_val]
  exact implSameSegments p.sg p.f7.a p.f7.l p.f7.c p.f7.z q.sg q.f7.a q.f7.l q.f7.c q.f7.z w h h'
theorem sameSegment_spec (p q : SegmentR) (w : World) (h : SegmentR.ok w p) (h' : SegmentR.ok w q) :
    Calls Try.prog 159 #[.agg (SegmentR.cells p).toArray, .agg (SegmentR.cells q).toArray] w fun e w' => e = .returned (.bool (decide (p.val = q.val))) ∧ Below w.heap.size w w' := by
  rw [← sameG_val]
  exact specSameSegments p.sg p.f7.a p.f7.l p.f7.c p.f7.z q.sg q.f7.a q.f7.l q.f7.c q.f7.z w h h'
end Go.Proofs.Ytimlobhlcmghfaa

namespace Go.Proofs.Ytimlobhlcmghfaa
open Go.ChangeShapes Go.WideShapes Go.ChangeAt Go.RowKit

set_option maxHeartbeats 2000000 in
theorem sameReply_any (p q : ReplyR) (w : World) (h : ReplyR.ok w p) (h' : ReplyR.ok w q) :
    Calls Try.prog 164 #[.agg (ReplyR.cells p).toArray, .agg (ReplyR.cells q).toArray] w fun e w' => e = .returned (.bool (decide (p.val = q.val))) ∧ Below w.heap.size w w' := by
  obtain ⟨p0, p1, p2⟩ := p
  obtain ⟨q0, q1, q2⟩ := q
  show Calls Try.prog 164 #[.agg #[.int .i64 p0, .int .i64 p1, .slice p2.a p2.l p2.c], .agg #[.int .i64 q0, .int .i64 q1, .slice q2.a q2.l q2.c]] w _
  have g1 : Yt.ok w p2 := h
  have g2 : Yt.ok w q2 := h'
  have B0 := Lib.hid (((Below.refl w.heap.size w).alloc (Nat.le_refl _) (.cells #[.int .i64 p0, .int .i64 p1, .slice p2.a p2.l p2.c] 187)).alloc (by simp) (.cells #[.int .i64 q0, .int .i64 q1, .slice q2.a q2.l q2.c] 187))
  have K := Lib.hid (fun W (hW : Below w.heap.size w W) => equal_any p2.a p2.l p2.c p2.z q2.a q2.l q2.c q2.z W (Rd.below g1 hW) (Rd.below g2 hW))
  have H : Hid (decide (ReplyR.val ⟨p0, p1, p2⟩ = ReplyR.val ⟨q0, q1, q2⟩) = ((p0 == q0) && (p1 == q1) && eqL p2.z q2.z)) := by
    simp only [Hid]
    rw [Bool.eq_iff_iff, decide_eq_true_iff]
    simp only [Bool.and_eq_true, beq_iff_eq, eqL, decide_eq_true_eq, ReplyR.val, ReplyV.mk.injEq, and_assoc]
  rw [H.out]
  clear h h' g1 g2 H
  generalize eqL p2.z q2.z = e2 at *
  cases m0 : (p0 == q0)
  case' true => cases m1 : (p1 == q1)
  all_goals
    go_enter Try.func164, Try.ntmps164
    go_wp2_with (go_at_call 158; refine (K.out _ B0.out).mono ?_; rintro e w' ⟨rfl, rfl⟩)
    go_ret
    exact ⟨ret_b (by simp), B0.out⟩
set_option maxHeartbeats 2000000 in
theorem sameFlight_any (p q : FlightR) (w : World) (h : FlightR.ok w p) (h' : FlightR.ok w q) :
    Calls Try.prog 162 #[.agg (FlightR.cells p).toArray, .agg (FlightR.cells q).toArray] w fun e w' => e = .returned (.bool (decide (p.val = q.val))) ∧ Below w.heap.size w w' := by
  obtain ⟨p0, p1⟩ := p
  obtain ⟨q0, q1⟩ := q
  show Calls Try.prog 162 #[.agg #[.int .i64 p0, .int .i64 p1.f0, .int .i64 p1.f1, .int .i64 p1.f2, .int .i64 p1.f3, .int .i64 p1.f4, .int .i64 p1.f5, .int .i64 p1.f6, .slice p1.f7.a p1.f7.l p1.f7.c], .agg #[.int .i64 q0, .int .i64 q1.f0, .int .i64 q1.f1, .int .i64 q1.f2, .int .i64 q1.f3, .int .i64 q1.f4, .int .i64 q1.f5, .int .i64 q1.f6, .slice q1.f7.a q1.f7.l q1.f7.c]] w _
  have g1 : SegmentR.ok w p1 := h
  have g2 : SegmentR.ok w q1 := h'
  have B0 := Lib.hid (((Below.refl w.heap.size w).alloc (Nat.le_refl _) (.cells #[.int .i64 p0, .int .i64 p1.f0, .int .i64 p1.f1, .int .i64 p1.f2, .int .i64 p1.f3, .int .i64 p1.f4, .int .i64 p1.f5, .int .i64 p1.f6, .slice p1.f7.a p1.f7.l p1.f7.c] 200)).alloc (by simp) (.cells #[.int .i64 q0, .int .i64 q1.f0, .int .i64 q1.f1, .int .i64 q1.f2, .int .i64 q1.f3, .int .i64 q1.f4, .int .i64 q1.f5, .int .i64 q1.f6, .slice q1.f7.a q1.f7.l q1.f7.c] 200))
  have K := Lib.hid (fun W (hW : Below w.heap.size w W) => sameSegment_any p1 q1 W (SegmentR.md.below g1 hW) (SegmentR.md.below g2 hW))
  have H : Hid (decide (FlightR.val ⟨p0, p1⟩ = FlightR.val ⟨q0, q1⟩) = ((p0 == q0) && decide (p1.val = q1.val))) := by
    simp only [Hid]
    rw [Bool.eq_iff_iff, decide_eq_true_iff]
    simp only [Bool.and_eq_true, beq_iff_eq, decide_eq_true_eq, FlightR.val, FlightV.mk.injEq]
  rw [H.out]
  clear h h' g1 g2 H
  generalize decide (p1.val = q1.val) = e2 at *
  cases m0 : (p0 == q0)
  case true =>
    go_enter Try.func162, Try.ntmps162
    go_wp2_with fail
    refine (K.out _ B0.out).mono ?_
    rintro e w1 ⟨rfl, b1⟩
    have B1 := Lib.hid (B0.out.trans (b1.mono B0.out.size))
    clear b1
    go_wp2
    go_ret
    exact ⟨ret_b (by simp), B1.out⟩
  case false =>
    go_enter Try.func162, Try.ntmps162
    go_wp2
    go_ret
    exact ⟨ret_b (by simp), B0.out⟩
end Go.Proofs.Ytimlobhlcmghfaa

namespace Go.Proofs.Ytimlobhlcmghfaa
open Go.ChangeShapes Go.WideShapes Go.ChangeAt Go.RowKit

set_option maxRecDepth 20000 in
set_option maxHeartbeats 4000000 in
theorem equalFuncEnd_any (x y : Lt EndR) (w : World) (h : Lt.ok EndR.md w x) (h' : Lt.ok EndR.md w y) :
    Calls Try.prog 160 #[.slice x.a x.l x.c, .slice y.a y.l y.c, .func (.func 87) #[] #[]] w fun e w' => e = .returned (.bool (decide (x.rs.map EndR.val = y.rs.map EndR.val))) ∧ Below w.heap.size w w' := by
  obtain ⟨a, la, ca, ps⟩ := x
  obtain ⟨b, lb, cb, qs⟩ := y
  dsimp only
  have hla : ps.length = la := h.length
  have hlb : qs.length = lb := h'.length
  have ma : la ≤ maxLen := Nat.le_trans h.le h.max
  unfold maxLen at ma
  have HA := Lib.hid h
  have HB := Lib.hid h'
  by_cases hll : la = lb
  · obtain rfl := hll
    have hA := Lib.hid hla
    have hB := Lib.hid hlb
    clear h h' hla hlb
    have hne : (la != la) = false := by simp
    go_enter Try.func160, Try.ntmps160
    go_wp2
    go_loopw [17] (fun i wr => ∃ k : Nat, k ≤ la ∧ i = .int .i64 k ∧ Hid (∀ j, j < k → (ps.map EndR.val)[j]? = (qs.map EndR.val)[j]?) ∧ Hid (Below w.heap.size w wr)) (fun i _ => la - (intOf i).toNat)
    case atStart => exact ⟨0, Nat.zero_le _, rfl, fun j hj => absurd hj (by omega), Below.refl _ _⟩
    case round =>
      obtain ⟨k, hk, rfl, heq, hbel⟩ := hrel
      by_cases hlt : k < la
      · obtain ⟨b1, o1, p, e1, hp, r1, d1⟩ := (HA.out.below (by decide) hbel.out).at hlt
        obtain ⟨b2, o2, q, e2, hq, r2, d2⟩ := (HB.out.below (by decide) hbel.out).at hlt
        dsimp only at e1 e2 hp hq
        subst e1
        subst e2
        have R1 := Lib.hid (show Row wr b1 (o1 + k * 14) (EndR.cells p) from r1)
        have R2 := Lib.hid (show Row wr b2 (o2 + k * 14) (EndR.cells q) from r2)
        have D1 := Lib.hid d1
        have D2 := Lib.hid d2
        have E := Lib.hid (show p.val = q.val → (ps.map EndR.val)[k]? = (qs.map EndR.val)[k]? from fun h => by rw [List.getElem?_map, List.getElem?_map, hp, hq]; exact congrArg some h)
        have G := Lib.hid (show p.val ≠ q.val → decide (ps.map EndR.val = qs.map EndR.val) = false from fun h => by
          refine decide_eq_false fun e => h ?_
          have e := congrArg (fun l => l[k]?) e
          simpa [List.getElem?_map, hp, hq] using e)
        have X0 := Lib.hid (Box.new wr 120 #[.int .i64 0, .int .i64 0, .int .i64 0, .int .i64 0, .int .i64 0, .int .i64 0, .slice none 0 0, .bool false, .int .i64 0, .int .i64 0, .slice none 0 0, .int .i64 0, .int .i64 0, .int .i64 0])
        clear r1 r2 d1 d2 hp hq
        go_wp2_with (first
          | ((with_reducible change wpList _ _ _ (Oper.mk (some 21) _ _ _ _ _ :: _) _ _); refine wpList_load_mid (by rfl) 120 (.tmp 20) (by rfl) b1 (o1 + k * 14) (by rfl) (EndR.cells p) _ R1.out Try.underlying120 rfl (by kernel_rfl) ?_; simp only [Act.put, List.setIfInBounds_toArray, List.set_cons_zero, List.set_cons_succ])
          | ((with_reducible change wpList _ _ _ (Oper.mk none (Op.store 120 (.tmp 8) _) _ _ _ _ :: _) _ _); refine setBox_list _ rfl 120 (.tmp 8) (.tmp 21) rfl wr.heap.size 120 _ (EndR.cells p).toArray X0.out (by exact rfl) (by exact rfl) (by kernel_rfl) (by exact rfl) (by simp [EndR.cells, Value.oneCell']) ?_; intro w2 x2 g2; have C2 := (Chg.refl [wr.heap.size] _).boxed x2 g2 (List.mem_singleton.2 rfl); have b2' := ((Below.refl wr.heap.size wr).alloc (Nat.le_refl _) (.cells #[.int .i64 0, .int .i64 0, .int .i64 0, .int .i64 0, .int .i64 0, .int .i64 0, .slice none 0 0, .bool false, .int .i64 0, .int .i64 0, .slice none 0 0, .int .i64 0, .int .i64 0, .int .i64 0] 120)).trans (C2.below (by simp) (fun k hk => by have := List.mem_singleton.1 hk; omega)); have R3 := Lib.hid (R2.out.below b2'); have B2 := Lib.hid b2'; have X1 := Lib.hid (Box.new w2 120 #[.int .i64 0, .int .i64 0, .int .i64 0, .int .i64 0, .int .i64 0, .int .i64 0, .slice none 0 0, .bool false, .int .i64 0, .int .i64 0, .slice none 0 0, .int .i64 0, .int .i64 0, .int .i64 0]); have X2 := Lib.hid x2; clear C2 b2' R1 R2 X0 x2 g2)
          | ((with_reducible change wpList _ _ _ (Oper.mk (some 25) _ _ _ _ _ :: _) _ _); refine wpList_load_mid (by rfl) 120 (.tmp 24) (by rfl) b2 (o2 + k * 14) (by rfl) (EndR.cells q) _ R3.out Try.underlying120 rfl (by kernel_rfl) ?_; simp only [Act.put, List.setIfInBounds_toArray, List.set_cons_zero, List.set_cons_succ])
          | ((with_reducible change wpList _ _ _ (Oper.mk none (Op.store 120 (.tmp 9) _) _ _ _ _ :: _) _ _); refine setBox_list _ rfl 120 (.tmp 9) (.tmp 25) rfl w2.heap.size 120 _ (EndR.cells q).toArray X1.out (by exact rfl) (by exact rfl) (by kernel_rfl) (by exact rfl) (by simp [EndR.cells, Value.oneCell']) ?_; intro w3 x3 g3; have C3 := (Chg.refl [w2.heap.size] _).boxed x3 g3 (List.mem_singleton.2 rfl); have b3' := ((Below.refl w2.heap.size w2).alloc (Nat.le_refl _) (.cells #[.int .i64 0, .int .i64 0, .int .i64 0, .int .i64 0, .int .i64 0, .int .i64 0, .slice none 0 0, .bool false, .int .i64 0, .int .i64 0, .slice none 0 0, .int .i64 0, .int .i64 0, .int .i64 0] 120)).trans (C3.below (by simp) (fun k hk => by have := List.mem_singleton.1 hk; omega)); have Y2 := Lib.hid ((X2.out.alloc (.cells #[.int .i64 0, .int .i64 0, .int .i64 0, .int .i64 0, .int .i64 0, .int .i64 0, .slice none 0 0, .bool false, .int .i64 0, .int .i64 0, .slice none 0 0, .int .i64 0, .int .i64 0, .int .i64 0] 120)).chg C3 (fun e => by have := List.mem_singleton.1 e; have := X2.out.lt; omega)); have Y3 := Lib.hid x3; have b4' := B2.out.trans (b3'.mono B2.out.size); have KC := Lib.hid (sameEnd_any p q w3 (EndR.md.below D1.out b4') (EndR.md.below D2.out b4')); have B3 := Lib.hid (hbel.out.trans (b4'.mono hbel.out.size)); clear C3 b3' b4' R3 B2 X1 X2 x3 g3 D1 D2 hbel)
          | ((with_reducible change wpList _ _ _ (Oper.mk (some 27) _ _ _ _ _ :: _) _ _); refine getBox_list _ rfl 120 (.tmp 8) rfl wr.heap.size 120 _ Y2.out rfl _ rfl Try.underlying120 (by kernel_rfl) ?_; simp only [Act.put, List.setIfInBounds_toArray, List.set_cons_zero, List.set_cons_succ])
          | ((with_reducible change wpList _ _ _ (Oper.mk (some 28) _ _ _ _ _ :: _) _ _); refine getBox_list _ rfl 120 (.tmp 9) rfl w2.heap.size 120 _ Y3.out rfl _ rfl Try.underlying120 (by kernel_rfl) ?_; simp only [Act.put, List.setIfInBounds_toArray, List.set_cons_zero, List.set_cons_succ]))
        by_cases hc : p.val = q.val
        · have E' : Hid ((ps.map EndR.val)[k]? = (qs.map EndR.val)[k]?) := E.out hc
          rw [show decide (p.val = q.val) = true from decide_eq_true hc] at KC
          clear E G hc
          refine KC.out.mono ?_
          rintro e w10 ⟨rfl, b10⟩
          have B10 := Lib.hid (B3.out.trans (b10.mono B3.out.size))
          clear b10 B3 KC Y2 Y3
          go_wp2
          go_roundw
          case rel => exact ⟨k + 1, by omega, by go_num, fun j hj => by
            by_cases hjk : j < k
            · exact heq.out j hjk
            · obtain rfl : j = k := by omega
              exact E'.out, B10.out⟩
          case measure => simp [intOf]; omega
        · have F' : Hid (decide (ps.map EndR.val = qs.map EndR.val) = false) := G.out hc
          rw [show decide (p.val = q.val) = false from decide_eq_false hc] at KC
          clear E G hc
          refine KC.out.mono ?_
          rintro e w10 ⟨rfl, b10⟩
          have B10 := Lib.hid (B3.out.trans (b10.mono B3.out.size))
          clear b10 B3 KC Y2 Y3
          go_wp2
          go_ret
          exact ⟨ret_b F'.out.symm, B10.out⟩
      · obtain rfl : k = la := by omega
        have H : Hid (decide (ps.map EndR.val = qs.map EndR.val) = true) := decide_eq_true (List.ext_getElem? fun j => by
          by_cases hj : j < k
          · exact heq.out j hj
          · rw [List.getElem?_eq_none (by rw [List.length_map, hA.out]; omega), List.getElem?_eq_none (by rw [List.length_map, hB.out]; omega)])
        go_wp2
        go_ret
        exact ⟨ret_b H.out.symm, hbel.out⟩
  · have hne : (la != lb) = true := by simpa using hll
    have H : Hid (decide (ps.map EndR.val = qs.map EndR.val) = false) := decide_eq_false fun e => hll (by
      have := congrArg List.length e
      rw [List.length_map, List.length_map, hla, hlb] at this
      exact this)
    clear h h' HA HB hla hlb
    go_enter Try.func160, Try.ntmps160
    go_wp2
    go_ret
    exact ⟨ret_b H.out.symm, Below.refl _ _⟩
end Go.Proofs.Ytimlobhlcmghfaa

namespace Go.Proofs.Ytimlobhlcmghfaa
open Go.ChangeShapes Go.WideShapes Go.ChangeAt Go.RowKit

set_option maxRecDepth 20000 in
set_option maxHeartbeats 4000000 in
theorem equalFuncReply_any (x y : Lt ReplyR) (w : World) (h : Lt.ok ReplyR.md w x) (h' : Lt.ok ReplyR.md w y) :
    Calls Try.prog 163 #[.slice x.a x.l x.c, .slice y.a y.l y.c, .func (.func 164) #[] #[]] w fun e w' => e = .returned (.bool (decide (x.rs.map ReplyR.val = y.rs.map ReplyR.val))) ∧ Below w.heap.size w w' := by
  obtain ⟨a, la, ca, ps⟩ := x
  obtain ⟨b, lb, cb, qs⟩ := y
  dsimp only
  have hla : ps.length = la := h.length
  have hlb : qs.length = lb := h'.length
  have ma : la ≤ maxLen := Nat.le_trans h.le h.max
  unfold maxLen at ma
  have HA := Lib.hid h
  have HB := Lib.hid h'
  by_cases hll : la = lb
  · obtain rfl := hll
    have hA := Lib.hid hla
    have hB := Lib.hid hlb
    clear h h' hla hlb
    have hne : (la != la) = false := by simp
    go_enter Try.func163, Try.ntmps163
    go_wp2
    go_loopw [17] (fun i wr => ∃ k : Nat, k ≤ la ∧ i = .int .i64 k ∧ Hid (∀ j, j < k → (ps.map ReplyR.val)[j]? = (qs.map ReplyR.val)[j]?) ∧ Hid (Below w.heap.size w wr)) (fun i _ => la - (intOf i).toNat)
    case atStart => exact ⟨0, Nat.zero_le _, rfl, fun j hj => absurd hj (by omega), Below.refl _ _⟩
    case round =>
      obtain ⟨k, hk, rfl, heq, hbel⟩ := hrel
      by_cases hlt : k < la
      · obtain ⟨b1, o1, p, e1, hp, r1, d1⟩ := (HA.out.below (by decide) hbel.out).at hlt
        obtain ⟨b2, o2, q, e2, hq, r2, d2⟩ := (HB.out.below (by decide) hbel.out).at hlt
        dsimp only at e1 e2 hp hq
        subst e1
        subst e2
        have R1 := Lib.hid (show Row wr b1 (o1 + k * 3) (ReplyR.cells p) from r1)
        have R2 := Lib.hid (show Row wr b2 (o2 + k * 3) (ReplyR.cells q) from r2)
        have D1 := Lib.hid d1
        have D2 := Lib.hid d2
        have E := Lib.hid (show p.val = q.val → (ps.map ReplyR.val)[k]? = (qs.map ReplyR.val)[k]? from fun h => by rw [List.getElem?_map, List.getElem?_map, hp, hq]; exact congrArg some h)
        have G := Lib.hid (show p.val ≠ q.val → decide (ps.map ReplyR.val = qs.map ReplyR.val) = false from fun h => by
          refine decide_eq_false fun e => h ?_
          have e := congrArg (fun l => l[k]?) e
          simpa [List.getElem?_map, hp, hq] using e)
        have X0 := Lib.hid (Box.new wr 187 #[.int .i64 0, .int .i64 0, .slice none 0 0])
        clear r1 r2 d1 d2 hp hq
        go_wp2_with (first
          | ((with_reducible change wpList _ _ _ (Oper.mk (some 21) _ _ _ _ _ :: _) _ _); refine wpList_load_mid (by rfl) 187 (.tmp 20) (by rfl) b1 (o1 + k * 3) (by rfl) (ReplyR.cells p) _ R1.out Try.underlying187 rfl (by kernel_rfl) ?_; simp only [Act.put, List.setIfInBounds_toArray, List.set_cons_zero, List.set_cons_succ])
          | ((with_reducible change wpList _ _ _ (Oper.mk none (Op.store 187 (.tmp 8) _) _ _ _ _ :: _) _ _); refine setBox_list _ rfl 187 (.tmp 8) (.tmp 21) rfl wr.heap.size 187 _ (ReplyR.cells p).toArray X0.out (by exact rfl) (by exact rfl) (by kernel_rfl) (by exact rfl) (by simp [ReplyR.cells, Value.oneCell']) ?_; intro w2 x2 g2; have C2 := (Chg.refl [wr.heap.size] _).boxed x2 g2 (List.mem_singleton.2 rfl); have b2' := ((Below.refl wr.heap.size wr).alloc (Nat.le_refl _) (.cells #[.int .i64 0, .int .i64 0, .slice none 0 0] 187)).trans (C2.below (by simp) (fun k hk => by have := List.mem_singleton.1 hk; omega)); have R3 := Lib.hid (R2.out.below b2'); have B2 := Lib.hid b2'; have X1 := Lib.hid (Box.new w2 187 #[.int .i64 0, .int .i64 0, .slice none 0 0]); have X2 := Lib.hid x2; clear C2 b2' R1 R2 X0 x2 g2)
          | ((with_reducible change wpList _ _ _ (Oper.mk (some 25) _ _ _ _ _ :: _) _ _); refine wpList_load_mid (by rfl) 187 (.tmp 24) (by rfl) b2 (o2 + k * 3) (by rfl) (ReplyR.cells q) _ R3.out Try.underlying187 rfl (by kernel_rfl) ?_; simp only [Act.put, List.setIfInBounds_toArray, List.set_cons_zero, List.set_cons_succ])
          | ((with_reducible change wpList _ _ _ (Oper.mk none (Op.store 187 (.tmp 9) _) _ _ _ _ :: _) _ _); refine setBox_list _ rfl 187 (.tmp 9) (.tmp 25) rfl w2.heap.size 187 _ (ReplyR.cells q).toArray X1.out (by exact rfl) (by exact rfl) (by kernel_rfl) (by exact rfl) (by simp [ReplyR.cells, Value.oneCell']) ?_; intro w3 x3 g3; have C3 := (Chg.refl [w2.heap.size] _).boxed x3 g3 (List.mem_singleton.2 rfl); have b3' := ((Below.refl w2.heap.size w2).alloc (Nat.le_refl _) (.cells #[.int .i64 0, .int .i64 0, .slice none 0 0] 187)).trans (C3.below (by simp) (fun k hk => by have := List.mem_singleton.1 hk; omega)); have Y2 := Lib.hid ((X2.out.alloc (.cells #[.int .i64 0, .int .i64 0, .slice none 0 0] 187)).chg C3 (fun e => by have := List.mem_singleton.1 e; have := X2.out.lt; omega)); have Y3 := Lib.hid x3; have b4' := B2.out.trans (b3'.mono B2.out.size); have KC := Lib.hid (sameReply_any p q w3 (ReplyR.md.below D1.out b4') (ReplyR.md.below D2.out b4')); have B3 := Lib.hid (hbel.out.trans (b4'.mono hbel.out.size)); clear C3 b3' b4' R3 B2 X1 X2 x3 g3 D1 D2 hbel)
          | ((with_reducible change wpList _ _ _ (Oper.mk (some 27) _ _ _ _ _ :: _) _ _); refine getBox_list _ rfl 187 (.tmp 8) rfl wr.heap.size 187 _ Y2.out rfl _ rfl Try.underlying187 (by kernel_rfl) ?_; simp only [Act.put, List.setIfInBounds_toArray, List.set_cons_zero, List.set_cons_succ])
          | ((with_reducible change wpList _ _ _ (Oper.mk (some 28) _ _ _ _ _ :: _) _ _); refine getBox_list _ rfl 187 (.tmp 9) rfl w2.heap.size 187 _ Y3.out rfl _ rfl Try.underlying187 (by kernel_rfl) ?_; simp only [Act.put, List.setIfInBounds_toArray, List.set_cons_zero, List.set_cons_succ]))
        by_cases hc : p.val = q.val
        · have E' : Hid ((ps.map ReplyR.val)[k]? = (qs.map ReplyR.val)[k]?) := E.out hc
          rw [show decide (p.val = q.val) = true from decide_eq_true hc] at KC
          clear E G hc
          refine KC.out.mono ?_
          rintro e w10 ⟨rfl, b10⟩
          have B10 := Lib.hid (B3.out.trans (b10.mono B3.out.size))
          clear b10 B3 KC Y2 Y3
          go_wp2
          go_roundw
          case rel => exact ⟨k + 1, by omega, by go_num, fun j hj => by
            by_cases hjk : j < k
            · exact heq.out j hjk
            · obtain rfl : j = k := by omega
              exact E'.out, B10.out⟩
          case measure => simp [intOf]; omega
        · have F' : Hid (decide (ps.map ReplyR.val = qs.map ReplyR.val) = false) := G.out hc
          rw [show decide (p.val = q.val) = false from decide_eq_false hc] at KC
          clear E G hc
          refine KC.out.mono ?_
          rintro e w10 ⟨rfl, b10⟩
          have B10 := Lib.hid (B3.out.trans (b10.mono B3.out.size))
          clear b10 B3 KC Y2 Y3
          go_wp2
          go_ret
          exact ⟨ret_b F'.out.symm, B10.out⟩
      · obtain rfl : k = la := by omega
        have H : Hid (decide (ps.map ReplyR.val = qs.map ReplyR.val) = true) := decide_eq_true (List.ext_getElem? fun j => by
          by_cases hj : j < k
          · exact heq.out j hj
          · rw [List.getElem?_eq_none (by rw [List.length_map, hA.out]; omega), List.getElem?_eq_none (by rw [List.length_map, hB.out]; omega)])
        go_wp2
        go_ret
        exact ⟨ret_b H.out.symm, hbel.out⟩
  · have hne : (la != lb) = true := by simpa using hll
    have H : Hid (decide (ps.map ReplyR.val = qs.map ReplyR.val) = false) := decide_eq_false fun e => hll (by
      have := congrArg List.length e
      rw [List.length_map, List.length_map, hla, hlb] at this
      exact this)
    clear h h' HA HB hla hlb
    go_enter Try.func163, Try.ntmps163
    go_wp2
    go_ret
    exact ⟨ret_b H.out.symm, Below.refl _ _⟩
end Go.Proofs.Ytimlobhlcmghfaa

namespace Go.Proofs.Ytimlobhlcmghfaa
open Go.ChangeShapes Go.WideShapes Go.ChangeAt Go.RowKit

set_option maxRecDepth 20000 in
set_option maxHeartbeats 4000000 in
theorem equalFuncFlight_any (x y : Lt FlightR) (w : World) (h : Lt.ok FlightR.md w x) (h' : Lt.ok FlightR.md w y) :
    Calls Try.prog 161 #[.slice x.a x.l x.c, .slice y.a y.l y.c, .func (.func 162) #[] #[]] w fun e w' => e = .returned (.bool (decide (x.rs.map FlightR.val = y.rs.map FlightR.val))) ∧ Below w.heap.size w w' := by
  obtain ⟨a, la, ca, ps⟩ := x
  obtain ⟨b, lb, cb, qs⟩ := y
  dsimp only
  have hla : ps.length = la := h.length
  have hlb : qs.length = lb := h'.length
  have ma : la ≤ maxLen := Nat.le_trans h.le h.max
  unfold maxLen at ma
  have HA := Lib.hid h
  have HB := Lib.hid h'
  by_cases hll : la = lb
  · obtain rfl := hll
    have hA := Lib.hid hla
    have hB := Lib.hid hlb
    clear h h' hla hlb
    have hne : (la != la) = false := by simp
    go_enter Try.func161, Try.ntmps161
    go_wp2
    go_loopw [17] (fun i wr => ∃ k : Nat, k ≤ la ∧ i = .int .i64 k ∧ Hid (∀ j, j < k → (ps.map FlightR.val)[j]? = (qs.map FlightR.val)[j]?) ∧ Hid (Below w.heap.size w wr)) (fun i _ => la - (intOf i).toNat)
    case atStart => exact ⟨0, Nat.zero_le _, rfl, fun j hj => absurd hj (by omega), Below.refl _ _⟩
    case round =>
      obtain ⟨k, hk, rfl, heq, hbel⟩ := hrel
      by_cases hlt : k < la
      · obtain ⟨b1, o1, p, e1, hp, r1, d1⟩ := (HA.out.below (by decide) hbel.out).at hlt
        obtain ⟨b2, o2, q, e2, hq, r2, d2⟩ := (HB.out.below (by decide) hbel.out).at hlt
        dsimp only at e1 e2 hp hq
        subst e1
        subst e2
        have R1 := Lib.hid (show Row wr b1 (o1 + k * 9) (FlightR.cells p) from r1)
        have R2 := Lib.hid (show Row wr b2 (o2 + k * 9) (FlightR.cells q) from r2)
        have D1 := Lib.hid d1
        have D2 := Lib.hid d2
        have E := Lib.hid (show p.val = q.val → (ps.map FlightR.val)[k]? = (qs.map FlightR.val)[k]? from fun h => by rw [List.getElem?_map, List.getElem?_map, hp, hq]; exact congrArg some h)
        have G := Lib.hid (show p.val ≠ q.val → decide (ps.map FlightR.val = qs.map FlightR.val) = false from fun h => by
          refine decide_eq_false fun e => h ?_
          have e := congrArg (fun l => l[k]?) e
          simpa [List.getElem?_map, hp, hq] using e)
        have X0 := Lib.hid (Box.new wr 200 #[.int .i64 0, .int .i64 0, .int .i64 0, .int .i64 0, .int .i64 0, .int .i64 0, .int .i64 0, .int .i64 0, .slice none 0 0])
        clear r1 r2 d1 d2 hp hq
        go_wp2_with (first
          | ((with_reducible change wpList _ _ _ (Oper.mk (some 21) _ _ _ _ _ :: _) _ _); refine wpList_load_mid (by rfl) 200 (.tmp 20) (by rfl) b1 (o1 + k * 9) (by rfl) (FlightR.cells p) _ R1.out Try.underlying200 rfl (by kernel_rfl) ?_; simp only [Act.put, List.setIfInBounds_toArray, List.set_cons_zero, List.set_cons_succ])
          | ((with_reducible change wpList _ _ _ (Oper.mk none (Op.store 200 (.tmp 8) _) _ _ _ _ :: _) _ _); refine setBox_list _ rfl 200 (.tmp 8) (.tmp 21) rfl wr.heap.size 200 _ (FlightR.cells p).toArray X0.out (by exact rfl) (by exact rfl) (by kernel_rfl) (by exact rfl) (by simp [FlightR.cells, Value.oneCell']) ?_; intro w2 x2 g2; have C2 := (Chg.refl [wr.heap.size] _).boxed x2 g2 (List.mem_singleton.2 rfl); have b2' := ((Below.refl wr.heap.size wr).alloc (Nat.le_refl _) (.cells #[.int .i64 0, .int .i64 0, .int .i64 0, .int .i64 0, .int .i64 0, .int .i64 0, .int .i64 0, .int .i64 0, .slice none 0 0] 200)).trans (C2.below (by simp) (fun k hk => by have := List.mem_singleton.1 hk; omega)); have R3 := Lib.hid (R2.out.below b2'); have B2 := Lib.hid b2'; have X1 := Lib.hid (Box.new w2 200 #[.int .i64 0, .int .i64 0, .int .i64 0, .int .i64 0, .int .i64 0, .int .i64 0, .int .i64 0, .int .i64 0, .slice none 0 0]); have X2 := Lib.hid x2; clear C2 b2' R1 R2 X0 x2 g2)
          | ((with_reducible change wpList _ _ _ (Oper.mk (some 25) _ _ _ _ _ :: _) _ _); refine wpList_load_mid (by rfl) 200 (.tmp 24) (by rfl) b2 (o2 + k * 9) (by rfl) (FlightR.cells q) _ R3.out Try.underlying200 rfl (by kernel_rfl) ?_; simp only [Act.put, List.setIfInBounds_toArray, List.set_cons_zero, List.set_cons_succ])
          | ((with_reducible change wpList _ _ _ (Oper.mk none (Op.store 200 (.tmp 9) _) _ _ _ _ :: _) _ _); refine setBox_list _ rfl 200 (.tmp 9) (.tmp 25) rfl w2.heap.size 200 _ (FlightR.cells q).toArray X1.out (by exact rfl) (by exact rfl) (by kernel_rfl) (by exact rfl) (by simp [FlightR.cells, Value.oneCell']) ?_; intro w3 x3 g3; have C3 := (Chg.refl [w2.heap.size] _).boxed x3 g3 (List.mem_singleton.2 rfl); have b3' := ((Below.refl w2.heap.size w2).alloc (Nat.le_refl _) (.cells #[.int .i64 0, .int .i64 0, .int .i64 0, .int .i64 0, .int .i64 0, .int .i64 0, .int .i64 0, .int .i64 0, .slice none 0 0] 200)).trans (C3.below (by simp) (fun k hk => by have := List.mem_singleton.1 hk; omega)); have Y2 := Lib.hid ((X2.out.alloc (.cells #[.int .i64 0, .int .i64 0, .int .i64 0, .int .i64 0, .int .i64 0, .int .i64 0, .int .i64 0, .int .i64 0, .slice none 0 0] 200)).chg C3 (fun e => by have := List.mem_singleton.1 e; have := X2.out.lt; omega)); have Y3 := Lib.hid x3; have b4' := B2.out.trans (b3'.mono B2.out.size); have KC := Lib.hid (sameFlight_any p q w3 (FlightR.md.below D1.out b4') (FlightR.md.below D2.out b4')); have B3 := Lib.hid (hbel.out.trans (b4'.mono hbel.out.size)); clear C3 b3' b4' R3 B2 X1 X2 x3 g3 D1 D2 hbel)
          | ((with_reducible change wpList _ _ _ (Oper.mk (some 27) _ _ _ _ _ :: _) _ _); refine getBox_list _ rfl 200 (.tmp 8) rfl wr.heap.size 200 _ Y2.out rfl _ rfl Try.underlying200 (by kernel_rfl) ?_; simp only [Act.put, List.setIfInBounds_toArray, List.set_cons_zero, List.set_cons_succ])
          | ((with_reducible change wpList _ _ _ (Oper.mk (some 28) _ _ _ _ _ :: _) _ _); refine getBox_list _ rfl 200 (.tmp 9) rfl w2.heap.size 200 _ Y3.out rfl _ rfl Try.underlying200 (by kernel_rfl) ?_; simp only [Act.put, List.setIfInBounds_toArray, List.set_cons_zero, List.set_cons_succ]))
        by_cases hc : p.val = q.val
        · have E' : Hid ((ps.map FlightR.val)[k]? = (qs.map FlightR.val)[k]?) := E.out hc
          rw [show decide (p.val = q.val) = true from decide_eq_true hc] at KC
          clear E G hc
          refine KC.out.mono ?_
          rintro e w10 ⟨rfl, b10⟩
          have B10 := Lib.hid (B3.out.trans (b10.mono B3.out.size))
          clear b10 B3 KC Y2 Y3
          go_wp2
          go_roundw
          case rel => exact ⟨k + 1, by omega, by go_num, fun j hj => by
            by_cases hjk : j < k
            · exact heq.out j hjk
            · obtain rfl : j = k := by omega
              exact E'.out, B10.out⟩
          case measure => simp [intOf]; omega
        · have F' : Hid (decide (ps.map FlightR.val = qs.map FlightR.val) = false) := G.out hc
          rw [show decide (p.val = q.val) = false from decide_eq_false hc] at KC
          clear E G hc
          refine KC.out.mono ?_
          rintro e w10 ⟨rfl, b10⟩
          have B10 := Lib.hid (B3.out.trans (b10.mono B3.out.size))
          clear b10 B3 KC Y2 Y3
          go_wp2
          go_ret
          exact ⟨ret_b F'.out.symm, B10.out⟩
      · obtain rfl : k = la := by omega
        have H : Hid (decide (ps.map FlightR.val = qs.map FlightR.val) = true) := decide_eq_true (List.ext_getElem? fun j => by
          by_cases hj : j < k
          · exact heq.out j hj
          · rw [List.getElem?_eq_none (by rw [List.length_map, hA.out]; omega), List.getElem?_eq_none (by rw [List.length_map, hB.out]; omega)])
        go_wp2
        go_ret
        exact ⟨ret_b H.out.symm, hbel.out⟩
  · have hne : (la != lb) = true := by simpa using hll
    have H : Hid (decide (ps.map FlightR.val = qs.map FlightR.val) = false) := decide_eq_false fun e => hll (by
      have := congrArg List.length e
      rw [List.length_map, List.length_map, hla, hlb] at this
      exact this)
    clear h h' HA HB hla hlb
    go_enter Try.func161, Try.ntmps161
    go_wp2
    go_ret
    exact ⟨ret_b H.out.symm, Below.refl _ _⟩
end Go.Proofs.Ytimlobhlcmghfaa

namespace Go.Proofs.Ytimlobhlcmghfaa
open Go.ChangeShapes Go.WideShapes Go.ChangeAt Go.RowKit

def spB (p q : PairR) : Bool := (p.f0 == q.f0) && (decide (p.f1.rs.map EndR.val = q.f1.rs.map EndR.val) && (decide (p.f2.rs.map FlightR.val = q.f2.rs.map FlightR.val) && decide (p.f3.rs.map ReplyR.val = q.f3.rs.map ReplyR.val)))
set_option maxHeartbeats 4000000 in
theorem implSamePairs (p q : PairR) (w : World) (h : PairR.ok w p) (h' : PairR.ok w q) :
    Calls Try.prog 89 #[.agg (PairR.cells p).toArray, .agg (PairR.cells q).toArray] w fun e w' => e = .returned (.bool (spB p q)) ∧ Below w.heap.size w w' := by
  obtain ⟨p0, p1, p2, p3⟩ := p
  obtain ⟨q0, q1, q2, q3⟩ := q
  show Calls Try.prog 89 #[.agg #[.int .i64 p0, .slice p1.a p1.l p1.c, .slice p2.a p2.l p2.c, .slice p3.a p3.l p3.c], .agg #[.int .i64 q0, .slice q1.a q1.l q1.c, .slice q2.a q2.l q2.c, .slice q3.a q3.l q3.c]] w _
  obtain ⟨⟨g1, g2⟩, g3⟩ := h
  obtain ⟨⟨k1, k2⟩, k3⟩ := h'
  have B0 := Lib.hid (((Below.refl w.heap.size w).alloc (Nat.le_refl _) (.cells #[.int .i64 p0, .slice p1.a p1.l p1.c, .slice p2.a p2.l p2.c, .slice p3.a p3.l p3.c] 104)).alloc (by simp) (.cells #[.int .i64 q0, .slice q1.a q1.l q1.c, .slice q2.a q2.l q2.c, .slice q3.a q3.l q3.c] 104))
  have X0 := Lib.hid ((Box.new w 104 #[.int .i64 p0, .slice p1.a p1.l p1.c, .slice p2.a p2.l p2.c, .slice p3.a p3.l p3.c]).alloc (.cells #[.int .i64 q0, .slice q1.a q1.l q1.c, .slice q2.a q2.l q2.c, .slice q3.a q3.l q3.c] 104))
  have y0 := Box.new (w.alloc (.cells #[.int .i64 p0, .slice p1.a p1.l p1.c, .slice p2.a p2.l p2.c, .slice p3.a p3.l p3.c] 104)) 104 #[.int .i64 q0, .slice q1.a q1.l q1.c, .slice q2.a q2.l q2.c, .slice q3.a q3.l q3.c]
  simp only [World.size_alloc] at y0
  have Y0 := Lib.hid y0
  have K1 := Lib.hid (fun W (hW : Below w.heap.size w W) => equalFuncEnd_any p1 q1 W (Lt.ok.below (by decide) g1 hW) (Lt.ok.below (by decide) k1 hW))
  have K2 := Lib.hid (fun W (hW : Below w.heap.size w W) => equalFuncFlight_any p2 q2 W (Lt.ok.below (by decide) g2 hW) (Lt.ok.below (by decide) k2 hW))
  have K3 := Lib.hid (fun W (hW : Below w.heap.size w W) => equalFuncReply_any p3 q3 W (Lt.ok.below (by decide) g3 hW) (Lt.ok.below (by decide) k3 hW))
  have H : Hid (spB ⟨p0, p1, p2, p3⟩ ⟨q0, q1, q2, q3⟩ = ((p0 == q0) && (decide (p1.rs.map EndR.val = q1.rs.map EndR.val) && (decide (p2.rs.map FlightR.val = q2.rs.map FlightR.val) && decide (p3.rs.map ReplyR.val = q3.rs.map ReplyR.val))))) := rfl
  rw [H.out]
  clear g1 g2 g3 k1 k2 k3 H y0
  generalize decide (p1.rs.map EndR.val = q1.rs.map EndR.val) = e1 at *
  generalize decide (p2.rs.map FlightR.val = q2.rs.map FlightR.val) = e2 at *
  generalize decide (p3.rs.map ReplyR.val = q3.rs.map ReplyR.val) = e3 at *
  go_enter Try.func89, Try.ntmps89
  go_wp2_with fail
  refine (K1.out _ B0.out).mono ?_
  rintro e w1 ⟨rfl, b1⟩
  have B1 := Lib.hid (B0.out.trans (b1.mono B0.out.size))
  have X1 := Lib.hid (X0.out.below b1 X0.out.lt)
  have Y1 := Lib.hid (Y0.out.below b1 Y0.out.lt)
  have x2 : w1.cell? ⟨w.heap.size, 2, none⟩ = some (.slice p2.a p2.l p2.c) := X1.out.cell 2
  have z2 : w1.cell? ⟨w.heap.size + 1, 2, none⟩ = some (.slice q2.a q2.l q2.c) := Y1.out.cell 2
  clear b1 X0 Y0 B0 K1
  go_wp2_with fail
  refine (K2.out _ B1.out).mono ?_
  rintro e w2 ⟨rfl, b2⟩
  have B2 := Lib.hid (B1.out.trans (b2.mono B1.out.size))
  have X2 := Lib.hid (X1.out.below b2 X1.out.lt)
  have Y2 := Lib.hid (Y1.out.below b2 Y1.out.lt)
  have x3 : w2.cell? ⟨w.heap.size, 3, none⟩ = some (.slice p3.a p3.l p3.c) := X2.out.cell 3
  have z3 : w2.cell? ⟨w.heap.size + 1, 3, none⟩ = some (.slice q3.a q3.l q3.c) := Y2.out.cell 3
  clear b2 X1 Y1 B1 K2 x2 z2
  go_wp2_with fail
  refine (K3.out _ B2.out).mono ?_
  rintro e w3 ⟨rfl, b3⟩
  have B3 := Lib.hid (B2.out.trans (b3.mono B2.out.size))
  have x0 : w3.cell? ⟨w.heap.size, 0, none⟩ = some (.int .i64 p0) := (X2.out.below b3 X2.out.lt).cell 0
  have z0 : w3.cell? ⟨w.heap.size + 1, 0, none⟩ = some (.int .i64 q0) := (Y2.out.below b3 Y2.out.lt).cell 0
  clear b3 X2 Y2 B2 K3 x3 z3
  cases m0 : (p0 == q0)
  case' true => cases e1
  case' true.true => cases e2
  case' true.true.true => cases e3
  all_goals
    go_wp2
    go_ret
    exact ⟨ret_b (by rw [m0]; rfl), B3.out⟩
end Go.Proofs.Ytimlobhlcmghfaa
