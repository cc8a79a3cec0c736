/-
  The law FnExactReadFrame returns true, where the program's ReadFrame answers as the model's does.
-/
import Derived.Test.YtkneicepflkfhaaFrmR
import Derived.Test.YtkneicepflkfhaaExFrmP
namespace Go.Proofs.Ytkneicepflkfhaa
open Go.ChangeShapes Go.WideShapes Go.ChangeAt Go.RowKit

theorem heldFrame_any (v0 v1 v2 : Int) (a : Option Addr) (len cap k0 : Nat) (w : World) (h : Rd w a len cap (marks k0 len)) (hl : len ≤ 2097152) (hk0 : k0 ≤ 1000000000) :
    Calls Try.prog 53 #[.agg #[.int .i64 v0, .int .i64 v1, .int .i64 v2, .slice a len cap], .int .i64 k0] w fun e w' => e = .returned (.int .i64 (k0 + len : Nat)) ∧ Below w.heap.size w w' := by
  have K := Lib.hid (fun o => heldByteS_any a len cap k0 (w.alloc o) (h.alloc o) hl hk0)
  go_enter Try.func53, Try.ntmps53
  go_wp2_with fail
  refine (K.out _).mono ?_
  rintro e w1 ⟨rfl, rfl⟩
  have hn : ¬ ((k0 + len : Nat) : Int) < 0 := by omega
  go_wp2
  go_ret
  exact ⟨rfl, (Below.refl _ _).alloc (Nat.le_refl _) _⟩
theorem heldFrameR_any (c v0 v1 v2 : Int) (a : Option Addr) (len cap k0 : Nat) (w : World) (h : Rd w a len cap (marks k0 len)) (hl : len ≤ 2097152) (hk0 : k0 ≤ 1000000000) :
    Calls Try.prog 28 #[.agg #[.int .i64 c, .int .i64 v0, .int .i64 v1, .int .i64 v2, .slice a len cap], .int .i64 k0] w fun e w' => e = .returned (.int .i64 (k0 + len : Nat)) ∧ Below w.heap.size w w' := by
  have K := Lib.hid (fun o => heldFrame_any v0 v1 v2 a len cap k0 (w.alloc o) (h.alloc o) hl hk0)
  go_enter Try.func28, Try.ntmps28
  go_wp2_with fail
  refine (K.out _).mono ?_
  rintro e w1 ⟨rfl, b1⟩
  have hn : ¬ ((k0 + len : Nat) : Int) < 0 := by omega
  go_wp2
  go_ret
  exact ⟨rfl, ((Below.refl _ _).alloc (Nat.le_refl _) _).trans (b1.mono (by simp))⟩
theorem markFrameR_any (c v0 v1 v2 : Int) (a : Option Addr) (len cap base k0 : Nat) (zs : List Int) (w : World) (h : Own w base a len cap zs) (hl : len ≤ 2097152) (hk0 : k0 ≤ 1000000000) :
    Calls Try.prog 27 #[.agg #[.int .i64 c, .int .i64 v0, .int .i64 v1, .int .i64 v2, .slice a len cap], .int .i64 k0] w fun e w' => e = .returned (.int .i64 (k0 + len : Nat)) ∧ Own w' base a len cap (marks k0 len) ∧ w.grownBy w' ((Value.slice a len cap).ownBlock) := by
  have K := Lib.hid (fun o => markFrame_any v0 v1 v2 a len cap base k0 zs (w.alloc o) (h.alloc o) hl hk0)
  go_enter Try.func27, Try.ntmps27
  go_wp2_with fail
  refine (K.out _).mono ?_
  rintro e w1 ⟨rfl, ho, hg⟩
  go_wp2
  go_ret
  exact ⟨rfl, ho, grown_trans (grown_alloc _ _) hg⟩
theorem eqFrameR_any (c v0 v1 v2 : Int) (a b : Option Addr) (la ca lb cb : Nat) (zs : List Int) (w : World) (ha : Rd w a la ca zs) (hb : Rd w b lb cb zs) :
    Calls Try.prog 24 #[.agg #[.int .i64 c, .int .i64 v0, .int .i64 v1, .int .i64 v2, .slice a la ca], .agg #[.int .i64 c, .int .i64 v0, .int .i64 v1, .int .i64 v2, .slice b lb cb]] w fun e w' => e = .returned (.bool true) ∧ Below w.heap.size w w' := by
  have K := Lib.hid (fun W (hW : Below w.heap.size w W) => eqFrame_t v0 v1 v2 a b la ca lb cb zs W (ha.below hW) (hb.below hW))
  go_enter Try.func24, Try.ntmps24
  go_wp2_with fail
  refine (K.out _ (((Below.refl _ _).alloc (Nat.le_refl _) _).alloc (by simp) _)).mono ?_
  rintro e w1 ⟨rfl, hb1⟩
  go_wp2
  go_ret
  exact ⟨rfl, (((Below.refl _ _).alloc (Nat.le_refl _) _).alloc (by simp) _).trans (hb1.mono (by simp; omega))⟩

set_option maxHeartbeats 4000000 in
theorem exactReadFrame (a : Option Addr) (len cap : Nat) (zs : List Int) (c v0 v1 v2 : Int) (rs : List Int) (w : World) (h : Rd w a len cap zs)
    (hS : ∀ (a' : Option Addr) (l' c' : Nat) (W : World), Rd W a' l' c' zs → Calls Try.prog 21 #[.slice a' l' c'] W (FrameRes W c v0 v1 v2 rs))
    (hI : ∀ (a' : Option Addr) (l' c' : Nat) (W : World), Rd W a' l' c' zs → Calls Try.prog 23 #[.slice a' l' c'] W (FrameRes W c v0 v1 v2 rs)) (hB : rs.length ≤ 700) :
    Calls Try.prog 5 #[.slice a len cap] w fun e w' => e = .returned (.bool true) ∧ Below w.heap.size w w' := by
  by_cases hbig : len ≤ 1048576
  · have K1 := Lib.hid hS
    have K2 := Lib.hid hI
    have hrs : rs.length ≤ 700 := hB
    have T := Lib.hid (fun W (hW : Below w.heap.size w W) => toByteS_any a len cap zs W (h.below hW) hbig)
    have hq : eqL zs zs = true := decide_eq_true rfl
    clear hS hI hB h
    go_enter Try.func5, Try.ntmps5
    go_wp2_with fail
    refine (T.out _ (Below.refl _ _)).mono ?_
    rintro e w1 ⟨rfl, o1, b1⟩
    have B1 := Lib.hid b1
    clear b1
    go_wp2_with fail
    refine (K1.out _ _ _ _ o1.rd).mono ?_
    rintro e w2 ⟨a2, l2, k2, rfl, o2, b2⟩
    have B2 : Hid (Below w.heap.size w (w2.alloc (.cells #[.int .i64 c, .int .i64 v0, .int .i64 v1, .int .i64 v2, .slice a2 l2 k2] 38))) := (B1.out.trans (b2.mono B1.out.size)).alloc (Nat.le_trans B1.out.size b2.size) _
    have x2 := Box.new w2 38 #[.int .i64 c, .int .i64 v0, .int .i64 v1, .int .i64 v2, .slice a2 l2 k2]
    have p2 := o2.alloc (.cells #[.int .i64 c, .int .i64 v0, .int .i64 v1, .int .i64 v2, .slice a2 l2 k2] 38)
    have s2 := Nat.le_trans B1.out.size b2.size
    have sW2 : (w2.alloc (.cells #[.int .i64 c, .int .i64 v0, .int .i64 v1, .int .i64 v2, .slice a2 l2 k2] 38)).heap.size = w2.heap.size + 1 := World.size_alloc _ _
    have SW2 := Lib.hid sW2
    clear b2 o1 sW2
    generalize hW2 : w2.alloc (.cells #[.int .i64 c, .int .i64 v0, .int .i64 v1, .int .i64 v2, .slice a2 l2 k2] 38) = W2 at *
    go_wp2_with fail
    refine (T.out _ B2.out).mono ?_
    rintro e w3 ⟨rfl, o3, b3⟩
    rw [SW2.out] at o3
    have B3 : Hid (Below w.heap.size w w3) := B2.out.trans (b3.mono B2.out.size)
    have x3 := x2.below b3 x2.lt
    have p3 := p2.below b3
    have s3 := (o3.lt _ rfl).2
    dsimp only at s3
    clear b3 x2 p2 hW2
    rw [SW2.out]
    go_wp2_with fail
    refine (K2.out _ _ _ _ o3.rd).mono ?_
    rintro e w4 ⟨a4, l4, k4, rfl, o4, b4⟩
    have hl4 : l4 ≤ 700 := by rw [← o4.length]; exact hrs
    have B4 : Hid (Below w.heap.size w (w4.alloc (.cells #[.int .i64 c, .int .i64 v0, .int .i64 v1, .int .i64 v2, .slice a4 l4 k4] 38))) := (B3.out.trans (b4.mono B3.out.size)).alloc (Nat.le_trans B3.out.size b4.size) _
    have x4 := (x3.below b4 x3.lt).alloc (.cells #[.int .i64 c, .int .i64 v0, .int .i64 v1, .int .i64 v2, .slice a4 l4 k4] 38)
    have p4 := (p3.below b4).alloc (.cells #[.int .i64 c, .int .i64 v0, .int .i64 v1, .int .i64 v2, .slice a4 l4 k4] 38)
    have q4 := (o3.below b4).alloc (.cells #[.int .i64 c, .int .i64 v0, .int .i64 v1, .int .i64 v2, .slice a4 l4 k4] 38)
    have r4 := o4.alloc (.cells #[.int .i64 c, .int .i64 v0, .int .i64 v1, .int .i64 v2, .slice a4 l4 k4] 38)
    have y4 := Box.new w4 38 #[.int .i64 c, .int .i64 v0, .int .i64 v1, .int .i64 v2, .slice a4 l4 k4]
    obtain ⟨z4, c0, c1, c2, c3, c4⟩ := (x3.below b4 x3.lt).five
    have s4 := b4.size
    clear b4 x3 p3
    go_wp2_with fail
    refine (eqFrameR_any _ _ _ _ _ _ _ _ _ _ rs _ r4.rd p4.rd).mono ?_
    rintro e w5 ⟨rfl, b5⟩
    have B5 : Hid (Below w.heap.size w w5) := B4.out.trans (b5.mono B4.out.size)
    have x5 := x4.below b5 x4.lt
    have y5 := y4.below b5 y4.lt
    have p5 := p4.below b5
    have q5 := q4.below b5
    have r5 := r4.below b5
    clear b5 x4 y4 p4 q4 r4 z4 c0 c1 c2 c3 c4
    go_wp2_with fail
    refine (T.out _ B5.out).mono ?_
    rintro e w6 ⟨rfl, o6, b6⟩
    have B6 : Hid (Below w.heap.size w w6) := B5.out.trans (b6.mono B5.out.size)
    have x6 := x5.below b6 x5.lt
    have y6 := y5.below b6 y5.lt
    have p6 := p5.below b6
    have q6 := q5.below b6
    have r6 := r5.below b6
    clear b6 x5 y5 p5 q5 r5
    go_wp2_with fail
    refine (eqByteS_any _ _ _ _ _ _ zs zs _ q6.rd o6.rd).mono ?_
    rintro e w7 ⟨rfl, b7⟩
    have B7 : Hid (Below w.heap.size w w7) := B6.out.trans (b7.mono B6.out.size)
    have x7 := x6.below b7 x6.lt
    have y7 := y6.below b7 y6.lt
    have p7 := p6.below b7
    have q7 := q6.below b7
    have r7 := r6.below b7
    clear b7 x6 y6 p6 q6 r6 o6
    go_wp2_with fail
    refine (markByteS_any _ _ _ _ 1 _ _ q7 (by omega) (by omega)).mono ?_
    rintro e w8 ⟨rfl, q8, g8⟩
    have x8 := x7.grown g8 (by simp [Value.ownBlock])
    have y8 := y7.grown g8 (by simp [Value.ownBlock]; omega)
    have p8 := p7.grown g8 (fun x hx e => by have := o2.lt x hx; simp [Value.ownBlock] at e; omega)
    have r8 := r7.grown g8 (fun x hx e => by have := o4.lt x hx; simp [Value.ownBlock] at e; omega)
    have B8 : Hid (Below w.heap.size w w8) := B7.out.grown g8 (by have := B7.out.size; omega) (fun k e => by simp [Value.ownBlock] at e; omega)
    have hn : ¬ ((1 + len : Nat) : Int) < 0 := by omega
    obtain ⟨zx, cx0, cx1, cx2, cx3, cx4⟩ := x8.five
    obtain ⟨zy, cy0, cy1, cy2, cy3, cy4⟩ := y8.five
    clear g8 x7 y7 p7 q7 r7 q8
    go_wp2_with fail
    refine (eqFrameR_any _ _ _ _ _ _ _ _ _ _ rs _ r8.rd p8.rd).mono ?_
    rintro e w9 ⟨rfl, b9⟩
    have B9 : Hid (Below w.heap.size w w9) := B8.out.trans (b9.mono B8.out.size)
    have x9 := x8.below b9 x8.lt
    have y9 := y8.below b9 y8.lt
    have p9 := p8.below b9
    have r9 := r8.below b9
    obtain ⟨zy', cy0', cy1', cy2', cy3', cy4'⟩ := y9.five
    clear b9 x8 y8 p8 r8 zx cx0 cx1 cx2 cx3 cx4 zy cy0 cy1 cy2 cy3 cy4
    go_wp2_with fail
    refine (markFrameR_any _ _ _ _ _ _ _ _ 1 _ _ r9 (by omega) (by omega)).mono ?_
    rintro e wa ⟨rfl, ra, ga⟩
    have ya := y9.grown ga (ne_block o4 _ (.inr (Nat.le_refl _)))
    have xa := x9.grown ga (ne_block o4 _ (.inl (by omega)))
    have pa := p9.grown ga (ne_of_lt_own o2 o4 (by omega))
    have Ba : Hid (Below w.heap.size w wa) := B9.out.grown ga (by have := B9.out.size; omega) (fun k e => by
      cases a4 with
      | none => simp [Value.ownBlock] at e
      | some y => simp [Value.ownBlock] at e; have := o4.lt y rfl; omega)
    obtain ⟨zya, cya0, cya1, cya2, cya3, cya4⟩ := ya.five
    clear ga x9 y9 p9 r9 zy' cy0' cy1' cy2' cy3' cy4'
    go_wp2_with fail
    refine (heldFrameR_any _ _ _ _ _ _ _ 1 _ ra.rd (by omega) (by omega)).mono ?_
    rintro e wb ⟨rfl, bb⟩
    have Bb : Hid (Below w.heap.size w wb) := Ba.out.trans (bb.mono Ba.out.size)
    have xb := xa.below bb xa.lt
    have yb := ya.below bb ya.lt
    have pb := pa.below bb
    have rb := ra.below bb
    have hn2 : ¬ ((1 + l4 : Nat) : Int) < 0 := by omega
    have hne : (((1 + l4 : Nat) : Int) != ((1 + l4 : Nat) : Int)) = false := by simp
    clear bb xa ya pa ra zya cya0 cya1 cya2 cya3 cya4
    go_wp2_with fail
    refine (T.out _ Bb.out).mono ?_
    rintro e wc ⟨rfl, oc, bc⟩
    have Bc : Hid (Below w.heap.size w wc) := Bb.out.trans (bc.mono Bb.out.size)
    have xc := xb.below bc xb.lt
    have yc := yb.below bc yb.lt
    have pc := pb.below bc
    have rc := rb.below bc
    clear bc xb yb pb rb
    go_wp2_with fail
    refine (K2.out _ _ _ _ oc.rd).mono ?_
    rintro e wd ⟨ad, ld, kd, rfl, od, bd⟩
    have Bd : Hid (Below w.heap.size w (wd.alloc (.cells #[.int .i64 c, .int .i64 v0, .int .i64 v1, .int .i64 v2, .slice ad ld kd] 38))) := (Bc.out.trans (bd.mono Bc.out.size)).alloc (Nat.le_trans Bc.out.size bd.size) _
    have yd := (yc.below bd yc.lt).alloc (.cells #[.int .i64 c, .int .i64 v0, .int .i64 v1, .int .i64 v2, .slice ad ld kd] 38)
    have pd := (pc.below bd).alloc (.cells #[.int .i64 c, .int .i64 v0, .int .i64 v1, .int .i64 v2, .slice ad ld kd] 38)
    have rd := (rc.below bd).alloc (.cells #[.int .i64 c, .int .i64 v0, .int .i64 v1, .int .i64 v2, .slice ad ld kd] 38)
    obtain ⟨zxd, cxd0, cxd1, cxd2, cxd3, cxd4⟩ := (xc.below bd xc.lt).five
    clear bd xc yc pc rc oc
    go_wp2_with fail
    refine (eqFrameR_any _ _ _ _ _ _ _ _ _ _ rs _ (od.alloc _).rd pd.rd).mono ?_
    rintro e we ⟨rfl, be'⟩
    have Be : Hid (Below w.heap.size w we) := Bd.out.trans (be'.mono Bd.out.size)
    have ye := yd.below be' yd.lt
    have re := rd.below be'
    obtain ⟨zye, cye0, cye1, cye2, cye3, cye4⟩ := ye.five
    clear be' yd pd rd zxd cxd0 cxd1 cxd2 cxd3 cxd4
    go_wp2_with fail
    refine (heldFrameR_any _ _ _ _ _ _ _ 1 _ re.rd (by omega) (by omega)).mono ?_
    rintro e wf ⟨rfl, bf⟩
    have Bf : Hid (Below w.heap.size w wf) := Be.out.trans (bf.mono Be.out.size)
    clear bf
    go_wp2
    go_ret
    exact ⟨rfl, Bf.out⟩
  · go_enter Try.func5, Try.ntmps5
    go_wp2
    go_ret
    exact ⟨rfl, Below.refl _ _⟩
end Go.Proofs.Ytkneicepflkfhaa
