/-
  The exact laws of SegmentSize, HasFlag and ResetFor, where model and program answer the same.
-/
import Derived.Test.YteaiemckcepphaaStSegment
namespace Go.Proofs.Yteaiemckcepphaa
open Go.ChangeShapes Go.WideShapes Go.ChangeAt Go.RowKit

set_option maxHeartbeats 1000000 in
theorem exactSegmentSize (jf jt js ja jg jw jm : Int) (a : Option Addr) (len cap : Nat) (zs : List Int) (w : World) (hr : Rd w a len cap zs)
    (c v : Int) (hS : ∀ (a' : Option Addr) (l' c' : Nat) (W : World), Rd W a' l' c' zs → Calls Try.prog 31 #[.agg #[.int .i64 jf, .int .i64 jt, .int .i64 js, .int .i64 ja, .int .i64 jg, .int .i64 jw, .int .i64 jm, .slice a' l' c']] W fun e w' => e = .returned (.agg #[.int .i64 c, .int .i64 v]) ∧ Below W.heap.size W w')
    (h : ∀ (a' : Option Addr) (l' c' : Nat) (W : World), Rd W a' l' c' zs → Calls Try.prog 28 #[.agg #[.int .i64 jf, .int .i64 jt, .int .i64 js, .int .i64 ja, .int .i64 jg, .int .i64 jw, .int .i64 jm, .slice a' l' c']] W fun e w' => e = .returned (.agg #[.int .i64 c, .int .i64 v]) ∧ Below W.heap.size W w') :
    Calls Try.prog 6 #[.agg #[.int .i64 jf, .int .i64 jt, .int .i64 js, .int .i64 ja, .int .i64 jg, .int .i64 jw, .int .i64 jm, .slice a len cap]] w fun e w' => e = .returned (.bool true) ∧ Below w.heap.size w w' := by
  have hm : len ≤ maxLen := Nat.le_trans hr.le hr.max
  have B0 := Lib.hid ((Below.refl w.heap.size w).alloc (Nat.le_refl _) (.cells #[.int .i64 jf, .int .i64 jt, .int .i64 js, .int .i64 ja, .int .i64 jg, .int .i64 jw, .int .i64 jm, .slice a len cap] 52))
  have A0 := Lib.hid (Box.new w 52 #[.int .i64 jf, .int .i64 jt, .int .i64 js, .int .i64 ja, .int .i64 jg, .int .i64 jw, .int .i64 jm, .slice a len cap])
  by_cases hbig : (len : Int) ≤ 1048576
  · have K := Lib.hid h
    have S := Lib.hid hS
    have T := Lib.hid (fun W (hW : Below w.heap.size w W) => toSegment_any jf jt js ja jg jw jm a len cap zs W (hr.below hW) (by omega))
    have Z := Lib.hid (fun W => szSegment_t jf jt js ja jg jw jm a len cap 1048576 W hbig (by omega))
    have hn : decide ((1048576 : Int) - len < 0) = false := decide_eq_false (by omega)
    clear h hS hr
    go_enter Try.func6, Try.ntmps6
    go_wp2_with fail
    refine (Z.out _).mono ?_
    rintro e w1 ⟨rfl, b1⟩
    have B1 := Lib.hid (B0.out.trans (b1.mono B0.out.size))
    have A1 := Lib.hid (A0.out.below b1 A0.out.lt)
    clear b1 B0 A0
    obtain ⟨zA, p0, p1, p2, p3, p4, p5, p6, p7⟩ := A1.out.eight
    go_wp2_with fail
    refine (T.out _ B1.out).mono ?_
    rintro e w2 ⟨a2, l2, c2, rfl, o2, b2⟩
    have B2 := Lib.hid (B1.out.trans (b2.mono B1.out.size))
    have A2 := Lib.hid (A1.out.below b2 A1.out.lt)
    clear b2 B1 A1 zA p0 p1 p2 p3 p4 p5 p6 p7
    go_wp2_with fail
    refine (S.out _ _ _ _ o2.rd).mono ?_
    rintro e w3' ⟨rfl, b3⟩
    have B3' := B2.out.trans (b3.mono B2.out.size)
    have B3 := Lib.hid (B3'.alloc B3'.size (.cells #[.int .i64 c, .int .i64 v] 46))
    have A3 := Lib.hid ((A2.out.below b3 A2.out.lt).alloc (.cells #[.int .i64 c, .int .i64 v] 46))
    have W3 := Lib.hid (Box.new w3' 46 #[.int .i64 c, .int .i64 v])
    clear b3 B2 A2 o2 B3'
    generalize hw3 : w3'.alloc (.cells #[.int .i64 c, .int .i64 v] 46) = w3 at *
    obtain ⟨zA, p0, p1, p2, p3, p4, p5, p6, p7⟩ := A3.out.eight
    go_wp2_with fail
    clear hw3
    refine (T.out _ B3.out).mono ?_
    rintro e w4 ⟨a4, l4, c4, rfl, o4, b4⟩
    have B4 := Lib.hid ((B3.out.trans (b4.mono B3.out.size)).alloc (Nat.le_trans B3.out.size b4.size) (.cells #[.int .i64 jf, .int .i64 jt, .int .i64 js, .int .i64 ja, .int .i64 jg, .int .i64 jw, .int .i64 jm, .slice a4 l4 c4] 25))
    have A4 := Lib.hid ((A3.out.below b4 A3.out.lt).alloc (.cells #[.int .i64 jf, .int .i64 jt, .int .i64 js, .int .i64 ja, .int .i64 jg, .int .i64 jw, .int .i64 jm, .slice a4 l4 c4] 25))
    have V4 := Lib.hid ((W3.out.below b4 W3.out.lt).alloc (.cells #[.int .i64 jf, .int .i64 jt, .int .i64 js, .int .i64 ja, .int .i64 jg, .int .i64 jw, .int .i64 jm, .slice a4 l4 c4] 25))
    have X4 := Lib.hid (Box.new w4 25 #[.int .i64 jf, .int .i64 jt, .int .i64 js, .int .i64 ja, .int .i64 jg, .int .i64 jw, .int .i64 jm, .slice a4 l4 c4])
    have O4 := Lib.hid (o4.alloc (.cells #[.int .i64 jf, .int .i64 jt, .int .i64 js, .int .i64 ja, .int .i64 jg, .int .i64 jw, .int .i64 jm, .slice a4 l4 c4] 25))
    clear b4 B3 A3 W3 o4 zA p0 p1 p2 p3 p4 p5 p6 p7
    generalize hW4 : w4.alloc (.cells #[.int .i64 jf, .int .i64 jt, .int .i64 js, .int .i64 ja, .int .i64 jg, .int .i64 jw, .int .i64 jm, .slice a4 l4 c4] 25) = W4 at *
    obtain ⟨zX, x0, x1, x2, x3, x4, x5, x6, x7⟩ := X4.out.eight
    go_wp2_with fail
    clear hW4
    refine (K.out _ _ _ _ O4.out.rd).mono ?_
    rintro e w5' ⟨rfl, b5⟩
    have B5' := B4.out.trans (b5.mono B4.out.size)
    have B5a := Lib.hid (B5'.alloc B5'.size (.cells #[.int .i64 c, .int .i64 v] 46))
    have A5a := Lib.hid ((A4.out.below b5 A4.out.lt).alloc (.cells #[.int .i64 c, .int .i64 v] 46))
    have X5a := Lib.hid ((X4.out.below b5 X4.out.lt).alloc (.cells #[.int .i64 c, .int .i64 v] 46))
    have V5a := Lib.hid ((V4.out.below b5 V4.out.lt).alloc (.cells #[.int .i64 c, .int .i64 v] 46))
    have G5a := Lib.hid (Box.new w5' 46 #[.int .i64 c, .int .i64 v])
    have O5a := Lib.hid ((O4.out.below b5).alloc (.cells #[.int .i64 c, .int .i64 v] 46))
    clear b5 B4 A4 X4 V4 O4 B5' zX x0 x1 x2 x3 x4 x5 x6 x7
    generalize hw5 : w5'.alloc (.cells #[.int .i64 c, .int .i64 v] 46) = W5 at *
    obtain ⟨zV, v0, v1⟩ := V5a.out.two
    obtain ⟨zG, g0, g1⟩ := G5a.out.two
    go_wp2_with fail
    clear hw5
    refine (eqInt_t _ _ _).mono ?_
    rintro e w5 ⟨rfl, b5⟩
    have B5 := Lib.hid (B5a.out.trans (b5.mono B5a.out.size))
    have A5 := Lib.hid (A5a.out.below b5 A5a.out.lt)
    have X5 := Lib.hid (X5a.out.below b5 X5a.out.lt)
    have O5 := Lib.hid (O5a.out.below b5)
    clear b5 B5a A5a X5a V5a G5a O5a zV v0 v1 zG g0 g1
    obtain ⟨zA, p0, p1, p2, p3, p4, p5, p6, p7⟩ := A5.out.eight
    obtain ⟨zX, x0, x1, x2, x3, x4, x5, x6, x7⟩ := X5.out.eight
    go_wp2_with fail
    go_region_held3 (fun W => W.cell? ⟨w.heap.size, 0, none⟩ = some (.int .i64 jf) ∧ W.cell? ⟨w.heap.size, 1, none⟩ = some (.int .i64 jt) ∧ W.cell? ⟨w.heap.size, 2, none⟩ = some (.int .i64 js) ∧ W.cell? ⟨w.heap.size, 3, none⟩ = some (.int .i64 ja) ∧ W.cell? ⟨w.heap.size, 4, none⟩ = some (.int .i64 jg) ∧ W.cell? ⟨w.heap.size, 5, none⟩ = some (.int .i64 jw) ∧ W.cell? ⟨w.heap.size, 6, none⟩ = some (.int .i64 jm) ∧ W.cell? ⟨w.heap.size, 7, none⟩ = some (.slice a len cap) ∧ W.cell? ⟨w4.heap.size, 0, none⟩ = some (.int .i64 jf) ∧ W.cell? ⟨w4.heap.size, 1, none⟩ = some (.int .i64 jt) ∧ W.cell? ⟨w4.heap.size, 2, none⟩ = some (.int .i64 js) ∧ W.cell? ⟨w4.heap.size, 3, none⟩ = some (.int .i64 ja) ∧ W.cell? ⟨w4.heap.size, 4, none⟩ = some (.int .i64 jg) ∧ W.cell? ⟨w4.heap.size, 5, none⟩ = some (.int .i64 jw) ∧ W.cell? ⟨w4.heap.size, 6, none⟩ = some (.int .i64 jm) ∧ W.cell? ⟨w4.heap.size, 7, none⟩ = some (.slice a4 l4 c4))
      (first | go_keep | (go_split_ands; exact ⟨keepK hb (by assumption), keepK hb (by assumption), keepK hb (by assumption), keepK hb (by assumption), keepK hb (by assumption), keepK hb (by assumption), keepK hb (by assumption), keepK hb (by assumption), keepK hb (by assumption), keepK hb (by assumption), keepK hb (by assumption), keepK hb (by assumption), keepK hb (by assumption), keepK hb (by assumption), keepK hb (by assumption), keepK hb (by assumption)⟩))
      (first
        | (go_at_call 36; refine (T.out _ B5.out.drew).mono ?_; rintro e w6 ⟨a6, l6, c6, rfl, o6, b6⟩; have hb := b6)
        | (go_at_call 37; refine (eqSegment_t _ _ _ _ _ _ _ _ _ _ _ _ _ zs _ (O5.out.drew.below b6).rd o6.rd).mono ?_; rintro e w7 ⟨rfl, b7⟩; have hb := b7))
    go_wp2
    go_ret
    exact ⟨rfl, (B5.out.drew.trans (b6.mono B5.out.drew.size)).trans (b7.mono (Nat.le_trans B5.out.drew.size b6.size))⟩
  · have Z := Lib.hid (fun W => szSegment_f jf jt js ja jg jw jm a len cap 1048576 W hbig (by omega) (by omega) hm)
    clear h hS hr
    go_enter Try.func6, Try.ntmps6
    go_wp2_with fail
    refine (Z.out _).mono ?_
    rintro e w1 ⟨rfl, b1⟩
    have B1 := Lib.hid (B0.out.trans (b1.mono B0.out.size))
    clear b1 B0 A0
    go_wp2
    go_ret
    exact ⟨rfl, B1.out⟩

set_option maxHeartbeats 1000000 in
theorem exactHasFlag (fk : Int) (jf jt js ja jg jw jm : Int) (a : Option Addr) (len cap : Nat) (zs : List Int) (w : World) (hr : Rd w a len cap zs)
    (c : Bool) (hS : ∀ (a' : Option Addr) (l' c' : Nat) (W : World), Rd W a' l' c' zs → Calls Try.prog 33 #[.agg #[.int .i64 jf, .int .i64 jt, .int .i64 js, .int .i64 ja, .int .i64 jg, .int .i64 jw, .int .i64 jm, .slice a' l' c'], .int .i64 fk] W fun e w' => e = .returned (.bool c) ∧ Below W.heap.size W w')
    (h : ∀ (a' : Option Addr) (l' c' : Nat) (W : World), Rd W a' l' c' zs → Calls Try.prog 32 #[.agg #[.int .i64 jf, .int .i64 jt, .int .i64 js, .int .i64 ja, .int .i64 jg, .int .i64 jw, .int .i64 jm, .slice a' l' c'], .int .i64 fk] W fun e w' => e = .returned (.bool c) ∧ Below W.heap.size W w') :
    Calls Try.prog 7 #[.agg #[.int .i64 jf, .int .i64 jt, .int .i64 js, .int .i64 ja, .int .i64 jg, .int .i64 jw, .int .i64 jm, .slice a len cap], .int .i64 fk] w fun e w' => e = .returned (.bool true) ∧ Below w.heap.size w w' := by
  have hm : len ≤ maxLen := Nat.le_trans hr.le hr.max
  have B0 := Lib.hid ((Below.refl w.heap.size w).alloc (Nat.le_refl _) (.cells #[.int .i64 jf, .int .i64 jt, .int .i64 js, .int .i64 ja, .int .i64 jg, .int .i64 jw, .int .i64 jm, .slice a len cap] 52))
  have A0 := Lib.hid (Box.new w 52 #[.int .i64 jf, .int .i64 jt, .int .i64 js, .int .i64 ja, .int .i64 jg, .int .i64 jw, .int .i64 jm, .slice a len cap])
  by_cases hbig : (len : Int) ≤ 1048576
  · have K := Lib.hid h
    have S := Lib.hid hS
    have T := Lib.hid (fun W (hW : Below w.heap.size w W) => toSegment_any jf jt js ja jg jw jm a len cap zs W (hr.below hW) (by omega))
    have Z := Lib.hid (fun W => szSegment_t jf jt js ja jg jw jm a len cap 1048576 W hbig (by omega))
    have hn : decide ((1048576 : Int) - len < 0) = false := decide_eq_false (by omega)
    have hne : (c != c) = false := by cases c <;> rfl
    clear h hS hr
    go_enter Try.func7, Try.ntmps7
    go_wp2_with fail
    refine (Z.out _).mono ?_
    rintro e w1 ⟨rfl, b1⟩
    have B1 := Lib.hid (B0.out.trans (b1.mono B0.out.size))
    have A1 := Lib.hid (A0.out.below b1 A0.out.lt)
    clear b1 B0 A0
    obtain ⟨zA, p0, p1, p2, p3, p4, p5, p6, p7⟩ := A1.out.eight
    go_wp2_with fail
    refine (T.out _ B1.out).mono ?_
    rintro e w2 ⟨a2, l2, c2, rfl, o2, b2⟩
    have B2 := Lib.hid (B1.out.trans (b2.mono B1.out.size))
    have A2 := Lib.hid (A1.out.below b2 A1.out.lt)
    clear b2 B1 A1 zA p0 p1 p2 p3 p4 p5 p6 p7
    go_wp2_with fail
    refine (S.out _ _ _ _ o2.rd).mono ?_
    rintro e w3 ⟨rfl, b3⟩
    have B3 := Lib.hid (B2.out.trans (b3.mono B2.out.size))
    have A3 := Lib.hid (A2.out.below b3 A2.out.lt)
    clear b3 B2 A2 o2
    obtain ⟨zA, p0, p1, p2, p3, p4, p5, p6, p7⟩ := A3.out.eight
    go_wp2_with fail
    refine (T.out _ B3.out).mono ?_
    rintro e w4 ⟨a4, l4, c4, rfl, o4, b4⟩
    have B4 := Lib.hid ((B3.out.trans (b4.mono B3.out.size)).alloc (Nat.le_trans B3.out.size b4.size) (.cells #[.int .i64 jf, .int .i64 jt, .int .i64 js, .int .i64 ja, .int .i64 jg, .int .i64 jw, .int .i64 jm, .slice a4 l4 c4] 25))
    have A4 := Lib.hid ((A3.out.below b4 A3.out.lt).alloc (.cells #[.int .i64 jf, .int .i64 jt, .int .i64 js, .int .i64 ja, .int .i64 jg, .int .i64 jw, .int .i64 jm, .slice a4 l4 c4] 25))
    have X4 := Lib.hid (Box.new w4 25 #[.int .i64 jf, .int .i64 jt, .int .i64 js, .int .i64 ja, .int .i64 jg, .int .i64 jw, .int .i64 jm, .slice a4 l4 c4])
    have O4 := Lib.hid (o4.alloc (.cells #[.int .i64 jf, .int .i64 jt, .int .i64 js, .int .i64 ja, .int .i64 jg, .int .i64 jw, .int .i64 jm, .slice a4 l4 c4] 25))
    clear b4 B3 A3 o4 zA p0 p1 p2 p3 p4 p5 p6 p7
    generalize hW4 : w4.alloc (.cells #[.int .i64 jf, .int .i64 jt, .int .i64 js, .int .i64 ja, .int .i64 jg, .int .i64 jw, .int .i64 jm, .slice a4 l4 c4] 25) = W4 at *
    obtain ⟨zX, x0, x1, x2, x3, x4, x5, x6, x7⟩ := X4.out.eight
    go_wp2_with fail
    clear hW4
    refine (K.out _ _ _ _ O4.out.rd).mono ?_
    rintro e w5 ⟨rfl, b5⟩
    have B5 := Lib.hid (B4.out.trans (b5.mono B4.out.size))
    have A5 := Lib.hid (A4.out.below b5 A4.out.lt)
    have X5 := Lib.hid (X4.out.below b5 X4.out.lt)
    have O5 := Lib.hid (O4.out.below b5)
    clear b5 B4 A4 X4 O4 zX x0 x1 x2 x3 x4 x5 x6 x7
    obtain ⟨zA, p0, p1, p2, p3, p4, p5, p6, p7⟩ := A5.out.eight
    obtain ⟨zX, x0, x1, x2, x3, x4, x5, x6, x7⟩ := X5.out.eight
    go_wp2_with fail
    go_region_held3 (fun W => W.cell? ⟨w.heap.size, 0, none⟩ = some (.int .i64 jf) ∧ W.cell? ⟨w.heap.size, 1, none⟩ = some (.int .i64 jt) ∧ W.cell? ⟨w.heap.size, 2, none⟩ = some (.int .i64 js) ∧ W.cell? ⟨w.heap.size, 3, none⟩ = some (.int .i64 ja) ∧ W.cell? ⟨w.heap.size, 4, none⟩ = some (.int .i64 jg) ∧ W.cell? ⟨w.heap.size, 5, none⟩ = some (.int .i64 jw) ∧ W.cell? ⟨w.heap.size, 6, none⟩ = some (.int .i64 jm) ∧ W.cell? ⟨w.heap.size, 7, none⟩ = some (.slice a len cap) ∧ W.cell? ⟨w4.heap.size, 0, none⟩ = some (.int .i64 jf) ∧ W.cell? ⟨w4.heap.size, 1, none⟩ = some (.int .i64 jt) ∧ W.cell? ⟨w4.heap.size, 2, none⟩ = some (.int .i64 js) ∧ W.cell? ⟨w4.heap.size, 3, none⟩ = some (.int .i64 ja) ∧ W.cell? ⟨w4.heap.size, 4, none⟩ = some (.int .i64 jg) ∧ W.cell? ⟨w4.heap.size, 5, none⟩ = some (.int .i64 jw) ∧ W.cell? ⟨w4.heap.size, 6, none⟩ = some (.int .i64 jm) ∧ W.cell? ⟨w4.heap.size, 7, none⟩ = some (.slice a4 l4 c4))
      (first | go_keep | (go_split_ands; exact ⟨keepK hb (by assumption), keepK hb (by assumption), keepK hb (by assumption), keepK hb (by assumption), keepK hb (by assumption), keepK hb (by assumption), keepK hb (by assumption), keepK hb (by assumption), keepK hb (by assumption), keepK hb (by assumption), keepK hb (by assumption), keepK hb (by assumption), keepK hb (by assumption), keepK hb (by assumption), keepK hb (by assumption), keepK hb (by assumption)⟩))
      (first
        | (go_at_call 36; refine (T.out _ B5.out.drew).mono ?_; rintro e w6 ⟨a6, l6, c6, rfl, o6, b6⟩; have hb := b6)
        | (go_at_call 37; refine (eqSegment_t _ _ _ _ _ _ _ _ _ _ _ _ _ zs _ (O5.out.drew.below b6).rd o6.rd).mono ?_; rintro e w7 ⟨rfl, b7⟩; have hb := b7))
    go_wp2
    go_ret
    exact ⟨rfl, (B5.out.drew.trans (b6.mono B5.out.drew.size)).trans (b7.mono (Nat.le_trans B5.out.drew.size b6.size))⟩
  · have Z := Lib.hid (fun W => szSegment_f jf jt js ja jg jw jm a len cap 1048576 W hbig (by omega) (by omega) hm)
    clear h hS hr
    go_enter Try.func7, Try.ntmps7
    go_wp2_with fail
    refine (Z.out _).mono ?_
    rintro e w1 ⟨rfl, b1⟩
    have B1 := Lib.hid (B0.out.trans (b1.mono B0.out.size))
    clear b1 B0 A0
    go_wp2
    go_ret
    exact ⟨rfl, B1.out⟩

set_option maxHeartbeats 4000000 in
theorem exactResetFor (jf jt js ja jg jw jm : Int) (a : Option Addr) (len cap : Nat) (zs : List Int) (w : World) (hr : Rd w a len cap zs)
    (c : Int) (qf qt qs qa qg qw qm : Int) (ys : List Int) (hyl : ys.length ≤ 700) (hS : ∀ (a' : Option Addr) (l' c' : Nat) (W : World), Rd W a' l' c' zs → Calls Try.prog 30 #[.agg #[.int .i64 jf, .int .i64 jt, .int .i64 js, .int .i64 ja, .int .i64 jg, .int .i64 jw, .int .i64 jm, .slice a' l' c']] W (SegmentRes W c qf qt qs qa qg qw qm ys))
    (h : ∀ (a' : Option Addr) (l' c' : Nat) (W : World), Rd W a' l' c' zs → Calls Try.prog 27 #[.agg #[.int .i64 jf, .int .i64 jt, .int .i64 js, .int .i64 ja, .int .i64 jg, .int .i64 jw, .int .i64 jm, .slice a' l' c']] W (SegmentRes W c qf qt qs qa qg qw qm ys)) :
    Calls Try.prog 10 #[.agg #[.int .i64 jf, .int .i64 jt, .int .i64 js, .int .i64 ja, .int .i64 jg, .int .i64 jw, .int .i64 jm, .slice a len cap]] w fun e w' => e = .returned (.bool true) ∧ Below w.heap.size w w' := by
  have hm : len ≤ maxLen := Nat.le_trans hr.le hr.max
  have B0 := Lib.hid ((Below.refl w.heap.size w).alloc (Nat.le_refl _) (.cells #[.int .i64 jf, .int .i64 jt, .int .i64 js, .int .i64 ja, .int .i64 jg, .int .i64 jw, .int .i64 jm, .slice a len cap] 52))
  have A0 := Lib.hid (Box.new w 52 #[.int .i64 jf, .int .i64 jt, .int .i64 js, .int .i64 ja, .int .i64 jg, .int .i64 jw, .int .i64 jm, .slice a len cap])
  by_cases hbig : (len : Int) ≤ 1048576
  · have K := Lib.hid h
    have S := Lib.hid hS
    have T := Lib.hid (fun W (hW : Below w.heap.size w W) => toSegment_any jf jt js ja jg jw jm a len cap zs W (hr.below hW) (by omega))
    have Z := Lib.hid (fun W => szSegment_t jf jt js ja jg jw jm a len cap 1048576 W hbig (by omega))
    have hn : decide ((1048576 : Int) - len < 0) = false := decide_eq_false (by omega)
    have HZ := Lib.hid hr.length
    clear h hS hr
    go_enter Try.func10, Try.ntmps10
    go_wp2_with fail
    refine (Z.out _).mono ?_
    rintro e w1 ⟨rfl, b1⟩
    have A1 := Lib.hid (A0.out.below b1 A0.out.lt)
    have B1 := Lib.hid (B0.out.trans (b1.mono B0.out.size))
    clear b1 A0 B0
    obtain ⟨pz, p0, p1, p2, p3, p4, p5, p6, p7⟩ := A1.out.eight
    go_wp2_with fail
    refine (T.out _ B1.out).mono ?_
    rintro e w2 ⟨a2, l2, c2, rfl, o2, b2⟩
    clear pz p0 p1 p2 p3 p4 p5 p6 p7
    have A2 := Lib.hid (A1.out.below b2 A1.out.lt)
    have B2 := Lib.hid (B1.out.trans (b2.mono B1.out.size))
    clear b2 A1 B1
    go_wp2_with fail
    refine (S.out _ _ _ _ o2.rd).mono ?_
    rintro e w3 ⟨a3, l3, c3, rfl, o3, b3⟩
    have A3 := Lib.hid ((A2.out.below b3 A2.out.lt).alloc (.cells #[.int .i64 c, .int .i64 qf, .int .i64 qt, .int .i64 qs, .int .i64 qa, .int .i64 qg, .int .i64 qw, .int .i64 qm, .slice a3 l3 c3] 34))
    have B3 := Lib.hid ((B2.out.trans (b3.mono B2.out.size)).alloc (Nat.le_trans B2.out.size b3.size) (.cells #[.int .i64 c, .int .i64 qf, .int .i64 qt, .int .i64 qs, .int .i64 qa, .int .i64 qg, .int .i64 qw, .int .i64 qm, .slice a3 l3 c3] 34))
    have X3 := Lib.hid (Box.new w3 34 #[.int .i64 c, .int .i64 qf, .int .i64 qt, .int .i64 qs, .int .i64 qa, .int .i64 qg, .int .i64 qw, .int .i64 qm, .slice a3 l3 c3])
    have O3 := Lib.hid (o3.alloc (.cells #[.int .i64 c, .int .i64 qf, .int .i64 qt, .int .i64 qs, .int .i64 qa, .int .i64 qg, .int .i64 qw, .int .i64 qm, .slice a3 l3 c3] 34))
    clear b3 o2 o3 A2 B2
    generalize hW : w3.alloc (.cells #[.int .i64 c, .int .i64 qf, .int .i64 qt, .int .i64 qs, .int .i64 qa, .int .i64 qg, .int .i64 qw, .int .i64 qm, .slice a3 l3 c3] 34) = W3 at *
    obtain ⟨pz, p0, p1, p2, p3, p4, p5, p6, p7⟩ := A3.out.eight
    go_wp2_with fail
    clear hW
    refine (T.out _ B3.out).mono ?_
    rintro e w4 ⟨a4, l4, c4, rfl, o4, b4⟩
    have hl4 : l4 ≤ 1048576 := by have := o4.length; have := HZ.out; omega
    clear pz p0 p1 p2 p3 p4 p5 p6 p7
    have NA := Lib.hid (ne_block o4 w.heap.size (.inl A3.out.lt))
    have NX := Lib.hid (ne_block o4 w3.heap.size (.inl X3.out.lt))
    have NO := Lib.hid (ne_of_lt_own O3.out o4 (Nat.le_refl _))
    have NY := Lib.hid (ne_block o4 w4.heap.size (.inr (Nat.le_refl _)))
    have NB := Lib.hid (own_rows o4 w.heap.size B3.out.size)
    have N4 := Lib.hid o4
    have A4 := Lib.hid ((A3.out.below b4 A3.out.lt).alloc (.cells #[.int .i64 jf, .int .i64 jt, .int .i64 js, .int .i64 ja, .int .i64 jg, .int .i64 jw, .int .i64 jm, .slice a4 l4 c4] 25))
    have B4 := Lib.hid ((B3.out.trans (b4.mono B3.out.size)).alloc (Nat.le_trans B3.out.size b4.size) (.cells #[.int .i64 jf, .int .i64 jt, .int .i64 js, .int .i64 ja, .int .i64 jg, .int .i64 jw, .int .i64 jm, .slice a4 l4 c4] 25))
    have X4 := Lib.hid ((X3.out.below b4 X3.out.lt).alloc (.cells #[.int .i64 jf, .int .i64 jt, .int .i64 js, .int .i64 ja, .int .i64 jg, .int .i64 jw, .int .i64 jm, .slice a4 l4 c4] 25))
    have O4 := Lib.hid ((O3.out.below b4).alloc (.cells #[.int .i64 jf, .int .i64 jt, .int .i64 js, .int .i64 ja, .int .i64 jg, .int .i64 jw, .int .i64 jm, .slice a4 l4 c4] 25))
    have Y4 := Lib.hid (Box.new w4 25 #[.int .i64 jf, .int .i64 jt, .int .i64 js, .int .i64 ja, .int .i64 jg, .int .i64 jw, .int .i64 jm, .slice a4 l4 c4])
    have Q4 := Lib.hid (o4.alloc (.cells #[.int .i64 jf, .int .i64 jt, .int .i64 js, .int .i64 ja, .int .i64 jg, .int .i64 jw, .int .i64 jm, .slice a4 l4 c4] 25))
    have s4 : w4.heap.size ≤ (w4.alloc (.cells #[.int .i64 jf, .int .i64 jt, .int .i64 js, .int .i64 ja, .int .i64 jg, .int .i64 jw, .int .i64 jm, .slice a4 l4 c4] 25)).heap.size := by simp
    clear b4 o4 A3 B3 X3 O3
    generalize hW : w4.alloc (.cells #[.int .i64 jf, .int .i64 jt, .int .i64 js, .int .i64 ja, .int .i64 jg, .int .i64 jw, .int .i64 jm, .slice a4 l4 c4] 25) = W4 at *
    obtain ⟨xz, x0, x1, x2, x3, x4, x5, x6, x7⟩ := Y4.out.eight
    go_wp2_with fail
    clear hW
    refine (K.out _ _ _ _ Q4.out.rd).mono ?_
    rintro e w5 ⟨a5, l5, c5, rfl, o5, b5⟩
    have hl5 : l5 ≤ 700 := by rw [← o5.length]; exact hyl
    clear xz x0 x1 x2 x3 x4 x5 x6 x7
    have MA := Lib.hid (ne_block o5 w.heap.size (.inl A4.out.lt))
    have MX := Lib.hid (ne_block o5 w3.heap.size (.inl X4.out.lt))
    have MO := Lib.hid (ne_of_lt_own O4.out o5 (Nat.le_refl _))
    have MY := Lib.hid (ne_block o5 w4.heap.size (.inl Y4.out.lt))
    have MQ := Lib.hid (ne_of_lt_own Q4.out o5 (Nat.le_refl _))
    have MG := Lib.hid (ne_block o5 w5.heap.size (.inr (Nat.le_refl _)))
    have MB := Lib.hid (own_rows o5 w.heap.size B4.out.size)
    have NP := Lib.hid (ne_of_gt_own o5 N4.out s4)
    have NG := Lib.hid (ne_block N4.out w5.heap.size (.inr (Nat.le_trans s4 b5.size)))
    have A5 := Lib.hid ((A4.out.below b5 A4.out.lt).alloc (.cells #[.int .i64 c, .int .i64 qf, .int .i64 qt, .int .i64 qs, .int .i64 qa, .int .i64 qg, .int .i64 qw, .int .i64 qm, .slice a5 l5 c5] 34))
    have B5 := Lib.hid ((B4.out.trans (b5.mono B4.out.size)).alloc (Nat.le_trans B4.out.size b5.size) (.cells #[.int .i64 c, .int .i64 qf, .int .i64 qt, .int .i64 qs, .int .i64 qa, .int .i64 qg, .int .i64 qw, .int .i64 qm, .slice a5 l5 c5] 34))
    have X5 := Lib.hid ((X4.out.below b5 X4.out.lt).alloc (.cells #[.int .i64 c, .int .i64 qf, .int .i64 qt, .int .i64 qs, .int .i64 qa, .int .i64 qg, .int .i64 qw, .int .i64 qm, .slice a5 l5 c5] 34))
    have O5 := Lib.hid ((O4.out.below b5).alloc (.cells #[.int .i64 c, .int .i64 qf, .int .i64 qt, .int .i64 qs, .int .i64 qa, .int .i64 qg, .int .i64 qw, .int .i64 qm, .slice a5 l5 c5] 34))
    have Y5 := Lib.hid ((Y4.out.below b5 Y4.out.lt).alloc (.cells #[.int .i64 c, .int .i64 qf, .int .i64 qt, .int .i64 qs, .int .i64 qa, .int .i64 qg, .int .i64 qw, .int .i64 qm, .slice a5 l5 c5] 34))
    have Q5 := Lib.hid ((Q4.out.below b5).alloc (.cells #[.int .i64 c, .int .i64 qf, .int .i64 qt, .int .i64 qs, .int .i64 qa, .int .i64 qg, .int .i64 qw, .int .i64 qm, .slice a5 l5 c5] 34))
    have G5 := Lib.hid (Box.new w5 34 #[.int .i64 c, .int .i64 qf, .int .i64 qt, .int .i64 qs, .int .i64 qa, .int .i64 qg, .int .i64 qw, .int .i64 qm, .slice a5 l5 c5])
    have P5 := Lib.hid (o5.alloc (.cells #[.int .i64 c, .int .i64 qf, .int .i64 qt, .int .i64 qs, .int .i64 qa, .int .i64 qg, .int .i64 qw, .int .i64 qm, .slice a5 l5 c5] 34))
    clear b5 o5 N4 s4 A4 B4 X4 O4 Y4 Q4
    generalize hW : w5.alloc (.cells #[.int .i64 c, .int .i64 qf, .int .i64 qt, .int .i64 qs, .int .i64 qa, .int .i64 qg, .int .i64 qw, .int .i64 qm, .slice a5 l5 c5] 34) = W5 at *
    obtain ⟨gz, g0, g1, g2, g3, g4, g5, g6, g7, g8⟩ := G5.out.nine
    obtain ⟨xz, x0, x1, x2, x3, x4, x5, x6, x7, x8⟩ := X5.out.nine
    go_wp2_with fail
    clear hW
    refine (eqSegmentR_any _ _ _ _ _ _ _ _ _ _ _ _ _ _ ys _ P5.out.rd O5.out.rd).mono ?_
    rintro e w6 ⟨rfl, b6⟩
    clear gz g0 g1 g2 g3 g4 g5 g6 g7 g8 xz x0 x1 x2 x3 x4 x5 x6 x7 x8
    have A6 := Lib.hid (A5.out.below b6 A5.out.lt)
    have B6 := Lib.hid (B5.out.trans (b6.mono B5.out.size))
    have X6 := Lib.hid (X5.out.below b6 X5.out.lt)
    have O6 := Lib.hid (O5.out.below b6)
    have Y6 := Lib.hid (Y5.out.below b6 Y5.out.lt)
    have Q6 := Lib.hid (Q5.out.below b6)
    have G6 := Lib.hid (G5.out.below b6 G5.out.lt)
    have P6 := Lib.hid (P5.out.below b6)
    clear b6 A5 B5 X5 O5 Y5 Q5 G5 P5
    obtain ⟨pz, p0, p1, p2, p3, p4, p5, p6, p7⟩ := A6.out.eight
    obtain ⟨xz, x0, x1, x2, x3, x4, x5, x6, x7⟩ := Y6.out.eight
    go_wp2_with fail
    go_region_held3 (fun W => W.cell? ⟨w.heap.size, 0, none⟩ = some (.int .i64 jf) ∧ W.cell? ⟨w.heap.size, 1, none⟩ = some (.int .i64 jt) ∧ W.cell? ⟨w.heap.size, 2, none⟩ = some (.int .i64 js) ∧ W.cell? ⟨w.heap.size, 3, none⟩ = some (.int .i64 ja) ∧ W.cell? ⟨w.heap.size, 4, none⟩ = some (.int .i64 jg) ∧ W.cell? ⟨w.heap.size, 5, none⟩ = some (.int .i64 jw) ∧ W.cell? ⟨w.heap.size, 6, none⟩ = some (.int .i64 jm) ∧ W.cell? ⟨w.heap.size, 7, none⟩ = some (.slice a len cap) ∧ W.cell? ⟨w4.heap.size, 0, none⟩ = some (.int .i64 jf) ∧ W.cell? ⟨w4.heap.size, 1, none⟩ = some (.int .i64 jt) ∧ W.cell? ⟨w4.heap.size, 2, none⟩ = some (.int .i64 js) ∧ W.cell? ⟨w4.heap.size, 3, none⟩ = some (.int .i64 ja) ∧ W.cell? ⟨w4.heap.size, 4, none⟩ = some (.int .i64 jg) ∧ W.cell? ⟨w4.heap.size, 5, none⟩ = some (.int .i64 jw) ∧ W.cell? ⟨w4.heap.size, 6, none⟩ = some (.int .i64 jm) ∧ W.cell? ⟨w4.heap.size, 7, none⟩ = some (.slice a4 l4 c4))
      (first | go_keep | (go_split_ands; exact ⟨keepK hb (by assumption), keepK hb (by assumption), keepK hb (by assumption), keepK hb (by assumption), keepK hb (by assumption), keepK hb (by assumption), keepK hb (by assumption), keepK hb (by assumption), keepK hb (by assumption), keepK hb (by assumption), keepK hb (by assumption), keepK hb (by assumption), keepK hb (by assumption), keepK hb (by assumption), keepK hb (by assumption), keepK hb (by assumption)⟩))
      (first
        | (go_at_call 36; refine (T.out _ B6.out.drew).mono ?_; rintro e w7 ⟨a7, l7, c7, rfl, o7, b7⟩; have hb := b7)
        | (go_at_call 37; refine (eqSegment_t _ _ _ _ _ _ _ _ _ _ _ _ _ zs _ (Q6.out.drew.below b7).rd o7.rd).mono ?_; rintro e w8 ⟨rfl, b8⟩; have hb := b8))
    have b68 : Below w6.drew.heap.size w6.drew w8 := b7.trans (b8.mono b7.size)
    clear hb o7 b7 b8 pz p0 p1 p2 p3 p4 p5 p6 p7 xz x0 x1 x2 x3 x4 x5 x6 x7
    have A8 := Lib.hid ((A6.out.drewB).below b68 A6.out.drewB.lt)
    have B8 := Lib.hid (B6.out.drew.trans (b68.mono B6.out.drew.size))
    have X8 := Lib.hid ((X6.out.drewB).below b68 X6.out.drewB.lt)
    have O8 := Lib.hid (O6.out.drew.below b68)
    have Y8 := Lib.hid ((Y6.out.drewB).below b68 Y6.out.drewB.lt)
    have Q8 := Lib.hid (Q6.out.drew.below b68)
    have G8 := Lib.hid ((G6.out.drewB).below b68 G6.out.drewB.lt)
    have P8 := Lib.hid (P6.out.drew.below b68)
    clear b68 A6 B6 X6 O6 Y6 Q6 G6 P6
    obtain ⟨xz, x0, x1, x2, x3, x4, x5, x6, x7⟩ := Y8.out.eight
    go_wp2_with fail
    refine (markSegment_any _ _ _ _ _ _ _ _ _ _ _ 1 _ _ Q8.out (by omega) (by omega)).mono ?_
    rintro e w9 ⟨rfl, q9, g9⟩
    clear xz x0 x1 x2 x3 x4 x5 x6 x7
    have A9 := Lib.hid (A8.out.grown g9 NA.out)
    have B9 := Lib.hid (B8.out.grown g9 B8.out.size NB.out)
    have X9 := Lib.hid (X8.out.grown g9 NX.out)
    have O9 := Lib.hid (O8.out.grown g9 NO.out)
    have Y9 := Lib.hid (Y8.out.grown g9 NY.out)
    have Q9 := Lib.hid q9
    have G9 := Lib.hid (G8.out.grown g9 NG.out)
    have P9 := Lib.hid (P8.out.grown g9 NP.out)
    clear g9 q9 NA NX NO NY NG NP NB A8 B8 X8 O8 Y8 Q8 G8 P8
    have hk4 : ¬ ((1 + l4 : Nat) : Int) < 0 := by omega
    have hk4d : decide (((1 + l4 : Nat) : Int) < 0) = false := decide_eq_false hk4
    obtain ⟨gz, g0, g1, g2, g3, g4, g5, g6, g7, g8⟩ := G9.out.nine
    obtain ⟨xz, x0, x1, x2, x3, x4, x5, x6, x7, x8⟩ := X9.out.nine
    go_wp2_with fail
    refine (eqSegmentR_any _ _ _ _ _ _ _ _ _ _ _ _ _ _ ys _ P9.out.rd O9.out.rd).mono ?_
    rintro e w10 ⟨rfl, b10⟩
    clear gz g0 g1 g2 g3 g4 g5 g6 g7 g8 xz x0 x1 x2 x3 x4 x5 x6 x7 x8 Q9 Y9
    have A10 := Lib.hid (A9.out.below b10 A9.out.lt)
    have B10 := Lib.hid (B9.out.trans (b10.mono B9.out.size))
    have X10 := Lib.hid (X9.out.below b10 X9.out.lt)
    have O10 := Lib.hid (O9.out.below b10)
    have G10 := Lib.hid (G9.out.below b10 G9.out.lt)
    have P10 := Lib.hid (P9.out.below b10)
    clear b10 A9 B9 X9 O9 G9 P9
    obtain ⟨gz, g0, g1, g2, g3, g4, g5, g6, g7, g8⟩ := G10.out.nine
    go_wp2_with fail
    refine (markSegmentR_any _ _ _ _ _ _ _ _ _ _ _ _ 1 _ _ P10.out (by omega) (by omega)).mono ?_
    rintro e w11 ⟨rfl, q11, g11⟩
    clear gz g0 g1 g2 g3 g4 g5 g6 g7 g8
    have A11 := Lib.hid (A10.out.grown g11 MA.out)
    have B11 := Lib.hid (B10.out.grown g11 B10.out.size MB.out)
    have X11 := Lib.hid (X10.out.grown g11 MX.out)
    have O11 := Lib.hid (O10.out.grown g11 MO.out)
    have G11 := Lib.hid (G10.out.grown g11 MG.out)
    have P11 := Lib.hid q11
    clear g11 q11 MA MX MO MY MQ MG MB A10 B10 X10 O10 G10 P10
    obtain ⟨gz, g0, g1, g2, g3, g4, g5, g6, g7, g8⟩ := G11.out.nine
    go_wp2_with fail
    refine (heldSegmentR_any _ _ _ _ _ _ _ _ _ _ _ 1 _ P11.out.rd (by omega) (by omega)).mono ?_
    rintro e w12 ⟨rfl, b12⟩
    clear gz g0 g1 g2 g3 g4 g5 g6 g7 g8
    have A12 := Lib.hid (A11.out.below b12 A11.out.lt)
    have B12 := Lib.hid (B11.out.trans (b12.mono B11.out.size))
    have X12 := Lib.hid (X11.out.below b12 X11.out.lt)
    have O12 := Lib.hid (O11.out.below b12)
    have G12 := Lib.hid (G11.out.below b12 G11.out.lt)
    have P12 := Lib.hid (P11.out.below b12)
    clear b12 A11 B11 X11 O11 G11 P11
    have hn5 : ¬ ((1 + l5 : Nat) : Int) < 0 := by omega
    have hne5 : (((1 + l5 : Nat) : Int) != ((1 + l5 : Nat) : Int)) = false := by simp
    obtain ⟨pz, p0, p1, p2, p3, p4, p5, p6, p7⟩ := A12.out.eight
    go_wp2_with fail
    refine (T.out _ B12.out).mono ?_
    rintro e w13 ⟨a13, l13, c13, rfl, o13, b13⟩
    clear pz p0 p1 p2 p3 p4 p5 p6 p7 A12
    have B13 := Lib.hid (B12.out.trans (b13.mono B12.out.size))
    have X13 := Lib.hid (X12.out.below b13 X12.out.lt)
    have O13 := Lib.hid (O12.out.below b13)
    have G13 := Lib.hid (G12.out.below b13 G12.out.lt)
    have P13 := Lib.hid (P12.out.below b13)
    clear b13 B12 X12 O12 G12 P12
    go_wp2_with fail
    refine (K.out _ _ _ _ o13.rd).mono ?_
    rintro e w14 ⟨a14, l14, c14, rfl, o14, b14⟩
    have B14 := Lib.hid ((B13.out.trans (b14.mono B13.out.size)).alloc (Nat.le_trans B13.out.size b14.size) (.cells #[.int .i64 c, .int .i64 qf, .int .i64 qt, .int .i64 qs, .int .i64 qa, .int .i64 qg, .int .i64 qw, .int .i64 qm, .slice a14 l14 c14] 34))
    have X14 := Lib.hid ((X13.out.below b14 X13.out.lt).alloc (.cells #[.int .i64 c, .int .i64 qf, .int .i64 qt, .int .i64 qs, .int .i64 qa, .int .i64 qg, .int .i64 qw, .int .i64 qm, .slice a14 l14 c14] 34))
    have O14 := Lib.hid ((O13.out.below b14).alloc (.cells #[.int .i64 c, .int .i64 qf, .int .i64 qt, .int .i64 qs, .int .i64 qa, .int .i64 qg, .int .i64 qw, .int .i64 qm, .slice a14 l14 c14] 34))
    have G14 := Lib.hid ((G13.out.below b14 G13.out.lt).alloc (.cells #[.int .i64 c, .int .i64 qf, .int .i64 qt, .int .i64 qs, .int .i64 qa, .int .i64 qg, .int .i64 qw, .int .i64 qm, .slice a14 l14 c14] 34))
    have P14 := Lib.hid ((P13.out.below b14).alloc (.cells #[.int .i64 c, .int .i64 qf, .int .i64 qt, .int .i64 qs, .int .i64 qa, .int .i64 qg, .int .i64 qw, .int .i64 qm, .slice a14 l14 c14] 34))
    have H14 := Lib.hid (Box.new w14 34 #[.int .i64 c, .int .i64 qf, .int .i64 qt, .int .i64 qs, .int .i64 qa, .int .i64 qg, .int .i64 qw, .int .i64 qm, .slice a14 l14 c14])
    have R14 := Lib.hid (o14.alloc (.cells #[.int .i64 c, .int .i64 qf, .int .i64 qt, .int .i64 qs, .int .i64 qa, .int .i64 qg, .int .i64 qw, .int .i64 qm, .slice a14 l14 c14] 34))
    clear b14 o13 o14 B13 X13 O13 G13 P13
    generalize hW : w14.alloc (.cells #[.int .i64 c, .int .i64 qf, .int .i64 qt, .int .i64 qs, .int .i64 qa, .int .i64 qg, .int .i64 qw, .int .i64 qm, .slice a14 l14 c14] 34) = W14 at *
    obtain ⟨gz, g0, g1, g2, g3, g4, g5, g6, g7, g8⟩ := H14.out.nine
    obtain ⟨xz, x0, x1, x2, x3, x4, x5, x6, x7, x8⟩ := X14.out.nine
    go_wp2_with fail
    clear hW
    refine (eqSegmentR_any _ _ _ _ _ _ _ _ _ _ _ _ _ _ ys _ R14.out.rd O14.out.rd).mono ?_
    rintro e w15 ⟨rfl, b15⟩
    clear gz g0 g1 g2 g3 g4 g5 g6 g7 g8 xz x0 x1 x2 x3 x4 x5 x6 x7 x8 H14 R14 X14 O14
    have B15 := Lib.hid (B14.out.trans (b15.mono B14.out.size))
    have G15 := Lib.hid (G14.out.below b15 G14.out.lt)
    have P15 := Lib.hid (P14.out.below b15)
    clear b15 B14 G14 P14
    obtain ⟨gz, g0, g1, g2, g3, g4, g5, g6, g7, g8⟩ := G15.out.nine
    go_wp2_with fail
    refine (heldSegmentR_any _ _ _ _ _ _ _ _ _ _ _ 1 _ P15.out.rd (by omega) (by omega)).mono ?_
    rintro e w16 ⟨rfl, b16⟩
    clear gz g0 g1 g2 g3 g4 g5 g6 g7 g8 P15 G15
    have B16 := Lib.hid (B15.out.trans (b16.mono B15.out.size))
    clear b16 B15
    go_wp2
    go_ret
    exact ⟨rfl, B16.out⟩
  · have Z := Lib.hid (fun W => szSegment_f jf jt js ja jg jw jm a len cap 1048576 W hbig (by omega) (by omega) hm)
    clear h hS hr
    go_enter Try.func10, Try.ntmps10
    go_wp2_with fail
    refine (Z.out _).mono ?_
    rintro e w1 ⟨rfl, b1⟩
    have B1 := Lib.hid (B0.out.trans (b1.mono B0.out.size))
    clear b1 B0 A0
    go_wp2
    go_ret
    exact ⟨rfl, B1.out⟩

end Go.Proofs.Yteaiemckcepphaa
