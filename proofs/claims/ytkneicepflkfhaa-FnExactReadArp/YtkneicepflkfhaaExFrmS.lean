/-
  The law FnExactSameFrames returns true, where the program's SameFrames answers as the model's does.
-/
import Derived.Test.YtkneicepflkfhaaFrmS
import Derived.Test.YtkneicepflkfhaaExFrmP
namespace Go.Proofs.Ytkneicepflkfhaa
open Go.ChangeShapes Go.WideShapes Go.ChangeAt Go.RowKit

set_option maxHeartbeats 4000000 in
theorem exactSame (to fr kd : Int) (a : Option Addr) (len cap : Nat) (zs : List Int) (to' fr' kd' : Int) (a' : Option Addr) (len' cap' : Nat) (zs' : List Int) (w : World) (hr : Rd w a len cap zs) (hr' : Rd w a' len' cap' zs')
    (h : ∀ (b : Option Addr) (l c : Nat) (b' : Option Addr) (l' c' : Nat) (W : World), Rd W b l c zs → Rd W b' l' c' zs' → Calls Try.prog 38 #[.agg #[.int .i64 to, .int .i64 fr, .int .i64 kd, .slice b l c], .agg #[.int .i64 to', .int .i64 fr', .int .i64 kd', .slice b' l' c']] W fun e w' => e = .returned (.bool (sameB to fr kd zs to' fr' kd' zs')) ∧ Below W.heap.size W w') :
    Calls Try.prog 9 #[.agg #[.int .i64 to, .int .i64 fr, .int .i64 kd, .slice a len cap], .agg #[.int .i64 to', .int .i64 fr', .int .i64 kd', .slice a' len' cap']] w fun e w' => e = .returned (.bool true) ∧ Below w.heap.size w w' := by
  have hm : len ≤ maxLen := Nat.le_trans hr.le hr.max
  have hm' : len' ≤ maxLen := Nat.le_trans hr'.le hr'.max
  have B0 := Lib.hid (((Below.refl w.heap.size w).alloc (Nat.le_refl _) (.cells #[.int .i64 to, .int .i64 fr, .int .i64 kd, .slice a len cap] 24)).alloc (by simp) (.cells #[.int .i64 to', .int .i64 fr', .int .i64 kd', .slice a' len' cap'] 24))
  have A0 := Lib.hid ((Box.new w 24 #[.int .i64 to, .int .i64 fr, .int .i64 kd, .slice a len cap]).alloc (.cells #[.int .i64 to', .int .i64 fr', .int .i64 kd', .slice a' len' cap'] 24))
  have D0 : Hid (Box ((w.alloc (.cells #[.int .i64 to, .int .i64 fr, .int .i64 kd, .slice a len cap] 24)).alloc (.cells #[.int .i64 to', .int .i64 fr', .int .i64 kd', .slice a' len' cap'] 24)) (w.heap.size + 1) 24 #[.int .i64 to', .int .i64 fr', .int .i64 kd', .slice a' len' cap']) := by
    have := Box.new (w.alloc (.cells #[.int .i64 to, .int .i64 fr, .int .i64 kd, .slice a len cap] 24)) 24 #[.int .i64 to', .int .i64 fr', .int .i64 kd', .slice a' len' cap']
    simp only [World.size_alloc] at this
    exact this
  by_cases hbig : (len : Int) ≤ 1048576
  · have Z := Lib.hid (fun W => szFrame_t to fr kd a len cap 1048576 W hbig (by omega))
    have hn : decide ((1048576 : Int) - len < 0) = false := decide_eq_false (by omega)
    by_cases hbig' : (len' : Int) ≤ 1048576 - len
    · have Z' := Lib.hid (fun W => szFrame_t to' fr' kd' a' len' cap' (1048576 - len) W hbig' (by omega))
      have hn' : decide ((1048576 : Int) - len - len' < 0) = false := decide_eq_false (by omega)
      have K := Lib.hid h
      have S := Lib.hid (fun (b : Option Addr) (l c : Nat) (b' : Option Addr) (l' c' : Nat) (W : World) (h1 : Rd W b l c zs) (h2 : Rd W b' l' c' zs') => specSame to fr kd b l c zs to' fr' kd' b' l' c' zs' W h1 h2)
      have T := Lib.hid (fun W (hW : Below w.heap.size w W) => toFrame_any to fr kd a len cap zs W (hr.below hW) (by omega))
      have T' := Lib.hid (fun W (hW : Below w.heap.size w W) => toFrame_any to' fr' kd' a' len' cap' zs' W (hr'.below hW) (by omega))
      generalize sameB to fr kd zs to' fr' kd' zs' = v at *
      have hne : (v != v) = false := by cases v <;> rfl
      clear h hr hr'
      go_enter Try.func9, Try.ntmps9
      go_wp2_with fail
      refine (Z.out _).mono ?_
      rintro e w1 ⟨rfl, b1⟩
      have A1 := Lib.hid (A0.out.below b1 A0.out.lt)
      have D1 := Lib.hid (D0.out.below b1 D0.out.lt)
      have B1 := Lib.hid (B0.out.trans (b1.mono B0.out.size))
      clear b1 A0 D0 B0
      obtain ⟨qz, q0, q1, q2, q3⟩ := D1.out.four
      go_wp2_with fail
      refine (Z'.out _).mono ?_
      rintro e w2 ⟨rfl, b2⟩
      clear qz q0 q1 q2 q3
      have A2 := Lib.hid (A1.out.below b2 A1.out.lt)
      have D2 := Lib.hid (D1.out.below b2 D1.out.lt)
      have B2 := Lib.hid (B1.out.trans (b2.mono B1.out.size))
      clear b2 A1 D1 B1
      obtain ⟨pz, p0, p1, p2, p3⟩ := A2.out.four
      obtain ⟨qz, q0, q1, q2, q3⟩ := D2.out.four
      go_wp2_with fail
      go_region_held3 (fun W => W.cell? ⟨w.heap.size, 0, none⟩ = some (.int .i64 to) ∧ W.cell? ⟨w.heap.size, 1, none⟩ = some (.int .i64 fr) ∧ W.cell? ⟨w.heap.size, 2, none⟩ = some (.int .i64 kd) ∧ W.cell? ⟨w.heap.size, 3, none⟩ = some (.slice a len cap) ∧ W.cell? ⟨w.heap.size + 1, 0, none⟩ = some (.int .i64 to') ∧ W.cell? ⟨w.heap.size + 1, 1, none⟩ = some (.int .i64 fr') ∧ W.cell? ⟨w.heap.size + 1, 2, none⟩ = some (.int .i64 kd') ∧ W.cell? ⟨w.heap.size + 1, 3, none⟩ = some (.slice a' len' cap'))
        (first | go_keep | (go_split_ands; exact ⟨keepK hb (by assumption), keepK hb (by assumption), keepK hb (by assumption), keepK hb (by assumption), keepK hb (by assumption), keepK hb (by assumption), keepK hb (by assumption), keepK hb (by assumption)⟩))
        (first
          | (have q := R4; clear q; go_at_call 37; refine (S.out _ _ _ _ _ _ _ (o3.below b4).rd o4.rd).mono ?_; rintro e w5 ⟨rfl, b5⟩; have hb := b5)
          | (have q := R3; clear q; go_at_call 12; refine (T'.out _ (B2.out.drew.trans (b3.mono B2.out.drew.size))).mono ?_; rintro e w4 ⟨a4, l4, c4, rfl, o4, b4⟩; have hb := b4; have R4 : Hid True := trivial)
          | (go_at_call 12; refine (T.out _ B2.out.drew).mono ?_; rintro e w3 ⟨a3, l3, c3, rfl, o3, b3⟩; have hb := b3; have R3 : Hid True := trivial))
      have b25 : Below w2.drew.heap.size w2.drew w5 := (b3.trans (b4.mono b3.size)).trans (b5.mono (Nat.le_trans b3.size b4.size))
      clear hb o3 b3 o4 b4 b5 R3 R4 pz p0 p1 p2 p3 qz q0 q1 q2 q3
      have A5 := Lib.hid ((A2.out.drewB).below b25 A2.out.drewB.lt)
      have D5 := Lib.hid ((D2.out.drewB).below b25 D2.out.drewB.lt)
      have B5 := Lib.hid (B2.out.drew.trans (b25.mono B2.out.drew.size))
      clear b25 A2 D2 B2
      obtain ⟨pz, p0, p1, p2, p3⟩ := A5.out.four
      go_wp2_with fail
      refine (T.out _ B5.out).mono ?_
      rintro e w6 ⟨a6, l6, c6, rfl, o6, b6⟩
      clear pz p0 p1 p2 p3
      have A6 := Lib.hid ((A5.out.below b6 A5.out.lt).alloc (.cells #[.int .i64 to, .int .i64 fr, .int .i64 kd, .slice a6 l6 c6] 27))
      have D6 := Lib.hid ((D5.out.below b6 D5.out.lt).alloc (.cells #[.int .i64 to, .int .i64 fr, .int .i64 kd, .slice a6 l6 c6] 27))
      have B6 := Lib.hid ((B5.out.trans (b6.mono B5.out.size)).alloc (Nat.le_trans B5.out.size b6.size) (.cells #[.int .i64 to, .int .i64 fr, .int .i64 kd, .slice a6 l6 c6] 27))
      have X6 := Lib.hid (Box.new w6 27 #[.int .i64 to, .int .i64 fr, .int .i64 kd, .slice a6 l6 c6])
      have O6 := Lib.hid (o6.alloc (.cells #[.int .i64 to, .int .i64 fr, .int .i64 kd, .slice a6 l6 c6] 27))
      clear b6 o6 A5 D5 B5
      generalize hW : w6.alloc (.cells #[.int .i64 to, .int .i64 fr, .int .i64 kd, .slice a6 l6 c6] 27) = W6 at *
      obtain ⟨qz, q0, q1, q2, q3⟩ := D6.out.four
      go_wp2_with fail
      clear hW
      refine (T'.out _ B6.out).mono ?_
      rintro e w7 ⟨a7, l7, c7, rfl, o7, b7⟩
      clear qz q0 q1 q2 q3
      have A7 := Lib.hid ((A6.out.below b7 A6.out.lt).alloc (.cells #[.int .i64 to', .int .i64 fr', .int .i64 kd', .slice a7 l7 c7] 27))
      have D7 := Lib.hid ((D6.out.below b7 D6.out.lt).alloc (.cells #[.int .i64 to', .int .i64 fr', .int .i64 kd', .slice a7 l7 c7] 27))
      have B7 := Lib.hid ((B6.out.trans (b7.mono B6.out.size)).alloc (Nat.le_trans B6.out.size b7.size) (.cells #[.int .i64 to', .int .i64 fr', .int .i64 kd', .slice a7 l7 c7] 27))
      have X7 := Lib.hid ((X6.out.below b7 X6.out.lt).alloc (.cells #[.int .i64 to', .int .i64 fr', .int .i64 kd', .slice a7 l7 c7] 27))
      have O7 := Lib.hid ((O6.out.below b7).alloc (.cells #[.int .i64 to', .int .i64 fr', .int .i64 kd', .slice a7 l7 c7] 27))
      have Y7 := Lib.hid (Box.new w7 27 #[.int .i64 to', .int .i64 fr', .int .i64 kd', .slice a7 l7 c7])
      have P7 := Lib.hid (o7.alloc (.cells #[.int .i64 to', .int .i64 fr', .int .i64 kd', .slice a7 l7 c7] 27))
      clear b7 o7 A6 D6 B6 X6 O6
      generalize hW : w7.alloc (.cells #[.int .i64 to', .int .i64 fr', .int .i64 kd', .slice a7 l7 c7] 27) = W7 at *
      obtain ⟨pz, p0, p1, p2, p3⟩ := X7.out.four
      obtain ⟨qz, q0, q1, q2, q3⟩ := Y7.out.four
      go_wp2_with fail
      clear hW
      refine (K.out _ _ _ _ _ _ _ O7.out.rd P7.out.rd).mono ?_
      rintro e w8 ⟨rfl, b8⟩
      clear pz p0 p1 p2 p3 qz q0 q1 q2 q3
      have A8 := Lib.hid (A7.out.below b8 A7.out.lt)
      have D8 := Lib.hid (D7.out.below b8 D7.out.lt)
      have B8 := Lib.hid (B7.out.trans (b8.mono B7.out.size))
      have X8 := Lib.hid (X7.out.below b8 X7.out.lt)
      have O8 := Lib.hid (O7.out.below b8)
      have Y8 := Lib.hid (Y7.out.below b8 Y7.out.lt)
      have P8 := Lib.hid (P7.out.below b8)
      clear b8 A7 D7 B7 X7 O7 Y7 P7
      obtain ⟨pz, p0, p1, p2, p3⟩ := A8.out.four
      obtain ⟨qz, q0, q1, q2, q3⟩ := X8.out.four
      go_wp2_with fail
      go_region_held3 (fun W => W.cell? ⟨w.heap.size, 0, none⟩ = some (.int .i64 to) ∧ W.cell? ⟨w.heap.size, 1, none⟩ = some (.int .i64 fr) ∧ W.cell? ⟨w.heap.size, 2, none⟩ = some (.int .i64 kd) ∧ W.cell? ⟨w.heap.size, 3, none⟩ = some (.slice a len cap) ∧ W.cell? ⟨w6.heap.size, 0, none⟩ = some (.int .i64 to) ∧ W.cell? ⟨w6.heap.size, 1, none⟩ = some (.int .i64 fr) ∧ W.cell? ⟨w6.heap.size, 2, none⟩ = some (.int .i64 kd) ∧ W.cell? ⟨w6.heap.size, 3, none⟩ = some (.slice a6 l6 c6))
        (first | go_keep | (go_split_ands; exact ⟨keepK hb (by assumption), keepK hb (by assumption), keepK hb (by assumption), keepK hb (by assumption), keepK hb (by assumption), keepK hb (by assumption), keepK hb (by assumption), keepK hb (by assumption)⟩))
        (first
          | (have q := R9; clear q; go_at_call 14; refine (eqFrame_t _ _ _ _ _ _ _ _ _ zs _ (O8.out.drew.below b9).rd o9.rd).mono ?_; rintro e w10 ⟨rfl, b10⟩; have hb := b10)
          | (go_at_call 12; refine (T.out _ B8.out.drew).mono ?_; rintro e w9 ⟨a9, l9, c9, rfl, o9, b9⟩; have hb := b9; have R9 : Hid True := trivial))
      have b81 : Below w8.drew.heap.size w8.drew w10 := b9.trans (b10.mono b9.size)
      clear hb o9 b9 b10 R9 pz p0 p1 p2 p3 qz q0 q1 q2 q3 X8 O8 A8
      have D10 := Lib.hid ((D8.out.drewB).below b81 D8.out.drewB.lt)
      have B10 := Lib.hid (B8.out.drew.trans (b81.mono B8.out.drew.size))
      have Y10 := Lib.hid ((Y8.out.drewB).below b81 Y8.out.drewB.lt)
      have P10 := Lib.hid (P8.out.drew.below b81)
      clear b81 D8 B8 Y8 P8
      obtain ⟨pz, p0, p1, p2, p3⟩ := D10.out.four
      obtain ⟨qz, q0, q1, q2, q3⟩ := Y10.out.four
      go_wp2_with fail
      go_region_held3 (fun W => W.cell? ⟨w.heap.size + 1, 0, none⟩ = some (.int .i64 to') ∧ W.cell? ⟨w.heap.size + 1, 1, none⟩ = some (.int .i64 fr') ∧ W.cell? ⟨w.heap.size + 1, 2, none⟩ = some (.int .i64 kd') ∧ W.cell? ⟨w.heap.size + 1, 3, none⟩ = some (.slice a' len' cap') ∧ W.cell? ⟨w7.heap.size, 0, none⟩ = some (.int .i64 to') ∧ W.cell? ⟨w7.heap.size, 1, none⟩ = some (.int .i64 fr') ∧ W.cell? ⟨w7.heap.size, 2, none⟩ = some (.int .i64 kd') ∧ W.cell? ⟨w7.heap.size, 3, none⟩ = some (.slice a7 l7 c7))
        (first | go_keep | (go_split_ands; exact ⟨keepK hb (by assumption), keepK hb (by assumption), keepK hb (by assumption), keepK hb (by assumption), keepK hb (by assumption), keepK hb (by assumption), keepK hb (by assumption), keepK hb (by assumption)⟩))
        (first
          | (have q := R11; clear q; go_at_call 14; refine (eqFrame_t _ _ _ _ _ _ _ _ _ zs' _ (P10.out.drew.below b11).rd o11.rd).mono ?_; rintro e w12 ⟨rfl, b12⟩; have hb := b12)
          | (go_at_call 12; refine (T'.out _ B10.out.drew).mono ?_; rintro e w11 ⟨a11, l11, c11, rfl, o11, b11⟩; have hb := b11; have R11 : Hid True := trivial))
      have B12 := Lib.hid ((B10.out.drew.trans (b11.mono B10.out.drew.size)).trans (b12.mono (Nat.le_trans B10.out.drew.size b11.size)))
      clear hb o11 b11 b12 R11 pz p0 p1 p2 p3 qz q0 q1 q2 q3 B10 D10 Y10 P10
      go_wp2
      go_ret
      exact ⟨rfl, B12.out⟩
    · have Z' := Lib.hid (fun W => szFrame_f to' fr' kd' a' len' cap' (1048576 - len) W hbig' (by omega) (by omega) hm')
      clear h hr hr'
      go_enter Try.func9, Try.ntmps9
      go_wp2_with fail
      refine (Z.out _).mono ?_
      rintro e w1 ⟨rfl, b1⟩
      have B1 := Lib.hid (B0.out.trans (b1.mono B0.out.size))
      have D1 := Lib.hid (D0.out.below b1 D0.out.lt)
      clear b1 B0 A0 D0
      obtain ⟨qz, q0, q1, q2, q3⟩ := D1.out.four
      go_wp2_with fail
      refine (Z'.out _).mono ?_
      rintro e w2 ⟨rfl, b2⟩
      have B2 := Lib.hid (B1.out.trans (b2.mono B1.out.size))
      clear b2 B1 D1 qz q0 q1 q2 q3
      go_wp2
      go_ret
      exact ⟨rfl, B2.out⟩
  · have Z := Lib.hid (fun W => szFrame_f to fr kd a len cap 1048576 W hbig (by omega) (by omega) hm)
    clear h hr hr'
    go_enter Try.func9, Try.ntmps9
    go_wp2_with fail
    refine (Z.out _).mono ?_
    rintro e w1 ⟨rfl, b1⟩
    have B1 := Lib.hid (B0.out.trans (b1.mono B0.out.size))
    clear b1 B0 A0 D0
    go_wp2
    go_ret
    exact ⟨rfl, B1.out⟩
end Go.Proofs.Ytkneicepflkfhaa
