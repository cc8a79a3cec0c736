/-
  The law FnExactPackArp returns true, where the program's PackArp answers as the model's does.
-/
import Derived.Test.YtkneicepflkfhaaArpP
import Derived.Test.YtkneicepflkfhaaExPack
namespace Go.Proofs.Ytkneicepflkfhaa
open Go.ChangeShapes Go.WideShapes Go.ChangeAt Go.RowKit

set_option maxHeartbeats 2000000 in
theorem exactPackArp (op fm fi tm ti : Int) (w : World)
    (h : ∀ W, Calls Try.prog 33 #[.agg #[.int .i64 op, .int .i64 fm, .int .i64 fi, .int .i64 tm, .int .i64 ti]] W (Packed W (arpC op fm fi tm ti) (arpP op fm fi tm ti))) :
    Calls Try.prog 7 #[.agg #[.int .i64 op, .int .i64 fm, .int .i64 fi, .int .i64 tm, .int .i64 ti]] w fun e w' => e = .returned (.bool true) ∧ Below w.heap.size w w' := by
  have K2 := Lib.hid h
  have K1 := Lib.hid (fun W => specPackArp op fm fi tm ti W)
  have T := Lib.hid (fun W => toArp_any op fm fi tm ti W)
  have hzl := arpP_len op fm fi tm ti
  clear h
  generalize arpC op fm fi tm ti = c at *
  generalize arpP op fm fi tm ti = zs at *
  have B0 := Lib.hid ((Below.refl w.heap.size w).alloc (Nat.le_refl _) (.cells #[.int .i64 op, .int .i64 fm, .int .i64 fi, .int .i64 tm, .int .i64 ti] 47))
  have A0 := Lib.hid (Box.new w 47 #[.int .i64 op, .int .i64 fm, .int .i64 fi, .int .i64 tm, .int .i64 ti])
  go_enter Try.func7, Try.ntmps7
  go_wp2_with fail
  refine (T.out _).mono ?_
  rintro e w1 ⟨rfl, b1⟩
  have B1 := Lib.hid (B0.out.trans (b1.mono B0.out.size))
  have A1 := Lib.hid (A0.out.below b1 A0.out.lt)
  clear b1 A0 B0
  go_wp2_with fail
  refine (K1.out _).mono ?_
  rintro e w2 ⟨a1, l1, k1, rfl, o1, b2⟩
  have B2 := Lib.hid ((B1.out.trans (b2.mono B1.out.size)).alloc (Nat.le_trans B1.out.size b2.size) (.cells #[.int .i64 c, .slice a1 l1 k1] 32))
  have A2 := Lib.hid ((A1.out.below b2 A1.out.lt).alloc (.cells #[.int .i64 c, .slice a1 l1 k1] 32))
  have X2 := Lib.hid (Box.new w2 32 #[.int .i64 c, .slice a1 l1 k1])
  have O2 := Lib.hid ((o1.alloc (.cells #[.int .i64 c, .slice a1 l1 k1] 32)).rebase (Nat.zero_le _))
  clear b2 o1 A1 B1
  generalize hW2 : w2.alloc (.cells #[.int .i64 c, .slice a1 l1 k1] 32) = W2 at *
  obtain ⟨zA, p0, p1, p2, p3, p4⟩ := A2.out.five
  go_wp2_with fail
  clear hW2
  refine (T.out _).mono ?_
  rintro e w3 ⟨rfl, b3⟩
  have B3 := Lib.hid (B2.out.trans (b3.mono B2.out.size))
  have A3 := Lib.hid (A2.out.below b3 A2.out.lt)
  have X3 := Lib.hid (X2.out.below b3 X2.out.lt)
  have O3 := Lib.hid (O2.out.below b3)
  clear b3 B2 A2 X2 O2 zA p0 p1 p2 p3 p4
  go_wp2_with fail
  refine (K2.out _).mono ?_
  rintro e w4 ⟨a2, l2, k2, rfl, o4, b4⟩
  have hl2 : l2 ≤ 28 := by rw [← o4.length]; exact hzl
  have N4 := Lib.hid o4
  have B4 := Lib.hid ((B3.out.trans (b4.mono B3.out.size)).alloc (Nat.le_trans B3.out.size b4.size) (.cells #[.int .i64 c, .slice a2 l2 k2] 32))
  have A4 := Lib.hid ((A3.out.below b4 A3.out.lt).alloc (.cells #[.int .i64 c, .slice a2 l2 k2] 32))
  have X4 := Lib.hid ((X3.out.below b4 X3.out.lt).alloc (.cells #[.int .i64 c, .slice a2 l2 k2] 32))
  have O4 := Lib.hid ((O3.out.below b4).alloc (.cells #[.int .i64 c, .slice a2 l2 k2] 32))
  have Y4 := Lib.hid (Box.new w4 32 #[.int .i64 c, .slice a2 l2 k2])
  have P4 := Lib.hid (o4.alloc (.cells #[.int .i64 c, .slice a2 l2 k2] 32))
  -- the mark lies in the slice of the second answer alone
  have NA := Lib.hid (ne_block o4 w.heap.size (.inl A3.out.lt))
  have NX := Lib.hid (ne_block o4 w2.heap.size (.inl X3.out.lt))
  have NY := Lib.hid (ne_block o4 w4.heap.size (.inr (Nat.le_refl _)))
  have NO := Lib.hid (ne_of_lt_own O3.out o4 (Nat.le_refl _))
  have NB := Lib.hid (show ∀ k, (Value.slice a2 l2 k2).ownBlock = some k → w.heap.size ≤ k from fun k e => by
    cases a2 with
    | none => simp [Value.ownBlock] at e
    | some y => simp [Value.ownBlock] at e; have := o4.lt y rfl; have := B3.out.size; omega)
  clear b4 o4 B3 A3 X3 O3
  generalize hW4 : w4.alloc (.cells #[.int .i64 c, .slice a2 l2 k2] 32) = W4 at *
  obtain ⟨zX, x0, x1⟩ := X4.out.two
  obtain ⟨zY, y0, y1⟩ := Y4.out.two
  go_wp2_with fail
  clear hW4
  refine (eqBytes_any _ _ _ _ _ _ _ _ zs zs _ P4.out.rd O4.out.rd rfl rfl).mono ?_
  rintro e w5 ⟨rfl, b5⟩
  have B5 := Lib.hid (B4.out.trans (b5.mono B4.out.size))
  have A5 := Lib.hid (A4.out.below b5 A4.out.lt)
  have X5 := Lib.hid (X4.out.below b5 X4.out.lt)
  have Y5 := Lib.hid (Y4.out.below b5 Y4.out.lt)
  have O5 := Lib.hid (O4.out.below b5)
  have P5 := Lib.hid (P4.out.below b5)
  clear b5 B4 A4 X4 Y4 O4 P4 zX x0 x1 zY y0 y1
  obtain ⟨zY, y0, y1⟩ := Y5.out.two
  go_wp2_with fail
  refine (markBytes_any _ _ _ _ _ 1 _ _ P5.out (by omega) (by omega)).mono ?_
  rintro e w6 ⟨rfl, q6, g6⟩
  have B6 := Lib.hid (B5.out.grown g6 B5.out.size NB.out)
  have A6 := Lib.hid (A5.out.grown g6 NA.out)
  have X6 := Lib.hid (X5.out.grown g6 NX.out)
  have Y6 := Lib.hid (Y5.out.grown g6 NY.out)
  have O6 := Lib.hid (O5.out.grown g6 NO.out)
  have Q6 := Lib.hid q6
  clear g6 q6 B5 A5 X5 Y5 O5 P5 zY y0 y1 NA NX NY NO NB
  obtain ⟨zY, y0, y1⟩ := Y6.out.two
  go_wp2_with fail
  refine (heldBytes_any _ _ _ _ 1 _ Q6.out.rd (by omega) (by omega)).mono ?_
  rintro e w7 ⟨rfl, b7⟩
  have B7 := Lib.hid (B6.out.trans (b7.mono B6.out.size))
  have A7 := Lib.hid (A6.out.below b7 A6.out.lt)
  have X7 := Lib.hid (X6.out.below b7 X6.out.lt)
  have Y7 := Lib.hid (Y6.out.below b7 Y6.out.lt)
  have O7 := Lib.hid (O6.out.below b7)
  have Q7 := Lib.hid (Q6.out.below b7)
  have hn : ¬ ((1 + l2 : Nat) : Int) < 0 := by omega
  have hne : (((1 + l2 : Nat) : Int) != ((1 + l2 : Nat) : Int)) = false := by simp
  clear b7 B6 A6 X6 Y6 O6 Q6 zY y0 y1
  obtain ⟨zA, p0, p1, p2, p3, p4⟩ := A7.out.five
  go_wp2_with fail
  refine (T.out _).mono ?_
  rintro e w8 ⟨rfl, b8⟩
  have B8 := Lib.hid (B7.out.trans (b8.mono B7.out.size))
  have X8 := Lib.hid (X7.out.below b8 X7.out.lt)
  have Y8 := Lib.hid (Y7.out.below b8 Y7.out.lt)
  have O8 := Lib.hid (O7.out.below b8)
  have Q8 := Lib.hid (Q7.out.below b8)
  clear b8 B7 X7 Y7 O7 Q7 A7 zA p0 p1 p2 p3 p4
  go_wp2_with fail
  refine (K2.out _).mono ?_
  rintro e w9 ⟨a3, l3, k3, rfl, o9, b9⟩
  have B9 := Lib.hid ((B8.out.trans (b9.mono B8.out.size)).alloc (Nat.le_trans B8.out.size b9.size) (.cells #[.int .i64 c, .slice a3 l3 k3] 32))
  have X9 := Lib.hid ((X8.out.below b9 X8.out.lt).alloc (.cells #[.int .i64 c, .slice a3 l3 k3] 32))
  have Y9 := Lib.hid ((Y8.out.below b9 Y8.out.lt).alloc (.cells #[.int .i64 c, .slice a3 l3 k3] 32))
  have Z9 := Lib.hid (Box.new w9 32 #[.int .i64 c, .slice a3 l3 k3])
  have O9 := Lib.hid ((O8.out.below b9).alloc (.cells #[.int .i64 c, .slice a3 l3 k3] 32))
  have Q9 := Lib.hid ((Q8.out.below b9).alloc (.cells #[.int .i64 c, .slice a3 l3 k3] 32))
  have R9 := Lib.hid (o9.alloc (.cells #[.int .i64 c, .slice a3 l3 k3] 32))
  clear b9 o9 B8 X8 Y8 O8 Q8
  generalize hW9 : w9.alloc (.cells #[.int .i64 c, .slice a3 l3 k3] 32) = W9 at *
  obtain ⟨zX, x0, x1⟩ := X9.out.two
  obtain ⟨zZ, z0, z1⟩ := Z9.out.two
  go_wp2_with fail
  clear hW9
  refine (eqBytes_any _ _ _ _ _ _ _ _ zs zs _ R9.out.rd O9.out.rd rfl rfl).mono ?_
  rintro e w10 ⟨rfl, b10⟩
  have B10 := Lib.hid (B9.out.trans (b10.mono B9.out.size))
  have Y10 := Lib.hid (Y9.out.below b10 Y9.out.lt)
  have Q10 := Lib.hid (Q9.out.below b10)
  clear b10 B9 X9 Y9 Z9 O9 Q9 R9 zX x0 x1 zZ z0 z1
  obtain ⟨zY, y0, y1⟩ := Y10.out.two
  go_wp2_with fail
  refine (heldBytes_any _ _ _ _ 1 _ Q10.out.rd (by omega) (by omega)).mono ?_
  rintro e w11 ⟨rfl, b11⟩
  have B11 := Lib.hid (B10.out.trans (b11.mono B10.out.size))
  clear b11 B10 Y10 Q10 zY y0 y1
  go_wp2
  go_ret
  exact ⟨rfl, B11.out⟩
end Go.Proofs.Ytkneicepflkfhaa
