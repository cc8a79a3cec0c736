/-
  The exact law of PseudoHead, where model and program answer the same.
-/
import Derived.Test.YtmcllaefjgdbeaaExPack
namespace Go.Proofs.Ytmcllaefjgdbeaa
open Go.ChangeShapes Go.WideShapes Go.ChangeAt Go.RowKit

set_option maxHeartbeats 1000000 in
theorem exactPseudoHead (f t p n : Int) (w : World) (c : Int) (zs : List Int) (hz6 : zs.length ≤ 700) (h1 : ∀ W, Calls Try.prog 20 #[.int .i64 f, .int .i64 t, .int .i64 p, .int .i64 n] W (Packed W c zs)) (h2 : ∀ W, Calls Try.prog 15 #[.int .i64 f, .int .i64 t, .int .i64 p, .int .i64 n] W (Packed W c zs)) :
    Calls Try.prog 4 #[.int .i64 f, .int .i64 t, .int .i64 p, .int .i64 n] w fun e w' => e = .returned (.bool true) ∧ Below w.heap.size w w' := by
  have K1 := Lib.hid h1
  have K2 := Lib.hid h2
  clear h1 h2
  go_enter Try.func4, Try.ntmps4
  go_wp2_with fail
  refine (K1.out _).mono ?_
  rintro e w1 ⟨a1, l1, k1, rfl, o1, hb1⟩
  go_wp2_with fail
  refine (K2.out _).mono ?_
  rintro e w2 ⟨a2, l2, k2, rfl, o2, hb2⟩
  have hl2 : l2 ≤ 700 := by rw [← o2.length]; exact hz6
  have x1 := (Box.new w1 29 #[.int .i64 c, .slice a1 l1 k1]).below hb2 (by simp)
  obtain ⟨z1, c10, c11⟩ := x1.two
  have p1 := (o1.alloc (.cells #[.int .i64 c, .slice a1 l1 k1] 29)).below hb2
  have B2 : Hid (Below w.heap.size w w2) := hb1.trans (((Below.refl _ _).alloc hb1.size _).trans (hb2.mono (by have := hb1.size; simp; omega)))
  have s2 : w1.heap.size + 1 ≤ w2.heap.size := by have := hb2.size; simp at this; omega
  have s1 := hb1.size
  simp only [World.size_alloc] at o2
  clear hb2 hb1
  go_wp2_with fail
  refine (eqBytes_any _ _ _ _ _ _ _ _ zs zs _ (o2.alloc _).rd (p1.alloc _).rd rfl rfl).mono ?_
  rintro e w3 ⟨rfl, hb3⟩
  have x2 := (Box.new w2 29 #[.int .i64 c, .slice a2 l2 k2]).below hb3 (by simp)
  have x1 := (x1.alloc (.cells #[.int .i64 c, .slice a2 l2 k2] 29)).below hb3 (by simp; omega)
  have p1 := (p1.alloc (.cells #[.int .i64 c, .slice a2 l2 k2] 29)).below hb3
  have p2 := (o2.alloc (.cells #[.int .i64 c, .slice a2 l2 k2] 29)).below hb3
  have B3 : Hid (Below w.heap.size w w3) := (B2.out.alloc (by omega) _).trans (hb3.mono (by simp; omega))
  obtain ⟨z2, c20, c21⟩ := x2.two
  clear c10 c11 z1 hb3
  go_wp2_with fail
  refine (markBytes_any _ _ _ _ _ 1 _ _ p2 (by omega) (by omega)).mono ?_
  rintro e w4 ⟨rfl, q2, hg4⟩
  have x2 := x2.grown hg4 (ne_block o2 _ (.inr (Nat.le_refl _)))
  have x1 := x1.grown hg4 (ne_block o2 _ (.inl (by omega)))
  have p1 := p1.grown hg4 (ne_of_lt_own o1 o2 (by omega))
  have B4 : Hid (Below w.heap.size w w4) := B3.out.grown hg4 (by have := B3.out.size; omega) (fun k e => by
    cases a2 with
    | none => simp [Value.ownBlock] at e
    | some y => simp [Value.ownBlock] at e; have := o2.lt y rfl; omega)
  obtain ⟨z2', c20', c21'⟩ := x2.two
  clear c20 c21 z2 hg4 p2
  go_wp2_with fail
  refine (heldBytes_any _ _ _ _ 1 _ q2.rd (by omega) (by omega)).mono ?_
  rintro e w5 ⟨rfl, hb5⟩
  have x2 := x2.below hb5 x2.lt
  have x1 := x1.below hb5 x1.lt
  have p1 := p1.below hb5
  have q2 := q2.below hb5
  have B5 : Hid (Below w.heap.size w w5) := B4.out.trans (hb5.mono (by have := B4.out.size; omega))
  have s5 := hb5.size
  have hn : ¬ ((1 + l2 : Nat) : Int) < 0 := by omega
  have hne : (((1 + l2 : Nat) : Int) != ((1 + l2 : Nat) : Int)) = false := by simp
  clear c20' c21' z2' hb5
  go_wp2_with fail
  refine (K2.out _).mono ?_
  rintro e w6 ⟨a6, l6, k6, rfl, o6, hb6⟩
  have y2 := (x2.below hb6 x2.lt).alloc (.cells #[.int .i64 c, .slice a6 l6 k6] 29)
  have y1 := (x1.below hb6 x1.lt).alloc (.cells #[.int .i64 c, .slice a6 l6 k6] 29)
  have p1 := (p1.below hb6).alloc (.cells #[.int .i64 c, .slice a6 l6 k6] 29)
  have q2 := (q2.below hb6).alloc (.cells #[.int .i64 c, .slice a6 l6 k6] 29)
  have B6 : Hid (Below w.heap.size w (w6.alloc (.cells #[.int .i64 c, .slice a6 l6 k6] 29))) := (B5.out.trans (hb6.mono (by have := B5.out.size; omega))).alloc (by have := B5.out.size; have := hb6.size; omega) _
  obtain ⟨u1, d10, d11⟩ := (x1.below hb6 x1.lt).two
  have s6 := hb6.size
  clear hb6
  go_wp2_with fail
  refine (eqBytes_any _ _ _ _ _ _ _ _ zs zs _ (o6.alloc _).rd p1.rd rfl rfl).mono ?_
  rintro e w7 ⟨rfl, hb7⟩
  have y2 := y2.below hb7 y2.lt
  have q2 := q2.below hb7
  have B7 : Hid (Below w.heap.size w w7) := B6.out.trans (hb7.mono (by have := B6.out.size; omega))
  obtain ⟨v2, e20, e21⟩ := y2.two
  clear hb7 u1 d10 d11
  go_wp2_with fail
  refine (heldBytes_any _ _ _ _ 1 _ q2.rd (by omega) (by omega)).mono ?_
  rintro e w8 ⟨rfl, hb8⟩
  have B8 : Hid (Below w.heap.size w w8) := B7.out.trans (hb8.mono (by have := B7.out.size; omega))
  clear hb8
  go_wp2
  go_ret
  exact ⟨rfl, B8.out⟩
end Go.Proofs.Ytmcllaefjgdbeaa
