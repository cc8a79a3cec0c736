/-
  The draws of the law of sequence numbers.
-/
import Derived.Test.YtgdjklbneeemfaaPick
import Derived.Test.YtgdjklbneeemfaaWin
namespace Go.Proofs.Ytgdjklbneeemfaa
open Go.ChangeShapes Go.WideShapes Go.ChangeAt Go.RowKit

theorem mem8 {x a b c d e f g h lo hi : Int} (hx : x ∈ [a, b, c, d, e, f, g, h]) (k : lo ≤ a ∧ a ≤ hi ∧ lo ≤ b ∧ b ≤ hi ∧ lo ≤ c ∧ c ≤ hi ∧ lo ≤ d ∧ d ≤ hi ∧ lo ≤ e ∧ e ≤ hi ∧ lo ≤ f ∧ f ≤ hi ∧ lo ≤ g ∧ g ≤ hi ∧ lo ≤ h ∧ h ≤ hi) : lo ≤ x ∧ x ≤ hi := by
  simp only [List.mem_cons, List.not_mem_nil, or_false] at hx
  rcases hx with rfl | rfl | rfl | rfl | rfl | rfl | rfl | rfl <;> omega

theorem mem2 {x a b lo hi : Int} (hx : x ∈ [a, b]) (k : lo ≤ a ∧ a ≤ hi ∧ lo ≤ b ∧ b ≤ hi) : lo ≤ x ∧ x ≤ hi := by
  simp only [List.mem_cons, List.not_mem_nil, or_false] at hx
  rcases hx with rfl | rfl <;> omega
theorem mem5 {x a b c d e lo hi : Int} (hx : x ∈ [a, b, c, d, e]) (k : lo ≤ a ∧ a ≤ hi ∧ lo ≤ b ∧ b ≤ hi ∧ lo ≤ c ∧ c ≤ hi ∧ lo ≤ d ∧ d ≤ hi ∧ lo ≤ e ∧ e ≤ hi) : lo ≤ x ∧ x ≤ hi := by
  simp only [List.mem_cons, List.not_mem_nil, or_false] at hx
  rcases hx with rfl | rfl | rfl | rfl | rfl <;> omega
theorem mem6 {x a b c d e f lo hi : Int} (hx : x ∈ [a, b, c, d, e, f]) (k : lo ≤ a ∧ a ≤ hi ∧ lo ≤ b ∧ b ≤ hi ∧ lo ≤ c ∧ c ≤ hi ∧ lo ≤ d ∧ d ≤ hi ∧ lo ≤ e ∧ e ≤ hi ∧ lo ≤ f ∧ f ≤ hi) : lo ≤ x ∧ x ≤ hi := by
  simp only [List.mem_cons, List.not_mem_nil, or_false] at hx
  rcases hx with rfl | rfl | rfl | rfl | rfl | rfl <;> omega

set_option maxHeartbeats 1000000 in
theorem l1DrawSeq_any (b t : Nat) (a : Option Addr) (len cap : Nat) (zs : List Int) (w : World) (h : Src w b t a len cap zs) (ht : t ≤ 900000) (hl : len ≤ 1048576) :
    Calls Try.prog 63 #[.pointer (some ⟨b, 0, none⟩)] w (Picked w b (t + 1) 0 4294967295 a len cap zs) := by
  have K := Lib.hid (l1Next_any b t 60000 a len cap zs w h (by omega) hl (by omega))
  have hbw := h.box.lt
  clear h
  go_enter Try.func63, Try.ntmps63
  go_wp2_with fail
  refine K.out.mono ?_
  rintro e w1 ⟨r, rfl, hr0, hr1, hs, hg⟩
  have hr2 := hr1 (by omega)
  have hz := hg.size
  have K2 := Lib.hid (l1Pick_any b (t + 1) w1.heap.size 8 [0, 1, 100, 4294967295, 4294967290, 2147483648, 2147483647, r] 0 4294967295 a len cap zs (w1.alloc (.cells #[.int .i64 0, .int .i64 1, .int .i64 100, .int .i64 4294967295, .int .i64 4294967290, .int .i64 2147483648, .int .i64 2147483647, .int .i64 r] 2)) (hs.alloc _) (fun x hx => mem8 hx (by omega)) rfl (by omega) (by omega) (Box.new _ _ _) (by omega) (by omega) hl)
  have HG := Lib.hid hg
  clear hr0 hr1 hs hg K
  go_wp2_with fail
  refine K2.out.mono ?_
  rintro e w2 ⟨r2, rfl, q0, q1, hs, hg⟩
  have R := Lib.hid (And.intro hs (grown_trans (grown_trans HG.out (World.grownBy_alloc w1 _ (some b))) hg))
  clear hs hg K2
  go_wp2
  go_ret
  exact ⟨r2, rfl, q0, q1, R.out.1, R.out.2⟩

/-- two numbers were drawn -/
def Two (w : World) (P : Int → Int → Prop) (e : Ending) (w' : World) : Prop := ∃ x y : Int, e = .returned (.tuple #[.int .i64 x, .int .i64 y]) ∧ P x y ∧ Below w.heap.size w w'

theorem below_src {w w1 w2 : World} (h : Below w.heap.size w w1) (hg : w1.grownBy w2 (some w.heap.size)) : Below w.heap.size w w2 :=
  h.grown hg h.size (fun k e => by cases e; exact Nat.le_refl _)

set_option maxHeartbeats 1000000 in
theorem drawAdd (a : Option Addr) (len cap : Nat) (zs : List Int) (w : World) (h : Rd w a len cap zs) (hl : len ≤ 1048576) :
    Calls Try.prog 31 #[.slice a len cap] w (Two w fun s n => -4294967297 ≤ s ∧ s ≤ 4294967297 ∧ -4294967297 ≤ n ∧ n ≤ 4294967297) := by
  have K0 := Lib.hid (l1Source_any a len cap zs w h)
  clear h
  go_enter Try.func31, Try.ntmps31
  go_wp2_with fail
  refine K0.out.mono ?_
  rintro e w1 ⟨rfl, s1, b1⟩
  have K1 := Lib.hid (l1DrawSeq_any _ _ _ _ _ _ _ s1 (by omega) hl)
  have B1 := Lib.hid b1
  clear s1 b1 K0
  go_wp2_with fail
  refine K1.out.mono ?_
  rintro e w2 ⟨r, rfl, r0, r1, s2, g2⟩
  have K2 := Lib.hid (l1Chance_any _ _ 12 _ _ _ _ _ s2 (by omega) hl (by omega))
  have B2 := Lib.hid (below_src B1.out g2)
  clear s2 g2 K1
  go_wp2_with fail
  refine K2.out.mono ?_
  rintro e w3 ⟨c, rfl, s3, g3⟩
  have B3 := Lib.hid (below_src B2.out g3)
  have z3 := s3.box.lt
  cases c
  · have K3 := Lib.hid (l1Pick_any _ _ w3.heap.size 8 [0, 1, -1, 1000, 4294967296, -4294967296, 4294967297, -2147483648] (-4294967297) 4294967297 _ _ _ _ (w3.alloc (.cells #[.int .i64 0, .int .i64 1, .int .i64 (-1), .int .i64 1000, .int .i64 4294967296, .int .i64 (-4294967296), .int .i64 4294967297, .int .i64 (-2147483648)] 2)) (s3.alloc _) (fun x hx => mem8 hx (by omega)) rfl (by omega) (by omega) (Box.new _ _ _) (by omega) (by omega) hl)
    clear s3 g3 K2
    go_wp2_with fail
    refine K3.out.mono ?_
    rintro e w4 ⟨n, rfl, n0, n1, s4, g4⟩
    have B4 := Lib.hid (below_src (B3.out.alloc B3.out.size _) g4)
    clear s4 g4 K3
    go_wp2
    go_ret2
    exact ⟨r, n, rfl, by omega, B4.out⟩
  · have K3 := Lib.hid (l1Pick_any _ _ w3.heap.size 2 [-1, 4294967296] (-4294967297) 4294967297 _ _ _ _ (w3.alloc (.cells #[.int .i64 (-1), .int .i64 4294967296] 2)) (s3.alloc _) (fun x hx => mem2 hx (by omega)) rfl (by omega) (by omega) (Box.new _ _ _) (by omega) (by omega) hl)
    clear s3 g3 K2
    go_wp2_with fail
    refine K3.out.mono ?_
    rintro e w4 ⟨q, rfl, q0, q1, s4, g4⟩
    have B4 := Lib.hid (below_src (B3.out.alloc B3.out.size _) g4)
    have z4 := s4.box.lt
    have K4 := Lib.hid (l1Pick_any _ _ w4.heap.size 8 [0, 1, -1, 1000, 4294967296, -4294967296, 4294967297, -2147483648] (-4294967297) 4294967297 _ _ _ _ (w4.alloc (.cells #[.int .i64 0, .int .i64 1, .int .i64 (-1), .int .i64 1000, .int .i64 4294967296, .int .i64 (-4294967296), .int .i64 4294967297, .int .i64 (-2147483648)] 2)) (s4.alloc _) (fun x hx => mem8 hx (by omega)) rfl (by omega) (by omega) (Box.new _ _ _) (by omega) (by omega) hl)
    clear s4 g4 K3
    go_wp2_with fail
    refine K4.out.mono ?_
    rintro e w5 ⟨n, rfl, n0, n1, s5, g5⟩
    have B5 := Lib.hid (below_src (B4.out.alloc B4.out.size _) g5)
    clear s5 g5 K4
    go_wp2
    go_ret2
    exact ⟨q, n, rfl, by omega, B5.out⟩

set_option maxHeartbeats 1000000 in
theorem drawDist (a : Option Addr) (len cap : Nat) (zs : List Int) (w : World) (h : Rd w a len cap zs) (hl : len ≤ 1048576) :
    Calls Try.prog 33 #[.slice a len cap] w (Two w fun s n => -4294967297 ≤ s ∧ s ≤ 4294967297 ∧ -4294967297 ≤ n ∧ n ≤ 4294967297) := by
  have K0 := Lib.hid (l1Source_any a len cap zs w h)
  clear h
  go_enter Try.func33, Try.ntmps33
  go_wp2_with fail
  refine K0.out.mono ?_
  rintro e w1 ⟨rfl, s1, b1⟩
  have K1 := Lib.hid (l1DrawSeq_any _ _ _ _ _ _ _ s1 (by omega) hl)
  have B1 := Lib.hid b1
  clear s1 b1 K0
  go_wp2_with fail
  refine K1.out.mono ?_
  rintro e w2 ⟨r, rfl, r0, r1, s2, g2⟩
  have K2 := Lib.hid (l1DrawSeq_any _ _ _ _ _ _ _ s2 (by omega) hl)
  have B2 := Lib.hid (below_src B1.out g2)
  clear s2 g2 K1
  go_wp2_with fail
  refine K2.out.mono ?_
  rintro e w3 ⟨r', rfl, r0', r1', s3, g3⟩
  have K3 := Lib.hid (l1Chance_any _ _ 12 _ _ _ _ _ s3 (by omega) hl (by omega))
  have B3 := Lib.hid (below_src B2.out g3)
  clear s3 g3 K2
  go_wp2_with fail
  refine K3.out.mono ?_
  rintro e w4 ⟨c, rfl, s4, g4⟩
  have B4 := Lib.hid (below_src B3.out g4)
  have z4 := s4.box.lt
  cases c
  · clear s4 g4 K3
    go_wp2
    go_ret2
    exact ⟨r, r', rfl, by omega, B4.out⟩
  · have K4 := Lib.hid (l1Pick_any _ _ w4.heap.size 2 [-1, 4294967296] (-4294967297) 4294967297 _ _ _ _ (w4.alloc (.cells #[.int .i64 (-1), .int .i64 4294967296] 2)) (s4.alloc _) (fun x hx => mem2 hx (by omega)) rfl (by omega) (by omega) (Box.new _ _ _) (by omega) (by omega) hl)
    clear s4 g4 K3
    go_wp2_with fail
    refine K4.out.mono ?_
    rintro e w5 ⟨q, rfl, q0, q1, s5, g5⟩
    have B5 := Lib.hid (below_src (B4.out.alloc B4.out.size _) g5)
    clear s5 g5 K4
    go_wp2
    go_ret2
    exact ⟨q, r', rfl, by omega, B5.out⟩

/-- three numbers were drawn -/
def Three (w : World) (P : Int → Int → Int → Prop) (e : Ending) (w' : World) : Prop := ∃ x y z : Int, e = .returned (.tuple #[.int .i64 x, .int .i64 y, .int .i64 z]) ∧ P x y z ∧ Below w.heap.size w w'

set_option maxHeartbeats 1000000 in
theorem drawWin (a : Option Addr) (len cap : Nat) (zs : List Int) (w : World) (h : Rd w a len cap zs) (hl : len ≤ 1048576) :
    Calls Try.prog 35 #[.slice a len cap] w (Three w fun x y z => 0 ≤ y ∧ y ≤ 4294967295 ∧ -1 ≤ z ∧ z ≤ 65536 ∧ 0 ≤ x ∧ x ≤ 4294967295) := by
  have K0 := Lib.hid (l1Source_any a len cap zs w h)
  clear h
  go_enter Try.func35, Try.ntmps35
  go_wp2_with fail
  refine K0.out.mono ?_
  rintro e w1 ⟨rfl, s1, b1⟩
  have K1 := Lib.hid (l1DrawSeq_any _ _ _ _ _ _ _ s1 (by omega) hl)
  have B1 := Lib.hid b1
  clear s1 b1 K0
  go_wp2_with fail
  refine K1.out.mono ?_
  rintro e w2 ⟨r, rfl, r0, r1, s2, g2⟩
  have B2 := Lib.hid (below_src B1.out g2)
  have z2 := s2.box.lt
  have K2 := Lib.hid (l1Pick_any _ _ w2.heap.size 6 [0, 1, 5, 65535, 65536, -1] (-1) 65536 _ _ _ _ (w2.alloc (.cells #[.int .i64 0, .int .i64 1, .int .i64 5, .int .i64 65535, .int .i64 65536, .int .i64 (-1)] 2)) (s2.alloc _) (fun x hx => mem6 hx (by omega)) rfl (by omega) (by omega) (Box.new _ _ _) (by omega) (by omega) hl)
  clear s2 g2 K1
  go_wp2_with fail
  refine K2.out.mono ?_
  rintro e w3 ⟨n, rfl, n0, n1, s3, g3⟩
  have B3 := Lib.hid (below_src (B2.out.alloc B2.out.size _) g3)
  have z3 := s3.box.lt
  have K3 := Lib.hid (l1Pick_any _ _ w3.heap.size 5 [0, n - 1, n, -1, 3] (-2) 65536 _ _ _ _ (w3.alloc (.cells #[.int .i64 0, .int .i64 (n - 1), .int .i64 n, .int .i64 (-1), .int .i64 3] 2)) (s3.alloc _) (fun x hx => mem5 hx (by omega)) rfl (by omega) (by omega) (Box.new _ _ _) (by omega) (by omega) hl)
  clear s3 g3 K2
  go_wp2_with fail
  refine K3.out.mono ?_
  rintro e w4 ⟨d, rfl, d0, d1, s4, g4⟩
  have B4 := Lib.hid (below_src (B3.out.alloc B3.out.size _) g4)
  clear s4 g4 K3
  go_wp2_with (go_at_call 65; refine (l1Add_any _ _ _ (by omega) (by omega) (by omega) (by omega)).mono ?_; rintro e w' ⟨rfl, rfl⟩)
  go_ret3
  exact ⟨_, r, n, rfl, by omega, B4.out⟩
end Go.Proofs.Ytgdjklbneeemfaa
