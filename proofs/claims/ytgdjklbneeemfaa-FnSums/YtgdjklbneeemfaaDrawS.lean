/-
  The draws of the law of sums.
-/
import Derived.Test.YtgdjklbneeemfaaSums
namespace Go.Proofs.Ytgdjklbneeemfaa
open Go.ChangeShapes Go.WideShapes Go.ChangeAt Go.RowKit

def BytesOne (w : World) (e : Ending) (w' : World) : Prop := ∃ (a' : Option Addr) (n c' : Nat) (ys : List Int) (x : Int), e = .returned (.tuple #[.slice a' n c', .int .i64 x]) ∧ n ≤ 701 ∧ Own w' w.heap.size a' n c' ys ∧ Below w.heap.size w w'
def BytesOnly (w : World) (e : Ending) (w' : World) : Prop := ∃ (a' : Option Addr) (n c' : Nat) (ys : List Int), e = .returned (.slice a' n c') ∧ n ≤ 701 ∧ Own w' w.heap.size a' n c' ys ∧ Below w.heap.size w w'

set_option maxHeartbeats 1000000 in
theorem drawSeal (a : Option Addr) (len cap : Nat) (zs : List Int) (w : World) (h : Rd w a len cap zs) (hl : len ≤ 1048576) :
    Calls Try.prog 22 #[.slice a len cap] w (BytesOne w) := by
  have K0 := Lib.hid (l1Source_any a len cap zs w h)
  clear h
  go_enter Try.func22, Try.ntmps22
  go_wp2_with fail
  refine K0.out.mono ?_
  rintro e w1 ⟨rfl, s1, b1⟩
  have z1 := s1.box.lt
  have K1 := Lib.hid (l1Data_any _ _ _ _ _ _ _ s1 (by omega) hl)
  have B1 := Lib.hid b1
  clear s1 b1 K0
  go_wp2_with fail
  refine K1.out.mono ?_
  rintro e w2 ⟨a2, n, c2, t2, ys, rfl, hn, o2, s2, ht2, g2⟩
  have z2 := s2.box.lt
  have B2 := Lib.hid (below_src B1.out g2)
  have K2 := Lib.hid (l1Pick_any _ _ w2.heap.size 8 [0, 0, 2, 6, 1, -1, 40, 9223372036854775806] (-1) 9223372036854775806 _ _ _ _ (w2.alloc (.cells #[.int .i64 0, .int .i64 0, .int .i64 2, .int .i64 6, .int .i64 1, .int .i64 (-1), .int .i64 40, .int .i64 9223372036854775806] 2)) (s2.alloc _) (fun x hx => mem8 hx (by omega)) rfl (by omega) (by omega) (Box.new _ _ _) (by omega) (by omega) hl)
  have O2 := Lib.hid (o2.alloc (.cells #[.int .i64 0, .int .i64 0, .int .i64 2, .int .i64 6, .int .i64 1, .int .i64 (-1), .int .i64 40, .int .i64 9223372036854775806] 2))
  clear s2 g2 K1 o2
  go_wp2_with fail
  refine K2.out.mono ?_
  rintro e w3 ⟨x, rfl, _, _, s3, g3⟩
  have B3 := Lib.hid (below_src (B2.out.alloc B2.out.size _) g3)
  have O3 := Lib.hid (O2.out.grown g3 (by intro y hy e; have := O2.out.lt y hy; simp at e; omega))
  clear s3 g3 K2 O2
  go_wp2
  go_ret2
  exact ⟨a2, n, c2, ys, x, rfl, hn, O3.out.rebase (by omega), B3.out⟩

set_option maxHeartbeats 1000000 in
theorem drawSum (a : Option Addr) (len cap : Nat) (zs : List Int) (w : World) (h : Rd w a len cap zs) (hl : len ≤ 1048576) :
    Calls Try.prog 24 #[.slice a len cap] w (BytesOnly w) := by
  have K0 := Lib.hid (l1Source_any a len cap zs w h)
  clear h
  go_enter Try.func24, Try.ntmps24
  go_wp2_with fail
  refine K0.out.mono ?_
  rintro e w1 ⟨rfl, s1, b1⟩
  have z1 := s1.box.lt
  have K1 := Lib.hid (l1Data_any _ _ _ _ _ _ _ s1 (by omega) hl)
  have B1 := Lib.hid b1
  clear s1 b1 K0
  go_wp2_with fail
  refine K1.out.mono ?_
  rintro e w2 ⟨a2, n, c2, t2, ys, rfl, hn, o2, s2, ht2, g2⟩
  have B2 := Lib.hid (below_src B1.out g2)
  have O2 := Lib.hid o2
  clear s2 g2 K1 o2
  go_wp2
  go_ret
  exact ⟨a2, n, c2, ys, rfl, hn, O2.out.rebase (by omega), B2.out⟩

set_option maxHeartbeats 1000000 in
theorem drawIs (a : Option Addr) (len cap : Nat) (zs : List Int) (w : World) (h : Rd w a len cap zs) (hl : len ≤ 1048576) :
    Calls Try.prog 26 #[.slice a len cap] w (BytesOnly w) := by
  have K0 := Lib.hid (l1Source_any a len cap zs w h)
  clear h
  go_enter Try.func26, Try.ntmps26
  go_wp2_with fail
  refine K0.out.mono ?_
  rintro e w1 ⟨rfl, s1, b1⟩
  have z1 := s1.box.lt
  have K1 := Lib.hid (l1Data_any _ _ _ _ _ _ _ s1 (by omega) hl)
  have B1 := Lib.hid b1
  clear s1 b1 K0
  go_wp2_with fail
  refine K1.out.mono ?_
  rintro e w2 ⟨a2, n, c2, t2, ys, rfl, hn, o2, s2, ht2, g2⟩
  have B2 := Lib.hid (below_src B1.out g2)
  have O2 := Lib.hid o2
  by_cases hn3 : 3 < n
  · have K2 := Lib.hid (l1Chance_any _ _ 3 _ _ _ _ _ s2 (by omega) hl (by omega))
    rcases o2.shape with ⟨_, h0, _⟩ | ⟨g, rfl⟩
    · omega
    clear s2 g2 K1 o2
    go_wp2_with fail
    refine K2.out.mono ?_
    rintro e w3 ⟨c, rfl, s3, g3⟩
    have B3 := Lib.hid (below_src B2.out g3)
    have O3 := Lib.hid (O2.out.grown g3 (by intro y hy e; have := O2.out.lt y hy; simp at e; omega))
    clear s3 g3 K2 O2
    cases c
    · have K3 := Lib.hid (l1Seal_any g n c2 _ 2 ys w3 O3.out (by omega) (by omega))
      go_wp2_with fail
      refine K3.out.mono ?_
      rintro e w4 ⟨rfl, o4, g4⟩
      have hlt := O3.out.lt _ rfl
      have B4 := Lib.hid (B3.out.grown g4 B3.out.size (fun k e => by cases e; dsimp only at hlt; omega))
      have O4 := Lib.hid o4
      clear o4 g4 K3
      go_wp2
      go_ret
      exact ⟨_, n, c2, _, rfl, hn, O4.out.rebase (by omega), B4.out⟩
    · go_wp2
      go_ret
      exact ⟨_, n, c2, ys, rfl, hn, O3.out.rebase (by omega), B3.out⟩
  · clear s2 g2 K1 o2
    go_wp2
    go_ret
    exact ⟨a2, n, c2, ys, rfl, hn, O2.out.rebase (by omega), B2.out⟩
end Go.Proofs.Ytgdjklbneeemfaa
