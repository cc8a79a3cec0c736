/-
  The state of a draw that makes its own source, and DrawCutPiece.
-/
import Derived.Test.YtlmglepphjpohaaPick
import Derived.Test.YtlmglepphjpohaaP6W
namespace Go.Proofs.Ytlmglepphjpohaa
open Go.ChangeShapes Go.WideShapes Go.ChangeAt Go.RowKit

/-- from the world w on: a source b was made -/
structure DU (w W : World) (b t : Nat) (a : Option Addr) (len cap : Nat) (zs : List Int) : Prop where
  src : Src W b t a len cap zs
  bel : Below w.heap.size w W
  lo : w.heap.size ≤ b
  rd : Rd w a len cap zs
section
variable {w W W' : World} {b t t' : Nat} {a : Option Addr} {len cap : Nat} {zs : List Int}
theorem DU.step (h : DU w W b t a len cap zs) (hs : Src W' b t' a len cap zs) (hg : W.grownBy W' (some b)) : DU w W' b t' a len cap zs :=
  ⟨hs, h.bel.grown hg h.bel.size (fun k e => by cases e; exact h.lo), h.lo, h.rd⟩
theorem DU.alloc (h : DU w W b t a len cap zs) (o : Obj) : DU w (W.alloc o) b t a len cap zs := ⟨h.src.alloc o, h.bel.alloc h.bel.size o, h.lo, h.rd⟩
theorem DU.pick (h : DU w W b t a len cap zs) (xs : List Int) (lo hi : Int) {n : Nat} {cs : Array Value} (hcs : cs = (xs.map (Value.int .i64)).toArray) (hn : xs.length = n) (hx : ∀ x ∈ xs, lo ≤ x ∧ x ≤ hi) (hp : 0 < n) (hn2 : n ≤ 1000) (ht : t ≤ 1000000) (hl : len ≤ 1048576) :
    Calls Try.prog 42 #[.pointer (some ⟨b, 0, none⟩), .slice (some ⟨W.heap.size, 0, none⟩) n n] (W.alloc (.cells cs 2)) fun e w' => ∃ r : Int, e = .returned (.int .i64 r) ∧ lo ≤ r ∧ r ≤ hi ∧ DU w w' b (t + 1) a len cap zs ∧ W.grownBy w' (some b) := by
  subst hcs
  have hb := h.src.box.lt
  refine (l1Pick_any b t W.heap.size n xs lo hi a len cap zs _ (h.alloc _).src hx hn hp hn2 (Box.new _ _ _) (by omega) ht hl).mono ?_
  rintro e w' ⟨r, rfl, h1, h2, h3, h4⟩
  exact ⟨r, rfl, h1, h2, (h.alloc _).step h3 h4, grown_trans (grown_alloc _ _) h4⟩
theorem DU.next (h : DU w W b t a len cap zs) (n : Int) (ht : t ≤ 1000000) (hl : len ≤ 1048576) (hn : n ≤ 1000000) :
    Calls Try.prog 43 #[.pointer (some ⟨b, 0, none⟩), .int .i64 n] W fun e w' => ∃ r : Int, e = .returned (.int .i64 r) ∧ 0 ≤ r ∧ (1 ≤ n → r < n) ∧ DU w w' b (t + 1) a len cap zs ∧ W.grownBy w' (some b) := by
  refine (l1Next_any b t n a len cap zs W h.src ht hl hn).mono ?_
  rintro e w' ⟨r, rfl, h1, h2, h3, h4⟩
  exact ⟨r, rfl, h1, h2, h.step h3 h4, h4⟩
theorem DU.chance (h : DU w W b t a len cap zs) (n : Int) (ht : t ≤ 1000000) (hl : len ≤ 1048576) (hn : n ≤ 1000000) :
    Calls Try.prog 54 #[.pointer (some ⟨b, 0, none⟩), .int .i64 n] W fun e w' => ∃ c : Bool, e = .returned (.bool c) ∧ DU w w' b (t + 1) a len cap zs ∧ W.grownBy w' (some b) := by
  refine (l1Chance_any b t n a len cap zs W h.src ht hl hn).mono ?_
  rintro e w' ⟨c, rfl, h3, h4⟩
  exact ⟨c, rfl, h.step h3 h4, h4⟩
theorem DU.bytes (h : DU w W b t a len cap zs) (n : Nat) (ht : t + n ≤ 1000000) (hl : len ≤ 1048576) :
    Calls Try.prog 44 #[.pointer (some ⟨b, 0, none⟩), .int .i64 n] W fun e w' => ∃ (a' : Option Addr) (c' : Nat) (ys : List Int), e = .returned (.slice a' n c') ∧ Own w' W.heap.size a' n c' ys ∧ DU w w' b (t + n) a len cap zs ∧ W.grownBy w' (some b) := by
  refine (l1Some_any b t n a len cap zs W h.src ht hl).mono ?_
  rintro e w' ⟨a', c', ys, rfl, h1, h3, h4⟩
  exact ⟨a', c', ys, rfl, h1, h.step h3 h4, h4⟩
end
/-- a place, bytes of this call's own, a size -/
def CutDraw (w : World) (e : Ending) (w' : World) : Prop :=
  ∃ (x y : Int) (a' : Option Addr) (n c' : Nat) (ys : List Int), e = .returned (.tuple #[.int .i64 x, .slice a' n c', .int .i64 y]) ∧ -2000 ≤ x ∧ x ≤ 2001 ∧ -1 ≤ y ∧ y ≤ 2001 ∧ n ≤ 701 ∧ Own w' w.heap.size a' n c' ys ∧ Below w.heap.size w w'

set_option maxHeartbeats 2000000 in
theorem drawCutPiece (a : Option Addr) (len cap : Nat) (zs : List Int) (w : World) (hr : Rd w a len cap zs) (hl : len ≤ 1048576) :
    Calls Try.prog 26 #[.slice a len cap] w (CutDraw w) := by
  have HR := Lib.hid hr
  clear hr
  go_enter Try.func26, Try.ntmps26
  go_wp2_with fail
  refine (l1Source_any a len cap zs _ HR.out).mono ?_
  rintro e w1 ⟨rfl, s1, b1⟩
  have D1 := Lib.hid (show DU w w1 w.heap.size 0 a len cap zs from ⟨s1, b1, Nat.le_refl _, HR.out⟩)
  clear s1 b1
  go_wp2_with fail
  refine (D1.out.next 9 (by omega) hl (by omega)).mono ?_
  rintro e w2 ⟨r, rfl, r0, r1, d2, _⟩
  have D2 := Lib.hid d2
  have hr9 := r1 (by omega)
  clear d2 D1 r1
  go_wp2_with fail
  refine (D2.out.chance 40 (by omega) hl (by omega)).mono ?_
  rintro e w3 ⟨q, rfl, d3, _⟩
  have D3 := Lib.hid d3
  clear d3 D2
  cases q with
  | true =>
    go_wp2_with fail
    refine (D3.out.pick [700, 701] 700 701 rfl rfl (by simp) (by decide) (by decide) (by omega) hl).mono ?_
    rintro e w4 ⟨n, rfl, n0, n1, d4, _⟩
    have D4 := Lib.hid d4
    clear d4 D3
    obtain ⟨N, rfl⟩ : ∃ N : Nat, n = N := ⟨n.toNat, by omega⟩
    have hN : N ≤ 701 := by omega
    go_wp2_with fail
    refine (D4.out.pick [0, 1, -1, -3, 5, -2000, 2000, 2001] (-2000) 2001 rfl rfl (by simp) (by decide) (by decide) (by omega) hl).mono ?_
    rintro e w5 ⟨x, rfl, x0, x1, d5, _⟩
    have D5 := Lib.hid d5
    clear d5 D4
    go_wp2_with fail
    refine (D5.out.bytes N (by omega) hl).mono ?_
    rintro e w6 ⟨a6, c6, ys, rfl, o6, d6, _⟩
    have D6 := Lib.hid d6
    have O6 := Lib.hid o6
    have S5 := Lib.hid (And.intro D5.out.bel.size D5.out.src.box.lt)
    clear d6 o6 D5
    go_wp2_with fail
    refine (D6.out.pick [0, 1, 3, 6, 100, 2000, 2001, -1] (-1) 2001 rfl rfl (by simp) (by decide) (by decide) (by omega) hl).mono ?_
    rintro e w7 ⟨y, rfl, y0, y1, d7, g7⟩
    have O7 := Lib.hid (O6.out.grown g7 (fun z hz e => by have := (O6.out.lt z hz).1; have := S5.out.2; simp at e; omega))
    have B7 := Lib.hid d7.bel
    clear d7 g7 D6 O6
    go_wp2
    exact bodyPost_ret (v := .tuple #[.int .i64 x, .slice a6 N c6, .int .i64 y]) (by simp [results, Try.results26, go_sem]) rfl ⟨x, y, a6, N, c6, ys, rfl, x0, x1, y0, y1, hN, O7.out.rebase S5.out.1, B7.out⟩
  | false =>
    obtain ⟨N, rfl⟩ : ∃ N : Nat, r = N := ⟨r.toNat, by omega⟩
    have hN : N ≤ 701 := by omega
    go_wp2_with fail
    refine (D3.out.pick [0, 1, -1, -3, 5, -2000, 2000, 2001] (-2000) 2001 rfl rfl (by simp) (by decide) (by decide) (by omega) hl).mono ?_
    rintro e w5 ⟨x, rfl, x0, x1, d5, _⟩
    have D5 := Lib.hid d5
    clear d5 D3
    go_wp2_with fail
    refine (D5.out.bytes N (by omega) hl).mono ?_
    rintro e w6 ⟨a6, c6, ys, rfl, o6, d6, _⟩
    have D6 := Lib.hid d6
    have O6 := Lib.hid o6
    have S5 := Lib.hid (And.intro D5.out.bel.size D5.out.src.box.lt)
    clear d6 o6 D5
    go_wp2_with fail
    refine (D6.out.pick [0, 1, 3, 6, 100, 2000, 2001, -1] (-1) 2001 rfl rfl (by simp) (by decide) (by decide) (by omega) hl).mono ?_
    rintro e w7 ⟨y, rfl, y0, y1, d7, g7⟩
    have O7 := Lib.hid (O6.out.grown g7 (fun z hz e => by have := (O6.out.lt z hz).1; have := S5.out.2; simp at e; omega))
    have B7 := Lib.hid d7.bel
    clear d7 g7 D6 O6
    go_wp2
    exact bodyPost_ret (v := .tuple #[.int .i64 x, .slice a6 N c6, .int .i64 y]) (by simp [results, Try.results26, go_sem]) rfl ⟨x, y, a6, N, c6, ys, rfl, x0, x1, y0, y1, hN, O7.out.rebase S5.out.1, B7.out⟩
end Go.Proofs.Ytlmglepphjpohaa
