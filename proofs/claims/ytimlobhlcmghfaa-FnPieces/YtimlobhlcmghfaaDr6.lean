/-
  The state of a draw that makes its own source, and DrawCutPiece.
-/
import Derived.Test.YtimlobhlcmghfaaPick
import Derived.Test.YtimlobhlcmghfaaP6W
namespace Go.Proofs.Ytimlobhlcmghfaa
open Go.ChangeShapes Go.WideShapes Go.ChangeAt Go.RowKit

/-- from the world w on: a source b was made -/
structure DU (w W : World) (b t : Nat) (a : Option Addr) (len cap : Nat) (zs : List Int) : Prop where
  src : Src W b t a len cap zs
  bel : Below w.heap.size w W
  lo : w.heap.size ≤ b
  rd : Rd w a len cap zs
section
variable {w W W' : World} {b t t' : Nat} {a : Option Addr} {len cap : Nat} {zs : List Int}
theorem DU.step (h : DU w W b t a len cap zs) (hs : Src W' b t' a len cap zs) (hg : W.grownBy W' (some b)) : DU w W' b t' a len cap zs :=
  ⟨hs, h.bel.grown hg h.bel.size (fun k e => by cases e; exact h.lo), h.lo, h.rd⟩
theorem DU.alloc (h : DU w W b t a len cap zs) (o : Obj) : DU w (W.alloc o) b t a len cap zs := ⟨h.src.alloc o, h.bel.alloc h.bel.size o, h.lo, h.rd⟩
theorem DU.pick (h : DU w W b t a len cap zs) (xs : List Int) (lo hi : Int) {n : Nat} {cs : Array Value} (hcs : cs = (xs.map (Value.int .i64)).toArray) (hn : xs.length = n) (hx : ∀ x ∈ xs, lo ≤ x ∧ x ≤ hi) (hp : 0 < n) (hn2 : n ≤ 1000) (ht : t ≤ 1000000) (hl : len ≤ 1048576) :
    Calls Try.prog 92 #[.pointer (some ⟨b, 0, none⟩), .slice (some ⟨W.heap.size, 0, none⟩) n n] (W.alloc (.cells cs 2)) fun e w' => ∃ r : Int, e = .returned (.int .i64 r) ∧ lo ≤ r ∧ r ≤ hi ∧ DU w w' b (t + 1) a len cap zs ∧ W.grownBy w' (some b) := by
  subst hcs
  have hb := h.src.box.lt
  refine (l1Pick_any b t W.heap.size n xs lo hi a len cap zs _ (h.alloc _).src hx hn hp hn2 (Box.new _ _ _) (by omega) ht hl).mono ?_
  rintro e w' ⟨r, rfl, h1, h2, h3, h4⟩
  exact ⟨r, rfl, h1, h2, (h.alloc _).step h3 h4, grown_trans (grown_alloc _ _) h4⟩
theorem DU.next (h : DU w W b t a len cap zs) (n : Int) (ht : t ≤ 1000000) (hl : len ≤ 1048576) (hn : n ≤ 1000000) :
    Calls Try.prog 93 #[.pointer (some ⟨b, 0, none⟩), .int .i64 n] W fun e w' => ∃ r : Int, e = .returned (.int .i64 r) ∧ 0 ≤ r ∧ (1 ≤ n → r < n) ∧ DU w w' b (t + 1) a len cap zs ∧ W.grownBy w' (some b) := by
  refine (l1Next_any b t n a len cap zs W h.src ht hl hn).mono ?_
  rintro e w' ⟨r, rfl, h1, h2, h3, h4⟩
  exact ⟨r, rfl, h1, h2, h.step h3 h4, h4⟩
theorem DU.chance (h : DU w W b t a len cap zs) (n : Int) (ht : t ≤ 1000000) (hl : len ≤ 1048576) (hn : n ≤ 1000000) :
    Calls Try.prog 100 #[.pointer (some ⟨b, 0, none⟩), .int .i64 n] W fun e w' => ∃ c : Bool, e = .returned (.bool c) ∧ DU w w' b (t + 1) a len cap zs ∧ W.grownBy w' (some b) := by
  refine (l1Chance_any b t n a len cap zs W h.src ht hl hn).mono ?_
  rintro e w' ⟨c, rfl, h3, h4⟩
  exact ⟨c, rfl, h.step h3 h4, h4⟩
theorem DU.bytes (h : DU w W b t a len cap zs) (n : Nat) (ht : t + n ≤ 1000000) (hl : len ≤ 1048576) :
    Calls Try.prog 94 #[.pointer (some ⟨b, 0, none⟩), .int .i64 n] W fun e w' => ∃ (a' : Option Addr) (c' : Nat) (ys : List Int), e = .returned (.slice a' n c') ∧ Own w' W.heap.size a' n c' ys ∧ DU w w' b (t + n) a len cap zs ∧ W.grownBy w' (some b) := by
  refine (l1Some_any b t n a len cap zs W h.src ht hl).mono ?_
  rintro e w' ⟨a', c', ys, rfl, h1, h3, h4⟩
  exact ⟨a', c', ys, rfl, h1, h.step h3 h4, h4⟩
end
/-- a place, bytes of this call's own, a size -/
def CutDraw (w : World) (e : Ending) (w' : World) : Prop :=
  ∃ (x y : Int) (a' : Option Addr) (n c' : Nat) (ys : List Int), e = .returned (.tuple #[.int .i64 x, .slice a' n c', .int .i64 y]) ∧ -2000 ≤ x ∧ x ≤ 2001 ∧ -1 ≤ y ∧ y ≤ 2001 ∧ n ≤ 701 ∧ Own w' w.heap.size a' n c' ys ∧ Below w.heap.size w w'

end Go.Proofs.Ytimlobhlcmghfaa
