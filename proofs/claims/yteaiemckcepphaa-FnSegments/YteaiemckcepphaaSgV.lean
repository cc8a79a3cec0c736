/-
  The state of a draw that makes its own source.
-/
import Derived.Test.YteaiemckcepphaaSgD
namespace Go.Proofs.Yteaiemckcepphaa
open Go.ChangeShapes Go.WideShapes Go.ChangeAt Go.RowKit

/-- from the world w on: a source b was made, and blocks bl and slices sl -/
structure DT (w W : World) (b t : Nat) (a : Option Addr) (len cap : Nat) (zs : List Int) (bl : List Bx) (sl : List Sl) : Prop where
  src : Src W b t a len cap zs
  bel : Below w.heap.size w W
  lo : w.heap.size ≤ b
  bx : ∀ x ∈ bl, Box W x.b x.t x.cs ∧ w.heap.size ≤ x.b ∧ x.b ≠ b
  own : ∀ s ∈ sl, Own W w.heap.size s.a s.len s.cap s.zs ∧ ∀ y, s.a = some y → y.block ≠ b
  rd : Rd w a len cap zs
section
variable {w W W' : World} {b t t' : Nat} {a : Option Addr} {len cap : Nat} {zs : List Int} {bl : List Bx} {sl : List Sl}
theorem DT.step (h : DT w W b t a len cap zs bl sl) (hs : Src W' b t' a len cap zs) (hg : W.grownBy W' (some b)) : DT w W' b t' a len cap zs bl sl :=
  ⟨hs, h.bel.grown hg h.bel.size (fun k e => by cases e; exact h.lo), h.lo, fun x hx => ⟨(h.bx x hx).1.grown hg (by have := (h.bx x hx).2.2; simpa using this), (h.bx x hx).2⟩, fun s hs => ⟨(h.own s hs).1.grown hg (fun y hy e => (h.own s hs).2 y hy (by simpa using e)), (h.own s hs).2⟩, h.rd⟩
theorem DT.alloc (h : DT w W b t a len cap zs bl sl) (o : Obj) : DT w (W.alloc o) b t a len cap zs bl sl :=
  ⟨h.src.alloc o, h.bel.alloc h.bel.size o, h.lo, fun x hx => ⟨(h.bx x hx).1.alloc o, (h.bx x hx).2⟩, fun s hs => ⟨(h.own s hs).1.alloc o, (h.own s hs).2⟩, h.rd⟩
theorem DT.push (h : DT w W b t a len cap zs bl sl) (u : TypeId) (cs : Array Value) : DT w (W.alloc (.cells cs u)) b t a len cap zs (⟨W.heap.size, u, cs⟩ :: bl) sl :=
  ⟨(h.alloc _).src, (h.alloc _).bel, h.lo, fun x hx => by
    rcases List.mem_cons.1 hx with rfl | hx
    · exact ⟨Box.new W u cs, h.bel.size, by have := h.src.box.lt; simp only; omega⟩
    · exact (h.alloc _).bx x hx, (h.alloc _).own, h.rd⟩
theorem DT.drop {x : Bx} (h : DT w W b t a len cap zs (x :: bl) sl) : DT w W b t a len cap zs bl sl := ⟨h.src, h.bel, h.lo, fun y hy => h.bx y (List.mem_cons_of_mem _ hy), h.own, h.rd⟩
theorem Src.off {r : Nat} (h : Src W b t a len cap zs) (hb : r ≠ b) (hg : W.grownBy W' (some r)) (hr : Rd W' a len cap zs) : Src W' b t a len cap zs := ⟨h.box.grown hg (by simpa using Ne.symm hb), hr, h.lt⟩
theorem DT.at (h : DT w W b t a len cap zs bl sl) {r : Nat} {u : TypeId} {vs : Array Value} (hx : Box W r u vs) (hu : u ≠ 5) (hr : w.heap.size ≤ r) (hrb : r ≠ b) (hg : W.grownBy W' (some r)) (hne : ∀ y ∈ bl, y.b ≠ r) : DT w W' b t a len cap zs bl sl := by
  have hb : Below w.heap.size w W' := h.bel.grown hg h.bel.size (fun k e => by cases e; exact hr)
  exact ⟨h.src.off hrb hg (h.rd.below hb), hb, h.lo, fun y hy => ⟨(h.bx y hy).1.grown hg (by have := hne y hy; simpa using this), (h.bx y hy).2⟩, fun s hs => ⟨(h.own s hs).1.offBox hx hu hg, (h.own s hs).2⟩, h.rd⟩
theorem DT.put {x : Bx} (h : DT w W b t a len cap zs (x :: bl) sl) (hu : x.t ≠ 5) (hne : ∀ y ∈ bl, y.b ≠ x.b) (i : Nat) (v : Value) : DT w (W.setCell ⟨x.b, i, none⟩ v) b t a len cap zs (⟨x.b, x.t, x.cs.setIfInBounds i v⟩ :: bl) sl := by
  have hx := h.bx x (List.mem_cons_self ..)
  have k := h.drop.at hx.1 hu hx.2.1 hx.2.2 (grown_setCell W ⟨x.b, i, none⟩ v) hne
  refine ⟨k.src, k.bel, k.lo, fun y hy => ?_, k.own, k.rd⟩
  rcases List.mem_cons.1 hy with rfl | hy
  · exact ⟨hx.1.put i v, hx.2⟩
  · exact k.bx y hy
theorem DT.drop2 {x y : Bx} (h : DT w W b t a len cap zs (x :: y :: bl) sl) : DT w W b t a len cap zs (x :: bl) sl :=
  ⟨h.src, h.bel, h.lo, fun z hz => h.bx z (by rcases List.mem_cons.1 hz with rfl | hz; exact List.mem_cons_self ..; exact List.mem_cons_of_mem _ (List.mem_cons_of_mem _ hz)), h.own, h.rd⟩
theorem DT.give {s : Sl} (h : DT w W b t a len cap zs bl sl) (o : Own W w.heap.size s.a s.len s.cap s.zs) (hn : ∀ y, s.a = some y → y.block ≠ b) : DT w W b t a len cap zs bl (s :: sl) :=
  ⟨h.src, h.bel, h.lo, h.bx, fun y hy => by rcases List.mem_cons.1 hy with rfl | hy; exact ⟨o, hn⟩; exact h.own y hy, h.rd⟩
/-- what a draw over the source makes -/
theorem DT.drawn {ss : List Sl} (h : DT w W b t a len cap zs bl sl) (d : DS W W' b t' a len cap zs [] ss) : DT w W' b t' a len cap zs bl (ss ++ sl) := by
  have k := h.step d.src d.gr
  refine ⟨k.src, k.bel, k.lo, k.bx, fun s hs => ?_, k.rd⟩
  rcases List.mem_append.1 hs with hs | hs
  · refine ⟨(d.own s hs).rebase h.bel.size, fun y hy => ?_⟩
    have := ((d.own s hs).lt y hy).1
    have := d.lt
    omega
  · exact k.own s hs
theorem DT.start {W : World} {B : Nat} (h : Rd w a len cap zs) (s : Src W B t a len cap zs) (hb : Below w.heap.size w W) (hB : w.heap.size ≤ B) (hx : ∀ x ∈ bl, Box W x.b x.t x.cs ∧ w.heap.size ≤ x.b ∧ x.b ≠ B) : DT w W B t a len cap zs bl [] :=
  ⟨s, hb, hB, hx, fun _ hs => (by cases hs), h⟩
theorem DT.pick (h : DT w W b t a len cap zs bl sl) (xs : List Int) (lo hi : Int) {n : Nat} {cs : Array Value} (hcs : cs = (xs.map (Value.int .i64)).toArray) (hn : xs.length = n) (hx : ∀ x ∈ xs, lo ≤ x ∧ x ≤ hi) (hp : 0 < n) (hn2 : n ≤ 1000) (ht : t ≤ 1000000) (hl : len ≤ 1048576) :
    Calls Try.prog 66 #[.pointer (some ⟨b, 0, none⟩), .slice (some ⟨W.heap.size, 0, none⟩) n n] (W.alloc (.cells cs 2)) fun e w' => ∃ r : Int, e = .returned (.int .i64 r) ∧ lo ≤ r ∧ r ≤ hi ∧ DT w w' b (t + 1) a len cap zs bl sl := by
  subst hcs
  have hb := h.src.box.lt
  refine (l1Pick_any b t W.heap.size n xs lo hi a len cap zs _ (h.alloc _).src hx hn hp hn2 (Box.new _ _ _) (by omega) ht hl).mono ?_
  rintro e w' ⟨r, rfl, h1, h2, h3, h4⟩
  exact ⟨r, rfl, h1, h2, (h.alloc _).step h3 h4⟩
theorem DT.next (h : DT w W b t a len cap zs bl sl) (n : Int) (ht : t ≤ 1000000) (hl : len ≤ 1048576) (hn : n ≤ 1000000) :
    Calls Try.prog 64 #[.pointer (some ⟨b, 0, none⟩), .int .i64 n] W fun e w' => ∃ r : Int, e = .returned (.int .i64 r) ∧ 0 ≤ r ∧ (1 ≤ n → r < n) ∧ DT w w' b (t + 1) a len cap zs bl sl := by
  refine (l1Next_any b t n a len cap zs W h.src ht hl hn).mono ?_
  rintro e w' ⟨r, rfl, h1, h2, h3, h4⟩
  exact ⟨r, rfl, h1, h2, h.step h3 h4⟩
theorem DT.chance (h : DT w W b t a len cap zs bl sl) (n : Int) (ht : t ≤ 1000000) (hl : len ≤ 1048576) (hn : n ≤ 1000000) :
    Calls Try.prog 73 #[.pointer (some ⟨b, 0, none⟩), .int .i64 n] W fun e w' => ∃ c : Bool, e = .returned (.bool c) ∧ DT w w' b (t + 1) a len cap zs bl sl := by
  refine (l1Chance_any b t n a len cap zs W h.src ht hl hn).mono ?_
  rintro e w' ⟨c, rfl, h3, h4⟩
  exact ⟨c, rfl, h.step h3 h4⟩
theorem DT.some (h : DT w W b t a len cap zs bl sl) (n : Nat) (ht : t + n ≤ 1000000) (hl : len ≤ 1048576) :
    Calls Try.prog 61 #[.pointer (some ⟨b, 0, none⟩), .int .i64 n] W fun e w' => ∃ (a' : Option Addr) (c' : Nat) (ys : List Int), e = .returned (.slice a' n c') ∧ DT w w' b (t + n) a len cap zs bl (⟨a', n, c', ys⟩ :: sl) := by
  refine (l1Some_any b t n a len cap zs W h.src ht hl).mono ?_
  rintro e w' ⟨a', c', ys, rfl, h1, h3, h4⟩
  refine ⟨a', c', ys, rfl, (h.step h3 h4).give (h1.rebase h.bel.size) (fun y hy => ?_)⟩
  have := (h1.lt y hy).1
  have := h.src.box.lt
  omega
end
end Go.Proofs.Yteaiemckcepphaa
