/-
  The state of a draw: its source, the blocks and the slices that it has made, carried as one fact.
-/
import Derived.Test.YteaiemckcepphaaMD
import Derived.Test.YteaiemckcepphaaSgR
namespace Go.Proofs.Yteaiemckcepphaa
open Go.ChangeShapes Go.WideShapes Go.ChangeAt Go.RowKit

structure Bx where
  b : Nat
  t : TypeId
  cs : Array Value
/-- from the world w on, whose block b is the source, now at the place t of its bytes zs: blocks bl and slices sl were made -/
structure DS (w W : World) (b t : Nat) (a : Option Addr) (len cap : Nat) (zs : List Int) (bl : List Bx) (sl : List Sl) : Prop where
  src : Src W b t a len cap zs
  gr : w.grownBy W (some b)
  bx : ∀ x ∈ bl, Box W x.b x.t x.cs ∧ w.heap.size ≤ x.b
  own : ∀ s ∈ sl, Own W w.heap.size s.a s.len s.cap s.zs
  lt : b < w.heap.size
section
variable {w W W' : World} {b t t' : Nat} {a : Option Addr} {len cap : Nat} {zs : List Int} {bl : List Bx} {sl : List Sl}
theorem DS.start (h : Src w b t a len cap zs) : DS w w b t a len cap zs [] [] := ⟨h, grown_of_below (Below.refl _ _) _, fun _ hx => (by cases hx), fun _ hx => (by cases hx), h.box.lt⟩
theorem DS.step (h : DS w W b t a len cap zs bl sl) (hs : Src W' b t' a len cap zs) (hg : W.grownBy W' (some b)) : DS w W' b t' a len cap zs bl sl :=
  ⟨hs, grown_trans h.gr hg, fun x hx => ⟨(h.bx x hx).1.grown hg (by have := (h.bx x hx).2; have := h.lt; simp only [ne_eq, Option.some.injEq]; omega), (h.bx x hx).2⟩, fun s hs => (h.own s hs).keepOff hg h.lt, h.lt⟩
theorem DS.alloc (h : DS w W b t a len cap zs bl sl) (o : Obj) : DS w (W.alloc o) b t a len cap zs bl sl :=
  ⟨h.src.alloc o, grown_trans h.gr (World.grownBy_alloc W o (some b)), fun x hx => ⟨(h.bx x hx).1.alloc o, (h.bx x hx).2⟩, fun s hs => (h.own s hs).alloc o, h.lt⟩
theorem DS.push (h : DS w W b t a len cap zs bl sl) (u : TypeId) (cs : Array Value) : DS w (W.alloc (.cells cs u)) b t a len cap zs (⟨W.heap.size, u, cs⟩ :: bl) sl :=
  ⟨(h.alloc _).src, (h.alloc _).gr, fun x hx => by
    rcases List.mem_cons.1 hx with rfl | hx
    · exact ⟨Box.new W u cs, h.gr.size⟩
    · exact (h.alloc _).bx x hx, (h.alloc _).own, h.lt⟩
theorem DS.drop {x : Bx} (h : DS w W b t a len cap zs (x :: bl) sl) : DS w W b t a len cap zs bl sl := ⟨h.src, h.gr, fun y hy => h.bx y (List.mem_cons_of_mem _ hy), h.own, h.lt⟩
theorem DS.give {s : Sl} (h : DS w W b t a len cap zs bl sl) (o : Own W w.heap.size s.a s.len s.cap s.zs) : DS w W b t a len cap zs bl (s :: sl) :=
  ⟨h.src, h.gr, h.bx, fun y hy => by rcases List.mem_cons.1 hy with rfl | hy; exact o; exact h.own y hy, h.lt⟩
theorem DS.at (h : DS w W b t a len cap zs bl sl) {r : Nat} {u : TypeId} {vs : Array Value} (hx : Box W r u vs) (hu : u ≠ 5) (hr : w.heap.size ≤ r) (hg : W.grownBy W' (some r)) (hne : ∀ y ∈ bl, y.b ≠ r) : DS w W' b t a len cap zs bl sl :=
  ⟨h.src.grown hg (fun x e => by cases e; have := h.lt; omega), grown_through h.gr hg (fun x e => by cases e; exact hr), fun y hy => ⟨(h.bx y hy).1.grown hg (by have := hne y hy; simpa using this), (h.bx y hy).2⟩, fun s hs => (h.own s hs).offBox hx hu hg, h.lt⟩
theorem DS.put {x : Bx} (h : DS w W b t a len cap zs (x :: bl) sl) (hu : x.t ≠ 5) (hne : ∀ y ∈ bl, y.b ≠ x.b) (i : Nat) (v : Value) : DS w (W.setCell ⟨x.b, i, none⟩ v) b t a len cap zs (⟨x.b, x.t, x.cs.setIfInBounds i v⟩ :: bl) sl := by
  have hx := h.bx x (List.mem_cons_self ..)
  have k := h.drop.at hx.1 hu hx.2 (grown_setCell W ⟨x.b, i, none⟩ v) hne
  refine ⟨k.src, k.gr, fun y hy => ?_, k.own, k.lt⟩
  rcases List.mem_cons.1 hy with rfl | hy
  · exact ⟨hx.1.put i v, hx.2⟩
  · exact k.bx y hy
theorem DS.pick (h : DS w W b t a len cap zs bl sl) (xs : List Int) (lo hi : Int) {n : Nat} {cs : Array Value} (hcs : cs = (xs.map (Value.int .i64)).toArray) (hn : xs.length = n) (hx : ∀ x ∈ xs, lo ≤ x ∧ x ≤ hi) (hp : 0 < n) (hn2 : n ≤ 1000) (ht : t ≤ 1000000) (hl : len ≤ 1048576) :
    Calls Try.prog 66 #[.pointer (some ⟨b, 0, none⟩), .slice (some ⟨W.heap.size, 0, none⟩) n n] (W.alloc (.cells cs 2)) fun e w' => ∃ r : Int, e = .returned (.int .i64 r) ∧ lo ≤ r ∧ r ≤ hi ∧ DS w w' b (t + 1) a len cap zs bl sl := by
  subst hcs
  have hb := h.lt
  have hs := h.gr.size
  refine (l1Pick_any b t W.heap.size n xs lo hi a len cap zs _ (h.alloc _).src hx hn hp hn2 (Box.new _ _ _) (by omega) ht hl).mono ?_
  rintro e w' ⟨r, rfl, h1, h2, h3, h4⟩
  exact ⟨r, rfl, h1, h2, (h.alloc _).step h3 h4⟩
theorem DS.next (h : DS w W b t a len cap zs bl sl) (n : Int) (ht : t ≤ 1000000) (hl : len ≤ 1048576) (hn : n ≤ 1000000) :
    Calls Try.prog 64 #[.pointer (some ⟨b, 0, none⟩), .int .i64 n] W fun e w' => ∃ r : Int, e = .returned (.int .i64 r) ∧ 0 ≤ r ∧ (1 ≤ n → r < n) ∧ DS w w' b (t + 1) a len cap zs bl sl := by
  refine (l1Next_any b t n a len cap zs W h.src ht hl hn).mono ?_
  rintro e w' ⟨r, rfl, h1, h2, h3, h4⟩
  exact ⟨r, rfl, h1, h2, h.step h3 h4⟩
theorem DS.seq (h : DS w W b t a len cap zs bl sl) (ht : t ≤ 900000) (hl : len ≤ 1048576) :
    Calls Try.prog 98 #[.pointer (some ⟨b, 0, none⟩)] W fun e w' => ∃ r : Int, e = .returned (.int .i64 r) ∧ 0 ≤ r ∧ r ≤ 4294967295 ∧ DS w w' b (t + 2) a len cap zs bl sl := by
  refine (l1DrawSeq_any b t a len cap zs W h.src ht hl).mono ?_
  rintro e w' ⟨r, rfl, h1, h2, h3, h4⟩
  exact ⟨r, rfl, h1, h2, h.step h3 h4⟩
theorem DS.chance (h : DS w W b t a len cap zs bl sl) (n : Int) (ht : t ≤ 1000000) (hl : len ≤ 1048576) (hn : n ≤ 1000000) :
    Calls Try.prog 73 #[.pointer (some ⟨b, 0, none⟩), .int .i64 n] W fun e w' => ∃ c : Bool, e = .returned (.bool c) ∧ DS w w' b (t + 1) a len cap zs bl sl := by
  refine (l1Chance_any b t n a len cap zs W h.src ht hl hn).mono ?_
  rintro e w' ⟨c, rfl, h3, h4⟩
  exact ⟨c, rfl, h.step h3 h4⟩
theorem DS.some (h : DS w W b t a len cap zs bl sl) (n : Nat) (ht : t + n ≤ 1000000) (hl : len ≤ 1048576) :
    Calls Try.prog 61 #[.pointer (some ⟨b, 0, none⟩), .int .i64 n] W fun e w' => ∃ (a' : Option Addr) (c' : Nat) (ys : List Int), e = .returned (.slice a' n c') ∧ DS w w' b (t + n) a len cap zs bl (⟨a', n, c', ys⟩ :: sl) := by
  refine (l1Some_any b t n a len cap zs W h.src ht hl).mono ?_
  rintro e w' ⟨a', c', ys, rfl, h1, h3, h4⟩
  exact ⟨a', c', ys, rfl, (h.step h3 h4).give (h1.rebase h.gr.size)⟩
end
end Go.Proofs.Yteaiemckcepphaa
