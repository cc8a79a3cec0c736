/-
  Contracts of PackWord of the program and of the model: both answer by one and the same function of numbers, in an array of their own.
-/
import Derived.Test.YtbngdenlplbjhaaRes
import Derived.OpenShut
namespace Go.Proofs.Ytbngdenlplbjhaa
open Go.ChangeShapes Go.WideShapes Go.ChangeAt Go.RowKit

/-- a number in k bytes, the highest one first -/
def be (n : Int) : Nat → List Int
  | 0 => []
  | k + 1 => be (n / 256) k ++ [n % 256]
theorem be_len : ∀ (k : Nat) (n : Int), (be n k).length = k
  | 0, _ => rfl
  | k + 1, n => by simp [be, be_len k]
theorem b8_be : ∀ (k : Nat) (n : Int), B8 (be n k)
  | 0, _ => b8_nil
  | k + 1, n => by
    unfold be
    refine b8_app (b8_be k _) ?_
    intro x hx
    simp only [List.mem_singleton] at hx
    subst hx
    omega
def pwOk (n size : Int) : Bool := inB size 1 6 && decide (0 ≤ n) && decide (n < 256 ^ size.toNat)
def pwC (n size : Int) : Int := if pwOk n size then 0 else 3
def pwB (n size : Int) : List Int := if pwOk n size then be n size.toNat else []

/-- what PackWord leaves: the code, the bytes in an array of its own -/
def Packed (w : World) (c : Int) (zs : List Int) (e : Ending) (w' : World) : Prop :=
  ∃ a len cap, e = .returned (.agg #[.int .i64 c, .slice a len cap]) ∧ Own w' w.heap.size a len cap zs ∧ Below w.heap.size w w'

theorem be_step (m : Int) (r : Nat) (tail : List Int) : be m (r + 1) ++ tail = be (m / 256) r ++ (m % 256 :: tail) := by simp [be]
theorem rep_set (r : Nat) (x : Int) (tail : List Int) : (List.replicate (r + 1) 0 ++ tail).set r x = List.replicate r 0 ++ (x :: tail) := by
  rw [List.replicate_succ', List.append_assoc, List.set_append_right _ _ (by simp)]
  simp

/-- the struct of the result, made first, behind what was done to another block -/
theorem res_cells {w W0 wr : World} {x y : Value} {t : TypeId} {row : Option Nat} (H0 : W0 = w.alloc (.cells #[x, y] t)) (hg : W0.grownBy wr row) (hne : row ≠ some w.heap.size) :
    w.heap.size < wr.heap.size ∧ wr.cell? ⟨w.heap.size, 0, none⟩ = some x ∧ wr.cell? ⟨w.heap.size, 1, none⟩ = some y ∧ wr.frozen? ⟨w.heap.size, 0, none⟩ = false ∧ wr.frozen? ⟨w.heap.size, 1, none⟩ = false := by
  subst H0
  have hz := hg.size
  simp only [World.size_alloc] at hz
  have hb := hg.block w.heap.size (by simp) (fun e => hne e.symm)
  exact ⟨by omega, (World.cell?_of_block (a := ⟨w.heap.size, 0, none⟩) hb).trans (by simp), (World.cell?_of_block (a := ⟨w.heap.size, 1, none⟩) hb).trans (by simp),
    (World.frozen?_of_block (a := ⟨w.heap.size, 0, none⟩) hb).trans (by simp), (World.frozen?_of_block (a := ⟨w.heap.size, 1, none⟩) hb).trans (by simp)⟩
theorem below_res {w W0 wr : World} {o : Obj} {row : Option Nat} (H0 : W0 = w.alloc o) (hg : W0.grownBy wr row) (hr : ∀ k, row = some k → w.heap.size ≤ k) : Below w.heap.size w wr := by
  subst H0
  exact ((Below.refl _ _).alloc (Nat.le_refl _) _).grown hg (by simp) hr

theorem grown_setCell (w : World) (a : Addr) (u : Value) : w.grownBy (w.setCell a u) (some a.block) :=
  ⟨rfl, rfl, rfl, by simp, fun k _ hk => heap_setCell_other w a k u (fun e => hk (by simp [e]))⟩
theorem Own.setOther {w : World} {base : Nat} {a : Option Addr} {len cap : Nat} {zs : List Int} (h : Own w base a len cap zs) (p : Addr) (u : Value) (hne : ∀ x, a = some x → x.block ≠ p.block) : Own (w.setCell p u) base a len cap zs :=
  h.grown (grown_setCell w p u) (fun x hx e => hne x hx (by simpa using e))
theorem pow_le6 (S : Nat) (h1 : 1 ≤ S) (h2 : S ≤ 6) : (256 : Int) ^ S ≤ 281474976710656 := by
  obtain rfl | rfl | rfl | rfl | rfl | rfl : S = 1 ∨ S = 2 ∨ S = 3 ∨ S = 4 ∨ S = 5 ∨ S = 6 := by omega
  all_goals decide +kernel

theorem pow_wrap (S : Nat) (h1 : 1 ≤ S) (h2 : S ≤ 6) : wrap64 (2 ^ (8 * S)) = (256 : Int) ^ S := by
  obtain rfl | rfl | rfl | rfl | rfl | rfl : S = 1 ∨ S = 2 ∨ S = 3 ∨ S = 4 ∨ S = 5 ∨ S = 6 := by omega
  all_goals decide +kernel

theorem packed_no {w : World} {o : Obj} {e : Ending} (he : e = .returned (.agg #[.int .i64 3, .slice none 0 0])) : Packed w 3 [] e (w.alloc o) :=
  ⟨none, 0, 0, he, Own.nil _ _, (Below.refl _ _).alloc (Nat.le_refl _) _⟩

theorem pwOk_parts {n s : Int} (h : pwOk n s = true) : ∃ S : Nat, s = S ∧ 1 ≤ S ∧ S ≤ 6 ∧ 0 ≤ n ∧ n < 256 ^ S := by
  simp only [pwOk, inB, Bool.and_eq_true, decide_eq_true_eq] at h
  obtain ⟨S, rfl⟩ := Int.eq_ofNat_of_zero_le (show 0 ≤ s by omega)
  exact ⟨S, rfl, by omega, by omega, h.1.2, by simpa using h.2⟩

theorem div_pow (n : Int) (k : Nat) : n / 256 ^ k / 256 = n / 256 ^ (k + 1) := by
  rw [Int.ediv_ediv_of_nonneg (by exact Int.pow_nonneg (by omega)), Int.pow_succ]
theorem div_zero_iff (n : Int) (k : Nat) (h : 0 ≤ n) : n / 256 ^ k = 0 ↔ n < 256 ^ k := by
  have hp : (0 : Int) < 256 ^ k := Int.pow_pos (by omega)
  constructor
  · intro e
    have := Int.lt_ediv_add_one_mul_self n hp
    rw [e] at this
    omega
  · intro e
    exact Int.ediv_eq_zero_of_lt h e
theorem div_le (n : Int) (k : Nat) (h : 0 ≤ n) : 0 ≤ n / 256 ^ k ∧ n / 256 ^ k ≤ n := by
  have hp : (0 : Int) < 256 ^ k := Int.pow_pos (by omega)
  exact ⟨Int.ediv_nonneg h (by omega), Int.ediv_le_self _ h⟩

theorem i64_hi {n : Int} (h : (Lit.int .i64 n).wf = true) : n ≤ 9223372036854775807 := (bounds_i64 h).2
theorem wrap_div (m : Int) (h0 : 0 ≤ m) (h1 : m ≤ 9223372036854775807) : wrap64 (m.tdiv 256) = m / 256 := by
  rw [Int.tdiv_eq_ediv_of_nonneg h0]
  exact IntWalk.wrap64_in (m / 256) (by omega)
theorem Own.rebase {w : World} {base base' : Nat} {a : Option Addr} {len cap : Nat} {zs : List Int} (h : Own w base a len cap zs) (hb : base' ≤ base) : Own w base' a len cap zs := by
  refine ⟨⟨h.row.1, ?_⟩, h.b8⟩
  rcases h.row.2 with h' | ⟨g, c, cur, h1, h2, h3⟩
  · exact .inl h'
  · exact .inr ⟨g, c, cur, h1, Nat.le_trans hb h2, h3⟩

end Go.Proofs.Ytbngdenlplbjhaa
