/-
  SealSum of the model, and of the program, answer by one and the same function.
-/
import Derived.Test.YtmcllaefjgdbeaaSeal
import Derived.WalkSpells
import Derived.Deep.RegionLaw
import Derived.Deep.RegionWith
import Derived.Laws.CopyOwn
namespace Go.Proofs.Ytmcllaefjgdbeaa
open Go.ChangeShapes Go.WideShapes Go.ChangeAt Go.RowKit

theorem packed_code {w : World} {o : Obj} {c : Int} {e : Ending} (he : e = .returned (.agg #[.int .i64 c, .slice none 0 0])) : Packed w c [] e (w.alloc o) :=
  ⟨none, 0, 0, he, Own.nil _ _, (Below.refl _ _).alloc (Nat.le_refl _) _⟩

theorem below_grown {w w' : World} {B : Nat} {row : Option Nat} (hg : w.grownBy w' row) (hB : B ≤ w.heap.size) (hr : ∀ k, row = some k → B ≤ k) : Below B w w' := (Below.refl B w).grown hg hB hr

theorem field_ir (w : World) (c v : Int) : (Instr.field 71 (.agg #[.int .i64 c, .int .i64 v]) 1).run Try.prog w = .ok (.int .i64 v) w := by
  simp [Instr.field, asAgg, go_sem]
theorem field_br (w : World) (c : Int) (a : Option Addr) (l k : Nat) : (Instr.field 29 (.agg #[.int .i64 c, .slice a l k]) 1).run Try.prog w = .ok (.slice a l k) w := by
  simp [Instr.field, asAgg, go_sem]

theorem splice_cons (a : Int) (r : List Int) (A : Nat) (cs : List Int) : splice (a :: r) (A + 1) cs = a :: splice r A cs := by
  unfold splice
  rw [show A + 1 + cs.length = (A + cs.length) + 1 by omega]
  rfl
theorem set2_splice : ∀ (A : Nat) (L : List Int) (x y : Int), A + 2 ≤ L.length → (L.set A x).set (A + 1) y = splice L A [x, y]
  | _, [], _, _, h => absurd h (by simp)
  | 0, [_], _, _, h => absurd h (by simp)
  | 0, _ :: _ :: _, _, _, _ => rfl
  | A + 1, a :: r, x, y, h => by
    rw [splice_cons, ← set2_splice A r x y (by simpa using h)]
    rfl
theorem be2 (v : Int) (h : 0 ≤ v ∧ v ≤ 65535) : be v 2 = [v / 256, v % 256] := by
  have : v / 256 % 256 = v / 256 := by omega
  simp [be, this]
theorem sealB_splice (zs : List Int) (A : Nat) (h : A + 2 ≤ zs.length) : sealB zs A = splice (seal0 zs A) A (be (sumV (seal0 zs A)) 2) := by
  rw [be2 _ (sumV_bd _)]
  exact set2_splice _ _ _ _ (by simp [seal0]; omega)

end Go.Proofs.Ytmcllaefjgdbeaa
