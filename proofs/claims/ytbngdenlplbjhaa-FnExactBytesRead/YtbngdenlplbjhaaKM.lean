/-
  What the marks of lists have in common.
-/
import Derived.Test.YtbngdenlplbjhaaKG
namespace Go.Proofs.Ytbngdenlplbjhaa
open Go.ChangeShapes Go.WideShapes Go.ChangeAt Go.RowKit
theorem St.mono {b lo hi : Nat} {bs cs : List Nat} {w w' : World} (h : St b lo hi bs w w') (hs : ∀ k ∈ bs, k ∈ cs) : St b lo hi cs w w' := ⟨h.os, h.tape, h.output, h.size, fun k hk hb hn => h.block k hk hb (fun e => hn (hs k e)), h.cell, h.unf⟩
theorem mixed_blks {α : Type} {M : Md α} (f : Nat → α → α) (g : α → Nat) (hf : ∀ k p, M.blks (f k p) = M.blks p) (a : Option Addr) (l c k0 j : Nat) (ps : List α) : Lt.blks M ⟨a, l, c, markRs f g k0 (ps.take j) ++ ps.drop j⟩ = Lt.blks M ⟨a, l, c, ps⟩ := by
  unfold Lt.blks
  dsimp only
  rw [List.flatMap_append, markRs_blks (M := M) f g hf, ← List.flatMap_append, List.take_append_drop]
theorem mod3_dec (n : Nat) : ((n : Int) % 3 == 0) = decide (n % 3 = 0) := by
  rw [Bool.eq_iff_iff]
  simp only [beq_iff_eq, decide_eq_true_eq]
  omega
end Go.Proofs.Ytbngdenlplbjhaa
