/-
  A row of operations that only move values, or are passed over, carried out at once: by the kernel.
-/
import Derived.Test.YtimlobhlcmghfaaMem
import Derived.BigGuard
namespace Go.Proofs.Ytimlobhlcmghfaa
open Go.ChangeShapes Go.WideShapes Go.ChangeAt Go.RowKit

/-- what such a row leaves, if it holds nothing else -/
def runP (ops : Array Oper) : List Oper → Act → Option Act
  | [], a => some a
  | o :: rest, a =>
    if Region.wanted o (yielded ops a.tmps) = true then
      match o.op with
      | .move x => runP ops rest (a.put o.dst (a.eval x))
      | .assign x => runP ops rest (a.put o.dst (a.eval x))
      | .pick c x y => match a.eval c with
        | .bool b => runP ops rest (a.put o.dst (if b then a.eval x else a.eval y))
        | _ => none
      | _ => none
    else runP ops rest (a.put o.dst undef)
theorem put_defers (a : Act) (d : Option Tmp) (v : Value) : (a.put d v).defers = a.defers := by cases d <;> rfl
theorem wp_of_value {P : Program} {o : Oper} {a : Act} {w : World} {K : Act → World → Prop} {Q : Exit → Act → World → Prop} (v : Value) (h : (execOp a.eval o).run P w = .ok (.value v) w) (hk : K (a.put o.dst v) w) : o.wp P a w K Q := by
  unfold Oper.wp
  rw [h]
  exact hk
theorem wpList_runP {P : Program} {ops : Array Oper} {Q : Exit → Act → World → Prop} {w : World} : ∀ (l : List Oper) (a a' : Act), runP ops l a = some a' → Q .normal a' w → wpList P ops Q l a w
  | [], a, a', h, hq => by
    simp only [runP, Option.some.injEq] at h
    subst h
    exact hq
  | o :: rest, a, a', h, hq => by
    unfold runP at h
    split at h
    · next hw =>
      refine BigFrame.wpList_want hw fun K hK => ?_
      split at h
      · next x ho => exact wp_of_value _ (by unfold execOp; rw [ho]; rfl) (hK _ _ (wpList_runP rest _ _ h hq))
      · next x ho => exact wp_of_value _ (by unfold execOp; rw [ho]; rfl) (hK _ _ (wpList_runP rest _ _ h hq))
      · next c x y ho =>
        split at h
        · next b hb => exact wp_of_value _ (by unfold execOp; rw [ho]; simp only [hb]; cases b <;> rfl) (hK _ _ (wpList_runP rest _ _ h hq))
        · cases h
      · cases h
    · next hw => exact wpList_skip (by simpa using hw) (wpList_runP rest _ _ h hq)
theorem runP_defers {ops : Array Oper} : ∀ (l : List Oper) (a a' : Act), runP ops l a = some a' → a'.defers = a.defers
  | [], a, a', h => by
    simp only [runP, Option.some.injEq] at h
    rw [h]
  | o :: rest, a, a', h => by
    unfold runP at h
    split at h
    · split at h
      · exact (runP_defers rest _ _ h).trans (put_defers _ _ _)
      · exact (runP_defers rest _ _ h).trans (put_defers _ _ _)
      · split at h
        · exact (runP_defers rest _ _ h).trans (put_defers _ _ _)
        · cases h
      · cases h
    · exact (runP_defers rest _ _ h).trans (put_defers _ _ _)
theorem wpList_fin {P : Program} {ops : Array Oper} {Q : Exit → Act → World → Prop} {w : World} {l : List Oper} {a : Act} (n : Nat) (v : Value) (h : (runP ops l a).map (fun a' => a'.tmps.getD n undef) = some v)
    (hq : ∀ a' : Act, a'.tmps.getD n undef = v → a'.defers = a.defers → Q .normal a' w) : wpList P ops Q l a w := by
  cases e : runP ops l a with
  | none => rw [e] at h; cases h
  | some a' =>
    rw [e] at h
    simp only [Option.map_some, Option.some.injEq] at h
    exact wpList_runP l a a' e (hq a' h (runP_defers l a a' e))
end Go.Proofs.Ytimlobhlcmghfaa
