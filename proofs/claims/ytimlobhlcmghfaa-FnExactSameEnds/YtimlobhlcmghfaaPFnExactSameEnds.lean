/-
  For every two ends, SameEnds answers as the model does, and writes into no argument.
-/
import Derived.Test.YtimlobhlcmghfaaRows
import Derived.Test.YtimlobhlcmghfaaE8U
import Derived.WalkKit
import Derived.ProofKit
import Derived.OpenShut
import Derived.ShutString
import Derived.ChangeOld
import Derived.Below
namespace Go.Proofs.Ytimlobhlcmghfaa.fnExactSameEnds
open Go.ChangeShapes Go.WideShapes Go.ChangeAt Go.RowKit Go.Deep
set_option linter.unusedVariables false

theorem own : ownKnob Try.prog.godebug = none := by kernel_rfl
theorem laidOut : laidOutB Try.prog = true := by kernel_rfl

set_option maxRecDepth 100000 in
theorem lifted (os : Os) (started : os.Started) (H : Type) (enc : TypeId × Value → H) :
    ReturnsInHanded {} Try.checked os 12 .any (Rows.fnExactSameEndsSpec.pre6 enc Try.prog Try.f12 Rows.fnExactSameEndsRow.domain false) (Rows.fnExactSameEndsSpec.post enc Try.prog Try.f12 false true false false) := by
  refine returnsInHanded_of_change (C := Try.checked) own started (by kernel_rfl) Try.func12
    (ChangeSpec.witness6 (enc := enc) (C := Try.checked) false ⟨#[], #[.agg #[.int .i64 0, .int .i64 0, .int .i64 0, .int .i64 0, .int .i64 0, .int .i64 0, .slice none 0 0, .bool false, .int .i64 0, .int .i64 0, .slice none 0 0, .int .i64 0, .int .i64 0, .int .i64 0], .agg #[.int .i64 0, .int .i64 0, .int .i64 0, .int .i64 0, .int .i64 0, .int .i64 0, .slice none 0 0, .bool false, .int .i64 0, .int .i64 0, .slice none 0 0, .int .i64 0, .int .i64 0, .int .i64 0]], []⟩ 8 (by kernel_rfl) (by kernel_rfl) (by kernel_rfl) (by kernel_rfl)) ?_
  intro W base args ds gs before hval0 hW hcnd _
  have hval : ∀ (j : Nat) t v, Try.f12.params[j]? = some t → args[j]? = some v → Value.okWide Try.prog W .any base t v := hval0
  have hW' := hW
  obtain ⟨p, q, hA0, hV, rfl, hfz, hnd⟩ := hW
  have hA : DataW.TrodAll enc Try.prog W 0 (fun _ => true) true Try.f12.params.toList args.toList ds p := hA0
  rw [Try.params12] at hA hval
  obtain ⟨v0, vs0, d0, ds0, p0, q0, hargs, rfl, rfl, h0, t0⟩ := trodAll_cons hA
  obtain ⟨v1, vs1, d1, ds1, p1, q1, rfl, rfl, rfl, h1, t1⟩ := trodAll_cons t0
  obtain ⟨rfl, rfl, rfl⟩ := trodAll_nil t1
  obtain rfl : args = #[v0, v1] := by cases args; simp_all
  obtain ⟨rfl, rfl⟩ := trodVars_none hV
  have k0 := h0
  have lt0 : ∀ x ∈ p0, x.block < W.heap.size := by obtain ⟨m, hm⟩ := k0; exact DataW.trod_lt m _ _ _ hm
  obtain ⟨cs0, rfl, _⟩ := okWide_struct Try.underlying116 (hval 0 116 v0 rfl rfl)
  obtain ⟨p0, r0, rfl⟩ : ∃ p, EndR.ok W p ∧ cs0 = (EndR.cells p).toArray := by
    obtain ⟨fuel, hf⟩ := h0
    obtain ⟨p, hp, hr⟩ := opens_End (fun _ => rfl) hf
    have e : cs0.toList = EndR.md.cells p := by simpa [Value.cells] using hp
    exact ⟨p, hr, by rw [show EndR.cells p = cs0.toList from e.symm]⟩
  have k1 := h1
  have lt1 : ∀ x ∈ p1, x.block < W.heap.size := by obtain ⟨m, hm⟩ := k1; exact DataW.trod_lt m _ _ _ hm
  obtain ⟨cs1, rfl, _⟩ := okWide_struct Try.underlying116 (hval 1 116 v1 rfl rfl)
  obtain ⟨p1, r1, rfl⟩ : ∃ p, EndR.ok W p ∧ cs1 = (EndR.cells p).toArray := by
    obtain ⟨fuel, hf⟩ := h1
    obtain ⟨p, hp, hr⟩ := opens_End (fun _ => rfl) hf
    have e : cs1.toList = EndR.md.cells p := by simpa [Value.cells] using hp
    exact ⟨p, hr, by rw [show EndR.cells p = cs1.toList from e.symm]⟩
  clear hA0 hval0
  refine (show Calls Try.prog 12 #[.agg (EndR.cells p0).toArray, .agg (EndR.cells p1).toArray] W fun e w' => e = .returned (.bool true) ∧ Below W.heap.size W w' from exactSameEnds p0 p1 W r0 r1).mono fun e W' ⟨he, bel⟩ => ?_
  subst he
  exact ⟨_, rfl, _, _, _, [], _, [], hW', trodAll_mk1 (shut_bool Try.underlying4 _), (trodAll_cons_mk (Below.trod laidOut (by kernel_rfl) (of_decide_eq_true (by kernel_rfl)) k0 bel lt0) (trodAll_cons_mk (Below.trod laidOut (by kernel_rfl) (of_decide_eq_true (by kernel_rfl)) k1 bel lt1) trodAll_mk0)), rfl, bel.frame _, fun h => by cases h⟩

theorem over : Rows.fnExactSameEndsRow.holds Try.pinned (OpenSpec.ofChange Rows.fnExactSameEndsSpec) :=
  OpenClaim.holds_of_wide 12 Try.f12 rfl rfl rfl rfl rfl rfl rfl ⟨rfl, rfl, rfl, rfl, rfl⟩ rfl rfl rfl rfl rfl (by kernel_rfl) Try.func12 (by kernel_rfl)
    (of_decide_eq_true (by kernel_rfl)) (by unfold Func.isWrapper; first | (rw [if_pos (by decide +kernel)]; kernel_rfl) | (rw [if_neg (by decide +kernel)]; exact ⟨rfl, rfl⟩))
    (fun os started H enc _ => lifted os started H enc)

end Go.Proofs.Ytimlobhlcmghfaa.fnExactSameEnds
namespace Go.Proofs.Ytimlobhlcmghfaa
theorem FnExactSameEnds_holds : Rows.FnExactSameEndsSaid := fnExactSameEnds.over
#print axioms FnExactSameEnds_holds
end Go.Proofs.Ytimlobhlcmghfaa
