/-
  For every two pairs, SamePairs answers as the model does, and writes into no argument.
-/
import Derived.Test.YtimlobhlcmghfaaRows
import Derived.Test.YtimlobhlcmghfaaE8PX
import Derived.WalkKit
import Derived.ProofKit
import Derived.OpenShut
import Derived.ShutString
import Derived.ChangeOld
import Derived.Below
namespace Go.Proofs.Ytimlobhlcmghfaa.fnExactSamePairs
open Go.ChangeShapes Go.WideShapes Go.ChangeAt Go.RowKit Go.Deep
set_option linter.unusedVariables false

theorem own : ownKnob Try.prog.godebug = none := by kernel_rfl
theorem laidOut : laidOutB Try.prog = true := by kernel_rfl

set_option maxRecDepth 100000 in
theorem lifted (os : Os) (started : os.Started) (H : Type) (enc : TypeId × Value → H) :
    ReturnsInHanded {} Try.checked os 13 .any (Rows.fnExactSamePairsSpec.pre6 enc Try.prog Try.f13 Rows.fnExactSamePairsRow.domain false) (Rows.fnExactSamePairsSpec.post enc Try.prog Try.f13 false true false false) := by
  refine returnsInHanded_of_change (C := Try.checked) own started (by kernel_rfl) Try.func13
    (ChangeSpec.witness6 (enc := enc) (C := Try.checked) false ⟨#[], #[.agg #[.int .i64 0, .slice none 0 0, .slice none 0 0, .slice none 0 0], .agg #[.int .i64 0, .slice none 0 0, .slice none 0 0, .slice none 0 0]], []⟩ 8 (by kernel_rfl) (by kernel_rfl) (by kernel_rfl) (by kernel_rfl)) ?_
  intro W base args ds gs before hval0 hW hcnd _
  have hval : ∀ (j : Nat) t v, Try.f13.params[j]? = some t → args[j]? = some v → Value.okWide Try.prog W .any base t v := hval0
  have hW' := hW
  obtain ⟨p, q, hA0, hV, rfl, hfz, hnd⟩ := hW
  have hA : DataW.TrodAll enc Try.prog W 0 (fun _ => true) true Try.f13.params.toList args.toList ds p := hA0
  rw [Try.params13] at hA hval
  obtain ⟨v0, vs0, d0, ds0, p0, q0, hargs, rfl, rfl, h0, t0⟩ := trodAll_cons hA
  obtain ⟨v1, vs1, d1, ds1, p1, q1, rfl, rfl, rfl, h1, t1⟩ := trodAll_cons t0
  obtain ⟨rfl, rfl, rfl⟩ := trodAll_nil t1
  obtain rfl : args = #[v0, v1] := by cases args; simp_all
  obtain ⟨rfl, rfl⟩ := trodVars_none hV
  have k0 := h0
  have lt0 : ∀ x ∈ p0, x.block < W.heap.size := by obtain ⟨m, hm⟩ := k0; exact DataW.trod_lt m _ _ _ hm
  obtain ⟨cs0, rfl, _⟩ := okWide_struct Try.underlying93 (hval 0 93 v0 rfl rfl)
  obtain ⟨p0, r0, rfl⟩ : ∃ p, PairR.ok W p ∧ cs0 = (PairR.cells p).toArray := by
    obtain ⟨fuel, hf⟩ := h0
    obtain ⟨p, hp, hr⟩ := opens_Pair (fun _ => rfl) hf
    have e : cs0.toList = PairR.md.cells p := by simpa [Value.cells] using hp
    exact ⟨p, hr, by rw [show PairR.cells p = cs0.toList from e.symm]⟩
  have k1 := h1
  have lt1 : ∀ x ∈ p1, x.block < W.heap.size := by obtain ⟨m, hm⟩ := k1; exact DataW.trod_lt m _ _ _ hm
  obtain ⟨cs1, rfl, _⟩ := okWide_struct Try.underlying93 (hval 1 93 v1 rfl rfl)
  obtain ⟨p1, r1, rfl⟩ : ∃ p, PairR.ok W p ∧ cs1 = (PairR.cells p).toArray := by
    obtain ⟨fuel, hf⟩ := h1
    obtain ⟨p, hp, hr⟩ := opens_Pair (fun _ => rfl) hf
    have e : cs1.toList = PairR.md.cells p := by simpa [Value.cells] using hp
    exact ⟨p, hr, by rw [show PairR.cells p = cs1.toList from e.symm]⟩
  clear hA0 hval0
  refine (show Calls Try.prog 13 #[.agg (PairR.cells p0).toArray, .agg (PairR.cells p1).toArray] W fun e w' => e = .returned (.bool true) ∧ Below W.heap.size W w' from exactSamePairs p0 p1 W r0 r1).mono fun e W' ⟨he, bel⟩ => ?_
  subst he
  exact ⟨_, rfl, _, _, _, [], _, [], hW', trodAll_mk1 (shut_bool Try.underlying4 _), (trodAll_cons_mk (Below.trod laidOut (by kernel_rfl) (of_decide_eq_true (by kernel_rfl)) k0 bel lt0) (trodAll_cons_mk (Below.trod laidOut (by kernel_rfl) (of_decide_eq_true (by kernel_rfl)) k1 bel lt1) trodAll_mk0)), rfl, bel.frame _, fun h => by cases h⟩

theorem over : Rows.fnExactSamePairsRow.holds Try.pinned (OpenSpec.ofChange Rows.fnExactSamePairsSpec) :=
  OpenClaim.holds_of_wide 13 Try.f13 rfl rfl rfl rfl rfl rfl rfl ⟨rfl, rfl, rfl, rfl, rfl⟩ rfl rfl rfl rfl rfl (by kernel_rfl) Try.func13 (by kernel_rfl)
    (of_decide_eq_true (by kernel_rfl)) (by unfold Func.isWrapper; first | (rw [if_pos (by decide +kernel)]; kernel_rfl) | (rw [if_neg (by decide +kernel)]; exact ⟨rfl, rfl⟩))
    (fun os started H enc _ => lifted os started H enc)

end Go.Proofs.Ytimlobhlcmghfaa.fnExactSamePairs
namespace Go.Proofs.Ytimlobhlcmghfaa
theorem FnExactSamePairs_holds : Rows.FnExactSamePairsSaid := fnExactSamePairs.over
#print axioms FnExactSamePairs_holds
end Go.Proofs.Ytimlobhlcmghfaa
