/-
  For every config of an end, EndFault answers as the model does.
-/
import Derived.Test.YtimlobhlcmghfaaRows
import Derived.Test.YtimlobhlcmghfaaOpen
import Derived.Test.YtimlobhlcmghfaaE8E
import Derived.WalkKit
import Derived.ProofKit
import Derived.OpenShut
import Derived.ShutString
import Derived.ChangeOld
import Derived.Below
namespace Go.Proofs.Ytimlobhlcmghfaa.fnExactEndFault
open Go.ChangeShapes Go.WideShapes Go.ChangeAt Go.RowKit Go.Deep
set_option linter.unusedVariables false

theorem own : ownKnob Try.prog.godebug = none := by kernel_rfl
theorem laidOut : laidOutB Try.prog = true := by kernel_rfl

set_option maxRecDepth 100000 in
theorem lifted (os : Os) (started : os.Started) (H : Type) (enc : TypeId × Value → H) :
    ReturnsInHanded {} Try.checked os 8 .any (Rows.fnExactEndFaultSpec.pre6 enc Try.prog Try.f8 Rows.fnExactEndFaultRow.domain false) (Rows.fnExactEndFaultSpec.post enc Try.prog Try.f8 false true false false) := by
  refine returnsInHanded_of_change (C := Try.checked) own started (by kernel_rfl) Try.func8
    (ChangeSpec.witness6 (enc := enc) (C := Try.checked) false ⟨#[], #[.agg #[.int .i64 0, .int .i64 0, .int .i64 0, .int .i64 0, .int .i64 0, .bool false]], []⟩ 8 (by kernel_rfl) (by kernel_rfl) (by kernel_rfl) (by kernel_rfl)) ?_
  intro W base args ds gs before hval0 hW hcnd _
  have hval : ∀ (j : Nat) t v, Try.f8.params[j]? = some t → args[j]? = some v → Value.okWide Try.prog W .any base t v := hval0
  have hW' := hW
  obtain ⟨p, q, hA0, hV, rfl, hfz, hnd⟩ := hW
  have hA : DataW.TrodAll enc Try.prog W 0 (fun _ => true) true Try.f8.params.toList args.toList ds p := hA0
  rw [Try.params8] at hA hval
  obtain ⟨v0, vs0, d0, ds0, p0, q0, hargs, rfl, rfl, h0, t0⟩ := trodAll_cons hA
  obtain ⟨rfl, rfl, rfl⟩ := trodAll_nil t0
  obtain rfl : args = #[v0] := by cases args; simp_all
  obtain ⟨rfl, rfl⟩ := trodVars_none hV
  have k0 := h0
  have lt0 : ∀ x ∈ p0, x.block < W.heap.size := by obtain ⟨m, hm⟩ := k0; exact DataW.trod_lt m _ _ _ hm
  obtain ⟨cs0, rfl, sz0, F0⟩ := open_flat Try.underlying76 (by kernel_rfl) (by kernel_rfl) (hval 0 76 v0 rfl rfl) h0
  obtain ⟨x0_0, e0_0, wf0_0⟩ := field_int Try.underlying2 (F0 0 _ rfl)
  obtain ⟨x0_1, e0_1, wf0_1⟩ := field_int Try.underlying2 (F0 1 _ rfl)
  obtain ⟨x0_2, e0_2, wf0_2⟩ := field_int Try.underlying2 (F0 2 _ rfl)
  obtain ⟨x0_3, e0_3, wf0_3⟩ := field_int Try.underlying2 (F0 3 _ rfl)
  obtain ⟨x0_4, e0_4, wf0_4⟩ := field_int Try.underlying2 (F0 4 _ rfl)
  obtain ⟨x0_5, e0_5⟩ := field_bool Try.underlying4 (F0 5 _ rfl)
  obtain rfl := arr6 sz0 e0_0 e0_1 e0_2 e0_3 e0_4 e0_5
  clear hA0 hval0
  refine (show Calls Try.prog 8 #[.agg #[.int .i64 x0_0, .int .i64 x0_1, .int .i64 x0_2, .int .i64 x0_3, .int .i64 x0_4, .bool x0_5]] W fun e w' => e = .returned (.bool true) ∧ Below W.heap.size W w' from endFault_law x0_0 x0_1 x0_2 x0_3 x0_4 x0_5 W).mono fun e W' ⟨he, bel⟩ => ?_
  subst he
  exact ⟨_, rfl, _, _, _, [], _, [], hW', trodAll_mk1 (shut_bool Try.underlying4 _), (trodAll_cons_mk (Below.trod laidOut (by kernel_rfl) (of_decide_eq_true (by kernel_rfl)) k0 bel lt0) trodAll_mk0), rfl, bel.frame _, fun h => by cases h⟩

theorem over : Rows.fnExactEndFaultRow.holds Try.pinned (OpenSpec.ofChange Rows.fnExactEndFaultSpec) :=
  OpenClaim.holds_of_wide 8 Try.f8 rfl rfl rfl rfl rfl rfl rfl ⟨rfl, rfl, rfl, rfl, rfl⟩ rfl rfl rfl rfl rfl (by kernel_rfl) Try.func8 (by kernel_rfl)
    (of_decide_eq_true (by kernel_rfl)) (by unfold Func.isWrapper; first | (rw [if_pos (by decide +kernel)]; kernel_rfl) | (rw [if_neg (by decide +kernel)]; exact ⟨rfl, rfl⟩))
    (fun os started H enc _ => lifted os started H enc)

end Go.Proofs.Ytimlobhlcmghfaa.fnExactEndFault
namespace Go.Proofs.Ytimlobhlcmghfaa
theorem FnExactEndFault_holds : Rows.FnExactEndFaultSaid := fnExactEndFault.over
#print axioms FnExactEndFault_holds
end Go.Proofs.Ytimlobhlcmghfaa
