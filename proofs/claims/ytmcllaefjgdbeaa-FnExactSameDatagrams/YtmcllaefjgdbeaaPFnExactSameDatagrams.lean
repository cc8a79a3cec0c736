/-
  The law FnExactSameDatagrams returns true at every two datagrams, and nothing that was in memory changes; no conditions.
-/
import Derived.Test.YtmcllaefjgdbeaaRows
import Derived.Test.YtmcllaefjgdbeaaOpen
import Derived.Test.YtmcllaefjgdbeaaD4Flt
import Derived.WalkKit
import Derived.ProofKit
import Derived.OpenShut
import Derived.ShutString
import Derived.ChangeOld
import Derived.Below
namespace Go.Proofs.Ytmcllaefjgdbeaa.fnExactSameDatagrams
open Go.ChangeShapes Go.WideShapes Go.ChangeAt Go.RowKit Go.Deep
set_option linter.unusedVariables false

theorem own : ownKnob Try.prog.godebug = none := by kernel_rfl
theorem laidOut : laidOutB Try.prog = true := by kernel_rfl

set_option maxRecDepth 100000 in
theorem lifted (os : Os) (started : os.Started) (H : Type) (enc : TypeId × Value → H) :
    ReturnsInHanded {} Try.checked os 8 .any (Rows.fnExactSameDatagramsSpec.pre6 enc Try.prog Try.f8 Rows.fnExactSameDatagramsRow.domain false) (Rows.fnExactSameDatagramsSpec.post enc Try.prog Try.f8 false true false false) := by
  refine returnsInHanded_of_change (C := Try.checked) own started (by kernel_rfl) Try.func8
    (ChangeSpec.witness6 (enc := enc) (C := Try.checked) false ⟨#[], #[.agg #[.int .i64 0, .int .i64 0, .slice none 0 0], .agg #[.int .i64 0, .int .i64 0, .slice none 0 0]], []⟩ 8 (by kernel_rfl) (by kernel_rfl) (by kernel_rfl) (by kernel_rfl)) ?_
  intro W base args ds gs before hval0 hW hcnd _
  have hval : ∀ (j : Nat) t v, Try.f8.params[j]? = some t → args[j]? = some v → Value.okWide Try.prog W .any base t v := hval0
  have hW' := hW
  obtain ⟨p, q, hA0, hV, rfl, hfz, hnd⟩ := hW
  have hA : DataW.TrodAll enc Try.prog W 0 (fun _ => true) true Try.f8.params.toList args.toList ds p := hA0
  rw [Try.params8] at hA hval
  obtain ⟨v0, vs0, d0, ds0, p0, q0, hargs, rfl, rfl, h0, t0⟩ := trodAll_cons hA
  obtain ⟨v1, vs1, d1, ds1, p1, q1, rfl, rfl, rfl, h1, t1⟩ := trodAll_cons t0
  obtain ⟨rfl, rfl, rfl⟩ := trodAll_nil t1
  obtain rfl : args = #[v0, v1] := by cases args; simp_all
  obtain ⟨rfl, rfl⟩ := trodVars_none hV
  have k0 := h0
  have lt0 : ∀ x ∈ p0, x.block < W.heap.size := by obtain ⟨m, hm⟩ := k0; exact DataW.trod_lt m _ _ _ hm
  obtain ⟨cs0, rfl, sz0, F0⟩ := open_flat Try.underlying49 (by kernel_rfl) (by kernel_rfl) (hval 0 49 v0 rfl rfl) h0
  obtain ⟨x0_0, e0_0, wf0_0⟩ := field_int Try.underlying2 (F0 0 _ rfl)
  obtain ⟨x0_1, e0_1, wf0_1⟩ := field_int Try.underlying2 (F0 1 _ rfl)
  obtain ⟨s0_2, l0_2, c0_2, z0_2, e0_2, r0_2⟩ := field_bytes Try.underlying22 (fun _ => rfl) (F0 2 _ rfl)
  obtain rfl := arr3 sz0 e0_0 e0_1 e0_2
  have k1 := h1
  have lt1 : ∀ x ∈ p1, x.block < W.heap.size := by obtain ⟨m, hm⟩ := k1; exact DataW.trod_lt m _ _ _ hm
  obtain ⟨cs1, rfl, sz1, F1⟩ := open_flat Try.underlying49 (by kernel_rfl) (by kernel_rfl) (hval 1 49 v1 rfl rfl) h1
  obtain ⟨x1_0, e1_0, wf1_0⟩ := field_int Try.underlying2 (F1 0 _ rfl)
  obtain ⟨x1_1, e1_1, wf1_1⟩ := field_int Try.underlying2 (F1 1 _ rfl)
  obtain ⟨s1_2, l1_2, c1_2, z1_2, e1_2, r1_2⟩ := field_bytes Try.underlying22 (fun _ => rfl) (F1 2 _ rfl)
  obtain rfl := arr3 sz1 e1_0 e1_1 e1_2
  clear hA0 hval0
  refine (show Calls Try.prog 8 #[.agg #[.int .i64 x0_0, .int .i64 x0_1, .slice s0_2 l0_2 c0_2], .agg #[.int .i64 x1_0, .int .i64 x1_1, .slice s1_2 l1_2 c1_2]] W fun e w' => e = .returned (.bool true) ∧ Below W.heap.size W w' from sameDatagrams_law x0_0 x0_1 s0_2 l0_2 c0_2 z0_2 x1_0 x1_1 s1_2 l1_2 c1_2 z1_2 W r0_2 r1_2).mono fun e W' ⟨he, bel⟩ => ?_
  subst he
  exact ⟨_, rfl, _, _, _, [], _, [], hW', trodAll_mk1 (shut_bool Try.underlying4 _), (trodAll_cons_mk (Below.trod laidOut (by kernel_rfl) (of_decide_eq_true (by kernel_rfl)) k0 bel lt0) (trodAll_cons_mk (Below.trod laidOut (by kernel_rfl) (of_decide_eq_true (by kernel_rfl)) k1 bel lt1) trodAll_mk0)), rfl, bel.frame _, fun h => by cases h⟩

theorem over : Rows.fnExactSameDatagramsRow.holds Try.pinned (OpenSpec.ofChange Rows.fnExactSameDatagramsSpec) :=
  OpenClaim.holds_of_wide 8 Try.f8 rfl rfl rfl rfl rfl rfl rfl ⟨rfl, rfl, rfl, rfl, rfl⟩ rfl rfl rfl rfl rfl (by kernel_rfl) Try.func8 (by kernel_rfl)
    (of_decide_eq_true (by kernel_rfl)) (by unfold Func.isWrapper; first | (rw [if_pos (by decide +kernel)]; kernel_rfl) | (rw [if_neg (by decide +kernel)]; exact ⟨rfl, rfl⟩))
    (fun os started H enc _ => lifted os started H enc)

end Go.Proofs.Ytmcllaefjgdbeaa.fnExactSameDatagrams
namespace Go.Proofs.Ytmcllaefjgdbeaa
theorem FnExactSameDatagrams_holds : Rows.FnExactSameDatagramsSaid := fnExactSameDatagrams.over
#print axioms FnExactSameDatagrams_holds
end Go.Proofs.Ytmcllaefjgdbeaa
