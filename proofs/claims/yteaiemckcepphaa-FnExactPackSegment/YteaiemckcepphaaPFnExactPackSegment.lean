/-
  The law FnExactPackSegment returns true at every two int64 and every segment (seven int64 and a slice of bytes), and nothing that was in memory changes; no conditions.
-/
import Derived.Test.YteaiemckcepphaaRows
import Derived.Test.YteaiemckcepphaaMA
import Derived.Test.YteaiemckcepphaaG5Pk
import Derived.WalkKit
import Derived.ProofKit
import Derived.OpenShut
import Derived.ShutString
import Derived.ChangeOld
import Derived.Below
namespace Go.Proofs.Yteaiemckcepphaa.fnExactPackSegment
open Go.ChangeShapes Go.WideShapes Go.ChangeAt Go.RowKit Go.Deep
set_option linter.unusedVariables false

theorem own : ownKnob Try.prog.godebug = none := by kernel_rfl
theorem laidOut : laidOutB Try.prog = true := by kernel_rfl

set_option maxRecDepth 100000 in
theorem lifted (os : Os) (started : os.Started) (H : Type) (enc : TypeId × Value → H) :
    ReturnsInHanded {} Try.checked os 8 .any (Rows.fnExactPackSegmentSpec.pre6 enc Try.prog Try.f8 Rows.fnExactPackSegmentRow.domain false) (Rows.fnExactPackSegmentSpec.post enc Try.prog Try.f8 false true false false) := by
  refine returnsInHanded_of_change (C := Try.checked) own started (by kernel_rfl) Try.func8
    (ChangeSpec.witness6 (enc := enc) (C := Try.checked) false ⟨#[], #[.int .i64 0, .int .i64 0, .agg #[.int .i64 0, .int .i64 0, .int .i64 0, .int .i64 0, .int .i64 0, .int .i64 0, .int .i64 0, .slice none 0 0]], []⟩ 8 (by kernel_rfl) (by kernel_rfl) (by kernel_rfl) (by kernel_rfl)) ?_
  intro W base args ds gs before hval0 hW hcnd _
  have hval : ∀ (j : Nat) t v, Try.f8.params[j]? = some t → args[j]? = some v → Value.okWide Try.prog W .any base t v := hval0
  have hW' := hW
  obtain ⟨p, q, hA0, hV, rfl, hfz, hnd⟩ := hW
  have hA : DataW.TrodAll enc Try.prog W 0 (fun _ => true) true Try.f8.params.toList args.toList ds p := hA0
  rw [Try.params8] at hA hval
  obtain ⟨v0, vs0, d0, ds0, p0, q0, hargs, rfl, rfl, h0, t0⟩ := trodAll_cons hA
  obtain ⟨v1, vs1, d1, ds1, p1, q1, rfl, rfl, rfl, h1, t1⟩ := trodAll_cons t0
  obtain ⟨v2, vs2, d2, ds2, p2, q2, rfl, rfl, rfl, h2, t2⟩ := trodAll_cons t1
  obtain ⟨rfl, rfl, rfl⟩ := trodAll_nil t2
  obtain rfl : args = #[v0, v1, v2] := by cases args; simp_all
  obtain ⟨rfl, rfl⟩ := trodVars_none hV
  obtain ⟨x0, rfl, rfl, rfl, wf0⟩ := open_int Try.underlying2 (hval 0 2 v0 rfl rfl) h0
  obtain ⟨x1, rfl, rfl, rfl, wf1⟩ := open_int Try.underlying2 (hval 1 2 v1 rfl rfl) h1
  have k2 := h2
  have lt2 : ∀ x ∈ p2, x.block < W.heap.size := by obtain ⟨m, hm⟩ := k2; exact DataW.trod_lt m _ _ _ hm
  obtain ⟨cs2, rfl, sz2, F2⟩ := open_flat Try.underlying52 (by kernel_rfl) (by kernel_rfl) (hval 2 52 v2 rfl rfl) h2
  obtain ⟨x2_0, e2_0, wf2_0⟩ := field_int Try.underlying2 (F2 0 _ rfl)
  obtain ⟨x2_1, e2_1, wf2_1⟩ := field_int Try.underlying2 (F2 1 _ rfl)
  obtain ⟨x2_2, e2_2, wf2_2⟩ := field_int Try.underlying2 (F2 2 _ rfl)
  obtain ⟨x2_3, e2_3, wf2_3⟩ := field_int Try.underlying2 (F2 3 _ rfl)
  obtain ⟨x2_4, e2_4, wf2_4⟩ := field_int Try.underlying2 (F2 4 _ rfl)
  obtain ⟨x2_5, e2_5, wf2_5⟩ := field_int Try.underlying2 (F2 5 _ rfl)
  obtain ⟨x2_6, e2_6, wf2_6⟩ := field_int Try.underlying2 (F2 6 _ rfl)
  obtain ⟨s2_7, l2_7, c2_7, z2_7, e2_7, r2_7⟩ := field_bytes Try.underlying22 (fun _ => rfl) (F2 7 _ rfl)
  obtain rfl := arr8 sz2 e2_0 e2_1 e2_2 e2_3 e2_4 e2_5 e2_6 e2_7
  clear hA0 hval0
  refine (show Calls Try.prog 8 #[.int .i64 x0, .int .i64 x1, .agg #[.int .i64 x2_0, .int .i64 x2_1, .int .i64 x2_2, .int .i64 x2_3, .int .i64 x2_4, .int .i64 x2_5, .int .i64 x2_6, .slice s2_7 l2_7 c2_7]] W fun e w' => e = .returned (.bool true) ∧ Below W.heap.size W w' from packSegment_law x0 x1 ⟨x2_0, x2_1, x2_2, x2_3, x2_4, x2_5, x2_6⟩ s2_7 l2_7 c2_7 z2_7 W r2_7).mono fun e W' ⟨he, bel⟩ => ?_
  subst he
  exact ⟨_, rfl, _, _, _, [], _, [], hW', trodAll_mk1 (shut_bool Try.underlying4 _), (trodAll_cons_mk (shut_int Try.underlying2 wf0) (trodAll_cons_mk (shut_int Try.underlying2 wf1) (trodAll_cons_mk (Below.trod laidOut (by kernel_rfl) (of_decide_eq_true (by kernel_rfl)) k2 bel lt2) trodAll_mk0))), rfl, bel.frame _, fun h => by cases h⟩

theorem over : Rows.fnExactPackSegmentRow.holds Try.pinned (OpenSpec.ofChange Rows.fnExactPackSegmentSpec) :=
  OpenClaim.holds_of_wide 8 Try.f8 rfl rfl rfl rfl rfl rfl rfl ⟨rfl, rfl, rfl, rfl, rfl⟩ rfl rfl rfl rfl rfl (by kernel_rfl) Try.func8 (by kernel_rfl)
    (of_decide_eq_true (by kernel_rfl)) (by unfold Func.isWrapper; first | (rw [if_pos (by decide +kernel)]; kernel_rfl) | (rw [if_neg (by decide +kernel)]; exact ⟨rfl, rfl⟩))
    (fun os started H enc _ => lifted os started H enc)

end Go.Proofs.Yteaiemckcepphaa.fnExactPackSegment
namespace Go.Proofs.Yteaiemckcepphaa
theorem FnExactPackSegment_holds : Rows.FnExactPackSegmentSaid := fnExactPackSegment.over
#print axioms FnExactPackSegment_holds
end Go.Proofs.Yteaiemckcepphaa
