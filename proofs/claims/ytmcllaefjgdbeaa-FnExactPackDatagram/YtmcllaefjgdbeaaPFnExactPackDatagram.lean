/-
  The law FnExactPackDatagram returns true at every two int64 and every datagram, and nothing that was in memory changes; no conditions.
-/
import Derived.Test.YtmcllaefjgdbeaaRows
import Derived.Test.YtmcllaefjgdbeaaOpen
import Derived.Test.YtmcllaefjgdbeaaD4Pk
import Derived.WalkKit
import Derived.ProofKit
import Derived.OpenShut
import Derived.ShutString
import Derived.ChangeOld
import Derived.Below
namespace Go.Proofs.Ytmcllaefjgdbeaa.fnExactPackDatagram
open Go.ChangeShapes Go.WideShapes Go.ChangeAt Go.RowKit Go.Deep
set_option linter.unusedVariables false

theorem own : ownKnob Try.prog.godebug = none := by kernel_rfl
theorem laidOut : laidOutB Try.prog = true := by kernel_rfl

set_option maxRecDepth 100000 in
theorem lifted (os : Os) (started : os.Started) (H : Type) (enc : TypeId × Value → H) :
    ReturnsInHanded {} Try.checked os 6 .any (Rows.fnExactPackDatagramSpec.pre6 enc Try.prog Try.f6 Rows.fnExactPackDatagramRow.domain false) (Rows.fnExactPackDatagramSpec.post enc Try.prog Try.f6 false true false false) := by
  refine returnsInHanded_of_change (C := Try.checked) own started (by kernel_rfl) Try.func6
    (ChangeSpec.witness6 (enc := enc) (C := Try.checked) false ⟨#[], #[.int .i64 0, .int .i64 0, .agg #[.int .i64 0, .int .i64 0, .slice none 0 0]], []⟩ 8 (by kernel_rfl) (by kernel_rfl) (by kernel_rfl) (by kernel_rfl)) ?_
  intro W base args ds gs before hval0 hW hcnd _
  have hval : ∀ (j : Nat) t v, Try.f6.params[j]? = some t → args[j]? = some v → Value.okWide Try.prog W .any base t v := hval0
  have hW' := hW
  obtain ⟨p, q, hA0, hV, rfl, hfz, hnd⟩ := hW
  have hA : DataW.TrodAll enc Try.prog W 0 (fun _ => true) true Try.f6.params.toList args.toList ds p := hA0
  rw [Try.params6] at hA hval
  obtain ⟨v0, vs0, d0, ds0, p0, q0, hargs, rfl, rfl, h0, t0⟩ := trodAll_cons hA
  obtain ⟨v1, vs1, d1, ds1, p1, q1, rfl, rfl, rfl, h1, t1⟩ := trodAll_cons t0
  obtain ⟨v2, vs2, d2, ds2, p2, q2, rfl, rfl, rfl, h2, t2⟩ := trodAll_cons t1
  obtain ⟨rfl, rfl, rfl⟩ := trodAll_nil t2
  obtain rfl : args = #[v0, v1, v2] := by cases args; simp_all
  obtain ⟨rfl, rfl⟩ := trodVars_none hV
  obtain ⟨x0, rfl, rfl, rfl, wf0⟩ := open_int Try.underlying2 (hval 0 2 v0 rfl rfl) h0
  obtain ⟨x1, rfl, rfl, rfl, wf1⟩ := open_int Try.underlying2 (hval 1 2 v1 rfl rfl) h1
  have k2 := h2
  have lt2 : ∀ x ∈ p2, x.block < W.heap.size := by obtain ⟨m, hm⟩ := k2; exact DataW.trod_lt m _ _ _ hm
  obtain ⟨cs2, rfl, sz2, F2⟩ := open_flat Try.underlying49 (by kernel_rfl) (by kernel_rfl) (hval 2 49 v2 rfl rfl) h2
  obtain ⟨x2_0, e2_0, wf2_0⟩ := field_int Try.underlying2 (F2 0 _ rfl)
  obtain ⟨x2_1, e2_1, wf2_1⟩ := field_int Try.underlying2 (F2 1 _ rfl)
  obtain ⟨s2_2, l2_2, c2_2, z2_2, e2_2, r2_2⟩ := field_bytes Try.underlying22 (fun _ => rfl) (F2 2 _ rfl)
  obtain rfl := arr3 sz2 e2_0 e2_1 e2_2
  clear hA0 hval0
  refine (show Calls Try.prog 6 #[.int .i64 x0, .int .i64 x1, .agg #[.int .i64 x2_0, .int .i64 x2_1, .slice s2_2 l2_2 c2_2]] W fun e w' => e = .returned (.bool true) ∧ Below W.heap.size W w' from packDatagram_law x0 x1 x2_0 x2_1 s2_2 l2_2 c2_2 z2_2 W r2_2).mono fun e W' ⟨he, bel⟩ => ?_
  subst he
  exact ⟨_, rfl, _, _, _, [], _, [], hW', trodAll_mk1 (shut_bool Try.underlying4 _), (trodAll_cons_mk (shut_int Try.underlying2 wf0) (trodAll_cons_mk (shut_int Try.underlying2 wf1) (trodAll_cons_mk (Below.trod laidOut (by kernel_rfl) (of_decide_eq_true (by kernel_rfl)) k2 bel lt2) trodAll_mk0))), rfl, bel.frame _, fun h => by cases h⟩

theorem over : Rows.fnExactPackDatagramRow.holds Try.pinned (OpenSpec.ofChange Rows.fnExactPackDatagramSpec) :=
  OpenClaim.holds_of_wide 6 Try.f6 rfl rfl rfl rfl rfl rfl rfl ⟨rfl, rfl, rfl, rfl, rfl⟩ rfl rfl rfl rfl rfl (by kernel_rfl) Try.func6 (by kernel_rfl)
    (of_decide_eq_true (by kernel_rfl)) (by unfold Func.isWrapper; first | (rw [if_pos (by decide +kernel)]; kernel_rfl) | (rw [if_neg (by decide +kernel)]; exact ⟨rfl, rfl⟩))
    (fun os started H enc _ => lifted os started H enc)

end Go.Proofs.Ytmcllaefjgdbeaa.fnExactPackDatagram
namespace Go.Proofs.Ytmcllaefjgdbeaa
theorem FnExactPackDatagram_holds : Rows.FnExactPackDatagramSaid := fnExactPackDatagram.over
#print axioms FnExactPackDatagram_holds
end Go.Proofs.Ytmcllaefjgdbeaa
