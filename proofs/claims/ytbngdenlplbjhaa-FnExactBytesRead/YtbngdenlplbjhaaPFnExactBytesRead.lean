/-
  The law FnExactBytesRead holds: for every pair, every list of events and every number of a side, BytesRead answers as its model does, writes into no argument, and its answer owns its memory.
-/
import Derived.Test.YtbngdenlplbjhaaRows
import Derived.Test.YtbngdenlplbjhaaBRI
import Derived.Test.YtbngdenlplbjhaaKOPair
import Derived.Test.YtbngdenlplbjhaaKOEvent
import Derived.WalkKit
import Derived.ProofKit
import Derived.OpenShut
import Derived.ShutString
import Derived.ChangeOld
import Derived.Below
namespace Go.Proofs.Ytbngdenlplbjhaa.fnExactBytesRead
open Go.ChangeShapes Go.WideShapes Go.ChangeAt Go.RowKit Go.Deep
set_option linter.unusedVariables false

theorem own : ownKnob Try.prog.godebug = none := by kernel_rfl
theorem laidOut : laidOutB Try.prog = true := by kernel_rfl

set_option maxRecDepth 100000 in
theorem lifted (os : Os) (started : os.Started) (H : Type) (enc : TypeId × Value → H) :
    ReturnsInHanded {} Try.checked os 4 .any (Rows.fnExactBytesReadSpec.pre6 enc Try.prog Try.f4 Rows.fnExactBytesReadRow.domain false) (Rows.fnExactBytesReadSpec.post enc Try.prog Try.f4 false true false false) := by
  refine returnsInHanded_of_change (C := Try.checked) own started (by kernel_rfl) Try.func4
    (ChangeSpec.witness6 (enc := enc) (C := Try.checked) false ⟨#[], #[.agg #[.int .i64 0, .slice none 0 0, .slice none 0 0, .slice none 0 0], .slice none 0 0, .int .i64 0], []⟩ 8 (by kernel_rfl) (by kernel_rfl) (by kernel_rfl) (by kernel_rfl)) ?_
  intro W base args ds gs before hval0 hW hcnd _
  have hval : ∀ (j : Nat) t v, Try.f4.params[j]? = some t → args[j]? = some v → Value.okWide Try.prog W .any base t v := hval0
  have hW' := hW
  obtain ⟨p, q, hA0, hV, rfl, hfz, hnd⟩ := hW
  have hA : DataW.TrodAll enc Try.prog W 0 (fun _ => true) true Try.f4.params.toList args.toList ds p := hA0
  rw [Try.params4] at hA hval
  obtain ⟨v0, vs0, d0, ds0, p0, q0, hargs, rfl, rfl, h0, t0⟩ := trodAll_cons hA
  obtain ⟨v1, vs1, d1, ds1, p1, q1, rfl, rfl, rfl, h1, t1⟩ := trodAll_cons t0
  obtain ⟨v2, vs2, d2, ds2, p2, q2, rfl, rfl, rfl, h2, t2⟩ := trodAll_cons t1
  obtain ⟨rfl, rfl, rfl⟩ := trodAll_nil t2
  obtain rfl : args = #[v0, v1, v2] := by cases args; simp_all
  obtain ⟨rfl, rfl⟩ := trodVars_none hV
  have k0 := h0
  have lt0 : ∀ x ∈ p0, x.block < W.heap.size := by obtain ⟨m, hm⟩ := k0; exact DataW.trod_lt m _ _ _ hm
  obtain ⟨cs0, rfl, _⟩ := okWide_struct Try.underlying48 (hval 0 48 v0 rfl rfl)
  obtain ⟨p0, r0, rfl⟩ : ∃ p, PairR.ok W p ∧ cs0 = (PairR.cells p).toArray := by
    obtain ⟨fuel, hf⟩ := h0
    obtain ⟨p, hp, hr⟩ := opens_Pair (fun _ => rfl) hf
    have e : cs0.toList = PairR.md.cells p := by simpa [Value.cells] using hp
    exact ⟨p, hr, by rw [show PairR.cells p = cs0.toList from e.symm]⟩
  have k1 := h1
  have lt1 : ∀ x ∈ p1, x.block < W.heap.size := by obtain ⟨m, hm⟩ := k1; exact DataW.trod_lt m _ _ _ hm
  obtain ⟨s1, l1, c1, rfl⟩ := okWide_slice Try.underlying49 (hval 1 49 v1 rfl rfl)
  obtain ⟨p1, r1, ea1, el1, ec1⟩ : ∃ p : Lt EventR, Lt.ok EventR.md W p ∧ s1 = p.a ∧ l1 = p.l ∧ c1 = p.c := by
    obtain ⟨fuel, hf⟩ := h1
    obtain ⟨p, hp, hr⟩ := opens_list opens_Event (by decide) (by kernel_rfl) Try.underlying49 (fun _ => rfl) hf
    have e : Value.slice s1 l1 c1 = .slice p.a p.l p.c := by simpa [Value.cells, Md.one, Lt.v] using hp
    simp only [Value.slice.injEq] at e
    exact ⟨p, hr, e.1, e.2.1, e.2.2⟩
  subst ea1 el1 ec1
  obtain ⟨x2, rfl, rfl, rfl, wf2⟩ := open_int Try.underlying2 (hval 2 2 v2 rfl rfl) h2
  clear hA0 hval0
  refine (show Calls Try.prog 4 #[.agg (PairR.cells p0).toArray, .slice p1.a p1.l p1.c, .int .i64 x2] W fun e w' => e = .returned (.bool true) ∧ Below W.heap.size W w' from exactBytesRead p0 p1 x2 W r0 r1).mono fun e W' ⟨he, bel⟩ => ?_
  subst he
  exact ⟨_, rfl, _, _, _, [], _, [], hW', trodAll_mk1 (shut_bool Try.underlying4 _), (trodAll_cons_mk (Below.trod laidOut (by kernel_rfl) (of_decide_eq_true (by kernel_rfl)) k0 bel lt0) (trodAll_cons_mk (Below.trod laidOut (by kernel_rfl) (of_decide_eq_true (by kernel_rfl)) k1 bel lt1) (trodAll_cons_mk (shut_int Try.underlying2 wf2) trodAll_mk0))), rfl, bel.frame _, fun h => by cases h⟩

theorem over : Rows.fnExactBytesReadRow.holds Try.pinned (OpenSpec.ofChange Rows.fnExactBytesReadSpec) :=
  OpenClaim.holds_of_wide 4 Try.f4 rfl rfl rfl rfl rfl rfl rfl ⟨rfl, rfl, rfl, rfl, rfl⟩ rfl rfl rfl rfl rfl (by kernel_rfl) Try.func4 (by kernel_rfl)
    (of_decide_eq_true (by kernel_rfl)) (by unfold Func.isWrapper; first | (rw [if_pos (by decide +kernel)]; kernel_rfl) | (rw [if_neg (by decide +kernel)]; exact ⟨rfl, rfl⟩))
    (fun os started H enc _ => lifted os started H enc)

end Go.Proofs.Ytbngdenlplbjhaa.fnExactBytesRead
namespace Go.Proofs.Ytbngdenlplbjhaa
theorem FnExactBytesRead_holds : Rows.FnExactBytesReadSaid := fnExactBytesRead.over
#print axioms FnExactBytesRead_holds
end Go.Proofs.Ytbngdenlplbjhaa
