/-
  How 'all below is as it was' is carried, hidden, over calls, allocations, draws and stores.
  A region that draws its order, by what each operation leaves: one proof an operation, whatever the order. And values that own their bytes.
  The bounds of the program: ipBound, portBound, and areWithin over a row of them.
  Contracts of the sum of sixteen bits in the model, and the function of numbers by which it answers.
  Contracts of SumOf of the program: its words come from an iterator that is ranged over; its sum folds in a closure.
  SumOf and IsSummed of the program answer as the model does.
  IsSummed of the program answers as the model does; the laws FnExactSumOf and FnExactIsSummed return true.
  Contracts of SealSum of the model: the sum of bytes is laid at its place.
  PackPacket and PackEcho of the model.
  The model's PseudoHead, DatagramFault and SameDatagrams; the sum behind a pseudo head.
  bytes.Equal, and SameFrames of the program.
  The helpers of the laws over Datagram, and the exact laws of its functions, where model and program answer the same.
  DatagramFault and SameDatagrams of the program, and their laws.
  PackDatagram of the model.
-/
import Derived.Test.YteaiemckcepphaaMA
import Derived.Deep.RegionHeld3
import Derived.RangeFuncNested
import Derived.RangeFuncBound
import Derived.RangeFuncCalls
import Derived.RangeFuncLeaves
import Derived.Shelf.Abstract
import Derived.Shelf.RegionOpen
import Derived.WalkKit
import Derived.OwnWalkIn
import Derived.TacticsInMore
import Derived.LoopNIn
import Derived.LoopIn
namespace Go.Proofs.Yteaiemckcepphaa
open Go.ChangeShapes Go.WideShapes Go.ChangeAt Go.RowKit

theorem kCall {w0 W w' : World} {n : Nat} (hb : Below W.heap.size W w') (hn : n ≤ W.heap.size) (h : Hid (Below n w0 W)) : Hid (Below n w0 w') := h.out.trans (hb.mono hn)
theorem kAlloc {w0 W : World} {n : Nat} {o : Obj} (hn : n ≤ W.heap.size) (h : Hid (Below n w0 W)) : Hid (Below n w0 (W.alloc o)) := h.out.alloc hn o
theorem kDrew {w0 W : World} {n : Nat} (h : Hid (Below n w0 W)) : Hid (Below n w0 W.drew) := h.out.drew
theorem kSet {w0 W : World} {n : Nat} {p : Addr} {u : Value} (hp : n ≤ p.block) (h : Hid (Below n w0 W)) : Hid (Below n w0 (W.setCell p u)) := h.out.setCell hp u
theorem kGrown {w0 W w' : World} {b : Nat} (hg : W.grownBy w' (some b)) (h : Hid (Below w0.heap.size w0 W)) (hb : w0.heap.size ≤ b) : Hid (Below w0.heap.size w0 w') := h.out.grown hg h.out.size (fun k e => by cases e; exact hb)
theorem kSize {w0 W : World} (h : Hid (Below w0.heap.size w0 W)) : w0.heap.size ≤ W.heap.size := h.out.size

theorem want_none {o : Oper} {y : Nat → Option Bool} {A B : Prop} (h : o.guard = none) (hA : A) : if Region.wanted o y = true then A else B := by
  rw [if_pos (by simp [Region.wanted, h])]
  exact hA
end Go.Proofs.Yteaiemckcepphaa

namespace Go.Proofs.Yteaiemckcepphaa
open Go.ChangeShapes Go.WideShapes Go.ChangeAt Go.RowKit

section
variable {P : Program} {ops : Array Oper} {Q : Exit → Act → World → Prop} {md : Region.Mode} {S : World → Prop}

/-- every operation waits for earlier ones alone -/
def inOrder (ops : Array Oper) : Bool := (List.range ops.size).all fun i => match ops[i]? with
  | some o => o.after.all fun e => decide (e.on < i)
  | none => true

theorem all_listed (ho : inOrder ops = true) {listed : Array Bool} (hz : listed.size = ops.size) (hr : Region.ready md ops listed = []) : ∀ i, i < ops.size → listed.getD i false = true := by
  intro i
  induction i using Nat.strongRecOn with
  | ind i ih =>
    intro hi
    cases hl : listed.getD i false with
    | true => rfl
    | false =>
      exfalso
      have ho' := List.all_eq_true.1 ho i (List.mem_range.2 hi)
      rw [Array.getElem?_eq_getElem hi] at ho'
      have hm : i ∈ Region.ready md ops listed := by
        refine mem_ready.2 ⟨?_, ops[i], Array.getElem?_eq_getElem hi, fun e he _ => ?_⟩
        · rw [Array.getD_eq_getD_getElem?, Array.getElem?_eq_getElem (by omega)] at hl ⊢
          simpa using hl
        · have := Array.all_eq_true_iff_forall_mem.1 ho' e he
          have hlt := of_decide_eq_true this
          exact ih e.on hlt (by omega)
      rw [hr] at hm
      cases hm

theorem count_down {listed : Array Bool} {i : Nat} (h : listed.getD i true = false) : (listed.setIfInBounds i true).toList.count false + 1 = listed.toList.count false := by
  rw [Array.getD_eq_getD_getElem?] at h
  rcases Nat.lt_or_ge i listed.size with hi | hi
  · rw [Array.getElem?_eq_getElem hi] at h
    simp only [Option.getD_some] at h
    rw [Array.toList_setIfInBounds, List.count_set (by simpa using hi)]
    have e : listed.toList[i]'(by simpa using hi) = false := by simpa using h
    have hp : 0 < listed.toList.count false := List.count_pos_iff.2 (by rw [← e]; exact List.getElem_mem _)
    simp only [e, beq_self_eq_true, if_true]
    have : ((true : Bool) == false) = false := rfl
    simp only [this, Bool.false_eq_true, if_false]
    omega
  · rw [Array.getElem?_eq_none hi] at h
    cases h

theorem getD_unlisted {listed : Array Bool} {i : Nat} (h : listed.getD i true = false) : listed.getD i false = false := by
  rw [Array.getD_eq_getD_getElem?] at h ⊢
  cases hx : listed[i]? with
  | none => rfl
  | some b => rw [hx] at h; simpa using h
/-- what is asked of the operation number i: from what holds when it comes up, what holds behind it -/
def FlowAt (P : Program) (md : Region.Mode) (ops : Array Oper) (Q : Exit → Act → World → Prop) (S : World → Prop) (Inv : Array Bool → Act → World → Prop) (i : Nat) : Prop :=
  ∀ o, ops[i]? = some o → ∀ listed a w, Inv listed a w → listed.getD i true = false → (∀ e ∈ o.after, Region.binds md e = true → listed.getD e.on false = true) →
    ∀ K' : Act → World → Prop, Shut (∀ a w, S w → Inv (listed.setIfInBounds i true) a w → K' a w) → if Region.wanted o (yielded ops a.tmps) = true then Oper.wp P o a w K' Q else K' (a.put o.dst undef) w
def FlowAll (P : Program) (md : Region.Mode) (ops : Array Oper) (Q : Exit → Act → World → Prop) (S : World → Prop) (Inv : Array Bool → Act → World → Prop) (l : List Nat) : Prop := ∀ i ∈ l, FlowAt P md ops Q S Inv i
theorem FlowAll.nil {Inv : Array Bool → Act → World → Prop} : FlowAll P md ops Q S Inv [] := fun _ h => by cases h
theorem FlowAll.cons {Inv : Array Bool → Act → World → Prop} {i : Nat} {l : List Nat} {o : Oper} (D : List Nat) (ho : ops[i]? = some o) (hD : (D.all fun d => o.after.any fun e => Region.binds md e && e.on == d) = true)
    (h : ∀ listed a w, Inv listed a w → listed.getD i true = false → (∀ d ∈ D, listed.getD d false = true) → ∀ K' : Act → World → Prop, Shut (∀ a w, S w → Inv (listed.setIfInBounds i true) a w → K' a w) → if Region.wanted o (yielded ops a.tmps) = true then Oper.wp P o a w K' Q else K' (a.put o.dst undef) w)
    (hs : FlowAll P md ops Q S Inv l) : FlowAll P md ops Q S Inv (i :: l) := by
  intro j hj
  rcases List.mem_cons.1 hj with rfl | hj
  · intro o' ho' listed a w hI hu hd K' hK
    rw [ho] at ho'
    obtain rfl := Option.some.inj ho'
    refine h listed a w hI hu (fun d hdD => ?_) K' hK
    have h1 := List.all_eq_true.1 hD d hdD
    obtain ⟨k, hk, h2⟩ := Array.any_eq_true.1 h1
    obtain ⟨e, hee⟩ : ∃ e, e = o.after[k] := ⟨_, rfl⟩
    have he : e ∈ o.after := by rw [hee]; exact Array.getElem_mem _
    rw [← hee] at h2
    simp only [Bool.and_eq_true, beq_iff_eq] at h2
    have := hd e he h2.1
    rwa [h2.2] at this
  · exact hs j hj

theorem wpAnyH_flow {Inv : Array Bool → Act → World → Prop} (todo : List Nat) (hord : inOrder ops = true) (steps : FlowAll P md ops Q S Inv todo)
    (done : ∀ listed a w, Inv listed a w → (∀ i, i < ops.size → listed.getD i false = true) → Q .normal a w) :
    ∀ (fuel : Nat) (listed : Array Bool) (a : Act) (w : World), listed.size = ops.size → listed.toList.count false ≤ fuel → (∀ i, i < ops.size → listed.getD i false = true ∨ i ∈ todo) → Inv listed a w → wpAnyH P md ops Q S fuel listed a w := by
  intro fuel
  induction fuel with
  | zero =>
    intro listed a w hz hc ht hI
    have hr : Region.ready md ops listed = [] := by
      rw [List.eq_nil_iff_forall_not_mem]
      intro i hi
      have := count_down (mem_ready.1 hi).1
      omega
    exact ⟨hr, done listed a w hI (all_listed hord hz hr)⟩
  | succ fuel ih =>
    intro listed a w hz hc ht hI
    refine ⟨fun hr => done listed a w hI (all_listed hord hz hr), fun i hi => ?_⟩
    obtain ⟨hun, o, ho, hall⟩ := mem_ready.1 hi
    have hin : i ∈ todo := by
      rcases ht i (Array.getElem?_eq_some_iff.1 ho).1 with h | h
      · rw [Array.getD_eq_getD_getElem?] at h hun
        cases hx : listed[i]? with
        | none => rw [hx] at h; cases h
        | some b => rw [hx] at h hun; simp at h hun; rw [h] at hun; cases hun
      · exact h
    refine wpOp_step ho (fun K' hK => steps i hin o ho listed a w hI hun hall K' (fun a' w' hS hI' => hK a' w' ⟨hS, ih _ _ _ (by simpa using hz) ?_ (fun j hj => ?_) hI'⟩))
    · have := count_down hun
      omega
    · rcases ht j hj with h | h
      · exact .inl (getD_set_true h)
      · exact .inr h
theorem flow_go {Inv : Array Bool → Act → World → Prop} (todo : List Nat) (hord : inOrder ops = true) {fuel : Nat} {listed : Array Bool} {a : Act} {w : World}
    (hz : (decide (listed.size = ops.size) && decide (listed.toList.count false ≤ fuel) && (List.range ops.size).all fun i => listed.getD i false || todo.contains i) = true)
    (hI : Inv listed a w) (steps : FlowAll P md ops Q S Inv todo)
    (done : ∀ listed a w, Inv listed a w → (∀ i, i < ops.size → listed.getD i false = true) → Q .normal a w) : wpAnyH P md ops Q S fuel listed a w := by
  simp only [Bool.and_eq_true, decide_eq_true_eq, List.all_eq_true, List.mem_range, Bool.or_eq_true, List.contains_iff_mem] at hz
  exact wpAnyH_flow todo hord steps done fuel listed a w hz.1.1 hz.1.2 hz.2 hI
end

/-- it holds once the operation has come up -/
def Fl (listed : Array Bool) (j : Nat) (p : Prop) : Prop := listed.getD j false = true → p
theorem Fl.get {listed : Array Bool} {j : Nat} {p : Prop} (h : Fl listed j p) (hl : listed.getD j false = true) : p := h hl
theorem Fl.new {listed : Array Bool} {j : Nat} {p : Prop} (h : p) : Fl listed j p := fun _ => h
theorem Fl.keep {listed : Array Bool} {i j : Nat} {p q : Prop} (hij : i ≠ j) (hpq : p → q) (h : Fl listed j p) : Fl (listed.setIfInBounds i true) j q := fun hl => hpq (h (by rwa [getD_set_ne false hij] at hl))
/-- it holds till the operation comes up -/
def NFl (listed : Array Bool) (j : Nat) (p : Prop) : Prop := listed.getD j false = false → p
theorem NFl.get {listed : Array Bool} {j : Nat} {p : Prop} (h : NFl listed j p) (hl : listed.getD j true = false) : p := h (getD_unlisted hl)
theorem NFl.new {listed : Array Bool} {j : Nat} {p : Prop} (h : p) : NFl listed j p := fun _ => h
theorem NFl.keep {listed : Array Bool} {i j : Nat} {p q : Prop} (hij : i ≠ j) (hpq : p → q) (h : NFl listed j p) : NFl (listed.setIfInBounds i true) j q := fun hl => hpq (h (by rwa [getD_set_ne false hij] at hl))
theorem NFl.past {listed : Array Bool} {j : Nat} {p : Prop} (hu : listed.getD j true = false) : NFl (listed.setIfInBounds j true) j p := fun hl => by
  have hj : j < listed.size := by
    rw [Array.getD_eq_getD_getElem?] at hu
    cases hx : listed[j]? with
    | none => rw [hx] at hu; cases hu
    | some b => exact (Array.getElem?_eq_some_iff.1 hx).1
  rw [Array.getD_eq_getD_getElem?, Array.getElem?_setIfInBounds_self_of_lt hj] at hl
  cases hl
theorem Fl.not {listed : Array Bool} {j : Nat} {p : Prop} (h : listed.getD j false = false) : Fl listed j p := fun hl => by rw [h] at hl; cases hl

/-- a slice of L bytes zs in an array of its own -/
def SlV (W : World) (n0 : Nat) (v : Value) (L : Nat) (zs : List Int) : Prop := ∃ a c, v = .slice a L c ∧ Own W n0 a L c zs
/-- such a one, without a code -/
def BrV (W : World) (n0 : Nat) (v : Value) (L : Nat) (zs : List Int) : Prop := ∃ a c, v = .agg #[.int .i64 0, .slice a L c] ∧ Own W n0 a L c zs
theorem SlV.below {W W' : World} {n0 L : Nat} {v : Value} {zs : List Int} (hb : Below W.heap.size W W') (h : SlV W n0 v L zs) : SlV W' n0 v L zs := by
  obtain ⟨a, c, e, o⟩ := h
  exact ⟨a, c, e, o.below hb⟩
theorem BrV.below {W W' : World} {n0 L : Nat} {v : Value} {zs : List Int} (hb : Below W.heap.size W W') (h : BrV W n0 v L zs) : BrV W' n0 v L zs := by
  obtain ⟨a, c, e, o⟩ := h
  exact ⟨a, c, e, o.below hb⟩
theorem BrV.of_packed {W W' : World} {n0 L : Nat} {zs : List Int} {e : Ending} (h : Packed W 0 zs e W') (hL : zs.length = L) (hn : n0 ≤ W.heap.size) : ∃ v, e = .returned v ∧ BrV W' n0 v L zs ∧ Below W.heap.size W W' := by
  obtain ⟨a, l, c, rfl, o, b⟩ := h
  obtain rfl : l = L := o.length.symm.trans hL
  exact ⟨_, rfl, ⟨a, c, rfl, o.rebase hn⟩, b⟩
/-- slices of bytes, one behind the other, in one array: n of them, zs in all -/
def CatV (W : World) (v : Value) (n : Nat) (zs : List Int) : Prop := ∃ g ss, v = .slice (some ⟨g, 0, none⟩) n n ∧ ss.length = n ∧ Sls W g ss ∧ catZ ss = zs ∧ sumN ss ≤ 1048576
theorem Sls.below {W W' : World} {g : Nat} {ss : List Sl} (hb : Below W.heap.size W W') (h : Sls W g ss) : Sls W' g ss := fun i s hs => ⟨keepB' hb (h i s hs).1, (h i s hs).2.below hb⟩
theorem CatV.below {W W' : World} {n : Nat} {v : Value} {zs : List Int} (hb : Below W.heap.size W W') (h : CatV W v n zs) : CatV W' v n zs := by
  obtain ⟨g, ss, e, l, s, z, m⟩ := h
  exact ⟨g, ss, e, l, s.below hb, z, m⟩
theorem sls_box {W : World} {g : Nat} {t : TypeId} {ss : List Sl} (hx : Box W g t (ss.map fun s => Value.slice s.a s.len s.cap).toArray) (h : ∀ s ∈ ss, Rd W s.a s.len s.cap s.zs) : Sls W g ss := by
  intro i s hs
  refine ⟨(hx.cell i).trans ?_, h s (List.mem_of_getElem? hs)⟩
  simp [hs]
theorem Own.keepOff {W W' : World} {n0 r L c : Nat} {a : Option Addr} {zs : List Int} (hg : W.grownBy W' (some r)) (hrn : r < n0) (o : Own W n0 a L c zs) : Own W' n0 a L c zs :=
  o.grown hg (fun x hx e => by have := (o.lt x hx).1; simp only [Option.some.injEq] at e; omega)
theorem SlV.grown {W W' : World} {n0 r L : Nat} {v : Value} {zs : List Int} (hg : W.grownBy W' (some r)) (hrn : r < n0) (h : SlV W n0 v L zs) : SlV W' n0 v L zs := by
  obtain ⟨a, c, e, o⟩ := h
  exact ⟨a, c, e, o.keepOff hg hrn⟩
theorem BrV.grown {W W' : World} {n0 r L : Nat} {v : Value} {zs : List Int} (hg : W.grownBy W' (some r)) (hrn : r < n0) (h : BrV W n0 v L zs) : BrV W' n0 v L zs := by
  obtain ⟨a, c, e, o⟩ := h
  exact ⟨a, c, e, o.keepOff hg hrn⟩
/-- a slice of bytes zs in an array of its own, of whatever length -/
def AnyV (W : World) (n0 : Nat) (v : Value) (zs : List Int) : Prop := ∃ a l c, v = .slice a l c ∧ Own W n0 a l c zs
theorem AnyV.below {W W' : World} {n0 : Nat} {v : Value} {zs : List Int} (hb : Below W.heap.size W W') (h : AnyV W n0 v zs) : AnyV W' n0 v zs := by
  obtain ⟨a, l, c, e, o⟩ := h
  exact ⟨a, l, c, e, o.below hb⟩
theorem AnyV.grown {W W' : World} {n0 r : Nat} {v : Value} {zs : List Int} (hg : W.grownBy W' (some r)) (hrn : r < n0) (h : AnyV W n0 v zs) : AnyV W' n0 v zs := by
  obtain ⟨a, l, c, e, o⟩ := h
  exact ⟨a, l, c, e, o.keepOff hg hrn⟩
/-- a struct of these cells, behind them a slice of L bytes zs in an array of its own -/
def AgV (W : World) (n0 : Nat) (v : Value) (cs : Array Value) (L : Nat) (zs : List Int) : Prop := ∃ a c, v = .agg (cs ++ #[.slice a L c]) ∧ Own W n0 a L c zs
theorem AgV.below {W W' : World} {n0 L : Nat} {v : Value} {cs : Array Value} {zs : List Int} (hb : Below W.heap.size W W') (h : AgV W n0 v cs L zs) : AgV W' n0 v cs L zs := by
  obtain ⟨a, c, e, o⟩ := h
  exact ⟨a, c, e, o.below hb⟩
theorem AgV.grown {W W' : World} {n0 r L : Nat} {v : Value} {cs : Array Value} {zs : List Int} (hg : W.grownBy W' (some r)) (hrn : r < n0) (h : AgV W n0 v cs L zs) : AgV W' n0 v cs L zs := by
  obtain ⟨a, c, e, o⟩ := h
  exact ⟨a, c, e, o.keepOff hg hrn⟩
/-- such a struct in the block r -/
def BxV (W : World) (n0 r : Nat) (t : TypeId) (cs : Array Value) (L : Nat) (zs : List Int) : Prop := ∃ a c, Box W r t (cs ++ #[.slice a L c]) ∧ Own W n0 a L c zs
theorem BxV.below {W W' : World} {n0 r L : Nat} {t : TypeId} {cs : Array Value} {zs : List Int} (hb : Below W.heap.size W W') (h : BxV W n0 r t cs L zs) : BxV W' n0 r t cs L zs := by
  obtain ⟨a, c, x, o⟩ := h
  exact ⟨a, c, x.below hb x.lt, o.below hb⟩
/-- it is this value -/
structure EqV (v x : Value) : Prop where
  eq : v = x
theorem EqV.rfl (x : Value) : EqV x x := ⟨Eq.refl x⟩
theorem keepE {W W' : World} {p : Prop} (_ : Below W.heap.size W W') (h : p) : p := h
theorem kGrownB {w0 W w' : World} {b : Nat} (hg : W.grownBy w' (some b)) (h : Hid (Below w0.heap.size w0 W)) (hb : w0.heap.size ≤ b) : Hid (Below w0.heap.size w0 w') := kGrown hg h hb
theorem Own.ne_box {W : World} {base l c g : Nat} {x : Addr} {zs : List Int} {t : TypeId} {vs : Array Value} (h : Own W base (some x) l c zs) (hx : Box W g t vs) (ht : t ≠ 5) : x.block ≠ g := by
  rintro rfl
  rcases h.shape with ⟨e, _⟩ | ⟨k, e⟩
  · cases e
  · cases e
    obtain ⟨cur, hc, _⟩ := h.block
    rw [Box] at hx
    rw [hx] at hc
    simp only [Option.some.injEq, Obj.cells.injEq] at hc
    exact ht hc.2.1
/-- a block of its own, of k cells -/
def AlV (W : World) (base : Nat) (v : Value) (t : TypeId) (k : Nat) : Prop := ∃ g vs, v = .pointer (some ⟨g, 0, none⟩) ∧ base ≤ g ∧ Box W g t vs ∧ vs.size = k
theorem AlV.below {W W' : World} {base k : Nat} {v : Value} {t : TypeId} (hb : Below W.heap.size W W') (h : AlV W base v t k) : AlV W' base v t k := by
  obtain ⟨g, vs, e, hg, x, s⟩ := h
  exact ⟨g, vs, e, hg, x.below hb x.lt, s⟩
theorem AlV.new {W : World} {base k : Nat} {t : TypeId} {vs : Array Value} (hb : base ≤ W.heap.size) (hs : vs.size = k) : AlV (W.alloc (.cells vs t)) base (.pointer (some ⟨W.heap.size, 0, none⟩)) t k := ⟨_, vs, rfl, hb, Box.new W t vs, hs⟩
/-- that block holds these cells, and behind them a slice of L bytes zs in an array of its own -/
def StV (W : World) (n0 base : Nat) (v : Value) (t : TypeId) (cs : Array Value) (L : Nat) (zs : List Int) : Prop := ∃ g a c, v = .pointer (some ⟨g, 0, none⟩) ∧ base ≤ g ∧ Box W g t (cs ++ #[.slice a L c]) ∧ Own W n0 a L c zs
theorem StV.below {W W' : World} {n0 base L : Nat} {v : Value} {t : TypeId} {cs : Array Value} {zs : List Int} (hb : Below W.heap.size W W') (h : StV W n0 base v t cs L zs) : StV W' n0 base v t cs L zs := by
  obtain ⟨g, a, c, e, hg, x, o⟩ := h
  exact ⟨g, a, c, e, hg, x.below hb x.lt, o.below hb⟩
theorem Own.offBox {W W' : World} {n0 L c g : Nat} {a : Option Addr} {zs : List Int} {t : TypeId} {vs : Array Value} (hx : Box W g t vs) (ht : t ≠ 5) (hg : W.grownBy W' (some g)) (o : Own W n0 a L c zs) : Own W' n0 a L c zs :=
  o.grown hg (fun x hx' e => by subst hx'; simp only [Option.some.injEq] at e; exact o.ne_box hx ht e)
theorem SlV.off {W W' : World} {n0 g L : Nat} {v : Value} {zs : List Int} {t : TypeId} {vs : Array Value} (hx : Box W g t vs) (ht : t ≠ 5) (hg : W.grownBy W' (some g)) (h : SlV W n0 v L zs) : SlV W' n0 v L zs := by
  obtain ⟨a, c, e, o⟩ := h
  exact ⟨a, c, e, o.offBox hx ht hg⟩
theorem AgV.off {W W' : World} {n0 g L : Nat} {v : Value} {cs : Array Value} {zs : List Int} {t : TypeId} {vs : Array Value} (hx : Box W g t vs) (ht : t ≠ 5) (hg : W.grownBy W' (some g)) (h : AgV W n0 v cs L zs) : AgV W' n0 v cs L zs := by
  obtain ⟨a, c, e, o⟩ := h
  exact ⟨a, c, e, o.offBox hx ht hg⟩
theorem bAlloc (W : World) (o : Obj) : Below W.heap.size W (W.alloc o) := (Below.refl _ _).alloc (Nat.le_refl _) o
theorem SlV.lit {W : World} {n0 : Nat} {zs : List Int} (hn : n0 ≤ W.heap.size) (L : Nat) (hL : zs.length = L) (h8 : B8 zs) (hm : L ≤ maxLen) (xs : Array Value) (hx : xs = (zs.map (Value.int .u8)).toArray) : SlV (W.alloc (.cells xs 5)) n0 (.slice (some ⟨W.heap.size, 0, none⟩) L L) L zs := by
  subst hx
  refine ⟨_, _, rfl, ?_, h8⟩
  have h := World.ownsRow_lit (e := 5) (size := 1) W (zs.map (Value.int .u8)).toArray L hn hm (by simp [hL])
  simpa using h
theorem catV_call {W : World} {g n : Nat} {ss : List Sl} {zs : List Int} (hs : ss.length = n) (hS : Sls W g ss) (hZ : catZ ss = zs) (hT : sumN ss ≤ 1048576) (hn : n ≤ 1000 := by omega) :
    Calls Try.prog 55 #[.slice (some ⟨g, 0, none⟩) n n] W (FreshA W zs) := by
  subst hs hZ
  exact concat_any g ss W hS hn hT
end Go.Proofs.Yteaiemckcepphaa

namespace Go.Proofs.Yteaiemckcepphaa
open Go.ChangeShapes Go.WideShapes Go.ChangeAt Go.RowKit

structure Bd where
  n : Int
  lo : Int
  hi : Int
def bdB (b : Bd) : Bool := inB b.n b.lo b.hi
/-- the bounds bs, one behind the other, in the block g -/
def Bds (w : World) (g : Nat) (bs : List Bd) : Prop := ∀ i b, bs[i]? = some b → w.cell? ⟨g, i * 3, none⟩ = some (.int .i64 b.n) ∧ w.cell? ⟨g, i * 3 + 1, none⟩ = some (.int .i64 b.lo) ∧ w.cell? ⟨g, i * 3 + 2, none⟩ = some (.int .i64 b.hi)

/-- a number is below its bounds, above them, or in them -/
theorem in_cases' (k a b : Int) : (inB k a b = false ∧ k < a) ∨ (inB k a b = false ∧ ¬ k < a ∧ b < k) ∨ (inB k a b = true ∧ ¬ k < a ∧ ¬ b < k) := by
  by_cases h1 : k < a
  · exact .inl ⟨in_f (by omega), h1⟩
  · by_cases h2 : b < k
    · exact .inr (.inl ⟨in_f (by omega), h1, h2⟩)
    · exact .inr (.inr ⟨in_t (by omega), h1, h2⟩)

theorem ipBound_any (n : Int) (w : World) : Calls Try.prog 53 #[.int .i64 n] w fun e w' => e = .returned (.agg #[.int .i64 n, .int .i64 0, .int .i64 4294967295]) ∧ Below w.heap.size w w' := by
  go_enter Try.func53, Try.ntmps53
  go_wp2
  exact bodyPost_ret (v := .agg #[.int .i64 n, .int .i64 0, .int .i64 4294967295]) (by simp [results, Try.results53, go_sem]) rfl ⟨rfl, (Below.refl _ _).alloc (Nat.le_refl _) _⟩

theorem portBound_any (n : Int) (w : World) : Calls Try.prog 77 #[.int .i64 n] w fun e w' => e = .returned (.agg #[.int .i64 n, .int .i64 1, .int .i64 65535]) ∧ Below w.heap.size w w' := by
  go_enter Try.func77, Try.ntmps77
  go_wp2
  exact bodyPost_ret (v := .agg #[.int .i64 n, .int .i64 1, .int .i64 65535]) (by simp [results, Try.results77, go_sem]) rfl ⟨rfl, (Below.refl _ _).alloc (Nat.le_refl _) _⟩

set_option maxHeartbeats 1000000 in
theorem areWithin_any (g : Nat) (bs : List Bd) (w : World) (h : Bds w g bs) (hn : bs.length ≤ 1000) :
    Calls Try.prog 52 #[.slice (some ⟨g, 0, none⟩) bs.length bs.length] w fun e w' => e = .returned (.bool (bs.all bdB)) ∧ Below w.heap.size w w' := by
  have HS := Lib.hid h
  obtain ⟨n, hN⟩ : ∃ n, n = bs.length := ⟨_, rfl⟩
  rw [← hN] at hn ⊢
  have HN := Lib.hid hN
  clear h hN
  go_enter Try.func52, Try.ntmps52
  go_wp2
  go_loopw [7] (fun i wr => ∃ (k : Nat), k ≤ n ∧ i = .int .i64 k ∧ Hid ((bs.take k).all bdB = true) ∧ Hid (Below w.heap.size w wr)) (fun i _ => n - (intOf i).toNat)
  case atStart => exact ⟨0, Nat.zero_le _, rfl, rfl, Below.refl _ _⟩
  case round =>
    obtain ⟨k, hk, rfl, hT, hB⟩ := hrel
    by_cases hlt : k < n
    · obtain ⟨b, hb⟩ : ∃ b, bs[k]? = some b := ⟨_, List.getElem?_eq_getElem (by rw [← HN.out]; exact hlt)⟩
      obtain ⟨c0, c1, c2⟩ := HS.out k b hb
      have d0 := keepB' hB.out c0
      have d1 := keepB' hB.out c1
      have d2 := keepB' hB.out c2
      clear c0 c1 c2
      have hT' : Hid ((bs.take (k + 1)).all bdB = bdB b) := by
        have e := hT.out
        have e2 : bs.take (k + 1) = bs.take k ++ [b] := by rw [List.take_add_one, hb]; rfl
        rw [e2]; simp only [Hid, List.all_append, e, List.all_cons, List.all_nil, Bool.true_and, Bool.and_true]
      have hF : Hid (bdB b = false → bs.all bdB = false) := fun hf => by
        rw [List.all_eq_false]
        exact ⟨b, List.mem_of_getElem? hb, by simp [hf]⟩
      have B1 := Lib.hid (hB.out.alloc hB.out.size (.cells #[.int .i64 b.n, .int .i64 b.lo, .int .i64 b.hi] 73))
      have hbd : Hid (bdB b = inB b.n b.lo b.hi) := rfl
      clear hb hT hB
      generalize b.n = x at *
      generalize b.lo = y at *
      generalize b.hi = z at *
      rcases in_cases' x y z with ⟨m, q⟩ | ⟨m, q, r⟩ | ⟨m, q, r⟩
      · have HF : Hid (bs.all bdB = false) := hF.out (hbd.out.trans m)
        clear m
        go_wp2
        go_ret
        exact ⟨ret_b HF.out.symm, B1.out⟩
      · have HF : Hid (bs.all bdB = false) := hF.out (hbd.out.trans m)
        clear m
        go_wp2
        go_ret
        exact ⟨ret_b HF.out.symm, B1.out⟩
      · have HF : Hid ((bs.take (k + 1)).all bdB = true) := hT'.out.trans (hbd.out.trans m)
        clear m
        go_wp2
        go_roundw
        case rel => exact ⟨k + 1, by omega, by go_num, HF.out, B1.out⟩
        case measure => simp [intOf]; omega
    · obtain rfl : k = n := by omega
      have HF : Hid (bs.all bdB = true) := by
        have e := hT.out
        rwa [List.take_of_length_le (by rw [← HN.out]; exact Nat.le_refl _)] at e
      go_wp2
      go_ret
      exact ⟨ret_b HF.out.symm, hB.out⟩
/-- two bounds in a block of their own -/
theorem bds2 {w : World} {g : Nat} {t : TypeId} (a b : Bd) (h : Box w g t #[.int .i64 a.n, .int .i64 a.lo, .int .i64 a.hi, .int .i64 b.n, .int .i64 b.lo, .int .i64 b.hi]) : Bds w g [a, b] := by
  intro i x hx
  match i with
  | 0 => simp at hx; subst hx; exact ⟨h.cell 0, h.cell 1, h.cell 2⟩
  | 1 => simp at hx; subst hx; exact ⟨h.cell 3, h.cell 4, h.cell 5⟩
  | k + 2 => simp at hx
theorem within2 (g : Nat) (t : TypeId) (x0 l0 h0 x1 l1 h1 : Int) (w : World) (h : Box w g t #[.int .i64 x0, .int .i64 l0, .int .i64 h0, .int .i64 x1, .int .i64 l1, .int .i64 h1]) :
    Calls Try.prog 52 #[.slice (some ⟨g, 0, none⟩) 2 2] w fun e w' => e = .returned (.bool (inB x0 l0 h0 && inB x1 l1 h1)) ∧ Below w.heap.size w w' := by
  have := areWithin_any g [⟨x0, l0, h0⟩, ⟨x1, l1, h1⟩] w (bds2 ⟨x0, l0, h0⟩ ⟨x1, l1, h1⟩ h) (by simp)
  simpa [bdB] using this
theorem within4 (g : Nat) (t : TypeId) (x0 l0 h0 x1 l1 h1 x2 l2 h2 x3 l3 h3 : Int) (w : World) (h : Box w g t #[.int .i64 x0, .int .i64 l0, .int .i64 h0, .int .i64 x1, .int .i64 l1, .int .i64 h1, .int .i64 x2, .int .i64 l2, .int .i64 h2, .int .i64 x3, .int .i64 l3, .int .i64 h3]) :
    Calls Try.prog 52 #[.slice (some ⟨g, 0, none⟩) 4 4] w fun e w' => e = .returned (.bool (inB x0 l0 h0 && inB x1 l1 h1 && inB x2 l2 h2 && inB x3 l3 h3)) ∧ Below w.heap.size w w' := by
  have := areWithin_any g [⟨x0, l0, h0⟩, ⟨x1, l1, h1⟩, ⟨x2, l2, h2⟩, ⟨x3, l3, h3⟩] w (by
    intro i x hx
    match i with
    | 0 => simp at hx; subst hx; exact ⟨h.cell 0, h.cell 1, h.cell 2⟩
    | 1 => simp at hx; subst hx; exact ⟨h.cell 3, h.cell 4, h.cell 5⟩
    | 2 => simp at hx; subst hx; exact ⟨h.cell 6, h.cell 7, h.cell 8⟩
    | 3 => simp at hx; subst hx; exact ⟨h.cell 9, h.cell 10, h.cell 11⟩
    | k + 4 => simp at hx) (by simp)
  simpa [bdB, Bool.and_assoc] using this
end Go.Proofs.Yteaiemckcepphaa

namespace Go.Proofs.Yteaiemckcepphaa
open Go.ChangeShapes Go.WideShapes Go.ChangeAt Go.RowKit

/-- what 65536 leaves, and how often it is in it, together, as long as it is above 65535 -/
def foldN (n : Nat) : Nat := if n ≤ 65535 then n else foldN (n % 65536 + n / 65536)
termination_by n
decreasing_by omega
theorem foldN_le {n : Nat} (h : n ≤ 65535) : foldN n = n := by rw [foldN, if_pos h]
theorem foldN_gt {n : Nat} (h : ¬ n ≤ 65535) : foldN n = foldN (n % 65536 + n / 65536) := by rw [foldN, if_neg h]
theorem foldN_bd (n : Nat) : foldN n ≤ 65535 := by
  induction n using Nat.strongRecOn with
  | _ n ih =>
    by_cases h : n ≤ 65535
    · rw [foldN_le h]; exact h
    · rw [foldN_gt h]; exact ih _ (by omega)

/-- the bytes ahead of place k, as numbers of two bytes, added -/
def sumTo (zs : List Int) : Nat → Nat
  | 0 => 0
  | k + 1 => sumTo zs k + if k % 2 = 0 then 256 * (zs.getD k 0).toNat else (zs.getD k 0).toNat
theorem sumTo_bd (zs : List Int) (h : B8 zs) : ∀ k, sumTo zs k ≤ 65280 * k
  | 0 => by simp [sumTo]
  | k + 1 => by
    have ih := sumTo_bd zs h k
    have hb := b8_getD h k
    simp only [sumTo]
    split <;> omega
def sumV (zs : List Int) : Int := 65535 - foldN (sumTo zs zs.length)
def smC (zs : List Int) : Int := if zs.length ≤ 700 then 0 else 2
def smV (zs : List Int) : Int := if zs.length ≤ 700 then sumV zs else 0

set_option maxHeartbeats 1000000 in
theorem l1Sum_any (a : Option Addr) (len cap : Nat) (zs : List Int) (w : World) (h : Rd w a len cap zs) (hl : len ≤ 1048576) :
    Calls Try.prog 103 #[.slice a len cap] w fun e w' => e = .returned (.int .i64 (sumV zs)) ∧ w = w' := by
  have h8 := Lib.hid h.b8
  have hzl := Lib.hid h.length
  go_enter Try.func103, Try.ntmps103
  go_wp2
  go_loopw [3, 4] (fun n i wr => ∃ (k m : Nat), k ≤ len ∧ i = .int .i64 k ∧ n = .int .i64 m ∧ Hid (m = sumTo zs k) ∧ Hid (w = wr)) (fun _ i _ => len - (intOf i).toNat)
  case atStart => exact ⟨0, 0, Nat.zero_le _, rfl, rfl, rfl, rfl⟩
  case round =>
    obtain ⟨k, m, hk, rfl, rfl, hm, hW⟩ := hrel
    obtain rfl : w = wr := hW.out
    by_cases hlt : k < len
    · rcases h.cells with h0 | ⟨b, off, rfl, hc⟩
      · omega
      have hck := hc k hlt
      have hbd := b8_getD h8.out k
      have hmb : m ≤ 65280 * k := by rw [hm.out]; exact sumTo_bd zs h8.out k
      have hst : Hid (sumTo zs (k + 1) = m + if k % 2 = 0 then 256 * (zs.getD k 0).toNat else (zs.getD k 0).toNat) := by rw [hm.out]; rfl
      clear hW hm h hc
      obtain ⟨x, hx⟩ := Int.eq_ofNat_of_zero_le hbd.1
      rw [hx] at hck hbd hst
      rw [Int.toNat_natCast] at hst
      clear hx
      by_cases hp : k % 2 = 0
      · have hpb : ((k : Int) % 2 == 0) = true := by simp; omega
        go_wp2
        go_roundw
        case rel => exact ⟨k + 1, m + 256 * x, by omega, by go_num, by go_num, by rw [hst.out, if_pos hp]; rfl, trivial⟩
        case measure => simp [intOf]; omega
      · have hpb : ((k : Int) % 2 == 0) = false := by simp; omega
        go_wp2
        go_roundw
        case rel => exact ⟨k + 1, m + x, by omega, by go_num, by go_num, by rw [hst.out, if_neg hp]; rfl, trivial⟩
        case measure => simp [intOf]; omega
    · obtain rfl : k = len := by omega
      have hmb : m ≤ 65280 * k := by rw [hm.out]; exact sumTo_bd zs h8.out k
      have hst : Hid (sumV zs = 65535 - foldN m) := by unfold Hid sumV; rw [hm.out, hzl.out]
      clear hW hm h
      go_wp2
      go_loopw [3] (fun n wr => ∃ (j : Nat), n = .int .i64 j ∧ Hid (foldN j = foldN m) ∧ j ≤ 65280 * 1048576 ∧ Hid (w = wr)) (fun n _ => (intOf n).toNat)
      case atStart => exact ⟨m, rfl, rfl, by omega, rfl⟩
      case round =>
        obtain ⟨j, rfl, hj, hjb, hW⟩ := hrel
        obtain rfl : w = wr := hW.out
        clear hW
        by_cases hgt : j ≤ 65535
        · have hf : Hid (foldN m = j) := by unfold Hid; rw [← hj.out, foldN_le hgt]
          go_wp2
          go_ret
          exact ⟨ret_i (by rw [hst.out, hf.out]), rfl⟩
        · have hf : Hid (foldN (j % 65536 + j / 65536) = foldN m) := by unfold Hid; rw [← hj.out, foldN_gt hgt]
          clear hj
          go_wp2
          go_roundw
          case rel => exact ⟨j % 65536 + j / 65536, by go_num, hf.out, by omega, trivial⟩
          case measure => simp [intOf]; omega

end Go.Proofs.Yteaiemckcepphaa

namespace Go.Proofs.Yteaiemckcepphaa
open Go.ChangeShapes Go.WideShapes Go.ChangeAt Go.RowKit Go.Shelf
attribute [local go_sem] Oper.semAt_some

/-- the number of two bytes at place k, and how many there are -/
def wd (zs : List Int) (k : Nat) : Nat := 256 * (zs.getD (2 * k) 0).toNat + (zs.getD (2 * k + 1) 0).toNat
abbrev Wd := { x : Nat // x ≤ 65535 }
theorem wd_bd (zs : List Int) (h : B8 zs) (k : Nat) : wd zs k ≤ 65535 := by
  have h1 := b8_getD h (2 * k)
  have h2 := b8_getD h (2 * k + 1)
  unfold wd; omega
def wdS (zs : List Int) (h : B8 zs) (k : Nat) : Wd := ⟨wd zs k, wd_bd zs h k⟩
def upto {α : Type} (f : Nat → α) (k : Nat) : List α := (List.range k).map f
theorem upto_succ {α : Type} (f : Nat → α) (k : Nat) : upto f (k + 1) = upto f k ++ [f k] := by simp [upto, List.range_succ]
theorem upto_length {α : Type} (f : Nat → α) (k : Nat) : (upto f k).length = k := by simp [upto]
def tot (l : List Wd) : Nat := (l.map (·.1)).sum
theorem tot_snoc (l : List Wd) (x : Wd) : tot (l ++ [x]) = tot l + x.1 := by simp [tot]
theorem tot_bd : ∀ l : List Wd, tot l ≤ 65535 * l.length
  | [] => by simp [tot]
  | x :: l => by
    have := tot_bd l
    have hx := x.2
    simp only [tot, List.map_cons, List.sum_cons, List.length_cons] at *
    omega
theorem sumTo_even (zs : List Int) (h : B8 zs) : ∀ k, sumTo zs (2 * k) = tot (upto (wdS zs h) k)
  | 0 => by simp [sumTo, tot, upto]
  | k + 1 => by
    rw [upto_succ, tot_snoc, ← sumTo_even zs h k]
    have e : 2 * (k + 1) = (2 * k + 1) + 1 := by omega
    rw [e]
    simp only [sumTo, wdS, wd]
    rw [if_pos (by omega), if_neg (by omega)]
    omega
theorem sumTo_past (zs : List Int) (h : B8 zs) : sumTo zs zs.length = tot (upto (wdS zs h) ((zs.length + 1) / 2)) := by
  rw [← sumTo_even]
  by_cases e : zs.length % 2 = 0
  · rw [show 2 * ((zs.length + 1) / 2) = zs.length by omega]
  · rw [show 2 * ((zs.length + 1) / 2) = zs.length + 1 by omega]
    simp only [sumTo]
    rw [if_neg e, List.getD_eq_getElem?_getD, List.getElem?_eq_none (Nat.le_refl _)]
    simp

/-- what a round keeps: all below n₀, and the block Bs -/
def KpB (n₀ Bs : Nat) (W W' : World) : Prop := Below n₀ W W' ∧ W'.heap[Bs]? = W.heap[Bs]?
theorem KpB.refl (n₀ Bs : Nat) (W : World) : KpB n₀ Bs W W := ⟨Below.refl _ _, rfl⟩
theorem KpB.trans {n₀ Bs : Nat} {A B C : World} (h : KpB n₀ Bs A B) (k : KpB n₀ Bs B C) : KpB n₀ Bs A C := ⟨h.1.trans k.1, k.2.trans h.2⟩
theorem KpB.put {n₀ Bs : Nat} {w : World} (hn : n₀ ≤ w.heap.size) (hB : Bs < w.heap.size) (W : World) (l : Nat) (o o' : Obj) (hl : w.heap.size ≤ l) (h : W.heap[l]? = some o) (h1 : o.isCells = false) (h2 : o.isWalk = false) : KpB n₀ Bs W (W.putObj l o') :=
  ⟨belowK_b hn W l o o' hl h h1 h2, (grownBy_putObj' W l o').block Bs (by have := (Array.getElem?_eq_some_iff.1 h).1; omega) (by intro e; cases e; omega)⟩

set_option maxRecDepth 100000 in
set_option maxHeartbeats 2000000 in
theorem words1_in (F : Fence) (n : Nat) (hf : F.fn 110) (hro : F.round = none) (hn : 1 ≤ n) (l Bs n₀ b off len cap : Nat) (zs : List Int) (hlz : zs.length = len) (hlen : len ≤ 700) (h8 : B8 zs) (hb : b < n₀) (J Jx : List Wd → World → Prop)
    (hY : ∀ pre x W, J pre W → pre.length < (len + 1) / 2 → YieldAt F (n - 1) Try.prog l #[.int .i64 ((x.1 : Nat) : Int)] W fun e W' =>
      (e = .returned (.bool true) ∧ J (pre ++ [x]) W' ∧ KpB n₀ Bs W W') ∨ (e = .returned (.bool false) ∧ Jx (pre ++ [x]) W'))
    (W : World) (hBs : W.cell? ⟨Bs, 0, none⟩ = some (.slice (some ⟨b, off, none⟩) len cap)) (hc : ∀ j, j < len → W.cell? ⟨b, off + j, none⟩ = some (.int .u8 (zs.getD j 0))) (h0 : J [] W) :
    CallsIn F n Try.prog 110 #[.func (.yield l) #[] #[], .pointer (some ⟨Bs, 0, none⟩)] W fun e W' => (∃ v, e = .returned v) ∧
      ((∃ ys, ys = upto (wdS zs h8) ((len + 1) / 2) ∧ J ys W') ∨ (∃ pre, True ∧ Jx pre W')) := by
  refine callsIn_of_wp Try.func110 rfl hf ?_ hro
  simp only [Try.ntmps110, List.size_toArray, List.length_cons, List.length_nil, Nat.reduceAdd, Nat.reduceSub, Array.replicate_succ, Array.replicate_zero, List.push_toArray, List.append_toArray, List.nil_append, List.cons_append]
  have HC := Lib.hid hc
  have HY := Lib.hid hY
  have H8 := Lib.hid h8
  have HL := Lib.hid hlz
  clear hc hY
  gi_wp2
  gi_loopw [3] (fun i wr => ∃ k : Nat, k ≤ (len + 1) / 2 ∧ i = .int .i64 (2 * k : Nat) ∧ J (upto (wdS zs h8) k) wr ∧ KpB n₀ Bs W wr)
    (fun i _ => 2 * len - (intOf i).toNat)
  case atStart => exact ⟨0, Nat.zero_le _, rfl, h0, KpB.refl _ _ _⟩
  case round =>
    obtain ⟨k, hk, rfl, hJs, hnx⟩ := hrel
    have hbs := (World.cell?_of_block (a := ⟨Bs, 0, none⟩) hnx.2).trans hBs
    by_cases hlt : 2 * k < len
    · obtain ⟨fn, tmps, assign, body, hy, hR⟩ := HY.out _ (wdS zs h8 k) wr hJs (by rw [upto_length]; omega)
      have c1 := (hnx.1.cell (p := ⟨b, off + 2 * k, none⟩) hb).trans (HC.out (2 * k) hlt)
      have b1 := b8_getD H8.out (2 * k)
      have b2 := b8_getD H8.out (2 * k + 1)
      obtain ⟨x, hx⟩ := Int.eq_ofNat_of_zero_le b1.1
      obtain ⟨y, hy'⟩ := Int.eq_ofNat_of_zero_le b2.1
      have hv : ((wd zs k : Nat) : Int) = (x : Int) * 256 + y := by unfold wd; rw [hx, hy']; simp only [Int.toNat_natCast]; omega
      dsimp only [wdS] at hy
      rw [hv] at hy
      rw [hx] at c1 b1
      rw [hy'] at b2
      by_cases hlt2 : 2 * k + 1 < len
      · have c2 := (hnx.1.cell (p := ⟨b, off + (2 * k + 1), none⟩) hb).trans (HC.out (2 * k + 1) hlt2)
        rw [hy'] at c2
        clear hx hy' hv
        gi_wp2
        refine hR.mono ?_
        rintro e W3 (⟨rfl, hJ3, hk3⟩ | ⟨rfl, hJx3⟩)
        · gi_wp2
          go_roundw
          case rel => exact ⟨k + 1, by omega, by go_num, by rw [upto_succ]; exact hJ3, hnx.trans hk3⟩
          case measure => simp [intOf]; omega
        · gi_wp2
          refine bodyPost_ret (results_none rfl _ _ _) rfl ?_
          exact ⟨⟨_, rfl⟩, .inr ⟨_, trivial, hJx3⟩⟩
      · have hy0 : y = 0 := by
          have : zs.getD (2 * k + 1) 0 = 0 := by rw [List.getD_eq_getElem?_getD, List.getElem?_eq_none (by have := HL.out; omega)]; rfl
          omega
        subst hy0
        clear hx hy' hv
        simp only [Int.natCast_zero, Int.add_zero] at hy
        gi_wp2
        refine hR.mono ?_
        rintro e W3 (⟨rfl, hJ3, hk3⟩ | ⟨rfl, hJx3⟩)
        · gi_wp2
          go_roundw
          case rel => exact ⟨k + 1, by omega, by go_num, by rw [upto_succ]; exact hJ3, hnx.trans hk3⟩
          case measure => simp [intOf]; omega
        · gi_wp2
          refine bodyPost_ret (results_none rfl _ _ _) rfl ?_
          exact ⟨⟨_, rfl⟩, .inr ⟨_, trivial, hJx3⟩⟩
    · obtain rfl : k = (len + 1) / 2 := by omega
      gi_wp2
      go_end0
      exact ⟨⟨_, rfl⟩, .inl ⟨_, rfl, hJs⟩⟩
end Go.Proofs.Yteaiemckcepphaa

namespace Go.Proofs.Yteaiemckcepphaa
open Go.ChangeShapes Go.WideShapes Go.ChangeAt Go.RowKit Go.Shelf
attribute [local go_sem] Oper.semAt_some

set_option maxRecDepth 100000 in
set_option maxHeartbeats 1000000 in
theorem words0_in (F : Fence) (n : Nat) (hf : F.fn 110) (hro : F.round = none) (l Bs cap : Nat) (a : Option Addr) (J : List Wd → World → Prop) (W : World) (hBs : W.cell? ⟨Bs, 0, none⟩ = some (.slice a 0 cap)) (h0 : J [] W) :
    CallsIn F n Try.prog 110 #[.func (.yield l) #[] #[], .pointer (some ⟨Bs, 0, none⟩)] W fun e W' => (∃ v, e = .returned v) ∧ J [] W' := by
  refine callsIn_of_wp Try.func110 rfl hf ?_ hro
  simp only [Try.ntmps110, List.size_toArray, List.length_cons, List.length_nil, Nat.reduceAdd, Nat.reduceSub, Array.replicate_succ, Array.replicate_zero, List.push_toArray, List.append_toArray, List.nil_append, List.cons_append]
  gi_wp2
  gi_loopw [3] (fun i wr => i = .int .i64 0 ∧ J [] wr ∧ wr.cell? ⟨Bs, 0, none⟩ = some (.slice a 0 cap)) (fun _ _ => 0)
  case atStart => exact ⟨rfl, h0, hBs⟩
  case round =>
    obtain ⟨rfl, hJs, hc⟩ := hrel
    gi_wp2
    go_end0
    exact ⟨⟨_, rfl⟩, hJs⟩

set_option maxHeartbeats 1000000 in
theorem words_in (F : Fence) (n : Nat) (h5 : F.fn 94) (hro : F.round = none) (a : Option Addr) (len cap : Nat) (w : World) :
    CallsIn F n Try.prog 94 #[.slice a len cap] w fun e w' => e = .returned (.func (.func 110) #[] #[.pointer (some ⟨w.heap.size, 0, none⟩)]) ∧ w' = w.alloc (.cells #[.slice a len cap] 22) := by
  refine callsIn_of_wp Try.func94 rfl h5 ?_ hro
  simp only [Try.ntmps94, List.size_toArray, List.length_cons, List.length_nil, Nat.reduceAdd, Nat.reduceSub, Array.replicate_succ, Array.replicate_zero, List.push_toArray, List.append_toArray, List.nil_append, List.cons_append]
  gi_wp2
  go_ret
  exact ⟨rfl, rfl⟩

theorem words_stops (F : Fence) (n : Nat) (hf : F.fn 110) (hro : F.round = none) (hn : 1 ≤ n) (Bs n₀ : Nat) (a : Option Addr) (len cap : Nat) (zs : List Int) (hlen : len ≤ 700) (w : World) (hBn : Bs < w.heap.size)
    (hc : w.cell? ⟨Bs, 0, none⟩ = some (.slice a len cap)) (h : Rd w a len cap zs) (hlo : ∀ b off, a = some ⟨b, off, none⟩ → 0 < len → b < n₀) :
    SeqStopsK F n Try.prog 110 #[.pointer (some ⟨Bs, 0, none⟩)] (fun x : Wd => #[Value.int .i64 ((x.1 : Nat) : Int)]) (KpB n₀ Bs) (fun ys => ys = upto (wdS zs h.b8) ((len + 1) / 2)) (fun _ => True) ((len + 1) / 2) w := fun l J Jx W hW _ _ hY h0 => by
  have hc' := (hW.cell (p := ⟨Bs, 0, none⟩) hBn).trans hc
  by_cases hz : len = 0
  · subst hz
    exact (words0_in F n hf hro l Bs cap a J W hc' h0).mono fun e W' ⟨he, hj⟩ => ⟨he, .inl ⟨_, rfl, hj⟩⟩
  · rcases (h.below hW).cells with h1 | ⟨b, off, rfl, hcs⟩
    · omega
    · exact words1_in F n hf hro hn l Bs n₀ b off len cap zs h.length hlen h.b8 (hlo b off rfl (by omega)) J Jx hY W hc' hcs h0

/-- the number in a cell -/
def cellN (b : Nat) (w : World) : Nat := match w.cell? ⟨b, 0, none⟩ with
  | some v => (intOf v).toNat
  | none => 0
theorem cellN_eq {b j : Nat} {w : World} (h : w.cell? ⟨b, 0, none⟩ = some (.int .i64 (j : Int))) : cellN b w = j := by simp [cellN, h, intOf]

set_option maxHeartbeats 1000000 in
theorem fold_in (F : Fence) (n : Nat) (hf : F.fn 95) (hro : F.round = none) (b j : Nat) (w : World) (hc : w.cell? ⟨b, 0, none⟩ = some (.int .i64 (j : Int))) (hz : w.frozen? ⟨b, 0, none⟩ = false) (hj : j ≤ 65535 * 700) :
    CallsIn F n Try.prog 95 #[.pointer (some ⟨b, 0, none⟩)] w fun e w' => (∃ v, e = .returned v) ∧ w' = w.setCell ⟨b, 0, none⟩ (.int .i64 ((j % 65536 + j / 65536 : Nat) : Int)) := by
  refine callsIn_of_wp Try.func95 rfl hf ?_ hro
  simp only [Try.ntmps95, List.size_toArray, List.length_cons, List.length_nil, Nat.reduceAdd, Nat.reduceSub, Array.replicate_succ, Array.replicate_zero, List.push_toArray, List.append_toArray, List.nil_append, List.cons_append]
  gi_wp2
  go_end0
  exact ⟨⟨_, rfl⟩, by congr 2⟩

set_option maxRecDepth 100000 in
set_option maxHeartbeats 2000000 in
theorem sum_in (F : Fence) (n : Nat) (hs : F.fn 57) (hw : F.fn 94) (h1w : F.fn 110) (hfo : F.fn 95) (hro : F.round = none) (hn : 3 ≤ n) (a : Option Addr) (len cap : Nat) (zs : List Int) (w : World) (h : Rd w a len cap zs) (hlen : len ≤ 700) :
    CallsIn F n Try.prog 57 #[.slice a len cap] w fun e W' => e = .returned (ir 0 (sumV zs)) ∧ Below w.heap.size w W' := by
  have h1 : 1 ≤ n := by omega
  have hgt : decide ((700 : Int) < len) = false := decide_eq_false (by omega)
  refine callsIn_of_wp_marks Try.func57 rfl hs ?_ hro
  simp only [Try.ntmps57, List.size_toArray, List.length_cons, List.length_nil, Nat.reduceAdd, Nat.reduceSub, Array.replicate_succ, Array.replicate_zero, List.push_toArray, List.append_toArray, List.nil_append, List.cons_append]
  gi_wp2_with (gi_at_call 94; refine (words_in F (n - 1) hw hro _ _ _ _).mono ?_; rintro e w' ⟨rfl, rfl⟩)
  have bR := Box.new w 46 #[.int .i64 0, .int .i64 0]
  have bT := Box.new (w.alloc (.cells #[.int .i64 0, .int .i64 0] 46)) 2 #[.int .i64 0]
  have bS := Box.new ((w.alloc (.cells #[.int .i64 0, .int .i64 0] 46)).alloc (.cells #[.int .i64 0] 2)) 22 #[.slice a len cap]
  have hB0 : Below w.heap.size w (((w.alloc (.cells #[.int .i64 0, .int .i64 0] 46)).alloc (.cells #[.int .i64 0] 2)).alloc (.cells #[.slice a len cap] 22)) := (((Below.refl _ w).alloc (Nat.le_refl _) _).alloc (by simp) _).alloc (by simp; omega) _
  have bR' := (bR.alloc (.cells #[.int .i64 0] 2)).alloc (.cells #[.slice a len cap] 22)
  have bT' := bT.alloc (.cells #[.slice a len cap] 22)
  simp only [World.size_alloc] at bT bS bT' bR'
  refine wpIn_rangeFunc_ownG hro h1 (gf := 110) (lb := #[.pointer (some ⟨w.heap.size + 1 + 1, 0, none⟩)]) rfl h1w (enters_of Try.func110 (by kernel_rfl) rfl)
    (words_stops F (n - 1) h1w hro (by omega) (w.heap.size + 1 + 1) w.heap.size a len cap zs hlen _ (by simp) (bS.cell 0) (h.below hB0) (fun b off e hp => by
      rcases h.cells with h0 | ⟨b', off', e', hc⟩
      · omega
      · rw [e] at e'; cases e'; exact World.block_lt_of_cell? _ _ (hc 0 hp))) KpB.trans (KpB.put (by simp; omega) (by simp)) (Below.refl _ _) (fun _ => rfl)
    (fun pre W => ((W.cell? ⟨w.heap.size + 1, 0, none⟩ = some (.int .i64 (tot pre : Nat)) ∧ W.frozen? ⟨w.heap.size + 1, 0, none⟩ = false) ∧ (W.cell? ⟨w.heap.size, 0, none⟩ = some (.int .i64 0) ∧ W.frozen? ⟨w.heap.size, 0, none⟩ = false) ∧ (W.cell? ⟨w.heap.size, 1, none⟩ = some (.int .i64 0) ∧ W.frozen? ⟨w.heap.size, 1, none⟩ = false)) ∧ Below w.heap.size w W)
    (fun _ _ _ => False)
    (OwnFrom.and (_root_.Go.Own.from (fun s A B row hs hg hr => ⟨⟨cell_kept hs.1.1 hg hr, (frozen_kept hs.1.1 hg hr).trans hs.1.2⟩, ⟨cell_kept hs.2.1.1 hg hr, (frozen_kept hs.2.1.1 hg hr).trans hs.2.1.2⟩, ⟨cell_kept hs.2.2.1 hg hr, (frozen_kept hs.2.2.1 hg hr).trans hs.2.2.2⟩⟩) _) (ownFrom_below (Nat.le_refl _) (by simp; omega)))
    (fun _ _ _ _ _ hs _ _ => hs)
    ⟨⟨⟨bT'.cell 0, bT'.frozen 0⟩, ⟨bR'.cell 0, bR'.frozen 0⟩, ⟨bR'.cell 1, bR'.frozen 1⟩⟩, hB0⟩
    (fun x => { tmps := #[.slice a len cap, undef, .pointer (some ⟨w.heap.size, 0, none⟩), .pointer (some ⟨w.heap.size + 1, 0, none⟩), .int .i64 ((x.1 : Nat) : Int), undef, .slice a len cap, .int .i64 len, .bool false, undef, .slice a len cap, .func (.func 110) #[] #[.pointer (some ⟨w.heap.size + 1 + 1, 0, none⟩)], .int .i64 ((x.1 : Nat) : Int), undef, undef, undef, undef, undef, undef, undef, undef, undef, undef, undef], defers := [] }) ?assign ?body ?done ?stop
  case assign =>
    intro l x W K hK
    gi_wp2
    exact hK
  case body =>
    rintro l pre ⟨x, hx⟩ W ⟨⟨⟨hc, hf⟩, ⟨r0, f0⟩, ⟨r1, f1⟩⟩, hB⟩ hpre
    have hpb := tot_bd pre
    have H := Lib.hid (tot_snoc pre ⟨x, hx⟩)
    dsimp only
    gi_wp2
    have e : ((tot pre : Nat) : Int) + (x : Int) = ((tot (pre ++ [⟨x, hx⟩]) : Nat) : Int) := by rw [H.out]; omega
    have hg := grown_setCell W ⟨w.heap.size + 1, 0, none⟩ (.int .i64 (((tot pre : Nat) : Int) + (x : Int)))
    refine ⟨(KeepsOthers.setCell _ _ _).from _, ⟨(Below.refl w.heap.size W).setCell (p := ⟨w.heap.size + 1, 0, none⟩) (Nat.le_succ _) _, heap_setCell_other W ⟨w.heap.size + 1, 0, none⟩ _ _ (by simp)⟩, ⟨⟨?_, by rw [World.frozen?_setCell]; exact hf⟩, ⟨hg.cell r0 (by simp), by rw [World.frozen?_setCell]; exact f0⟩, hg.cell r1 (by simp), by rw [World.frozen?_setCell]; exact f1⟩, hB.setCell (p := ⟨w.heap.size + 1, 0, none⟩) (Nat.le_succ _) _⟩
    rw [e]
    exact World.cell?_setCell_same' _ _ _ (by rw [hc]; rfl)
  case done =>
    rintro D ys W hD rfl ⟨⟨⟨hc, hf⟩, ⟨r0, f0⟩, ⟨r1, f1⟩⟩, hB⟩ hK
    have ht : Hid (sumV zs = 65535 - foldN (tot (upto (wdS zs h.b8) ((len + 1) / 2)))) := by
      have := sumTo_past zs h.b8
      unfold Hid sumV
      rw [this, h.length]
    have htb := tot_bd (upto (wdS zs h.b8) ((len + 1) / 2))
    rw [upto_length] at htb
    generalize tot (upto (wdS zs h.b8) ((len + 1) / 2)) = m at *
    clear bR bT bS bT' bR' hB0 h
    gi_wp2
    gi_loopw [17] (fun _ wr => ∃ j : Nat, Hid (foldN j = foldN m) ∧ j ≤ 65535 * 700 ∧ (wr.cell? ⟨w.heap.size + 1, 0, none⟩ = some (.int .i64 (j : Int)) ∧ wr.frozen? ⟨w.heap.size + 1, 0, none⟩ = false) ∧ (wr.cell? ⟨w.heap.size, 0, none⟩ = some (.int .i64 0) ∧ wr.frozen? ⟨w.heap.size, 0, none⟩ = false) ∧ (wr.cell? ⟨w.heap.size, 1, none⟩ = some (.int .i64 0) ∧ wr.frozen? ⟨w.heap.size, 1, none⟩ = false) ∧ Below w.heap.size w wr ∧ wr.heap[D]? = some (.deferred (some []))) (fun _ wr => cellN (w.heap.size + 1) wr)
    case atStart => exact ⟨m, rfl, by omega, ⟨hc, hf⟩, ⟨r0, f0⟩, ⟨r1, f1⟩, hB, hK⟩
    case round =>
      obtain ⟨j, hj, hjb, ⟨cj, fj⟩, ⟨r0, f0⟩, ⟨r1, f1⟩, hB, hK⟩ := hrel
      by_cases hle : j ≤ 65535
      · have hf' : Hid (sumV zs = 65535 - (j : Int)) := by unfold Hid; rw [ht.out, ← hj.out, foldN_le hle]
        gi_wp2
        have k1 := (KeepsOthers.setCell wr ⟨w.heap.size, 0, none⟩ (.int .i64 0)).same D _ hK rfl
        have k2 := (KeepsOthers.setCell (wr.setCell ⟨w.heap.size, 0, none⟩ (.int .i64 0)) ⟨w.heap.size, 1, none⟩ (.int .i64 (65535 - (j : Int)))).same D _ k1 rfl
        have d0 : ((wr.setCell ⟨w.heap.size, 0, none⟩ (.int .i64 0)).setCell ⟨w.heap.size, 1, none⟩ (.int .i64 (65535 - (j : Int)))).cell? ⟨w.heap.size, 0, none⟩ = some (.int .i64 0) := by simp [go_sem, r0]
        have d1 : ((wr.setCell ⟨w.heap.size, 0, none⟩ (.int .i64 0)).setCell ⟨w.heap.size, 1, none⟩ (.int .i64 (65535 - (j : Int)))).cell? ⟨w.heap.size, 1, none⟩ = some (.int .i64 (65535 - (j : Int))) := by simp [go_sem, r1]
        refine ⟨by simp, .inl ⟨_, _, rfl, run_takeDeferred k2, ?_⟩⟩
        have e0 := cell_kept d0 (grownBy_putObj' _ D (.deferred none)) (fun r e => by cases e; exact ⟨_, k2, rfl⟩)
        have e1 := cell_kept d1 (grownBy_putObj' _ D (.deferred none)) (fun r e => by cases e; exact ⟨_, k2, rfl⟩)
        refine ⟨.agg #[.int .i64 0, .int .i64 (65535 - (j : Int))], by simp [results, Try.f57, go_sem, e0, e1], ret_ir rfl hf'.out.symm, ?_⟩
        exact ((hB.setCell (p := ⟨w.heap.size, 0, none⟩) (Nat.le_refl _) _).setCell (p := ⟨w.heap.size, 1, none⟩) (Nat.le_refl _) _).trans (belowK_b (w := w) (Nat.le_refl _) _ D _ _ (by simp at hD; omega) k2 rfl rfl)
      · have hf' : Hid (foldN (j % 65536 + j / 65536) = foldN m) := by unfold Hid; rw [← hj.out, foldN_gt hle]
        gi_wp2
        refine (fold_in F (n - 1) hfo hro _ j wr cj fj hjb).mono ?_
        rintro e w' ⟨⟨v, rfl⟩, rfl⟩
        have hg := grown_setCell wr ⟨w.heap.size + 1, 0, none⟩ (.int .i64 ((j % 65536 + j / 65536 : Nat) : Int))
        have cs := World.cell?_setCell_same' wr ⟨w.heap.size + 1, 0, none⟩ (.int .i64 ((j % 65536 + j / 65536 : Nat) : Int)) (by rw [cj]; rfl)
        have hk := (KeepsOthers.setCell wr ⟨w.heap.size + 1, 0, none⟩ (.int .i64 ((j % 65536 + j / 65536 : Nat) : Int))).same D _ hK rfl
        have hB' := hB.setCell (p := ⟨w.heap.size + 1, 0, none⟩) (Nat.le_succ _) (.int .i64 ((j % 65536 + j / 65536 : Nat) : Int))
        have q0 := hg.cell r0 (by simp)
        have q1 := hg.cell r1 (by simp)
        have g : ((wr.setCell ⟨w.heap.size + 1, 0, none⟩ (.int .i64 ((j % 65536 + j / 65536 : Nat) : Int))).frozen? ⟨w.heap.size + 1, 0, none⟩ = false ∧ (wr.setCell ⟨w.heap.size + 1, 0, none⟩ (.int .i64 ((j % 65536 + j / 65536 : Nat) : Int))).frozen? ⟨w.heap.size, 0, none⟩ = false ∧ (wr.setCell ⟨w.heap.size + 1, 0, none⟩ (.int .i64 ((j % 65536 + j / 65536 : Nat) : Int))).frozen? ⟨w.heap.size, 1, none⟩ = false) := by
          refine ⟨?_, ?_, ?_⟩ <;> (rw [World.frozen?_setCell]; assumption)
        have hm := cellN_eq cs
        have hm' := cellN_eq cj
        have R := Lib.hid (And.intro cs (And.intro hk (And.intro hB' (And.intro q0 (And.intro q1 (And.intro g (And.intro hm hm')))))))
        clear cs hk hB' q0 q1 g hm hm' hg cj fj r0 f0 r1 f1 hB hK
        generalize wr.setCell ⟨w.heap.size + 1, 0, none⟩ (.int .i64 ((j % 65536 + j / 65536 : Nat) : Int)) = W5 at *
        gi_wp2
        obtain ⟨cs, hk, hB', q0, q1, ⟨g, g0, g1⟩, hm, hm'⟩ := R.out
        go_roundw
        case rel => exact ⟨_, hf'.out, by omega, ⟨cs, g⟩, ⟨q0, g0⟩, ⟨q1, g1⟩, hB', hk⟩
        case measure => rw [hm, hm']; omega
  case stop =>
    rintro D c pre W _ _ h _
    exact h.elim

theorem implSum (a : Option Addr) (len cap : Nat) (zs : List Int) (w : World) (h : Rd w a len cap zs) :
    Calls Try.prog 57 #[.slice a len cap] w fun e w' => e = .returned (ir (smC zs) (smV zs)) ∧ Below w.heap.size w w' := by
  by_cases hl : len ≤ 700
  · simp only [smC, smV, h.length, hl, if_true]
    exact (callsIn_wide (n := 3)).1 (sum_in Fence.wide 3 trivial trivial trivial trivial rfl (by omega) a len cap zs w h hl)
  · simp only [smC, smV, h.length, hl, if_false]
    clear h
    go_enter Try.func57, Try.ntmps57
    go_wp2
    all_goals exact bodyPost_ret (v := .agg #[.int .i64 2, .int .i64 0]) (by simp [results, Try.results57, go_sem]) rfl ⟨rfl, ((Below.refl _ _).alloc (Nat.le_refl _) _)⟩
end Go.Proofs.Yteaiemckcepphaa

namespace Go.Proofs.Yteaiemckcepphaa
open Go.ChangeShapes Go.WideShapes Go.ChangeAt Go.RowKit

def isS (zs : List Int) : Bool := decide (zs.length ≤ 700) && decide (sumV zs = 0)
theorem implIs (a : Option Addr) (len cap : Nat) (zs : List Int) (w : World) (h : Rd w a len cap zs) :
    Calls Try.prog 69 #[.slice a len cap] w fun e w' => e = .returned (.bool (isS zs)) ∧ Below w.heap.size w w' := by
  by_cases hl : zs.length ≤ 700
  · have K := Lib.hid (show Calls Try.prog 57 #[.slice a len cap] w fun e w' => e = .returned (.agg #[.int .i64 0, .int .i64 (sumV zs)]) ∧ Below w.heap.size w w' by
      have := implSum a len cap zs w h
      simp only [smC, smV, hl, if_true] at this
      exact this)
    have H : Hid (isS zs = (sumV zs == 0)) := by unfold Hid isS; rw [decide_eq_true hl, Bool.true_and]; rfl
    generalize isS zs = b at *
    generalize sumV zs = v at *
    clear h
    go_enter Try.func69, Try.ntmps69
    go_wp2_with fail
    refine (K.out).mono ?_
    rintro e w1 ⟨rfl, hb1⟩
    go_wp2
    go_ret
    exact ⟨ret_b (a := v == 0) H.out.symm, hb1.alloc hb1.size _⟩
  · have K := Lib.hid (show Calls Try.prog 57 #[.slice a len cap] w fun e w' => e = .returned (.agg #[.int .i64 2, .int .i64 0]) ∧ Below w.heap.size w w' by
      have := implSum a len cap zs w h
      simp only [smC, smV, hl, if_false] at this
      exact this)
    have H : Hid (isS zs = false) := by unfold Hid isS; rw [decide_eq_false hl, Bool.false_and]
    generalize isS zs = b at *
    clear h
    go_enter Try.func69, Try.ntmps69
    go_wp2_with fail
    refine (K.out).mono ?_
    rintro e w1 ⟨rfl, hb1⟩
    go_wp2
    go_ret
    exact ⟨ret_b H.out.symm, hb1.alloc hb1.size _⟩

end Go.Proofs.Yteaiemckcepphaa

namespace Go.Proofs.Yteaiemckcepphaa
open Go.ChangeShapes Go.WideShapes Go.ChangeAt Go.RowKit

def seal0 (zs : List Int) (A : Nat) : List Int := (zs.set A 0).set (A + 1) 0
def sealB (zs : List Int) (A : Nat) : List Int := ((seal0 zs A).set A (sumV (seal0 zs A) / 256)).set (A + 1) (sumV (seal0 zs A) % 256)
theorem sumV_bd (zs : List Int) : 0 ≤ sumV zs ∧ sumV zs ≤ 65535 := by
  have := foldN_bd (sumTo zs zs.length)
  unfold sumV; omega
def slOk (len at' : Int) : Bool := decide (0 ≤ at' ∧ at' ≤ len - 2 ∧ at' % 2 = 0)
def slC (zs : List Int) (at' : Int) : Int := if zs.length ≤ 700 then (if slOk zs.length at' then 0 else 3) else 2
def slB (zs : List Int) (at' : Int) : List Int := if zs.length ≤ 700 then (if slOk zs.length at' then sealB zs at'.toNat else []) else []
theorem sealB_len (zs : List Int) (A : Nat) : (sealB zs A).length = zs.length := by simp [sealB, seal0]
theorem slB_len (zs : List Int) (at' : Int) : (slB zs at').length ≤ 700 := by
  unfold slB
  split
  · split
    · rw [sealB_len]; assumption
    · simp
  · simp

end Go.Proofs.Yteaiemckcepphaa

namespace Go.Proofs.Yteaiemckcepphaa
open Go.ChangeShapes Go.WideShapes Go.ChangeAt Go.RowKit

/-- the 20 bytes of a packet's head, ahead of the sum -/
def packH (kf kt kp kl : Int) (n : Nat) : List Int := [69, 0] ++ be (20 + n) 2 ++ [0, 0, 64, 0, kl, kp, 0, 0] ++ be kf 4 ++ be kt 4
def packL (kf kt kp kl : Int) (zs : List Int) : List Int := sealB (packH kf kt kp kl zs.length) 10 ++ zs
theorem packH_len (kf kt kp kl : Int) (n : Nat) : (packH kf kt kp kl n).length = 20 := by simp [packH, be_len]

theorem own_litB2 (w : World) (base : Nat) (x y : Int) (hx : 0 ≤ x ∧ x ≤ 255) (hy : 0 ≤ y ∧ y ≤ 255) (hb : base ≤ w.heap.size) : Own (w.alloc (.cells #[.int .u8 x, .int .u8 y] 5)) base (some ⟨w.heap.size, 0, none⟩) 2 2 [x, y] :=
  ⟨World.ownsRow_lit w #[.int .u8 x, .int .u8 y] 2 hb (by unfold maxLen; omega) rfl, by intro n hn; simp at hn; omega⟩
theorem own_litB8 (w : World) (base : Nat) (x y : Int) (hx : 0 ≤ x ∧ x ≤ 255) (hy : 0 ≤ y ∧ y ≤ 255) (hb : base ≤ w.heap.size) : Own (w.alloc (.cells #[.int .u8 0, .int .u8 0, .int .u8 64, .int .u8 0, .int .u8 x, .int .u8 y, .int .u8 0, .int .u8 0] 5)) base (some ⟨w.heap.size, 0, none⟩) 8 8 [0, 0, 64, 0, x, y, 0, 0] :=
  ⟨World.ownsRow_lit w #[.int .u8 0, .int .u8 0, .int .u8 64, .int .u8 0, .int .u8 x, .int .u8 y, .int .u8 0, .int .u8 0] 8 hb (by unfold maxLen; omega) rfl, by intro n hn; simp at hn; omega⟩
theorem u8_in (x : Int) (h : 0 ≤ x ∧ x ≤ 255) : IntKind.u8.wrap x = x := by
  rw [IntKind.wrap_u8]; omega

def packP (kf kt kp kl : Int) (zs : List Int) : List Int := if packC kf kt kp kl zs.length = 0 then packL kf kt kp kl zs else []
theorem packC_parts {kf kt kp kl : Int} {n : Nat} (h : packC kf kt kp kl n = 0) : (0 ≤ kf ∧ kf < 4294967296) ∧ (0 ≤ kt ∧ kt < 4294967296) ∧ (0 ≤ kp ∧ kp ≤ 255) ∧ (1 ≤ kl ∧ kl ≤ 255) ∧ n ≤ 560 := by
  unfold packC at h
  split at h
  · rename_i hk
    split at h
    · simp only [packB, ipB, inB, Bool.and_eq_true, decide_eq_true_eq] at hk
      omega
    · omega
  · omega
theorem packP_len (kf kt kp kl : Int) (zs : List Int) : (packP kf kt kp kl zs).length ≤ 700 := by
  unfold packP
  split
  · rename_i h
    have := (packC_parts h).2.2.2.2
    rw [packL, List.length_append, sealB_len, packH_len]
    omega
  · simp

end Go.Proofs.Yteaiemckcepphaa

namespace Go.Proofs.Yteaiemckcepphaa
open Go.ChangeShapes Go.WideShapes Go.ChangeAt Go.RowKit

def pseudoL (f t p n : Int) : List Int := be f 4 ++ be t 4 ++ [0, p] ++ be n 2
theorem pseudoL_len (f t p n : Int) : (pseudoL f t p n).length = 12 := by simp [pseudoL, be_len]
def phB (f t p n : Int) : Bool := ipB f && ipB t && inB p 0 255 && inB n 0 65535
def phC (f t p n : Int) : Int := if phB f t p n then 0 else 3
def phP (f t p n : Int) : List Int := if phB f t p n then pseudoL f t p n else []
theorem phB_parts {f t p n : Int} (h : phB f t p n = true) : (0 ≤ f ∧ f < 4294967296) ∧ (0 ≤ t ∧ t < 4294967296) ∧ (0 ≤ p ∧ p ≤ 255) ∧ (0 ≤ n ∧ n < 65536) := by
  simp only [phB, ipB, inB, Bool.and_eq_true, decide_eq_true_eq] at h
  omega
theorem ipB_bd {f : Int} (h : ipB f = true) : 0 ≤ f ∧ f < 4294967296 := by
  simp only [ipB, inB, decide_eq_true_eq] at h
  omega

set_option maxHeartbeats 1000000 in
theorem l4Pseudo_any (f t p n : Int) (w : World) (h0 : 0 ≤ f ∧ f < 281474976710656) (h1 : 0 ≤ t ∧ t < 281474976710656) (h2 : 0 ≤ p ∧ p ≤ 255) (h3 : 0 ≤ n ∧ n < 281474976710656) :
    Calls Try.prog 104 #[.int .i64 f, .int .i64 t, .int .i64 p, .int .i64 n] w (FreshAny w (pseudoL f t p n)) := by
  have K0 := Lib.hid (fun W => l1Pack_lit f 4 4 W rfl h0 (by omega))
  have K1 := Lib.hid (fun W => l1Pack_lit t 4 4 W rfl h1 (by omega))
  have K2 := Lib.hid (fun W => l1Pack_lit n 2 2 W rfl h3 (by omega))
  have u1 := u8_in p h2
  have LB := Lib.hid (fun W => own_litB2 W W.heap.size 0 p (by omega) h2 (Nat.le_refl _))
  have HL : Hid (pseudoL f t p n = be f 4 ++ be t 4 ++ [0, p] ++ be n 2) := rfl
  obtain ⟨L, hL⟩ : ∃ L, L = pseudoL f t p n := ⟨_, rfl⟩
  rw [← hL] at HL ⊢
  clear hL h0 h1 h2 h3
  go_enter Try.func104, Try.ntmps104
  go_wp2_with fail
  refine (K0.out _).mono ?_
  rintro e w1 ⟨rfl, o1, b1⟩
  have O1 := Lib.hid o1
  have B1 := Lib.hid b1
  clear o1 b1 K0
  go_wp2_with fail
  refine (K1.out _).mono ?_
  rintro e w2 ⟨rfl, o2, b2⟩
  have O2 := Lib.hid (O1.out.below b2)
  have R2 := Lib.hid o2.rd
  have B2 := Lib.hid (B1.out.trans (b2.mono B1.out.size))
  clear o2 b2 K1 O1 B1
  go_wp2_with (first
    | (at_builtin; have q := O3; clear q; refine append_bytes _ rfl (.tmp 15) (.tmp 18) rfl w.heap.size _ _ _ _ rfl O3.out _ _ _ _ rfl L3.out.rd B3.out.size (by omega) ?_; intro a4 c4 w4 o4 g4; have O4 := Lib.hid o4; have B4 := Lib.hid (B3.out.grown g4 B3.out.size (fun k e => own_blk O3.out k e)); clear o4 g4 O3 B3 L3)
    | (at_builtin; refine append_bytes _ rfl (.tmp 11) (.tmp 13) rfl w.heap.size _ _ _ _ rfl O2.out _ _ _ _ rfl R2.out B2.out.size (by omega) ?_; intro a3 c3 w3 o3 g3; have O3 := Lib.hid (o3.alloc (.cells #[.int .u8 0, .int .u8 p] 5)); have B3' := B2.out.grown g3 B2.out.size (fun k e => own_blk O2.out k e); have B3 := Lib.hid (B3'.alloc B3'.size (.cells #[.int .u8 0, .int .u8 p] 5)); have L3 := Lib.hid (LB.out w3); clear o3 g3 B3' O2 R2 B2))
  refine (K2.out _).mono ?_
  rintro e w5 ⟨rfl, o5, b5⟩
  have O5 := Lib.hid (O4.out.below b5)
  have R5 := Lib.hid o5.rd
  have B5 := Lib.hid (B4.out.trans (b5.mono B4.out.size))
  clear o5 b5 K2 O4 B4 LB
  go_wp2_with (at_builtin; refine append_bytes _ rfl (.tmp 19) (.tmp 21) rfl w.heap.size _ _ _ _ rfl O5.out _ _ _ _ rfl R5.out B5.out.size (by omega) ?_; intro a6 c6 w6 o6 g6; have O6 := Lib.hid o6; have B6 := Lib.hid (B5.out.grown g6 B5.out.size (fun k e => own_blk O5.out k e)); clear o6 g6 O5 R5 B5)
  go_ret
  exact ⟨_, _, _, rfl, by rw [HL.out]; exact O6.out, B6.out⟩

def dgB (df dt : Int) : Bool := inB df 1 65535 && inB dt 1 65535
def dgC (df dt : Int) (n : Nat) : Int := if dgB df dt then (if n ≤ 552 then 0 else 2) else 3
theorem l4Port_any (n : Int) (w : World) : Calls Try.prog 107 #[.int .i64 n] w fun e w' => e = .returned (.bool (inB n 1 65535)) ∧ w = w' := by
  go_enter Try.func107, Try.ntmps107
  go_wp2_with (go_at_call 87; refine (l1In_any _ _ _ _).mono ?_; rintro e w' ⟨rfl, rfl⟩)
  go_ret
  exact ⟨rfl, rfl⟩
def sameD (df dt : Int) (zs : List Int) (df' dt' : Int) (zs' : List Int) : Bool := decide (df = df') && decide (dt = dt') && eqL zs zs'
/-- the sum of bytes behind a pseudo head of theirs -/
def dgSum (f t p : Int) (zs : List Int) : Int := sumV (pseudoL f t p zs.length ++ zs)
set_option maxHeartbeats 1000000 in
theorem l4Sum_any (f t p : Int) (a : Option Addr) (len cap : Nat) (zs : List Int) (w : World) (hr : Rd w a len cap zs) (h0 : 0 ≤ f ∧ f < 281474976710656) (h1 : 0 ≤ t ∧ t < 281474976710656) (h2 : 0 ≤ p ∧ p ≤ 255) (hl : len ≤ 1000000) :
    Calls Try.prog 74 #[.int .i64 f, .int .i64 t, .int .i64 p, .slice a len cap] w fun e w' => e = .returned (.int .i64 (dgSum f t p zs)) ∧ Below w.heap.size w w' := by
  have K := Lib.hid (fun W => l4Pseudo_any f t p len W h0 h1 h2 (by omega))
  have HR := Lib.hid hr
  have H : Hid (dgSum f t p zs = sumV (pseudoL f t p len ++ zs)) := by unfold Hid dgSum; rw [hr.length]
  have hpl := Lib.hid (pseudoL_len f t p len)
  clear hr h0 h1 h2
  generalize dgSum f t p zs = v at *
  generalize pseudoL f t p len = L at *
  go_enter Try.func74, Try.ntmps74
  go_wp2_with fail
  refine (K.out _).mono ?_
  rintro e w1 ⟨a1, l1, c1, rfl, o1, b1⟩
  obtain rfl : l1 = 12 := o1.length.symm.trans hpl.out
  have O1 := Lib.hid o1
  have B1 := Lib.hid b1
  have R1 := Lib.hid (HR.out.below b1)
  clear o1 b1 K HR
  go_wp2_with (at_builtin; refine append_bytes _ rfl (.tmp 14) (.tmp 15) rfl w.heap.size _ _ _ _ rfl O1.out _ _ _ _ rfl R1.out B1.out.size (by omega) ?_; intro a2 c2 w2 o2 g2; have O2 := Lib.hid o2; have B2 := Lib.hid (B1.out.grown g2 B1.out.size (fun k e => own_blk O1.out k e)); clear o2 g2 O1 R1 B1)
  refine (l1Sum_any _ _ _ _ _ O2.out.rd (by omega)).mono ?_
  rintro e w3 ⟨rfl, rfl⟩
  go_wp2
  go_ret
  exact ⟨ret_i H.out.symm, B2.out⟩
end Go.Proofs.Yteaiemckcepphaa

namespace Go.Proofs.Yteaiemckcepphaa
open Go.ChangeShapes Go.WideShapes Go.ChangeAt Go.RowKit

theorem equal_any (a : Option Addr) (len cap : Nat) (zs : List Int) (a' : Option Addr) (len' cap' : Nat) (zs' : List Int) (w : World) (hr : Rd w a len cap zs) (hr' : Rd w a' len' cap' zs') :
    Calls Try.prog 76 #[.slice a len cap, .slice a' len' cap'] w fun e w' => e = .returned (.bool (eqL zs zs')) ∧ w = w' := by
  have c1 := conv_rd hr
  have c2 := conv_rd hr'
  by_cases h3 : zs = zs'
  · subst h3
    have H : Hid (eqL zs zs = true) := by simp [Hid, eqL]
    clear hr hr'
    generalize strOfNums zs = s at *
    go_enter Try.func76, Try.ntmps76
    go_wp2
    go_ret
    exact ⟨ret_b H.out.symm, rfl⟩
  · have H : Hid (eqL zs zs' = false) := by simp [Hid, eqL, h3]
    have h5 := str_ne hr.b8 hr'.b8 h3
    clear hr hr' h3
    generalize strOfNums zs = s at *
    generalize strOfNums zs' = s' at *
    go_enter Try.func76, Try.ntmps76
    go_wp2
    go_ret
    exact ⟨ret_b H.out.symm, rfl⟩

end Go.Proofs.Yteaiemckcepphaa

namespace Go.Proofs.Yteaiemckcepphaa
open Go.ChangeShapes Go.WideShapes Go.ChangeAt Go.RowKit

theorem Box.three {w : World} {b : Nat} {t : TypeId} {x0 x1 x2 : Value} (h : Box w b t #[x0, x1, x2]) : b < w.heap.size ∧ w.cell? ⟨b, 0, none⟩ = some x0 ∧ w.cell? ⟨b, 1, none⟩ = some x1 ∧ w.cell? ⟨b, 2, none⟩ = some x2 := ⟨h.lt, h.cell 0, h.cell 1, h.cell 2⟩
/-- a frame of these numbers and bytes whose body is of this call's own -/
def DatagramOut (w : World) (df dt : Int) (zs : List Int) (e : Ending) (w' : World) : Prop :=
  ∃ a' l' c', e = .returned (.agg #[.int .i64 df, .int .i64 dt, .slice a' l' c']) ∧ Own w' w.heap.size a' l' c' zs ∧ Below w.heap.size w w'

/-- a frame's result: the code, the numbers, the body of its own -/
def DatagramRes (w : World) (c : Int) (df dt : Int) (zs : List Int) (e : Ending) (w' : World) : Prop :=
  ∃ a' l' c', e = .returned (.agg #[.int .i64 c, .int .i64 df, .int .i64 dt, .slice a' l' c']) ∧ Own w' w.heap.size a' l' c' zs ∧ Below w.heap.size w w'

end Go.Proofs.Yteaiemckcepphaa

namespace Go.Proofs.Yteaiemckcepphaa
open Go.ChangeShapes Go.WideShapes Go.ChangeAt Go.RowKit

/-- a row of n bounds, of these cells, in a block of its own -/
def BdV (W : World) (v : Value) (n : Nat) (cs : Array Value) : Prop := ∃ g, v = .slice (some ⟨g, 0, none⟩) n n ∧ Box W g 73 cs
theorem BdV.below {W W' : World} {n : Nat} {v : Value} {cs : Array Value} (hb : Below W.heap.size W W') (h : BdV W v n cs) : BdV W' v n cs := by
  obtain ⟨g, e, x⟩ := h
  exact ⟨g, e, x.below hb x.lt⟩
theorem BdV.new (W : World) (n : Nat) (cs : Array Value) : BdV (W.alloc (.cells cs 73)) (.slice (some ⟨W.heap.size, 0, none⟩) n n) n cs := ⟨_, rfl, Box.new _ _ _⟩

end Go.Proofs.Yteaiemckcepphaa

namespace Go.Proofs.Yteaiemckcepphaa
open Go.ChangeShapes Go.WideShapes Go.ChangeAt Go.RowKit

/-- a datagram's bytes, with a sum of 0 -/
def dgH (df dt : Int) (zs : List Int) : List Int := be df 2 ++ be dt 2 ++ be (8 + zs.length) 2 ++ [0, 0] ++ zs
theorem dgH_len (df dt : Int) (zs : List Int) : (dgH df dt zs).length = 8 + zs.length := by simp [dgH, be_len]; omega
/-- the sum that is told -/
def dgT (n : Int) : Int := if n = 0 then 65535 else n
theorem dgT_bd (n : Int) (h : 0 ≤ n ∧ n ≤ 65535) : 0 ≤ dgT n ∧ dgT n ≤ 65535 := by unfold dgT; split <;> omega
def dgL (f t df dt : Int) (zs : List Int) : List Int := ((dgH df dt zs).set 6 (dgT (dgSum f t 17 (dgH df dt zs)) / 256)).set 7 (dgT (dgSum f t 17 (dgH df dt zs)) % 256)
theorem dgL_len (f t df dt : Int) (zs : List Int) : (dgL f t df dt zs).length = 8 + zs.length := by simp [dgL, dgH_len]

def pdC (f t df dt : Int) (n : Nat) : Int := if ipB f && ipB t then dgC df dt n else 3
def pdP (f t df dt : Int) (zs : List Int) : List Int := if pdC f t df dt zs.length = 0 then dgL f t df dt zs else []
theorem dgC_parts {df dt : Int} {n : Nat} (h : dgC df dt n = 0) : (1 ≤ df ∧ df ≤ 65535) ∧ (1 ≤ dt ∧ dt ≤ 65535) ∧ n ≤ 552 := by
  unfold dgC at h
  split at h
  · rename_i hk
    simp only [dgB, inB, Bool.and_eq_true, decide_eq_true_eq] at hk
    split at h
    · rename_i hn; exact ⟨hk.1, hk.2, hn⟩
    · omega
  · omega
theorem pdC_parts {f t df dt : Int} {n : Nat} (h : pdC f t df dt n = 0) : ipB f = true ∧ ipB t = true ∧ dgC df dt n = 0 := by
  unfold pdC at h
  split at h
  · rename_i hk
    simp only [Bool.and_eq_true] at hk
    exact ⟨hk.1, hk.2, h⟩
  · omega
theorem pdP_len (f t df dt : Int) (zs : List Int) : (pdP f t df dt zs).length ≤ 700 := by
  unfold pdP
  split
  · rename_i h
    obtain ⟨_, _, h'⟩ := pdC_parts h
    obtain ⟨_, _, hn⟩ := dgC_parts h'
    rw [dgL_len]; omega
  · exact Nat.zero_le _

end Go.Proofs.Yteaiemckcepphaa
