/-
  A region that draws its order, by what each operation leaves: one proof an operation, whatever the order. And values that own their bytes.
-/
import Derived.Test.YtbngdenlplbjhaaCat
import Derived.Test.YtbngdenlplbjhaaImPkK
import Derived.Test.YtbngdenlplbjhaaPack
import Derived.Deep.RegionHeld3
namespace Go.Proofs.Ytbngdenlplbjhaa
open Go.ChangeShapes Go.WideShapes Go.ChangeAt Go.RowKit

section
variable {P : Program} {ops : Array Oper} {Q : Exit → Act → World → Prop} {md : Region.Mode} {S : World → Prop}

/-- every operation waits for earlier ones alone -/
def inOrder (ops : Array Oper) : Bool := (List.range ops.size).all fun i => match ops[i]? with
  | some o => o.after.all fun e => decide (e.on < i)
  | none => true

theorem all_listed (ho : inOrder ops = true) {listed : Array Bool} (hz : listed.size = ops.size) (hr : Region.ready md ops listed = []) : ∀ i, i < ops.size → listed.getD i false = true := by
  intro i
  induction i using Nat.strongRecOn with
  | ind i ih =>
    intro hi
    cases hl : listed.getD i false with
    | true => rfl
    | false =>
      exfalso
      have ho' := List.all_eq_true.1 ho i (List.mem_range.2 hi)
      rw [Array.getElem?_eq_getElem hi] at ho'
      have hm : i ∈ Region.ready md ops listed := by
        refine mem_ready.2 ⟨?_, ops[i], Array.getElem?_eq_getElem hi, fun e he _ => ?_⟩
        · rw [Array.getD_eq_getD_getElem?, Array.getElem?_eq_getElem (by omega)] at hl ⊢
          simpa using hl
        · have := Array.all_eq_true_iff_forall_mem.1 ho' e he
          have hlt := of_decide_eq_true this
          exact ih e.on hlt (by omega)
      rw [hr] at hm
      cases hm

theorem count_down {listed : Array Bool} {i : Nat} (h : listed.getD i true = false) : (listed.setIfInBounds i true).toList.count false + 1 = listed.toList.count false := by
  rw [Array.getD_eq_getD_getElem?] at h
  rcases Nat.lt_or_ge i listed.size with hi | hi
  · rw [Array.getElem?_eq_getElem hi] at h
    simp only [Option.getD_some] at h
    rw [Array.toList_setIfInBounds, List.count_set (by simpa using hi)]
    have e : listed.toList[i]'(by simpa using hi) = false := by simpa using h
    have hp : 0 < listed.toList.count false := List.count_pos_iff.2 (by rw [← e]; exact List.getElem_mem _)
    simp only [e, beq_self_eq_true, if_true]
    have : ((true : Bool) == false) = false := rfl
    simp only [this, Bool.false_eq_true, if_false]
    omega
  · rw [Array.getElem?_eq_none hi] at h
    cases h

theorem getD_unlisted {listed : Array Bool} {i : Nat} (h : listed.getD i true = false) : listed.getD i false = false := by
  rw [Array.getD_eq_getD_getElem?] at h ⊢
  cases hx : listed[i]? with
  | none => rfl
  | some b => rw [hx] at h; simpa using h
/-- what is asked of the operation number i: from what holds when it comes up, what holds behind it -/
def FlowAt (P : Program) (md : Region.Mode) (ops : Array Oper) (Q : Exit → Act → World → Prop) (S : World → Prop) (Inv : Array Bool → Act → World → Prop) (i : Nat) : Prop :=
  ∀ o, ops[i]? = some o → ∀ listed a w, Inv listed a w → listed.getD i true = false → (∀ e ∈ o.after, Region.binds md e = true → listed.getD e.on false = true) →
    ∀ K' : Act → World → Prop, Shut (∀ a w, S w → Inv (listed.setIfInBounds i true) a w → K' a w) → if Region.wanted o (yielded ops a.tmps) = true then Oper.wp P o a w K' Q else K' (a.put o.dst undef) w
def FlowAll (P : Program) (md : Region.Mode) (ops : Array Oper) (Q : Exit → Act → World → Prop) (S : World → Prop) (Inv : Array Bool → Act → World → Prop) (l : List Nat) : Prop := ∀ i ∈ l, FlowAt P md ops Q S Inv i
theorem FlowAll.nil {Inv : Array Bool → Act → World → Prop} : FlowAll P md ops Q S Inv [] := fun _ h => by cases h
theorem FlowAll.cons {Inv : Array Bool → Act → World → Prop} {i : Nat} {l : List Nat} {o : Oper} (D : List Nat) (ho : ops[i]? = some o) (hD : (D.all fun d => o.after.any fun e => Region.binds md e && e.on == d) = true)
    (h : ∀ listed a w, Inv listed a w → listed.getD i true = false → (∀ d ∈ D, listed.getD d false = true) → ∀ K' : Act → World → Prop, Shut (∀ a w, S w → Inv (listed.setIfInBounds i true) a w → K' a w) → if Region.wanted o (yielded ops a.tmps) = true then Oper.wp P o a w K' Q else K' (a.put o.dst undef) w)
    (hs : FlowAll P md ops Q S Inv l) : FlowAll P md ops Q S Inv (i :: l) := by
  intro j hj
  rcases List.mem_cons.1 hj with rfl | hj
  · intro o' ho' listed a w hI hu hd K' hK
    rw [ho] at ho'
    obtain rfl := Option.some.inj ho'
    refine h listed a w hI hu (fun d hdD => ?_) K' hK
    have h1 := List.all_eq_true.1 hD d hdD
    obtain ⟨k, hk, h2⟩ := Array.any_eq_true.1 h1
    obtain ⟨e, hee⟩ : ∃ e, e = o.after[k] := ⟨_, rfl⟩
    have he : e ∈ o.after := by rw [hee]; exact Array.getElem_mem _
    rw [← hee] at h2
    simp only [Bool.and_eq_true, beq_iff_eq] at h2
    have := hd e he h2.1
    rwa [h2.2] at this
  · exact hs j hj

theorem wpAnyH_flow {Inv : Array Bool → Act → World → Prop} (todo : List Nat) (hord : inOrder ops = true) (steps : FlowAll P md ops Q S Inv todo)
    (done : ∀ listed a w, Inv listed a w → (∀ i, i < ops.size → listed.getD i false = true) → Q .normal a w) :
    ∀ (fuel : Nat) (listed : Array Bool) (a : Act) (w : World), listed.size = ops.size → listed.toList.count false ≤ fuel → (∀ i, i < ops.size → listed.getD i false = true ∨ i ∈ todo) → Inv listed a w → wpAnyH P md ops Q S fuel listed a w := by
  intro fuel
  induction fuel with
  | zero =>
    intro listed a w hz hc ht hI
    have hr : Region.ready md ops listed = [] := by
      rw [List.eq_nil_iff_forall_not_mem]
      intro i hi
      have := count_down (mem_ready.1 hi).1
      omega
    exact ⟨hr, done listed a w hI (all_listed hord hz hr)⟩
  | succ fuel ih =>
    intro listed a w hz hc ht hI
    refine ⟨fun hr => done listed a w hI (all_listed hord hz hr), fun i hi => ?_⟩
    obtain ⟨hun, o, ho, hall⟩ := mem_ready.1 hi
    have hin : i ∈ todo := by
      rcases ht i (Array.getElem?_eq_some_iff.1 ho).1 with h | h
      · rw [Array.getD_eq_getD_getElem?] at h hun
        cases hx : listed[i]? with
        | none => rw [hx] at h; cases h
        | some b => rw [hx] at h hun; simp at h hun; rw [h] at hun; cases hun
      · exact h
    refine wpOp_step ho (fun K' hK => steps i hin o ho listed a w hI hun hall K' (fun a' w' hS hI' => hK a' w' ⟨hS, ih _ _ _ (by simpa using hz) ?_ (fun j hj => ?_) hI'⟩))
    · have := count_down hun
      omega
    · rcases ht j hj with h | h
      · exact .inl (getD_set_true h)
      · exact .inr h
theorem flow_go {Inv : Array Bool → Act → World → Prop} (todo : List Nat) (hord : inOrder ops = true) {fuel : Nat} {listed : Array Bool} {a : Act} {w : World}
    (hz : (decide (listed.size = ops.size) && decide (listed.toList.count false ≤ fuel) && (List.range ops.size).all fun i => listed.getD i false || todo.contains i) = true)
    (hI : Inv listed a w) (steps : FlowAll P md ops Q S Inv todo)
    (done : ∀ listed a w, Inv listed a w → (∀ i, i < ops.size → listed.getD i false = true) → Q .normal a w) : wpAnyH P md ops Q S fuel listed a w := by
  simp only [Bool.and_eq_true, decide_eq_true_eq, List.all_eq_true, List.mem_range, Bool.or_eq_true, List.contains_iff_mem] at hz
  exact wpAnyH_flow todo hord steps done fuel listed a w hz.1.1 hz.1.2 hz.2 hI
end

/-- it holds once the operation has come up -/
def Fl (listed : Array Bool) (j : Nat) (p : Prop) : Prop := listed.getD j false = true → p
theorem Fl.get {listed : Array Bool} {j : Nat} {p : Prop} (h : Fl listed j p) (hl : listed.getD j false = true) : p := h hl
theorem Fl.new {listed : Array Bool} {j : Nat} {p : Prop} (h : p) : Fl listed j p := fun _ => h
theorem Fl.keep {listed : Array Bool} {i j : Nat} {p q : Prop} (hij : i ≠ j) (hpq : p → q) (h : Fl listed j p) : Fl (listed.setIfInBounds i true) j q := fun hl => hpq (h (by rwa [getD_set_ne false hij] at hl))
/-- it holds till the operation comes up -/
def NFl (listed : Array Bool) (j : Nat) (p : Prop) : Prop := listed.getD j false = false → p
theorem NFl.get {listed : Array Bool} {j : Nat} {p : Prop} (h : NFl listed j p) (hl : listed.getD j true = false) : p := h (getD_unlisted hl)
theorem NFl.new {listed : Array Bool} {j : Nat} {p : Prop} (h : p) : NFl listed j p := fun _ => h
theorem NFl.keep {listed : Array Bool} {i j : Nat} {p q : Prop} (hij : i ≠ j) (hpq : p → q) (h : NFl listed j p) : NFl (listed.setIfInBounds i true) j q := fun hl => hpq (h (by rwa [getD_set_ne false hij] at hl))
theorem NFl.past {listed : Array Bool} {j : Nat} {p : Prop} (hu : listed.getD j true = false) : NFl (listed.setIfInBounds j true) j p := fun hl => by
  have hj : j < listed.size := by
    rw [Array.getD_eq_getD_getElem?] at hu
    cases hx : listed[j]? with
    | none => rw [hx] at hu; cases hu
    | some b => exact (Array.getElem?_eq_some_iff.1 hx).1
  rw [Array.getD_eq_getD_getElem?, Array.getElem?_setIfInBounds_self_of_lt hj] at hl
  cases hl
theorem Fl.not {listed : Array Bool} {j : Nat} {p : Prop} (h : listed.getD j false = false) : Fl listed j p := fun hl => by rw [h] at hl; cases hl

/-- a slice of L bytes zs in an array of its own -/
def SlV (W : World) (n0 : Nat) (v : Value) (L : Nat) (zs : List Int) : Prop := ∃ a c, v = .slice a L c ∧ Own W n0 a L c zs
/-- such a one, without a code -/
def BrV (W : World) (n0 : Nat) (v : Value) (L : Nat) (zs : List Int) : Prop := ∃ a c, v = .agg #[.int .i64 0, .slice a L c] ∧ Own W n0 a L c zs
theorem SlV.below {W W' : World} {n0 L : Nat} {v : Value} {zs : List Int} (hb : Below W.heap.size W W') (h : SlV W n0 v L zs) : SlV W' n0 v L zs := by
  obtain ⟨a, c, e, o⟩ := h
  exact ⟨a, c, e, o.below hb⟩
theorem BrV.below {W W' : World} {n0 L : Nat} {v : Value} {zs : List Int} (hb : Below W.heap.size W W') (h : BrV W n0 v L zs) : BrV W' n0 v L zs := by
  obtain ⟨a, c, e, o⟩ := h
  exact ⟨a, c, e, o.below hb⟩
theorem BrV.of_packed {W W' : World} {n0 L : Nat} {zs : List Int} {e : Ending} (h : Packed W 0 zs e W') (hL : zs.length = L) (hn : n0 ≤ W.heap.size) : ∃ v, e = .returned v ∧ BrV W' n0 v L zs ∧ Below W.heap.size W W' := by
  obtain ⟨a, l, c, rfl, o, b⟩ := h
  obtain rfl : l = L := o.length.symm.trans hL
  exact ⟨_, rfl, ⟨a, c, rfl, o.rebase hn⟩, b⟩
/-- slices of bytes, one behind the other, in one array: n of them, zs in all -/
def CatV (W : World) (v : Value) (n : Nat) (zs : List Int) : Prop := ∃ g ss, v = .slice (some ⟨g, 0, none⟩) n n ∧ ss.length = n ∧ Sls W g ss ∧ catZ ss = zs ∧ sumN ss ≤ 1048576
theorem Sls.below {W W' : World} {g : Nat} {ss : List Sl} (hb : Below W.heap.size W W') (h : Sls W g ss) : Sls W' g ss := fun i s hs => ⟨keepB' hb (h i s hs).1, (h i s hs).2.below hb⟩
theorem CatV.below {W W' : World} {n : Nat} {v : Value} {zs : List Int} (hb : Below W.heap.size W W') (h : CatV W v n zs) : CatV W' v n zs := by
  obtain ⟨g, ss, e, l, s, z, m⟩ := h
  exact ⟨g, ss, e, l, s.below hb, z, m⟩
theorem sls_box {W : World} {g : Nat} {t : TypeId} {ss : List Sl} (hx : Box W g t (ss.map fun s => Value.slice s.a s.len s.cap).toArray) (h : ∀ s ∈ ss, Rd W s.a s.len s.cap s.zs) : Sls W g ss := by
  intro i s hs
  refine ⟨(hx.cell i).trans ?_, h s (List.mem_of_getElem? hs)⟩
  simp [hs]
theorem Own.keepOff {W W' : World} {n0 r L c : Nat} {a : Option Addr} {zs : List Int} (hg : W.grownBy W' (some r)) (hrn : r < n0) (o : Own W n0 a L c zs) : Own W' n0 a L c zs :=
  o.grown hg (fun x hx e => by have := (o.lt x hx).1; simp only [Option.some.injEq] at e; omega)
theorem SlV.grown {W W' : World} {n0 r L : Nat} {v : Value} {zs : List Int} (hg : W.grownBy W' (some r)) (hrn : r < n0) (h : SlV W n0 v L zs) : SlV W' n0 v L zs := by
  obtain ⟨a, c, e, o⟩ := h
  exact ⟨a, c, e, o.keepOff hg hrn⟩
theorem BrV.grown {W W' : World} {n0 r L : Nat} {v : Value} {zs : List Int} (hg : W.grownBy W' (some r)) (hrn : r < n0) (h : BrV W n0 v L zs) : BrV W' n0 v L zs := by
  obtain ⟨a, c, e, o⟩ := h
  exact ⟨a, c, e, o.keepOff hg hrn⟩
/-- a slice of bytes zs in an array of its own, of whatever length -/
def AnyV (W : World) (n0 : Nat) (v : Value) (zs : List Int) : Prop := ∃ a l c, v = .slice a l c ∧ Own W n0 a l c zs
theorem AnyV.below {W W' : World} {n0 : Nat} {v : Value} {zs : List Int} (hb : Below W.heap.size W W') (h : AnyV W n0 v zs) : AnyV W' n0 v zs := by
  obtain ⟨a, l, c, e, o⟩ := h
  exact ⟨a, l, c, e, o.below hb⟩
theorem AnyV.grown {W W' : World} {n0 r : Nat} {v : Value} {zs : List Int} (hg : W.grownBy W' (some r)) (hrn : r < n0) (h : AnyV W n0 v zs) : AnyV W' n0 v zs := by
  obtain ⟨a, l, c, e, o⟩ := h
  exact ⟨a, l, c, e, o.keepOff hg hrn⟩
/-- a struct of these cells, behind them a slice of L bytes zs in an array of its own -/
def AgV (W : World) (n0 : Nat) (v : Value) (cs : Array Value) (L : Nat) (zs : List Int) : Prop := ∃ a c, v = .agg (cs ++ #[.slice a L c]) ∧ Own W n0 a L c zs
theorem AgV.below {W W' : World} {n0 L : Nat} {v : Value} {cs : Array Value} {zs : List Int} (hb : Below W.heap.size W W') (h : AgV W n0 v cs L zs) : AgV W' n0 v cs L zs := by
  obtain ⟨a, c, e, o⟩ := h
  exact ⟨a, c, e, o.below hb⟩
theorem AgV.grown {W W' : World} {n0 r L : Nat} {v : Value} {cs : Array Value} {zs : List Int} (hg : W.grownBy W' (some r)) (hrn : r < n0) (h : AgV W n0 v cs L zs) : AgV W' n0 v cs L zs := by
  obtain ⟨a, c, e, o⟩ := h
  exact ⟨a, c, e, o.keepOff hg hrn⟩
/-- such a struct in the block r -/
def BxV (W : World) (n0 r : Nat) (t : TypeId) (cs : Array Value) (L : Nat) (zs : List Int) : Prop := ∃ a c, Box W r t (cs ++ #[.slice a L c]) ∧ Own W n0 a L c zs
theorem BxV.below {W W' : World} {n0 r L : Nat} {t : TypeId} {cs : Array Value} {zs : List Int} (hb : Below W.heap.size W W') (h : BxV W n0 r t cs L zs) : BxV W' n0 r t cs L zs := by
  obtain ⟨a, c, x, o⟩ := h
  exact ⟨a, c, x.below hb x.lt, o.below hb⟩
/-- it is this value -/
structure EqV (v x : Value) : Prop where
  eq : v = x
theorem EqV.rfl (x : Value) : EqV x x := ⟨Eq.refl x⟩
theorem keepE {W W' : World} {p : Prop} (_ : Below W.heap.size W W') (h : p) : p := h
theorem kGrownB {w0 W w' : World} {b : Nat} (hg : W.grownBy w' (some b)) (h : Hid (Below w0.heap.size w0 W)) (hb : w0.heap.size ≤ b) : Hid (Below w0.heap.size w0 w') := kGrown hg h hb
theorem Own.ne_box {W : World} {base l c g : Nat} {x : Addr} {zs : List Int} {t : TypeId} {vs : Array Value} (h : Own W base (some x) l c zs) (hx : Box W g t vs) (ht : t ≠ 5) : x.block ≠ g := by
  rintro rfl
  rcases h.shape with ⟨e, _⟩ | ⟨k, e⟩
  · cases e
  · cases e
    obtain ⟨cur, hc, _⟩ := h.block
    rw [Box] at hx
    rw [hx] at hc
    simp only [Option.some.injEq, Obj.cells.injEq] at hc
    exact ht hc.2.1
/-- a block of its own, of k cells -/
def AlV (W : World) (base : Nat) (v : Value) (t : TypeId) (k : Nat) : Prop := ∃ g vs, v = .pointer (some ⟨g, 0, none⟩) ∧ base ≤ g ∧ Box W g t vs ∧ vs.size = k
theorem AlV.below {W W' : World} {base k : Nat} {v : Value} {t : TypeId} (hb : Below W.heap.size W W') (h : AlV W base v t k) : AlV W' base v t k := by
  obtain ⟨g, vs, e, hg, x, s⟩ := h
  exact ⟨g, vs, e, hg, x.below hb x.lt, s⟩
theorem AlV.new {W : World} {base k : Nat} {t : TypeId} {vs : Array Value} (hb : base ≤ W.heap.size) (hs : vs.size = k) : AlV (W.alloc (.cells vs t)) base (.pointer (some ⟨W.heap.size, 0, none⟩)) t k := ⟨_, vs, rfl, hb, Box.new W t vs, hs⟩
/-- that block holds these cells, and behind them a slice of L bytes zs in an array of its own -/
def StV (W : World) (n0 base : Nat) (v : Value) (t : TypeId) (cs : Array Value) (L : Nat) (zs : List Int) : Prop := ∃ g a c, v = .pointer (some ⟨g, 0, none⟩) ∧ base ≤ g ∧ Box W g t (cs ++ #[.slice a L c]) ∧ Own W n0 a L c zs
theorem StV.below {W W' : World} {n0 base L : Nat} {v : Value} {t : TypeId} {cs : Array Value} {zs : List Int} (hb : Below W.heap.size W W') (h : StV W n0 base v t cs L zs) : StV W' n0 base v t cs L zs := by
  obtain ⟨g, a, c, e, hg, x, o⟩ := h
  exact ⟨g, a, c, e, hg, x.below hb x.lt, o.below hb⟩
theorem Own.offBox {W W' : World} {n0 L c g : Nat} {a : Option Addr} {zs : List Int} {t : TypeId} {vs : Array Value} (hx : Box W g t vs) (ht : t ≠ 5) (hg : W.grownBy W' (some g)) (o : Own W n0 a L c zs) : Own W' n0 a L c zs :=
  o.grown hg (fun x hx' e => by subst hx'; simp only [Option.some.injEq] at e; exact o.ne_box hx ht e)
theorem SlV.off {W W' : World} {n0 g L : Nat} {v : Value} {zs : List Int} {t : TypeId} {vs : Array Value} (hx : Box W g t vs) (ht : t ≠ 5) (hg : W.grownBy W' (some g)) (h : SlV W n0 v L zs) : SlV W' n0 v L zs := by
  obtain ⟨a, c, e, o⟩ := h
  exact ⟨a, c, e, o.offBox hx ht hg⟩
theorem AgV.off {W W' : World} {n0 g L : Nat} {v : Value} {cs : Array Value} {zs : List Int} {t : TypeId} {vs : Array Value} (hx : Box W g t vs) (ht : t ≠ 5) (hg : W.grownBy W' (some g)) (h : AgV W n0 v cs L zs) : AgV W' n0 v cs L zs := by
  obtain ⟨a, c, e, o⟩ := h
  exact ⟨a, c, e, o.offBox hx ht hg⟩
theorem bAlloc (W : World) (o : Obj) : Below W.heap.size W (W.alloc o) := (Below.refl _ _).alloc (Nat.le_refl _) o
theorem SlV.lit {W : World} {n0 : Nat} {zs : List Int} (hn : n0 ≤ W.heap.size) (L : Nat) (hL : zs.length = L) (h8 : B8 zs) (hm : L ≤ maxLen) (xs : Array Value) (hx : xs = (zs.map (Value.int .u8)).toArray) : SlV (W.alloc (.cells xs 5)) n0 (.slice (some ⟨W.heap.size, 0, none⟩) L L) L zs := by
  subst hx
  refine ⟨_, _, rfl, ?_, h8⟩
  have h := World.ownsRow_lit (e := 5) (size := 1) W (zs.map (Value.int .u8)).toArray L hn hm (by simp [hL])
  simpa using h
end Go.Proofs.Ytbngdenlplbjhaa
