/-
  Maps of notes by neighbours: what a map holds (Mp), and what is stored in it, found in it, taken out of it.
-/
import Derived.Test.YtbngdenlplbjhaaE7M
import Derived.Maps.Keyed
import Derived.DeepKeys4
namespace Go.Proofs.Ytbngdenlplbjhaa
open Go.ChangeShapes Go.WideShapes Go.ChangeAt Go.RowKit
open Go.ChangeMaps (setBlock)
open Go.MapKept (Stamped)

/-- what is known of a neighbour, and who it is -/
structure Nt where
  i : Int
  m : Int
  u : Int
  p : Int
def KN (i : Int) : Value := .agg #[.int .i64 i]
def NV (n : Nt) : Value := .agg #[.int .i64 n.m, .int .i64 n.u, .int .i64 n.p]
def okI (i : Int) : Prop := 0 ≤ i ∧ i ≤ 4294967295
theorem KN_inj {i j : Int} (h : KN i = KN j) : i = j := by
  unfold KN at h
  simp at h
  exact h
theorem Try.laid7 : laidOutB Try.prog = true := by kernel_rfl
theorem Try.row7 : (83 : TypeId) < Try.prog.types.size := of_decide_eq_true (by kernel_rfl)
theorem Try.wide7 : (match Try.prog.underlying 83 with | some (.array _ _) | some (.struct _) => true | _ => false) = true := by rw [Try.underlying83]
set_option maxRecDepth 20000 in
theorem Try.law7 : WideMaps.KeyLaw Try.prog 83 := deep_law_laid Try.laid7 (m := 2) (by omega) Try.row7 (by kernel_rfl) Try.wide7
theorem Try.keyed7 : Maps.Keyed Try.prog 83 := Maps.Keyed.of_law Try.law7
theorem key7 {i : Int} (h : okI i) : ∃ l, keyOf Try.prog 83 (KN i) = some l := by
  have hw : (Lit.int .i64 i).wf = true := WalkArith.wf_i64 (n := i) ⟨Int.le_trans (by omega) h.1, Int.le_trans h.2 (by omega)⟩
  obtain ⟨m, hm⟩ : ∃ m, Try.prog.types.size = m + 1 := ⟨Try.prog.types.size - 1, by have h0 : 0 < Try.prog.types.size := of_decide_eq_true (by kernel_rfl); omega⟩
  have hc : Try.prog.cellsOf 2 = 1 := by kernel_rfl
  have hc7 : Try.prog.cellsOf 83 = 1 := by kernel_rfl
  have hk : Try.prog.keyType 83 = true := by kernel_rfl
  unfold keyOf
  rw [Try.underlying83]
  simp only [hk, Bool.true_and]
  have hf : (KN i).formed Try.prog 83 = true := by simp [KN, Value.formed, Try.underlying83, hc7]
  rw [hf, hm]
  simp [Program.keyLits, Try.underlying83, Try.underlying2, hc, hc7, KN, Value.cells, hw]

/-- the map in the block b holds these notes, one a neighbour -/
structure Mp (w : World) (b : Nat) (ns : List Nt) (es : Array MapEntry) (clock : Nat) : Prop where
  hb : w.heap[b]? = some (.map es clock)
  st : Stamped es clock
  kv : es.toList.map (fun e => (e.key, e.val)) = ns.map (fun n => (KN n.i, NV n))
  ok : ∀ n ∈ ns, okI n.i
section
variable {w w' : World} {b : Nat} {ns : List Nt} {es : Array MapEntry} {clock : Nat}
theorem Mp.size (h : Mp w b ns es clock) : es.size = ns.length := by
  have := congrArg List.length h.kv
  simpa using this
theorem Mp.same (h : Mp w b ns es clock) (hb : w'.heap[b]? = w.heap[b]?) : Mp w' b ns es clock := ⟨hb.trans h.hb, h.st, h.kv, h.ok⟩
theorem Mp.lt (h : Mp w b ns es clock) : b < w.heap.size := (Array.getElem?_eq_some_iff.1 h.hb).1
theorem Mp.below (h : Mp w b ns es clock) (hb : Below w.heap.size w w') : Mp w' b ns es clock := h.same (hb.block _ h.lt)
theorem Mp.drew (h : Mp w b ns es clock) : Mp w.drew b ns es clock := h.below (Below.refl _ w).drew
theorem Mp.alloc (h : Mp w b ns es clock) (o : Obj) : Mp (w.alloc o) b ns es clock := h.below ((Below.refl _ _).alloc (Nat.le_refl _) o)
theorem Mp.new (w : World) : Mp (w.alloc (.map #[] 0)) w.heap.size [] #[] 0 := ⟨heap_alloc_new w _, MapKept.stamped_empty 0, rfl, fun _ h => by cases h⟩
theorem Mp.at (h : Mp w b ns es clock) {j : Nat} {n : Nt} (hn : ns[j]? = some n) : ∃ e, es.toList[j]? = some e ∧ e.key = KN n.i ∧ e.val = NV n := by
  have h1 : (es.toList.map (fun e => (e.key, e.val)))[j]? = some (KN n.i, NV n) := by rw [h.kv, List.getElem?_map, hn]; rfl
  rw [List.getElem?_map] at h1
  obtain ⟨e, he, hkv⟩ := Option.map_eq_some_iff.1 h1
  simp only [Prod.mk.injEq] at hkv
  exact ⟨e, he, hkv.1, hkv.2⟩
theorem Mp.note (h : Mp w b ns es clock) {j : Nat} {e : MapEntry} (he : es.toList[j]? = some e) : ∃ n, ns[j]? = some n ∧ e.key = KN n.i ∧ e.val = NV n := by
  have h1 : (ns.map (fun n => (KN n.i, NV n)))[j]? = some (e.key, e.val) := by rw [← h.kv, List.getElem?_map, he]; rfl
  rw [List.getElem?_map] at h1
  obtain ⟨n, hn, hkv⟩ := Option.map_eq_some_iff.1 h1
  simp only [Prod.mk.injEq] at hkv
  exact ⟨n, hn, hkv.1.symm, hkv.2.symm⟩
theorem Mp.keys (h : Mp w b ns es clock) : ∀ e ∈ es.toList, ∃ l, keyOf Try.prog 83 e.key = some l := by
  intro e he
  obtain ⟨j, hj⟩ := List.getElem?_of_mem he
  obtain ⟨n, hn, hk, _⟩ := h.note hj
  rw [hk]
  exact key7 (h.ok n (List.mem_of_getElem? hn))
theorem Mp.apart (h : Mp w b ns es clock) : ns.Pairwise fun p q => p.i ≠ q.i := by
  have h1 := ((MapKept.stamped_iff _ _).1 h.st).2.2
  have h2 : (es.toList.map (fun e => (e.key, e.val))).Pairwise (fun p q => p.1 ≠ q.1) := List.pairwise_map.2 h1
  rw [h.kv] at h2
  have h3 := List.pairwise_map.1 h2
  exact h3.imp (fun {p q} hne e => hne (by rw [e]))
/-- a neighbour is sought: it is not there, or it is there at a place -/
theorem Mp.find (h : Mp w b ns es clock) (w' : World) {i : Int} (hi : okI i) :
    ((Instr.findKey 83 (KN i) es.toList).run Try.prog w' = .ok none w' ∧ (∀ n ∈ ns, n.i ≠ i) ∧ ∀ e ∈ es.toList, e.key ≠ KN i) ∨
    ∃ j n e, (Instr.findKey 83 (KN i) es.toList).run Try.prog w' = .ok (some (j, NV n)) w' ∧ ns[j]? = some n ∧ n.i = i ∧ es.toList[j]? = some e ∧ e.key = KN i := by
  obtain ⟨l, hl⟩ := key7 hi
  rcases Try.keyed7.find w' hl es.toList h.keys with ⟨h1, h2⟩ | ⟨j, e, h1, h2, h3⟩
  · left
    refine ⟨h1, fun n hn e => ?_, h2⟩
    obtain ⟨j, hj⟩ := List.getElem?_of_mem hn
    obtain ⟨x, hx, hk, _⟩ := h.at hj
    exact h2 x (List.mem_of_getElem? hx) (by rw [hk, e])
  · right
    obtain ⟨n, hn, hk, hv⟩ := h.note h2
    rw [hv] at h1
    exact ⟨j, n, e, h1, hn, KN_inj (by rw [← hk, h3]), h2, h3⟩
theorem setBlock_at (w : World) (b : Nat) (o : Obj) (hb : b < w.heap.size) : (setBlock w b o).heap[b]? = some o := by simp [setBlock, hb]
theorem setBlock_grown (w : World) (b : Nat) (o : Obj) : w.grownBy (setBlock w b o) (some b) := ⟨rfl, rfl, rfl, by simp [setBlock], fun k _ hk => by simp only [setBlock]; rw [Array.getElem?_setIfInBounds_ne (by intro e; exact hk (by rw [e]))]⟩
/-- m[k] = v, the neighbour not there yet -/
theorem Mp.push (h : Mp w b ns es clock) (n : Nt) (hi : okI n.i) (hne : ∀ q ∈ ns, q.i ≠ n.i) :
    ∃ es' clock', (Instr.mapUpdate 80 (.map (some b)) (KN n.i) (NV n)).run Try.prog w = .ok () (setBlock w b (.map es' clock')) ∧ Mp (setBlock w b (.map es' clock')) b (ns ++ [n]) es' clock' := by
  obtain ⟨l, hl⟩ := key7 hi
  rcases h.find w hi with ⟨h1, _, h3⟩ | ⟨j, q, _, _, h2, h3, _⟩
  · refine ⟨es.push ⟨KN n.i, NV n, clock⟩, clock + 1, ?_, setBlock_at _ _ _ h.lt, MapKept.stamped_push h.st h3, ?_, ?_⟩
    · simp [Instr.mapUpdate, run_underlying Try.underlying80, MapKept.run_getObj_map h.hb, Try.keyed7.check w false hl, h1, MapKept.run_setObj_map _ h.hb, Result.andThen, setBlock]
    · simp only [Array.toList_push, List.map_append, h.kv, List.map_cons, List.map_nil]
    · intro q hq
      rcases List.mem_append.1 hq with hq | hq
      · exact h.ok q hq
      · obtain rfl := List.mem_singleton.1 hq
        exact hi
  · exact absurd h3 (hne q (List.mem_of_getElem? h2))
/-- m[k] = v, the neighbour there already -/
theorem Mp.again (h : Mp w b ns es clock) (n : Nt) (hi : okI n.i) (hex : ∃ q ∈ ns, q.i = n.i) :
    ∃ es' clock' ns', (Instr.mapUpdate 80 (.map (some b)) (KN n.i) (NV n)).run Try.prog w = .ok () (setBlock w b (.map es' clock')) ∧ Mp (setBlock w b (.map es' clock')) b ns' es' clock' ∧ ns'.map (·.i) = ns.map (·.i) := by
  obtain ⟨l, hl⟩ := key7 hi
  rcases h.find w hi with ⟨_, h2, _⟩ | ⟨j, q, e, h1, h2, h3, h4, h5⟩
  · obtain ⟨q, hq, hqi⟩ := hex
    exact absurd hqi (h2 q hq)
  · have hj : es[j]? = some e := by simpa using h4
    have hlist : (es.modify j (fun e' => { e' with key := KN n.i, val := NV n })).toList = es.toList.set j { e with key := KN n.i, val := NV n } := by rw [Array.toList_modify, ChangeMaps.modify_eq_set _ _ _ _ h4]
    refine ⟨es.modify j (fun e' => { e' with key := KN n.i, val := NV n }), clock, ns.set j n, ?_, ⟨setBlock_at _ _ _ h.lt, MapKept.stamped_modify h.st _ _ (fun _ _ => rfl) (fun e' _ he' => by rw [hj] at he'; cases he'; exact h5.symm), ?_, ?_⟩, ?_⟩
    · simp [Instr.mapUpdate, run_underlying Try.underlying80, MapKept.run_getObj_map h.hb, Try.keyed7.check w false hl, h1, hj, h5, Try.keyed7.stays w hl, MapKept.run_setObj_map _ h.hb, Result.andThen, setBlock]
    · rw [hlist, List.map_set, h.kv, List.map_set]
    · intro q' hq'
      rcases List.mem_or_eq_of_mem_set hq' with hq' | rfl
      · exact h.ok q' hq'
      · exact hi
    · rw [List.map_set]
      apply List.ext_getElem?
      intro k
      rw [List.getElem?_set]
      split
      · next hk =>
        subst hk
        rw [List.getElem?_map, h2]
        split
        · simp [h3]
        · next hlt => exfalso; apply hlt; simpa using (List.getElem?_eq_some_iff.1 h2).1
      · rfl
/-- v, ok := m[k] -/
theorem Mp.look (h : Mp w b ns es clock) (w' : World) (hw : w'.heap[b]? = some (.map es clock)) {i : Int} (hi : okI i) :
    ((Instr.lookup 80 (.map (some b)) (KN i) true).run Try.prog w' = .ok (.tuple #[.agg #[.int .i64 0, .int .i64 0, .int .i64 0], .bool false]) w' ∧ (∀ n ∈ ns, n.i ≠ i)) ∨
    ∃ n ∈ ns, n.i = i ∧ (Instr.lookup 80 (.map (some b)) (KN i) true).run Try.prog w' = .ok (.tuple #[NV n, .bool true]) w' := by
  obtain ⟨l, hl⟩ := key7 hi
  have hz : (zeroValue 87).run Try.prog w' = .ok (.agg #[.int .i64 0, .int .i64 0, .int .i64 0]) w' := by kernel_rfl
  rcases h.find w' hi with ⟨h1, h2, _⟩ | ⟨j, n, e, h1, h2, h3, _, _⟩
  · left
    exact ⟨by simp [Instr.lookup, run_underlying Try.underlying80, MapKept.run_getObj_map hw, Try.keyed7.check w' _ hl, h1, hz, Result.andThen], h2⟩
  · right
    exact ⟨n, List.mem_of_getElem? h2, h3, by simp [Instr.lookup, run_underlying Try.underlying80, MapKept.run_getObj_map hw, Try.keyed7.check w' _ hl, h1, Result.andThen]⟩
theorem Mp.len (h : Mp w b ns es clock) (ty : TypeId) : (Builtin.len_ #[80] ty #[.map (some b)]).run Try.prog w = .ok (.int .i64 ((ns.length : Nat) : Int)) w := by
  have hu : Try.prog.underlying 80 = some (.map (Try.prog.mapKeyOf 80) (Try.prog.mapElemOf 80)) := by kernel_rfl
  have := run_len_map (P := Try.prog) w 80 ty b es clock hu h.hb
  rw [h.size] at this
  exact this
end
end Go.Proofs.Ytbngdenlplbjhaa
