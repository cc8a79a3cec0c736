/-
  The closure of maps.Keys over a map of notes: the keys come, each once, in some order.
-/
import Derived.RangeFuncNested
import Derived.RangeFuncBound
import Derived.RangeFuncCalls
import Derived.RangeFuncLeaves
import Derived.Shelf.Abstract
import Derived.Shelf.RegionOpen
import Derived.WalkKit
import Derived.OwnWalkIn
import Derived.TacticsInMore
import Derived.LoopNIn
import Derived.LoopIn
import Derived.Test.YtbngdenlplbjhaaC7R
namespace Go.Proofs.Ytbngdenlplbjhaa
open Go.ChangeShapes Go.WideShapes Go.ChangeAt Go.RowKit Go.Shelf
open Go.ChangeMaps (setBlock)
attribute [local go_sem] Oper.semAt_some

/-- the neighbour of an entry of the map -/
def kI (e : MapEntry) : Int := match e.key with | .agg #[.int .i64 i] => i | _ => 0
theorem kI_of {e : MapEntry} {i : Int} (h : e.key = KN i) : kI e = i := by unfold kI; rw [h]; rfl
theorem Mp.keysI {w : World} {b : Nat} {ns : List Nt} {es : Array MapEntry} {clock : Nat} (h : Mp w b ns es clock) : es.toList.map kI = ns.map (·.i) := by
  apply List.ext_getElem?
  intro j
  rw [List.getElem?_map, List.getElem?_map]
  rcases hn : ns[j]? with _ | n
  · have : es.toList.length = ns.length := by have := congrArg List.length h.kv; simpa using this
    rw [List.getElem?_eq_none (by rw [this]; exact List.getElem?_eq_none_iff.1 hn)]
    rfl
  · obtain ⟨e, he, hk, _⟩ := h.at hn
    rw [he]
    simp [kI_of hk]
/-- what has come: the keys of the entries that were handed out -/
def Came (es : Array MapEntry) (seen : Array Nat) (ss : List Int) : Prop := ss.Perm ((es.toList.filter fun e => seen.contains e.born).map kI)
theorem filter_push (l : List MapEntry) (seen : Array Nat) (e : MapEntry) (hn : (l.map (·.born)).Nodup) (he : e ∈ l) (hs : seen.contains e.born = false) :
    (l.filter fun x => (seen.push e.born).contains x.born).Perm (e :: l.filter fun x => seen.contains x.born) := by
  induction l with
  | nil => cases he
  | cons y l ih =>
    have hn' := List.nodup_cons.1 hn
    rcases List.mem_cons.1 he with rfl | h
    · have h1 : (seen.push e.born).contains e.born = true := by rw [contains_push]; simp
      rw [List.filter_cons, List.filter_cons, if_pos h1, hs]
      simp only [Bool.false_eq_true, if_false]
      refine List.Perm.cons _ ?_
      have : l.filter (fun x => (seen.push e.born).contains x.born) = l.filter fun x => seen.contains x.born := by
        refine List.filter_congr fun x hx => ?_
        rw [contains_push]
        have : (x.born == e.born) = false := by
          cases hc : x.born == e.born with
          | false => rfl
          | true => exact absurd (List.mem_map.2 ⟨x, hx, beq_iff_eq.1 hc⟩) hn'.1
        rw [this, Bool.or_false]
      rw [this]
    · have hy : (y.born == e.born) = false := by
        cases hc : y.born == e.born with
        | false => rfl
        | true => exact absurd (List.mem_map.2 ⟨e, h, (beq_iff_eq.1 hc).symm⟩) hn'.1
      have ih' := ih hn'.2 h
      rw [List.filter_cons, List.filter_cons, contains_push, hy, Bool.or_false]
      split
      · exact (List.Perm.cons y ih').trans (List.Perm.swap e y _)
      · exact ih'
theorem Came.step {w : World} {b : Nat} {ns : List Nt} {es : Array MapEntry} {clock : Nat} {seen : Array Nat} {ss : List Int} (hm : Mp w b ns es clock) (h : Came es seen ss) {e : MapEntry} {n : Nt} (he : e ∈ es.toList) (hk : e.key = KN n.i) (hs : seen.contains e.born = false) : Came es (seen.push e.born) (ss ++ [n.i]) := by
  have h1 := filter_push es.toList seen e ((MapKept.stamped_iff es clock).1 hm.st).2.1 he hs
  have h2 := h1.map kI
  rw [List.map_cons, kI_of hk] at h2
  exact (List.perm_append_singleton n.i ss).trans ((List.Perm.cons n.i h).trans h2.symm)
theorem Came.all {w : World} {b : Nat} {ns : List Nt} {es : Array MapEntry} {clock : Nat} {seen : Array Nat} {ss : List Int} (hm : Mp w b ns es clock) (h : Came es seen ss) (ha : ∀ x ∈ es.toList, seen.contains x.born = true) : ss.Perm (ns.map (·.i)) := by
  have : (es.toList.filter fun e => seen.contains e.born) = es.toList := List.filter_eq_self.2 ha
  unfold Came at h
  rw [this, hm.keysI] at h
  exact h
theorem Rg.walks {w w' : World} {b r : Nat} {ns : List Nt} {es : Array MapEntry} {clock since c0 : Nat} {seen : Array Nat} (h : Rg w b r ns es clock since c0 seen) (hk : KeepsWalks w w') : Rg w' b r ns es clock since c0 seen :=
  ⟨h.mp.same ((hk.same _ _ h.mp.hb rfl).trans h.mp.hb.symm), hk.same _ _ h.hr rfl, h.hold, h.hsc, h.hsk⟩
theorem len_parts {α : Type} (p : α → Bool) : ∀ l : List α, (l.filter p).length + (l.filter fun x => !p x).length = l.length
  | [] => rfl
  | x :: l => by
    have ih := len_parts p l
    cases h : p x
    · rw [List.filter_cons_of_neg (by rw [h]; decide), List.filter_cons_of_pos (by rw [h]; decide)]
      simp only [List.length_cons]
      omega
    · rw [List.filter_cons_of_pos h, List.filter_cons_of_neg (by rw [h]; decide)]
      simp only [List.length_cons]
      omega
theorem Came.len {es : Array MapEntry} {seen : Array Nat} {ss : List Int} (h : Came es seen ss) : ss.length + (leftOf es seen).size = es.size := by
  have h1 : ss.length = (es.toList.filter fun e => seen.contains e.born).length := by rw [h.length_eq, List.length_map]
  have e1 : ∀ (q : Array MapEntry) (p : MapEntry → Bool), (q.filter p).size = (q.toList.filter p).length := fun q p => by rw [← Array.toList_filter, Array.length_toList]
  have h2 : (leftOf es seen).size = (es.toList.filter fun e => !seen.contains e.born).length := by unfold leftOf; rw [e1]
  have h3 : es.size = es.toList.length := by simp
  rw [h1, h2, h3]
  exact len_parts _ _

set_option maxRecDepth 100000 in
set_option maxHeartbeats 4000000 in
theorem keysN_in (F : Fence) (n : Nat) (h10 : F.fn 96) (hro : F.round = none) (hn : 1 ≤ n) (l Bm b : Nat) (ns : List Nt) (ms : Array MapEntry) (clock : Nat) (J Jx : List Int → World → Prop)
    (hY : ∀ pre x W, J pre W → pre.length < ns.length → YieldAt F (n - 1) Try.prog l #[.agg #[.int .i64 x]] W fun e W' => (e = .returned (.bool true) ∧ J (pre ++ [x]) W' ∧ KeepsWalks W W') ∨ (e = .returned (.bool false) ∧ Jx (pre ++ [x]) W'))
    (W : World) (hJ : AbidesFrom W.heap.size J) (hx : W.cell? ⟨Bm, 0, none⟩ = some (.map (some b))) (hm : Mp W b ns ms clock) (h0 : J [] W) :
    CallsIn F n Try.prog 96 #[.func (.yield l) #[] #[], .pointer (some ⟨Bm, 0, none⟩)] W fun e W' => (∃ v, e = .returned v) ∧ ((∃ ss : List Int, ss.Perm (ns.map (·.i)) ∧ J ss W') ∨ (∃ pre, True ∧ Jx pre W')) := by
  have hrg := hm.range.1
  have R0 := Lib.hid hm.range.2
  have HY := Lib.hid hY
  have HJ := Lib.hid hJ
  have HS := Lib.hid hm.size
  have J0 := Lib.hid (hJ [] W (W.alloc (.mapIter (some b) clock #[] clock)) none h0 (World.grownBy_alloc W _ none) (fun r e => by cases e))
  clear hY hJ h0 hm
  refine callsIn_of_wp Try.func96 rfl h10 ?_ hro
  simp only [Try.ntmps96, List.size_toArray, List.length_cons, List.length_nil, Nat.reduceAdd, Nat.reduceSub, Array.replicate_succ, Array.replicate_zero, List.push_toArray, List.append_toArray, List.nil_append, List.cons_append]
  gi_wp2
  gi_loopw [3] (fun _ wr => ∃ (since c0 : Nat) (seen : Array Nat) (ss : List Int), Hid (Rg wr b W.heap.size ns ms clock since c0 seen) ∧ Hid (Came ms seen ss) ∧ Hid (J ss wr))
    (fun _ wr => wr.rangeLeft b W.heap.size)
  case atStart => exact ⟨clock, clock, #[], [], R0.out, by simp [Hid, Came], J0.out⟩
  case round =>
    obtain ⟨since, c0, seen, ss, hR, hC, hJs⟩ := hrel
    clear R0 J0 hrg
    rcases hR.out.next 0 with ⟨hall, hrun⟩ | ⟨j, e, q, w6, he, hq, hk, hv, hse, hrun, hR6, hg6, hs6, hlt6, hent⟩
    · have hnx : ∀ ty, (Instr.next (.pointer (some ⟨W.heap.size, 0, none⟩)) false ty).run Try.prog wr = _ := fun _ => hrun
      have HC := Lib.hid (hC.out.all hR.out.mp hall)
      clear hall hrun
      gi_wp2
      go_end0
      exact ⟨⟨_, rfl⟩, .inl ⟨ss, HC.out, hJs.out⟩⟩
    · have hnx : ∀ ty, (Instr.next (.pointer (some ⟨W.heap.size, 0, none⟩)) false ty).run Try.prog wr = _ := fun _ => hrun
      have J6 := HJ.out ss wr w6 (some W.heap.size) hJs.out hg6 (fun r e => by cases e; exact ⟨Nat.le_refl _, _, hR.out.hr, rfl⟩)
      have J7 := HJ.out ss w6 (w6.alloc (.cells #[.int .i64 q.i] 83)) none J6 (World.grownBy_alloc w6 _ none) (fun r e => by cases e)
      have C6 := Lib.hid (hC.out.step hR.out.mp (List.mem_of_getElem? he) hk hse)
      have LT := Lib.hid (show (leftOf ms (seen.push e.born)).size < wr.rangeLeft b W.heap.size by rw [hR.out.left]; exact hlt6)
      have hl : ss.length < ns.length := by have := hC.out.len; have := HS.out; omega
      have R7 := Lib.hid (hR6.below ((Below.refl _ w6).alloc (Nat.le_refl _) (.cells #[.int .i64 q.i] 83)))
      obtain ⟨fn, tmps, assign, body, hy, hRo⟩ := HY.out ss q.i _ J7 hl
      have HRo := Lib.hid hRo
      simp only [KN, NV] at hnx hent
      obtain ⟨qi, qm, qu, qp⟩ := q
      clear hrun hR hJs hC hg6 hs6 hlt6 hk hse hR6 he hq hv hl J6 J7 hRo
      gi_wp2
      refine HRo.out.mono ?_
      rintro e' W3 (⟨rfl, hJ3, hk3⟩ | ⟨rfl, hJx3⟩)
      · have R3 := Lib.hid (R7.out.walks hk3)
        have J3 := Lib.hid hJ3
        clear hJ3 hk3 R7 HRo hnx hent
        gi_wp2
        go_roundw
        case rel => exact ⟨since, clock, seen.push e.born, ss ++ [qi], R3.out, C6.out, J3.out⟩
        case measure => rw [R3.out.left]; exact LT.out
      · have J3 := Lib.hid hJx3
        clear hJx3 R7 HRo hnx hent
        gi_wp2
        refine bodyPost_ret (results_none rfl _ _ _) rfl ?_
        exact ⟨⟨_, rfl⟩, .inr ⟨_, trivial, J3.out⟩⟩
/-- maps.Keys over a map of notes, as a range over it asks -/
theorem keys_stops7 (F : Fence) (n : Nat) (h10 : F.fn 96) (hro : F.round = none) (hn : 1 ≤ n) (Bm b : Nat) (t : TypeId) (ns : List Nt) (ms : Array MapEntry) (clock : Nat) (w : World) (hx : Box w Bm t #[.map (some b)]) (hm : Mp w b ns ms clock) :
    SeqStopsK F n Try.prog 96 #[.pointer (some ⟨Bm, 0, none⟩)] (fun x : Int => #[.agg #[.int .i64 x]]) KeepsWalks (fun ss => ss.Perm (ns.map (·.i))) (fun _ => True) ns.length w := fun l J Jx W hW hJ _ hY h0 =>
  keysN_in F n h10 hro hn l Bm b ns ms clock J Jx hY W hJ ((hx.below hW hx.lt).cell 0) (hm.below hW) h0
end Go.Proofs.Ytbngdenlplbjhaa
