/-
  Bytes copied into an array that lies in a block of cells; contracts of the program's addresses as arrays of bytes.
-/
import Derived.Test.YtimlobhlcmghfaaCat
import Derived.Test.YtimlobhlcmghfaaAppR
import Derived.Deep.RegionLaw
import Derived.Laws.Tables
namespace Go.Proofs.Ytimlobhlcmghfaa
open Go.ChangeShapes Go.WideShapes Go.ChangeAt Go.RowKit

theorem run_copy_box (w : World) (ty : TypeId) (b off dl dc : Nat) (t : TypeId) (vs : Array Value) (hx : Box w b t vs) (hfit : off + dl ≤ vs.size) (s : Option Addr) (ls cs : Nat) (ys : List Int) (hr : Rd w s ls cs ys) (hdl : 0 < dl ∧ dl ≤ ls) (es : List Int) (he : ys.take dl = es) :
    ∃ w', (Builtin.copy_ #[22, 22] ty #[.slice (some ⟨b, off, none⟩) dl dc, .slice s ls cs]).run Try.prog w = .ok (goInt dl) w' ∧ Box w' b t (Go.splice vs.toList off (es.map (.int .u8))).toArray ∧ w.grownBy w' (some b) := by
  have hu := Try.underlying22
  have hsz : (Try.prog.info? 5).map (·.size) = some 1 := by
    obtain ⟨i0, hi, hz0, hz1, hz2⟩ := info_parts Try.infoU8
    rw [hi]; simp [hz1]
  have hl := hr.length
  have hel : es.length = dl := by rw [← he, List.length_take]; omega
  rcases hr.cells with h0 | ⟨bb, o2, rfl, hc⟩
  · omega
  have hsrc : ∀ j v, (es.map (Value.int .u8))[j]? = some v → w.cell? ((⟨bb, o2, none⟩ : Addr).add j) = some v := by
    intro j v hv
    refine map_cells hl hc j v ?_
    rw [← he, List.map_take, List.getElem?_take] at hv
    split at hv
    · exact hv
    · cases hv
  have hrun := run_copy_row (P := Try.prog) w 22 22 ty 5 b off dl dc ⟨bb, o2, none⟩ ls cs vs t (es.map (.int .u8)) hu hsz hx (by rw [List.length_map, hel]; exact (Nat.min_eq_right hdl.2).symm) hsrc (by rw [List.length_map, hel]; exact hfit) (ints_oneCell _ _)
  rw [List.length_map, hel] at hrun
  refine ⟨_, hrun, ?_, ⟨rfl, rfl, rfl, by simp [World.setRow], fun k _ hk => setRow_other w b k _ (fun e => hk (by rw [e]))⟩⟩
  have := setRow_heap w b _ (Go.splice vs.toList off (es.map (.int .u8))).toArray _ _ hx
  unfold Box
  simpa [Go.splice, hel] using this

theorem copyBox_step (w : World) {ops : Array Oper} {o : Oper} {ac : Act} {K : Act → World → Prop} {Q : Exit → Act → World → Prop} {E : Prop} (hgd : o.guard = none) (d s : Operand)
    (ho : o.op = .call { callee := .builtin .copy, args := #[d, s], argTypes := #[22, 22] })
    (b off dl dc : Nat) (t : TypeId) (vs : Array Value) (hx : Box w b t vs) (hd : ac.eval d = .slice (some ⟨b, off, none⟩) dl dc) (hfit : off + dl ≤ vs.size)
    (a : Option Addr) (la ca : Nat) (ys : List Int) (hs : ac.eval s = .slice a la ca) (hr : Rd w a la ca ys) (hdl : 0 < dl ∧ dl ≤ la) (es : List Int) (he : ys.take dl = es)
    (h : ∀ w', Box w' b t (Go.splice vs.toList off (es.map (.int .u8))).toArray → w.grownBy w' (some b) → K (ac.put o.dst (goInt dl)) w') :
    if Region.wanted o (yielded ops ac.tmps) = true then Oper.wp Try.prog o ac w K Q else E := by
  have hw : Region.wanted o (yielded ops ac.tmps) = true := by simp [Region.wanted, hgd]
  rw [if_pos hw]
  obtain ⟨w', hrun, hb, hg⟩ := run_copy_box w o.type b off dl dc t vs hx hfit a la ca ys hr hdl es he
  unfold Oper.wp execOp
  simp only [ho, resolve, invoke, builtin, Sem.run_bind, Sem.run_pure, Result.andThen_ok, List.map_toArray, List.map_cons, List.map_nil, hd, hs, hrun]
  exact h w' hb hg

theorem copyBox_list (w : World) {ops : Array Oper} {rest : List Oper} {o : Oper} {ac : Act} {Q : Exit → Act → World → Prop} (hgd : o.guard = none) (d s : Operand)
    (ho : o.op = .call { callee := .builtin .copy, args := #[d, s], argTypes := #[22, 22] })
    (b off dl dc : Nat) (t : TypeId) (vs : Array Value) (hx : Box w b t vs) (hd : ac.eval d = .slice (some ⟨b, off, none⟩) dl dc) (hfit : off + dl ≤ vs.size)
    (a : Option Addr) (la ca : Nat) (ys : List Int) (hs : ac.eval s = .slice a la ca) (hr : Rd w a la ca ys) (hdl : 0 < dl ∧ dl ≤ la) (es : List Int) (he : ys.take dl = es)
    (h : ∀ w', Box w' b t (Go.splice vs.toList off (es.map (.int .u8))).toArray → w.grownBy w' (some b) → wpList Try.prog ops Q rest (ac.put o.dst (goInt dl)) w') :
    wpList Try.prog ops Q (o :: rest) ac w := by
  refine wpList_plain hgd fun K hK => ?_
  obtain ⟨w', hrun, hb, hg⟩ := run_copy_box w o.type b off dl dc t vs hx hfit a la ca ys hr hdl es he
  unfold Oper.wp execOp
  simp only [ho, resolve, invoke, builtin, Sem.run_bind, Sem.run_pure, Result.andThen_ok, List.map_toArray, List.map_cons, List.map_nil, hd, hs, hrun]
  exact hK _ _ (h w' hb hg)

theorem Box.six {w : World} {b : Nat} {t : TypeId} {x0 x1 x2 x3 x4 x5 : Value} (h : Box w b t #[x0, x1, x2, x3, x4, x5]) : b < w.heap.size ∧ w.cell? ⟨b, 0, none⟩ = some x0 ∧ w.cell? ⟨b, 1, none⟩ = some x1 ∧ w.cell? ⟨b, 2, none⟩ = some x2 ∧ w.cell? ⟨b, 3, none⟩ = some x3 ∧ w.cell? ⟨b, 4, none⟩ = some x4 ∧ w.cell? ⟨b, 5, none⟩ = some x5 := ⟨h.lt, h.cell 0, h.cell 1, h.cell 2, h.cell 3, h.cell 4, h.cell 5⟩
/-- a whole struct stored into its block, as a step of a region that draws its order -/
theorem storeBox_step (w : World) {ops : Array Oper} {o : Oper} {ac : Act} {K : Act → World → Prop} {Q : Exit → Act → World → Prop} {E : Prop} (hgd : o.guard = none) (ty : TypeId) (x y : Operand)
    (ho : o.op = .store ty x y) (b : Nat) (t : TypeId) (vs us : Array Value) (hx : Box w b t vs) (ex : ac.eval x = .pointer (some ⟨b, 0, none⟩)) (ey : ac.eval y = .agg us)
    (hi : (Try.prog.info? ty).map (·.size) = some us.size) (hs : vs.size = us.size) (h1 : us.all (·.oneCell') = true)
    (h : ∀ w', Box w' b t us → w.grownBy w' (some b) → K (ac.put o.dst undef) w') :
    if Region.wanted o (yielded ops ac.tmps) = true then Oper.wp Try.prog o ac w K Q else E := by
  have hw : Region.wanted o (yielded ops ac.tmps) = true := by simp [Region.wanted, hgd]
  rw [if_pos hw]
  refine wp_store_row ty x y ho b us ex ey t vs hx hi hs h1 (h _ (setRow_heap w b _ us _ _ hx) ?_)
  exact ⟨rfl, rfl, rfl, by simp [World.setRow], fun k _ hk => setRow_other w b k _ (fun e => hk (by rw [e]))⟩
theorem storeBox_list (w : World) {ops : Array Oper} {rest : List Oper} {o : Oper} {ac : Act} {Q : Exit → Act → World → Prop} (hgd : o.guard = none) (ty : TypeId) (x y : Operand)
    (ho : o.op = .store ty x y) (b : Nat) (t : TypeId) (vs us : Array Value) (hx : Box w b t vs) (ex : ac.eval x = .pointer (some ⟨b, 0, none⟩)) (ey : ac.eval y = .agg us)
    (hi : (Try.prog.info? ty).map (·.size) = some us.size) (hs : vs.size = us.size) (h1 : us.all (·.oneCell') = true)
    (h : ∀ w', Box w' b t us → w.grownBy w' (some b) → wpList Try.prog ops Q rest (ac.put o.dst undef) w') : wpList Try.prog ops Q (o :: rest) ac w := by
  refine wpList_store_row hgd ty x y ho b us ex ey t vs hx hi hs h1 (h _ (setRow_heap w b _ us _ _ hx) ?_)
  exact ⟨rfl, rfl, rfl, by simp [World.setRow], fun k _ hk => setRow_other w b k _ (fun e => hk (by rw [e]))⟩
theorem fld_br (w : World) (c : Int) (a : Option Addr) (l k : Nat) : (Instr.field 98 (.agg #[.int .i64 c, .slice a l k]) 1).run Try.prog w = .ok (.slice a l k) w := by
  simp [Instr.field, asAgg, go_sem]
theorem fld_ir (w : World) (c v : Int) : (Instr.field 37 (.agg #[.int .i64 c, .int .i64 v]) 1).run Try.prog w = .ok (.int .i64 v) w := by
  simp [Instr.field, asAgg, go_sem]

theorem b8_6 {y0 y1 y2 y3 y4 y5 : Int} {n : Int} {k : Nat} (h : be n k = [y0, y1, y2, y3, y4, y5]) : B8 [y0, y1, y2, y3, y4, y5] := by rw [← h]; exact b8_be k n

end Go.Proofs.Ytimlobhlcmghfaa
