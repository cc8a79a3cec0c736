/-
  Bytes copied into an array that lies in a block of cells; contracts of the program's addresses as arrays of bytes.
-/
import Derived.Test.YtkneicepflkfhaaCat
import Derived.Test.YtkneicepflkfhaaAppR
import Derived.Deep.RegionLaw
import Derived.Laws.Tables
namespace Go.Proofs.Ytkneicepflkfhaa
open Go.ChangeShapes Go.WideShapes Go.ChangeAt Go.RowKit

theorem run_copy_box (w : World) (ty : TypeId) (b off dl dc : Nat) (t : TypeId) (vs : Array Value) (hx : Box w b t vs) (hfit : off + dl ≤ vs.size) (s : Option Addr) (ls cs : Nat) (ys : List Int) (hr : Rd w s ls cs ys) (hdl : 0 < dl ∧ dl ≤ ls) (es : List Int) (he : ys.take dl = es) :
    ∃ w', (Builtin.copy_ #[22, 22] ty #[.slice (some ⟨b, off, none⟩) dl dc, .slice s ls cs]).run Try.prog w = .ok (goInt dl) w' ∧ Box w' b t (Go.splice vs.toList off (es.map (.int .u8))).toArray ∧ w.grownBy w' (some b) := by
  have hu := Try.underlying22
  have hsz : (Try.prog.info? 5).map (·.size) = some 1 := by
    obtain ⟨i0, hi, hz0, hz1, hz2⟩ := info_parts Try.infoU8
    rw [hi]; simp [hz1]
  have hl := hr.length
  have hel : es.length = dl := by rw [← he, List.length_take]; omega
  rcases hr.cells with h0 | ⟨bb, o2, rfl, hc⟩
  · omega
  have hsrc : ∀ j v, (es.map (Value.int .u8))[j]? = some v → w.cell? ((⟨bb, o2, none⟩ : Addr).add j) = some v := by
    intro j v hv
    refine map_cells hl hc j v ?_
    rw [← he, List.map_take, List.getElem?_take] at hv
    split at hv
    · exact hv
    · cases hv
  have hrun := run_copy_row (P := Try.prog) w 22 22 ty 5 b off dl dc ⟨bb, o2, none⟩ ls cs vs t (es.map (.int .u8)) hu hsz hx (by rw [List.length_map, hel]; exact (Nat.min_eq_right hdl.2).symm) hsrc (by rw [List.length_map, hel]; exact hfit) (ints_oneCell _ _)
  rw [List.length_map, hel] at hrun
  refine ⟨_, hrun, ?_, ⟨rfl, rfl, rfl, by simp [World.setRow], fun k _ hk => setRow_other w b k _ (fun e => hk (by rw [e]))⟩⟩
  have := setRow_heap w b _ (Go.splice vs.toList off (es.map (.int .u8))).toArray _ _ hx
  unfold Box
  simpa [Go.splice, hel] using this

theorem copyBox_step (w : World) {ops : Array Oper} {o : Oper} {ac : Act} {K : Act → World → Prop} {Q : Exit → Act → World → Prop} {E : Prop} (hgd : o.guard = none) (d s : Operand)
    (ho : o.op = .call { callee := .builtin .copy, args := #[d, s], argTypes := #[22, 22] })
    (b off dl dc : Nat) (t : TypeId) (vs : Array Value) (hx : Box w b t vs) (hd : ac.eval d = .slice (some ⟨b, off, none⟩) dl dc) (hfit : off + dl ≤ vs.size)
    (a : Option Addr) (la ca : Nat) (ys : List Int) (hs : ac.eval s = .slice a la ca) (hr : Rd w a la ca ys) (hdl : 0 < dl ∧ dl ≤ la) (es : List Int) (he : ys.take dl = es)
    (h : ∀ w', Box w' b t (Go.splice vs.toList off (es.map (.int .u8))).toArray → w.grownBy w' (some b) → K (ac.put o.dst (goInt dl)) w') :
    if Region.wanted o (yielded ops ac.tmps) = true then Oper.wp Try.prog o ac w K Q else E := by
  have hw : Region.wanted o (yielded ops ac.tmps) = true := by simp [Region.wanted, hgd]
  rw [if_pos hw]
  obtain ⟨w', hrun, hb, hg⟩ := run_copy_box w o.type b off dl dc t vs hx hfit a la ca ys hr hdl es he
  unfold Oper.wp execOp
  simp only [ho, resolve, invoke, builtin, Sem.run_bind, Sem.run_pure, Result.andThen_ok, List.map_toArray, List.map_cons, List.map_nil, hd, hs, hrun]
  exact h w' hb hg

theorem copyBox_list (w : World) {ops : Array Oper} {rest : List Oper} {o : Oper} {ac : Act} {Q : Exit → Act → World → Prop} (hgd : o.guard = none) (d s : Operand)
    (ho : o.op = .call { callee := .builtin .copy, args := #[d, s], argTypes := #[22, 22] })
    (b off dl dc : Nat) (t : TypeId) (vs : Array Value) (hx : Box w b t vs) (hd : ac.eval d = .slice (some ⟨b, off, none⟩) dl dc) (hfit : off + dl ≤ vs.size)
    (a : Option Addr) (la ca : Nat) (ys : List Int) (hs : ac.eval s = .slice a la ca) (hr : Rd w a la ca ys) (hdl : 0 < dl ∧ dl ≤ la) (es : List Int) (he : ys.take dl = es)
    (h : ∀ w', Box w' b t (Go.splice vs.toList off (es.map (.int .u8))).toArray → w.grownBy w' (some b) → wpList Try.prog ops Q rest (ac.put o.dst (goInt dl)) w') :
    wpList Try.prog ops Q (o :: rest) ac w := by
  refine wpList_plain hgd fun K hK => ?_
  obtain ⟨w', hrun, hb, hg⟩ := run_copy_box w o.type b off dl dc t vs hx hfit a la ca ys hr hdl es he
  unfold Oper.wp execOp
  simp only [ho, resolve, invoke, builtin, Sem.run_bind, Sem.run_pure, Result.andThen_ok, List.map_toArray, List.map_cons, List.map_nil, hd, hs, hrun]
  exact hK _ _ (h w' hb hg)

theorem Box.six {w : World} {b : Nat} {t : TypeId} {x0 x1 x2 x3 x4 x5 : Value} (h : Box w b t #[x0, x1, x2, x3, x4, x5]) : b < w.heap.size ∧ w.cell? ⟨b, 0, none⟩ = some x0 ∧ w.cell? ⟨b, 1, none⟩ = some x1 ∧ w.cell? ⟨b, 2, none⟩ = some x2 ∧ w.cell? ⟨b, 3, none⟩ = some x3 ∧ w.cell? ⟨b, 4, none⟩ = some x4 ∧ w.cell? ⟨b, 5, none⟩ = some x5 := ⟨h.lt, h.cell 0, h.cell 1, h.cell 2, h.cell 3, h.cell 4, h.cell 5⟩
/-- a whole struct stored into its block, as a step of a region that draws its order -/
theorem storeBox_step (w : World) {ops : Array Oper} {o : Oper} {ac : Act} {K : Act → World → Prop} {Q : Exit → Act → World → Prop} {E : Prop} (hgd : o.guard = none) (ty : TypeId) (x y : Operand)
    (ho : o.op = .store ty x y) (b : Nat) (t : TypeId) (vs us : Array Value) (hx : Box w b t vs) (ex : ac.eval x = .pointer (some ⟨b, 0, none⟩)) (ey : ac.eval y = .agg us)
    (hi : (Try.prog.info? ty).map (·.size) = some us.size) (hs : vs.size = us.size) (h1 : us.all (·.oneCell') = true)
    (h : ∀ w', Box w' b t us → w.grownBy w' (some b) → K (ac.put o.dst undef) w') :
    if Region.wanted o (yielded ops ac.tmps) = true then Oper.wp Try.prog o ac w K Q else E := by
  have hw : Region.wanted o (yielded ops ac.tmps) = true := by simp [Region.wanted, hgd]
  rw [if_pos hw]
  refine wp_store_row ty x y ho b us ex ey t vs hx hi hs h1 (h _ (setRow_heap w b _ us _ _ hx) ?_)
  exact ⟨rfl, rfl, rfl, by simp [World.setRow], fun k _ hk => setRow_other w b k _ (fun e => hk (by rw [e]))⟩
theorem storeBox_list (w : World) {ops : Array Oper} {rest : List Oper} {o : Oper} {ac : Act} {Q : Exit → Act → World → Prop} (hgd : o.guard = none) (ty : TypeId) (x y : Operand)
    (ho : o.op = .store ty x y) (b : Nat) (t : TypeId) (vs us : Array Value) (hx : Box w b t vs) (ex : ac.eval x = .pointer (some ⟨b, 0, none⟩)) (ey : ac.eval y = .agg us)
    (hi : (Try.prog.info? ty).map (·.size) = some us.size) (hs : vs.size = us.size) (h1 : us.all (·.oneCell') = true)
    (h : ∀ w', Box w' b t us → w.grownBy w' (some b) → wpList Try.prog ops Q rest (ac.put o.dst undef) w') : wpList Try.prog ops Q (o :: rest) ac w := by
  refine wpList_store_row hgd ty x y ho b us ex ey t vs hx hi hs h1 (h _ (setRow_heap w b _ us _ _ hx) ?_)
  exact ⟨rfl, rfl, rfl, by simp [World.setRow], fun k _ hk => setRow_other w b k _ (fun e => hk (by rw [e]))⟩
theorem fld_br (w : World) (c : Int) (a : Option Addr) (l k : Nat) : (Instr.field 32 (.agg #[.int .i64 c, .slice a l k]) 1).run Try.prog w = .ok (.slice a l k) w := by
  simp [Instr.field, asAgg, go_sem]
theorem fld_ir (w : World) (c v : Int) : (Instr.field 89 (.agg #[.int .i64 c, .int .i64 v]) 1).run Try.prog w = .ok (.int .i64 v) w := by
  simp [Instr.field, asAgg, go_sem]

set_option maxHeartbeats 1000000 in
theorem macOf_any (n y0 y1 y2 y3 y4 y5 : Int) (w : World) (h : 0 ≤ n ∧ n < 281474976710656) (hb : be n 6 = [y0, y1, y2, y3, y4, y5]) :
    Calls Try.prog 44 #[.int .i64 n] w fun e w' => e = .returned (.agg #[.int .u8 y0, .int .u8 y1, .int .u8 y2, .int .u8 y3, .int .u8 y4, .int .u8 y5]) ∧ Below w.heap.size w w' := by
  have KP := Lib.hid (show ∀ W, Calls Try.prog 64 #[.int .i64 n, .int .i64 6] W (Packed W 0 [y0, y1, y2, y3, y4, y5]) from fun W => by rw [← hb]; exact implPack_ok n 6 W h.1 (by omega) (by simp only [Int.reducePow]; omega))
  clear h hb
  have hfb := fld_br
  have X0 := Lib.hid (Box.new (w.alloc (.cells #[.int .u8 0, .int .u8 0, .int .u8 0, .int .u8 0, .int .u8 0, .int .u8 0] 63)) 63 #[.int .u8 0, .int .u8 0, .int .u8 0, .int .u8 0, .int .u8 0, .int .u8 0])
  have R0 := Lib.hid ((Box.new w 63 #[.int .u8 0, .int .u8 0, .int .u8 0, .int .u8 0, .int .u8 0, .int .u8 0]).alloc (.cells #[.int .u8 0, .int .u8 0, .int .u8 0, .int .u8 0, .int .u8 0, .int .u8 0] 63))
  have B0 := Lib.hid (((Below.refl w.heap.size w).alloc (Nat.le_refl _) (.cells #[.int .u8 0, .int .u8 0, .int .u8 0, .int .u8 0, .int .u8 0, .int .u8 0] 63)).alloc (by simp) (.cells #[.int .u8 0, .int .u8 0, .int .u8 0, .int .u8 0, .int .u8 0, .int .u8 0] 63))
  simp only [World.size_alloc] at X0
  go_enter Try.func44, Try.ntmps44
  go_wp2_with fail
  generalize (w.alloc (.cells #[.int .u8 0, .int .u8 0, .int .u8 0, .int .u8 0, .int .u8 0, .int .u8 0] 63)).alloc (.cells #[.int .u8 0, .int .u8 0, .int .u8 0, .int .u8 0, .int .u8 0, .int .u8 0] 63) = W0 at *
  go_region_law (first
    | (have q := X1; clear q; refine copyBox_step _ rfl (.tmp 4) (.tmp 7) rfl (w.heap.size + 1) 0 6 6 63 _ X1.out rfl (by simp) _ _ _ _ rfl r1.out (by omega) [y0, y1, y2, y3, y4, y5] rfl ?_; intro w2 x2 g2)
    | (go_simp; go_at_call 64; refine (KP.out _).mono ?_; rintro e w1 ⟨a1, l1, c1, rfl, o1, b1⟩; obtain rfl : 6 = l1 := o1.length; have r1 := Lib.hid o1.rd; have X1 := Lib.hid ((show Box W0.drew _ _ _ from X0.out).below b1 X0.out.lt); have R1 := Lib.hid ((show Box W0.drew _ _ _ from R0.out).below b1 R0.out.lt); have B1 := Lib.hid (B0.out.drew.trans (b1.mono B0.out.size))))
  have x2 : Box w2 (w.heap.size + 1) 63 #[.int .u8 y0, .int .u8 y1, .int .u8 y2, .int .u8 y3, .int .u8 y4, .int .u8 y5] := x2
  have R2 := R1.out.grown g2 (by simp)
  have B2 := Lib.hid (B1.out.grown g2 B1.out.size (fun k e => by cases e; omega))
  obtain ⟨_, c0, c1, c2, c3, c4, c5⟩ := x2.six
  obtain ⟨_, d0, d1, d2, d3, d4, d5⟩ := R2.six
  have f0 := R2.frozen 0
  have f1 := R2.frozen 1
  have f2 := R2.frozen 2
  have f3 := R2.frozen 3
  have f4 := R2.frozen 4
  have f5 := R2.frozen 5
  clear x2 g2 X1 R1 B1 r1 o1 b1 R2 X0 R0 B0
  go_wp2
  refine bodyPost_ret (v := .agg #[.int .u8 y0, .int .u8 y1, .int .u8 y2, .int .u8 y3, .int .u8 y4, .int .u8 y5]) (by simp [results, Try.results44, go_sem, d0, d1, d2, d3, d4, d5]) rfl ⟨rfl, ?_⟩
  exact (((((B2.out.setCell (by simp) _).setCell (by simp) _).setCell (by simp) _).setCell (by simp) _).setCell (by simp) _).setCell (by simp) _

theorem b8_6 {y0 y1 y2 y3 y4 y5 : Int} {n : Int} {k : Nat} (h : be n k = [y0, y1, y2, y3, y4, y5]) : B8 [y0, y1, y2, y3, y4, y5] := by rw [← h]; exact b8_be k n

set_option maxHeartbeats 1000000 in
theorem packHead_any (y0 y1 y2 y3 y4 y5 z0 z1 z2 z3 z4 z5 kd : Int) (w : World) (h8 : B8 [y0, y1, y2, y3, y4, y5]) (g8 : B8 [z0, z1, z2, z3, z4, z5]) (h : 0 ≤ kd ∧ kd < 65536) :
    Calls Try.prog 46 #[.agg #[.int .u8 y0, .int .u8 y1, .int .u8 y2, .int .u8 y3, .int .u8 y4, .int .u8 y5, .int .u8 z0, .int .u8 z1, .int .u8 z2, .int .u8 z3, .int .u8 z4, .int .u8 z5, .int .i64 kd]] w (FreshA w ([y0, y1, y2, y3, y4, y5] ++ ([z0, z1, z2, z3, z4, z5] ++ be kd 2))) := by
  have KP := Lib.hid (show ∀ W, Calls Try.prog 64 #[.int .i64 kd, .int .i64 2] W (Packed W 0 (be kd 2)) from fun W => implPack_ok kd 2 W h.1 (by omega) (by simp only [Int.reducePow]; omega))
  have hbl := Lib.hid (be_len 2 kd)
  obtain ⟨L, hL⟩ : ∃ L, L = [y0, y1, y2, y3, y4, y5] ++ ([z0, z1, z2, z3, z4, z5] ++ be kd 2) := ⟨_, rfl⟩
  have HL := Lib.hid hL
  rw [← hL]
  clear h hL
  have hfb := fld_br
  have X0 := Lib.hid (Box.new w 66 #[.int .u8 y0, .int .u8 y1, .int .u8 y2, .int .u8 y3, .int .u8 y4, .int .u8 y5, .int .u8 z0, .int .u8 z1, .int .u8 z2, .int .u8 z3, .int .u8 z4, .int .u8 z5, .int .i64 kd])
  have B0 := Lib.hid ((Below.refl w.heap.size w).alloc (Nat.le_refl _) (.cells #[.int .u8 y0, .int .u8 y1, .int .u8 y2, .int .u8 y3, .int .u8 y4, .int .u8 y5, .int .u8 z0, .int .u8 z1, .int .u8 z2, .int .u8 z3, .int .u8 z4, .int .u8 z5, .int .i64 kd] 66))
  have RY := Lib.hid (fun W (hW : Box W w.heap.size 66 #[.int .u8 y0, .int .u8 y1, .int .u8 y2, .int .u8 y3, .int .u8 y4, .int .u8 y5, .int .u8 z0, .int .u8 z1, .int .u8 z2, .int .u8 z3, .int .u8 z4, .int .u8 z5, .int .i64 kd]) => Rd.of_box (off := 0) (len := 6) hW rfl (by unfold maxLen; omega) h8 (fun i hi => by
    obtain rfl | rfl | rfl | rfl | rfl | rfl : i = 0 ∨ i = 1 ∨ i = 2 ∨ i = 3 ∨ i = 4 ∨ i = 5 := by omega
    all_goals rfl))
  have RZ := Lib.hid (fun W (hW : Box W w.heap.size 66 #[.int .u8 y0, .int .u8 y1, .int .u8 y2, .int .u8 y3, .int .u8 y4, .int .u8 y5, .int .u8 z0, .int .u8 z1, .int .u8 z2, .int .u8 z3, .int .u8 z4, .int .u8 z5, .int .i64 kd]) => Rd.of_box (off := 6) (len := 6) hW rfl (by unfold maxLen; omega) g8 (fun i hi => by
    obtain rfl | rfl | rfl | rfl | rfl | rfl : i = 0 ∨ i = 1 ∨ i = 2 ∨ i = 3 ∨ i = 4 ∨ i = 5 := by omega
    all_goals rfl))
  clear h8 g8
  have k12 : (w.alloc (.cells #[.int .u8 y0, .int .u8 y1, .int .u8 y2, .int .u8 y3, .int .u8 y4, .int .u8 y5, .int .u8 z0, .int .u8 z1, .int .u8 z2, .int .u8 z3, .int .u8 z4, .int .u8 z5, .int .i64 kd] 66)).cell? ⟨w.heap.size, 12, none⟩ = some (.int .i64 kd) := X0.out.cell 12
  go_enter Try.func46, Try.ntmps46
  go_wp2_with fail
  generalize w.alloc (.cells #[.int .u8 y0, .int .u8 y1, .int .u8 y2, .int .u8 y3, .int .u8 y4, .int .u8 y5, .int .u8 z0, .int .u8 z1, .int .u8 z2, .int .u8 z3, .int .u8 z4, .int .u8 z5, .int .i64 kd] 66) = W0 at *
  go_region_law (first
    | (have q := X1; clear q; go_simp; go_at_call 45; refine (concat3 _ _ _ _ _ _ _ _ _ _ _ _ _ _ _ (Box.new _ _ _) ((RY.out _ X1.out).alloc _) ((RZ.out _ X1.out).alloc _) (r1.out.alloc _) (by omega)).mono ?_; rintro e w2 ⟨a2, l2, c2, rfl, o2, b2⟩)
    | (go_simp; go_at_call 64; refine (KP.out _).mono ?_; rintro e w1 ⟨a1, l1, c1, rfl, o1, b1⟩; obtain rfl : 2 = l1 := hbl.out.symm.trans o1.length; have r1 := Lib.hid o1.rd; have X1 := Lib.hid ((show Box W0.drew _ _ _ from X0.out).below b1 X0.out.lt); have B1 := Lib.hid (B0.out.drew.trans (b1.mono B0.out.size))))
  have B2 := Lib.hid ((B1.out.alloc B1.out.size (.cells #[.slice (some ⟨w.heap.size, 0, none⟩) 6 6, .slice (some ⟨w.heap.size, 6, none⟩) 6 6, .slice a1 2 c1] 22)).trans (b2.mono (by have := B1.out.size; simp; omega)))
  have O2 := Lib.hid (o2.rebase (show w.heap.size ≤ _ by have := B1.out.size; simp; omega))
  clear o2 b2 r1 o1 b1 X1 B1
  go_wp2
  go_ret
  exact ⟨a2, l2, c2, rfl, by rw [HL.out]; exact O2.out, B2.out⟩
end Go.Proofs.Ytkneicepflkfhaa
