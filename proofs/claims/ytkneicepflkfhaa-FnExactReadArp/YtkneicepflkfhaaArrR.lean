/-
  Contracts of the program's readers of heads and parties, whose addresses are arrays in a struct.
-/
import Derived.Test.YtkneicepflkfhaaArr
import Derived.Test.YtkneicepflkfhaaFrmR
namespace Go.Proofs.Ytkneicepflkfhaa
open Go.ChangeShapes Go.WideShapes Go.ChangeAt Go.RowKit

/-- a whole struct loaded out of its block -/
theorem loadBox_list (w : World) {ops : Array Oper} {rest : List Oper} {o : Oper} {ac : Act} {Q : Exit → Act → World → Prop} (hgd : o.guard = none) (ty : TypeId) (x : Operand)
    (ho : o.op = .load ty x) (b : Nat) (t : TypeId) (vs : Array Value) (hx : Box w b t vs) (ex : ac.eval x = .pointer (some ⟨b, 0, none⟩)) (d : TypeDesc) (hd : (match d with | .struct _ | .array _ _ => true | _ => false) = true) (hu : Try.prog.underlying ty = some d)
    (hi : (Try.prog.info? ty).map (·.size) = some vs.size)
    (h : wpList Try.prog ops Q rest (ac.put o.dst (.agg vs)) w) : wpList Try.prog ops Q (o :: rest) ac w := by
  refine wpList_plain hgd fun K hK => ?_
  have hrun := run_loadVar_row (P := Try.prog) w b t ty vs (0, 0) d hx hu (by cases d <;> first | rfl | exact hd) hi
  unfold Oper.wp execOp
  simp only [ho, ex, Instr.loadAt, Instr.sureAddr, Sem.run_bind, Sem.run_pure, Result.andThen_ok, hrun]
  exact hK _ _ h

set_option maxHeartbeats 1000000 in
theorem readHead_any (a : Option Addr) (len cap : Nat) (zs : List Int) (y0 y1 y2 y3 y4 y5 z0 z1 z2 z3 z4 z5 kd : Int) (w : World) (hr : Rd w a len cap zs) (hl : 14 ≤ len) (hy : zs.take 6 = [y0, y1, y2, y3, y4, y5]) (hz : (zs.drop 6).take 6 = [z0, z1, z2, z3, z4, z5]) (hk : rdTo zs 12 2 = kd) :
    Calls Try.prog 50 #[.slice a len cap] w fun e w' => e = .returned (.agg #[.int .u8 y0, .int .u8 y1, .int .u8 y2, .int .u8 y3, .int .u8 y4, .int .u8 y5, .int .u8 z0, .int .u8 z1, .int .u8 z2, .int .u8 z3, .int .u8 z4, .int .u8 z5, .int .i64 kd]) ∧ Below w.heap.size w w' := by
  have hml := hr.le
  have hmx := hr.max
  rcases hr.cells with h0 | ⟨ba, off, rfl, _⟩
  · omega
  have KR := Lib.hid (show ∀ W, Rd W (some ⟨ba, off, none⟩) len cap zs → Calls Try.prog 66 #[.slice (some ⟨ba, off, none⟩) len cap, .int .i64 12, .int .i64 2] W fun e w' => e = .returned (.agg #[.int .i64 0, .int .i64 kd]) ∧ Below W.heap.size W w' from fun W h => by rw [← hk]; exact implRead_ok _ len cap 12 2 zs W h (by omega) (by omega) (by omega))
  have hfi := fld_ir
  have R0 := Lib.hid (Box.new w 66 #[.int .u8 0, .int .u8 0, .int .u8 0, .int .u8 0, .int .u8 0, .int .u8 0, .int .u8 0, .int .u8 0, .int .u8 0, .int .u8 0, .int .u8 0, .int .u8 0, .int .i64 0])
  have B0 := Lib.hid ((Below.refl w.heap.size w).alloc (Nat.le_refl _) (.cells #[.int .u8 0, .int .u8 0, .int .u8 0, .int .u8 0, .int .u8 0, .int .u8 0, .int .u8 0, .int .u8 0, .int .u8 0, .int .u8 0, .int .u8 0, .int .u8 0, .int .i64 0] 66))
  have HR := Lib.hid hr
  clear hr hk
  go_enter Try.func50, Try.ntmps50
  go_wp2_with fail
  refine (KR.out _ (HR.out.alloc _)).mono ?_
  rintro e w1 ⟨rfl, b1⟩
  have R1 := Lib.hid (R0.out.below b1 R0.out.lt)
  have B1 := Lib.hid (B0.out.trans (b1.mono B0.out.size))
  have X1 := Lib.hid (Box.new w1 66 #[.int .u8 0, .int .u8 0, .int .u8 0, .int .u8 0, .int .u8 0, .int .u8 0, .int .u8 0, .int .u8 0, .int .u8 0, .int .u8 0, .int .u8 0, .int .u8 0, .int .i64 kd])
  clear b1 R0 B0
  go_wp2_with ((with_reducible change wpList _ _ _ (Oper.mk (some 11) _ _ _ _ _ :: _) _ _); refine copyBox_list _ rfl (.tmp 9) (.tmp 10) rfl w1.heap.size 0 6 6 66 _ X1.out rfl (by simp) _ _ _ _ rfl ((HR.out.below B1.out).alloc _) (by omega) [y0, y1, y2, y3, y4, y5] hy ?_; intro w2 x2 g2)
  have X2 : Hid (Box w2 w1.heap.size 66 #[.int .u8 y0, .int .u8 y1, .int .u8 y2, .int .u8 y3, .int .u8 y4, .int .u8 y5, .int .u8 0, .int .u8 0, .int .u8 0, .int .u8 0, .int .u8 0, .int .u8 0, .int .i64 kd]) := x2
  have BB := Lib.hid (show w.heap.size < w1.heap.size from R1.out.lt)
  have R2 := Lib.hid ((R1.out.alloc (.cells #[.int .u8 0, .int .u8 0, .int .u8 0, .int .u8 0, .int .u8 0, .int .u8 0, .int .u8 0, .int .u8 0, .int .u8 0, .int .u8 0, .int .u8 0, .int .u8 0, .int .i64 kd] 66)).grown g2 (by have := BB.out; simp only [ne_eq, Option.some.injEq]; omega))
  have B2 := Lib.hid ((B1.out.alloc B1.out.size (.cells #[.int .u8 0, .int .u8 0, .int .u8 0, .int .u8 0, .int .u8 0, .int .u8 0, .int .u8 0, .int .u8 0, .int .u8 0, .int .u8 0, .int .u8 0, .int .u8 0, .int .i64 kd] 66)).grown g2 (by have := BB.out; simp; omega) (fun k e => by have := BB.out; cases e; omega))
  have T2 := Lib.hid (HR.out.below B2.out)
  clear x2 g2 X1 R1 B1
  have i1 : (6 : Int) ≤ len := by omega
  have hcap : ¬ cap = 6 := by omega
  go_region_law (first
    | (refine copyBox_step _ rfl (.tmp 13) (.tmp 15) rfl w1.heap.size 6 6 6 66 _ (show Box w2.drew _ _ _ from X2.out) rfl (by simp) _ _ _ _ rfl (T2.out.drew.from 6 _ _ _ (by omega) rfl rfl rfl) (by omega) [z0, z1, z2, z3, z4, z5] hz ?_; intro w3 x3 g3))
  have X3 : Hid (Box w3 w1.heap.size 66 #[.int .u8 y0, .int .u8 y1, .int .u8 y2, .int .u8 y3, .int .u8 y4, .int .u8 y5, .int .u8 z0, .int .u8 z1, .int .u8 z2, .int .u8 z3, .int .u8 z4, .int .u8 z5, .int .i64 kd]) := x3
  have R3 := Lib.hid ((show Box w2.drew _ _ _ from R2.out).grown g3 (by have := BB.out; simp only [ne_eq, Option.some.injEq]; omega))
  have B3 := Lib.hid (B2.out.drew.grown g3 B2.out.drew.size (fun k e => by have := BB.out; cases e; omega))
  clear x3 g3 X2 R2 B2 T2
  go_wp2_with (first
    | ((with_reducible change wpList _ _ _ (Oper.mk (some 17) _ _ _ _ _ :: _) _ _); refine loadBox_list _ rfl 66 (.tmp 3) rfl w1.heap.size 66 _ X3.out rfl _ rfl Try.underlying66 (by kernel_rfl) ?_; simp only [Act.put, List.setIfInBounds_toArray, List.set_cons_zero, List.set_cons_succ])
    | ((with_reducible change wpList _ _ _ (Oper.mk none (Op.store _ _ _) _ _ _ _ :: _) _ _); refine storeBox_list _ rfl 66 (.tmp 2) (.tmp 17) rfl w.heap.size 66 _ #[.int .u8 y0, .int .u8 y1, .int .u8 y2, .int .u8 y3, .int .u8 y4, .int .u8 y5, .int .u8 z0, .int .u8 z1, .int .u8 z2, .int .u8 z3, .int .u8 z4, .int .u8 z5, .int .i64 kd] R3.out (by exact rfl) (by exact rfl) (by kernel_rfl) (by exact rfl) (by simp [Value.oneCell']) ?_; intro w4 x4 g4; have R4 := Lib.hid x4; have B4 := Lib.hid (B3.out.grown g4 B3.out.size (fun k e => by cases e; exact Nat.le_refl _)); clear x4 g4))
  go_wp2
  exact bodyPost_ret (results_cell_row Try.results50 _ _ _ _ _ _ _ rfl R4.out Try.underlying66 rfl (by kernel_rfl)) rfl ⟨rfl, B4.out⟩
end Go.Proofs.Ytkneicepflkfhaa
