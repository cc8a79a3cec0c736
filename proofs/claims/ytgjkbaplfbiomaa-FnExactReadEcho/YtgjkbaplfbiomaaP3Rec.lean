/-
  What is no packet is a panic, recovered at the face: refuseIf, codeOf, the deferred closures, and the faces ReadPacket and ReadEcho over what lies behind them.
-/
import Derived.Test.YtgjkbaplfbiomaaStPacket
import Derived.Test.YtgjkbaplfbiomaaStEcho
import Derived.Test.YtgjkbaplfbiomaaArr
import Derived.Defers
import Derived.Recover
import Derived.WalkLawsBesides
namespace Go.Proofs.Ytgjkbaplfbiomaa
open Go.ChangeShapes Go.WideShapes Go.ChangeAt Go.RowKit

theorem refuse_no (c : Int) (w : World) : Calls Try.prog 92 #[.bool false, .int .i64 c] w fun e w' => e = .returned (.tuple #[]) ∧ w = w' := by
  go_enter Try.func92, Try.ntmps92
  go_wp2
  go_end0
  exact ⟨rfl, rfl⟩
theorem refuse_yes (c : Int) (w : World) : Calls Try.prog 92 #[.bool true, .int .i64 c] w fun e w' => e = .panicked [{ v := .iface 100 (.int .i64 c), recovered := false }] ∧ w = w' := by
  go_enter Try.func92, Try.ntmps92
  go_wp2
  exact ⟨rfl, rfl, rfl⟩
theorem assertR (c : Int) (w : World) : (Instr.typeAssert (.iface 100 (.int .i64 c)) 20 100 true).run Try.prog w = .ok (.tuple #[.int .i64 c, .bool true]) w := by kernel_rfl
set_option maxRecDepth 20000 in
theorem codeOf_any (c : Int) (w : World) : Calls Try.prog 66 #[.iface 100 (.int .i64 c)] w fun e w' => e = .returned (.int .i64 c) ∧ w = w' := by
  have hta := assertR c
  go_enter Try.func66, Try.ntmps66
  go_wp2
  go_ret
  exact ⟨rfl, rfl⟩
/-- it is refused: a panic with this code -/
def Refused (w : World) (c : Int) (e : Ending) (w' : World) : Prop := e = .panicked [{ v := .iface 100 (.int .i64 c), recovered := false }] ∧ Below w.heap.size w w'

theorem catchPacket_panic (g : Nat) (c : Int) (older : List PanicEntry) (w : World) (hx : Box w g 32 #[.int .i64 0, .int .i64 0, .int .i64 0, .int .i64 0, .int .i64 0, .slice none 0 0]) :
    CallsD Try.prog 65 #[.pointer (some ⟨g, 0, none⟩)] (.panicking ({ v := .iface 100 (.int .i64 c), recovered := false } :: older)) w fun e u' w' =>
      e = .returned (.tuple #[]) ∧ u' = .panicking ({ v := .iface 100 (.int .i64 c), recovered := true } :: older) ∧ Box w' g 32 #[.int .i64 c, .int .i64 0, .int .i64 0, .int .i64 0, .int .i64 0, .slice none 0 0] ∧ w.grownBy w' (some g) := by
  refine callsD_of_wpS Try.func65 rfl fun c₀ cs hu => ?_
  apply wpS_seq
  apply wpS_region
  simp [wpOpsS, go_sem, recoverD, hu, Try.ntmps65, Exit.thenS]
  refine wpS_of_wp ?_
  have X := Lib.hid hx
  have K := Lib.hid (codeOf_any c w)
  clear hx
  change Code.wp _ _ _ { tmps := #[.pointer (some ⟨g, 0, none⟩), .iface 100 (.int .i64 c), .iface 100 (.int .i64 c), undef, undef, undef, undef, undef], defers := [] } w
  go_wp2_with (first
    | ((with_reducible change wpList _ _ _ (Oper.mk none (Op.store _ _ _) _ _ _ _ :: _) _ _); refine storeBox_list _ rfl 32 (.tmp 0) (.tmp 7) rfl g 32 _ #[.int .i64 c, .int .i64 0, .int .i64 0, .int .i64 0, .int .i64 0, .slice none 0 0] X.out (by exact rfl) (by exact rfl) (by kernel_rfl) (by exact rfl) (by simp [Value.oneCell']) ?_; intro w4 x4 g4)
    | (go_at_call 66; refine K.out.mono ?_; rintro e w' ⟨rfl, rfl⟩))
  exact ⟨rfl, _, rfl, .tuple #[], by simp [results, Try.results65, go_sem], rfl, rfl, x4, g4⟩
theorem catchPacket_idle (p : Addr) (w : World) :
    CallsD Try.prog 65 #[.pointer (some p)] .returning w fun e u' w' => e = .returned (.tuple #[]) ∧ u' = .returning ∧ w = w' := by
  refine callsD_of_wpS Try.func65 rfl fun c₀ cs hu => ?_
  apply wpS_seq
  apply wpS_region
  simp [wpOpsS, go_sem, recoverD, hu, Try.ntmps65, Exit.thenS]
  refine wpS_of_wp ?_
  change Code.wp _ _ _ { tmps := #[.pointer (some p), .nilIface, .nilIface, undef, undef, undef, undef, undef], defers := [] } w
  go_wp2
  cases c₀
  simp_all [bodyPostS, results, Try.results65]

set_option maxHeartbeats 1000000 in
theorem facePacket_no (a : Option Addr) (len cap : Nat) (c : Int) (w : World) (h : ∀ W, Below w.heap.size w W → Calls Try.prog 67 #[.slice a len cap] W (Refused W c)) :
    Calls Try.prog 15 #[.slice a len cap] w (PacketRes w c 0 0 0 0 []) := by
  have hmf : ∀ (fn : Fn) (first cap : Array Value) (w : World), (Instr.makeFunc fn first cap).run Try.prog w = .ok (.func fn first cap) w := fun _ _ _ _ => rfl
  have K := Lib.hid h
  have B0 := Lib.hid ((Below.refl w.heap.size w).alloc (Nat.le_refl _) (.cells #[.int .i64 0, .int .i64 0, .int .i64 0, .int .i64 0, .int .i64 0, .slice none 0 0] 32))
  have X0 := Lib.hid (Box.new w 32 #[.int .i64 0, .int .i64 0, .int .i64 0, .int .i64 0, .int .i64 0, .slice none 0 0])
  clear h
  go_enter_defers Try.func15, Try.ntmps15
  go_wp2_with fail
  refine (K.out _ B0.out).mono ?_
  rintro e w1 ⟨rfl, b1⟩
  have X1 := Lib.hid (X0.out.below b1 X0.out.lt)
  have B1 := Lib.hid (B0.out.trans (b1.mono B0.out.size))
  clear b1 X0 B0
  go_wp2
  refine leaves_cons (f := 65) (args := #[.pointer (some ⟨w.heap.size, 0, none⟩)]) (by simp) (by simp [go_sem]) ?_
  refine (catchPacket_panic w.heap.size c [] _ X1.out).mono ?_
  rintro e u' w2 ⟨rfl, rfl, x2, g2⟩
  have B2 := B1.out.grown g2 B1.out.size (fun k e => by cases e; exact Nat.le_refl _)
  have hr : (results Try.f15 #[.slice a len cap, undef, .pointer (some ⟨w.heap.size, 0, none⟩), .func (.func 65) #[] #[.pointer (some ⟨w.heap.size, 0, none⟩)], .slice a len cap, undef, undef]).run Try.prog w2 = .ok (.agg #[.int .i64 c, .int .i64 0, .int .i64 0, .int .i64 0, .int .i64 0, .slice none 0 0]) w2 := results_cell_row Try.results15 _ _ _ _ _ _ _ rfl x2 Try.underlying32 rfl (by kernel_rfl)
  simp only [Leaves, settle, List.dropWhile]
  exact ⟨_, hr, none, 0, 0, rfl, Own.nil _ _, B2⟩

set_option maxHeartbeats 1000000 in
theorem facePacket_ok (a : Option Addr) (len cap : Nat) (kf kt kp kl : Int) (rs : List Int) (w : World) (h : ∀ W, Below w.heap.size w W → Calls Try.prog 67 #[.slice a len cap] W (PacketOut W kf kt kp kl rs)) :
    Calls Try.prog 15 #[.slice a len cap] w (PacketRes w 0 kf kt kp kl rs) := by
  have hmf : ∀ (fn : Fn) (first cap : Array Value) (w : World), (Instr.makeFunc fn first cap).run Try.prog w = .ok (.func fn first cap) w := fun _ _ _ _ => rfl
  have K := Lib.hid h
  have B0 := Lib.hid ((Below.refl w.heap.size w).alloc (Nat.le_refl _) (.cells #[.int .i64 0, .int .i64 0, .int .i64 0, .int .i64 0, .int .i64 0, .slice none 0 0] 32))
  have X0 := Lib.hid (Box.new w 32 #[.int .i64 0, .int .i64 0, .int .i64 0, .int .i64 0, .int .i64 0, .slice none 0 0])
  clear h
  go_enter_defers Try.func15, Try.ntmps15
  go_wp2_with fail
  refine (K.out _ B0.out).mono ?_
  rintro e w1 ⟨a', l', c', rfl, o1, b1⟩
  have X1 := Lib.hid (X0.out.below b1 X0.out.lt)
  have B1 := Lib.hid (B0.out.trans (b1.mono B0.out.size))
  have O1 := Lib.hid (o1.rebase (Nat.le_trans B0.out.size (Nat.le_refl _)))
  have hn : Hid (∀ x, a' = some x → some x.block ≠ some w.heap.size) := fun x hx e => by
    have := (o1.lt x hx).1
    have := X0.out.lt
    simp only [Option.some.injEq] at e
    omega
  clear b1 o1 X0 B0
  go_wp2_with ((with_reducible change wpList _ _ _ (Oper.mk none (Op.store _ _ _) _ _ _ _ :: _) _ _); refine storeBox_list _ rfl 32 (.tmp 2) (.tmp 6) rfl w.heap.size 32 _ #[.int .i64 0, .int .i64 kf, .int .i64 kt, .int .i64 kp, .int .i64 kl, .slice a' l' c'] X1.out (by exact rfl) (by exact rfl) (by kernel_rfl) (by exact rfl) (by simp [Value.oneCell']) ?_; intro w2 x2 g2)
  refine leaves_cons (f := 65) (args := #[.pointer (some ⟨w.heap.size, 0, none⟩)]) (by simp) (by simp [go_sem]) ?_
  refine (catchPacket_idle ⟨w.heap.size, 0, none⟩ _).mono ?_
  rintro e u' w3 ⟨rfl, rfl, rfl⟩
  have B2 := B1.out.grown g2 B1.out.size (fun k e => by cases e; exact Nat.le_refl _)
  have O2 := O1.out.grown g2 hn.out
  simp only [Leaves, settle]
  refine ⟨.agg #[.int .i64 0, .int .i64 kf, .int .i64 kt, .int .i64 kp, .int .i64 kl, .slice a' l' c'], ?_, a', l', c', rfl, O2, B2⟩
  exact results_cell_row Try.results15 _ _ _ _ _ _ _ rfl x2 Try.underlying32 rfl (by kernel_rfl)

theorem catchEcho_panic (g : Nat) (c : Int) (older : List PanicEntry) (w : World) (hx : Box w g 39 #[.int .i64 0, .bool false, .int .i64 0, .int .i64 0, .slice none 0 0]) :
    CallsD Try.prog 73 #[.pointer (some ⟨g, 0, none⟩)] (.panicking ({ v := .iface 100 (.int .i64 c), recovered := false } :: older)) w fun e u' w' =>
      e = .returned (.tuple #[]) ∧ u' = .panicking ({ v := .iface 100 (.int .i64 c), recovered := true } :: older) ∧ Box w' g 39 #[.int .i64 c, .bool false, .int .i64 0, .int .i64 0, .slice none 0 0] ∧ w.grownBy w' (some g) := by
  refine callsD_of_wpS Try.func73 rfl fun c₀ cs hu => ?_
  apply wpS_seq
  apply wpS_region
  simp [wpOpsS, go_sem, recoverD, hu, Try.ntmps73, Exit.thenS]
  refine wpS_of_wp ?_
  have X := Lib.hid hx
  have K := Lib.hid (codeOf_any c w)
  clear hx
  change Code.wp _ _ _ { tmps := #[.pointer (some ⟨g, 0, none⟩), .iface 100 (.int .i64 c), .iface 100 (.int .i64 c), undef, undef, undef, undef, undef], defers := [] } w
  go_wp2_with (first
    | ((with_reducible change wpList _ _ _ (Oper.mk none (Op.store _ _ _) _ _ _ _ :: _) _ _); refine storeBox_list _ rfl 39 (.tmp 0) (.tmp 7) rfl g 39 _ #[.int .i64 c, .bool false, .int .i64 0, .int .i64 0, .slice none 0 0] X.out (by exact rfl) (by exact rfl) (by kernel_rfl) (by exact rfl) (by simp [Value.oneCell']) ?_; intro w4 x4 g4)
    | (go_at_call 66; refine K.out.mono ?_; rintro e w' ⟨rfl, rfl⟩))
  exact ⟨rfl, _, rfl, .tuple #[], by simp [results, Try.results73, go_sem], rfl, rfl, x4, g4⟩
theorem catchEcho_idle (p : Addr) (w : World) :
    CallsD Try.prog 73 #[.pointer (some p)] .returning w fun e u' w' => e = .returned (.tuple #[]) ∧ u' = .returning ∧ w = w' := by
  refine callsD_of_wpS Try.func73 rfl fun c₀ cs hu => ?_
  apply wpS_seq
  apply wpS_region
  simp [wpOpsS, go_sem, recoverD, hu, Try.ntmps73, Exit.thenS]
  refine wpS_of_wp ?_
  change Code.wp _ _ _ { tmps := #[.pointer (some p), .nilIface, .nilIface, undef, undef, undef, undef, undef], defers := [] } w
  go_wp2
  cases c₀
  simp_all [bodyPostS, results, Try.results73]

set_option maxHeartbeats 1000000 in
theorem faceEcho_no (a : Option Addr) (len cap : Nat) (c : Int) (w : World) (h : ∀ W, Below w.heap.size w W → Calls Try.prog 74 #[.slice a len cap] W (Refused W c)) :
    Calls Try.prog 19 #[.slice a len cap] w (EchoRes w c false 0 0 []) := by
  have hmf : ∀ (fn : Fn) (first cap : Array Value) (w : World), (Instr.makeFunc fn first cap).run Try.prog w = .ok (.func fn first cap) w := fun _ _ _ _ => rfl
  have K := Lib.hid h
  have B0 := Lib.hid ((Below.refl w.heap.size w).alloc (Nat.le_refl _) (.cells #[.int .i64 0, .bool false, .int .i64 0, .int .i64 0, .slice none 0 0] 39))
  have X0 := Lib.hid (Box.new w 39 #[.int .i64 0, .bool false, .int .i64 0, .int .i64 0, .slice none 0 0])
  clear h
  go_enter_defers Try.func19, Try.ntmps19
  go_wp2_with fail
  refine (K.out _ B0.out).mono ?_
  rintro e w1 ⟨rfl, b1⟩
  have X1 := Lib.hid (X0.out.below b1 X0.out.lt)
  have B1 := Lib.hid (B0.out.trans (b1.mono B0.out.size))
  clear b1 X0 B0
  go_wp2
  refine leaves_cons (f := 73) (args := #[.pointer (some ⟨w.heap.size, 0, none⟩)]) (by simp) (by simp [go_sem]) ?_
  refine (catchEcho_panic w.heap.size c [] _ X1.out).mono ?_
  rintro e u' w2 ⟨rfl, rfl, x2, g2⟩
  have B2 := B1.out.grown g2 B1.out.size (fun k e => by cases e; exact Nat.le_refl _)
  have hr : (results Try.f19 #[.slice a len cap, undef, .pointer (some ⟨w.heap.size, 0, none⟩), .func (.func 73) #[] #[.pointer (some ⟨w.heap.size, 0, none⟩)], .slice a len cap, undef, undef]).run Try.prog w2 = .ok (.agg #[.int .i64 c, .bool false, .int .i64 0, .int .i64 0, .slice none 0 0]) w2 := results_cell_row Try.results19 _ _ _ _ _ _ _ rfl x2 Try.underlying39 rfl (by kernel_rfl)
  simp only [Leaves, settle, List.dropWhile]
  exact ⟨_, hr, none, 0, 0, rfl, Own.nil _ _, B2⟩

set_option maxHeartbeats 1000000 in
theorem faceEcho_ok (a : Option Addr) (len cap : Nat) (er : Bool) (ei es : Int) (rs : List Int) (w : World) (h : ∀ W, Below w.heap.size w W → Calls Try.prog 74 #[.slice a len cap] W (EchoOut W er ei es rs)) :
    Calls Try.prog 19 #[.slice a len cap] w (EchoRes w 0 er ei es rs) := by
  have hmf : ∀ (fn : Fn) (first cap : Array Value) (w : World), (Instr.makeFunc fn first cap).run Try.prog w = .ok (.func fn first cap) w := fun _ _ _ _ => rfl
  have K := Lib.hid h
  have B0 := Lib.hid ((Below.refl w.heap.size w).alloc (Nat.le_refl _) (.cells #[.int .i64 0, .bool false, .int .i64 0, .int .i64 0, .slice none 0 0] 39))
  have X0 := Lib.hid (Box.new w 39 #[.int .i64 0, .bool false, .int .i64 0, .int .i64 0, .slice none 0 0])
  clear h
  go_enter_defers Try.func19, Try.ntmps19
  go_wp2_with fail
  refine (K.out _ B0.out).mono ?_
  rintro e w1 ⟨a', l', c', rfl, o1, b1⟩
  have X1 := Lib.hid (X0.out.below b1 X0.out.lt)
  have B1 := Lib.hid (B0.out.trans (b1.mono B0.out.size))
  have O1 := Lib.hid (o1.rebase (Nat.le_trans B0.out.size (Nat.le_refl _)))
  have hn : Hid (∀ x, a' = some x → some x.block ≠ some w.heap.size) := fun x hx e => by
    have := (o1.lt x hx).1
    have := X0.out.lt
    simp only [Option.some.injEq] at e
    omega
  clear b1 o1 X0 B0
  go_wp2_with ((with_reducible change wpList _ _ _ (Oper.mk none (Op.store _ _ _) _ _ _ _ :: _) _ _); refine storeBox_list _ rfl 39 (.tmp 2) (.tmp 6) rfl w.heap.size 39 _ #[.int .i64 0, .bool er, .int .i64 ei, .int .i64 es, .slice a' l' c'] X1.out (by exact rfl) (by exact rfl) (by kernel_rfl) (by exact rfl) (by simp [Value.oneCell']) ?_; intro w2 x2 g2)
  refine leaves_cons (f := 73) (args := #[.pointer (some ⟨w.heap.size, 0, none⟩)]) (by simp) (by simp [go_sem]) ?_
  refine (catchEcho_idle ⟨w.heap.size, 0, none⟩ _).mono ?_
  rintro e u' w3 ⟨rfl, rfl, rfl⟩
  have B2 := B1.out.grown g2 B1.out.size (fun k e => by cases e; exact Nat.le_refl _)
  have O2 := O1.out.grown g2 hn.out
  simp only [Leaves, settle]
  refine ⟨.agg #[.int .i64 0, .bool er, .int .i64 ei, .int .i64 es, .slice a' l' c'], ?_, a', l', c', rfl, O2, B2⟩
  exact results_cell_row Try.results19 _ _ _ _ _ _ _ rfl x2 Try.underlying39 rfl (by kernel_rfl)
end Go.Proofs.Ytgjkbaplfbiomaa
