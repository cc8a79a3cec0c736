/-
  Contracts of the model's ArpFault and of the helpers of the laws over questions and answers of addresses.
-/
import Derived.Test.YtbngdenlplbjhaaRead
namespace Go.Proofs.Ytbngdenlplbjhaa
open Go.ChangeShapes Go.WideShapes Go.ChangeAt Go.RowKit

def macB (n : Int) : Bool := inB n 0 281474976710655
def ipB (n : Int) : Bool := inB n 0 4294967295
def arpV (op fm fi tm ti : Int) : Value := .agg #[.int .i64 op, .int .i64 fm, .int .i64 fi, .int .i64 tm, .int .i64 ti]
def arpB (op fm fi tm ti : Int) : Bool := inB op 1 2 && macB fm && macB tm && ipB fi && ipB ti
def arpC (op fm fi tm ti : Int) : Int := if arpB op fm fi tm ti then 0 else 3

theorem l2Mac_any (n : Int) (w : World) : Calls Try.prog 48 #[.int .i64 n] w fun e w' => e = .returned (.bool (macB n)) ∧ w = w' := by
  go_enter Try.func48, Try.ntmps48
  go_wp2_with (go_at_call 59; refine (l1In_any _ _ _ _).mono ?_; rintro e w' ⟨rfl, rfl⟩)
  go_ret
  exact ⟨rfl, rfl⟩
theorem l2Ip_any (n : Int) (w : World) : Calls Try.prog 47 #[.int .i64 n] w fun e w' => e = .returned (.bool (ipB n)) ∧ w = w' := by
  go_enter Try.func47, Try.ntmps47
  go_wp2_with (go_at_call 59; refine (l1In_any _ _ _ _).mono ?_; rintro e w' ⟨rfl, rfl⟩)
  go_ret
  exact ⟨rfl, rfl⟩

theorem Box.five {w : World} {b : Nat} {t : TypeId} {x y z u v : Value} (h : Box w b t #[x, y, z, u, v]) : b < w.heap.size ∧ w.cell? ⟨b, 0, none⟩ = some x ∧ w.cell? ⟨b, 1, none⟩ = some y ∧ w.cell? ⟨b, 2, none⟩ = some z ∧ w.cell? ⟨b, 3, none⟩ = some u ∧ w.cell? ⟨b, 4, none⟩ = some v := ⟨h.lt, h.cell 0, h.cell 1, h.cell 2, h.cell 3, h.cell 4⟩

end Go.Proofs.Ytbngdenlplbjhaa
