/-
  Rows of bounds; RouteFault of the program and of the model.
-/
import Derived.Test.YtbngdenlplbjhaaFlow
import Derived.Test.YtbngdenlplbjhaaD4Bd
import Derived.Test.YtbngdenlplbjhaaFrm
namespace Go.Proofs.Ytbngdenlplbjhaa
open Go.ChangeShapes Go.WideShapes Go.ChangeAt Go.RowKit

theorem Box.r3 {w : World} {b : Nat} {t : TypeId} {x y z : Value} (h : Box w b t #[x, y, z]) : b < w.heap.size ∧ w.cell? ⟨b, 0, none⟩ = some x ∧ w.cell? ⟨b, 1, none⟩ = some y ∧ w.cell? ⟨b, 2, none⟩ = some z := ⟨h.lt, h.cell 0, h.cell 1, h.cell 2⟩
/-- a row of n bounds, of these cells, in a block of its own -/
def B7V (W : World) (v : Value) (n : Nat) (cs : Array Value) : Prop := ∃ g, v = .slice (some ⟨g, 0, none⟩) n n ∧ Box W g 77 cs
theorem B7V.below {W W' : World} {n : Nat} {v : Value} {cs : Array Value} (hb : Below W.heap.size W W') (h : B7V W v n cs) : B7V W' v n cs := by
  obtain ⟨g, e, x⟩ := h
  exact ⟨g, e, x.below hb x.lt⟩
theorem B7V.new (W : World) (n : Nat) (cs : Array Value) : B7V (W.alloc (.cells cs 77)) (.slice (some ⟨W.heap.size, 0, none⟩) n n) n cs := ⟨_, rfl, Box.new _ _ _⟩

theorem within1r (g : Nat) (t : TypeId) (x0 l0 h0 : Int) (w : World) (h : Box w g t #[.int .i64 x0, .int .i64 l0, .int .i64 h0]) :
    Calls Try.prog 37 #[.slice (some ⟨g, 0, none⟩) 1 1] w fun e w' => e = .returned (.bool (inB x0 l0 h0)) ∧ Below w.heap.size w w' := by
  have := areWithin_any g [⟨x0, l0, h0⟩] w (by
    intro i x hx
    match i with
    | 0 => simp at hx; subst hx; exact ⟨h.cell 0, h.cell 1, h.cell 2⟩
    | k + 1 => simp at hx) (by simp)
  simpa [bdB] using this
theorem within3 (g : Nat) (t : TypeId) (x0 l0 h0 x1 l1 h1 x2 l2 h2 : Int) (w : World) (h : Box w g t #[.int .i64 x0, .int .i64 l0, .int .i64 h0, .int .i64 x1, .int .i64 l1, .int .i64 h1, .int .i64 x2, .int .i64 l2, .int .i64 h2]) :
    Calls Try.prog 37 #[.slice (some ⟨g, 0, none⟩) 3 3] w fun e w' => e = .returned (.bool (inB x0 l0 h0 && inB x1 l1 h1 && inB x2 l2 h2)) ∧ Below w.heap.size w w' := by
  have := areWithin_any g [⟨x0, l0, h0⟩, ⟨x1, l1, h1⟩, ⟨x2, l2, h2⟩] w (by
    intro i x hx
    match i with
    | 0 => simp at hx; subst hx; exact ⟨h.cell 0, h.cell 1, h.cell 2⟩
    | 1 => simp at hx; subst hx; exact ⟨h.cell 3, h.cell 4, h.cell 5⟩
    | 2 => simp at hx; subst hx; exact ⟨h.cell 6, h.cell 7, h.cell 8⟩
    | k + 3 => simp at hx) (by simp)
  simpa [bdB, Bool.and_assoc] using this

def rtB (ip bits gw : Int) : Bool := inB ip 0 4294967295 && inB bits 8 30 && inB gw 0 4294967295
def rtC (ip bits gw : Int) : Int := if rtB ip bits gw then 0 else 3

end Go.Proofs.Ytbngdenlplbjhaa
