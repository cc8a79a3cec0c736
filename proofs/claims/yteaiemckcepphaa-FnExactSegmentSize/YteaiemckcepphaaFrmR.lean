/-
  ReadFrame of the model.
-/
import Derived.Test.YteaiemckcepphaaFrm
import Derived.Deep.RegionLaw
namespace Go.Proofs.Yteaiemckcepphaa
open Go.ChangeShapes Go.WideShapes Go.ChangeAt Go.RowKit

/-- a frame's result: the code, the numbers, the body of its own -/
def FrameRes (w : World) (c to fr kd : Int) (zs : List Int) (e : Ending) (w' : World) : Prop :=
  ∃ a' l' c', e = .returned (.agg #[.int .i64 c, .int .i64 to, .int .i64 fr, .int .i64 kd, .slice a' l' c']) ∧ Own w' w.heap.size a' l' c' zs ∧ Below w.heap.size w w'
def rfOk (n : Nat) : Bool := decide (14 ≤ n ∧ n ≤ 614)

theorem l1Read_lit (a : Option Addr) (len cap : Nat) (A S : Nat) (x s : Int) (zs : List Int) (w : World) (h : Rd w a len cap zs) (hx : (A : Int) = x) (hs : (S : Int) = s) (hS2 : S ≤ 6) (hA : A + S ≤ len) :
    Calls Try.prog 106 #[.slice a len cap, .int .i64 x, .int .i64 s] w fun e w' => e = .returned (.int .i64 (rdTo zs A S)) ∧ w = w' := by
  subst hx; subst hs
  exact l1Read_any a len cap A S zs w h hS2 hA

theorem Rd.from {w : World} {b off len cap : Nat} {zs : List Int} (h : Rd w (some ⟨b, off, none⟩) len cap zs) (A off' l' c' : Nat) (hA : A ≤ len) (ho : off' = off + A) (hl : l' = len - A) (hc : c' = cap - A) : Rd w (some ⟨b, off', none⟩) l' c' (zs.drop A) := by
  subst ho; subst hl; subst hc
  have hle := h.le
  have hmx := h.max
  have hlen := h.length
  by_cases h0 : len - A = 0
  · exact ⟨by simp; omega, by omega, by omega, b8_drop h.b8 _, by simp, .inl h0⟩
  refine ⟨by simp; omega, by omega, by omega, b8_drop h.b8 _, by simp, .inr ⟨b, off + A, rfl, fun i hi => ?_⟩⟩
  rcases h.cells with h0 | ⟨bb, o, e, hcell⟩
  · omega
  · cases e
    have := hcell (A + i) (by omega)
    rw [Nat.add_assoc, this, List.getD_eq_getElem?_getD, List.getD_eq_getElem?_getD, List.getElem?_drop]

theorem Rd.fromIf {w : World} {b off len cap : Nat} {zs : List Int} (h : Rd w (some ⟨b, off, none⟩) len cap zs) (A : Nat) (hA : A ≤ len) : Rd w (if cap = A then some ⟨b, off, none⟩ else some ⟨b, off + A, none⟩) (len - A) (cap - A) (zs.drop A) := by
  split
  · have hle := h.le
    have hmx := h.max
    have hlen := h.length
    exact ⟨by simp; omega, by omega, by omega, b8_drop h.b8 _, by simp, .inl (by omega)⟩
  · exact h.from A _ _ _ hA rfl rfl rfl

theorem Rd.upto {w : World} {b off len cap : Nat} {zs : List Int} (h : Rd w (some ⟨b, off, none⟩) len cap zs) (n : Nat) (hn : n ≤ len) : Rd w (some ⟨b, off, none⟩) n cap (zs.take n) := by
  have hle := h.le
  have hmx := h.max
  have hlen := h.length
  refine ⟨by simp; omega, by omega, hmx, b8_take h.b8 _, by simp, ?_⟩
  rcases h.cells with h0 | ⟨bb, o, e, hcell⟩
  · exact .inl (by omega)
  · cases e
    refine .inr ⟨b, off, rfl, fun i hi => ?_⟩
    rw [hcell i (by omega), List.getD_eq_getElem?_getD, List.getD_eq_getElem?_getD, List.getElem?_take, if_pos hi]

end Go.Proofs.Yteaiemckcepphaa
