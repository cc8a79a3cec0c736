/-
  Contracts of slices.Grow of nil and of slices.Concat over slices of bytes: the answer owns an array of its own, and holds the bytes one behind the other.
-/
import Derived.Test.YtbngdenlplbjhaaApp
import Derived.Lib.AppendZeros
namespace Go.Proofs.Ytbngdenlplbjhaa
open Go.ChangeShapes Go.WideShapes Go.ChangeAt Go.RowKit

/-- a slice and the bytes that it reads as -/
structure Sl where
  a : Option Addr
  len : Nat
  cap : Nat
  zs : List Int
def catZ (ss : List Sl) : List Int := ss.flatMap Sl.zs
def sumN : List Sl → Nat
  | [] => 0
  | s :: r => s.len + sumN r
theorem sumN_app : ∀ (a b : List Sl), sumN (a ++ b) = sumN a + sumN b
  | [], b => by simp [sumN]
  | s :: r, b => by simp [sumN, sumN_app r b]; omega
theorem sumN_take_succ (ss : List Sl) (k : Nat) (s : Sl) (h : ss[k]? = some s) : sumN (ss.take (k + 1)) = sumN (ss.take k) + s.len := by
  rw [List.take_add_one, h, sumN_app]
  simp [sumN]
theorem sumN_take_le (ss : List Sl) (k : Nat) : sumN (ss.take k) ≤ sumN ss := by
  have := sumN_app (ss.take k) (ss.drop k)
  rw [List.take_append_drop] at this
  omega
theorem catZ_take_succ (ss : List Sl) (k : Nat) (s : Sl) (h : ss[k]? = some s) : catZ (ss.take (k + 1)) = catZ (ss.take k) ++ s.zs := by
  unfold catZ
  rw [List.take_add_one, h]
  simp
/-- the slices lie one behind the other in the block g -/
def Sls (w : World) (g : Nat) (ss : List Sl) : Prop := ∀ i s, ss[i]? = some s → w.cell? ⟨g, i, none⟩ = some (.slice s.a s.len s.cap) ∧ Rd w s.a s.len s.cap s.zs
def FreshA (w : World) (zs : List Int) (e : Ending) (w' : World) : Prop :=
  ∃ a' l' c', e = .returned (.slice a' l' c') ∧ Own w' w.heap.size a' l' c' zs ∧ Below w.heap.size w w'

theorem keepB' {w w' : World} {p : Addr} {u : Value} (hb : Below w.heap.size w w') (h : w.cell? p = some u) : w'.cell? p = some u := (hb.cell (World.block_lt_of_cell? _ _ h)).trans h
theorem own_blk {w : World} {base : Nat} {a : Option Addr} {len cap : Nat} {zs : List Int} (h : Own w base a len cap zs) (k : Nat) (e : (Value.slice a len cap).ownBlock = some k) : base ≤ k := by
  cases a with
  | none => simp [Value.ownBlock] at e
  | some y => simp [Value.ownBlock] at e; have := (h.lt y rfl).1; omega
theorem sls_nil (w : World) (g : Nat) : Sls w g [] := by intro i s h; simp at h
/-- a part of a block of cells that reads as bytes -/
theorem Rd.of_box {w : World} {b off len : Nat} {t : TypeId} {vs : Array Value} {zs : List Int} (hx : Box w b t vs) (hl : zs.length = len) (hm : len ≤ maxLen) (h8 : B8 zs) (hc : ∀ i, i < len → vs[off + i]? = some (.int .u8 (zs.getD i 0))) : Rd w (some ⟨b, off, none⟩) len len zs :=
  ⟨hl, Nat.le_refl _, hm, h8, by simp, .inr ⟨b, off, rfl, fun i hi => (hx.cell (off + i)).trans (hc i hi)⟩⟩
end Go.Proofs.Ytbngdenlplbjhaa
