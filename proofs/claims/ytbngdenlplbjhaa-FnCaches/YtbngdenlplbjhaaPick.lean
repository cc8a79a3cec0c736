/-
  Draws of the laws: a number out of a list, some bytes, a chance.
-/
import Derived.Test.YtbngdenlplbjhaaDraw
namespace Go.Proofs.Ytbngdenlplbjhaa
open Go.ChangeShapes Go.WideShapes Go.ChangeAt Go.RowKit

theorem l1Source_any (a : Option Addr) (len cap : Nat) (zs : List Int) (w : World) (h : Rd w a len cap zs) :
    Calls Try.prog 33 #[.slice a len cap] w fun e w' => e = .returned (.pointer (some ⟨w.heap.size, 0, none⟩)) ∧ Src w' w.heap.size 0 a len cap zs ∧ Below w.heap.size w w' := by
  have hb := Lib.hid (Box.new w 120 #[.slice a len cap, .int .i64 0])
  have H := Lib.hid h
  clear h
  go_enter Try.func33, Try.ntmps33
  go_wp2
  go_ret
  refine ⟨rfl, ⟨hb.out, H.out.alloc _, ?_⟩, (Below.refl _ _).alloc (Nat.le_refl _) _⟩
  intro hp x hx
  rcases H.out.cells with h0 | ⟨b, off, e, hc⟩
  · omega
  · rw [e] at hx; cases hx; exact World.block_lt_of_cell? _ _ (hc 0 hp)

/-- a number between two bounds was drawn -/
def Picked (w : World) (b t : Nat) (lo hi : Int) (a : Option Addr) (len cap : Nat) (zs : List Int) (e : Ending) (w' : World) : Prop :=
  ∃ r : Int, e = .returned (.int .i64 r) ∧ lo ≤ r ∧ r ≤ hi ∧ Src w' b (t + 1) a len cap zs ∧ w.grownBy w' (some b)

set_option maxHeartbeats 1000000 in
theorem l1Pick_any (b t g n : Nat) (xs : List Int) (lo hi : Int) (a : Option Addr) (len cap : Nat) (zs : List Int) (w : World) (h : Src w b t a len cap zs) (hx : ∀ x ∈ xs, lo ≤ x ∧ x ≤ hi) (hn : xs.length = n) (hp : 0 < n) (hn2 : n ≤ 1000)
    (hL : Box w g 2 (xs.map (Value.int .i64)).toArray) (hgb : g ≠ b) (ht : t ≤ 1000000) (hl : len ≤ 1048576) :
    Calls Try.prog 35 #[.pointer (some ⟨b, 0, none⟩), .slice (some ⟨g, 0, none⟩) n n] w (Picked w b t lo hi a len cap zs) := by
  have K := Lib.hid (l1Next_any b t n a len cap zs w h ht hl (by omega))
  have HL := Lib.hid hL
  have HN := Lib.hid hn
  have HX := Lib.hid hx
  clear h hL hn hx
  go_enter Try.func35, Try.ntmps35
  go_wp2_with fail
  refine K.out.mono ?_
  rintro e w1 ⟨r, rfl, hr0, hr1, hs, hg⟩
  obtain ⟨i, rfl⟩ := Int.eq_ofNat_of_zero_le hr0
  have hin : i < n := by have := hr1 (by omega); omega
  have hc := (HL.out.grown hg (by intro e; cases e; exact hgb rfl)).cell i
  have hi' : i < xs.length := by rw [HN.out]; exact hin
  rw [List.getElem?_toArray, List.getElem?_map, List.getElem?_eq_getElem hi'] at hc
  have hb := HX.out _ (List.getElem_mem hi')
  simp only [Option.map_some] at hc
  generalize xs[i] = x at *
  have HS := Lib.hid hs
  have HG := Lib.hid hg
  clear hs hg hr0 hr1
  go_wp2
  go_ret
  exact ⟨x, rfl, hb.1, hb.2, HS.out, HG.out⟩

theorem l1Chance_any (b t : Nat) (n : Int) (a : Option Addr) (len cap : Nat) (zs : List Int) (w : World) (h : Src w b t a len cap zs) (ht : t ≤ 1000000) (hl : len ≤ 1048576) (hn : n ≤ 1000000) :
    Calls Try.prog 44 #[.pointer (some ⟨b, 0, none⟩), .int .i64 n] w fun e w' => ∃ c : Bool, e = .returned (.bool c) ∧ Src w' b (t + 1) a len cap zs ∧ w.grownBy w' (some b) := by
  have K := Lib.hid (l1Next_any b t n a len cap zs w h ht hl hn)
  clear h
  go_enter Try.func44, Try.ntmps44
  go_wp2_with fail
  refine K.out.mono ?_
  rintro e w1 ⟨r, rfl, hr0, hr1, hs, hg⟩
  have HS := Lib.hid hs
  have HG := Lib.hid hg
  clear hs hg hr0 hr1
  go_wp2
  go_ret
  exact ⟨_, rfl, HS.out, HG.out⟩

/-- some bytes were drawn, into an array of their own -/
def Somed (w : World) (b t n : Nat) (a : Option Addr) (len cap : Nat) (zs : List Int) (e : Ending) (w' : World) : Prop :=
  ∃ (a' : Option Addr) (c' : Nat) (ys : List Int), e = .returned (.slice a' n c') ∧ Own w' w.heap.size a' n c' ys ∧ Src w' b (t + n) a len cap zs ∧ w.grownBy w' (some b)

end Go.Proofs.Ytbngdenlplbjhaa
