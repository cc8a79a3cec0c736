/-
  Draws of the laws: a number out of a list, some bytes, a chance.
-/
import Derived.Test.YtimlobhlcmghfaaDraw
namespace Go.Proofs.Ytimlobhlcmghfaa
open Go.ChangeShapes Go.WideShapes Go.ChangeAt Go.RowKit

theorem l1Source_any (a : Option Addr) (len cap : Nat) (zs : List Int) (w : World) (h : Rd w a len cap zs) :
    Calls Try.prog 90 #[.slice a len cap] w fun e w' => e = .returned (.pointer (some ⟨w.heap.size, 0, none⟩)) ∧ Src w' w.heap.size 0 a len cap zs ∧ Below w.heap.size w w' := by
  have hb := Lib.hid (Box.new w 208 #[.slice a len cap, .int .i64 0])
  have H := Lib.hid h
  clear h
  go_enter Try.func90, Try.ntmps90
  go_wp2
  go_ret
  refine ⟨rfl, ⟨hb.out, H.out.alloc _, ?_⟩, (Below.refl _ _).alloc (Nat.le_refl _) _⟩
  intro hp x hx
  rcases H.out.cells with h0 | ⟨b, off, e, hc⟩
  · omega
  · rw [e] at hx; cases hx; exact World.block_lt_of_cell? _ _ (hc 0 hp)

/-- a number between two bounds was drawn -/
def Picked (w : World) (b t : Nat) (lo hi : Int) (a : Option Addr) (len cap : Nat) (zs : List Int) (e : Ending) (w' : World) : Prop :=
  ∃ r : Int, e = .returned (.int .i64 r) ∧ lo ≤ r ∧ r ≤ hi ∧ Src w' b (t + 1) a len cap zs ∧ w.grownBy w' (some b)

set_option maxHeartbeats 1000000 in
theorem l1Pick_any (b t g n : Nat) (xs : List Int) (lo hi : Int) (a : Option Addr) (len cap : Nat) (zs : List Int) (w : World) (h : Src w b t a len cap zs) (hx : ∀ x ∈ xs, lo ≤ x ∧ x ≤ hi) (hn : xs.length = n) (hp : 0 < n) (hn2 : n ≤ 1000)
    (hL : Box w g 2 (xs.map (Value.int .i64)).toArray) (hgb : g ≠ b) (ht : t ≤ 1000000) (hl : len ≤ 1048576) :
    Calls Try.prog 92 #[.pointer (some ⟨b, 0, none⟩), .slice (some ⟨g, 0, none⟩) n n] w (Picked w b t lo hi a len cap zs) := by
  have K := Lib.hid (l1Next_any b t n a len cap zs w h ht hl (by omega))
  have HL := Lib.hid hL
  have HN := Lib.hid hn
  have HX := Lib.hid hx
  clear h hL hn hx
  go_enter Try.func92, Try.ntmps92
  go_wp2_with fail
  refine K.out.mono ?_
  rintro e w1 ⟨r, rfl, hr0, hr1, hs, hg⟩
  obtain ⟨i, rfl⟩ := Int.eq_ofNat_of_zero_le hr0
  have hin : i < n := by have := hr1 (by omega); omega
  have hc := (HL.out.grown hg (by intro e; cases e; exact hgb rfl)).cell i
  have hi' : i < xs.length := by rw [HN.out]; exact hin
  rw [List.getElem?_toArray, List.getElem?_map, List.getElem?_eq_getElem hi'] at hc
  have hb := HX.out _ (List.getElem_mem hi')
  simp only [Option.map_some] at hc
  generalize xs[i] = x at *
  have HS := Lib.hid hs
  have HG := Lib.hid hg
  clear hs hg hr0 hr1
  go_wp2
  go_ret
  exact ⟨x, rfl, hb.1, hb.2, HS.out, HG.out⟩

theorem l1Chance_any (b t : Nat) (n : Int) (a : Option Addr) (len cap : Nat) (zs : List Int) (w : World) (h : Src w b t a len cap zs) (ht : t ≤ 1000000) (hl : len ≤ 1048576) (hn : n ≤ 1000000) :
    Calls Try.prog 100 #[.pointer (some ⟨b, 0, none⟩), .int .i64 n] w fun e w' => ∃ c : Bool, e = .returned (.bool c) ∧ Src w' b (t + 1) a len cap zs ∧ w.grownBy w' (some b) := by
  have K := Lib.hid (l1Next_any b t n a len cap zs w h ht hl hn)
  clear h
  go_enter Try.func100, Try.ntmps100
  go_wp2_with fail
  refine K.out.mono ?_
  rintro e w1 ⟨r, rfl, hr0, hr1, hs, hg⟩
  have HS := Lib.hid hs
  have HG := Lib.hid hg
  clear hs hg hr0 hr1
  go_wp2
  go_ret
  exact ⟨_, rfl, HS.out, HG.out⟩

/-- some bytes were drawn, into an array of their own -/
def Somed (w : World) (b t n : Nat) (a : Option Addr) (len cap : Nat) (zs : List Int) (e : Ending) (w' : World) : Prop :=
  ∃ (a' : Option Addr) (c' : Nat) (ys : List Int), e = .returned (.slice a' n c') ∧ Own w' w.heap.size a' n c' ys ∧ Src w' b (t + n) a len cap zs ∧ w.grownBy w' (some b)

set_option maxHeartbeats 2000000 in
theorem l1Some_any (b t n : Nat) (a : Option Addr) (len cap : Nat) (zs : List Int) (w : World) (h : Src w b t a len cap zs) (ht : t + n ≤ 1000000) (hl : len ≤ 1048576) :
    Calls Try.prog 94 #[.pointer (some ⟨b, 0, none⟩), .int .i64 n] w (Somed w b t n a len cap zs) := by
  have o0 := Lib.hid (own_lit w w.heap.size (Nat.le_refl _))
  have s0 := Lib.hid (h.alloc (.cells #[] 5))
  have hbw := h.box.lt
  clear h
  go_enter Try.func94, Try.ntmps94
  go_wp2
  go_loopw [1, 5] (fun nn out wr => ∃ (k : Nat) (a' : Option Addr) (c' : Nat) (ys : List Int), k ≤ n ∧ nn = .int .i64 ((n - k : Nat) : Int) ∧ out = .slice a' k c' ∧ Own wr w.heap.size a' k c' ys ∧ Src wr b (t + k) a len cap zs ∧ w.grownBy wr (some b)) (fun nn _ _ => (intOf nn).toNat)
  case atStart => exact ⟨0, _, _, [], Nat.zero_le _, rfl, rfl, o0.out, s0.out, World.grownBy_alloc w _ _⟩
  case round =>
    obtain ⟨k, a', c', ys, hk, rfl, rfl, ho, hs, hg⟩ := hrel
    by_cases hlt : k < n
    · have K := Lib.hid (l1Next_any b (t + k) 256 a len cap zs wr hs (by omega) hl (by omega))
      have HO := Lib.hid ho
      have HG := Lib.hid hg
      have hgz := hg.size
      clear o0 s0 ho hs hg
      go_wp2_with fail
      refine K.out.mono ?_
      rintro e w1 ⟨r, rfl, hr0, hr1, hs1, hg1⟩
      have hr2 := hr1 (by omega)
      have o1 := HO.out.grown hg1 (by intro x hx e; have := HO.out.lt x hx; simp at e; omega)
      obtain ⟨x, rfl⟩ := Int.eq_ofNat_of_zero_le hr0
      have o2 := o1.alloc (.cells #[.int .u8 (x : Int)] 5)
      have hbx := Box.new w1 5 #[.int .u8 (x : Int)]
      have r2 : Rd (w1.alloc (.cells #[.int .u8 (x : Int)] 5)) (some ⟨w1.heap.size, 0, none⟩) 1 1 [(x : Int)] := ⟨rfl, Nat.le_refl _, by decide, by intro m hm; simp at hm; subst hm; omega, by simp, .inr ⟨_, 0, rfl, fun i hi => by
        obtain rfl : i = 0 := by omega
        exact hbx.cell 0⟩⟩
      have hs2 := hs1.alloc (.cells #[.int .u8 (x : Int)] 5)
      have hg2 := Lib.hid (grown_trans (grown_trans HG.out hg1) (World.grownBy_alloc w1 (.cells #[.int .u8 (x : Int)] 5) (some b)))
      have hz1 := hg1.size
      clear hr0 hr1 hg1 hs1 o1 hbx
      go_wp2_with (at_builtin; refine append_bytes _ rfl (.tmp 11) (.tmp 15) rfl w.heap.size _ _ _ _ rfl o2 _ _ _ _ rfl r2 (by simp; omega) (by omega) ?_; intro a3 c3 w3 o3 g3)
      have hs3 := hs2.grown g3 (fun x e => by have := own_row HO.out x e; omega)
      have hg3 := grown_through hg2.out g3 (own_row HO.out)
      go_roundw
      case rel => exact ⟨k + 1, a3, c3, ys ++ [(x : Int)], by omega, by go_num, rfl, o3, by rw [← Nat.add_assoc]; exact hs3, hg3⟩
      case measure => simp [intOf]; omega
    · obtain rfl : k = n := by omega
      have R := Lib.hid (And.intro ho (And.intro hs hg))
      clear ho hs hg o0 s0
      go_wp2
      go_ret
      exact ⟨a', c', ys, rfl, R.out.1, R.out.2.1, R.out.2.2⟩
end Go.Proofs.Ytimlobhlcmghfaa
