/-
  The bounds of the program: ipBound, portBound, and areWithin over a row of them.
-/
import Derived.Test.YtbngdenlplbjhaaCat
import Derived.Test.YtbngdenlplbjhaaPack
namespace Go.Proofs.Ytbngdenlplbjhaa
open Go.ChangeShapes Go.WideShapes Go.ChangeAt Go.RowKit

structure Bd where
  n : Int
  lo : Int
  hi : Int
def bdB (b : Bd) : Bool := inB b.n b.lo b.hi
/-- the bounds bs, one behind the other, in the block g -/
def Bds (w : World) (g : Nat) (bs : List Bd) : Prop := ∀ i b, bs[i]? = some b → w.cell? ⟨g, i * 3, none⟩ = some (.int .i64 b.n) ∧ w.cell? ⟨g, i * 3 + 1, none⟩ = some (.int .i64 b.lo) ∧ w.cell? ⟨g, i * 3 + 2, none⟩ = some (.int .i64 b.hi)

/-- a number is below its bounds, above them, or in them -/
theorem in_cases' (k a b : Int) : (inB k a b = false ∧ k < a) ∨ (inB k a b = false ∧ ¬ k < a ∧ b < k) ∨ (inB k a b = true ∧ ¬ k < a ∧ ¬ b < k) := by
  by_cases h1 : k < a
  · exact .inl ⟨in_f (by omega), h1⟩
  · by_cases h2 : b < k
    · exact .inr (.inl ⟨in_f (by omega), h1, h2⟩)
    · exact .inr (.inr ⟨in_t (by omega), h1, h2⟩)

theorem ipBound_any (n : Int) (w : World) : Calls Try.prog 38 #[.int .i64 n] w fun e w' => e = .returned (.agg #[.int .i64 n, .int .i64 0, .int .i64 4294967295]) ∧ Below w.heap.size w w' := by
  go_enter Try.func38, Try.ntmps38
  go_wp2
  exact bodyPost_ret (v := .agg #[.int .i64 n, .int .i64 0, .int .i64 4294967295]) (by simp [results, Try.results38, go_sem]) rfl ⟨rfl, (Below.refl _ _).alloc (Nat.le_refl _) _⟩

set_option maxHeartbeats 1000000 in
theorem areWithin_any (g : Nat) (bs : List Bd) (w : World) (h : Bds w g bs) (hn : bs.length ≤ 1000) :
    Calls Try.prog 37 #[.slice (some ⟨g, 0, none⟩) bs.length bs.length] w fun e w' => e = .returned (.bool (bs.all bdB)) ∧ Below w.heap.size w w' := by
  have HS := Lib.hid h
  obtain ⟨n, hN⟩ : ∃ n, n = bs.length := ⟨_, rfl⟩
  rw [← hN] at hn ⊢
  have HN := Lib.hid hN
  clear h hN
  go_enter Try.func37, Try.ntmps37
  go_wp2
  go_loopw [7] (fun i wr => ∃ (k : Nat), k ≤ n ∧ i = .int .i64 k ∧ Hid ((bs.take k).all bdB = true) ∧ Hid (Below w.heap.size w wr)) (fun i _ => n - (intOf i).toNat)
  case atStart => exact ⟨0, Nat.zero_le _, rfl, rfl, Below.refl _ _⟩
  case round =>
    obtain ⟨k, hk, rfl, hT, hB⟩ := hrel
    by_cases hlt : k < n
    · obtain ⟨b, hb⟩ : ∃ b, bs[k]? = some b := ⟨_, List.getElem?_eq_getElem (by rw [← HN.out]; exact hlt)⟩
      obtain ⟨c0, c1, c2⟩ := HS.out k b hb
      have d0 := keepB' hB.out c0
      have d1 := keepB' hB.out c1
      have d2 := keepB' hB.out c2
      clear c0 c1 c2
      have hT' : Hid ((bs.take (k + 1)).all bdB = bdB b) := by
        have e := hT.out
        have e2 : bs.take (k + 1) = bs.take k ++ [b] := by rw [List.take_add_one, hb]; rfl
        rw [e2]; simp only [Hid, List.all_append, e, List.all_cons, List.all_nil, Bool.true_and, Bool.and_true]
      have hF : Hid (bdB b = false → bs.all bdB = false) := fun hf => by
        rw [List.all_eq_false]
        exact ⟨b, List.mem_of_getElem? hb, by simp [hf]⟩
      have B1 := Lib.hid (hB.out.alloc hB.out.size (.cells #[.int .i64 b.n, .int .i64 b.lo, .int .i64 b.hi] 77))
      have hbd : Hid (bdB b = inB b.n b.lo b.hi) := rfl
      clear hb hT hB
      generalize b.n = x at *
      generalize b.lo = y at *
      generalize b.hi = z at *
      rcases in_cases' x y z with ⟨m, q⟩ | ⟨m, q, r⟩ | ⟨m, q, r⟩
      · have HF : Hid (bs.all bdB = false) := hF.out (hbd.out.trans m)
        clear m
        go_wp2
        go_ret
        exact ⟨ret_b HF.out.symm, B1.out⟩
      · have HF : Hid (bs.all bdB = false) := hF.out (hbd.out.trans m)
        clear m
        go_wp2
        go_ret
        exact ⟨ret_b HF.out.symm, B1.out⟩
      · have HF : Hid ((bs.take (k + 1)).all bdB = true) := hT'.out.trans (hbd.out.trans m)
        clear m
        go_wp2
        go_roundw
        case rel => exact ⟨k + 1, by omega, by go_num, HF.out, B1.out⟩
        case measure => simp [intOf]; omega
    · obtain rfl : k = n := by omega
      have HF : Hid (bs.all bdB = true) := by
        have e := hT.out
        rwa [List.take_of_length_le (by rw [← HN.out]; exact Nat.le_refl _)] at e
      go_wp2
      go_ret
      exact ⟨ret_b HF.out.symm, hB.out⟩
/-- two bounds in a block of their own -/
theorem bds2 {w : World} {g : Nat} {t : TypeId} (a b : Bd) (h : Box w g t #[.int .i64 a.n, .int .i64 a.lo, .int .i64 a.hi, .int .i64 b.n, .int .i64 b.lo, .int .i64 b.hi]) : Bds w g [a, b] := by
  intro i x hx
  match i with
  | 0 => simp at hx; subst hx; exact ⟨h.cell 0, h.cell 1, h.cell 2⟩
  | 1 => simp at hx; subst hx; exact ⟨h.cell 3, h.cell 4, h.cell 5⟩
  | k + 2 => simp at hx
theorem within2 (g : Nat) (t : TypeId) (x0 l0 h0 x1 l1 h1 : Int) (w : World) (h : Box w g t #[.int .i64 x0, .int .i64 l0, .int .i64 h0, .int .i64 x1, .int .i64 l1, .int .i64 h1]) :
    Calls Try.prog 37 #[.slice (some ⟨g, 0, none⟩) 2 2] w fun e w' => e = .returned (.bool (inB x0 l0 h0 && inB x1 l1 h1)) ∧ Below w.heap.size w w' := by
  have := areWithin_any g [⟨x0, l0, h0⟩, ⟨x1, l1, h1⟩] w (bds2 ⟨x0, l0, h0⟩ ⟨x1, l1, h1⟩ h) (by simp)
  simpa [bdB] using this
theorem within4 (g : Nat) (t : TypeId) (x0 l0 h0 x1 l1 h1 x2 l2 h2 x3 l3 h3 : Int) (w : World) (h : Box w g t #[.int .i64 x0, .int .i64 l0, .int .i64 h0, .int .i64 x1, .int .i64 l1, .int .i64 h1, .int .i64 x2, .int .i64 l2, .int .i64 h2, .int .i64 x3, .int .i64 l3, .int .i64 h3]) :
    Calls Try.prog 37 #[.slice (some ⟨g, 0, none⟩) 4 4] w fun e w' => e = .returned (.bool (inB x0 l0 h0 && inB x1 l1 h1 && inB x2 l2 h2 && inB x3 l3 h3)) ∧ Below w.heap.size w w' := by
  have := areWithin_any g [⟨x0, l0, h0⟩, ⟨x1, l1, h1⟩, ⟨x2, l2, h2⟩, ⟨x3, l3, h3⟩] w (by
    intro i x hx
    match i with
    | 0 => simp at hx; subst hx; exact ⟨h.cell 0, h.cell 1, h.cell 2⟩
    | 1 => simp at hx; subst hx; exact ⟨h.cell 3, h.cell 4, h.cell 5⟩
    | 2 => simp at hx; subst hx; exact ⟨h.cell 6, h.cell 7, h.cell 8⟩
    | 3 => simp at hx; subst hx; exact ⟨h.cell 9, h.cell 10, h.cell 11⟩
    | k + 4 => simp at hx) (by simp)
  simpa [bdB, Bool.and_assoc] using this
end Go.Proofs.Ytbngdenlplbjhaa
