/-
  Flags and bounds of segments, of the program.
-/
import Derived.Test.YteaiemckcepphaaMB
import Derived.Test.YteaiemckcepphaaSgS
namespace Go.Proofs.Yteaiemckcepphaa
open Go.ChangeShapes Go.WideShapes Go.ChangeAt Go.RowKit

theorem seqBound_any (n : Int) (w : World) : Calls Try.prog 78 #[.int .i64 n] w fun e w' => e = .returned (.agg #[.int .i64 n, .int .i64 0, .int .i64 4294967295]) ∧ Below w.heap.size w w' := by
  go_enter Try.func78, Try.ntmps78
  go_wp2
  exact bodyPost_ret (v := .agg #[.int .i64 n, .int .i64 0, .int .i64 4294967295]) (by simp [results, Try.results78, go_sem]) rfl ⟨rfl, (Below.refl _ _).alloc (Nat.le_refl _) _⟩

theorem within6 (g : Nat) (t : TypeId) (x0 l0 h0 x1 l1 h1 x2 l2 h2 x3 l3 h3 x4 l4 h4 x5 l5 h5 : Int) (w : World) (h : Box w g t #[.int .i64 x0, .int .i64 l0, .int .i64 h0, .int .i64 x1, .int .i64 l1, .int .i64 h1, .int .i64 x2, .int .i64 l2, .int .i64 h2, .int .i64 x3, .int .i64 l3, .int .i64 h3, .int .i64 x4, .int .i64 l4, .int .i64 h4, .int .i64 x5, .int .i64 l5, .int .i64 h5]) :
    Calls Try.prog 52 #[.slice (some ⟨g, 0, none⟩) 6 6] w fun e w' => e = .returned (.bool (inB x0 l0 h0 && inB x1 l1 h1 && inB x2 l2 h2 && inB x3 l3 h3 && inB x4 l4 h4 && inB x5 l5 h5)) ∧ Below w.heap.size w w' := by
  have := areWithin_any g [⟨x0, l0, h0⟩, ⟨x1, l1, h1⟩, ⟨x2, l2, h2⟩, ⟨x3, l3, h3⟩, ⟨x4, l4, h4⟩, ⟨x5, l5, h5⟩] w (by
    intro i x hx
    match i with
    | 0 => simp at hx; subst hx; exact ⟨h.cell 0, h.cell 1, h.cell 2⟩
    | 1 => simp at hx; subst hx; exact ⟨h.cell 3, h.cell 4, h.cell 5⟩
    | 2 => simp at hx; subst hx; exact ⟨h.cell 6, h.cell 7, h.cell 8⟩
    | 3 => simp at hx; subst hx; exact ⟨h.cell 9, h.cell 10, h.cell 11⟩
    | 4 => simp at hx; subst hx; exact ⟨h.cell 12, h.cell 13, h.cell 14⟩
    | 5 => simp at hx; subst hx; exact ⟨h.cell 15, h.cell 16, h.cell 17⟩
    | k + 6 => simp at hx) (by simp)
  simpa [bdB, Bool.and_assoc] using this

theorem isWithin_any (g : Int) (w : World) : Calls Try.prog 79 #[.int .i64 g] w fun e w' => e = .returned (.bool (inB g 0 31)) ∧ w' = w := by
  rcases in_cases' g 0 31 with ⟨m, q⟩ | ⟨m, q, r⟩ | ⟨m, q, r⟩
  · rw [m]
    clear m
    have e1 : decide ((0 : Int) ≤ g) = false := decide_eq_false (by omega)
    go_enter Try.func79, Try.ntmps79
    go_wp2
    go_ret
    exact ⟨rfl, rfl⟩
  · rw [m]
    clear m
    have e1 : decide ((0 : Int) ≤ g) = true := decide_eq_true (by omega)
    have e2 : decide (g ≤ 31) = false := decide_eq_false (by omega)
    go_enter Try.func79, Try.ntmps79
    go_wp2
    go_ret
    exact ⟨rfl, rfl⟩
  · rw [m]
    clear m
    have e1 : decide ((0 : Int) ≤ g) = true := decide_eq_true (by omega)
    have e2 : decide (g ≤ 31) = true := decide_eq_true (by omega)
    go_enter Try.func79, Try.ntmps79
    go_wp2
    go_ret
    exact ⟨rfl, rfl⟩

def oneB (k : Int) : Bool := (k == 1) || (k == 2) || (k == 4) || (k == 8) || (k == 16)
theorem isOne_any (k : Int) (w : World) : Calls Try.prog 86 #[.int .i64 k] w fun e w' => e = .returned (.bool (oneB k)) ∧ w' = w := by
  have H : Hid (oneB k = ((k == 1) || (k == 2) || (k == 4) || (k == 8) || (k == 16))) := rfl
  generalize oneB k = v at *
  cases k1 : (k == 1)
  case' false => cases k2 : (k == 2)
  case' false.false => cases k4 : (k == 4)
  case' false.false.false => cases k8 : (k == 8)
  case' false.false.false.false => cases k16 : (k == 16)
  all_goals
    go_enter Try.func86, Try.ntmps86
    go_wp2
    go_ret
    exact ⟨ret_b (by rw [H.out]; simp [*]), rfl⟩

theorem and_flag (g k : Int) (hg : 0 ≤ g ∧ g ≤ 31) (hk : oneB k = true) : (bits .and .i64 g k != 0) = flB g k := by
  obtain ⟨n, rfl⟩ : ∃ n : Nat, g = n := ⟨g.toNat, by omega⟩
  have hn : n < 32 := by omega
  simp only [oneB, Bool.or_eq_true, beq_iff_eq] at hk
  have h1 : ∀ m : Fin 32, (bits .and .i64 (m.val : Int) 1 != 0) = flB m.val 1 := by decide
  have h2 : ∀ m : Fin 32, (bits .and .i64 (m.val : Int) 2 != 0) = flB m.val 2 := by decide
  have h4 : ∀ m : Fin 32, (bits .and .i64 (m.val : Int) 4 != 0) = flB m.val 4 := by decide
  have h8 : ∀ m : Fin 32, (bits .and .i64 (m.val : Int) 8 != 0) = flB m.val 8 := by decide
  have h16 : ∀ m : Fin 32, (bits .and .i64 (m.val : Int) 16 != 0) = flB m.val 16 := by decide
  rcases hk with (((rfl | rfl) | rfl) | rfl) | rfl
  · exact h1 ⟨n, hn⟩
  · exact h2 ⟨n, hn⟩
  · exact h4 ⟨n, hn⟩
  · exact h8 ⟨n, hn⟩
  · exact h16 ⟨n, hn⟩
theorem has_any (g k : Int) (w : World) (hg : 0 ≤ g ∧ g ≤ 31) (hk : oneB k = true) : Calls Try.prog 80 #[.int .i64 g, .int .i64 k] w fun e w' => e = .returned (.bool (flB g k)) ∧ w' = w := by
  have H := Lib.hid (and_flag g k hg hk)
  clear hg hk
  go_enter Try.func80, Try.ntmps80
  go_wp2
  go_ret
  exact ⟨ret_b H.out, rfl⟩

set_option maxRecDepth 20000 in
set_option maxHeartbeats 1000000 in
theorem flagSize_any (g : Int) (w : World) (hg : 0 ≤ g ∧ g ≤ 31) : Calls Try.prog 83 #[.int .i64 g] w fun e w' => e = .returned (.int .i64 ((if flB g 2 then 1 else 0) + (if flB g 1 then 1 else 0))) ∧ Below w.heap.size w w' := by
  have K1 := Lib.hid (fun W => has_any g 1 W hg rfl)
  have K2 := Lib.hid (fun W => has_any g 2 W hg rfl)
  obtain ⟨v, hv⟩ : ∃ v : Int, v = (if flB g 2 then 1 else 0) + (if flB g 1 then 1 else 0) := ⟨_, rfl⟩
  rw [← hv]
  have HV := Lib.hid hv
  have X := Lib.hid (Box.new w 97 #[.int .i64 2, .int .i64 1])
  have B := Lib.hid ((Below.refl w.heap.size w).alloc (Nat.le_refl _) (.cells #[.int .i64 2, .int .i64 1] 97))
  obtain ⟨_, x0, x1⟩ := X.out.two
  clear hv hg
  obtain ⟨v1, H1⟩ : ∃ v1 : Int, Hid ((flB g 1 = false ∧ v1 = 0) ∨ (flB g 1 = true ∧ v1 = 1)) := by cases flB g 1 <;> simp [Hid]
  obtain ⟨v2, H2⟩ : ∃ v2 : Int, Hid ((flB g 2 = false ∧ v2 = 0) ∨ (flB g 2 = true ∧ v2 = 1)) := by cases flB g 2 <;> simp [Hid]
  have HV2 : Hid (v2 + v1 = v) := by
    rw [HV.out]
    rcases H1.out with ⟨e, rfl⟩ | ⟨e, rfl⟩ <;> rcases H2.out with ⟨e', rfl⟩ | ⟨e', rfl⟩ <;> simp [e, e', Hid]
  generalize flB g 1 = q1 at *
  generalize flB g 2 = q2 at *
  clear HV
  go_enter Try.func83, Try.ntmps83
  go_wp2_with fail
  generalize w.alloc (.cells #[.int .i64 2, .int .i64 1] 97) = W0 at *
  go_loopw [3, 8] (fun s i wr => (i = .int .i64 0 ∧ s = .int .i64 0 ∧ W0 = wr) ∨ (i = .int .i64 1 ∧ s = .int .i64 v2 ∧ W0 = wr) ∨ (i = .int .i64 2 ∧ s = .int .i64 v ∧ W0 = wr)) (fun _ i _ => 2 - (intOf i).toNat)
  case atStart => exact .inl ⟨rfl, rfl, rfl⟩
  case round =>
    rcases hrel with ⟨rfl, rfl, rfl⟩ | ⟨rfl, rfl, rfl⟩ | ⟨rfl, rfl, rfl⟩
    · rcases H2.out with ⟨rfl, rfl⟩ | ⟨rfl, rfl⟩
      all_goals
        go_wp2_with (go_at_call 80; refine (K2.out _).mono ?_; rintro e w' ⟨rfl, rfl⟩)
        go_roundw
        case rel => simp
        case measure => simp [intOf]
    · rcases H1.out with ⟨rfl, rfl⟩ | ⟨rfl, rfl⟩
      all_goals
        rcases H2.out with ⟨-, rfl⟩ | ⟨-, rfl⟩
      all_goals
        obtain rfl := HV2.out
        go_wp2_with (go_at_call 80; refine (K1.out _).mono ?_; rintro e w' ⟨rfl, rfl⟩)
        go_roundw
        case rel => simp
        case measure => simp [intOf]
    · go_wp2
      go_ret
      exact ⟨rfl, B.out⟩
end Go.Proofs.Yteaiemckcepphaa
