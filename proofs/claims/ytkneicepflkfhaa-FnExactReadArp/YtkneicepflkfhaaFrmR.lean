/-
  ReadFrame of the model.
-/
import Derived.Test.YtkneicepflkfhaaFrm
import Derived.Deep.RegionLaw
namespace Go.Proofs.Ytkneicepflkfhaa
open Go.ChangeShapes Go.WideShapes Go.ChangeAt Go.RowKit

/-- a frame's result: the code, the numbers, the body of its own -/
def FrameRes (w : World) (c to fr kd : Int) (zs : List Int) (e : Ending) (w' : World) : Prop :=
  ∃ a' l' c', e = .returned (.agg #[.int .i64 c, .int .i64 to, .int .i64 fr, .int .i64 kd, .slice a' l' c']) ∧ Own w' w.heap.size a' l' c' zs ∧ Below w.heap.size w w'
def rfOk (n : Nat) : Bool := decide (14 ≤ n ∧ n ≤ 614)

theorem l1Read_lit (a : Option Addr) (len cap : Nat) (A S : Nat) (x s : Int) (zs : List Int) (w : World) (h : Rd w a len cap zs) (hx : (A : Int) = x) (hs : (S : Int) = s) (hS2 : S ≤ 6) (hA : A + S ≤ len) :
    Calls Try.prog 48 #[.slice a len cap, .int .i64 x, .int .i64 s] w fun e w' => e = .returned (.int .i64 (rdTo zs A S)) ∧ w = w' := by
  subst hx; subst hs
  exact l1Read_any a len cap A S zs w h hS2 hA

theorem Rd.from {w : World} {b off len cap : Nat} {zs : List Int} (h : Rd w (some ⟨b, off, none⟩) len cap zs) (A off' l' c' : Nat) (hA : A ≤ len) (ho : off' = off + A) (hl : l' = len - A) (hc : c' = cap - A) : Rd w (some ⟨b, off', none⟩) l' c' (zs.drop A) := by
  subst ho; subst hl; subst hc
  have hle := h.le
  have hmx := h.max
  have hlen := h.length
  by_cases h0 : len - A = 0
  · exact ⟨by simp; omega, by omega, by omega, b8_drop h.b8 _, by simp, .inl h0⟩
  refine ⟨by simp; omega, by omega, by omega, b8_drop h.b8 _, by simp, .inr ⟨b, off + A, rfl, fun i hi => ?_⟩⟩
  rcases h.cells with h0 | ⟨bb, o, e, hcell⟩
  · omega
  · cases e
    have := hcell (A + i) (by omega)
    rw [Nat.add_assoc, this, List.getD_eq_getElem?_getD, List.getD_eq_getElem?_getD, List.getElem?_drop]

theorem Rd.fromIf {w : World} {b off len cap : Nat} {zs : List Int} (h : Rd w (some ⟨b, off, none⟩) len cap zs) (A : Nat) (hA : A ≤ len) : Rd w (if cap = A then some ⟨b, off, none⟩ else some ⟨b, off + A, none⟩) (len - A) (cap - A) (zs.drop A) := by
  split
  · have hle := h.le
    have hmx := h.max
    have hlen := h.length
    exact ⟨by simp; omega, by omega, by omega, b8_drop h.b8 _, by simp, .inl (by omega)⟩
  · exact h.from A _ _ _ hA rfl rfl rfl

set_option maxHeartbeats 1000000 in
theorem specReadFrame_no (a : Option Addr) (len cap : Nat) (w : World) (h : rfOk len = false) :
    Calls Try.prog 21 #[.slice a len cap] w (FrameRes w 2 0 0 0 []) := by
  simp only [rfOk, decide_eq_false_iff_not] at h
  by_cases h1 : 14 ≤ len
  · have h2 : ¬ len ≤ 614 := fun h2 => h ⟨h1, h2⟩
    have e1 : decide ((len : Int) < 14) = false := decide_eq_false (by omega)
    have e2 : decide ((614 : Int) < len) = true := decide_eq_true (by omega)
    clear h h1 h2
    go_enter Try.func21, Try.ntmps21
    go_wp2
    exact bodyPost_ret (v := .agg #[.int .i64 2, .int .i64 0, .int .i64 0, .int .i64 0, .slice none 0 0]) (by simp [results, Try.results21, go_sem]) rfl ⟨none, 0, 0, rfl, Own.nil _ _, (Below.refl _ _).alloc (Nat.le_refl _) _⟩
  · have e1 : decide ((len : Int) < 14) = true := decide_eq_true (by omega)
    clear h h1
    go_enter Try.func21, Try.ntmps21
    go_wp2
    exact bodyPost_ret (v := .agg #[.int .i64 2, .int .i64 0, .int .i64 0, .int .i64 0, .slice none 0 0]) (by simp [results, Try.results21, go_sem]) rfl ⟨none, 0, 0, rfl, Own.nil _ _, (Below.refl _ _).alloc (Nat.le_refl _) _⟩

set_option maxHeartbeats 1000000 in
theorem specReadFrame_ok (a : Option Addr) (len cap : Nat) (zs : List Int) (w : World) (hr : Rd w a len cap zs) (h : rfOk len = true) :
    Calls Try.prog 21 #[.slice a len cap] w (FrameRes w 0 (rdTo zs 0 6) (rdTo zs 6 6) (rdTo zs 12 2) (zs.drop 14)) := by
  simp only [rfOk, decide_eq_true_eq] at h
  obtain ⟨h1, h2⟩ := h
  have hle := hr.le
  have hmx := hr.max
  rcases hr.cells with h0 | ⟨b, off, rfl, _⟩
  · omega
  have e1 : decide ((len : Int) < 14) = false := decide_eq_false (by omega)
  have e2 : decide ((614 : Int) < len) = false := decide_eq_false (by omega)
  have i1 : (14 : Int) ≤ len := by omega
  have K0 := Lib.hid (fun W (hW : Rd W (some ⟨b, off, none⟩) len cap zs) => l1Read_lit _ len cap 0 6 0 6 zs W hW rfl rfl (by omega) (by omega))
  have K1 := Lib.hid (fun W (hW : Rd W (some ⟨b, off, none⟩) len cap zs) => l1Read_lit _ len cap 6 6 6 6 zs W hW rfl rfl (by omega) (by omega))
  have K2 := Lib.hid (fun W (hW : Rd W (some ⟨b, off, none⟩) len cap zs) => l1Read_lit _ len cap 12 2 12 2 zs W hW rfl rfl (by omega) (by omega))
  have B0 := Lib.hid ((Below.refl w.heap.size w).alloc (Nat.le_refl _) (.cells #[.int .i64 0, .int .i64 0, .int .i64 0, .int .i64 0, .slice none 0 0] 38))
  have HR := Lib.hid hr
  have HL : Hid (14 < len ∨ len = 14) := show 14 < len ∨ len = 14 by omega
  clear hr
  generalize rdTo zs 0 6 = v0 at *
  generalize rdTo zs 6 6 = v1 at *
  generalize rdTo zs 12 2 = v2 at *
  go_enter Try.func21, Try.ntmps21
  go_wp2_with fail
  generalize hW : w.alloc (.cells #[.int .i64 0, .int .i64 0, .int .i64 0, .int .i64 0, .slice none 0 0] 38) = W0 at *
  have Z0 : Hid (Box W0 w.heap.size 38 #[.int .i64 0, .int .i64 0, .int .i64 0, .int .i64 0, .slice none 0 0]) := by rw [← hW]; exact Box.new _ _ _
  clear hW
  have H0 := Lib.hid ((HR.out.below B0.out).drew)
  go_region_law (first
    | (have q := F2; clear q; go_simp; go_at_call 49; refine (l1Copy_any _ _ _ (zs.drop 14) _ (H0.out.fromIf 14 (by omega)) (by omega)).mono ?_; rintro e w4 ⟨a4, c4, rfl, o4, b4⟩; have z4 := (Z0.out.below (w' := w4) (B := W0.heap.size) ⟨b4.os, b4.tape, b4.output, b4.size, b4.block⟩ Z0.out.lt); have x0 := z4.cell 0; have x1 := z4.cell 1; have x2 := z4.cell 2; have x3 := z4.cell 3; have x4 := z4.cell 4; have f0 := z4.frozen 0; have f1 := z4.frozen 1; have f2 := z4.frozen 2; have f3 := z4.frozen 3; have f4 := z4.frozen 4; have zl := z4.lt)
    | (have q := F1; clear q; go_simp; go_at_call 48; refine (K2.out _ H0.out).mono ?_; rintro e w3 ⟨rfl, rfl⟩; have F2 : Hid True := trivial)
    | (have q := F0; clear q; go_simp; go_at_call 48; refine (K1.out _ H0.out).mono ?_; rintro e w2 ⟨rfl, rfl⟩; have F1 : Hid True := trivial)
    | (go_simp; go_at_call 48; refine (K0.out _ H0.out).mono ?_; rintro e w1 ⟨rfl, rfl⟩; have F0 : Hid True := trivial))
  have hn : ∀ x, a4 = some x → ¬ x.block = w.heap.size := fun x hx e => by
    have h3 : W0.heap.size ≤ x.block := (o4.lt x hx).1
    have h4 := Z0.out.lt
    omega
  have O4 : Hid (Own w4 w.heap.size a4 (len - 14) c4 (zs.drop 14)) := o4.rebase B0.out.size
  have B4 : Hid (Below w.heap.size w w4) := B0.out.drew.trans (b4.mono B0.out.size)
  have HN := Lib.hid hn
  clear hn o4 b4 z4
  go_wp2
  all_goals
    refine bodyPost_ret (v := .agg #[.int .i64 0, .int .i64 v0, .int .i64 v1, .int .i64 v2, .slice a4 (len - 14) c4]) (by simp [results, Try.results21, go_sem, x0, x1, x2, x3, x4]) rfl ⟨_, _, _, rfl, ?_, ?_⟩
    · exact ((((O4.out.setOther _ _ HN.out).setOther _ _ HN.out).setOther _ _ HN.out).setOther _ _ HN.out).setOther _ _ HN.out
    · exact ((((B4.out.setCell (Nat.le_refl _) _).setCell (Nat.le_refl _) _).setCell (Nat.le_refl _) _).setCell (Nat.le_refl _) _).setCell (Nat.le_refl _) _
end Go.Proofs.Ytkneicepflkfhaa
