/-
  partOf and CutPiece of the program.
-/
import Derived.Test.YtimlobhlcmghfaaP6V
import Derived.Lib.MinMax
namespace Go.Proofs.Ytimlobhlcmghfaa
open Go.ChangeShapes Go.WideShapes Go.ChangeAt Go.RowKit

theorem keepFz {W w1 : World} (hb : Below W.heap.size W w1) {p : Addr} {u : Value} (hc : W.cell? p = some u) (h : W.frozen? p = false) : w1.frozen? p = false := (hb.frozen (World.block_lt_of_cell? _ _ hc)).trans h
/-- a place and bytes that can be read wherever the piece's own can -/
def PartOut (w : World) (a : Option Addr) (len cap : Nat) (zs : List Int) (v : Int × List Int) (e : Ending) (w' : World) : Prop :=
  ∃ a' l' c', e = .returned (.agg #[.int .i64 v.1, .slice a' l' c']) ∧ (∀ W, Rd W a len cap zs → Rd W a' l' c' v.2) ∧ Below w.heap.size w w'
set_option maxHeartbeats 2000000 in
theorem partOf_any (k : Int) (a : Option Addr) (len cap : Nat) (zs : List Int) (lo hi : Int) (w : World) (h : Rd w a len cap zs) (hl : len ≤ 1048576) (hk : -2000 ≤ k ∧ k ≤ 2000) (hlo : 0 ≤ lo ∧ lo ≤ 1100000) (hhi : -2000 ≤ hi ∧ hi ≤ 1100000) :
    Calls Try.prog 187 #[.agg #[.int .i64 k, .slice a len cap], .int .i64 lo, .int .i64 hi] w (PartOut w a len cap zs (partV k zs lo hi)) := by
  have hz := h.length
  have B0 := Lib.hid (((Below.refl w.heap.size w).alloc (Nat.le_refl _) (.cells #[.int .i64 k, .slice a len cap] 133)).alloc (by simp) (.cells #[.int .i64 0, .slice none 0 0] 133))
  have X0 := Lib.hid ((Box.new w 133 #[.int .i64 k, .slice a len cap]).alloc (.cells #[.int .i64 0, .slice none 0 0] 133))
  have Y0 := Lib.hid (Box.new (w.alloc (.cells #[.int .i64 k, .slice a len cap] 133)) 133 #[.int .i64 0, .slice none 0 0])
  have K := Lib.hid (fun W => endOf_any k a len cap W hl hk.1 hk.2)
  have eM : max k lo = mx k lo := by unfold mx; split <;> omega
  have eN : min (k + (len : Int)) hi = mn (k + len) hi := by unfold mn; split <;> omega
  have b1 : -2000 ≤ mx k lo ∧ mx k lo ≤ 1100000 := by unfold mx; split <;> omega
  have b2 : -2000 ≤ mn (k + len) hi ∧ mn (k + len) hi ≤ 1100000 := by unfold mn; split <;> omega
  by_cases hc : mn (k + len) hi ≤ mx k lo
  · have hV : Hid (partV k zs lo hi = (0, [])) := partV_none (by rw [hz]; exact hc)
    rw [hV.out]
    clear h hz hV
    generalize mx k lo = F at *
    generalize mn (k + len) hi = E at *
    go_enter Try.func187, Try.ntmps187
    go_wp2_with fail
    obtain ⟨_, x0, x1⟩ := X0.out.two
    obtain ⟨_, y0, y1⟩ := Y0.out.two
    have g0 := Y0.out.frozen 0
    have g1 := Y0.out.frozen 1
    simp only [World.size_alloc] at y0 y1 g0 g1
    generalize hW : (w.alloc (.cells #[.int .i64 k, .slice a len cap] 133)).alloc (.cells #[.int .i64 0, .slice none 0 0] 133) = W at *
    go_region_held3 (fun W => W.cell? ⟨w.heap.size, 0, none⟩ = some (.int .i64 k) ∧ W.cell? ⟨w.heap.size, 1, none⟩ = some (.slice a len cap) ∧ W.cell? ⟨w.heap.size + 1, 0, none⟩ = some (.int .i64 0) ∧ W.cell? ⟨w.heap.size + 1, 1, none⟩ = some (.slice none 0 0) ∧ W.frozen? ⟨w.heap.size + 1, 0, none⟩ = false ∧ W.frozen? ⟨w.heap.size + 1, 1, none⟩ = false)
      (first | go_keep | (go_split_ands; exact ⟨keepK hb (by assumption), keepK hb (by assumption), keepK hb (by assumption), keepK hb (by assumption), keepFz hb (by assumption) (by assumption), keepFz hb (by assumption) (by assumption)⟩))
      (first | (go_at_call 173; refine (K.out _).mono ?_; rintro e w10 ⟨rfl, b10⟩; have hb := b10))
    all_goals (
      have Y0' := Y0.out
      rw [World.size_alloc] at Y0'
      have Y1 := (show Box W.drew (w.heap.size + 1) 133 #[.int .i64 0, .slice none 0 0] from Y0').below b10 Y0'.lt
      have B1 := Lib.hid (B0.out.drew.trans (b10.mono B0.out.drew.size))
      obtain ⟨zz, z0, z1⟩ := Y1.two
      have f0 := Y1.frozen 0
      have f1 := Y1.frozen 1
      clear hb b10 x0 x1 y0 y1 Y1 Y0'
      go_wp2
      exact bodyPost_ret (v := .agg #[.int .i64 0, .slice none 0 0]) (by simp [results, Try.results187, go_sem, z0, z1]) rfl ⟨_, _, _, rfl, fun W _ => (Own.nil W 0).rd, (B1.out.setCell (by simp) _).setCell (by simp) _⟩)
  · obtain ⟨A, N, hN, hAN, eA, eE⟩ := part_nums hc
    have hV : Hid (partV k zs lo hi = (mx k lo, (zs.drop A).take N)) := partV_some (by rw [hz]; exact hc) eA (by rw [hz]; exact eE)
    have hcap : len ≤ cap := h.le
    have hmx := h.max
    obtain ⟨b, off, rfl, hr⟩ := h.part A N N hAN hN (Nat.le_refl _) (by omega)
    have R := Lib.hid (show ∀ W, Rd W (some ⟨b, off, none⟩) len cap zs → Rd W (some ⟨b, off + A, none⟩) N N ((zs.drop A).take N) from fun W hW => by
      obtain ⟨b', off', e, r⟩ := hW.part A N N hAN hN (Nat.le_refl _) (by omega)
      cases e
      exact r)
    have hA : ¬ A + N = A := by omega
    have w1 : IntKind.i64.wrap (mx k lo - k) = (A : Int) := (IntWalk.i64_in _ (by omega)).trans eA
    have w2 : IntKind.i64.wrap (mn (k + len) hi - k) = ((A + N : Nat) : Int) := (IntWalk.i64_in _ (by omega)).trans eE
    rw [hV.out]
    clear h hz hr hV
    generalize mx k lo = F at *
    generalize mn (k + len) hi = E at *
    go_enter Try.func187, Try.ntmps187
    go_wp2_with fail
    obtain ⟨_, x0, x1⟩ := X0.out.two
    obtain ⟨_, y0, y1⟩ := Y0.out.two
    have g0 := Y0.out.frozen 0
    have g1 := Y0.out.frozen 1
    simp only [World.size_alloc] at y0 y1 g0 g1
    generalize hW : (w.alloc (.cells #[.int .i64 k, .slice (some ⟨b, off, none⟩) len cap] 133)).alloc (.cells #[.int .i64 0, .slice none 0 0] 133) = W at *
    go_region_held3 (fun W => W.cell? ⟨w.heap.size, 0, none⟩ = some (.int .i64 k) ∧ W.cell? ⟨w.heap.size, 1, none⟩ = some (.slice (some ⟨b, off, none⟩) len cap) ∧ W.cell? ⟨w.heap.size + 1, 0, none⟩ = some (.int .i64 0) ∧ W.cell? ⟨w.heap.size + 1, 1, none⟩ = some (.slice none 0 0) ∧ W.frozen? ⟨w.heap.size + 1, 0, none⟩ = false ∧ W.frozen? ⟨w.heap.size + 1, 1, none⟩ = false)
      (first | go_keep | (go_split_ands; exact ⟨keepK hb (by assumption), keepK hb (by assumption), keepK hb (by assumption), keepK hb (by assumption), keepFz hb (by assumption) (by assumption), keepFz hb (by assumption) (by assumption)⟩))
      (first | (go_at_call 173; refine (K.out _).mono ?_; rintro e w10 ⟨rfl, b10⟩; have hb := b10))
    all_goals (
      have Y0' := Y0.out
      rw [World.size_alloc] at Y0'
      have Y1 := (show Box W.drew (w.heap.size + 1) 133 #[.int .i64 0, .slice none 0 0] from Y0').below b10 Y0'.lt
      have x0' := keepK b10 (show W.drew.cell? _ = _ from x0)
      have x1' := keepK b10 (show W.drew.cell? _ = _ from x1)
      have B1 := Lib.hid (B0.out.drew.trans (b10.mono B0.out.drew.size))
      obtain ⟨zz, z0, z1⟩ := Y1.two
      have f0 := Y1.frozen 0
      have f1 := Y1.frozen 1
      clear hb b10 x0 x1 y0 y1 Y1 Y0'
      go_wp2
      exact bodyPost_ret (v := .agg #[.int .i64 F, .slice (some ⟨b, off + A, none⟩) N N]) (by simp [results, Try.results187, go_sem, z0, z1]) rfl ⟨_, _, _, rfl, R.out, (B1.out.setCell (by simp) _).setCell (by simp) _⟩)

end Go.Proofs.Ytimlobhlcmghfaa
