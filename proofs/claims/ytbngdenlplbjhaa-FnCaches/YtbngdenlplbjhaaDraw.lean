/-
  The source of draws of the laws: whatever it gives lies in its bounds, and nothing but its own block changes.
-/
import Derived.Test.YtbngdenlplbjhaaApp
import Derived.Test.YtbngdenlplbjhaaPack
namespace Go.Proofs.Ytbngdenlplbjhaa
open Go.ChangeShapes Go.WideShapes Go.ChangeAt Go.RowKit

/-- a source of draws: its block b, how far it has been read -/
structure Src (w : World) (b t : Nat) (a : Option Addr) (len cap : Nat) (zs : List Int) : Prop where
  box : Box w b 120 #[.slice a len cap, .int .i64 (t : Int)]
  rd : Rd w a len cap zs
  lt : 0 < len → ∀ x, a = some x → x.block < b
theorem Src.step {w w' : World} {b t t' : Nat} {a : Option Addr} {len cap : Nat} {zs : List Int} (h : Src w b t a len cap zs) (hg : w.grownBy w' (some b)) (hb : Box w' b 120 #[.slice a len cap, .int .i64 (t' : Int)]) : Src w' b t' a len cap zs := by
  refine ⟨hb, ⟨h.rd.length, h.rd.le, h.rd.max, h.rd.b8, h.rd.nil, ?_⟩, h.lt⟩
  rcases h.rd.cells with h0 | ⟨bb, off, rfl, hc⟩
  · exact .inl h0
  · refine .inr ⟨bb, off, rfl, fun i hi => hg.cell (hc i hi) ?_⟩
    have := h.lt (by omega) _ rfl
    intro e
    simp at e this
    omega
theorem Src.alloc {w : World} {b t : Nat} {a : Option Addr} {len cap : Nat} {zs : List Int} (h : Src w b t a len cap zs) (o : Obj) : Src (w.alloc o) b t a len cap zs :=
  h.step (World.grownBy_alloc w o (some b)) (h.box.alloc o)
theorem Src.below {w w' : World} {b t : Nat} {a : Option Addr} {len cap : Nat} {zs : List Int} (h : Src w b t a len cap zs) (hb : Below w.heap.size w w') : Src w' b t a len cap zs :=
  h.step (grown_of_below hb _) (h.box.below hb h.box.lt)
theorem Src.drewN {w : World} {b t : Nat} {a : Option Addr} {len cap : Nat} {zs : List Int} (h : Src w b t a len cap zs) (n : Nat) : Src (w.drewN n) b t a len cap zs :=
  h.below (belowN (Below.refl _ _) n)

theorem grown_through {a b c : World} {r row : Option Nat} (h : a.grownBy b r) (k : b.grownBy c row) (hr : ∀ x, row = some x → a.heap.size ≤ x) : a.grownBy c r :=
  ⟨k.os.trans h.os, k.tape.trans h.tape, k.output.trans h.output, Nat.le_trans h.size k.size, fun i hi hn => (k.block i (Nat.lt_of_lt_of_le hi h.size) (fun e => by have := hr i e.symm; omega)).trans (h.block i hi hn)⟩
theorem Src.grown {w w' : World} {b t : Nat} {a : Option Addr} {len cap : Nat} {zs : List Int} {row : Option Nat} (h : Src w b t a len cap zs) (hg : w.grownBy w' row) (hr : ∀ x, row = some x → b < x) : Src w' b t a len cap zs := by
  refine ⟨h.box.grown hg (fun e => by have := hr b e.symm; omega), ⟨h.rd.length, h.rd.le, h.rd.max, h.rd.b8, h.rd.nil, ?_⟩, h.lt⟩
  rcases h.rd.cells with h0 | ⟨bb, off, rfl, hc⟩
  · exact .inl h0
  · refine .inr ⟨bb, off, rfl, fun i hi => hg.cell (hc i hi) ?_⟩
    have := h.lt (by omega) _ rfl
    intro e
    have h2 := hr _ e.symm
    simp at h2 this
    omega
theorem own_row {w : World} {base : Nat} {a : Option Addr} {len cap : Nat} {zs : List Int} (h : Own w base a len cap zs) : ∀ x, (Value.slice a len cap).ownBlock = some x → base ≤ x := by
  intro x e
  cases a with
  | none => simp [Value.ownBlock] at e
  | some y => have := h.lt y rfl; simp [Value.ownBlock] at e; omega

/-- a number drawn: from 0 on, below n -/
def Nexted (w : World) (b t : Nat) (n : Int) (a : Option Addr) (len cap : Nat) (zs : List Int) (e : Ending) (w' : World) : Prop :=
  ∃ r : Int, e = .returned (.int .i64 r) ∧ 0 ≤ r ∧ (1 ≤ n → r < n) ∧ Src w' b (t + 1) a len cap zs ∧ w.grownBy w' (some b)

theorem box_set {w : World} {b : Nat} {t : TypeId} {x y z : Value} (h : Box w b t #[x, y]) : Box (w.setCell ⟨b, 1, none⟩ z) b t #[x, z] := by
  have := heap_setCell_same w b 1 #[x, y] t z h
  simpa [Box] using this

set_option maxRecDepth 100000 in
set_option maxHeartbeats 2000000 in
theorem l1Next_any (b t : Nat) (n : Int) (a : Option Addr) (len cap : Nat) (zs : List Int) (w : World) (h : Src w b t a len cap zs) (ht : t ≤ 1000000) (hl : len ≤ 1048576) (hn : n ≤ 1000000) :
    Calls Try.prog 75 #[.pointer (some ⟨b, 0, none⟩), .int .i64 n] w (Nexted w b t n a len cap zs) := by
  obtain ⟨z0, c0, c1⟩ := h.box.two
  have f1 := h.box.frozen 1
  obtain ⟨W1, hW1⟩ : ∃ W1, W1 = w.setCell ⟨b, 1, none⟩ (.int .i64 ((t : Int) + 1)) := ⟨_, rfl⟩
  have hg : w.grownBy W1 (some b) := by rw [hW1]; exact grown_setCell w ⟨b, 1, none⟩ _
  have hb1 : Box W1 b 120 #[.slice a len cap, .int .i64 ((t + 1 : Nat) : Int)] := by rw [hW1]; exact box_set h.box
  have hs := h.step hg hb1
  obtain ⟨z1, d0, d1⟩ := hb1.two
  have HW := Lib.hid hW1
  have HS := Lib.hid hs
  have HG := Lib.hid hg
  clear hW1 hs hg hb1 h
  by_cases h1 : n < 1
  · go_enter Try.func75, Try.ntmps75
    go_wp2
    go_ret
    rw [← HW.out]
    exact ⟨0, rfl, by omega, by omega, HS.out, HG.out⟩
  · by_cases h2 : len = 0
    · subst h2
      have hd0 := d0
      have hd1 := d1
      rw [HW.out] at hd0 hd1
      simp only [Int.natCast_add, Int.natCast_one] at hd1
      clear d0 d1
      have k1 : 0 ≤ (t : Int) * 7 % n := Int.emod_nonneg _ (by omega)
      have k2 : (t : Int) * 7 % n < n := Int.emod_lt_of_pos _ (by omega)
      go_enter Try.func75, Try.ntmps75
      go_wp2
      go_ret
      rw [← HW.out]
      exact ⟨_, rfl, k1, fun _ => k2, HS.out, HG.out⟩
    · rcases HS.out.rd.cells with h0 | ⟨bb, off, rfl, hc⟩
      · exact absurd h0 h2
      have hd0 := d0
      have hd1 := d1
      rw [HW.out] at hd0 hd1
      simp only [Int.natCast_add, Int.natCast_one] at hd1
      have hp : (0 : Int) < len := by omega
      have hne : ((len : Int) == 0) = false := by simp; omega
      have m1 : (0 : Int) ≤ (t : Int) % len := Int.emod_nonneg _ (by omega)
      have m2 : (t : Int) % len < len := Int.emod_lt_of_pos _ hp
      have m3 : ((t : Int) % len).toNat = t % len := by rw [← Int.natCast_emod]; exact Int.toNat_natCast _
      have hcm := hc (t % len) (Nat.mod_lt _ (by omega))
      rw [HW.out] at hcm
      have hbd := HS.out.rd.getD_bd (t % len)
      generalize zs.getD (t % len) 0 = x at *
      clear d0 d1 hc
      go_enter Try.func75, Try.ntmps75
      go_wp2
      go_quiet (fail)
      obtain ⟨v, hv, hv1, hv2⟩ : ∃ v, wrap64 (x + wrap64 (wrap64 ((t : Int) / len) * 37)) = v ∧ 0 ≤ v ∧ v ≤ 37000255 := by
        have d1 : 0 ≤ (t : Int) / len := Int.ediv_nonneg (by omega) (by omega)
        have d2 : (t : Int) / len ≤ t := Int.ediv_le_self _ (by omega)
        refine ⟨x + (t : Int) / len * 37, ?_, by omega, by omega⟩
        rw [IntWalk.wrap64_in ((t : Int) / len) (by omega), IntWalk.wrap64_in ((t : Int) / len * 37) (by omega), IntWalk.wrap64_in _ (by omega)]
      rw [hv, ← HW.out]
      have S2 := HS.out.drewN nq
      have G2 : w.grownBy (W1.drewN nq) (some b) := grown_trans HG.out (grown_of_below (belowN (Below.refl _ W1) nq) _)
      generalize W1.drewN nq = W2 at S2 G2 ⊢
      obtain ⟨z2, d0, d1⟩ := S2.box.two
      simp only [Int.natCast_add, Int.natCast_one] at d1
      have HS2 := Lib.hid S2
      have HG2 := Lib.hid G2
      clear hv hcm m1 m2 m3 hbd hd0 hd1 c0 c1 f1 z0 z1 HG HS HW S2 G2
      by_cases h200 : 200 < n
      · rcases HS2.out.rd.cells with h0 | ⟨bb', off', e, hc⟩
        · exact absurd h0 h2
        cases e
        have m1 : (0 : Int) ≤ ((t : Int) + 1) % len := Int.emod_nonneg _ (by omega)
        have m2 : ((t : Int) + 1) % len < len := Int.emod_lt_of_pos _ hp
        have m3 : (((t : Int) + 1) % len).toNat = (t + 1) % len := by rw [← Int.natCast_one, ← Int.natCast_add, ← Int.natCast_emod]; exact Int.toNat_natCast _
        have hcm := hc ((t + 1) % len) (Nat.mod_lt _ (by omega))
        have hbd := HS2.out.rd.getD_bd ((t + 1) % len)
        generalize zs.getD ((t + 1) % len) 0 = y at *
        clear hc
        have n1 : (0 : Int) ≤ (t : Int) + 1 := by omega
        go_wp2
        go_quiet (fail)
        obtain ⟨v', hv', hv1', hv2'⟩ : ∃ v', v * 251 + y * 13 + (t : Int) = v' ∧ 0 ≤ v' ∧ v' ≤ 10000000000 := ⟨_, rfl, by omega, by omega⟩
        rw [hv']
        have S3 := HS2.out.drewN nq
        have G3 : w.grownBy (W2.drewN nq) (some b) := grown_trans HG2.out (grown_of_below (belowN (Below.refl _ W2) nq) _)
        generalize W2.drewN nq = W3 at S3 G3 ⊢
        obtain ⟨z3, e0, e1⟩ := S3.box.two
        have HS3 := Lib.hid S3
        have HG3 := Lib.hid G3
        clear hv' hcm m1 m2 m3 hbd d0 d1 z2 HG2 HS2 S3 G3
        by_cases h6 : 60000 < n
        · rcases HS3.out.rd.cells with h0 | ⟨bb', off', e, hc⟩
          · exact absurd h0 h2
          cases e
          have m1 : (0 : Int) ≤ ((t : Int) + 2) % len := Int.emod_nonneg _ (by omega)
          have m2 : ((t : Int) + 2) % len < len := Int.emod_lt_of_pos _ hp
          have m3 : (((t : Int) + 2) % len).toNat = (t + 2) % len := by
            have : ((t : Int) + 2) = ((t + 2 : Nat) : Int) := by omega
            rw [this, ← Int.natCast_emod]; exact Int.toNat_natCast _
          have hcm := hc ((t + 2) % len) (Nat.mod_lt _ (by omega))
          have hbd := HS3.out.rd.getD_bd ((t + 2) % len)
          generalize zs.getD ((t + 2) % len) 0 = u at *
          clear hc
          have n2 : (0 : Int) ≤ (t : Int) + 2 := by omega
          go_wp2
          go_quiet (fail)
          obtain ⟨v2, hv2, hw1, hw2⟩ : ∃ v2, v' * 257 + u = v2 ∧ 0 ≤ v2 ∧ v2 ≤ 10000000000000 := ⟨_, rfl, by omega, by omega⟩
          rw [hv2]
          have S4 := HS3.out.drewN nq
          have G4 : w.grownBy (W3.drewN nq) (some b) := grown_trans HG3.out (grown_of_below (belowN (Below.refl _ W3) nq) _)
          generalize W3.drewN nq = W4 at S4 G4 ⊢
          have HS4 := Lib.hid S4
          have HG4 := Lib.hid G4
          have k1 : 0 ≤ v2 % n := Int.emod_nonneg _ (by omega)
          have k2 : v2 % n < n := Int.emod_lt_of_pos _ (by omega)
          clear hv2 hcm m1 m2 m3 hbd e0 e1 z3 HG3 HS3 S4 G4
          go_wp2
          go_ret
          exact ⟨_, rfl, k1, fun _ => k2, HS4.out, HG4.out⟩
        · have k1 : 0 ≤ v' % n := Int.emod_nonneg _ (by omega)
          have k2 : v' % n < n := Int.emod_lt_of_pos _ (by omega)
          go_wp2
          go_ret
          exact ⟨_, rfl, k1, fun _ => k2, HS3.out, HG3.out⟩
      · have k1 : 0 ≤ v % n := Int.emod_nonneg _ (by omega)
        have k2 : v % n < n := Int.emod_lt_of_pos _ (by omega)
        go_wp2
        go_ret
        exact ⟨_, rfl, k1, fun _ => k2, HS2.out, HG2.out⟩
end Go.Proofs.Ytbngdenlplbjhaa
