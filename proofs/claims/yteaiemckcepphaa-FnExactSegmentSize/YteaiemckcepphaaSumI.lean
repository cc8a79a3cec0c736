/-
  Contracts of SumOf of the program: its words come from an iterator that is ranged over; its sum folds in a closure.
-/
import Derived.RangeFuncNested
import Derived.RangeFuncBound
import Derived.RangeFuncCalls
import Derived.RangeFuncLeaves
import Derived.Shelf.Abstract
import Derived.Shelf.RegionOpen
import Derived.WalkKit
import Derived.OwnWalkIn
import Derived.TacticsInMore
import Derived.LoopNIn
import Derived.LoopIn
import Derived.Test.YteaiemckcepphaaSum
namespace Go.Proofs.Yteaiemckcepphaa
open Go.ChangeShapes Go.WideShapes Go.ChangeAt Go.RowKit Go.Shelf
attribute [local go_sem] Oper.semAt_some

/-- the number of two bytes at place k, and how many there are -/
def wd (zs : List Int) (k : Nat) : Nat := 256 * (zs.getD (2 * k) 0).toNat + (zs.getD (2 * k + 1) 0).toNat
abbrev Wd := { x : Nat // x ≤ 65535 }
theorem wd_bd (zs : List Int) (h : B8 zs) (k : Nat) : wd zs k ≤ 65535 := by
  have h1 := b8_getD h (2 * k)
  have h2 := b8_getD h (2 * k + 1)
  unfold wd; omega
def wdS (zs : List Int) (h : B8 zs) (k : Nat) : Wd := ⟨wd zs k, wd_bd zs h k⟩
def upto {α : Type} (f : Nat → α) (k : Nat) : List α := (List.range k).map f
theorem upto_succ {α : Type} (f : Nat → α) (k : Nat) : upto f (k + 1) = upto f k ++ [f k] := by simp [upto, List.range_succ]
theorem upto_length {α : Type} (f : Nat → α) (k : Nat) : (upto f k).length = k := by simp [upto]
def tot (l : List Wd) : Nat := (l.map (·.1)).sum
theorem tot_snoc (l : List Wd) (x : Wd) : tot (l ++ [x]) = tot l + x.1 := by simp [tot]
theorem tot_bd : ∀ l : List Wd, tot l ≤ 65535 * l.length
  | [] => by simp [tot]
  | x :: l => by
    have := tot_bd l
    have hx := x.2
    simp only [tot, List.map_cons, List.sum_cons, List.length_cons] at *
    omega
theorem sumTo_even (zs : List Int) (h : B8 zs) : ∀ k, sumTo zs (2 * k) = tot (upto (wdS zs h) k)
  | 0 => by simp [sumTo, tot, upto]
  | k + 1 => by
    rw [upto_succ, tot_snoc, ← sumTo_even zs h k]
    have e : 2 * (k + 1) = (2 * k + 1) + 1 := by omega
    rw [e]
    simp only [sumTo, wdS, wd]
    rw [if_pos (by omega), if_neg (by omega)]
    omega
theorem sumTo_past (zs : List Int) (h : B8 zs) : sumTo zs zs.length = tot (upto (wdS zs h) ((zs.length + 1) / 2)) := by
  rw [← sumTo_even]
  by_cases e : zs.length % 2 = 0
  · rw [show 2 * ((zs.length + 1) / 2) = zs.length by omega]
  · rw [show 2 * ((zs.length + 1) / 2) = zs.length + 1 by omega]
    simp only [sumTo]
    rw [if_neg e, List.getD_eq_getElem?_getD, List.getElem?_eq_none (Nat.le_refl _)]
    simp

/-- what a round keeps: all below n₀, and the block Bs -/
def KpB (n₀ Bs : Nat) (W W' : World) : Prop := Below n₀ W W' ∧ W'.heap[Bs]? = W.heap[Bs]?
theorem KpB.refl (n₀ Bs : Nat) (W : World) : KpB n₀ Bs W W := ⟨Below.refl _ _, rfl⟩
theorem KpB.trans {n₀ Bs : Nat} {A B C : World} (h : KpB n₀ Bs A B) (k : KpB n₀ Bs B C) : KpB n₀ Bs A C := ⟨h.1.trans k.1, k.2.trans h.2⟩
theorem KpB.put {n₀ Bs : Nat} {w : World} (hn : n₀ ≤ w.heap.size) (hB : Bs < w.heap.size) (W : World) (l : Nat) (o o' : Obj) (hl : w.heap.size ≤ l) (h : W.heap[l]? = some o) (h1 : o.isCells = false) (h2 : o.isWalk = false) : KpB n₀ Bs W (W.putObj l o') :=
  ⟨belowK_b hn W l o o' hl h h1 h2, (grownBy_putObj' W l o').block Bs (by have := (Array.getElem?_eq_some_iff.1 h).1; omega) (by intro e; cases e; omega)⟩

set_option maxRecDepth 100000 in
set_option maxHeartbeats 2000000 in
theorem words1_in (F : Fence) (n : Nat) (hf : F.fn 110) (hro : F.round = none) (hn : 1 ≤ n) (l Bs n₀ b off len cap : Nat) (zs : List Int) (hlz : zs.length = len) (hlen : len ≤ 700) (h8 : B8 zs) (hb : b < n₀) (J Jx : List Wd → World → Prop)
    (hY : ∀ pre x W, J pre W → pre.length < (len + 1) / 2 → YieldAt F (n - 1) Try.prog l #[.int .i64 ((x.1 : Nat) : Int)] W fun e W' =>
      (e = .returned (.bool true) ∧ J (pre ++ [x]) W' ∧ KpB n₀ Bs W W') ∨ (e = .returned (.bool false) ∧ Jx (pre ++ [x]) W'))
    (W : World) (hBs : W.cell? ⟨Bs, 0, none⟩ = some (.slice (some ⟨b, off, none⟩) len cap)) (hc : ∀ j, j < len → W.cell? ⟨b, off + j, none⟩ = some (.int .u8 (zs.getD j 0))) (h0 : J [] W) :
    CallsIn F n Try.prog 110 #[.func (.yield l) #[] #[], .pointer (some ⟨Bs, 0, none⟩)] W fun e W' => (∃ v, e = .returned v) ∧
      ((∃ ys, ys = upto (wdS zs h8) ((len + 1) / 2) ∧ J ys W') ∨ (∃ pre, True ∧ Jx pre W')) := by
  refine callsIn_of_wp Try.func110 rfl hf ?_ hro
  simp only [Try.ntmps110, List.size_toArray, List.length_cons, List.length_nil, Nat.reduceAdd, Nat.reduceSub, Array.replicate_succ, Array.replicate_zero, List.push_toArray, List.append_toArray, List.nil_append, List.cons_append]
  have HC := Lib.hid hc
  have HY := Lib.hid hY
  have H8 := Lib.hid h8
  have HL := Lib.hid hlz
  clear hc hY
  gi_wp2
  gi_loopw [3] (fun i wr => ∃ k : Nat, k ≤ (len + 1) / 2 ∧ i = .int .i64 (2 * k : Nat) ∧ J (upto (wdS zs h8) k) wr ∧ KpB n₀ Bs W wr)
    (fun i _ => 2 * len - (intOf i).toNat)
  case atStart => exact ⟨0, Nat.zero_le _, rfl, h0, KpB.refl _ _ _⟩
  case round =>
    obtain ⟨k, hk, rfl, hJs, hnx⟩ := hrel
    have hbs := (World.cell?_of_block (a := ⟨Bs, 0, none⟩) hnx.2).trans hBs
    by_cases hlt : 2 * k < len
    · obtain ⟨fn, tmps, assign, body, hy, hR⟩ := HY.out _ (wdS zs h8 k) wr hJs (by rw [upto_length]; omega)
      have c1 := (hnx.1.cell (p := ⟨b, off + 2 * k, none⟩) hb).trans (HC.out (2 * k) hlt)
      have b1 := b8_getD H8.out (2 * k)
      have b2 := b8_getD H8.out (2 * k + 1)
      obtain ⟨x, hx⟩ := Int.eq_ofNat_of_zero_le b1.1
      obtain ⟨y, hy'⟩ := Int.eq_ofNat_of_zero_le b2.1
      have hv : ((wd zs k : Nat) : Int) = (x : Int) * 256 + y := by unfold wd; rw [hx, hy']; simp only [Int.toNat_natCast]; omega
      dsimp only [wdS] at hy
      rw [hv] at hy
      rw [hx] at c1 b1
      rw [hy'] at b2
      by_cases hlt2 : 2 * k + 1 < len
      · have c2 := (hnx.1.cell (p := ⟨b, off + (2 * k + 1), none⟩) hb).trans (HC.out (2 * k + 1) hlt2)
        rw [hy'] at c2
        clear hx hy' hv
        gi_wp2
        refine hR.mono ?_
        rintro e W3 (⟨rfl, hJ3, hk3⟩ | ⟨rfl, hJx3⟩)
        · gi_wp2
          go_roundw
          case rel => exact ⟨k + 1, by omega, by go_num, by rw [upto_succ]; exact hJ3, hnx.trans hk3⟩
          case measure => simp [intOf]; omega
        · gi_wp2
          refine bodyPost_ret (results_none rfl _ _ _) rfl ?_
          exact ⟨⟨_, rfl⟩, .inr ⟨_, trivial, hJx3⟩⟩
      · have hy0 : y = 0 := by
          have : zs.getD (2 * k + 1) 0 = 0 := by rw [List.getD_eq_getElem?_getD, List.getElem?_eq_none (by have := HL.out; omega)]; rfl
          omega
        subst hy0
        clear hx hy' hv
        simp only [Int.natCast_zero, Int.add_zero] at hy
        gi_wp2
        refine hR.mono ?_
        rintro e W3 (⟨rfl, hJ3, hk3⟩ | ⟨rfl, hJx3⟩)
        · gi_wp2
          go_roundw
          case rel => exact ⟨k + 1, by omega, by go_num, by rw [upto_succ]; exact hJ3, hnx.trans hk3⟩
          case measure => simp [intOf]; omega
        · gi_wp2
          refine bodyPost_ret (results_none rfl _ _ _) rfl ?_
          exact ⟨⟨_, rfl⟩, .inr ⟨_, trivial, hJx3⟩⟩
    · obtain rfl : k = (len + 1) / 2 := by omega
      gi_wp2
      go_end0
      exact ⟨⟨_, rfl⟩, .inl ⟨_, rfl, hJs⟩⟩
end Go.Proofs.Yteaiemckcepphaa
