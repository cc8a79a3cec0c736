/-
  SealSum of the model, and of the program, answer by one and the same function.
-/
import Derived.Test.YtgjkbaplfbiomaaSeal
import Derived.WalkSpells
import Derived.Deep.RegionLaw
import Derived.Deep.RegionWith
import Derived.Laws.CopyOwn
namespace Go.Proofs.Ytgjkbaplfbiomaa
open Go.ChangeShapes Go.WideShapes Go.ChangeAt Go.RowKit

theorem packed_code {w : World} {o : Obj} {c : Int} {e : Ending} (he : e = .returned (.agg #[.int .i64 c, .slice none 0 0])) : Packed w c [] e (w.alloc o) :=
  ⟨none, 0, 0, he, Own.nil _ _, (Below.refl _ _).alloc (Nat.le_refl _) _⟩

theorem below_grown {w w' : World} {B : Nat} {row : Option Nat} (hg : w.grownBy w' row) (hB : B ≤ w.heap.size) (hr : ∀ k, row = some k → B ≤ k) : Below B w w' := (Below.refl B w).grown hg hB hr

theorem field_ir (w : World) (c v : Int) : (Instr.field 92 (.agg #[.int .i64 c, .int .i64 v]) 1).run Try.prog w = .ok (.int .i64 v) w := by
  simp [Instr.field, asAgg, go_sem]
theorem field_br (w : World) (c : Int) (a : Option Addr) (l k : Nat) : (Instr.field 28 (.agg #[.int .i64 c, .slice a l k]) 1).run Try.prog w = .ok (.slice a l k) w := by
  simp [Instr.field, asAgg, go_sem]

theorem splice_cons (a : Int) (r : List Int) (A : Nat) (cs : List Int) : splice (a :: r) (A + 1) cs = a :: splice r A cs := by
  unfold splice
  rw [show A + 1 + cs.length = (A + cs.length) + 1 by omega]
  rfl
theorem set2_splice : ∀ (A : Nat) (L : List Int) (x y : Int), A + 2 ≤ L.length → (L.set A x).set (A + 1) y = splice L A [x, y]
  | _, [], _, _, h => absurd h (by simp)
  | 0, [_], _, _, h => absurd h (by simp)
  | 0, _ :: _ :: _, _, _, _ => rfl
  | A + 1, a :: r, x, y, h => by
    rw [splice_cons, ← set2_splice A r x y (by simpa using h)]
    rfl
theorem be2 (v : Int) (h : 0 ≤ v ∧ v ≤ 65535) : be v 2 = [v / 256, v % 256] := by
  have : v / 256 % 256 = v / 256 := by omega
  simp [be, this]
theorem sealB_splice (zs : List Int) (A : Nat) (h : A + 2 ≤ zs.length) : sealB zs A = splice (seal0 zs A) A (be (sumV (seal0 zs A)) 2) := by
  rw [be2 _ (sumV_bd _)]
  exact set2_splice _ _ _ _ (by simp [seal0]; omega)

set_option maxHeartbeats 1000000 in
set_option maxRecDepth 20000 in
theorem implSeal_ok (a : Option Addr) (len cap A : Nat) (zs : List Int) (w : World) (h : Rd w a len cap zs) (hl : len ≤ 700) (hA : A + 2 ≤ len) (hp : A % 2 = 0) :
    Calls Try.prog 54 #[.slice a len cap, .int .i64 A] w (Packed w 0 (sealB zs A)) := by
  obtain ⟨W0, hW0⟩ : ∃ W0, W0 = w.alloc (.cells #[.int .i64 0, .slice none 0 0] 28) := ⟨_, rfl⟩
  have K := Lib.hid (clone_any a len cap zs W0 (by rw [hW0]; exact h.alloc _) (by omega))
  have HW := Lib.hid hW0
  have hi : hasB len A 2 = true := has_t (by omega)
  have hq : ((A : Int) % 2 != 0) = false := by simp; omega
  have e1 : decide ((700 : Int) < len) = false := decide_eq_false (by omega)
  have hml : len ≤ maxLen := by unfold maxLen; omega
  clear h
  go_enter Try.func54, Try.ntmps54
  go_wp2_with (go_at_call 87; refine (hasBytes_any _ _ _ _ _ _ hml (by omega) (by omega)).mono ?_; rintro e w' ⟨rfl, rfl⟩)
  rw [← HW.out]
  refine K.out.mono ?_
  rintro e w1 ⟨a1, c1, rfl, o1, b1⟩
  have sz : W0.heap.size = w.heap.size + 1 := by rw [HW.out]; simp
  rcases o1.shape with ⟨_, h0, _⟩ | ⟨g, rfl⟩
  · omega
  have hg := (o1.lt _ rfl).1
  have hgr0 := Lib.hid (grown_of_below b1 (some g))
  rw [sz] at hg
  dsimp only at hg
  have hSZ := Lib.hid sz
  have cmx := o1.max
  have hc0 := o1.cellAt A (by omega)
  have hf0 := o1.frozenAt A
  obtain ⟨o2, g2⟩ := o1.set A 0 (by omega)
  have hc1 := o2.cellAt (A + 1) (by omega)
  have hf1 := o2.frozenAt (A + 1)
  obtain ⟨o3, g3⟩ := o2.set (A + 1) 0 (by omega)
  have O3 := Lib.hid o3
  have G3 := Lib.hid (grown_trans hgr0.out (grown_trans g2 g3))
  have i1 : (0 : Int) ≤ (A : Int) + 1 := by omega
  have i2 : (A : Int) + 1 < len := by omega
  have i3 : ((A : Int) + 1).toNat = A + 1 := by omega
  clear sz b1 hW0 K o1 o2 o3 g2 g3 hgr0
  go_wp2_with fail
  generalize hW3 : (w1.setCell ⟨g, A, none⟩ (.int .u8 0)).setCell ⟨g, A + 1, none⟩ (.int .u8 0) = W3 at O3 G3 ⊢
  clear hW3 hc0 hf0 hc1 hf1
  have hz3 : ((zs.set A 0).set (A + 1) 0).length ≤ 700 := by have := O3.out.length; omega
  have hvb := sumV_bd ((zs.set A 0).set (A + 1) 0)
  obtain ⟨v, hv⟩ : ∃ v, v = sumV ((zs.set A 0).set (A + 1) 0) := ⟨_, rfl⟩
  rw [← hv] at hvb
  have KS := Lib.hid (show ∀ W, Rd W (some ⟨g, 0, none⟩) len c1 ((zs.set A 0).set (A + 1) 0) → Calls Try.prog 89 #[.slice (some ⟨g, 0, none⟩) len c1] W fun e w' => e = .returned (.agg #[.int .i64 0, .int .i64 v]) ∧ Below W.heap.size W w' from fun W hr => by
    have := implSum _ _ _ _ W hr
    simp only [smC, smV, hz3, if_true] at this
    rw [hv]; exact this)
  have KP := Lib.hid (show ∀ W, Calls Try.prog 69 #[.int .i64 v, .int .i64 2] W (Packed W 0 (be v 2)) from fun W => implPack_ok v 2 W hvb.1 (by omega) (by simp only [Int.reducePow]; omega))
  have HB : Hid (sealB zs A = splice ((zs.set A 0).set (A + 1) 0) A (be v 2)) := by rw [hv]; exact sealB_splice zs A (by have := O3.out.length; simp at this; omega)
  clear hv hz3
  have hAl : ((A : Int)) ≤ len := by omega
  have hcA : ¬ c1 = A := by omega
  have hfi := field_ir
  have hfb := field_br
  go_region_law (first
    | (refine copy_step _ rfl (.tmp 31) (.tmp 36) rfl _ g len c1 A (len - A) _ _ o5 rfl (by omega) _ _ _ _ rfl r5 (by omega) ?_; intro w6 o6 g6)
    | (go_simp; go_at_call 89; refine (KS.out _ O3.out.drew.rd).mono ?_; rintro e w4 ⟨rfl, b4⟩)
    | (go_simp; go_at_call 69; refine (KP.out _).mono ?_; rintro e w5 ⟨a5, l5, k5, rfl, p5, b5⟩; have o5 := (O3.out.drew.below b4).below b5; have r5 := p5.rd; obtain rfl : 2 = l5 := (be_len 2 v).symm.trans p5.length))
  have hgr := grown_trans (grown_trans (grown_trans G3.out (show W3.grownBy w4 (some g) from grown_of_below (w := W3) ⟨b4.os, b4.tape, b4.output, b4.size, b4.block⟩ (some g))) (grown_of_below b5 (some g))) g6
  obtain ⟨hz, q0, q1, f0, f1⟩ := res_cells HW.out hgr (by intro e; cases e; omega)
  have hB := below_res HW.out hgr (fun k e => by cases e; omega)
  have o6 := o6.rebase (show w.heap.size ≤ W0.heap.size by rw [hSZ.out]; omega)
  rw [← HB.out] at o6
  clear g6 hgr p5 r5 o5 b5 b4 O3 G3 hfi hfb
  go_wp2
  refine bodyPost_ret (v := .agg #[.int .i64 0, .slice (some ⟨g, 0, none⟩) len c1]) (by simp [results, Try.results54, go_sem, q0, q1]) rfl ⟨_, _, _, rfl, ?_, (hB.setCell (Nat.le_refl _) _).setCell (Nat.le_refl _) _⟩
  exact (o6.setOther _ _ (by rintro x hx; cases hx; simp; omega)).setOther _ _ (by rintro x hx; cases hx; simp; omega)

set_option maxHeartbeats 1000000 in
set_option maxRecDepth 20000 in
theorem implSeal (a : Option Addr) (len cap : Nat) (at' : Int) (zs : List Int) (w : World) (h : Rd w a len cap zs) :
    Calls Try.prog 54 #[.slice a len cap, .int .i64 at'] w (Packed w (slC zs at') (slB zs at')) := by
  by_cases hl : len ≤ 700
  · cases hk : slOk len at' with
    | true =>
      simp only [slC, slB, h.length, hl, hk, if_true]
      simp only [slOk, decide_eq_true_eq] at hk
      obtain ⟨A, rfl⟩ := Int.eq_ofNat_of_zero_le hk.1
      rw [Int.toNat_natCast]
      exact implSeal_ok a len cap A zs w h hl (by omega) (by omega)
    | false =>
      simp only [slC, slB, h.length, hl, hk, if_true, Bool.false_eq_true, if_false]
      have e1 : decide ((700 : Int) < len) = false := decide_eq_false (by omega)
      have hml : len ≤ maxLen := by unfold maxLen; omega
      simp only [slOk, decide_eq_false_iff_not] at hk
      by_cases hr : 0 ≤ at' ∧ at' ≤ len - 2
      · have hi : hasB len at' 2 = true := has_t hr
        have hq : (at' % 2 != 0) = true := by simp; omega
        obtain ⟨r1, r2⟩ := hr
        clear h hk
        go_enter Try.func54, Try.ntmps54
        go_wp2_with (go_at_call 87; refine (hasBytes_any _ _ _ _ _ _ hml (by omega) (by omega)).mono ?_; rintro e w' ⟨rfl, rfl⟩)
        all_goals exact bodyPost_ret (v := .agg #[.int .i64 3, .slice none 0 0]) (by simp [results, Try.results54, go_sem]) rfl (packed_code rfl)
      · have hi : hasB len at' 2 = false := has_f hr
        clear h hk hr
        go_enter Try.func54, Try.ntmps54
        go_wp2_with (go_at_call 87; refine (hasBytes_any _ _ _ _ _ _ hml (by omega) (by omega)).mono ?_; rintro e w' ⟨rfl, rfl⟩)
        all_goals exact bodyPost_ret (v := .agg #[.int .i64 3, .slice none 0 0]) (by simp [results, Try.results54, go_sem]) rfl (packed_code rfl)
  · simp only [slC, slB, h.length, hl, if_false]
    have e1 : decide ((700 : Int) < len) = true := decide_eq_true (by omega)
    clear h
    go_enter Try.func54, Try.ntmps54
    go_wp2
    all_goals exact bodyPost_ret (v := .agg #[.int .i64 2, .slice none 0 0]) (by simp [results, Try.results54, go_sem]) rfl (packed_code rfl)
end Go.Proofs.Ytgjkbaplfbiomaa
