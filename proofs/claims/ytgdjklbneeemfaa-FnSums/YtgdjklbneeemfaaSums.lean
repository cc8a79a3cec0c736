/-
  Draws of the law of sums; what has its sum is summed; words that change places change nothing.
-/
import Derived.Test.YtgdjklbneeemfaaLawWords
namespace Go.Proofs.Ytgdjklbneeemfaa
open Go.ChangeShapes Go.WideShapes Go.ChangeAt Go.RowKit

theorem foldN_mod (n : Nat) : foldN n % 65535 = n % 65535 := by
  induction n using Nat.strongRecOn with
  | _ n ih =>
    by_cases h : n ≤ 65535
    · rw [foldN_le h]
    · rw [foldN_gt h, ih _ (by omega)]
      omega
theorem foldN_pos (n : Nat) (h : 0 < n) : 0 < foldN n := by
  induction n using Nat.strongRecOn with
  | _ n ih =>
    by_cases h' : n ≤ 65535
    · rw [foldN_le h']; exact h
    · rw [foldN_gt h']; exact ih _ (by omega) (by omega)
theorem foldN_seal (t : Nat) : foldN (t + (65535 - foldN t)) = 65535 := by
  have h1 := foldN_bd t
  have h2 := foldN_mod t
  have h3 := foldN_bd (t + (65535 - foldN t))
  have h4 := foldN_mod (t + (65535 - foldN t))
  have h5 : 0 < foldN (t + (65535 - foldN t)) := by
    refine foldN_pos _ ?_
    by_cases h : t = 0
    · subst h; rw [foldN_le (by omega)]; omega
    · omega
  omega

theorem sumTo_congr (l m : List Int) : ∀ k, (∀ i, i < k → l.getD i 0 = m.getD i 0) → sumTo l k = sumTo m k
  | 0, _ => rfl
  | k + 1, h => by simp only [sumTo]; rw [sumTo_congr l m k (fun i hi => h i (by omega)), h k (by omega)]
theorem getD_set (l : List Int) (i j : Nat) (x : Int) (h : i < l.length) : (l.set i x).getD j 0 = if i = j then x else l.getD j 0 := by
  rw [List.getD_eq_getElem?_getD, List.getElem?_set]
  split
  · first | rfl | (rename_i e; subst e; rw [if_pos h]; rfl)
  · rw [List.getD_eq_getElem?_getD]
/-- two bytes at an even place count as one number -/
theorem sumTo_two (l : List Int) (A : Nat) (hA : A % 2 = 0) (x y : Nat) : ∀ k, A + 2 + k ≤ l.length →
    sumTo ((l.set A (x : Int)).set (A + 1) (y : Int)) (A + 2 + k) = sumTo ((l.set A 0).set (A + 1) 0) (A + 2 + k) + 256 * x + y
  | 0, h => by
    have e := sumTo_congr ((l.set A (x : Int)).set (A + 1) (y : Int)) ((l.set A 0).set (A + 1) 0) A (fun i hi => by
      rw [getD_set _ _ _ _ (by simp; omega), getD_set _ _ _ _ (by omega), getD_set _ _ _ _ (by simp; omega), getD_set _ _ _ _ (by omega), if_neg (by omega), if_neg (by omega), if_neg (by omega), if_neg (by omega)])
    simp only [Nat.add_zero]
    rw [show A + 2 = (A + 1) + 1 by omega]
    simp only [sumTo]
    rw [e, if_pos hA, if_pos hA, if_neg (by omega), if_neg (by omega)]
    simp only [getD_set _ (A + 1) _ _ (show A + 1 < (l.set A (x : Int)).length by simp; omega), getD_set _ (A + 1) _ _ (show A + 1 < (l.set A 0).length by simp; omega), getD_set l A _ _ (show A < l.length by omega)]
    simp
  | k + 1, h => by
    have ih := sumTo_two l A hA x y k (by omega)
    rw [show A + 2 + (k + 1) = (A + 2 + k) + 1 by omega]
    simp only [sumTo]
    rw [ih, getD_set _ _ _ _ (by simp; omega), getD_set _ _ _ _ (by omega), getD_set _ _ _ _ (by simp; omega), getD_set _ _ _ _ (by omega), if_neg (show ¬ A + 1 = A + 2 + k by omega), if_neg (show ¬ A = A + 2 + k by omega), if_neg (show ¬ A + 1 = A + 2 + k by omega), if_neg (show ¬ A = A + 2 + k by omega)]
    omega
theorem seal0_set (zs : List Int) (A : Nat) (x y : Int) : seal0 ((zs.set A x).set (A + 1) y) A = seal0 zs A := by
  unfold seal0
  rw [List.set_comm _ _ (show A + 1 ≠ A by omega), List.set_set, List.set_set]
theorem seal0_seal0 (zs : List Int) (A : Nat) : seal0 (seal0 zs A) A = seal0 zs A := seal0_set zs A 0 0
theorem seal0_sealB (zs : List Int) (A : Nat) : seal0 (sealB zs A) A = seal0 zs A := by
  unfold sealB
  rw [seal0_set, seal0_seal0]
theorem sealB_sealB (zs : List Int) (A : Nat) : sealB (sealB zs A) A = sealB zs A := by
  have h := seal0_sealB zs A
  have e : sealB (sealB zs A) A = ((seal0 (sealB zs A) A).set A (sumV (seal0 (sealB zs A) A) / 256)).set (A + 1) (sumV (seal0 (sealB zs A) A) % 256) := rfl
  rw [e, h]
  rfl
theorem sum_sealB (zs : List Int) (A : Nat) (hA : A % 2 = 0) (h : A + 2 ≤ zs.length) : sumV (sealB zs A) = 0 := by
  have hb := sumV_bd (seal0 zs A)
  obtain ⟨v, hv⟩ := Int.eq_ofNat_of_zero_le hb.1
  have hl : (seal0 zs A).length = zs.length := by simp [seal0]
  obtain ⟨k, hk⟩ : ∃ k, zs.length = A + 2 + k := ⟨zs.length - (A + 2), by omega⟩
  have e := sumTo_two (seal0 zs A) A hA (v / 256) (v % 256) k (by omega)
  have e2 : ((seal0 zs A).set A 0).set (A + 1) 0 = seal0 zs A := seal0_seal0 zs A
  rw [e2] at e
  have e3 : sealB zs A = ((seal0 zs A).set A ((v / 256 : Nat) : Int)).set (A + 1) ((v % 256 : Nat) : Int) := by
    unfold sealB
    rw [hv]
    rfl
  have e4 : (v : Int) = 65535 - foldN (sumTo (seal0 zs A) (A + 2 + k)) := by
    rw [← hv]; unfold sumV; rw [hl, hk]
  have hf := foldN_seal (sumTo (seal0 zs A) (A + 2 + k))
  have hfb := foldN_bd (sumTo (seal0 zs A) (A + 2 + k))
  have hv2 : v = 65535 - foldN (sumTo (seal0 zs A) (A + 2 + k)) := by omega
  unfold sumV
  rw [sealB_len, hk, e3, e]
  have : sumTo (seal0 zs A) (A + 2 + k) + 256 * (v / 256) + v % 256 = sumTo (seal0 zs A) (A + 2 + k) + (65535 - foldN (sumTo (seal0 zs A) (A + 2 + k))) := by omega
  rw [this, hf]
  rfl

/-- two words that change places -/
def turned (l : List Int) : List Int := (((l.set 0 (l.getD 2 0)).set 1 (l.getD 3 0)).set 2 (l.getD 0 0)).set 3 (l.getD 1 0)
theorem turned_getD (l : List Int) (h : 4 ≤ l.length) (i : Nat) : (turned l).getD i 0 = if i = 3 then l.getD 1 0 else if i = 2 then l.getD 0 0 else if i = 1 then l.getD 3 0 else if i = 0 then l.getD 2 0 else l.getD i 0 := by
  unfold turned
  rw [getD_set _ _ _ _ (by simp; omega), getD_set _ _ _ _ (by simp; omega), getD_set _ _ _ _ (by simp; omega), getD_set _ _ _ _ (by omega)]
  simp only [eq_comm]
theorem sumTo_turned (l : List Int) (h : 4 ≤ l.length) : ∀ k, sumTo (turned l) (4 + k) = sumTo l (4 + k)
  | 0 => by
    simp only [sumTo, turned_getD l h]
    simp
    omega
  | k + 1 => by
    rw [show 4 + (k + 1) = (4 + k) + 1 by omega]
    simp only [sumTo]
    have e : (turned l).getD (4 + k) 0 = l.getD (4 + k) 0 := by rw [turned_getD l h, if_neg (by omega), if_neg (by omega), if_neg (by omega), if_neg (by omega)]
    rw [sumTo_turned l h k, e]
theorem sumV_turned (l : List Int) (h : 4 ≤ l.length) : sumV (turned l) = sumV l := by
  have hl : (turned l).length = l.length := by simp [turned]
  obtain ⟨k, hk⟩ : ∃ k, l.length = 4 + k := ⟨l.length - 4, by omega⟩
  unfold sumV
  rw [hl, hk, sumTo_turned l h k]

/-- some bytes were drawn, up to 701 of them -/
def Dated (w : World) (b t : Nat) (a : Option Addr) (len cap : Nat) (zs : List Int) (e : Ending) (w' : World) : Prop :=
  ∃ (a' : Option Addr) (n c' t' : Nat) (ys : List Int), e = .returned (.slice a' n c') ∧ n ≤ 701 ∧ Own w' w.heap.size a' n c' ys ∧ Src w' b t' a len cap zs ∧ t' ≤ t + 1000 ∧ w.grownBy w' (some b)

set_option maxHeartbeats 1000000 in
theorem l1Data_any (b t : Nat) (a : Option Addr) (len cap : Nat) (zs : List Int) (w : World) (h : Src w b t a len cap zs) (ht : t ≤ 900000) (hl : len ≤ 1048576) :
    Calls Try.prog 55 #[.pointer (some ⟨b, 0, none⟩)] w (Dated w b t a len cap zs) := by
  have hbw := h.box.lt
  have K1 := Lib.hid (l1Pick_any b t w.heap.size 6 [0, 1, 2, 7, 20, 33] 0 33 a len cap zs (w.alloc (.cells #[.int .i64 0, .int .i64 1, .int .i64 2, .int .i64 7, .int .i64 20, .int .i64 33] 2)) (h.alloc _) (fun x hx => mem6 hx (by omega)) rfl (by omega) (by omega) (Box.new _ _ _) (by omega) (by omega) hl)
  clear h
  go_enter Try.func55, Try.ntmps55
  go_wp2_with fail
  refine K1.out.mono ?_
  rintro e w1 ⟨n, rfl, n0, n1, s1, g1⟩
  have K2 := Lib.hid (l1Chance_any _ _ 30 _ _ _ _ _ s1 (by omega) hl (by omega))
  have G1 := Lib.hid (grown_trans (World.grownBy_alloc w (.cells #[.int .i64 0, .int .i64 1, .int .i64 2, .int .i64 7, .int .i64 20, .int .i64 33] 2) (some b)) g1)
  clear s1 g1 K1
  go_wp2_with fail
  refine K2.out.mono ?_
  rintro e w2 ⟨c, rfl, s2, g2⟩
  have G2 := Lib.hid (grown_trans G1.out g2)
  have z2 := s2.box.lt
  have zz := G2.out.size
  cases c
  · obtain ⟨m, rfl⟩ := Int.eq_ofNat_of_zero_le n0
    have K3 := Lib.hid (l1Some_any _ _ m _ _ _ _ _ s2 (by omega) hl)
    clear s2 g2 K2 G1
    go_wp2_with fail
    refine K3.out.mono ?_
    rintro e w3 ⟨a3, c3, ys, rfl, o3, s3, g3⟩
    have R := Lib.hid (And.intro (o3.rebase zz) (And.intro s3 (grown_trans G2.out g3)))
    clear o3 s3 g3 K3
    go_wp2
    go_ret
    exact ⟨a3, m, c3, _, ys, rfl, by omega, R.out.1, R.out.2.1, by omega, R.out.2.2⟩
  · have K3 := Lib.hid (l1Pick_any _ _ w2.heap.size 2 [700, 701] 700 701 _ _ _ _ (w2.alloc (.cells #[.int .i64 700, .int .i64 701] 2)) (s2.alloc _) (fun x hx => mem2 hx (by omega)) rfl (by omega) (by omega) (Box.new _ _ _) (by omega) (by omega) hl)
    clear s2 g2 K2 G1
    go_wp2_with fail
    refine K3.out.mono ?_
    rintro e w3 ⟨p, rfl, p0, p1, s3, g3⟩
    have G3 := Lib.hid (grown_trans (grown_trans G2.out (World.grownBy_alloc w2 (.cells #[.int .i64 700, .int .i64 701] 2) (some b))) g3)
    have zz3 := G3.out.size
    obtain ⟨m, rfl⟩ := Int.eq_ofNat_of_zero_le (show 0 ≤ p by omega)
    have K4 := Lib.hid (l1Some_any _ _ m _ _ _ _ _ s3 (by omega) hl)
    clear s3 g3 K3
    go_wp2_with fail
    refine K4.out.mono ?_
    rintro e w4 ⟨a4, c4, ys, rfl, o4, s4, g4⟩
    have R := Lib.hid (And.intro (o4.rebase zz3) (And.intro s4 (grown_trans G3.out g4)))
    clear o4 s4 g4 K4
    go_wp2
    go_ret
    exact ⟨a4, m, c4, _, ys, rfl, by omega, R.out.1, R.out.2.1, by omega, R.out.2.2⟩
end Go.Proofs.Ytgdjklbneeemfaa
