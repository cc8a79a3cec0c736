/-
  The law FnCuts.
-/
import Derived.Test.YtlmglepphjpohaaDr6
import Derived.Test.YtlmglepphjpohaaP6S
import Derived.Deep.RegionHeld3
namespace Go.Proofs.Ytlmglepphjpohaa
open Go.ChangeShapes Go.WideShapes Go.ChangeAt Go.RowKit

theorem lwBig6_f (a : Option Addr) (len cap : Nat) (w : World) (hl : len ≤ 1048576) : Calls Try.prog 11 #[.slice a len cap] w fun e w' => e = .returned (.bool false) ∧ w = w' := by
  have e1 : decide ((1048576 : Int) < len) = false := decide_eq_false (by omega)
  go_enter Try.func11, Try.ntmps11
  go_wp2
  go_ret
  exact ⟨rfl, rfl⟩
theorem lwBig6_t (a : Option Addr) (len cap : Nat) (w : World) (hl : ¬ len ≤ 1048576) : Calls Try.prog 11 #[.slice a len cap] w fun e w' => e = .returned (.bool true) ∧ w = w' := by
  have e1 : decide ((1048576 : Int) < len) = true := decide_eq_true (by omega)
  go_enter Try.func11, Try.ntmps11
  go_wp2
  go_ret
  exact ⟨rfl, rfl⟩
theorem field_pr0 (w : World) (c : Int) (a : Option Addr) (l k : Nat) (b : Option Addr) (m j : Nat) : (Instr.field 28 (.agg #[.int .i64 c, .slice a l k, .slice b m j]) 0).run Try.prog w = .ok (.int .i64 c) w := by
  simp [Instr.field, asAgg, go_sem]
theorem field_pr1 (w : World) (c : Int) (a : Option Addr) (l k : Nat) (b : Option Addr) (m j : Nat) : (Instr.field 28 (.agg #[.int .i64 c, .slice a l k, .slice b m j]) 1).run Try.prog w = .ok (.slice a l k) w := by
  simp [Instr.field, asAgg, go_sem]
def cnt6 (x y : Int) : Nat → Nat
  | 0 => 0
  | k + 1 => cnt6 x y k + (if 0 ≤ x + k ∧ x + k < y then 1 else 0)
theorem cnt6_eq (x y : Int) (hy : 0 ≤ y) (n : Nat) : cnt6 x y n = (mn (x + n) y - mx x 0).toNat := by
  induction n with
  | zero =>
    simp only [cnt6, mn, mx]
    split <;> split <;> omega
  | succ n ih =>
    rw [cnt6, ih]
    simp only [mn, mx]
    split <;> split <;> split <;> split <;> omega
theorem partV_len (x : Int) (zs : List Int) (y : Int) (hy : 0 ≤ y) : (partV x zs 0 y).2.length = cnt6 x y zs.length := by
  rw [cnt6_eq x y hy]
  by_cases hc : mn (x + zs.length) y ≤ mx x 0
  · rw [partV_none hc]
    simp only [List.length_nil]
    omega
  · obtain ⟨A, N, hN, hAN, eA, eE⟩ := part_nums hc
    rw [partV_some hc eA eE]
    simp only [List.length_take, List.length_drop]
    omega
theorem partV_place (x : Int) (zs : List Int) (y : Int) (hy : 0 ≤ y) (h : (partV x zs 0 y).2.length ≠ 0) : 0 ≤ (partV x zs 0 y).1 ∧ (partV x zs 0 y).1 + (partV x zs 0 y).2.length ≤ y := by
  by_cases hc : mn (x + zs.length) y ≤ mx x 0
  · rw [partV_none hc] at h
    exact absurd rfl h
  · have hl := partV_len x zs y hy
    rw [cnt6_eq x y hy] at hl
    have h1 : (partV x zs 0 y).1 = mx x 0 := by unfold partV; rw [if_neg hc]
    rw [hl, h1]
    have h2 : 0 ≤ mx x 0 := by unfold mx; split <;> omega
    have h3 : mn (x + zs.length) y ≤ y := by unfold mn; split <;> omega
    omega

set_option maxHeartbeats 4000000 in
theorem cuts_law (a : Option Addr) (len cap : Nat) (zs : List Int) (w : World) (hr : Rd w a len cap zs) :
    Calls Try.prog 4 #[.slice a len cap] w fun e w' => e = .returned (.bool true) ∧ Below w.heap.size w w' := by
  by_cases hl : len ≤ 1048576
  case neg =>
    go_enter Try.func4, Try.ntmps4
    go_wp2_with fail
    refine (lwBig6_t a len cap w hl).mono ?_
    rintro e w1 ⟨rfl, rfl⟩
    go_wp2
    go_ret
    exact ⟨rfl, Below.refl _ _⟩
  have KB := Lib.hid (lwBig6_f a len cap w hl)
  have KD := Lib.hid (drawCutPiece a len cap zs w hr hl)
  clear hr
  have f0 := fun W c a l k b m j => field_pr0 W c a l k b m j
  have f1 := fun W c a l k b m j => field_pr1 W c a l k b m j
  go_enter Try.func4, Try.ntmps4
  go_wp2_with fail
  refine KB.out.mono ?_
  rintro e w1 ⟨rfl, rfl⟩
  go_wp2_with fail
  refine KD.out.mono ?_
  rintro e w1 ⟨x, y, a1, n, c1, ys, rfl, x0, x1, y0, y1, hn, o1, b1⟩
  have O1 := Lib.hid o1.rd
  have B1 := Lib.hid b1
  have hys : ys.length = n := o1.length
  clear KB KD o1 b1
  obtain ⟨C, hC⟩ : ∃ C, C = cuC x ys y := ⟨_, rfl⟩
  obtain ⟨V, hV⟩ : ∃ V, V = cuL x ys y := ⟨_, rfl⟩
  have KI := Lib.hid (show ∀ W, Rd W a1 n c1 ys → Calls Try.prog 27 #[.int .i64 x, .slice a1 n c1, .int .i64 y] W (PrOut W C V []) from fun W h => by rw [hC, hV]; exact implCutPiece x a1 n c1 ys y W h (by omega))
  have KS := Lib.hid (show ∀ W, Rd W a1 n c1 ys → Calls Try.prog 28 #[.int .i64 x, .slice a1 n c1, .int .i64 y] W (PrOut W C V []) from fun W h => by rw [hC, hV]; exact specCutPiece x a1 n c1 ys y W h (by omega))
  have HC := Lib.hid hC
  have HV := Lib.hid hV
  have HY := Lib.hid hys
  clear hC hV hys
  go_wp2_with fail
  refine (KI.out _ O1.out).mono ?_
  rintro e w2 ⟨a2, l2, c2, ps, r2, lr2, cr2, rfl, p2, v2, b2⟩
  have V2 := Lib.hid v2
  have P3 := Lib.hid (p2.pl.pl.alloc (.cells #[.int .i64 C, .slice a2 l2 c2, .slice r2 lr2 cr2] 28))
  have X3 := Lib.hid (Box.new w2 28 #[.int .i64 C, .slice a2 l2 c2, .slice r2 lr2 cr2])
  have O3 := Lib.hid ((O1.out.below b2).alloc (.cells #[.int .i64 C, .slice a2 l2 c2, .slice r2 lr2 cr2] 28))
  have B3 := Lib.hid ((B1.out.trans (b2.mono B1.out.size)).alloc (Nat.le_trans B1.out.size b2.size) (.cells #[.int .i64 C, .slice a2 l2 c2, .slice r2 lr2 cr2] 28))
  clear p2 v2 b2 KI O1 B1
  go_wp2_with fail
  generalize w2.alloc (.cells #[.int .i64 C, .slice a2 l2 c2, .slice r2 lr2 cr2] 28) = W3 at *
  obtain ⟨zz, q0, q1, q2⟩ := X3.out.three
  have hCC : (C != C) = false := by simp
  go_region_held3 (fun W => W.cell? ⟨w2.heap.size, 0, none⟩ = some (.int .i64 C) ∧ W.cell? ⟨w2.heap.size, 1, none⟩ = some (.slice a2 l2 c2))
    (first | go_keep | (go_split_ands; exact ⟨keepK hb (by assumption), keepK hb (by assumption)⟩))
    (first
      | (have q := M5; clear q; go_at_call 18; refine K5.out.mono ?_; rintro e w6 ⟨rfl, b6⟩; have hb := b6)
      | (have q := M4; clear q; go_at_call 28; refine (KS.out _ O4.out).mono ?_; rintro e w5 ⟨a5, l5, c5, ps5, r5, lr5, cr5, rfl, p5, v5, b5⟩; have hb := b5; have M5 : Hid True := trivial; have K5 := Lib.hid (show Calls Try.prog 18 #[.slice a2 l2 c2, .slice a5 l5 c5] w5 fun e w' => e = .returned (.bool true) ∧ Below w5.heap.size w5 w' from by have q := implSamePieces a2 a5 l2 c2 l5 c5 ps ps5 w5 (P4.out.below b5) p5.pl.pl; rw [eqV_refl (V2.out.trans v5.symm)] at q; exact q); have B5 := Lib.hid (B4.out.trans (b5.mono B4.out.size)); have P5 := Lib.hid (P4.out.below b5))
      | (go_at_call 28; refine (KS.out _ O3.out.drew).mono ?_; rintro e w4 ⟨a4, l4, c4, ps4, r4, lr4, cr4, rfl, p4, v4, b4⟩; have hb := b4; have M4 : Hid True := trivial; have O4 := Lib.hid (O3.out.drew.below b4); have P4 := Lib.hid (P3.out.drew.below b4); have B4 := Lib.hid (B3.out.drew.trans (b4.mono B3.out.drew.size)); clear p4 v4))
  have B6 := Lib.hid (B5.out.trans (b6.mono B5.out.size))
  have P6 := Lib.hid (P5.out.below b6)
  have X6 := ((X3.out.below ((Below.refl _ W3).drew) X3.out.lt).below b4 X3.out.lt).below b5 (Nat.lt_of_lt_of_le X3.out.lt b4.size)
  have X7 := X6.below b6 (Nat.lt_of_lt_of_le (Nat.lt_of_lt_of_le X3.out.lt b4.size) b5.size)
  obtain ⟨zz7, y0', y1', y2'⟩ := X7.three
  clear hb b4 b5 b6 p5 v5 O4 P4 B4 B5 P5 K5 M4 M5 X3 X6 X7 O3 P3 B3 KS q0 q1 q2 zz f0 f1
  by_cases hc0 : C = 0
  case neg =>
    have hb := hid_bne hc0
    go_wp2
    go_ret
    exact ⟨rfl, B6.out⟩
  subst hc0
  have hin : (-2000 ≤ x ∧ x ≤ 2000) ∧ 0 ≤ y := by
    have e := HC.out
    unfold cuC at e
    split at e
    · rename_i hh
      have h1 : -2000 ≤ x ∧ x ≤ 2000 := by have := hh.1; unfold inB at this; exact of_decide_eq_true this
      have h2 : 0 ≤ y ∧ y ≤ 2000 := by have := hh.2; unfold inB at this; exact of_decide_eq_true this
      exact ⟨h1, h2.1⟩
    · omega
  have hVV : Hid (V = if (partV x ys 0 y).2.length = 0 then [] else [partV x ys 0 y]) := by
    rw [HV.out]
    exact if_pos HC.out.symm
  clear HC HV
  go_wp2
  go_loopw [7, 8] (fun q i wr => ∃ (k t : Nat), k ≤ n ∧ i = .int .i64 k ∧ q = .int .i64 t ∧ t ≤ k ∧ Hid (t = cnt6 x y k) ∧ w6 = wr) (fun _ i _ => n - (intOf i).toNat)
  case atStart => exact ⟨0, 0, Nat.zero_le _, rfl, rfl, Nat.le_refl _, rfl, rfl⟩
  case round =>
    obtain ⟨k, t, hk, rfl, rfl, htk, hT, rfl⟩ := hrel
    by_cases hlt : k < n
    · by_cases hp : 0 ≤ x + k
      · by_cases hq : x + k < y
        · have hT' : Hid (t + 1 = cnt6 x y (k + 1)) := by simp only [Hid]; rw [cnt6, if_pos ⟨hp, hq⟩, hT.out]
          clear hT
          go_wp2
          all_goals (refine ⟨⟨k + 1, t + 1, by omega, by go_num, by go_num, by omega, hT'.out, trivial⟩, ?_⟩; simp [intOf]; omega)
        · have hT' : Hid (t = cnt6 x y (k + 1)) := by simp only [Hid]; rw [cnt6, if_neg (fun e => hq e.2), hT.out]; rfl
          clear hT
          go_wp2
          all_goals (refine ⟨⟨k + 1, t, by omega, by go_num, rfl, by omega, hT'.out, trivial⟩, ?_⟩; simp [intOf]; omega)
      · have hT' : Hid (t = cnt6 x y (k + 1)) := by simp only [Hid]; rw [cnt6, if_neg (fun e => hp e.1), hT.out]; rfl
        clear hT
        go_wp2
        all_goals (refine ⟨⟨k + 1, t, by omega, by go_num, rfl, by omega, hT'.out, trivial⟩, ?_⟩; simp [intOf]; omega)
    · obtain rfl : k = n := by omega
      have hPL : t = (partV x ys 0 y).2.length := by rw [partV_len x ys y hin.2, HY.out]; exact hT.out
      have hlen : l2 = V.length := by
        have := P6.out.lb.length
        rw [← V2.out, vals_len]; exact this.symm
      clear hT
      by_cases ht0 : t = 0
      · have hv : V = [] := by rw [hVV.out, if_pos (hPL.symm.trans ht0)]
        have hl0 : l2 = 0 := by rw [hlen, hv]; rfl
        subst ht0 hl0
        clear hVV hPL hlen hv
        go_wp2
        go_ret
        exact ⟨rfl, B6.out⟩
      · have hv : V = [partV x ys 0 y] := by rw [hVV.out, if_neg (by omega)]
        have hl1 : l2 = 1 := by rw [hlen, hv]; rfl
        have hpl := partV_place x ys y hin.2 (by omega)
        subst hl1
        obtain ⟨bb, off, p, rfl, hpp, g0, g1⟩ := P6.out.lb.at (show 0 < 1 by omega)
        have hpv : p.v = partV x ys 0 y := by
          have e1 := vals_at hpp
          rw [V2.out, hv] at e1
          simpa using e1.symm
        have hpz := (P6.out.data p (List.mem_of_getElem? hpp)).length
        rw [← hpv] at hpl hPL
        obtain ⟨pk, pa, pl, pc, pz⟩ := p
        simp only [Pm.v] at hpl hPL hpz g0 g1
        have htl : pl = t := by omega
        subst htl
        have hb1 : ((pl : Int) == 0) = false := by simpa using ht0
        have hb2 : ((pl : Int) == (pl : Int)) = true := by simp
        have hk0 : 0 ≤ pk := hpl.1
        have hk1 : pk + (pl : Int) ≤ y := by have := hpl.2; omega
        simp only [Nat.zero_mul, Nat.add_zero] at g0 g1
        clear hVV hPL hlen hv hpv hpp hpz ht0 V2 P6 hpl
        go_wp2
        go_ret
        exact ⟨rfl, B6.out⟩
end Go.Proofs.Ytlmglepphjpohaa
