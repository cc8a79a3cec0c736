/-
  Numbers alone: a segment's bytes are read back; one bit that is turned in them is told; what refuses a segment.
-/
import Derived.Test.YteaiemckcepphaaSgX
import Derived.Test.YteaiemckcepphaaMD
namespace Go.Proofs.Yteaiemckcepphaa
open Go.ChangeShapes Go.WideShapes Go.ChangeAt Go.RowKit

theorem sg_form (f t : Int) (x : Sg) (zs : List Int) : ∃ p0 p1 q0 q1 s0 s1 s2 s3 a0 a1 a2 a3 w0 w1 v0 v1 : Int,
    sgL f t x zs = [p0, p1, q0, q1, s0, s1, s2, s3, a0, a1, a2, a3, sgT x.m, x.g, w0, w1, v0, v1, 0, 0] ++ (sgO x.m ++ zs) ∧ be x.f 2 = [p0, p1] ∧ be x.t 2 = [q0, q1] ∧ be x.s 4 = [s0, s1, s2, s3] ∧ be x.a 4 = [a0, a1, a2, a3] ∧ be x.w 2 = [w0, w1] :=
  ⟨_, _, _, _, _, _, _, _, _, _, _, _, _, _, _, _, rfl, rfl, rfl, rfl, rfl, rfl⟩
theorem sg_sum (f t : Int) (x : Sg) (zs : List Int) : dgSum f t 6 (sgL f t x zs) = 0 := by
  obtain ⟨n, hn⟩ : ∃ n, n = 20 + (sgO x.m).length + zs.length := ⟨_, rfl⟩
  obtain ⟨P, hP⟩ : ∃ P, P = pseudoL f t 6 (n : Int) := ⟨_, rfl⟩
  obtain ⟨H, hH⟩ : ∃ H, H = sgH x zs := ⟨_, rfl⟩
  have hl : H.length = n := by rw [hH, sgH_len, hn]
  have hp : P.length = 12 := by rw [hP, pseudoL_len]
  have hv : dgSum f t 6 H = sumV (P ++ H) := by rw [dgSum, hl, hP]
  have hL : sgL f t x zs = (H.set 16 (sumV (P ++ H) / 256)).set 17 (sumV (P ++ H) % 256) := by rw [← hv, hH]; rfl
  have h0 : seal0 (P ++ H) 28 = P ++ H := by
    have e6 : (H.set 16 0).set 17 0 = H := by rw [hH]; rfl
    unfold seal0
    rw [List.set_append_right _ _ (by omega), List.set_append_right _ _ (by omega), hp, e6]
  have hPL : P ++ sgL f t x zs = sealB (P ++ H) 28 := by
    unfold sealB
    rw [h0, hL, List.set_append_right _ _ (by omega), List.set_append_right _ _ (by omega), hp]
  rw [dgSum, sgL_len, ← hn, ← hP, hPL]
  exact sum_sealB _ 28 rfl (by simp; omega)
theorem optA_none (m : Int) : optA [] 0 m = some m := optA_end (by simp)
theorem optA_mss (b0 b1 : Int) : optA [2, 4, b0, b1] 0 0 = some (rdTo [b0, b1] 0 2) := by
  rw [optA_go (by simp) (by simp) (by simp) (by simp) (by simp) (by simp)]
  rw [optA_end (by simp)]
  rfl
theorem be_g (g : Int) (h : 0 ≤ g ∧ g ≤ 31) : g % 32 = g := by omega
theorem sg_opt (m : Int) (h : 0 ≤ m ∧ m ≤ 65535) : optA (sgO m) 0 0 = some m := by
  by_cases hm : m = 0
  · subst hm; exact optA_none 0
  · obtain ⟨b0, b1, hb⟩ : ∃ b0 b1, be m 2 = [b0, b1] := ⟨_, _, rfl⟩
    have e : sgO m = [2, 4, b0, b1] := by unfold sgO; rw [if_neg hm, hb]; rfl
    rw [e, optA_mss, ← hb, rd_be 2 m h.1 (by simp only [Int.reducePow]; omega)]
theorem rsAns_pack (f t : Int) (x : Sg) (zs : List Int) (h : psC f t x zs.length = 0) : rsAns f t (sgL f t x zs) = ⟨0, x, zs⟩ := by
  obtain ⟨m0, m1, hd⟩ := psC_parts h
  obtain ⟨hN, hA, hM, h520⟩ := sgC_parts hd
  obtain ⟨n0, n1, n2, n3, n4, n5, n6⟩ := sgN_parts hN
  have hs := sg_sum f t x zs
  have hl := sgL_len f t x zs
  have hO := sgO_len x.m
  obtain ⟨p0, p1, q0, q1, s0, s1, s2, s3, a0, a1, a2, a3, w0, w1, v0, v1, hP, hp, hq, hss, haa, hww⟩ := sg_form f t x zs
  have e0 := rd_be 2 x.f (by omega) (by simp only [Int.reducePow]; omega)
  have e1 := rd_be 2 x.t (by omega) (by simp only [Int.reducePow]; omega)
  have e2 := rd_be 4 x.s (by omega) (by simp only [Int.reducePow]; omega)
  have e3 := rd_be 4 x.a (by omega) (by simp only [Int.reducePow]; omega)
  have e5 := rd_be 2 x.w (by omega) (by simp only [Int.reducePow]; omega)
  rw [hp] at e0
  rw [hq] at e1
  rw [hss] at e2
  rw [haa] at e3
  rw [hww] at e5
  obtain ⟨L, hL⟩ : ∃ L, L = sgL f t x zs := ⟨_, rfl⟩
  rw [← hL] at hP hs hl ⊢
  have r0 : rdTo L 0 2 = x.f := by rw [hP]; exact e0
  have r2 : rdTo L 2 2 = x.t := by rw [hP]; exact e1
  have r4 : rdTo L 4 4 = x.s := by rw [hP]; exact e2
  have r8 : rdTo L 8 4 = x.a := by rw [hP]; exact e3
  have r14 : rdTo L 14 2 = x.w := by rw [hP]; exact e5
  have g12 : L.getD 12 0 = sgT x.m := by rw [hP]; rfl
  have g13 : L.getD 13 0 = x.g := by rw [hP]; rfl
  have hh : hdN L = 20 + (sgO x.m).length := by
    unfold hdN
    rw [g12, hO]
    unfold sgT
    split <;> simp
  have d20 : L.drop 20 = sgO x.m ++ zs := by rw [hP]; rfl
  have hop : opts L = sgO x.m := by
    unfold opts
    rw [d20, hh, show 20 + (sgO x.m).length - 20 = (sgO x.m).length by omega]
    exact List.take_left' rfl
  have hdr : L.drop (hdN L) = zs := by
    rw [hh, ← List.drop_drop, d20]
    exact List.drop_left' rfl
  have hov : optA (opts L) 0 0 = some x.m := by rw [hop]; exact sg_opt x.m n6
  have hX : rsX L = x := by
    unfold rsX rsG
    rw [show optV (opts L) = x.m by unfold optV; rw [hov]; rfl, g13, be_g _ n4, r0, r2, r4, r8, r14]
    cases x with
    | mk xf xt xs xa xg xw xm =>
      simp only [Sg.mk.injEq, true_and] at hA hM ⊢
      refine ⟨?_, ?_⟩
      · split
        · rfl
        · rename_i hq; exact (hA (by simpa using hq)).symm
      · split
        · rfl
        · rename_i hq; exact (hM (by simpa using hq)).symm
  have hle : (sgO x.m).length ≤ 4 := by rw [hO]; split <;> omega
  have hsub : L.length - hdN L = zs.length := by rw [hl, hh]; omega
  rw [rs_fin (by rw [m0, m1]; rfl) (by unfold slnB; exact decide_eq_true (by omega)) (by omega) hs (by unfold optK; rw [hov]; rfl), hX, hsub, hdr, if_neg (by simpa using hd)]
theorem rsAns_ok (f t : Int) (zs : List Int) (h : (rsAns f t zs).c = 0) : dgSum f t 6 zs = 0 ∧ sgC (rsAns f t zs).x (rsAns f t zs).rs.length = 0 := by
  cases h0 : (ipB f && ipB t)
  · rw [rs_ip h0] at h; simp [rsNo] at h
  cases h1 : slnB zs.length
  · rw [rs_len h0 h1] at h; simp [rsNo] at h
  by_cases h2 : 20 ≤ hdN zs ∧ hdN zs ≤ zs.length
  case neg => rw [rs_form h0 h1 h2] at h; simp [rsNo] at h
  by_cases h3 : dgSum f t 6 zs = 0
  case neg => rw [rs_sum h0 h1 h2 h3] at h; simp [rsNo] at h
  refine ⟨h3, ?_⟩
  cases h4 : optK (opts zs)
  · rw [rs_opt h0 h1 h2 h3 h4] at h; simp [rsNo] at h
  rw [rs_fin h0 h1 h2 h3 h4] at h ⊢
  by_cases h5 : sgC (rsX zs) (zs.length - hdN zs) = 0
  · rw [if_neg (by simpa using h5)]
    simp only [List.length_drop]
    exact h5
  · rw [if_pos h5] at h
    simp only [rsNo] at h
    exact absurd h h5
theorem pseudo_b8' (f t p : Int) (n : Nat) (hp : 0 ≤ p ∧ p ≤ 255) : B8 (pseudoL f t p n) := by
  unfold pseudoL
  exact b8_app (b8_app (b8_app (b8_be 4 f) (b8_be 4 t)) (by intro m hm; simp at hm; omega)) (b8_be 2 _)
/-- one bit turned in bytes that have their sum between these addresses is told -/
theorem sg_told (f t : Int) (L : List Int) (i k : Nat) (hi : i < L.length) (hk : k < 8) (h8 : B8 L) (hs : dgSum f t 6 L = 0) :
    ¬ (rsAns f t (L.set i (bits .xor .u8 (L.getD i 0) (2 ^ k)))).c = 0 := by
  intro hc
  have h := (rsAns_ok _ _ _ hc).1
  rw [dgSum, List.length_set] at h
  rw [dgSum] at hs
  have hp := pseudoL_len f t 6 L.length
  have hx := xor_sum (pseudoL f t 6 L.length ++ L) (12 + i) k (by simp; omega) hk (b8_app (pseudo_b8' f t 6 L.length (by omega)) h8) hs
  have hg : (pseudoL f t 6 L.length ++ L).getD (12 + i) 0 = L.getD i 0 := by
    rw [List.getD_eq_getElem?_getD, List.getD_eq_getElem?_getD, List.getElem?_append_right (by omega), hp]
    congr 2
    omega
  rw [hg, List.set_append_right _ _ (by omega), hp, show 12 + i - 12 = i by omega] at hx
  exact hx h
/-- what refuses a segment has no fault, is no answer to an answer, and tells all that was heard -/
theorem rf_ok (x : Sg) (n : Nat) (h : (rfAns x n).c = 0) : rfAns x n = ⟨0, rfX x n, []⟩ ∧ sgC x n = 0 ∧ flB x.g 4 = false := by
  unfold rfAns at h ⊢
  by_cases h1 : sgC x n = 0
  · rw [if_neg (by simpa using h1)] at h ⊢
    cases h2 : flB x.g 4
    · exact ⟨by simp, h1, rfl⟩
    · rw [h2] at h; simp [rsNo] at h
  · rw [if_pos h1] at h
    simp only [rsNo] at h
    exact absurd h h1
theorem rf_fault (x : Sg) (n : Nat) (h : sgC x n = 0) : sgC (rfX x n) 0 = 0 ∧ flB (rfX x n).g 4 = true ∧ (rfX x n).f = x.t ∧ (rfX x n).t = x.f ∧ (0 ≤ (rfX x n).g ∧ (rfX x n).g ≤ 31) := by
  obtain ⟨hN, _, _, hl⟩ := sgC_parts h
  obtain ⟨n0, n1, n2, n3, n4, n5, n6⟩ := sgN_parts hN
  unfold rfX
  cases h16 : flB x.g 16
  · simp only [Bool.false_eq_true, if_false]
    refine ⟨?_, by decide, trivial, trivial, by omega⟩
    unfold sgC
    have hq : sgN ⟨x.t, x.f, 0, (x.s + sgZ x.g n) % 4294967296, 20, 0, 0⟩ = true := by
      simp only [sgN, inB, sqB, Bool.and_eq_true, decide_eq_true_eq]
      omega
    rw [if_pos hq, if_neg (by simp [show flB 20 16 = true by decide]), if_pos (by omega)]
  · simp only [if_true]
    refine ⟨?_, by decide, trivial, trivial, by omega⟩
    unfold sgC
    have hq : sgN ⟨x.t, x.f, x.a, 0, 4, 0, 0⟩ = true := by
      simp only [sgN, inB, sqB, Bool.and_eq_true, decide_eq_true_eq]
      omega
    rw [if_pos hq, if_neg (by simp), if_pos (by omega)]
end Go.Proofs.Yteaiemckcepphaa
