/-
  ReadArp of the model, and the law FnExactReadArp.
-/
import Derived.Test.YtkneicepflkfhaaImRdA
namespace Go.Proofs.Ytkneicepflkfhaa
open Go.ChangeShapes Go.WideShapes Go.ChangeAt Go.RowKit

theorem specReadArp_no (a : Option Addr) (len cap : Nat) (w : World) (h : raOk len = false) :
    Calls Try.prog 34 #[.slice a len cap] w (ArpRes w 2 0 0 0 0 0) := by
  simp only [raOk, decide_eq_false_iff_not] at h
  by_cases h1 : 28 ≤ len
  · have h2 : ¬ len ≤ 600 := fun h2 => h ⟨h1, h2⟩
    have e1 : decide ((len : Int) < 28) = false := decide_eq_false (by omega)
    have e2 : decide ((600 : Int) < len) = true := decide_eq_true (by omega)
    clear h h1 h2
    go_enter Try.func34, Try.ntmps34
    go_wp2
    exact bodyPost_ret (v := .agg #[.int .i64 2, .int .i64 0, .int .i64 0, .int .i64 0, .int .i64 0, .int .i64 0]) (by simp [results, Try.results34, go_sem]) rfl ⟨rfl, (Below.refl _ _).alloc (Nat.le_refl _) _⟩
  · have e1 : decide ((len : Int) < 28) = true := decide_eq_true (by omega)
    clear h h1
    go_enter Try.func34, Try.ntmps34
    go_wp2
    exact bodyPost_ret (v := .agg #[.int .i64 2, .int .i64 0, .int .i64 0, .int .i64 0, .int .i64 0, .int .i64 0]) (by simp [results, Try.results34, go_sem]) rfl ⟨rfl, (Below.refl _ _).alloc (Nat.le_refl _) _⟩


theorem want_true {o : Oper} {y : Nat → Option Bool} {A B : Prop} (h : Region.wanted o y = true) (hA : A) : if Region.wanted o y = true then A else B := by
  rw [if_pos h]
  exact hA

theorem arpP_fault {n0 n1 n2 n3 n4 : Int} {zs : List Int} (hk : arpB n0 n1 n2 n3 n4 = false) (h : 28 ≤ zs.length) : eqL (arpP n0 n1 n2 n3 n4) (zs.take 28) = false := by
  unfold arpP eqL
  rw [if_neg (by rw [hk]; simp)]
  refine decide_eq_false (fun e => ?_)
  have : (zs.take 28).length = 0 := by rw [← e]; rfl
  rw [List.length_take] at this
  omega

set_option maxRecDepth 20000 in
set_option maxHeartbeats 2000000 in
theorem specReadArp_ok (a : Option Addr) (len cap : Nat) (zs : List Int) (n0 n1 n2 n3 n4 : Int) (w : World) (hr : Rd w a len cap zs) (h : raOk len = true)
    (e0 : rdTo zs 6 2 = n0) (e1 : rdTo zs 8 6 = n1) (e2 : rdTo zs 14 4 = n2) (e3 : rdTo zs 18 6 = n3) (e4 : rdTo zs 24 4 = n4) (g : Bool) (hg : eqL (arpP n0 n1 n2 n3 n4) (zs.take 28) = g) (c' m0 m1 m2 m3 m4 : Int) (hm : (g = true ∧ c' = 0 ∧ m0 = n0 ∧ m1 = n1 ∧ m2 = n2 ∧ m3 = n3 ∧ m4 = n4) ∨ (g = false ∧ c' = 1 ∧ m0 = 0 ∧ m1 = 0 ∧ m2 = 0 ∧ m3 = 0 ∧ m4 = 0)) :
    Calls Try.prog 34 #[.slice a len cap] w (ArpRes w c' m0 m1 m2 m3 m4) := by
  simp only [raOk, decide_eq_true_eq] at h
  obtain ⟨h1, h2⟩ := h
  have hle := hr.le
  have hmx := hr.max
  have hln := Lib.hid hr.length
  rcases hr.cells with h0 | ⟨ba, off, rfl, hcc⟩
  · omega
  have d1 : decide ((len : Int) < 28) = false := decide_eq_false (by omega)
  have d2 : decide ((600 : Int) < len) = false := decide_eq_false (by omega)
  have K0 := Lib.hid (show ∀ W, Rd W (some ⟨ba, off, none⟩) len cap zs → Calls Try.prog 48 #[.slice (some ⟨ba, off, none⟩) len cap, .int .i64 6, .int .i64 2] W fun e w' => e = .returned (.int .i64 n0) ∧ W = w' from fun W hW => by rw [← e0]; exact l1Read_lit _ len cap 6 2 6 2 zs W hW rfl rfl (by omega) (by omega))
  have K1 := Lib.hid (show ∀ W, Rd W (some ⟨ba, off, none⟩) len cap zs → Calls Try.prog 48 #[.slice (some ⟨ba, off, none⟩) len cap, .int .i64 8, .int .i64 6] W fun e w' => e = .returned (.int .i64 n1) ∧ W = w' from fun W hW => by rw [← e1]; exact l1Read_lit _ len cap 8 6 8 6 zs W hW rfl rfl (by omega) (by omega))
  have K2 := Lib.hid (show ∀ W, Rd W (some ⟨ba, off, none⟩) len cap zs → Calls Try.prog 48 #[.slice (some ⟨ba, off, none⟩) len cap, .int .i64 14, .int .i64 4] W fun e w' => e = .returned (.int .i64 n2) ∧ W = w' from fun W hW => by rw [← e2]; exact l1Read_lit _ len cap 14 4 14 4 zs W hW rfl rfl (by omega) (by omega))
  have K3 := Lib.hid (show ∀ W, Rd W (some ⟨ba, off, none⟩) len cap zs → Calls Try.prog 48 #[.slice (some ⟨ba, off, none⟩) len cap, .int .i64 18, .int .i64 6] W fun e w' => e = .returned (.int .i64 n3) ∧ W = w' from fun W hW => by rw [← e3]; exact l1Read_lit _ len cap 18 6 18 6 zs W hW rfl rfl (by omega) (by omega))
  have K4 := Lib.hid (show ∀ W, Rd W (some ⟨ba, off, none⟩) len cap zs → Calls Try.prog 48 #[.slice (some ⟨ba, off, none⟩) len cap, .int .i64 24, .int .i64 4] W fun e w' => e = .returned (.int .i64 n4) ∧ W = w' from fun W hW => by rw [← e4]; exact l1Read_lit _ len cap 24 4 24 4 zs W hW rfl rfl (by omega) (by omega))
  have KF := Lib.hid (fun W => specArpFault n0 n1 n2 n3 n4 W)
  have HR := Lib.hid hr
  have i1 : (28 : Int) ≤ len := by omega
  have i2 : (28 : Int) ≤ cap := by omega
  have i3 : 28 ≤ cap := by omega
  have R1 := Lib.hid ((Box.new w 54 #[.int .i64 0, .int .i64 0, .int .i64 0, .int .i64 0, .int .i64 0, .int .i64 0]).alloc (.cells #[.int .i64 n0, .int .i64 n1, .int .i64 n2, .int .i64 n3, .int .i64 n4] 49))
  have X1 := Lib.hid (Box.new (w.alloc (.cells #[.int .i64 0, .int .i64 0, .int .i64 0, .int .i64 0, .int .i64 0, .int .i64 0] 54)) 49 #[.int .i64 n0, .int .i64 n1, .int .i64 n2, .int .i64 n3, .int .i64 n4])
  simp only [World.size_alloc] at X1
  have B0 := Lib.hid ((Below.refl w.heap.size w).alloc (Nat.le_refl _) (.cells #[.int .i64 0, .int .i64 0, .int .i64 0, .int .i64 0, .int .i64 0, .int .i64 0] 54))
  have B1 := Lib.hid (B0.out.alloc B0.out.size (.cells #[.int .i64 n0, .int .i64 n1, .int .i64 n2, .int .i64 n3, .int .i64 n4] 49))
  have HG := Lib.hid hg
  have HM := Lib.hid hm
  have H8 := Lib.hid (b8_take hr.b8 28)
  clear hr hcc e0 e1 e2 e3 e4 hg hm
  go_enter Try.func34, Try.ntmps34
  go_wp2_with fail
  refine (K0.out _ (HR.out.below B0.out)).mono ?_
  rintro e w' ⟨rfl, rfl⟩
  go_wp2_with fail
  refine (K1.out _ (HR.out.below B0.out)).mono ?_
  rintro e w' ⟨rfl, rfl⟩
  go_wp2_with fail
  refine (K2.out _ (HR.out.below B0.out)).mono ?_
  rintro e w' ⟨rfl, rfl⟩
  go_wp2_with fail
  refine (K3.out _ (HR.out.below B0.out)).mono ?_
  rintro e w' ⟨rfl, rfl⟩
  go_wp2_with fail
  refine (K4.out _ (HR.out.below B0.out)).mono ?_
  rintro e w' ⟨rfl, rfl⟩
  clear K0 K1 K2 K3 K4
  go_upto_region 4 with (fail)
  generalize (w.alloc (.cells #[.int .i64 0, .int .i64 0, .int .i64 0, .int .i64 0, .int .i64 0, .int .i64 0] 54)).alloc (.cells #[.int .i64 n0, .int .i64 n1, .int .i64 n2, .int .i64 n3, .int .i64 n4] 49) = W1 at *
  have T1 := Lib.hid (Below.refl W1.heap.size W1)
  have TD := kDrew T1
  obtain ⟨s2, hs2⟩ : ∃ s2, s2 = strOfNums (zs.take 28) := ⟨_, rfl⟩
  have SS := Lib.hid (show ∀ W, Hid (Below W1.heap.size W1 W) → W.cell? ⟨w.heap.size + 1, 0, none⟩ = some (.int .i64 n0) ∧ W.cell? ⟨w.heap.size + 1, 1, none⟩ = some (.int .i64 n1) ∧ W.cell? ⟨w.heap.size + 1, 2, none⟩ = some (.int .i64 n2) ∧ W.cell? ⟨w.heap.size + 1, 3, none⟩ = some (.int .i64 n3) ∧ W.cell? ⟨w.heap.size + 1, 4, none⟩ = some (.int .i64 n4) ∧ (convert 22 9 (.slice (some ⟨ba, off, none⟩) 28 cap)).run Try.prog W = .ok (.string s2) W ∧ Hid (Below W1.heap.size W1 W) from fun W h => by
    have ha := X1.out.below h.out X1.out.lt
    refine ⟨ha.cell 0, ha.cell 1, ha.cell 2, ha.cell 3, ha.cell 4, ?_, h⟩
    rw [hs2]
    exact conv_rd ((HR.out.below (B1.out.trans (h.out.mono B1.out.size))).upto 28 h1))
  have HS2 := Lib.hid hs2
  clear hs2
  go_cut [34] (fun v wx => v = .bool (!g) ∧ Hid (Below W1.heap.size W1 wx))
  case first =>
    cases hk : arpB n0 n1 n2 n3 n4 with
    | false =>
      have hc : arpC n0 n1 n2 n3 n4 = 3 := by unfold arpC; rw [if_neg (by rw [hk]; simp)]
      rw [hc] at KF
      have hgf : g = false := by rw [← HG.out]; exact arpP_fault hk (by have := hln.out; omega)
      subst hgf
      clear hk hc HG HM
      refine wp_region_held_drew (S := fun W => W.cell? ⟨w.heap.size + 1, 0, none⟩ = some (.int .i64 n0) ∧ W.cell? ⟨w.heap.size + 1, 1, none⟩ = some (.int .i64 n1) ∧ W.cell? ⟨w.heap.size + 1, 2, none⟩ = some (.int .i64 n2) ∧ W.cell? ⟨w.heap.size + 1, 3, none⟩ = some (.int .i64 n3) ∧ W.cell? ⟨w.heap.size + 1, 4, none⟩ = some (.int .i64 n4) ∧ (convert 22 9 (.slice (some ⟨ba, off, none⟩) 28 cap)).run Try.prog W = .ok (.string s2) W ∧ Hid (Below W1.heap.size W1 W)) (by kernel_rfl) (SS.out _ TD) (fun hHeld => ?_)
      refine wpAnyH_take (i := 0) (v := ?_) (by simp only [List.getElem?_toArray, List.getElem?_cons_zero]; exact rfl) (by kernel_rfl) (by kernel_rfl) (by kernel_rfl) (by exact fun _ _ _ h => h) (Or.inl ⟨by rfl, ?_⟩) hHeld ?_
      rotate_left
      · intro w' hSw
        obtain ⟨hS0, hS1, hS2, hS3, hS4, hS5, hS6⟩ := hSw
        go_simp
        try with_reducible rfl
      try simp only [Act.put, List.setIfInBounds_toArray, List.set_cons_zero, List.set_cons_succ]
      refine wpAnyH_ready (rs := [1]) (by kernel_rfl) (by simp) ?_
      refine AllReadyH.cons (by simp only [List.getElem?_toArray, List.getElem?_cons_zero, List.getElem?_cons_succ]; exact rfl) (fun K hK => ?_) AllReadyH.nil
      refine want_none (by exact rfl) ?_
      go_wp2_with fail
      refine (KF.out _).mono ?_
      rintro e w3 ⟨rfl, b3⟩
      go_wp2_with fail
      refine hK.out _ _ (SS.out _ (kCall b3 (kSize TD) TD)) (fun hHeld => ?_)
      clear hK K
      try simp only [Act.put, List.setIfInBounds_toArray, List.set_cons_zero, List.set_cons_succ]
      refine wpAnyH_take (i := 2) (v := ?_) (by simp only [List.getElem?_toArray, List.getElem?_cons_zero, List.getElem?_cons_succ]; exact rfl) (by kernel_rfl) (by kernel_rfl) (by kernel_rfl) (by exact fun _ _ _ h => h) (Or.inl ⟨by rfl, ?_⟩) hHeld ?_
      rotate_left
      · intro w' hSw
        obtain ⟨hS0, hS1, hS2, hS3, hS4, hS5, hS6⟩ := hSw
        go_simp
        try with_reducible rfl
      try simp only [Act.put, List.setIfInBounds_toArray, List.set_cons_zero, List.set_cons_succ]
      refine wpAnyH_take (i := 3) (v := ?_) (by simp only [List.getElem?_toArray, List.getElem?_cons_zero, List.getElem?_cons_succ]; exact rfl) (by kernel_rfl) (by kernel_rfl) (by kernel_rfl) (by exact fun _ _ _ h => h) (Or.inl ⟨by rfl, ?_⟩) hHeld ?_
      rotate_left
      · intro w' hSw
        obtain ⟨hS0, hS1, hS2, hS3, hS4, hS5, hS6⟩ := hSw
        go_simp
        try with_reducible rfl
      try simp only [Act.put, List.setIfInBounds_toArray, List.set_cons_zero, List.set_cons_succ]
      refine wpAnyH_take (i := 4) (v := undef) (by simp only [List.getElem?_toArray, List.getElem?_cons_zero, List.getElem?_cons_succ]; exact rfl) (by kernel_rfl) (by kernel_rfl) (by kernel_rfl) (by exact fun _ _ _ h => h) (Or.inr ⟨by rfl, rfl⟩) hHeld ?_
      try simp only [Act.put, List.setIfInBounds_toArray, List.set_cons_zero, List.set_cons_succ]
      refine wpAnyH_take (i := 5) (v := undef) (by simp only [List.getElem?_toArray, List.getElem?_cons_zero, List.getElem?_cons_succ]; exact rfl) (by kernel_rfl) (by kernel_rfl) (by kernel_rfl) (by exact fun _ _ _ h => h) (Or.inr ⟨by rfl, rfl⟩) hHeld ?_
      try simp only [Act.put, List.setIfInBounds_toArray, List.set_cons_zero, List.set_cons_succ]
      refine wpAnyH_take (i := 6) (v := undef) (by simp only [List.getElem?_toArray, List.getElem?_cons_zero, List.getElem?_cons_succ]; exact rfl) (by kernel_rfl) (by kernel_rfl) (by kernel_rfl) (by exact fun _ _ _ h => h) (Or.inr ⟨by rfl, rfl⟩) hHeld ?_
      try simp only [Act.put, List.setIfInBounds_toArray, List.set_cons_zero, List.set_cons_succ]
      refine wpAnyH_take (i := 7) (v := undef) (by simp only [List.getElem?_toArray, List.getElem?_cons_zero, List.getElem?_cons_succ]; exact rfl) (by kernel_rfl) (by kernel_rfl) (by kernel_rfl) (by exact fun _ _ _ h => h) (Or.inr ⟨by rfl, rfl⟩) hHeld ?_
      try simp only [Act.put, List.setIfInBounds_toArray, List.set_cons_zero, List.set_cons_succ]
      refine wpAnyH_take (i := 8) (v := undef) (by simp only [List.getElem?_toArray, List.getElem?_cons_zero, List.getElem?_cons_succ]; exact rfl) (by kernel_rfl) (by kernel_rfl) (by kernel_rfl) (by exact fun _ _ _ h => h) (Or.inr ⟨by rfl, rfl⟩) hHeld ?_
      try simp only [Act.put, List.setIfInBounds_toArray, List.set_cons_zero, List.set_cons_succ]
      refine wpAnyH_take (i := 9) (v := undef) (by simp only [List.getElem?_toArray, List.getElem?_cons_zero, List.getElem?_cons_succ]; exact rfl) (by kernel_rfl) (by kernel_rfl) (by kernel_rfl) (by exact fun _ _ _ h => h) (Or.inr ⟨by rfl, rfl⟩) hHeld ?_
      try simp only [Act.put, List.setIfInBounds_toArray, List.set_cons_zero, List.set_cons_succ]
      refine wpAnyH_take (i := 10) (v := ?_) (by simp only [List.getElem?_toArray, List.getElem?_cons_zero, List.getElem?_cons_succ]; exact rfl) (by kernel_rfl) (by kernel_rfl) (by kernel_rfl) (by exact fun _ _ _ h => h) (Or.inl ⟨by rfl, ?_⟩) hHeld ?_
      rotate_left
      · intro w' hSw
        obtain ⟨hS0, hS1, hS2, hS3, hS4, hS5, hS6⟩ := hSw
        go_simp
        try with_reducible rfl
      try simp only [Act.put, List.setIfInBounds_toArray, List.set_cons_zero, List.set_cons_succ]
      refine wpAnyH_done (by kernel_rfl) ?_ _
      go_wp2_with fail
      go_meet
      exact ⟨rfl, kCall b3 (kSize TD) TD⟩
    | true =>
      have hc : arpC n0 n1 n2 n3 n4 = 0 := by unfold arpC; rw [if_pos hk]
      have hp : arpP n0 n1 n2 n3 n4 = arpL n0 n1 n2 n3 n4 := by unfold arpP; rw [if_pos hk]
      rw [hc] at KF
      rw [hp] at HG
      obtain ⟨q0, q1, q2, q3, q4⟩ := arpB_parts hk
      have L := Lib.hid (fun W b hx => l2Arp_any b n0 n1 n2 n3 n4 W hx q0 q1 q2 q3 q4)
      have HQ : Hid (((strOfNums (arpL n0 n1 n2 n3 n4)).toList == s2.toList) = g) := by
        have hg := HG.out
        cases g with
        | true =>
          have := of_decide_eq_true hg
          rw [HS2.out, ← this]
          simp [Hid]
        | false =>
          rw [HS2.out]
          have hb8 : B8 (arpL n0 n1 n2 n3 n4) := by
            unfold arpL
            exact b8_app (b8_app (b8_app (b8_app (b8_app (by intro n hn; simp at hn; omega) (b8_be _ _)) (b8_be _ _)) (b8_be _ _)) (b8_be _ _)) (b8_be _ _)
          exact str_ne hb8 H8.out (of_decide_eq_false hg)
      clear hk hc hp q0 q1 q2 q3 q4 HG HM
      generalize arpL n0 n1 n2 n3 n4 = ps at *
      have hq := HQ.out
      obtain ⟨s1, hs1⟩ : ∃ s1, s1 = strOfNums ps := ⟨_, rfl⟩
      have HS1 := Lib.hid hs1
      rw [← hs1] at hq
      clear hs1 HQ
      refine wp_region_held_drew (S := fun W => W.cell? ⟨w.heap.size + 1, 0, none⟩ = some (.int .i64 n0) ∧ W.cell? ⟨w.heap.size + 1, 1, none⟩ = some (.int .i64 n1) ∧ W.cell? ⟨w.heap.size + 1, 2, none⟩ = some (.int .i64 n2) ∧ W.cell? ⟨w.heap.size + 1, 3, none⟩ = some (.int .i64 n3) ∧ W.cell? ⟨w.heap.size + 1, 4, none⟩ = some (.int .i64 n4) ∧ (convert 22 9 (.slice (some ⟨ba, off, none⟩) 28 cap)).run Try.prog W = .ok (.string s2) W ∧ Hid (Below W1.heap.size W1 W)) (by kernel_rfl) (SS.out _ TD) (fun hHeld => ?_)
      refine wpAnyH_take (i := 0) (v := ?_) (by simp only [List.getElem?_toArray, List.getElem?_cons_zero]; exact rfl) (by kernel_rfl) (by kernel_rfl) (by kernel_rfl) (by exact fun _ _ _ h => h) (Or.inl ⟨by rfl, ?_⟩) hHeld ?_
      rotate_left
      · intro w' hSw
        obtain ⟨hS0, hS1, hS2, hS3, hS4, hS5, hS6⟩ := hSw
        go_simp
        try with_reducible rfl
      try simp only [Act.put, List.setIfInBounds_toArray, List.set_cons_zero, List.set_cons_succ]
      refine wpAnyH_ready (rs := [1]) (by kernel_rfl) (by simp) ?_
      refine AllReadyH.cons (by simp only [List.getElem?_toArray, List.getElem?_cons_zero, List.getElem?_cons_succ]; exact rfl) (fun K hK => ?_) AllReadyH.nil
      refine want_none (by exact rfl) ?_
      go_wp2_with fail
      refine (KF.out _).mono ?_
      rintro e w3 ⟨rfl, b3⟩
      go_wp2_with fail
      refine hK.out _ _ (SS.out _ (kCall b3 (kSize TD) TD)) (fun hHeld => ?_)
      clear hK K
      try simp only [Act.put, List.setIfInBounds_toArray, List.set_cons_zero, List.set_cons_succ]
      have T3 := kCall b3 (kSize TD) TD
      have X3 := Lib.hid (X1.out.below T3.out X1.out.lt)
      refine wpAnyH_take (i := 2) (v := ?_) (by simp only [List.getElem?_toArray, List.getElem?_cons_zero, List.getElem?_cons_succ]; exact rfl) (by kernel_rfl) (by kernel_rfl) (by kernel_rfl) (by exact fun _ _ _ h => h) (Or.inl ⟨by rfl, ?_⟩) hHeld ?_
      rotate_left
      · intro w' hSw
        obtain ⟨hS0, hS1, hS2, hS3, hS4, hS5, hS6⟩ := hSw
        go_simp
        try with_reducible rfl
      try simp only [Act.put, List.setIfInBounds_toArray, List.set_cons_zero, List.set_cons_succ]
      refine wpAnyH_take (i := 3) (v := ?_) (by simp only [List.getElem?_toArray, List.getElem?_cons_zero, List.getElem?_cons_succ]; exact rfl) (by kernel_rfl) (by kernel_rfl) (by kernel_rfl) (by exact fun _ _ _ h => h) (Or.inl ⟨by rfl, ?_⟩) hHeld ?_
      rotate_left
      · intro w' hSw
        obtain ⟨hS0, hS1, hS2, hS3, hS4, hS5, hS6⟩ := hSw
        go_simp
        try with_reducible rfl
      try simp only [Act.put, List.setIfInBounds_toArray, List.set_cons_zero, List.set_cons_succ]
      refine wpAnyH_take (i := 6) (v := ?_) (by simp only [List.getElem?_toArray, List.getElem?_cons_zero, List.getElem?_cons_succ]; exact rfl) (by kernel_rfl) (by kernel_rfl) (by kernel_rfl) (by exact fun _ _ _ h => h) (Or.inl ⟨by rfl, ?_⟩) hHeld ?_
      rotate_left
      · intro w' hSw
        obtain ⟨hS0, hS1, hS2, hS3, hS4, hS5, hS6⟩ := hSw
        go_simp
        try with_reducible rfl
      try simp only [Act.put, List.setIfInBounds_toArray, List.set_cons_zero, List.set_cons_succ]
      refine wpAnyH_take (i := 7) (v := ?_) (by simp only [List.getElem?_toArray, List.getElem?_cons_zero, List.getElem?_cons_succ]; exact rfl) (by kernel_rfl) (by kernel_rfl) (by kernel_rfl) (by exact fun _ _ _ h => h) (Or.inl ⟨by rfl, ?_⟩) hHeld ?_
      rotate_left
      · intro w' hSw
        obtain ⟨hS0, hS1, hS2, hS3, hS4, hS5, hS6⟩ := hSw
        go_simp
        try with_reducible rfl
      try simp only [Act.put, List.setIfInBounds_toArray, List.set_cons_zero, List.set_cons_succ]
      refine wpAnyH_take (i := 8) (v := ?_) (by simp only [List.getElem?_toArray, List.getElem?_cons_zero, List.getElem?_cons_succ]; exact rfl) (by kernel_rfl) (by kernel_rfl) (by kernel_rfl) (by exact fun _ _ _ h => h) (Or.inl ⟨by rfl, ?_⟩) hHeld ?_
      rotate_left
      · intro w' hSw
        obtain ⟨hS0, hS1, hS2, hS3, hS4, hS5, hS6⟩ := hSw
        go_simp
        try with_reducible rfl
      try simp only [Act.put, List.setIfInBounds_toArray, List.set_cons_zero, List.set_cons_succ]
      refine wpAnyH_ready (rs := [4]) (by kernel_rfl) (by simp) ?_
      refine AllReadyH.cons (by simp only [List.getElem?_toArray, List.getElem?_cons_zero, List.getElem?_cons_succ]; exact rfl) (fun K hK => ?_) AllReadyH.nil
      refine want_true (by rfl) ?_
      go_wp2_with fail
      refine (L.out _ _ X3.out).mono ?_
      rintro e w4 ⟨a4, k4, rfl, o4, hb⟩
      go_wp2_with fail
      refine hK.out _ _ (SS.out _ (kCall hb (kSize T3) T3)) (fun hHeld => ?_)
      clear hK K
      try simp only [Act.put, List.setIfInBounds_toArray, List.set_cons_zero, List.set_cons_succ]
      have T4 := kCall hb (kSize T3) T3
      have cv : (convert 22 9 (.slice a4 28 k4)).run Try.prog w4 = .ok (.string s1) w4 := by rw [HS1.out]; exact conv_rd o4.rd
      refine wpAnyH_ready (rs := [5]) (by kernel_rfl) (by simp) ?_
      refine AllReadyH.cons (by simp only [List.getElem?_toArray, List.getElem?_cons_zero, List.getElem?_cons_succ]; exact rfl) (fun K hK => ?_) AllReadyH.nil
      refine want_true (by rfl) ?_
      go_wp2_with fail
      refine hK.out _ _ (SS.out _ T4) (fun hHeld => ?_)
      clear hK K
      try simp only [Act.put, List.setIfInBounds_toArray, List.set_cons_zero, List.set_cons_succ]
      refine wpAnyH_take (i := 9) (v := ?_) (by simp only [List.getElem?_toArray, List.getElem?_cons_zero, List.getElem?_cons_succ]; exact rfl) (by kernel_rfl) (by kernel_rfl) (by kernel_rfl) (by exact fun _ _ _ h => h) (Or.inl ⟨by rfl, ?_⟩) hHeld ?_
      rotate_left
      · intro w' hSw
        obtain ⟨hS0, hS1, hS2, hS3, hS4, hS5, hS6⟩ := hSw
        go_simp
        try with_reducible rfl
      try simp only [Act.put, List.setIfInBounds_toArray, List.set_cons_zero, List.set_cons_succ]
      refine wpAnyH_take (i := 10) (v := ?_) (by simp only [List.getElem?_toArray, List.getElem?_cons_zero, List.getElem?_cons_succ]; exact rfl) (by kernel_rfl) (by kernel_rfl) (by kernel_rfl) (by exact fun _ _ _ h => h) (Or.inl ⟨by rfl, ?_⟩) hHeld ?_
      rotate_left
      · intro w' hSw
        obtain ⟨hS0, hS1, hS2, hS3, hS4, hS5, hS6⟩ := hSw
        go_simp
        try with_reducible rfl
      try simp only [Act.put, List.setIfInBounds_toArray, List.set_cons_zero, List.set_cons_succ]
      refine wpAnyH_done (by kernel_rfl) ?_ _
      go_wp2_with fail
      go_meet
      exact ⟨rfl, T4⟩
  case rest =>
    obtain ⟨rfl, TX⟩ := hcut
    have X2 := X1.out.below TX.out X1.out.lt
    have R2 := R1.out.below TX.out R1.out.lt
    have B := Lib.hid (B1.out.trans (TX.out.mono B1.out.size))
    obtain ⟨_, x0, x1, x2, x3, x4⟩ := X2.five
    obtain ⟨_, r0, r1, r2, r3, r4, r5⟩ := R2.six
    have f0 := R2.frozen 0
    have f1 := R2.frozen 1
    have f2 := R2.frozen 2
    have f3 := R2.frozen 3
    have f4 := R2.frozen 4
    have f5 := R2.frozen 5
    clear X1 R1 B0 B1 SS T1 TD TX X2 R2 HG KF HR H8 HS2 hln
    rcases HM.out with ⟨rfl, rfl, rfl, rfl, rfl, rfl, rfl⟩ | ⟨rfl, rfl, rfl, rfl, rfl, rfl, rfl⟩
    · clear HM
      go_wp2
      exact bodyPost_ret (v := .agg #[.int .i64 0, .int .i64 m0, .int .i64 m1, .int .i64 m2, .int .i64 m3, .int .i64 m4]) (by simp [results, Try.results34, go_sem, r0, r1, r2, r3, r4, r5]) rfl ⟨rfl, (((((B.out.setCell (Nat.le_refl _) _).setCell (Nat.le_refl _) _).setCell (Nat.le_refl _) _).setCell (Nat.le_refl _) _).setCell (Nat.le_refl _) _).setCell (Nat.le_refl _) _⟩
    · clear HM
      go_wp2
      exact bodyPost_ret (v := .agg #[.int .i64 1, .int .i64 0, .int .i64 0, .int .i64 0, .int .i64 0, .int .i64 0]) (by simp [results, Try.results34, go_sem, r0, r1, r2, r3, r4, r5]) rfl ⟨rfl, (((((B.out.setCell (Nat.le_refl _) _).setCell (Nat.le_refl _) _).setCell (Nat.le_refl _) _).setCell (Nat.le_refl _) _).setCell (Nat.le_refl _) _).setCell (Nat.le_refl _) _⟩

theorem eqArpR_t (c n0 n1 n2 n3 n4 : Int) (w : World) :
    Calls Try.prog 36 #[.agg #[.int .i64 c, .int .i64 n0, .int .i64 n1, .int .i64 n2, .int .i64 n3, .int .i64 n4], .agg #[.int .i64 c, .int .i64 n0, .int .i64 n1, .int .i64 n2, .int .i64 n3, .int .i64 n4]] w fun e w' => e = .returned (.bool true) ∧ Below w.heap.size w w' := by
  have K := Lib.hid (fun W => eqArp_t n0 n1 n2 n3 n4 W)
  have hcc : (c != c) = false := by simp
  go_enter Try.func36, Try.ntmps36
  go_wp2_with fail
  refine (K.out _).mono ?_
  rintro e w1 ⟨rfl, b1⟩
  go_wp2
  go_ret
  exact ⟨rfl, (((Below.refl _ _).alloc (Nat.le_refl _) _).alloc (by simp) _).trans (b1.mono (by simp; omega))⟩

set_option maxHeartbeats 1000000 in
theorem exactReadArp (a : Option Addr) (len cap : Nat) (zs : List Int) (c n0 n1 n2 n3 n4 : Int) (w : World) (h : Rd w a len cap zs)
    (hS : ∀ (a' : Option Addr) (l' c' : Nat) (W : World), Rd W a' l' c' zs → Calls Try.prog 34 #[.slice a' l' c'] W (ArpRes W c n0 n1 n2 n3 n4))
    (hI : ∀ (a' : Option Addr) (l' c' : Nat) (W : World), Rd W a' l' c' zs → Calls Try.prog 35 #[.slice a' l' c'] W (ArpRes W c n0 n1 n2 n3 n4)) :
    Calls Try.prog 8 #[.slice a len cap] w fun e w' => e = .returned (.bool true) ∧ Below w.heap.size w w' := by
  by_cases hbig : len ≤ 1048576
  · have K1 := Lib.hid hS
    have K2 := Lib.hid hI
    have T := Lib.hid (fun W (hW : Below w.heap.size w W) => toByteS_any a len cap zs W (h.below hW) hbig)
    clear hS hI
    go_enter Try.func8, Try.ntmps8
    go_wp2_with fail
    refine (T.out _ (Below.refl _ _)).mono ?_
    rintro e w1 ⟨rfl, o1, b1⟩
    have B1 := Lib.hid b1
    clear b1
    go_wp2_with fail
    refine (K1.out _ _ _ _ o1.rd).mono ?_
    rintro e w2 ⟨rfl, b2⟩
    have B2 : Hid (Below w.heap.size w (w2.alloc (.cells #[.int .i64 c, .int .i64 n0, .int .i64 n1, .int .i64 n2, .int .i64 n3, .int .i64 n4] 54))) := (B1.out.trans (b2.mono B1.out.size)).alloc (Nat.le_trans B1.out.size b2.size) _
    clear b2
    have x1 := Box.new w2 54 #[.int .i64 c, .int .i64 n0, .int .i64 n1, .int .i64 n2, .int .i64 n3, .int .i64 n4]
    generalize hW2 : w2.alloc (.cells #[.int .i64 c, .int .i64 n0, .int .i64 n1, .int .i64 n2, .int .i64 n3, .int .i64 n4] 54) = W2 at *
    go_wp2_with fail
    refine (T.out _ B2.out).mono ?_
    rintro e w3 ⟨rfl, o3, b3⟩
    have B3 : Hid (Below w.heap.size w w3) := B2.out.trans (b3.mono B2.out.size)
    have x1 := x1.below b3 x1.lt
    clear b3 hW2
    go_wp2_with fail
    refine (K2.out _ _ _ _ o3.rd).mono ?_
    rintro e w4 ⟨rfl, b4⟩
    have B4 : Hid (Below w.heap.size w (w4.alloc (.cells #[.int .i64 c, .int .i64 n0, .int .i64 n1, .int .i64 n2, .int .i64 n3, .int .i64 n4] 54))) := (B3.out.trans (b4.mono B3.out.size)).alloc (Nat.le_trans B3.out.size b4.size) _
    have o4 := (o3.below b4).alloc (.cells #[.int .i64 c, .int .i64 n0, .int .i64 n1, .int .i64 n2, .int .i64 n3, .int .i64 n4] 54)
    obtain ⟨hz, c0, c1, c2, c3, c4, c5⟩ := (x1.below b4 x1.lt).six
    clear b4
    go_wp2_with fail
    refine (eqArpR_t _ _ _ _ _ _ _).mono ?_
    rintro e w5 ⟨rfl, b5⟩
    have B5 : Hid (Below w.heap.size w w5) := B4.out.trans (b5.mono B4.out.size)
    have o5 := o4.below b5
    clear b5 hz c0 c1
    go_wp2_with fail
    refine (T.out _ B5.out).mono ?_
    rintro e w6 ⟨rfl, o6, b6⟩
    have B6 : Hid (Below w.heap.size w w6) := B5.out.trans (b6.mono B5.out.size)
    have o7 := o5.below b6
    have hq : eqL zs zs = true := decide_eq_true rfl
    clear b6
    go_wp2_with fail
    refine (eqByteS_any _ _ _ _ _ _ zs zs _ o7.rd o6.rd).mono ?_
    rintro e w7 ⟨rfl, b7⟩
    have B7 : Hid (Below w.heap.size w w7) := B6.out.trans (b7.mono B6.out.size)
    clear b7
    go_wp2
    go_ret
    exact ⟨rfl, B7.out⟩
  · go_enter Try.func8, Try.ntmps8
    go_wp2
    go_ret
    exact ⟨rfl, Below.refl _ _⟩

theorem readArp_law (a : Option Addr) (len cap : Nat) (zs : List Int) (w : World) (h : Rd w a len cap zs) :
    Calls Try.prog 8 #[.slice a len cap] w fun e w' => e = .returned (.bool true) ∧ Below w.heap.size w w' := by
  have hl := h.length
  cases hk : raOk len with
  | true =>
    cases hg : eqL (arpP (rdTo zs 6 2) (rdTo zs 8 6) (rdTo zs 14 4) (rdTo zs 18 6) (rdTo zs 24 4)) (zs.take 28) with
    | true =>
      refine exactReadArp a len cap zs 0 (rdTo zs 6 2) (rdTo zs 8 6) (rdTo zs 14 4) (rdTo zs 18 6) (rdTo zs 24 4) w h (fun a' l' c' W hW => ?_) (fun a' l' c' W hW => ?_)
      · exact specReadArp_ok a' l' c' zs _ _ _ _ _ W hW (by rw [← hW.length, hl]; exact hk) rfl rfl rfl rfl rfl true hg _ _ _ _ _ _ (.inl ⟨rfl, rfl, rfl, rfl, rfl, rfl, rfl⟩)
      · exact implReadArp_ok a' l' c' zs _ _ _ _ _ W hW (by rw [← hW.length, hl]; exact hk) rfl rfl rfl rfl rfl true hg _ _ _ _ _ _ (.inl ⟨rfl, rfl, rfl, rfl, rfl, rfl, rfl⟩)
    | false =>
      refine exactReadArp a len cap zs 1 0 0 0 0 0 w h (fun a' l' c' W hW => ?_) (fun a' l' c' W hW => ?_)
      · exact specReadArp_ok a' l' c' zs _ _ _ _ _ W hW (by rw [← hW.length, hl]; exact hk) rfl rfl rfl rfl rfl false hg _ _ _ _ _ _ (.inr ⟨rfl, rfl, rfl, rfl, rfl, rfl, rfl⟩)
      · exact implReadArp_ok a' l' c' zs _ _ _ _ _ W hW (by rw [← hW.length, hl]; exact hk) rfl rfl rfl rfl rfl false hg _ _ _ _ _ _ (.inr ⟨rfl, rfl, rfl, rfl, rfl, rfl, rfl⟩)
  | false =>
    refine exactReadArp a len cap zs 2 0 0 0 0 0 w h (fun a' l' c' W hW => ?_) (fun a' l' c' W hW => ?_)
    · exact specReadArp_no a' l' c' W (by rw [← hW.length, hl]; exact hk)
    · exact implReadArp_no a' l' c' W (by rw [← hW.length, hl]; exact hk)
end Go.Proofs.Ytkneicepflkfhaa
