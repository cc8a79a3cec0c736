/-
  The law FnHops.
-/
import Derived.Test.YtfdfkcbighbfmaaN7D
import Derived.Test.YtfdfkcbighbfmaaP6CL
import Derived.Deep.RegionHeld3
import Derived.Laws.StructEq
namespace Go.Proofs.Ytfdfkcbighbfmaa
open Go.ChangeShapes Go.WideShapes Go.ChangeAt Go.RowKit

theorem hop_self {r bits gw : Int} (h : rtB r bits gw = true) : hopC r bits gw r = 0 ∧ hopV r bits gw r = r := by
  have h0 := h
  unfold rtB at h
  simp only [Bool.and_eq_true] at h
  have hi : ipB r = true := h.1.1
  have hn : nearB r bits r = true := by unfold nearB; exact decide_eq_true rfl
  unfold hopC hopV
  rw [h0, hi, hn]
  exact ⟨rfl, rfl⟩
theorem hop_cases (r bits gw ip : Int) : hopC r bits gw ip ≠ 0 ∨ hopV r bits gw ip = ip ∨ (hopV r bits gw ip = gw ∧ gw ≠ 0) := by
  unfold hopC hopV
  cases rtB r bits gw
  · left; simp
  · cases ipB ip
    · left; simp
    · cases nearB r bits ip
      · by_cases hg : gw = 0
        · left; simp [hg]
        · right; right; simp [hg]
      · right; left; simp

set_option maxRecDepth 20000 in
set_option maxHeartbeats 4000000 in
theorem hops_law (a : Option Addr) (len cap : Nat) (zs : List Int) (w : World) (hr : Rd w a len cap zs) :
    Calls Try.prog 5 #[.slice a len cap] w fun e w' => e = .returned (.bool true) ∧ Below w.heap.size w w' := by
  by_cases hl : len ≤ 1048576
  case neg =>
    go_enter Try.func5, Try.ntmps5
    go_wp2_with fail
    refine (lwBig6_t a len cap w hl).mono ?_
    rintro e w1 ⟨rfl, rfl⟩
    go_wp2
    go_ret
    exact ⟨rfl, Below.refl _ _⟩
  have KB := Lib.hid (lwBig6_f a len cap w hl)
  have KD := Lib.hid (drawNextHop a len cap zs w hr hl)
  clear hr
  go_enter Try.func5, Try.ntmps5
  go_wp2_with fail
  refine KB.out.mono ?_
  rintro e w1 ⟨rfl, rfl⟩
  go_wp2_with fail
  refine KD.out.mono ?_
  rintro e w1 ⟨r, bits, gw, ip, rfl, b1⟩
  have B1 := Lib.hid (b1.alloc b1.size (.cells #[.int .i64 r, .int .i64 bits, .int .i64 gw] 59))
  have X1 := Lib.hid (Box.new w1 59 #[.int .i64 r, .int .i64 bits, .int .i64 gw])
  clear KB KD b1
  obtain ⟨C, hC⟩ : ∃ C, C = hopC r bits gw ip := ⟨_, rfl⟩
  obtain ⟨V, hV⟩ : ∃ V, V = hopV r bits gw ip := ⟨_, rfl⟩
  have KI := Lib.hid (show ∀ W, Calls Try.prog 44 #[.agg #[.int .i64 r, .int .i64 bits, .int .i64 gw], .int .i64 ip] W fun e w' => e = .returned (.agg #[.int .i64 C, .int .i64 V]) ∧ Below W.heap.size W w' from fun W => by rw [hC, hV]; exact implNextHop r bits gw ip W)
  have KS := Lib.hid (show ∀ W, Calls Try.prog 45 #[.agg #[.int .i64 r, .int .i64 bits, .int .i64 gw], .int .i64 ip] W fun e w' => e = .returned (.agg #[.int .i64 C, .int .i64 V]) ∧ Below W.heap.size W w' from fun W => by rw [hC, hV]; exact specNextHop r bits gw ip W)
  have HE : Hid (C ≠ 0 ∨ V = ip ∨ (V = gw ∧ gw ≠ 0)) := by rw [hC, hV]; exact hop_cases r bits gw ip
  obtain ⟨F, hF⟩ : ∃ F, F = rtC r bits gw := ⟨_, rfl⟩
  have RI := Lib.hid (show ∀ W, Calls Try.prog 46 #[.agg #[.int .i64 r, .int .i64 bits, .int .i64 gw]] W fun e w' => e = .returned (.int .i64 F) ∧ Below W.heap.size W w' from fun W => by rw [hF]; exact implRouteFault r bits gw W)
  have RS := Lib.hid (show ∀ W, Calls Try.prog 47 #[.agg #[.int .i64 r, .int .i64 bits, .int .i64 gw]] W fun e w' => e = .returned (.int .i64 F) ∧ Below W.heap.size W w' from fun W => by rw [hF]; exact specRouteFault r bits gw W)
  have KR := Lib.hid (show F = 0 → ∀ W, Calls Try.prog 44 #[.agg #[.int .i64 r, .int .i64 bits, .int .i64 gw], .int .i64 r] W fun e w' => e = .returned (.agg #[.int .i64 0, .int .i64 r]) ∧ Below W.heap.size W w' from fun h W => by
    have hb : rtB r bits gw = true := by
      rw [hF] at h; unfold rtC at h
      split at h
      · assumption
      · omega
    have := implNextHop r bits gw r W
    rwa [(hop_self hb).1, (hop_self hb).2] at this)
  have HF3 : Hid (F = 0 ∨ F = 3) := by
    rw [hF]; unfold rtC
    split
    · exact .inl rfl
    · exact .inr rfl
  clear hC hV hF
  go_wp2_with fail
  generalize w1.alloc (.cells #[.int .i64 r, .int .i64 bits, .int .i64 gw] 59) = W1 at *
  refine (KI.out _).mono ?_
  rintro e w2 ⟨rfl, b2⟩
  have B2 := Lib.hid ((B1.out.trans (b2.mono B1.out.size)).alloc (Nat.le_trans B1.out.size b2.size) (.cells #[.int .i64 C, .int .i64 V] 37))
  have X2 := Lib.hid ((X1.out.below b2 X1.out.lt).alloc (.cells #[.int .i64 C, .int .i64 V] 37))
  have Y2 := Lib.hid (Box.new w2 37 #[.int .i64 C, .int .i64 V])
  clear b2 B1 X1
  go_wp2_with fail
  generalize w2.alloc (.cells #[.int .i64 C, .int .i64 V] 37) = W2 at *
  obtain ⟨_, x0, x1, x2⟩ := X2.out.r3
  obtain ⟨_, y0, y1⟩ := Y2.out.two
  have hCC : (C == C) = true := by simp
  have hVV : (V == V) = true := by simp
  have hFF : (F != F) = false := by simp
  go_region_held3 (fun W => W.cell? ⟨w1.heap.size, 0, none⟩ = some (.int .i64 r) ∧ W.cell? ⟨w1.heap.size, 1, none⟩ = some (.int .i64 bits) ∧ W.cell? ⟨w1.heap.size, 2, none⟩ = some (.int .i64 gw) ∧ W.cell? ⟨w2.heap.size, 0, none⟩ = some (.int .i64 C) ∧ W.cell? ⟨w2.heap.size, 1, none⟩ = some (.int .i64 V))
    (first | go_keep | (go_split_ands; exact ⟨keepK hb (by assumption), keepK hb (by assumption), keepK hb (by assumption), keepK hb (by assumption), keepK hb (by assumption)⟩))
    (first
      | (have q := M5; clear q; go_at_call 47; refine (RS.out _).mono ?_; rintro e w6 ⟨rfl, b6⟩; have hb := b6)
      | (have q := M4; clear q; go_at_call 46; refine (RI.out _).mono ?_; rintro e w5 ⟨rfl, b5⟩; have hb := b5; have M5 : Hid True := trivial)
      | (go_at_call 45; refine (KS.out _).mono ?_; rintro e w4 ⟨rfl, b4⟩; have hb := b4; have M4 : Hid True := trivial))
  have B6 := Lib.hid (((B2.out.drew.trans (b4.mono B2.out.drew.size)).trans (b5.mono (B2.out.drew.trans (b4.mono B2.out.drew.size)).size)).trans (b6.mono ((B2.out.drew.trans (b4.mono B2.out.drew.size)).trans (b5.mono (B2.out.drew.trans (b4.mono B2.out.drew.size)).size)).size))
  rename_i hS6
  obtain ⟨z0, z1, z2, z3, z4⟩ := hS6
  clear hb b4 b5 b6 M4 M5 X2 Y2 x0 x1 x2 y0 y1 B2 KI KS RS
  have hrr : (r == r) = true := by simp
  rcases HF3.out with rfl | rfl
  · have KR0 := Lib.hid (KR.out rfl)
    clear KR
    go_wp2_with fail
    go_region_held3 (fun W => W.cell? ⟨w1.heap.size, 0, none⟩ = some (.int .i64 r) ∧ W.cell? ⟨w1.heap.size, 1, none⟩ = some (.int .i64 bits) ∧ W.cell? ⟨w1.heap.size, 2, none⟩ = some (.int .i64 gw) ∧ W.cell? ⟨w2.heap.size, 0, none⟩ = some (.int .i64 C) ∧ W.cell? ⟨w2.heap.size, 1, none⟩ = some (.int .i64 V))
      (first | go_keep | (go_split_ands; exact ⟨keepK hb (by assumption), keepK hb (by assumption), keepK hb (by assumption), keepK hb (by assumption), keepK hb (by assumption)⟩))
      (first
        | (have q := M7; clear q; go_at_call 44; refine (KR0.out _).mono ?_; rintro e w8 ⟨rfl, b8⟩; have hb := b8)
        | (go_at_call 46; refine (RI.out _).mono ?_; rintro e w7 ⟨rfl, b7⟩; have hb := b7; have M7 : Hid True := trivial))
    have BB := Lib.hid ((B6.out.drew.trans (b7.mono B6.out.drew.size)).trans (b8.mono (B6.out.drew.trans (b7.mono B6.out.drew.size)).size))
    rename_i hS8
    obtain ⟨q0, q1, q2, q3, q4⟩ := hS8
    clear hb b7 b8 M7 z0 z1 z2 z3 z4 B6 RI KR0
    rcases Decidable.em (C = 0) with rfl | hC
    · rcases Decidable.em (V = ip) with rfl | hV
      · go_wp2
        go_ret
        exact ⟨rfl, BB.out⟩
      · have hE := HE.out
        have h1 : V = gw := by rcases hE with h | h | h; exact absurd rfl h; exact absurd h hV; exact h.1
        have h2 : (gw != 0) = true := by rcases hE with h | h | h; exact absurd rfl h; exact absurd h hV; simpa using h.2
        subst h1
        go_wp2
        go_ret
        exact ⟨rfl, BB.out⟩
    · go_wp2
      go_ret
      exact ⟨rfl, BB.out⟩
  · clear KR
    go_wp2_with fail
    refine wp_region_held_drew (S := (fun W => W.cell? ⟨w1.heap.size, 0, none⟩ = some (.int .i64 r) ∧ W.cell? ⟨w1.heap.size, 1, none⟩ = some (.int .i64 bits) ∧ W.cell? ⟨w1.heap.size, 2, none⟩ = some (.int .i64 gw) ∧ W.cell? ⟨w2.heap.size, 0, none⟩ = some (.int .i64 C) ∧ W.cell? ⟨w2.heap.size, 1, none⟩ = some (.int .i64 V))) (by kernel_rfl) ⟨z0, z1, z2, z3, z4⟩ (fun hHeld => ?_)
    refine wpAnyH_take (i := 0) (v := ?_) (by simp only [List.getElem?_toArray, List.getElem?_cons_zero]; exact rfl) (by kernel_rfl) (by kernel_rfl) (by kernel_rfl) (by exact fun _ _ _ h => h) (Or.inl ⟨by rfl, ?_⟩) hHeld ?_
    rotate_left
    · intro w' hSw
      obtain ⟨s0, s1, s2, s3, s4⟩ := hSw
      go_simp
      try with_reducible rfl
    try simp only [Act.put, List.setIfInBounds_toArray, List.set_cons_zero, List.set_cons_succ]
    refine wpAnyH_ready (rs := [1]) (by kernel_rfl) (by simp) ?_
    refine AllReadyH.cons (by simp only [List.getElem?_toArray, List.getElem?_cons_zero, List.getElem?_cons_succ]; exact rfl) (fun K hK => ?_) AllReadyH.nil
    go_wp2_with fail
    refine (RI.out _).mono ?_
    rintro e w7 ⟨rfl, b7⟩
    go_wp2_with fail
    refine hK.out _ _ ⟨keepK b7 z0, keepK b7 z1, keepK b7 z2, keepK b7 z3, keepK b7 z4⟩ (fun hHeld => ?_)
    clear hK K
    try simp only [Act.put, List.setIfInBounds_toArray, List.set_cons_zero, List.set_cons_succ]
    refine wpAnyH_take (i := 2) (v := ?_) (by simp only [List.getElem?_toArray, List.getElem?_cons_zero, List.getElem?_cons_succ]; exact rfl) (by kernel_rfl) (by kernel_rfl) (by kernel_rfl) (by exact fun _ _ _ h => h) (Or.inl ⟨by rfl, ?_⟩) hHeld ?_
    rotate_left
    · intro w' hSw
      obtain ⟨s0, s1, s2, s3, s4⟩ := hSw
      go_simp
      try with_reducible rfl
    try simp only [Act.put, List.setIfInBounds_toArray, List.set_cons_zero, List.set_cons_succ]
    refine wpAnyH_take (i := 3) (v := ?_) (by simp only [List.getElem?_toArray, List.getElem?_cons_zero, List.getElem?_cons_succ]; exact rfl) (by kernel_rfl) (by kernel_rfl) (by kernel_rfl) (by exact fun _ _ _ h => h) (Or.inl ⟨by rfl, ?_⟩) hHeld ?_
    rotate_left
    · intro w' hSw
      obtain ⟨s0, s1, s2, s3, s4⟩ := hSw
      go_simp
      try with_reducible rfl
    try simp only [Act.put, List.setIfInBounds_toArray, List.set_cons_zero, List.set_cons_succ]
    refine wpAnyH_take (i := 4) (v := undef) (by simp only [List.getElem?_toArray, List.getElem?_cons_zero, List.getElem?_cons_succ]; exact rfl) (by kernel_rfl) (by kernel_rfl) (by kernel_rfl) (by exact fun _ _ _ h => h) (Or.inr ⟨by rfl, rfl⟩) hHeld ?_
    try simp only [Act.put, List.setIfInBounds_toArray, List.set_cons_zero, List.set_cons_succ]
    refine wpAnyH_take (i := 5) (v := undef) (by simp only [List.getElem?_toArray, List.getElem?_cons_zero, List.getElem?_cons_succ]; exact rfl) (by kernel_rfl) (by kernel_rfl) (by kernel_rfl) (by exact fun _ _ _ h => h) (Or.inr ⟨by rfl, rfl⟩) hHeld ?_
    try simp only [Act.put, List.setIfInBounds_toArray, List.set_cons_zero, List.set_cons_succ]
    refine wpAnyH_take (i := 6) (v := undef) (by simp only [List.getElem?_toArray, List.getElem?_cons_zero, List.getElem?_cons_succ]; exact rfl) (by kernel_rfl) (by kernel_rfl) (by kernel_rfl) (by exact fun _ _ _ h => h) (Or.inr ⟨by rfl, rfl⟩) hHeld ?_
    try simp only [Act.put, List.setIfInBounds_toArray, List.set_cons_zero, List.set_cons_succ]
    refine wpAnyH_take (i := 7) (v := undef) (by simp only [List.getElem?_toArray, List.getElem?_cons_zero, List.getElem?_cons_succ]; exact rfl) (by kernel_rfl) (by kernel_rfl) (by kernel_rfl) (by exact fun _ _ _ h => h) (Or.inr ⟨by rfl, rfl⟩) hHeld ?_
    try simp only [Act.put, List.setIfInBounds_toArray, List.set_cons_zero, List.set_cons_succ]
    refine wpAnyH_take (i := 8) (v := undef) (by simp only [List.getElem?_toArray, List.getElem?_cons_zero, List.getElem?_cons_succ]; exact rfl) (by kernel_rfl) (by kernel_rfl) (by kernel_rfl) (by exact fun _ _ _ h => h) (Or.inr ⟨by rfl, rfl⟩) hHeld ?_
    try simp only [Act.put, List.setIfInBounds_toArray, List.set_cons_zero, List.set_cons_succ]
    refine wpAnyH_take (i := 9) (v := undef) (by simp only [List.getElem?_toArray, List.getElem?_cons_zero, List.getElem?_cons_succ]; exact rfl) (by kernel_rfl) (by kernel_rfl) (by kernel_rfl) (by exact fun _ _ _ h => h) (Or.inr ⟨by rfl, rfl⟩) hHeld ?_
    try simp only [Act.put, List.setIfInBounds_toArray, List.set_cons_zero, List.set_cons_succ]
    refine wpAnyH_take (i := 10) (v := undef) (by simp only [List.getElem?_toArray, List.getElem?_cons_zero, List.getElem?_cons_succ]; exact rfl) (by kernel_rfl) (by kernel_rfl) (by kernel_rfl) (by exact fun _ _ _ h => h) (Or.inr ⟨by rfl, rfl⟩) hHeld ?_
    try simp only [Act.put, List.setIfInBounds_toArray, List.set_cons_zero, List.set_cons_succ]
    refine wpAnyH_take (i := 11) (v := undef) (by simp only [List.getElem?_toArray, List.getElem?_cons_zero, List.getElem?_cons_succ]; exact rfl) (by kernel_rfl) (by kernel_rfl) (by kernel_rfl) (by exact fun _ _ _ h => h) (Or.inr ⟨by rfl, rfl⟩) hHeld ?_
    try simp only [Act.put, List.setIfInBounds_toArray, List.set_cons_zero, List.set_cons_succ]
    refine wpAnyH_take (i := 12) (v := ?_) (by simp only [List.getElem?_toArray, List.getElem?_cons_zero, List.getElem?_cons_succ]; exact rfl) (by kernel_rfl) (by kernel_rfl) (by kernel_rfl) (by exact fun _ _ _ h => h) (Or.inl ⟨by rfl, ?_⟩) hHeld ?_
    rotate_left
    · intro w' hSw
      obtain ⟨s0, s1, s2, s3, s4⟩ := hSw
      go_simp
      try with_reducible rfl
    try simp only [Act.put, List.setIfInBounds_toArray, List.set_cons_zero, List.set_cons_succ]
    refine wpAnyH_done (by kernel_rfl) ?_ _
    have hS8 := hHeld
    have BB := Lib.hid (B6.out.drew.trans (b7.mono B6.out.drew.size))
    obtain ⟨q0, q1, q2, q3, q4⟩ := hS8
    clear b7 z0 z1 z2 z3 z4 B6 RI
    rcases Decidable.em (C = 0) with rfl | hC
    · rcases Decidable.em (V = ip) with rfl | hV
      · go_wp2
        go_ret
        exact ⟨rfl, BB.out⟩
      · have hE := HE.out
        have h1 : V = gw := by rcases hE with h | h | h; exact absurd rfl h; exact absurd h hV; exact h.1
        have h2 : (gw != 0) = true := by rcases hE with h | h | h; exact absurd rfl h; exact absurd h hV; simpa using h.2
        subst h1
        go_wp2
        go_ret
        exact ⟨rfl, BB.out⟩
    · go_wp2
      go_ret
      exact ⟨rfl, BB.out⟩
end Go.Proofs.Ytfdfkcbighbfmaa
