/-
  PackFrame of the program.
-/
import Derived.Test.YtkneicepflkfhaaArrR
import Derived.Test.YtkneicepflkfhaaImFlt
import Derived.Test.YtkneicepflkfhaaExFrmP
import Derived.Deep.DeepCutAuto
namespace Go.Proofs.Ytkneicepflkfhaa
open Go.ChangeShapes Go.WideShapes Go.ChangeAt Go.RowKit

theorem kCall {w0 W w' : World} {n : Nat} (hb : Below W.heap.size W w') (hn : n ≤ W.heap.size) (h : Hid (Below n w0 W)) : Hid (Below n w0 w') := h.out.trans (hb.mono hn)
theorem kAlloc {w0 W : World} {n : Nat} {o : Obj} (hn : n ≤ W.heap.size) (h : Hid (Below n w0 W)) : Hid (Below n w0 (W.alloc o)) := h.out.alloc hn o
theorem kDrew {w0 W : World} {n : Nat} (h : Hid (Below n w0 W)) : Hid (Below n w0 W.drew) := h.out.drew
theorem kSet {w0 W : World} {n : Nat} {p : Addr} {u : Value} (hp : n ≤ p.block) (h : Hid (Below n w0 W)) : Hid (Below n w0 (W.setCell p u)) := h.out.setCell hp u
theorem kGrown {w0 W w' : World} {b : Nat} (hg : W.grownBy w' (some b)) (h : Hid (Below w0.heap.size w0 W)) (hb : w0.heap.size ≤ b) : Hid (Below w0.heap.size w0 w') := h.out.grown hg h.out.size (fun k e => by cases e; exact hb)
theorem kSize {w0 W : World} (h : Hid (Below w0.heap.size w0 W)) : w0.heap.size ≤ W.heap.size := h.out.size

theorem box_after {W w' : World} {vs : Array Value} {t : TypeId} (hb : Below (W.alloc (.cells vs t)).heap.size (W.alloc (.cells vs t)) w') : Box w' W.heap.size t vs := (Box.new W t vs).below hb (Box.new W t vs).lt

theorem Box.c14 {w : World} {b : Nat} {t : TypeId} {x0 x1 x2 x3 x4 x5 x6 x7 x8 x9 x10 x11 x12 x13 : Value} (h : Box w b t #[x0, x1, x2, x3, x4, x5, x6, x7, x8, x9, x10, x11, x12, x13]) : w.cell? ⟨b, 0, none⟩ = some x0 ∧ w.cell? ⟨b, 1, none⟩ = some x1 ∧ w.cell? ⟨b, 2, none⟩ = some x2 ∧ w.cell? ⟨b, 3, none⟩ = some x3 ∧ w.cell? ⟨b, 4, none⟩ = some x4 ∧ w.cell? ⟨b, 5, none⟩ = some x5 ∧ w.cell? ⟨b, 6, none⟩ = some x6 ∧ w.cell? ⟨b, 7, none⟩ = some x7 ∧ w.cell? ⟨b, 8, none⟩ = some x8 ∧ w.cell? ⟨b, 9, none⟩ = some x9 ∧ w.cell? ⟨b, 10, none⟩ = some x10 ∧ w.cell? ⟨b, 11, none⟩ = some x11 ∧ w.cell? ⟨b, 12, none⟩ = some x12 ∧ w.cell? ⟨b, 13, none⟩ = some x13 := ⟨h.cell 0, h.cell 1, h.cell 2, h.cell 3, h.cell 4, h.cell 5, h.cell 6, h.cell 7, h.cell 8, h.cell 9, h.cell 10, h.cell 11, h.cell 12, h.cell 13⟩
theorem want_none {o : Oper} {y : Nat → Option Bool} {A B : Prop} (h : o.guard = none) (hA : A) : if Region.wanted o y = true then A else B := by
  rw [if_pos (by simp [Region.wanted, h])]
  exact hA

theorem be6 (n : Int) : ∃ y0 y1 y2 y3 y4 y5, be n 6 = [y0, y1, y2, y3, y4, y5] := ⟨_, _, _, _, _, _, rfl⟩

theorem frameC_kd {tq fr kd : Int} {n : Nat} (h : frameC tq fr kd n = 0) : 0 ≤ kd ∧ kd < 65536 := by
  unfold frameC at h
  split at h
  · rename_i hk
    simp only [frameB, inB, Bool.and_eq_true, decide_eq_true_eq] at hk
    omega
  · omega

set_option maxRecDepth 20000 in
set_option maxHeartbeats 2000000 in
theorem implPackFrame_ok (tq fr kd : Int) (a : Option Addr) (len cap : Nat) (zs : List Int) (w : World) (hr : Rd w a len cap zs) (hk : frameC tq fr kd len = 0) :
    Calls Try.prog 16 #[.agg #[.int .i64 tq, .int .i64 fr, .int .i64 kd, .slice a len cap]] w (Packed w 0 (frameL tq fr kd zs)) := by
  obtain ⟨h0, h1, h2, h3⟩ := frameC_parts hk
  have hkd := frameC_kd hk
  obtain ⟨y0, y1, y2, y3, y4, y5, hy⟩ := be6 tq
  obtain ⟨z0, z1, z2, z3, z4, z5, hz⟩ := be6 fr
  have S := Lib.hid (fun W => implFrameFault tq fr kd a len cap W)
  rw [hk] at S
  have K0 := Lib.hid (fun W => macOf_any tq y0 y1 y2 y3 y4 y5 W h0 hy)
  have K1 := Lib.hid (fun W => macOf_any fr z0 z1 z2 z3 z4 z5 W h1 hz)
  have KH := Lib.hid (fun W => packHead_any y0 y1 y2 y3 y4 y5 z0 z1 z2 z3 z4 z5 kd W (b8_6 hy) (b8_6 hz) hkd)
  have HR := Lib.hid hr
  obtain ⟨L, hL⟩ : ∃ L, L = frameL tq fr kd zs := ⟨_, rfl⟩
  have HL : Hid (L = ([y0, y1, y2, y3, y4, y5] ++ ([z0, z1, z2, z3, z4, z5] ++ be kd 2)) ++ zs) := by rw [hL, frameL, hy, hz]; simp [Hid]
  rw [← hL]
  have B0 := Lib.hid (((Below.refl w.heap.size w).alloc (Nat.le_refl _) (.cells #[.int .i64 tq, .int .i64 fr, .int .i64 kd, .slice a len cap] 27)).alloc (by simp) (.cells #[.int .i64 0, .slice none 0 0] 32))
  have X0 := Lib.hid ((Box.new w 27 #[.int .i64 tq, .int .i64 fr, .int .i64 kd, .slice a len cap]).alloc (.cells #[.int .i64 0, .slice none 0 0] 32))
  have R0 := Lib.hid (Box.new (w.alloc (.cells #[.int .i64 tq, .int .i64 fr, .int .i64 kd, .slice a len cap] 27)) 32 #[.int .i64 0, .slice none 0 0])
  simp only [World.size_alloc] at R0
  clear hL h0 h1 h2 hkd hy hz hr hk
  go_enter Try.func16, Try.ntmps16
  go_wp2_with fail
  refine (S.out _).mono ?_
  rintro e w1 ⟨rfl, b1⟩
  have X1 := Lib.hid (X0.out.below b1 X0.out.lt)
  have R1 := Lib.hid (R0.out.below b1 R0.out.lt)
  have B1 := Lib.hid (B0.out.trans (b1.mono B0.out.size))
  clear b1 X0 R0 B0
  have SS := Lib.hid (show ∀ W, Hid (Below w1.heap.size w1 W) → W.cell? ⟨w.heap.size, 0, none⟩ = some (.int .i64 tq) ∧ W.cell? ⟨w.heap.size, 1, none⟩ = some (.int .i64 fr) ∧ W.cell? ⟨w.heap.size, 2, none⟩ = some (.int .i64 kd) ∧ Hid (Below w1.heap.size w1 W) from fun W h => by
    obtain ⟨_, x0, x1, x2, _⟩ := (X1.out.below h.out X1.out.lt).four
    exact ⟨x0, x1, x2, h⟩)
  have T1 := Lib.hid (Below.refl w1.heap.size w1)
  go_upto_region 4 with (fail)
  go_cut [4] (fun v wx => ∃ b4, v = .pointer (some ⟨b4, 0, none⟩) ∧ Hid (Box wx b4 66 #[.int .u8 y0, .int .u8 y1, .int .u8 y2, .int .u8 y3, .int .u8 y4, .int .u8 y5, .int .u8 z0, .int .u8 z1, .int .u8 z2, .int .u8 z3, .int .u8 z4, .int .u8 z5, .int .i64 kd]) ∧ Hid (Below w1.heap.size w1 wx) ∧ Hid (w1.heap.size ≤ b4))
  case first =>
    have TD := kDrew T1
    refine wp_region_held_drew (S := fun W => W.cell? ⟨w.heap.size, 0, none⟩ = some (.int .i64 tq) ∧ W.cell? ⟨w.heap.size, 1, none⟩ = some (.int .i64 fr) ∧ W.cell? ⟨w.heap.size, 2, none⟩ = some (.int .i64 kd) ∧ Hid (Below w1.heap.size w1 W)) (by kernel_rfl) (SS.out _ TD) (fun hHeld => ?_)
    refine wpAnyH_take (i := 0) (v := ?_) (by simp only [List.getElem?_toArray, List.getElem?_cons_zero]; exact rfl) (by kernel_rfl) (by kernel_rfl) (by kernel_rfl) (by exact fun _ _ _ h => h) (Or.inl ⟨by rfl, ?_⟩) hHeld ?_
    rotate_left
    · intro w' hSw
      obtain ⟨s0, s1, s2, _⟩ := hSw
      go_simp
      try with_reducible rfl
    try simp only [Act.put, List.setIfInBounds_toArray, List.set_cons_zero, List.set_cons_succ]
    refine wpAnyH_take (i := 1) (v := ?_) (by simp only [List.getElem?_toArray, List.getElem?_cons_zero, List.getElem?_cons_succ]; exact rfl) (by kernel_rfl) (by kernel_rfl) (by kernel_rfl) (by exact fun _ _ _ h => h) (Or.inl ⟨by rfl, ?_⟩) hHeld ?_
    rotate_left
    · intro w' hSw
      obtain ⟨s0, s1, s2, _⟩ := hSw
      go_simp
      try with_reducible rfl
    try simp only [Act.put, List.setIfInBounds_toArray, List.set_cons_zero, List.set_cons_succ]
    refine wpAnyH_take (i := 3) (v := ?_) (by simp only [List.getElem?_toArray, List.getElem?_cons_zero, List.getElem?_cons_succ]; exact rfl) (by kernel_rfl) (by kernel_rfl) (by kernel_rfl) (by exact fun _ _ _ h => h) (Or.inl ⟨by rfl, ?_⟩) hHeld ?_
    rotate_left
    · intro w' hSw
      obtain ⟨s0, s1, s2, _⟩ := hSw
      go_simp
      try with_reducible rfl
    try simp only [Act.put, List.setIfInBounds_toArray, List.set_cons_zero, List.set_cons_succ]
    refine wpAnyH_take (i := 4) (v := ?_) (by simp only [List.getElem?_toArray, List.getElem?_cons_zero, List.getElem?_cons_succ]; exact rfl) (by kernel_rfl) (by kernel_rfl) (by kernel_rfl) (by exact fun _ _ _ h => h) (Or.inl ⟨by rfl, ?_⟩) hHeld ?_
    rotate_left
    · intro w' hSw
      obtain ⟨s0, s1, s2, _⟩ := hSw
      go_simp
      try with_reducible rfl
    try simp only [Act.put, List.setIfInBounds_toArray, List.set_cons_zero, List.set_cons_succ]
    refine wpAnyH_take (i := 6) (v := ?_) (by simp only [List.getElem?_toArray, List.getElem?_cons_zero, List.getElem?_cons_succ]; exact rfl) (by kernel_rfl) (by kernel_rfl) (by kernel_rfl) (by exact fun _ _ _ h => h) (Or.inl ⟨by rfl, ?_⟩) hHeld ?_
    rotate_left
    · intro w' hSw
      obtain ⟨s0, s1, s2, _⟩ := hSw
      go_simp
      try with_reducible rfl
    try simp only [Act.put, List.setIfInBounds_toArray, List.set_cons_zero, List.set_cons_succ]
    refine wpAnyH_take (i := 7) (v := ?_) (by simp only [List.getElem?_toArray, List.getElem?_cons_zero, List.getElem?_cons_succ]; exact rfl) (by kernel_rfl) (by kernel_rfl) (by kernel_rfl) (by exact fun _ _ _ h => h) (Or.inl ⟨by rfl, ?_⟩) hHeld ?_
    rotate_left
    · intro w' hSw
      obtain ⟨s0, s1, s2, _⟩ := hSw
      go_simp
      try with_reducible rfl
    try simp only [Act.put, List.setIfInBounds_toArray, List.set_cons_zero, List.set_cons_succ]
    refine wpAnyH_ready (rs := [2, 9]) (by kernel_rfl) (by simp) ?_
    refine (AllReadyH.cons (by simp only [List.getElem?_toArray, List.getElem?_cons_zero, List.getElem?_cons_succ]; exact rfl) (fun K hK => ?_) (AllReadyH.cons (by simp only [List.getElem?_toArray, List.getElem?_cons_zero, List.getElem?_cons_succ]; exact rfl) (fun K hK => ?_) AllReadyH.nil))
    · skip
      refine want_none (by exact rfl) ?_
      go_wp2_with fail
      refine (K0.out _).mono ?_
      rintro e w2 ⟨rfl, hb⟩
      have TC0 := kCall hb (kSize TD) TD
      clear hb
      go_wp2_with fail
      refine hK.out _ _ (SS.out _ TC0) (fun hHeld => ?_)
      clear hK K
      try simp only [Act.put, List.setIfInBounds_toArray, List.set_cons_zero, List.set_cons_succ]
      refine wpAnyH_ready (rs := [5, 9]) (by kernel_rfl) (by simp) ?_
      refine (AllReadyH.cons (by simp only [List.getElem?_toArray, List.getElem?_cons_zero, List.getElem?_cons_succ]; exact rfl) (fun K hK => ?_) (AllReadyH.cons (by simp only [List.getElem?_toArray, List.getElem?_cons_zero, List.getElem?_cons_succ]; exact rfl) (fun K hK => ?_) AllReadyH.nil))
      · skip
        refine want_none (by exact rfl) ?_
        go_wp2_with fail
        refine (K1.out _).mono ?_
        rintro e w3 ⟨rfl, hb⟩
        have TC1 := kCall hb (kSize TC0) TC0
        clear hb
        go_wp2_with fail
        refine hK.out _ _ (SS.out _ TC1) (fun hHeld => ?_)
        clear hK K
        try simp only [Act.put, List.setIfInBounds_toArray, List.set_cons_zero, List.set_cons_succ]
        refine wpAnyH_take (i := 8) (v := ?_) (by simp only [List.getElem?_toArray, List.getElem?_cons_zero, List.getElem?_cons_succ]; exact rfl) (by kernel_rfl) (by kernel_rfl) (by kernel_rfl) (by exact fun _ _ _ h => h) (Or.inl ⟨by rfl, ?_⟩) hHeld ?_
        rotate_left
        · intro w' hSw
          obtain ⟨s0, s1, s2, _⟩ := hSw
          go_simp
          try with_reducible rfl
        try simp only [Act.put, List.setIfInBounds_toArray, List.set_cons_zero, List.set_cons_succ]
        refine wpAnyH_ready (rs := [9]) (by kernel_rfl) (by simp) ?_
        refine (AllReadyH.cons (by simp only [List.getElem?_toArray, List.getElem?_cons_zero, List.getElem?_cons_succ]; exact rfl) (fun K hK => ?_) AllReadyH.nil)
        refine want_none (by exact rfl) ?_
        go_wp2_with fail
        have ZB := Lib.hid (kSize TC1)
        have TA := kAlloc (o := .cells #[.int .u8 0, .int .u8 0, .int .u8 0, .int .u8 0, .int .u8 0, .int .u8 0, .int .u8 0, .int .u8 0, .int .u8 0, .int .u8 0, .int .u8 0, .int .u8 0, .int .i64 0] 66) (kSize TC1) TC1
        refine hK.out _ _ (SS.out _ TA) (fun hHeld => ?_)
        have Z := Lib.hid (Box.new w3 66 #[.int .u8 0, .int .u8 0, .int .u8 0, .int .u8 0, .int .u8 0, .int .u8 0, .int .u8 0, .int .u8 0, .int .u8 0, .int .u8 0, .int .u8 0, .int .u8 0, .int .i64 0])
        clear hK K
        try simp only [Act.put, List.setIfInBounds_toArray, List.set_cons_zero, List.set_cons_succ]
        refine wpAnyH_ready (rs := [10]) (by kernel_rfl) (by simp) ?_
        refine (AllReadyH.cons (by simp only [List.getElem?_toArray, List.getElem?_cons_zero, List.getElem?_cons_succ]; exact rfl) (fun K hK => ?_) AllReadyH.nil)
        refine storeBox_step _ rfl 66 (.tmp 4) (.tmp 20) rfl _ 66 _ #[.int .u8 y0, .int .u8 y1, .int .u8 y2, .int .u8 y3, .int .u8 y4, .int .u8 y5, .int .u8 z0, .int .u8 z1, .int .u8 z2, .int .u8 z3, .int .u8 z4, .int .u8 z5, .int .i64 kd] Z.out (by exact rfl) (by exact rfl) (by kernel_rfl) (by exact rfl) (by simp [Value.oneCell']) ?_
        intro wS xS gS
        have TS := kGrown gS TA ZB.out
        have ZS := Lib.hid xS
        clear xS gS
        refine hK.out _ _ (SS.out _ TS) (fun hHeld => ?_)
        clear hK K
        simp only [Act.put]
        refine wpAnyH_done (by kernel_rfl) ?_ _
        go_wp2_with fail
        go_meet
        exact ⟨_, rfl, ZS, TS, ZB⟩
      · skip
        refine want_none (by exact rfl) ?_
        go_wp2_with fail
        have ZB := Lib.hid (kSize TC0)
        have TA := kAlloc (o := .cells #[.int .u8 0, .int .u8 0, .int .u8 0, .int .u8 0, .int .u8 0, .int .u8 0, .int .u8 0, .int .u8 0, .int .u8 0, .int .u8 0, .int .u8 0, .int .u8 0, .int .i64 0] 66) (kSize TC0) TC0
        refine hK.out _ _ (SS.out _ TA) (fun hHeld => ?_)
        have Z := Lib.hid (Box.new w2 66 #[.int .u8 0, .int .u8 0, .int .u8 0, .int .u8 0, .int .u8 0, .int .u8 0, .int .u8 0, .int .u8 0, .int .u8 0, .int .u8 0, .int .u8 0, .int .u8 0, .int .i64 0])
        clear hK K
        try simp only [Act.put, List.setIfInBounds_toArray, List.set_cons_zero, List.set_cons_succ]
        refine wpAnyH_ready (rs := [5]) (by kernel_rfl) (by simp) ?_
        refine (AllReadyH.cons (by simp only [List.getElem?_toArray, List.getElem?_cons_zero, List.getElem?_cons_succ]; exact rfl) (fun K hK => ?_) AllReadyH.nil)
        refine want_none (by exact rfl) ?_
        go_wp2_with fail
        refine (K1.out _).mono ?_
        rintro e w3 ⟨rfl, hb⟩
        have TC1 := kCall hb (kSize TA) TA
        have Z := Lib.hid (Z.out.below hb Z.out.lt)
        clear hb
        go_wp2_with fail
        refine hK.out _ _ (SS.out _ TC1) (fun hHeld => ?_)
        clear hK K
        try simp only [Act.put, List.setIfInBounds_toArray, List.set_cons_zero, List.set_cons_succ]
        refine wpAnyH_take (i := 8) (v := ?_) (by simp only [List.getElem?_toArray, List.getElem?_cons_zero, List.getElem?_cons_succ]; exact rfl) (by kernel_rfl) (by kernel_rfl) (by kernel_rfl) (by exact fun _ _ _ h => h) (Or.inl ⟨by rfl, ?_⟩) hHeld ?_
        rotate_left
        · intro w' hSw
          obtain ⟨s0, s1, s2, _⟩ := hSw
          go_simp
          try with_reducible rfl
        try simp only [Act.put, List.setIfInBounds_toArray, List.set_cons_zero, List.set_cons_succ]
        refine wpAnyH_ready (rs := [10]) (by kernel_rfl) (by simp) ?_
        refine (AllReadyH.cons (by simp only [List.getElem?_toArray, List.getElem?_cons_zero, List.getElem?_cons_succ]; exact rfl) (fun K hK => ?_) AllReadyH.nil)
        refine storeBox_step _ rfl 66 (.tmp 4) (.tmp 20) rfl _ 66 _ #[.int .u8 y0, .int .u8 y1, .int .u8 y2, .int .u8 y3, .int .u8 y4, .int .u8 y5, .int .u8 z0, .int .u8 z1, .int .u8 z2, .int .u8 z3, .int .u8 z4, .int .u8 z5, .int .i64 kd] Z.out (by exact rfl) (by exact rfl) (by kernel_rfl) (by exact rfl) (by simp [Value.oneCell']) ?_
        intro wS xS gS
        have TS := kGrown gS TC1 ZB.out
        have ZS := Lib.hid xS
        clear xS gS
        refine hK.out _ _ (SS.out _ TS) (fun hHeld => ?_)
        clear hK K
        simp only [Act.put]
        refine wpAnyH_done (by kernel_rfl) ?_ _
        go_wp2_with fail
        go_meet
        exact ⟨_, rfl, ZS, TS, ZB⟩
    · skip
      refine want_none (by exact rfl) ?_
      go_wp2_with fail
      have ZB := Lib.hid (kSize TD)
      have TA := kAlloc (o := .cells #[.int .u8 0, .int .u8 0, .int .u8 0, .int .u8 0, .int .u8 0, .int .u8 0, .int .u8 0, .int .u8 0, .int .u8 0, .int .u8 0, .int .u8 0, .int .u8 0, .int .i64 0] 66) (kSize TD) TD
      refine hK.out _ _ (SS.out _ TA) (fun hHeld => ?_)
      have Z := Lib.hid (Box.new w1.drew 66 #[.int .u8 0, .int .u8 0, .int .u8 0, .int .u8 0, .int .u8 0, .int .u8 0, .int .u8 0, .int .u8 0, .int .u8 0, .int .u8 0, .int .u8 0, .int .u8 0, .int .i64 0])
      clear hK K
      try simp only [Act.put, List.setIfInBounds_toArray, List.set_cons_zero, List.set_cons_succ]
      refine wpAnyH_ready (rs := [2]) (by kernel_rfl) (by simp) ?_
      refine (AllReadyH.cons (by simp only [List.getElem?_toArray, List.getElem?_cons_zero, List.getElem?_cons_succ]; exact rfl) (fun K hK => ?_) AllReadyH.nil)
      refine want_none (by exact rfl) ?_
      go_wp2_with fail
      refine (K0.out _).mono ?_
      rintro e w2 ⟨rfl, hb⟩
      have TC0 := kCall hb (kSize TA) TA
      have Z := Lib.hid (Z.out.below hb Z.out.lt)
      clear hb
      go_wp2_with fail
      refine hK.out _ _ (SS.out _ TC0) (fun hHeld => ?_)
      clear hK K
      try simp only [Act.put, List.setIfInBounds_toArray, List.set_cons_zero, List.set_cons_succ]
      refine wpAnyH_ready (rs := [5]) (by kernel_rfl) (by simp) ?_
      refine (AllReadyH.cons (by simp only [List.getElem?_toArray, List.getElem?_cons_zero, List.getElem?_cons_succ]; exact rfl) (fun K hK => ?_) AllReadyH.nil)
      refine want_none (by exact rfl) ?_
      go_wp2_with fail
      refine (K1.out _).mono ?_
      rintro e w3 ⟨rfl, hb⟩
      have TC1 := kCall hb (kSize TC0) TC0
      have Z := Lib.hid (Z.out.below hb Z.out.lt)
      clear hb
      go_wp2_with fail
      refine hK.out _ _ (SS.out _ TC1) (fun hHeld => ?_)
      clear hK K
      try simp only [Act.put, List.setIfInBounds_toArray, List.set_cons_zero, List.set_cons_succ]
      refine wpAnyH_take (i := 8) (v := ?_) (by simp only [List.getElem?_toArray, List.getElem?_cons_zero, List.getElem?_cons_succ]; exact rfl) (by kernel_rfl) (by kernel_rfl) (by kernel_rfl) (by exact fun _ _ _ h => h) (Or.inl ⟨by rfl, ?_⟩) hHeld ?_
      rotate_left
      · intro w' hSw
        obtain ⟨s0, s1, s2, _⟩ := hSw
        go_simp
        try with_reducible rfl
      try simp only [Act.put, List.setIfInBounds_toArray, List.set_cons_zero, List.set_cons_succ]
      refine wpAnyH_ready (rs := [10]) (by kernel_rfl) (by simp) ?_
      refine (AllReadyH.cons (by simp only [List.getElem?_toArray, List.getElem?_cons_zero, List.getElem?_cons_succ]; exact rfl) (fun K hK => ?_) AllReadyH.nil)
      refine storeBox_step _ rfl 66 (.tmp 4) (.tmp 20) rfl _ 66 _ #[.int .u8 y0, .int .u8 y1, .int .u8 y2, .int .u8 y3, .int .u8 y4, .int .u8 y5, .int .u8 z0, .int .u8 z1, .int .u8 z2, .int .u8 z3, .int .u8 z4, .int .u8 z5, .int .i64 kd] Z.out (by exact rfl) (by exact rfl) (by kernel_rfl) (by exact rfl) (by simp [Value.oneCell']) ?_
      intro wS xS gS
      have TS := kGrown gS TC1 ZB.out
      have ZS := Lib.hid xS
      clear xS gS
      refine hK.out _ _ (SS.out _ TS) (fun hHeld => ?_)
      clear hK K
      simp only [Act.put]
      refine wpAnyH_done (by kernel_rfl) ?_ _
      go_wp2_with fail
      go_meet
      exact ⟨_, rfl, ZS, TS, ZB⟩
  case rest =>
    obtain ⟨b4, rfl, ZX, TX, ZB⟩ := hcut
    have X2 := Lib.hid (X1.out.below TX.out X1.out.lt)
    have R2 := Lib.hid (R1.out.below TX.out R1.out.lt)
    have B2 := Lib.hid (B1.out.trans (TX.out.mono B1.out.size))
    have hR1 := Lib.hid R1.out.lt
    clear X1 R1 B1 SS T1 TX K0 K1 S
    obtain ⟨_, _, _, _, x3⟩ := X2.out.four
    have Y3 := Lib.hid (Box.new wc 68 #[.int .u8 y0, .int .u8 y1, .int .u8 y2, .int .u8 y3, .int .u8 y4, .int .u8 y5, .int .u8 z0, .int .u8 z1, .int .u8 z2, .int .u8 z3, .int .u8 z4, .int .u8 z5, .int .i64 kd, .slice a len cap])
    have B3 := Lib.hid (B2.out.alloc B2.out.size (.cells #[.int .u8 y0, .int .u8 y1, .int .u8 y2, .int .u8 y3, .int .u8 y4, .int .u8 y5, .int .u8 z0, .int .u8 z1, .int .u8 z2, .int .u8 z3, .int .u8 z4, .int .u8 z5, .int .i64 kd, .slice a len cap] 68))
    have R3 := Lib.hid (R2.out.alloc (.cells #[.int .u8 y0, .int .u8 y1, .int .u8 y2, .int .u8 y3, .int .u8 y4, .int .u8 y5, .int .u8 z0, .int .u8 z1, .int .u8 z2, .int .u8 z3, .int .u8 z4, .int .u8 z5, .int .i64 kd, .slice a len cap] 68))
    go_wp2_with ((with_reducible change wpList _ _ _ (Oper.mk (some 21) _ _ _ _ _ :: _) _ _); refine loadBox_list _ rfl 66 (.tmp 4) rfl b4 66 _ ZX.out rfl _ rfl Try.underlying66 (by kernel_rfl) ?_)
    generalize wc.alloc (.cells #[.int .u8 y0, .int .u8 y1, .int .u8 y2, .int .u8 y3, .int .u8 y4, .int .u8 y5, .int .u8 z0, .int .u8 z1, .int .u8 z2, .int .u8 z3, .int .u8 z4, .int .u8 z5, .int .i64 kd, .slice a len cap] 68) = W3 at *
    obtain ⟨c0, c1, c2, c3, c4, c5, c6, c7, c8, c9, c10, c11, c12, c13⟩ := Y3.out.c14
    have hfb := fld_br
    have hYlt := Y3.out.lt
    go_region_law (first
      | (have q := O5; clear q; go_simp; go_at_call 45; refine (concat2 _ _ _ _ _ _ _ _ _ _ _ (Box.new _ _ _) (O5.out.rd.alloc _) (H5.out.alloc _) (by omega)).mono ?_; rintro e w6 ⟨a6, l6, k6, rfl, o6, b6⟩; have R6 := (R5.out.alloc _).below b6 (R5.out.alloc _).lt; obtain ⟨r0, r1, r2⟩ := R6.two; have f0 := R6.frozen 0; have f1 := R6.frozen 1)
      | (go_simp; go_at_call 46; refine (KH.out _).mono ?_; rintro e w5 ⟨a5, l5, k5, rfl, o5, b5⟩; obtain rfl : l5 = 14 := (by have := o5.length; simp [be_len] at this; omega); have O5 := Lib.hid o5; have R5 := Lib.hid ((show Box W3.drew _ _ _ from R3.out).below b5 R3.out.lt); have B5 := Lib.hid (B3.out.drew.trans (b5.mono B3.out.drew.size)); have H5 := Lib.hid (HR.out.below B5.out); have c13' : w5.cell? ⟨wc.heap.size, 13, none⟩ = some (.slice a len cap) := ((show Box W3.drew _ _ _ from Y3.out).below b5 Y3.out.lt).cell 13))
    all_goals
      have hs5 := B5.out.size
      have hr5 := R5.out.lt
      have B6 := Lib.hid ((B5.out.alloc hs5 (.cells #[.slice a5 14 k5, .slice a len cap] 22)).trans (b6.mono (by simp; omega)))
      have hn : Hid (∀ x, a6 = some x → ¬ x.block = w.heap.size + 1) := fun x hx e => by
        have := (o6.lt x hx).1
        simp at this
        omega
      have O6 : Hid (Own w6 w.heap.size a6 l6 k6 L) := by rw [HL.out]; exact o6.rebase (by simp; omega)
      clear o6 b6 o5 b5 O5 R5 B5 H5 R6 hs5 hr5 c0 c1 c2 c3 c4 c5 c6 c7 c8 c9 c10 c11 c12 c13 c13' Y3 R3 B3 hYlt
      go_wp2
      refine bodyPost_ret (v := .agg #[.int .i64 0, .slice a6 l6 k6]) (by simp [results, Try.results16, go_sem, r1, r2]) rfl ⟨_, _, _, rfl, ?_, (B6.out.setCell (by simp) _).setCell (by simp) _⟩
      exact (O6.out.setOther _ _ hn.out).setOther _ _ hn.out

set_option maxHeartbeats 1000000 in
theorem implPackFrame (tq fr kd : Int) (a : Option Addr) (len cap : Nat) (zs : List Int) (w : World) (hr : Rd w a len cap zs) :
    Calls Try.prog 16 #[.agg #[.int .i64 tq, .int .i64 fr, .int .i64 kd, .slice a len cap]] w (Packed w (frameC tq fr kd zs.length) (frameP tq fr kd zs)) := by
  rw [hr.length]
  by_cases hk : frameC tq fr kd len = 0
  · have hp : frameP tq fr kd zs = frameL tq fr kd zs := by unfold frameP; rw [hr.length, if_pos hk]
    rw [hk, hp]
    exact implPackFrame_ok tq fr kd a len cap zs w hr hk
  · have hp : frameP tq fr kd zs = [] := by unfold frameP; rw [hr.length, if_neg hk]
    have hne : (frameC tq fr kd len != 0) = true := by simpa using hk
    have S := Lib.hid (fun W => implFrameFault tq fr kd a len cap W)
    have B0 := Lib.hid (((Below.refl w.heap.size w).alloc (Nat.le_refl _) (.cells #[.int .i64 tq, .int .i64 fr, .int .i64 kd, .slice a len cap] 27)).alloc (by simp) (.cells #[.int .i64 0, .slice none 0 0] 32))
    have R0 := Lib.hid (Box.new (w.alloc (.cells #[.int .i64 tq, .int .i64 fr, .int .i64 kd, .slice a len cap] 27)) 32 #[.int .i64 0, .slice none 0 0])
    rw [hp]
    clear hk hp hr
    generalize frameC tq fr kd len = c at *
    go_enter Try.func16, Try.ntmps16
    go_wp2_with fail
    refine (S.out _).mono ?_
    rintro e w1 ⟨rfl, b1⟩
    have R1 := R0.out.below b1 R0.out.lt
    simp only [World.size_alloc] at R1
    obtain ⟨z2, r20, r21⟩ := R1.two
    have f0 := R1.frozen 0
    have f1 := R1.frozen 1
    have B1 := Lib.hid (B0.out.trans (b1.mono B0.out.size))
    clear b1 R0 B0 R1
    go_wp2
    exact bodyPost_ret (v := .agg #[.int .i64 c, .slice none 0 0]) (by simp [results, Try.results16, go_sem, r20, r21]) rfl ⟨none, 0, 0, rfl, Own.nil _ _, (B1.out.setCell (by simp) _).setCell (by simp) _⟩

theorem packFrame_law (tq fr kd : Int) (a : Option Addr) (len cap : Nat) (zs : List Int) (w : World) (hr : Rd w a len cap zs) :
    Calls Try.prog 4 #[.agg #[.int .i64 tq, .int .i64 fr, .int .i64 kd, .slice a len cap]] w fun e w' => e = .returned (.bool true) ∧ Below w.heap.size w w' :=
  exactPackFrame tq fr kd a len cap zs w hr (fun a' l' c' W h => implPackFrame tq fr kd a' l' c' zs W h)
end Go.Proofs.Ytkneicepflkfhaa
