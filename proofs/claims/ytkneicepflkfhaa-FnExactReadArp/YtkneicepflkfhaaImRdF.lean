/-
  ReadFrame of the program.
-/
import Derived.Test.YtkneicepflkfhaaImPkA
import Derived.Test.YtkneicepflkfhaaExFrmR
namespace Go.Proofs.Ytkneicepflkfhaa
open Go.ChangeShapes Go.WideShapes Go.ChangeAt Go.RowKit

theorem rdTo_take (zs : List Int) (A n : Nat) : ∀ k, A + k ≤ n → rdTo (zs.take n) A k = rdTo zs A k
  | 0, _ => rfl
  | k + 1, h => by
    simp only [rdTo]
    rw [rdTo_take zs A n k (by omega), List.getD_eq_getElem?_getD, List.getD_eq_getElem?_getD, List.getElem?_take, if_pos (by omega)]
theorem rdTo_drop (zs : List Int) (A n : Nat) : ∀ k, rdTo (zs.drop n) A k = rdTo zs (n + A) k
  | 0 => rfl
  | k + 1 => by
    simp only [rdTo]
    rw [rdTo_drop zs A n k, List.getD_eq_getElem?_getD, List.getD_eq_getElem?_getD, List.getElem?_drop, Nat.add_assoc]

theorem number6_any (y0 y1 y2 y3 y4 y5 : Int) (w : World) (h8 : B8 [y0, y1, y2, y3, y4, y5]) :
    Calls Try.prog 51 #[.agg #[.int .u8 y0, .int .u8 y1, .int .u8 y2, .int .u8 y3, .int .u8 y4, .int .u8 y5]] w fun e w' => e = .returned (.int .i64 (rdTo [y0, y1, y2, y3, y4, y5] 0 6)) ∧ Below w.heap.size w w' := by
  have X0 := Box.new w 63 #[.int .u8 y0, .int .u8 y1, .int .u8 y2, .int .u8 y3, .int .u8 y4, .int .u8 y5]
  have R0 := Rd.of_box (off := 0) (len := 6) X0 rfl (by unfold maxLen; omega) h8 (fun i hi => by
    obtain rfl | rfl | rfl | rfl | rfl | rfl : i = 0 ∨ i = 1 ∨ i = 2 ∨ i = 3 ∨ i = 4 ∨ i = 5 := by omega
    all_goals rfl)
  have KR := Lib.hid (implRead_ok _ 6 6 0 6 _ _ R0 (by omega) (by omega) (by omega))
  have B0 := Lib.hid ((Below.refl w.heap.size w).alloc (Nat.le_refl _) (.cells #[.int .u8 y0, .int .u8 y1, .int .u8 y2, .int .u8 y3, .int .u8 y4, .int .u8 y5] 63))
  have hfi := fld_ir
  unfold ir at KR
  generalize rdTo [y0, y1, y2, y3, y4, y5] 0 6 = v at *
  clear X0 R0 h8
  go_enter Try.func51, Try.ntmps51
  go_wp2_with fail
  refine KR.out.mono ?_
  rintro e w1 ⟨rfl, b1⟩
  have B1 := Lib.hid (B0.out.trans (b1.mono B0.out.size))
  clear b1 B0
  go_wp2
  go_ret
  exact ⟨rfl, B1.out⟩

set_option maxHeartbeats 1000000 in
theorem bclone_any (a : Option Addr) (len cap : Nat) (zs : List Int) (w : World) (h : Rd w a len cap zs) (hl : len ≤ 1048576) :
    Calls Try.prog 52 #[.slice a len cap] w (Fresh w len zs) := by
  cases a with
  | none =>
    obtain ⟨rfl, rfl⟩ := h.nil rfl
    have hz := Lib.hid (List.length_eq_zero_iff.1 h.length)
    clear h
    have q := Lib.run_eql_slice_nil (P := Try.prog) w 22 5 none 0 0 0 0 Try.underlying22
    go_enter Try.func52, Try.ntmps52
    go_wp2
    go_ret
    exact ⟨none, 0, rfl, by rw [hz.out]; exact Own.nil _ _, Below.refl _ _⟩
  | some x =>
    have o0 := own_lit w w.heap.size (Nat.le_refl _)
    have r0 := h.alloc (.cells #[] 5)
    have q := Lib.run_eql_slice_nil (P := Try.prog) w 22 5 (some x) len cap 0 0 Try.underlying22
    go_enter Try.func52, Try.ntmps52
    go_wp2_with (at_builtin; refine append_bytes _ rfl (.tmp 5) (.tmp 6) rfl w.heap.size _ _ _ [] rfl o0 (some x) len cap zs rfl r0 (by simp) (by omega) ?_; intro a' c' w' ho hg)
    go_ret
    refine ⟨a', c', by simp [Array.getD], by simpa using ho, ?_⟩
    exact ((Below.refl _ _).alloc (Nat.le_refl _) _).grown hg (by simp) (fun k e => by simp [Value.ownBlock] at e; omega)

theorem take6 (zs : List Int) (n : Nat) (h : n + 6 ≤ zs.length) : ∃ y0 y1 y2 y3 y4 y5, (zs.drop n).take 6 = [y0, y1, y2, y3, y4, y5] := by
  have hl : ((zs.drop n).take 6).length = 6 := by simp; omega
  match h' : (zs.drop n).take 6, hl with
  | [y0, y1, y2, y3, y4, y5], _ => exact ⟨y0, y1, y2, y3, y4, y5, rfl⟩

theorem implReadFrame_no (a : Option Addr) (len cap : Nat) (w : World) (h : rfOk len = false) :
    Calls Try.prog 23 #[.slice a len cap] w (FrameRes w 2 0 0 0 []) := by
  simp only [rfOk, decide_eq_false_iff_not] at h
  by_cases h1 : 14 ≤ len
  · have h2 : ¬ len ≤ 614 := fun h2 => h ⟨h1, h2⟩
    have e1 : decide ((len : Int) < 14) = false := decide_eq_false (by omega)
    have e2 : decide ((614 : Int) < len) = true := decide_eq_true (by omega)
    clear h h1 h2
    go_enter Try.func23, Try.ntmps23
    go_wp2
    exact bodyPost_ret (v := .agg #[.int .i64 2, .int .i64 0, .int .i64 0, .int .i64 0, .slice none 0 0]) (by simp [results, Try.results23, go_sem]) rfl ⟨none, 0, 0, rfl, Own.nil _ _, (Below.refl _ _).alloc (Nat.le_refl _) _⟩
  · have e1 : decide ((len : Int) < 14) = true := decide_eq_true (by omega)
    clear h h1
    go_enter Try.func23, Try.ntmps23
    go_wp2
    exact bodyPost_ret (v := .agg #[.int .i64 2, .int .i64 0, .int .i64 0, .int .i64 0, .slice none 0 0]) (by simp [results, Try.results23, go_sem]) rfl ⟨none, 0, 0, rfl, Own.nil _ _, (Below.refl _ _).alloc (Nat.le_refl _) _⟩
set_option maxRecDepth 20000 in
set_option maxHeartbeats 2000000 in
theorem implReadFrame_ok1 (a : Option Addr) (len cap : Nat) (zs : List Int) (w : World) (hr : Rd w a len cap zs) (h1 : 14 ≤ len) (h2 : len ≤ 614) (hcap : ¬ cap = 14) :
    Calls Try.prog 23 #[.slice a len cap] w (FrameRes w 0 (rdTo zs 0 6) (rdTo zs 6 6) (rdTo zs 12 2) (zs.drop 14)) := by
  have hle := hr.le
  have hmx := hr.max
  have hlen := hr.length
  rcases hr.cells with h0 | ⟨ba, off, rfl, hcc⟩
  · omega
  have e1 : decide ((len : Int) < 14) = false := decide_eq_false (by omega)
  have e2 : decide ((614 : Int) < len) = false := decide_eq_false (by omega)
  have i1 : (14 : Int) ≤ len := by omega
  obtain ⟨y0, y1, y2, y3, y4, y5, hy⟩ := take6 zs 0 (by omega)
  obtain ⟨z0, z1, z2, z3, z4, z5, hz⟩ := take6 zs 6 (by omega)
  obtain ⟨kd, hk⟩ : ∃ kd, rdTo zs 12 2 = kd := ⟨_, rfl⟩
  have hy' : zs.take 6 = [y0, y1, y2, y3, y4, y5] := by simpa using hy
  have v0 : rdTo zs 0 6 = rdTo [y0, y1, y2, y3, y4, y5] 0 6 := by rw [← hy', rdTo_take zs 0 6 6 (by omega)]
  have v1 : rdTo zs 6 6 = rdTo [z0, z1, z2, z3, z4, z5] 0 6 := by rw [← hz, rdTo_take _ 0 6 6 (by omega), rdTo_drop]
  have K0 := Lib.hid (fun W (hW : Rd W (some ⟨ba, off, none⟩) len cap zs) => readHead_any _ len cap zs y0 y1 y2 y3 y4 y5 z0 z1 z2 z3 z4 z5 kd W hW h1 hy' hz hk)
  have K1 := Lib.hid (fun W => number6_any y0 y1 y2 y3 y4 y5 W (by rw [← hy']; exact b8_take hr.b8 6))
  have K2 := Lib.hid (fun W => number6_any z0 z1 z2 z3 z4 z5 W (by rw [← hz]; exact b8_take (b8_drop hr.b8 6) 6))
  rw [v0, v1, hk]
  have HR := Lib.hid hr
  have B0 := Lib.hid ((Below.refl w.heap.size w).alloc (Nat.le_refl _) (.cells #[.int .i64 0, .int .i64 0, .int .i64 0, .int .i64 0, .slice none 0 0] 38))
  have R0 := Lib.hid (Box.new w 38 #[.int .i64 0, .int .i64 0, .int .i64 0, .int .i64 0, .slice none 0 0])
  clear hr hy hz hk hy' v0 v1 hlen hcc
  generalize rdTo [y0, y1, y2, y3, y4, y5] 0 6 = n0 at *
  generalize rdTo [z0, z1, z2, z3, z4, z5] 0 6 = n1 at *
  go_enter Try.func23, Try.ntmps23
  go_upto_region 3 with (fail)
  generalize w.alloc (.cells #[.int .i64 0, .int .i64 0, .int .i64 0, .int .i64 0, .slice none 0 0] 38) = W0 at *
  have T1 := Lib.hid (Below.refl W0.heap.size W0)
  have SS := Lib.hid (fun W (h : Hid (Below W0.heap.size W0 W)) => h)
  go_cut [3] (fun v wx => ∃ b4, v = .pointer (some ⟨b4, 0, none⟩) ∧ Hid (Box wx b4 68 #[.int .u8 y0, .int .u8 y1, .int .u8 y2, .int .u8 y3, .int .u8 y4, .int .u8 y5, .int .u8 z0, .int .u8 z1, .int .u8 z2, .int .u8 z3, .int .u8 z4, .int .u8 z5, .int .i64 kd, .slice (some ⟨ba, off + 14, none⟩) (len - 14) (cap - 14)]) ∧ Hid (Below W0.heap.size W0 wx) ∧ Hid (W0.heap.size ≤ b4))
  case first =>
    have TD := kDrew T1
    have TP := TD
    refine wp_region_held_drew (S := fun W => Hid (Below W0.heap.size W0 W)) (by kernel_rfl) (SS.out _ TD) (fun hHeld => ?_)
    refine wpAnyH_take (i := 0) (v := ?_) (by simp only [List.getElem?_toArray, List.getElem?_cons_zero]; exact rfl) (by kernel_rfl) (by kernel_rfl) (by kernel_rfl) (by exact fun _ _ _ h => h) (Or.inl ⟨by rfl, ?_⟩) hHeld ?_
    rotate_left
    · intro w' hSw
      obtain _ := hSw
      go_simp
      try with_reducible rfl
    try simp only [Act.put, List.setIfInBounds_toArray, List.set_cons_zero, List.set_cons_succ]
    refine wpAnyH_take (i := 2) (v := ?_) (by simp only [List.getElem?_toArray, List.getElem?_cons_zero, List.getElem?_cons_succ]; exact rfl) (by kernel_rfl) (by kernel_rfl) (by kernel_rfl) (by exact fun _ _ _ h => h) (Or.inl ⟨by rfl, ?_⟩) hHeld ?_
    rotate_left
    · intro w' hSw
      obtain _ := hSw
      go_simp
      try with_reducible rfl
    try simp only [Act.put, List.setIfInBounds_toArray, List.set_cons_zero, List.set_cons_succ]
    refine wpAnyH_take (i := 3) (v := ?_) (by simp only [List.getElem?_toArray, List.getElem?_cons_zero, List.getElem?_cons_succ]; exact rfl) (by kernel_rfl) (by kernel_rfl) (by kernel_rfl) (by exact fun _ _ _ h => h) (Or.inl ⟨by rfl, ?_⟩) hHeld ?_
    rotate_left
    · intro w' hSw
      obtain _ := hSw
      go_simp
      try with_reducible rfl
    try simp only [Act.put, List.setIfInBounds_toArray, List.set_cons_zero, List.set_cons_succ]
    refine wpAnyH_ready (rs := [1, 5]) (by kernel_rfl) (by simp) ?_
    refine (AllReadyH.cons (by simp only [List.getElem?_toArray, List.getElem?_cons_zero, List.getElem?_cons_succ]; exact rfl) (fun K hK => ?_) (AllReadyH.cons (by simp only [List.getElem?_toArray, List.getElem?_cons_zero, List.getElem?_cons_succ]; exact rfl) (fun K hK => ?_) AllReadyH.nil))
    · skip
      refine want_none (by exact rfl) ?_
      go_wp2_with fail
      refine (K0.out _ (HR.out.below (B0.out.trans (TP.out.mono B0.out.size)))).mono ?_
      rintro e w2 ⟨rfl, hb⟩
      have TC0 := kCall hb (kSize TD) TD
      clear hb
      go_wp2_with fail
      refine hK.out _ _ (SS.out _ TC0) (fun hHeld => ?_)
      clear hK K
      try simp only [Act.put, List.setIfInBounds_toArray, List.set_cons_zero, List.set_cons_succ]
      refine wpAnyH_take (i := 4) (v := ?_) (by simp only [List.getElem?_toArray, List.getElem?_cons_zero, List.getElem?_cons_succ]; exact rfl) (by kernel_rfl) (by kernel_rfl) (by kernel_rfl) (by exact fun _ _ _ h => h) (Or.inl ⟨by rfl, ?_⟩) hHeld ?_
      rotate_left
      · intro w' hSw
        obtain _ := hSw
        go_simp
        try with_reducible rfl
      try simp only [Act.put, List.setIfInBounds_toArray, List.set_cons_zero, List.set_cons_succ]
      refine wpAnyH_ready (rs := [5]) (by kernel_rfl) (by simp) ?_
      refine (AllReadyH.cons (by simp only [List.getElem?_toArray, List.getElem?_cons_zero, List.getElem?_cons_succ]; exact rfl) (fun K hK => ?_) AllReadyH.nil)
      refine want_none (by exact rfl) ?_
      go_wp2_with fail
      have ZB := Lib.hid (kSize TC0)
      have TA := kAlloc (o := .cells #[.int .u8 0, .int .u8 0, .int .u8 0, .int .u8 0, .int .u8 0, .int .u8 0, .int .u8 0, .int .u8 0, .int .u8 0, .int .u8 0, .int .u8 0, .int .u8 0, .int .i64 0, .slice none 0 0] 68) (kSize TC0) TC0
      have TP := TA
      refine hK.out _ _ (SS.out _ TA) (fun hHeld => ?_)
      have Z := Lib.hid (Box.new w2 68 #[.int .u8 0, .int .u8 0, .int .u8 0, .int .u8 0, .int .u8 0, .int .u8 0, .int .u8 0, .int .u8 0, .int .u8 0, .int .u8 0, .int .u8 0, .int .u8 0, .int .i64 0, .slice none 0 0])
      clear hK K
      try simp only [Act.put, List.setIfInBounds_toArray, List.set_cons_zero, List.set_cons_succ]
      refine wpAnyH_ready (rs := [6]) (by kernel_rfl) (by simp) ?_
      refine (AllReadyH.cons (by simp only [List.getElem?_toArray, List.getElem?_cons_zero, List.getElem?_cons_succ]; exact rfl) (fun K hK => ?_) AllReadyH.nil)
      refine storeBox_step _ rfl 68 (.tmp 3) (.tmp 17) rfl _ 68 _ #[.int .u8 y0, .int .u8 y1, .int .u8 y2, .int .u8 y3, .int .u8 y4, .int .u8 y5, .int .u8 z0, .int .u8 z1, .int .u8 z2, .int .u8 z3, .int .u8 z4, .int .u8 z5, .int .i64 kd, .slice (some ⟨ba, off + 14, none⟩) (len - 14) (cap - 14)] Z.out (by exact rfl) (by exact rfl) (by kernel_rfl) (by exact rfl) (by simp [Value.oneCell']) ?_
      intro wS xS gS
      have TS := kGrown gS TA ZB.out
      have ZS := Lib.hid xS
      clear xS gS
      refine hK.out _ _ (SS.out _ TS) (fun hHeld => ?_)
      clear hK K
      simp only [Act.put]
      refine wpAnyH_done (by kernel_rfl) ?_ _
      go_wp2_with fail
      go_meet
      exact ⟨_, rfl, ZS, TS, ZB⟩
    · skip
      refine want_none (by exact rfl) ?_
      go_wp2_with fail
      have ZB := Lib.hid (kSize TD)
      have TA := kAlloc (o := .cells #[.int .u8 0, .int .u8 0, .int .u8 0, .int .u8 0, .int .u8 0, .int .u8 0, .int .u8 0, .int .u8 0, .int .u8 0, .int .u8 0, .int .u8 0, .int .u8 0, .int .i64 0, .slice none 0 0] 68) (kSize TD) TD
      have TP := TA
      refine hK.out _ _ (SS.out _ TA) (fun hHeld => ?_)
      have Z := Lib.hid (Box.new W0.drew 68 #[.int .u8 0, .int .u8 0, .int .u8 0, .int .u8 0, .int .u8 0, .int .u8 0, .int .u8 0, .int .u8 0, .int .u8 0, .int .u8 0, .int .u8 0, .int .u8 0, .int .i64 0, .slice none 0 0])
      clear hK K
      try simp only [Act.put, List.setIfInBounds_toArray, List.set_cons_zero, List.set_cons_succ]
      refine wpAnyH_ready (rs := [1]) (by kernel_rfl) (by simp) ?_
      refine (AllReadyH.cons (by simp only [List.getElem?_toArray, List.getElem?_cons_zero, List.getElem?_cons_succ]; exact rfl) (fun K hK => ?_) AllReadyH.nil)
      refine want_none (by exact rfl) ?_
      go_wp2_with fail
      refine (K0.out _ (HR.out.below (B0.out.trans (TP.out.mono B0.out.size)))).mono ?_
      rintro e w2 ⟨rfl, hb⟩
      have TC0 := kCall hb (kSize TA) TA
      have Z := Lib.hid (Z.out.below hb Z.out.lt)
      clear hb
      go_wp2_with fail
      refine hK.out _ _ (SS.out _ TC0) (fun hHeld => ?_)
      clear hK K
      try simp only [Act.put, List.setIfInBounds_toArray, List.set_cons_zero, List.set_cons_succ]
      refine wpAnyH_take (i := 4) (v := ?_) (by simp only [List.getElem?_toArray, List.getElem?_cons_zero, List.getElem?_cons_succ]; exact rfl) (by kernel_rfl) (by kernel_rfl) (by kernel_rfl) (by exact fun _ _ _ h => h) (Or.inl ⟨by rfl, ?_⟩) hHeld ?_
      rotate_left
      · intro w' hSw
        obtain _ := hSw
        go_simp
        try with_reducible rfl
      try simp only [Act.put, List.setIfInBounds_toArray, List.set_cons_zero, List.set_cons_succ]
      refine wpAnyH_ready (rs := [6]) (by kernel_rfl) (by simp) ?_
      refine (AllReadyH.cons (by simp only [List.getElem?_toArray, List.getElem?_cons_zero, List.getElem?_cons_succ]; exact rfl) (fun K hK => ?_) AllReadyH.nil)
      refine storeBox_step _ rfl 68 (.tmp 3) (.tmp 17) rfl _ 68 _ #[.int .u8 y0, .int .u8 y1, .int .u8 y2, .int .u8 y3, .int .u8 y4, .int .u8 y5, .int .u8 z0, .int .u8 z1, .int .u8 z2, .int .u8 z3, .int .u8 z4, .int .u8 z5, .int .i64 kd, .slice (some ⟨ba, off + 14, none⟩) (len - 14) (cap - 14)] Z.out (by exact rfl) (by exact rfl) (by kernel_rfl) (by exact rfl) (by simp [Value.oneCell']) ?_
      intro wS xS gS
      have TS := kGrown gS TC0 ZB.out
      have ZS := Lib.hid xS
      clear xS gS
      refine hK.out _ _ (SS.out _ TS) (fun hHeld => ?_)
      clear hK K
      simp only [Act.put]
      refine wpAnyH_done (by kernel_rfl) ?_ _
      go_wp2_with fail
      go_meet
      exact ⟨_, rfl, ZS, TS, ZB⟩
  case rest =>
    obtain ⟨b4, rfl, ZX, TX, ZB⟩ := hcut
    have R1 := Lib.hid (R0.out.below TX.out R0.out.lt)
    have B1 := Lib.hid (B0.out.trans (TX.out.mono B0.out.size))
    have H1 := Lib.hid ((HR.out.below B1.out).from 14 _ _ _ (by omega) rfl rfl rfl)
    have hl14 : len - 14 ≤ 600 := by omega
    have N1 : Hid (¬ b4 = w.heap.size) := fun e => by have := R0.out.lt; have := ZB.out; omega
    generalize hA14 : (some ⟨ba, off + 14, none⟩ : Option Addr) = a14 at *
    generalize hL14 : len - 14 = l14 at *
    generalize hC14 : cap - 14 = c14 at *
    generalize zs.drop 14 = ys at *
    clear hA14 hL14 hC14
    clear R0 B0 SS T1 TX HR K0 ZB
    obtain ⟨bl, hbl⟩ : ∃ bl : List (Nat × TypeId × Array Value), bl = [(b4, 68, #[.int .u8 y0, .int .u8 y1, .int .u8 y2, .int .u8 y3, .int .u8 y4, .int .u8 y5, .int .u8 z0, .int .u8 z1, .int .u8 z2, .int .u8 z3, .int .u8 z4, .int .u8 z5, .int .i64 kd, .slice a14 l14 c14])] := ⟨_, rfl⟩
    have T1 : Hid (Bs bl wc) := by
      rw [hbl]
      intro x hx
      simp only [List.mem_cons, List.not_mem_nil, or_false] at hx
      subst hx
      exact ZX.out
    have NE : Hid (∀ x ∈ bl, x.1 ≠ w.heap.size) := by
      rw [hbl]
      intro x hx
      simp only [List.mem_cons, List.not_mem_nil, or_false] at hx
      subst hx
      exact N1.out
    have SS := Lib.hid (show ∀ W, Hid (Bs bl W) → W.cell? ⟨b4, 0, none⟩ = some (.int .u8 y0) ∧ W.cell? ⟨b4, 1, none⟩ = some (.int .u8 y1) ∧ W.cell? ⟨b4, 2, none⟩ = some (.int .u8 y2) ∧ W.cell? ⟨b4, 3, none⟩ = some (.int .u8 y3) ∧ W.cell? ⟨b4, 4, none⟩ = some (.int .u8 y4) ∧ W.cell? ⟨b4, 5, none⟩ = some (.int .u8 y5) ∧ W.cell? ⟨b4, 6, none⟩ = some (.int .u8 z0) ∧ W.cell? ⟨b4, 7, none⟩ = some (.int .u8 z1) ∧ W.cell? ⟨b4, 8, none⟩ = some (.int .u8 z2) ∧ W.cell? ⟨b4, 9, none⟩ = some (.int .u8 z3) ∧ W.cell? ⟨b4, 10, none⟩ = some (.int .u8 z4) ∧ W.cell? ⟨b4, 11, none⟩ = some (.int .u8 z5) ∧ W.cell? ⟨b4, 12, none⟩ = some (.int .i64 kd) ∧ W.cell? ⟨b4, 13, none⟩ = some (.slice a14 l14 c14) ∧ Hid (Bs bl W) from fun W h => by
      have h' := h
      rw [hbl] at h
      have ha := h.out _ (List.Mem.head _)
      exact ⟨ha.cell 0, ha.cell 1, ha.cell 2, ha.cell 3, ha.cell 4, ha.cell 5, ha.cell 6, ha.cell 7, ha.cell 8, ha.cell 9, ha.cell 10, ha.cell 11, ha.cell 12, ha.cell 13, h'⟩)
    clear hbl ZX N1
    go_wp2_with fail
    go_region_held3 (fun W => W.cell? ⟨b4, 0, none⟩ = some (.int .u8 y0) ∧ W.cell? ⟨b4, 1, none⟩ = some (.int .u8 y1) ∧ W.cell? ⟨b4, 2, none⟩ = some (.int .u8 y2) ∧ W.cell? ⟨b4, 3, none⟩ = some (.int .u8 y3) ∧ W.cell? ⟨b4, 4, none⟩ = some (.int .u8 y4) ∧ W.cell? ⟨b4, 5, none⟩ = some (.int .u8 y5) ∧ W.cell? ⟨b4, 6, none⟩ = some (.int .u8 z0) ∧ W.cell? ⟨b4, 7, none⟩ = some (.int .u8 z1) ∧ W.cell? ⟨b4, 8, none⟩ = some (.int .u8 z2) ∧ W.cell? ⟨b4, 9, none⟩ = some (.int .u8 z3) ∧ W.cell? ⟨b4, 10, none⟩ = some (.int .u8 z4) ∧ W.cell? ⟨b4, 11, none⟩ = some (.int .u8 z5) ∧ W.cell? ⟨b4, 12, none⟩ = some (.int .i64 kd) ∧ W.cell? ⟨b4, 13, none⟩ = some (.slice a14 l14 c14) ∧ Hid (Bs bl W))
      (first
        | (go_split_ands; refine SS.out _ ?_; (with_reducible assumption))
        | (go_split_ands; refine SS.out _ ?_; (with_reducible refine bsDrew ?_); (with_reducible assumption))
        | (go_split_ands; refine SS.out _ ?_; (with_reducible refine bsSet NE.out ?_); (with_reducible refine bsSet NE.out ?_); (with_reducible refine bsSet NE.out ?_); (with_reducible refine bsSet NE.out ?_); (with_reducible refine bsSet NE.out ?_); (with_reducible assumption))
        | (go_split_ands; refine SS.out _ ?_; (with_reducible refine bsAlloc ?_); (with_reducible assumption))
        | (go_split_ands; refine SS.out _ ?_; (with_reducible refine bsCall hb ?_); (with_reducible assumption)))
      (first
        | (have q := M1; clear q; go_at_call 52; refine (bclone_any _ _ _ _ _ H3.out (by omega)).mono ?_; rintro e w4 ⟨a4, c4, rfl, o4, hb⟩; have R4 := R3.out.below hb R3.out.lt; obtain ⟨_, r0, r1, r2, r3, r4⟩ := R4.five; have f0 := R4.frozen 0; have f1 := R4.frozen 1; have f2 := R4.frozen 2; have f3 := R4.frozen 3; have f4 := R4.frozen 4)
        | (have q := M0; clear q; go_at_call 51; refine (K2.out _).mono ?_; rintro e w3 ⟨rfl, hb⟩; have R3 := Lib.hid (R2.out.below hb R2.out.lt); have B3 := Lib.hid (B2.out.trans (hb.mono B2.out.size)); have H3 := Lib.hid (H2.out.below hb); have M1 := Lib.hid trivial)
        | (go_at_call 51; refine (K1.out _).mono ?_; rintro e w2 ⟨rfl, hb⟩; have R2 := Lib.hid ((show Box wc.drew _ _ _ from R1.out).below hb R1.out.lt); have B2 := Lib.hid (B1.out.drew.trans (hb.mono B1.out.drew.size)); have H2 := Lib.hid (H1.out.drew.below hb); have M0 := Lib.hid trivial))
    have hr3 := R3.out.lt
    have hs3 := B3.out.size
    have B4 := Lib.hid (B3.out.trans (hb.mono hs3))
    have hn : Hid (∀ x, a4 = some x → ¬ x.block = w.heap.size) := fun x hx e => by
      have := (o4.lt x hx).1
      omega
    have O4 : Hid (Own w4 w.heap.size a4 l14 c4 ys) := o4.rebase hs3
    clear o4 hb R2 R3 B2 B3 H2 H3 R4 hr3 hs3 R1 B1 H1 SS T1
    go_wp2
    refine bodyPost_ret (v := .agg #[.int .i64 0, .int .i64 n0, .int .i64 n1, .int .i64 kd, .slice a4 l14 c4]) (by simp [results, Try.results23, go_sem, r0, r1, r2, r3, r4]) rfl ⟨_, _, _, rfl, ?_, ?_⟩
    · exact ((((O4.out.setOther _ _ hn.out).setOther _ _ hn.out).setOther _ _ hn.out).setOther _ _ hn.out).setOther _ _ hn.out
    · exact ((((B4.out.setCell (Nat.le_refl _) _).setCell (Nat.le_refl _) _).setCell (Nat.le_refl _) _).setCell (Nat.le_refl _) _).setCell (Nat.le_refl _) _

set_option maxRecDepth 20000 in
set_option maxHeartbeats 2000000 in
theorem implReadFrame_ok2 (a : Option Addr) (zs : List Int) (w : World) (hr : Rd w a 14 14 zs) :
    Calls Try.prog 23 #[.slice a 14 14] w (FrameRes w 0 (rdTo zs 0 6) (rdTo zs 6 6) (rdTo zs 12 2) (zs.drop 14)) := by
  have hle := hr.le
  have hmx := hr.max
  have hlen := hr.length
  rcases hr.cells with h0 | ⟨ba, off, rfl, hcc⟩
  · omega
  obtain ⟨y0, y1, y2, y3, y4, y5, hy⟩ := take6 zs 0 (by omega)
  obtain ⟨z0, z1, z2, z3, z4, z5, hz⟩ := take6 zs 6 (by omega)
  obtain ⟨kd, hk⟩ : ∃ kd, rdTo zs 12 2 = kd := ⟨_, rfl⟩
  have hy' : zs.take 6 = [y0, y1, y2, y3, y4, y5] := by simpa using hy
  have v0 : rdTo zs 0 6 = rdTo [y0, y1, y2, y3, y4, y5] 0 6 := by rw [← hy', rdTo_take zs 0 6 6 (by omega)]
  have v1 : rdTo zs 6 6 = rdTo [z0, z1, z2, z3, z4, z5] 0 6 := by rw [← hz, rdTo_take _ 0 6 6 (by omega), rdTo_drop]
  have K0 := Lib.hid (fun W (hW : Rd W (some ⟨ba, off, none⟩) 14 14 zs) => readHead_any _ 14 14 zs y0 y1 y2 y3 y4 y5 z0 z1 z2 z3 z4 z5 kd W hW (by omega) hy' hz hk)
  have K1 := Lib.hid (fun W => number6_any y0 y1 y2 y3 y4 y5 W (by rw [← hy']; exact b8_take hr.b8 6))
  have K2 := Lib.hid (fun W => number6_any z0 z1 z2 z3 z4 z5 W (by rw [← hz]; exact b8_take (b8_drop hr.b8 6) 6))
  rw [v0, v1, hk]
  have HR := Lib.hid hr
  have B0 := Lib.hid ((Below.refl w.heap.size w).alloc (Nat.le_refl _) (.cells #[.int .i64 0, .int .i64 0, .int .i64 0, .int .i64 0, .slice none 0 0] 38))
  have R0 := Lib.hid (Box.new w 38 #[.int .i64 0, .int .i64 0, .int .i64 0, .int .i64 0, .slice none 0 0])
  clear hr hy hz hk hy' v0 v1 hlen hcc
  generalize rdTo [y0, y1, y2, y3, y4, y5] 0 6 = n0 at *
  generalize rdTo [z0, z1, z2, z3, z4, z5] 0 6 = n1 at *
  go_enter Try.func23, Try.ntmps23
  go_upto_region 3 with (fail)
  generalize w.alloc (.cells #[.int .i64 0, .int .i64 0, .int .i64 0, .int .i64 0, .slice none 0 0] 38) = W0 at *
  have T1 := Lib.hid (Below.refl W0.heap.size W0)
  have SS := Lib.hid (fun W (h : Hid (Below W0.heap.size W0 W)) => h)
  go_cut [3] (fun v wx => ∃ b4, v = .pointer (some ⟨b4, 0, none⟩) ∧ Hid (Box wx b4 68 #[.int .u8 y0, .int .u8 y1, .int .u8 y2, .int .u8 y3, .int .u8 y4, .int .u8 y5, .int .u8 z0, .int .u8 z1, .int .u8 z2, .int .u8 z3, .int .u8 z4, .int .u8 z5, .int .i64 kd, .slice (some ⟨ba, off, none⟩) 0 0]) ∧ Hid (Below W0.heap.size W0 wx) ∧ Hid (W0.heap.size ≤ b4))
  case first =>
    have TD := kDrew T1
    have TP := TD
    refine wp_region_held_drew (S := fun W => Hid (Below W0.heap.size W0 W)) (by kernel_rfl) (SS.out _ TD) (fun hHeld => ?_)
    refine wpAnyH_take (i := 0) (v := ?_) (by simp only [List.getElem?_toArray, List.getElem?_cons_zero]; exact rfl) (by kernel_rfl) (by kernel_rfl) (by kernel_rfl) (by exact fun _ _ _ h => h) (Or.inl ⟨by rfl, ?_⟩) hHeld ?_
    rotate_left
    · intro w' hSw
      obtain _ := hSw
      go_simp
      try with_reducible rfl
    try simp only [Act.put, List.setIfInBounds_toArray, List.set_cons_zero, List.set_cons_succ]
    refine wpAnyH_take (i := 2) (v := ?_) (by simp only [List.getElem?_toArray, List.getElem?_cons_zero, List.getElem?_cons_succ]; exact rfl) (by kernel_rfl) (by kernel_rfl) (by kernel_rfl) (by exact fun _ _ _ h => h) (Or.inl ⟨by rfl, ?_⟩) hHeld ?_
    rotate_left
    · intro w' hSw
      obtain _ := hSw
      go_simp
      try with_reducible rfl
    try simp only [Act.put, List.setIfInBounds_toArray, List.set_cons_zero, List.set_cons_succ]
    refine wpAnyH_take (i := 3) (v := ?_) (by simp only [List.getElem?_toArray, List.getElem?_cons_zero, List.getElem?_cons_succ]; exact rfl) (by kernel_rfl) (by kernel_rfl) (by kernel_rfl) (by exact fun _ _ _ h => h) (Or.inl ⟨by rfl, ?_⟩) hHeld ?_
    rotate_left
    · intro w' hSw
      obtain _ := hSw
      go_simp
      try with_reducible rfl
    try simp only [Act.put, List.setIfInBounds_toArray, List.set_cons_zero, List.set_cons_succ]
    refine wpAnyH_ready (rs := [1, 5]) (by kernel_rfl) (by simp) ?_
    refine (AllReadyH.cons (by simp only [List.getElem?_toArray, List.getElem?_cons_zero, List.getElem?_cons_succ]; exact rfl) (fun K hK => ?_) (AllReadyH.cons (by simp only [List.getElem?_toArray, List.getElem?_cons_zero, List.getElem?_cons_succ]; exact rfl) (fun K hK => ?_) AllReadyH.nil))
    · skip
      refine want_none (by exact rfl) ?_
      go_wp2_with fail
      refine (K0.out _ (HR.out.below (B0.out.trans (TP.out.mono B0.out.size)))).mono ?_
      rintro e w2 ⟨rfl, hb⟩
      have TC0 := kCall hb (kSize TD) TD
      clear hb
      go_wp2_with fail
      refine hK.out _ _ (SS.out _ TC0) (fun hHeld => ?_)
      clear hK K
      try simp only [Act.put, List.setIfInBounds_toArray, List.set_cons_zero, List.set_cons_succ]
      refine wpAnyH_take (i := 4) (v := ?_) (by simp only [List.getElem?_toArray, List.getElem?_cons_zero, List.getElem?_cons_succ]; exact rfl) (by kernel_rfl) (by kernel_rfl) (by kernel_rfl) (by exact fun _ _ _ h => h) (Or.inl ⟨by rfl, ?_⟩) hHeld ?_
      rotate_left
      · intro w' hSw
        obtain _ := hSw
        go_simp
        try with_reducible rfl
      try simp only [Act.put, List.setIfInBounds_toArray, List.set_cons_zero, List.set_cons_succ]
      refine wpAnyH_ready (rs := [5]) (by kernel_rfl) (by simp) ?_
      refine (AllReadyH.cons (by simp only [List.getElem?_toArray, List.getElem?_cons_zero, List.getElem?_cons_succ]; exact rfl) (fun K hK => ?_) AllReadyH.nil)
      refine want_none (by exact rfl) ?_
      go_wp2_with fail
      have ZB := Lib.hid (kSize TC0)
      have TA := kAlloc (o := .cells #[.int .u8 0, .int .u8 0, .int .u8 0, .int .u8 0, .int .u8 0, .int .u8 0, .int .u8 0, .int .u8 0, .int .u8 0, .int .u8 0, .int .u8 0, .int .u8 0, .int .i64 0, .slice none 0 0] 68) (kSize TC0) TC0
      have TP := TA
      refine hK.out _ _ (SS.out _ TA) (fun hHeld => ?_)
      have Z := Lib.hid (Box.new w2 68 #[.int .u8 0, .int .u8 0, .int .u8 0, .int .u8 0, .int .u8 0, .int .u8 0, .int .u8 0, .int .u8 0, .int .u8 0, .int .u8 0, .int .u8 0, .int .u8 0, .int .i64 0, .slice none 0 0])
      clear hK K
      try simp only [Act.put, List.setIfInBounds_toArray, List.set_cons_zero, List.set_cons_succ]
      refine wpAnyH_ready (rs := [6]) (by kernel_rfl) (by simp) ?_
      refine (AllReadyH.cons (by simp only [List.getElem?_toArray, List.getElem?_cons_zero, List.getElem?_cons_succ]; exact rfl) (fun K hK => ?_) AllReadyH.nil)
      refine storeBox_step _ rfl 68 (.tmp 3) (.tmp 17) rfl _ 68 _ #[.int .u8 y0, .int .u8 y1, .int .u8 y2, .int .u8 y3, .int .u8 y4, .int .u8 y5, .int .u8 z0, .int .u8 z1, .int .u8 z2, .int .u8 z3, .int .u8 z4, .int .u8 z5, .int .i64 kd, .slice (some ⟨ba, off, none⟩) 0 0] Z.out (by exact rfl) (by exact rfl) (by kernel_rfl) (by exact rfl) (by simp [Value.oneCell']) ?_
      intro wS xS gS
      have TS := kGrown gS TA ZB.out
      have ZS := Lib.hid xS
      clear xS gS
      refine hK.out _ _ (SS.out _ TS) (fun hHeld => ?_)
      clear hK K
      simp only [Act.put]
      refine wpAnyH_done (by kernel_rfl) ?_ _
      go_wp2_with fail
      go_meet
      exact ⟨_, rfl, ZS, TS, ZB⟩
    · skip
      refine want_none (by exact rfl) ?_
      go_wp2_with fail
      have ZB := Lib.hid (kSize TD)
      have TA := kAlloc (o := .cells #[.int .u8 0, .int .u8 0, .int .u8 0, .int .u8 0, .int .u8 0, .int .u8 0, .int .u8 0, .int .u8 0, .int .u8 0, .int .u8 0, .int .u8 0, .int .u8 0, .int .i64 0, .slice none 0 0] 68) (kSize TD) TD
      have TP := TA
      refine hK.out _ _ (SS.out _ TA) (fun hHeld => ?_)
      have Z := Lib.hid (Box.new W0.drew 68 #[.int .u8 0, .int .u8 0, .int .u8 0, .int .u8 0, .int .u8 0, .int .u8 0, .int .u8 0, .int .u8 0, .int .u8 0, .int .u8 0, .int .u8 0, .int .u8 0, .int .i64 0, .slice none 0 0])
      clear hK K
      try simp only [Act.put, List.setIfInBounds_toArray, List.set_cons_zero, List.set_cons_succ]
      refine wpAnyH_ready (rs := [1]) (by kernel_rfl) (by simp) ?_
      refine (AllReadyH.cons (by simp only [List.getElem?_toArray, List.getElem?_cons_zero, List.getElem?_cons_succ]; exact rfl) (fun K hK => ?_) AllReadyH.nil)
      refine want_none (by exact rfl) ?_
      go_wp2_with fail
      refine (K0.out _ (HR.out.below (B0.out.trans (TP.out.mono B0.out.size)))).mono ?_
      rintro e w2 ⟨rfl, hb⟩
      have TC0 := kCall hb (kSize TA) TA
      have Z := Lib.hid (Z.out.below hb Z.out.lt)
      clear hb
      go_wp2_with fail
      refine hK.out _ _ (SS.out _ TC0) (fun hHeld => ?_)
      clear hK K
      try simp only [Act.put, List.setIfInBounds_toArray, List.set_cons_zero, List.set_cons_succ]
      refine wpAnyH_take (i := 4) (v := ?_) (by simp only [List.getElem?_toArray, List.getElem?_cons_zero, List.getElem?_cons_succ]; exact rfl) (by kernel_rfl) (by kernel_rfl) (by kernel_rfl) (by exact fun _ _ _ h => h) (Or.inl ⟨by rfl, ?_⟩) hHeld ?_
      rotate_left
      · intro w' hSw
        obtain _ := hSw
        go_simp
        try with_reducible rfl
      try simp only [Act.put, List.setIfInBounds_toArray, List.set_cons_zero, List.set_cons_succ]
      refine wpAnyH_ready (rs := [6]) (by kernel_rfl) (by simp) ?_
      refine (AllReadyH.cons (by simp only [List.getElem?_toArray, List.getElem?_cons_zero, List.getElem?_cons_succ]; exact rfl) (fun K hK => ?_) AllReadyH.nil)
      refine storeBox_step _ rfl 68 (.tmp 3) (.tmp 17) rfl _ 68 _ #[.int .u8 y0, .int .u8 y1, .int .u8 y2, .int .u8 y3, .int .u8 y4, .int .u8 y5, .int .u8 z0, .int .u8 z1, .int .u8 z2, .int .u8 z3, .int .u8 z4, .int .u8 z5, .int .i64 kd, .slice (some ⟨ba, off, none⟩) 0 0] Z.out (by exact rfl) (by exact rfl) (by kernel_rfl) (by exact rfl) (by simp [Value.oneCell']) ?_
      intro wS xS gS
      have TS := kGrown gS TC0 ZB.out
      have ZS := Lib.hid xS
      clear xS gS
      refine hK.out _ _ (SS.out _ TS) (fun hHeld => ?_)
      clear hK K
      simp only [Act.put]
      refine wpAnyH_done (by kernel_rfl) ?_ _
      go_wp2_with fail
      go_meet
      exact ⟨_, rfl, ZS, TS, ZB⟩
  case rest =>
    obtain ⟨b4, rfl, ZX, TX, ZB⟩ := hcut
    have R1 := Lib.hid (R0.out.below TX.out R0.out.lt)
    have B1 := Lib.hid (B0.out.trans (TX.out.mono B0.out.size))
    have H1 : Hid (Rd wc (some ⟨ba, off, none⟩) 0 0 (zs.drop 14)) := ⟨by have := HR.out.length; simp; omega, Nat.le_refl _, Nat.zero_le _, b8_drop HR.out.b8 14, by simp, .inl rfl⟩
    have N1 : Hid (¬ b4 = w.heap.size) := fun e => by have := R0.out.lt; have := ZB.out; omega
    generalize hA14 : (some ⟨ba, off, none⟩ : Option Addr) = a14 at *
    generalize zs.drop 14 = ys at *
    clear hA14
    clear R0 B0 SS T1 TX HR K0 ZB
    obtain ⟨bl, hbl⟩ : ∃ bl : List (Nat × TypeId × Array Value), bl = [(b4, 68, #[.int .u8 y0, .int .u8 y1, .int .u8 y2, .int .u8 y3, .int .u8 y4, .int .u8 y5, .int .u8 z0, .int .u8 z1, .int .u8 z2, .int .u8 z3, .int .u8 z4, .int .u8 z5, .int .i64 kd, .slice a14 0 0])] := ⟨_, rfl⟩
    have T1 : Hid (Bs bl wc) := by
      rw [hbl]
      intro x hx
      simp only [List.mem_cons, List.not_mem_nil, or_false] at hx
      subst hx
      exact ZX.out
    have NE : Hid (∀ x ∈ bl, x.1 ≠ w.heap.size) := by
      rw [hbl]
      intro x hx
      simp only [List.mem_cons, List.not_mem_nil, or_false] at hx
      subst hx
      exact N1.out
    have SS := Lib.hid (show ∀ W, Hid (Bs bl W) → W.cell? ⟨b4, 0, none⟩ = some (.int .u8 y0) ∧ W.cell? ⟨b4, 1, none⟩ = some (.int .u8 y1) ∧ W.cell? ⟨b4, 2, none⟩ = some (.int .u8 y2) ∧ W.cell? ⟨b4, 3, none⟩ = some (.int .u8 y3) ∧ W.cell? ⟨b4, 4, none⟩ = some (.int .u8 y4) ∧ W.cell? ⟨b4, 5, none⟩ = some (.int .u8 y5) ∧ W.cell? ⟨b4, 6, none⟩ = some (.int .u8 z0) ∧ W.cell? ⟨b4, 7, none⟩ = some (.int .u8 z1) ∧ W.cell? ⟨b4, 8, none⟩ = some (.int .u8 z2) ∧ W.cell? ⟨b4, 9, none⟩ = some (.int .u8 z3) ∧ W.cell? ⟨b4, 10, none⟩ = some (.int .u8 z4) ∧ W.cell? ⟨b4, 11, none⟩ = some (.int .u8 z5) ∧ W.cell? ⟨b4, 12, none⟩ = some (.int .i64 kd) ∧ W.cell? ⟨b4, 13, none⟩ = some (.slice a14 0 0) ∧ Hid (Bs bl W) from fun W h => by
      have h' := h
      rw [hbl] at h
      have ha := h.out _ (List.Mem.head _)
      exact ⟨ha.cell 0, ha.cell 1, ha.cell 2, ha.cell 3, ha.cell 4, ha.cell 5, ha.cell 6, ha.cell 7, ha.cell 8, ha.cell 9, ha.cell 10, ha.cell 11, ha.cell 12, ha.cell 13, h'⟩)
    clear hbl ZX N1
    go_wp2_with fail
    go_region_held3 (fun W => W.cell? ⟨b4, 0, none⟩ = some (.int .u8 y0) ∧ W.cell? ⟨b4, 1, none⟩ = some (.int .u8 y1) ∧ W.cell? ⟨b4, 2, none⟩ = some (.int .u8 y2) ∧ W.cell? ⟨b4, 3, none⟩ = some (.int .u8 y3) ∧ W.cell? ⟨b4, 4, none⟩ = some (.int .u8 y4) ∧ W.cell? ⟨b4, 5, none⟩ = some (.int .u8 y5) ∧ W.cell? ⟨b4, 6, none⟩ = some (.int .u8 z0) ∧ W.cell? ⟨b4, 7, none⟩ = some (.int .u8 z1) ∧ W.cell? ⟨b4, 8, none⟩ = some (.int .u8 z2) ∧ W.cell? ⟨b4, 9, none⟩ = some (.int .u8 z3) ∧ W.cell? ⟨b4, 10, none⟩ = some (.int .u8 z4) ∧ W.cell? ⟨b4, 11, none⟩ = some (.int .u8 z5) ∧ W.cell? ⟨b4, 12, none⟩ = some (.int .i64 kd) ∧ W.cell? ⟨b4, 13, none⟩ = some (.slice a14 0 0) ∧ Hid (Bs bl W))
      (first
        | (go_split_ands; refine SS.out _ ?_; (with_reducible assumption))
        | (go_split_ands; refine SS.out _ ?_; (with_reducible refine bsDrew ?_); (with_reducible assumption))
        | (go_split_ands; refine SS.out _ ?_; (with_reducible refine bsSet NE.out ?_); (with_reducible refine bsSet NE.out ?_); (with_reducible refine bsSet NE.out ?_); (with_reducible refine bsSet NE.out ?_); (with_reducible refine bsSet NE.out ?_); (with_reducible assumption))
        | (go_split_ands; refine SS.out _ ?_; (with_reducible refine bsAlloc ?_); (with_reducible assumption))
        | (go_split_ands; refine SS.out _ ?_; (with_reducible refine bsCall hb ?_); (with_reducible assumption)))
      (first
        | (have q := M1; clear q; go_at_call 52; refine (bclone_any _ _ _ _ _ H3.out (by omega)).mono ?_; rintro e w4 ⟨a4, c4, rfl, o4, hb⟩; have R4 := R3.out.below hb R3.out.lt; obtain ⟨_, r0, r1, r2, r3, r4⟩ := R4.five; have f0 := R4.frozen 0; have f1 := R4.frozen 1; have f2 := R4.frozen 2; have f3 := R4.frozen 3; have f4 := R4.frozen 4)
        | (have q := M0; clear q; go_at_call 51; refine (K2.out _).mono ?_; rintro e w3 ⟨rfl, hb⟩; have R3 := Lib.hid (R2.out.below hb R2.out.lt); have B3 := Lib.hid (B2.out.trans (hb.mono B2.out.size)); have H3 := Lib.hid (H2.out.below hb); have M1 := Lib.hid trivial)
        | (go_at_call 51; refine (K1.out _).mono ?_; rintro e w2 ⟨rfl, hb⟩; have R2 := Lib.hid ((show Box wc.drew _ _ _ from R1.out).below hb R1.out.lt); have B2 := Lib.hid (B1.out.drew.trans (hb.mono B1.out.drew.size)); have H2 := Lib.hid (H1.out.drew.below hb); have M0 := Lib.hid trivial))
    have hr3 := R3.out.lt
    have hs3 := B3.out.size
    have B4 := Lib.hid (B3.out.trans (hb.mono hs3))
    have hn : Hid (∀ x, a4 = some x → ¬ x.block = w.heap.size) := fun x hx e => by
      have := (o4.lt x hx).1
      omega
    have O4 : Hid (Own w4 w.heap.size a4 0 c4 ys) := o4.rebase hs3
    clear o4 hb R2 R3 B2 B3 H2 H3 R4 hr3 hs3 R1 B1 H1 SS T1
    go_wp2
    refine bodyPost_ret (v := .agg #[.int .i64 0, .int .i64 n0, .int .i64 n1, .int .i64 kd, .slice a4 0 c4]) (by simp [results, Try.results23, go_sem, r0, r1, r2, r3, r4]) rfl ⟨_, _, _, rfl, ?_, ?_⟩
    · exact ((((O4.out.setOther _ _ hn.out).setOther _ _ hn.out).setOther _ _ hn.out).setOther _ _ hn.out).setOther _ _ hn.out
    · exact ((((B4.out.setCell (Nat.le_refl _) _).setCell (Nat.le_refl _) _).setCell (Nat.le_refl _) _).setCell (Nat.le_refl _) _).setCell (Nat.le_refl _) _


theorem implReadFrame_ok (a : Option Addr) (len cap : Nat) (zs : List Int) (w : World) (hr : Rd w a len cap zs) (h : rfOk len = true) :
    Calls Try.prog 23 #[.slice a len cap] w (FrameRes w 0 (rdTo zs 0 6) (rdTo zs 6 6) (rdTo zs 12 2) (zs.drop 14)) := by
  simp only [rfOk, decide_eq_true_eq] at h
  obtain ⟨h1, h2⟩ := h
  by_cases hcap : cap = 14
  · subst hcap
    obtain rfl : len = 14 := by have := hr.le; omega
    exact implReadFrame_ok2 a zs w hr
  · exact implReadFrame_ok1 a len cap zs w hr h1 h2 hcap

theorem readFrame_law (a : Option Addr) (len cap : Nat) (zs : List Int) (w : World) (h : Rd w a len cap zs) :
    Calls Try.prog 5 #[.slice a len cap] w fun e w' => e = .returned (.bool true) ∧ Below w.heap.size w w' := by
  have hl := h.length
  cases hk : rfOk len with
  | true =>
    refine exactReadFrame a len cap zs 0 (rdTo zs 0 6) (rdTo zs 6 6) (rdTo zs 12 2) (zs.drop 14) w h (fun a' l' c' W hW => ?_) (fun a' l' c' W hW => ?_) ?_
    · exact specReadFrame_ok a' l' c' zs W hW (by rw [← hW.length, hl]; exact hk)
    · exact implReadFrame_ok a' l' c' zs W hW (by rw [← hW.length, hl]; exact hk)
    · simp only [rfOk, decide_eq_true_eq] at hk
      rw [List.length_drop]
      omega
  | false =>
    refine exactReadFrame a len cap zs 2 0 0 0 [] w h (fun a' l' c' W hW => ?_) (fun a' l' c' W hW => ?_) (Nat.zero_le _)
    · exact specReadFrame_no a' l' c' W (by rw [← hW.length, hl]; exact hk)
    · exact implReadFrame_no a' l' c' W (by rw [← hW.length, hl]; exact hk)
end Go.Proofs.Ytkneicepflkfhaa
