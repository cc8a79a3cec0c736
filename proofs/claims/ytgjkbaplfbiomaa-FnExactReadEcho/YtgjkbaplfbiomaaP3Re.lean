/-
  echoIn of the program; ReadEcho's law.
-/
import Derived.Test.YtgjkbaplfbiomaaP3RdK
import Derived.Test.YtgjkbaplfbiomaaFlow
namespace Go.Proofs.Ytgjkbaplfbiomaa
open Go.ChangeShapes Go.WideShapes Go.ChangeAt Go.RowKit

theorem rd_tail8 {W : World} {ba off : Nat} {zs : List Int} (h : Rd W (some ⟨ba, off, none⟩) 8 8 zs) : Rd W (some ⟨ba, off, none⟩) 0 0 (zs.drop 8) := by
  have := h.fromIf 8 (by omega)
  simpa using this

theorem echoIn_len (a : Option Addr) (len cap : Nat) (w : World) (h : reLen len = false) : Calls Try.prog 74 #[.slice a len cap] w (Refused w 2) := by
  simp only [reLen, decide_eq_false_iff_not] at h
  have B0 := Lib.hid ((Below.refl w.heap.size w).alloc (Nat.le_refl _) (.cells #[.bool false, .int .i64 0, .int .i64 0, .slice none 0 0] 35))
  by_cases h1 : 8 ≤ len
  · have h2 : ¬ len ≤ 560 := fun h2 => h ⟨h1, h2⟩
    have e1 : decide ((len : Int) < 8) = false := decide_eq_false (by omega)
    have e2 : decide ((560 : Int) < len) = true := decide_eq_true (by omega)
    clear h h1 h2
    go_enter Try.func74, Try.ntmps74
    go_wp2_with fail
    refine (refuse_yes _ _).mono ?_
    rintro e w' ⟨rfl, rfl⟩
    go_wp2
    exact ⟨rfl, rfl, B0.out⟩
  · have e1 : decide ((len : Int) < 8) = true := decide_eq_true (by omega)
    clear h h1
    go_enter Try.func74, Try.ntmps74
    go_wp2_with fail
    refine (refuse_yes _ _).mono ?_
    rintro e w' ⟨rfl, rfl⟩
    go_wp2
    exact ⟨rfl, rfl, B0.out⟩

set_option maxRecDepth 20000 in
set_option maxHeartbeats 2000000 in
theorem echoIn_sum (a : Option Addr) (len cap : Nat) (zs : List Int) (w : World) (hr : Rd w a len cap zs) (h1 : 8 ≤ len) (h2 : len ≤ 560) (b0 b1 : Int) (q0 : zs.getD 0 0 = b0) (q1 : zs.getD 1 0 = b1) (hs : decide (sumV zs = 0) = false) : Calls Try.prog 74 #[.slice a len cap] w (Refused w 6) := by
  have hle := hr.le
  have hmx := hr.max
  rcases hr.cells with h0 | ⟨ba, off, rfl, hc⟩
  · omega
  have d1 : decide ((len : Int) < 8) = false := decide_eq_false (by omega)
  have d2 : decide ((560 : Int) < len) = false := decide_eq_false (by omega)
  have i0 : (0 : Int) < len := by omega
  have i0n : 0 < len := by omega
  have i1 : (1 : Int) < len := by omega
  have i8l : (8 : Int) ≤ len := by omega
  have hfi := fld_ir
  have HR := Lib.hid (fun W (hW : Below w.heap.size w W) => hr.below hW)
  have CC := Lib.hid (fun W (hW : Below w.heap.size w W) (i : Nat) (hi : i < len) => (hW.cell (World.block_lt_of_cell? _ _ (hc i hi))).trans (hc i hi))
  have B0 := Lib.hid ((Below.refl w.heap.size w).alloc (Nat.le_refl _) (.cells #[.bool false, .int .i64 0, .int .i64 0, .slice none 0 0] 35))
  have X0 := Lib.hid (Box.new w 35 #[.bool false, .int .i64 0, .int .i64 0, .slice none 0 0])
  have Q0 := Lib.hid q0
  have Q1 := Lib.hid q1
  have KS := Lib.hid (fun W (hW : Below w.heap.size w W) => isSummed_is _ len cap zs false W (hr.below hW) (by omega) hs)
  clear hr hc q0 q1 hs
  go_enter Try.func74, Try.ntmps74
  go_wp2_with fail
  refine (refuse_no _ _).mono ?_
  rintro e w' ⟨rfl, rfl⟩
  go_wp2_with fail
  refine (KS.out _ B0.out).mono ?_
  rintro e w1 ⟨rfl, b1⟩
  have B1 := Lib.hid (B0.out.trans (b1.mono B0.out.size))
  have X1 := Lib.hid (X0.out.below b1 X0.out.lt)
  clear b1 X0 B0
  go_wp2_with fail
  refine (refuse_yes _ _).mono ?_
  rintro e w' ⟨rfl, rfl⟩
  go_wp2
  exact ⟨rfl, rfl, B1.out⟩

set_option maxRecDepth 20000 in
set_option maxHeartbeats 2000000 in
theorem echoIn_form (a : Option Addr) (len cap : Nat) (zs : List Int) (w : World) (hr : Rd w a len cap zs) (h1 : 8 ≤ len) (h2 : len ≤ 560) (b0 b1 : Int) (q0 : zs.getD 0 0 = b0) (q1 : zs.getD 1 0 = b1) (hs : decide (sumV zs = 0) = true) (hf : (b0 != 8) = true ∧ (b0 != 0) = true ∨ (b0 != 8) = false ∧ (b1 != 0) = true ∨ (b0 != 8) = true ∧ (b0 != 0) = false ∧ (b1 != 0) = true) : Calls Try.prog 74 #[.slice a len cap] w (Refused w 1) := by
  have hle := hr.le
  have hmx := hr.max
  rcases hr.cells with h0 | ⟨ba, off, rfl, hc⟩
  · omega
  have d1 : decide ((len : Int) < 8) = false := decide_eq_false (by omega)
  have d2 : decide ((560 : Int) < len) = false := decide_eq_false (by omega)
  have i0 : (0 : Int) < len := by omega
  have i0n : 0 < len := by omega
  have i1 : (1 : Int) < len := by omega
  have i8l : (8 : Int) ≤ len := by omega
  have hfi := fld_ir
  have HR := Lib.hid (fun W (hW : Below w.heap.size w W) => hr.below hW)
  have CC := Lib.hid (fun W (hW : Below w.heap.size w W) (i : Nat) (hi : i < len) => (hW.cell (World.block_lt_of_cell? _ _ (hc i hi))).trans (hc i hi))
  have B0 := Lib.hid ((Below.refl w.heap.size w).alloc (Nat.le_refl _) (.cells #[.bool false, .int .i64 0, .int .i64 0, .slice none 0 0] 35))
  have X0 := Lib.hid (Box.new w 35 #[.bool false, .int .i64 0, .int .i64 0, .slice none 0 0])
  have Q0 := Lib.hid q0
  have Q1 := Lib.hid q1
  have KS := Lib.hid (fun W (hW : Below w.heap.size w W) => isSummed_is _ len cap zs true W (hr.below hW) (by omega) hs)
  clear hr hc q0 q1 hs
  rcases hf with ⟨f0, f1⟩ | ⟨f0, f1⟩ | ⟨f0, f1, f2⟩
  all_goals
    go_enter Try.func74, Try.ntmps74
    go_wp2_with fail
    refine (refuse_no _ _).mono ?_
    rintro e w' ⟨rfl, rfl⟩
    go_wp2_with fail
    refine (KS.out _ B0.out).mono ?_
    rintro e w1 ⟨rfl, b1⟩
    have B1 := Lib.hid (B0.out.trans (b1.mono B0.out.size))
    have X1 := Lib.hid (X0.out.below b1 X0.out.lt)
    clear b1 X0 B0
    go_wp2_with fail
    refine (refuse_no _ _).mono ?_
    rintro e w' ⟨rfl, rfl⟩
    have c0 := CC.out _ B1.out 0 i0n
    rw [Q0.out] at c0
    simp only [Nat.add_zero] at c0
    have c1 := CC.out _ B1.out 1 (by omega)
    rw [Q1.out] at c1
    go_wp2_with fail
    refine (refuse_yes _ _).mono ?_
    rintro e w' ⟨rfl, rfl⟩
    go_wp2
    exact ⟨rfl, rfl, B1.out⟩

set_option maxRecDepth 20000 in
set_option maxHeartbeats 4000000 in
theorem echoIn_ok1 (a : Option Addr) (len cap : Nat) (zs : List Int) (w : World) (hr : Rd w a len cap zs) (h1 : 8 ≤ len) (h2 : len ≤ 560) (b0 b1 : Int) (q0 : zs.getD 0 0 = b0) (q1 : zs.getD 1 0 = b1) (hcap : ¬ cap = 8) (hs : decide (sumV zs = 0) = true) (hf : (b0 != 8) = false ∧ (b1 != 0) = false ∨ (b0 != 8) = true ∧ (b0 != 0) = false ∧ (b1 != 0) = false) :
    Calls Try.prog 74 #[.slice a len cap] w (EchoOut w (b0 == 0) (rdTo zs 4 2) (rdTo zs 6 2) (zs.drop 8)) := by
  have hle := hr.le
  have hmx := hr.max
  rcases hr.cells with h0 | ⟨ba, off, rfl, hc⟩
  · omega
  have d1 : decide ((len : Int) < 8) = false := decide_eq_false (by omega)
  have d2 : decide ((560 : Int) < len) = false := decide_eq_false (by omega)
  have i0 : (0 : Int) < len := by omega
  have i0n : 0 < len := by omega
  have i1 : (1 : Int) < len := by omega
  have i8l : (8 : Int) ≤ len := by omega
  have hfi := fld_ir
  have HR := Lib.hid (fun W (hW : Below w.heap.size w W) => hr.below hW)
  have CC := Lib.hid (fun W (hW : Below w.heap.size w W) (i : Nat) (hi : i < len) => (hW.cell (World.block_lt_of_cell? _ _ (hc i hi))).trans (hc i hi))
  have B0 := Lib.hid ((Below.refl w.heap.size w).alloc (Nat.le_refl _) (.cells #[.bool false, .int .i64 0, .int .i64 0, .slice none 0 0] 35))
  have X0 := Lib.hid (Box.new w 35 #[.bool false, .int .i64 0, .int .i64 0, .slice none 0 0])
  have Q0 := Lib.hid q0
  have Q1 := Lib.hid q1
  have KS := Lib.hid (fun W (hW : Below w.heap.size w W) => isSummed_is _ len cap zs true W (hr.below hW) (by omega) hs)
  obtain ⟨m1, hm1⟩ : ∃ m, rdTo zs 4 2 = m := ⟨_, rfl⟩
  obtain ⟨m2, hm2⟩ : ∃ m, rdTo zs 6 2 = m := ⟨_, rfl⟩
  obtain ⟨ys, hys⟩ : ∃ ys, zs.drop 8 = ys := ⟨_, rfl⟩
  have K3 := Lib.hid (fun W (hW : Below w.heap.size w W) => readWord_lit _ len cap 4 2 4 2 m1 zs W (hr.below hW) rfl rfl (by omega) (by omega) (by omega) hm1)
  have K4 := Lib.hid (fun W (hW : Below w.heap.size w W) => readWord_lit _ len cap 6 2 6 2 m2 zs W (hr.below hW) rfl rfl (by omega) (by omega) (by omega) hm2)
  have HD := Lib.hid (show ∀ W, Below w.heap.size w W → Rd W (some ⟨ba, off + 8, none⟩) (len - 8) (cap - 8) ys from fun W hW => by rw [← hys]; exact (hr.below hW).from 8 _ _ _ (by omega) rfl rfl rfl)
  have KD := Lib.hid (fun W (hW : Below w.heap.size w W) => bclone_any (some ⟨ba, off + 8, none⟩) (len - 8) (cap - 8) ys W (HD.out W hW) (by omega))
  have SS := Lib.hid (show ∀ W, Hid (Below w.heap.size w W) → W.cell? ⟨ba, off, none⟩ = some (.int .u8 b0) ∧ Hid (Below w.heap.size w W) from fun W h => by
    refine ⟨?_, h⟩
    have := CC.out W h.out 0 (by omega)
    rw [q0] at this
    simpa using this)
  rw [hm1, hm2, hys]
  clear hr hc q0 q1 hs
  clear hm1 hm2 hys HD
  have hrn : w.heap.size < w.heap.size + 1 := Nat.lt_succ_self _
  have hn1 : w.heap.size ≤ w.heap.size + 1 := Nat.le_succ _
  generalize hn0 : w.heap.size + 1 = n0 at hrn hn1
  have HN := Lib.hid hn0
  clear hn0
  rcases hf with ⟨f0, f1⟩ | ⟨f0, f1, f2⟩
  all_goals
    go_enter Try.func74, Try.ntmps74
    go_wp2_with fail
    refine (refuse_no _ _).mono ?_
    rintro e w' ⟨rfl, rfl⟩
    go_wp2_with fail
    refine (KS.out _ B0.out).mono ?_
    rintro e w1 ⟨rfl, b1⟩
    have B1 := Lib.hid (B0.out.trans (b1.mono B0.out.size))
    have X1 := Lib.hid (X0.out.below b1 X0.out.lt)
    clear b1 X0 B0
    go_wp2_with fail
    refine (refuse_no _ _).mono ?_
    rintro e w' ⟨rfl, rfl⟩
    have c0 := CC.out _ B1.out 0 i0n
    rw [Q0.out] at c0
    simp only [Nat.add_zero] at c0
    have c1 := CC.out _ B1.out 1 (by omega)
    rw [Q1.out] at c1
    go_wp2_with fail
    refine (refuse_no _ _).mono ?_
    rintro e w' ⟨rfl, rfl⟩
    go_wp2_with fail
    clear c0 c1
    have hn0 := HN.out
    have TD := kDrew B1
    refine wp_region_held_drew (S := fun W => W.cell? ⟨ba, off, none⟩ = some (.int .u8 b0) ∧ Hid (Below w.heap.size w W)) (by kernel_rfl) (SS.out _ TD) (fun hHeld => ?_)
    refine wpAnyH_take (i := 0) (v := ?_) (by simp only [List.getElem?_toArray, List.getElem?_cons_zero]; exact rfl) (by kernel_rfl) (by kernel_rfl) (by kernel_rfl) (by exact fun _ _ _ h => h) (Or.inl ⟨by rfl, ?_⟩) hHeld ?_
    rotate_left
    · intro w' hSw
      obtain ⟨s0, _⟩ := hSw
      go_simp
      try with_reducible rfl
    try simp only [Act.put, List.setIfInBounds_toArray, List.set_cons_zero, List.set_cons_succ]
    refine wpAnyH_take (i := 1) (v := ?_) (by simp only [List.getElem?_toArray, List.getElem?_cons_zero, List.getElem?_cons_succ]; exact rfl) (by kernel_rfl) (by kernel_rfl) (by kernel_rfl) (by exact fun _ _ _ h => h) (Or.inl ⟨by rfl, ?_⟩) hHeld ?_
    rotate_left
    · intro w' hSw
      obtain ⟨s0, _⟩ := hSw
      go_simp
      try with_reducible rfl
    try simp only [Act.put, List.setIfInBounds_toArray, List.set_cons_zero, List.set_cons_succ]
    refine wpAnyH_take (i := 2) (v := ?_) (by simp only [List.getElem?_toArray, List.getElem?_cons_zero, List.getElem?_cons_succ]; exact rfl) (by kernel_rfl) (by kernel_rfl) (by kernel_rfl) (by exact fun _ _ _ h => h) (Or.inl ⟨by rfl, ?_⟩) hHeld ?_
    rotate_left
    · intro w' hSw
      obtain ⟨s0, _⟩ := hSw
      go_simp
      try with_reducible rfl
    try simp only [Act.put, List.setIfInBounds_toArray, List.set_cons_zero, List.set_cons_succ]
    refine wpAnyH_take (i := 3) (v := ?_) (by simp only [List.getElem?_toArray, List.getElem?_cons_zero, List.getElem?_cons_succ]; exact rfl) (by kernel_rfl) (by kernel_rfl) (by kernel_rfl) (by exact fun _ _ _ h => h) (Or.inl ⟨by rfl, ?_⟩) hHeld ?_
    rotate_left
    · intro w' hSw
      obtain ⟨s0, _⟩ := hSw
      go_simp
      try with_reducible rfl
    try simp only [Act.put, List.setIfInBounds_toArray, List.set_cons_zero, List.set_cons_succ]
    refine wpAnyH_take (i := 4) (v := ?_) (by simp only [List.getElem?_toArray, List.getElem?_cons_zero, List.getElem?_cons_succ]; exact rfl) (by kernel_rfl) (by kernel_rfl) (by kernel_rfl) (by exact fun _ _ _ h => h) (Or.inl ⟨by rfl, ?_⟩) hHeld ?_
    rotate_left
    · intro w' hSw
      obtain ⟨s0, _⟩ := hSw
      go_simp
      try with_reducible rfl
    try simp only [Act.put, List.setIfInBounds_toArray, List.set_cons_zero, List.set_cons_succ]
    refine wpAnyH_take (i := 7) (v := ?_) (by simp only [List.getElem?_toArray, List.getElem?_cons_zero, List.getElem?_cons_succ]; exact rfl) (by kernel_rfl) (by kernel_rfl) (by kernel_rfl) (by exact fun _ _ _ h => h) (Or.inl ⟨by rfl, ?_⟩) hHeld ?_
    rotate_left
    · intro w' hSw
      obtain ⟨s0, _⟩ := hSw
      go_simp
      try with_reducible rfl
    try simp only [Act.put, List.setIfInBounds_toArray, List.set_cons_zero, List.set_cons_succ]
    refine wpAnyH_take (i := 10) (v := ?_) (by simp only [List.getElem?_toArray, List.getElem?_cons_zero, List.getElem?_cons_succ]; exact rfl) (by kernel_rfl) (by kernel_rfl) (by kernel_rfl) (by exact fun _ _ _ h => h) (Or.inl ⟨by rfl, ?_⟩) hHeld ?_
    rotate_left
    · intro w' hSw
      obtain ⟨s0, _⟩ := hSw
      go_simp
      try with_reducible rfl
    try simp only [Act.put, List.setIfInBounds_toArray, List.set_cons_zero, List.set_cons_succ]
    refine wpAnyH_take (i := 11) (v := ?_) (by simp only [List.getElem?_toArray, List.getElem?_cons_zero, List.getElem?_cons_succ]; exact rfl) (by kernel_rfl) (by kernel_rfl) (by kernel_rfl) (by exact fun _ _ _ h => h) (Or.inl ⟨by rfl, ?_⟩) hHeld ?_
    rotate_left
    · intro w' hSw
      obtain ⟨s0, _⟩ := hSw
      go_simp
      try with_reducible rfl
    try simp only [Act.put, List.setIfInBounds_toArray, List.set_cons_zero, List.set_cons_succ]
    refine flow_go (Inv := fun listed ac W => ∃ v38 v39 v41 v42 v45 v46 : Value, ac = { tmps := #[.slice (some ⟨ba, off, none⟩) len cap, _, .pointer (some ⟨w.heap.size, 0, none⟩), _, _, _, _, _, _, _, _, _, _, _, _, _, _, _, _, _, _, _, _, _, _, _, _, _, _, _, _, _, _, .slice (some ⟨ba, off, none⟩) len cap, .pointer (some ⟨ba, off, none⟩), .int .u8 b0, .bool (b0 == 0), .slice (some ⟨ba, off, none⟩) len cap, v38, v39, .slice (some ⟨ba, off, none⟩) len cap, v41, v42, .slice (some ⟨ba, off, none⟩) len cap, .slice (some ⟨ba, off + 8, none⟩) (len - 8) (cap - 8), v45, v46], defers := [] } ∧ Hid (Below w.heap.size w W) ∧ Hid (∃ vs : Array Value, Box W w.heap.size 35 vs ∧ vs.size = 4) ∧ Fl listed 5 (EqV v38 (.agg #[.int .i64 0, .int .i64 m1])) ∧ Fl listed 6 (EqV v39 (.int .i64 m1)) ∧ Fl listed 8 (EqV v41 (.agg #[.int .i64 0, .int .i64 m2])) ∧ Fl listed 9 (EqV v42 (.int .i64 m2)) ∧ Fl listed 12 (SlV W n0 v45 (len - 8) ys) ∧ Fl listed 13 (AgV W n0 v46 #[.bool (b0 == 0), .int .i64 m1, .int .i64 m2] (len - 8) ys) ∧ Fl listed 14 (BxV W n0 w.heap.size 35 #[.bool (b0 == 0), .int .i64 m1, .int .i64 m2] (len - 8) ys)) [5, 6, 8, 9, 12, 13, 14] (by kernel_rfl) (by kernel_rfl) ⟨_, _, _, _, _, _, rfl, TD, ⟨_, (show Box _ _ _ _ from X1.out), rfl⟩, Fl.not (by kernel_rfl), Fl.not (by kernel_rfl), Fl.not (by kernel_rfl), Fl.not (by kernel_rfl), Fl.not (by kernel_rfl), Fl.not (by kernel_rfl), Fl.not (by kernel_rfl)⟩
      (FlowAll.cons [] (by simp only [List.getElem?_toArray, List.getElem?_cons_zero, List.getElem?_cons_succ]; exact rfl) (by kernel_rfl) (fun listed ac W hI hd K hK => ?_)
        (FlowAll.cons [5] (by simp only [List.getElem?_toArray, List.getElem?_cons_zero, List.getElem?_cons_succ]; exact rfl) (by kernel_rfl) (fun listed ac W hI hd K hK => ?_)
        (FlowAll.cons [] (by simp only [List.getElem?_toArray, List.getElem?_cons_zero, List.getElem?_cons_succ]; exact rfl) (by kernel_rfl) (fun listed ac W hI hd K hK => ?_)
        (FlowAll.cons [8] (by simp only [List.getElem?_toArray, List.getElem?_cons_zero, List.getElem?_cons_succ]; exact rfl) (by kernel_rfl) (fun listed ac W hI hd K hK => ?_)
        (FlowAll.cons [] (by simp only [List.getElem?_toArray, List.getElem?_cons_zero, List.getElem?_cons_succ]; exact rfl) (by kernel_rfl) (fun listed ac W hI hd K hK => ?_)
        (FlowAll.cons [6, 9, 12] (by simp only [List.getElem?_toArray, List.getElem?_cons_zero, List.getElem?_cons_succ]; exact rfl) (by kernel_rfl) (fun listed ac W hI hd K hK => ?_)
        (FlowAll.cons [13] (by simp only [List.getElem?_toArray, List.getElem?_cons_zero, List.getElem?_cons_succ]; exact rfl) (by kernel_rfl) (fun listed ac W hI hd K hK => ?_)
        FlowAll.nil)))))))
      (fun listed ac W hI hall => ?_)
    · obtain ⟨v38, v39, v41, v42, v45, v46, rfl, TB, XB, f5, f6, f8, f9, f12, f13, f14⟩ := hI
      obtain ⟨vsR, xR, sR⟩ := XB.out
      have hnW : n0 ≤ W.heap.size := by have := xR.lt; omega
      refine want_none (by exact rfl) ?_
      go_wp2_with fail
      refine (K3.out _ TB.out).mono ?_
      rintro e w' ⟨rfl, hb0⟩
      go_wp2_with fail
      have hb : Below W.heap.size W _ := hb0
      have TB' := kCall hb (kSize TB) TB
      refine hK.out _ _ (SS.out _ TB') ?_
      exact ⟨_, _, _, _, _, _, rfl, TB', ⟨_, xR.below hb xR.lt, sR⟩, Fl.new (EqV.rfl _), f6.keep (by decide) (keepE hb), f8.keep (by decide) (keepE hb), f9.keep (by decide) (keepE hb), f12.keep (by decide) (SlV.below hb), f13.keep (by decide) (AgV.below hb), f14.keep (by decide) (BxV.below hb)⟩
    · obtain ⟨v38, v39, v41, v42, v45, v46, rfl, TB, XB, f5, f6, f8, f9, f12, f13, f14⟩ := hI
      obtain ⟨vsR, xR, sR⟩ := XB.out
      have hnW : n0 ≤ W.heap.size := by have := xR.lt; omega
      obtain ⟨rfl⟩ := f5.get (hd 5 (by simp))
      refine want_none (by exact rfl) ?_
      go_wp2_with fail
      refine hK.out _ _ (SS.out _ TB) ?_
      exact ⟨_, _, _, _, _, _, rfl, TB, XB, f5.keep (by decide) id, Fl.new (EqV.rfl _), f8.keep (by decide) id, f9.keep (by decide) id, f12.keep (by decide) id, f13.keep (by decide) id, f14.keep (by decide) id⟩
    · obtain ⟨v38, v39, v41, v42, v45, v46, rfl, TB, XB, f5, f6, f8, f9, f12, f13, f14⟩ := hI
      obtain ⟨vsR, xR, sR⟩ := XB.out
      have hnW : n0 ≤ W.heap.size := by have := xR.lt; omega
      refine want_none (by exact rfl) ?_
      go_wp2_with fail
      refine (K4.out _ TB.out).mono ?_
      rintro e w' ⟨rfl, hb0⟩
      go_wp2_with fail
      have hb : Below W.heap.size W _ := hb0
      have TB' := kCall hb (kSize TB) TB
      refine hK.out _ _ (SS.out _ TB') ?_
      exact ⟨_, _, _, _, _, _, rfl, TB', ⟨_, xR.below hb xR.lt, sR⟩, f5.keep (by decide) (keepE hb), f6.keep (by decide) (keepE hb), Fl.new (EqV.rfl _), f9.keep (by decide) (keepE hb), f12.keep (by decide) (SlV.below hb), f13.keep (by decide) (AgV.below hb), f14.keep (by decide) (BxV.below hb)⟩
    · obtain ⟨v38, v39, v41, v42, v45, v46, rfl, TB, XB, f5, f6, f8, f9, f12, f13, f14⟩ := hI
      obtain ⟨vsR, xR, sR⟩ := XB.out
      have hnW : n0 ≤ W.heap.size := by have := xR.lt; omega
      obtain ⟨rfl⟩ := f8.get (hd 8 (by simp))
      refine want_none (by exact rfl) ?_
      go_wp2_with fail
      refine hK.out _ _ (SS.out _ TB) ?_
      exact ⟨_, _, _, _, _, _, rfl, TB, XB, f5.keep (by decide) id, f6.keep (by decide) id, f8.keep (by decide) id, Fl.new (EqV.rfl _), f12.keep (by decide) id, f13.keep (by decide) id, f14.keep (by decide) id⟩
    · obtain ⟨v38, v39, v41, v42, v45, v46, rfl, TB, XB, f5, f6, f8, f9, f12, f13, f14⟩ := hI
      obtain ⟨vsR, xR, sR⟩ := XB.out
      have hnW : n0 ≤ W.heap.size := by have := xR.lt; omega
      refine want_none (by exact rfl) ?_
      go_wp2_with fail
      refine (KD.out _ TB.out).mono ?_
      rintro e w' ⟨a', c', rfl, o', hb0⟩
      go_wp2_with fail
      have hb : Below W.heap.size W _ := hb0
      have TB' := kCall hb (kSize TB) TB
      refine hK.out _ _ (SS.out _ TB') ?_
      exact ⟨_, _, _, _, _, _, rfl, TB', ⟨_, xR.below hb xR.lt, sR⟩, f5.keep (by decide) (keepE hb), f6.keep (by decide) (keepE hb), f8.keep (by decide) (keepE hb), f9.keep (by decide) (keepE hb), Fl.new (⟨_, _, rfl, o'.rebase hnW⟩), f13.keep (by decide) (AgV.below hb), f14.keep (by decide) (BxV.below hb)⟩
    · obtain ⟨v38, v39, v41, v42, v45, v46, rfl, TB, XB, f5, f6, f8, f9, f12, f13, f14⟩ := hI
      obtain ⟨vsR, xR, sR⟩ := XB.out
      have hnW : n0 ≤ W.heap.size := by have := xR.lt; omega
      obtain ⟨rfl⟩ := f6.get (hd 6 (by simp))
      obtain ⟨rfl⟩ := f9.get (hd 9 (by simp))
      obtain ⟨a45, c45, rfl, o45⟩ := f12.get (hd 12 (by simp))
      refine want_none (by exact rfl) ?_
      go_wp2_with fail
      refine hK.out _ _ (SS.out _ TB) ?_
      exact ⟨_, _, _, _, _, _, rfl, TB, XB, f5.keep (by decide) id, f6.keep (by decide) id, f8.keep (by decide) id, f9.keep (by decide) id, f12.keep (by decide) id, Fl.new (⟨_, _, rfl, o45⟩), f14.keep (by decide) id⟩
    · obtain ⟨v38, v39, v41, v42, v45, v46, rfl, TB, XB, f5, f6, f8, f9, f12, f13, f14⟩ := hI
      obtain ⟨vsR, xR, sR⟩ := XB.out
      have hnW : n0 ≤ W.heap.size := by have := xR.lt; omega
      obtain ⟨a46, c46, rfl, o46⟩ := f13.get (hd 13 (by simp))
      refine storeBox_step _ rfl 35 (.tmp 2) (.tmp 46) rfl w.heap.size 35 vsR (#[.bool (b0 == 0), .int .i64 m1, .int .i64 m2] ++ #[.slice a46 (len - 8) c46]) xR (by exact rfl) (by exact rfl) (by kernel_rfl) (sR.trans rfl) (by simp [Value.oneCell']) ?_
      intro wS xS gS
      simp only [Act.put]
      have TB' := kGrownB gS TB (Nat.le_refl _)
      refine hK.out _ _ (SS.out _ TB') ?_
      exact ⟨_, _, _, _, _, _, rfl, TB', ⟨_, xS, rfl⟩, f5.keep (by decide) (id), f6.keep (by decide) (id), f8.keep (by decide) (id), f9.keep (by decide) (id), f12.keep (by decide) (SlV.grown gS hrn), f13.keep (by decide) (AgV.grown gS hrn), Fl.new (⟨_, _, xS, o46.grown gS (fun x hx e => by have := (o46.lt x hx).1; simp only [Option.some.injEq] at e; omega)⟩)⟩
    · obtain ⟨v38, v39, v41, v42, v45, v46, rfl, TB, XB, f5, f6, f8, f9, f12, f13, f14⟩ := hI
      obtain ⟨vsR, xR, sR⟩ := XB.out
      have hnW : n0 ≤ W.heap.size := by have := xR.lt; omega
      obtain ⟨a5, c5, x5, o5⟩ := f14.get (hall 14 (by decide))
      have X5 := Lib.hid x5
      have O5 := Lib.hid (o5.rebase hn1)
      have T5 := TB
      clear x5 o5 xR sR XB hall TB SS f5 f6 f8 f9 f12 f13 f14
      go_wp2
      exact bodyPost_ret (results_cell_row Try.results74 _ _ _ _ _ _ _ rfl X5.out Try.underlying35 rfl (by kernel_rfl)) rfl ⟨_, _, _, rfl, O5.out, T5.out⟩

set_option maxRecDepth 20000 in
set_option maxHeartbeats 4000000 in
theorem echoIn_ok2 (a : Option Addr) (zs : List Int) (w : World) (hr : Rd w a 8 8 zs) (b0 b1 : Int) (q0 : zs.getD 0 0 = b0) (q1 : zs.getD 1 0 = b1) (hs : decide (sumV zs = 0) = true) (hf : (b0 != 8) = false ∧ (b1 != 0) = false ∨ (b0 != 8) = true ∧ (b0 != 0) = false ∧ (b1 != 0) = false) :
    Calls Try.prog 74 #[.slice a 8 8] w (EchoOut w (b0 == 0) (rdTo zs 4 2) (rdTo zs 6 2) (zs.drop 8)) := by
  have hle := hr.le
  have hmx := hr.max
  rcases hr.cells with h0 | ⟨ba, off, rfl, hc⟩
  · omega
  have hfi := fld_ir
  have HR := Lib.hid (fun W (hW : Below w.heap.size w W) => hr.below hW)
  have CC := Lib.hid (fun W (hW : Below w.heap.size w W) (i : Nat) (hi : i < 8) => (hW.cell (World.block_lt_of_cell? _ _ (hc i hi))).trans (hc i hi))
  have B0 := Lib.hid ((Below.refl w.heap.size w).alloc (Nat.le_refl _) (.cells #[.bool false, .int .i64 0, .int .i64 0, .slice none 0 0] 35))
  have X0 := Lib.hid (Box.new w 35 #[.bool false, .int .i64 0, .int .i64 0, .slice none 0 0])
  have Q0 := Lib.hid q0
  have Q1 := Lib.hid q1
  have KS := Lib.hid (fun W (hW : Below w.heap.size w W) => isSummed_is _ 8 8 zs true W (hr.below hW) (by omega) hs)
  obtain ⟨m1, hm1⟩ : ∃ m, rdTo zs 4 2 = m := ⟨_, rfl⟩
  obtain ⟨m2, hm2⟩ : ∃ m, rdTo zs 6 2 = m := ⟨_, rfl⟩
  obtain ⟨ys, hys⟩ : ∃ ys, zs.drop 8 = ys := ⟨_, rfl⟩
  have K3 := Lib.hid (fun W (hW : Below w.heap.size w W) => readWord_lit _ 8 8 4 2 4 2 m1 zs W (hr.below hW) rfl rfl (by omega) (by omega) (by omega) hm1)
  have K4 := Lib.hid (fun W (hW : Below w.heap.size w W) => readWord_lit _ 8 8 6 2 6 2 m2 zs W (hr.below hW) rfl rfl (by omega) (by omega) (by omega) hm2)
  have HD := Lib.hid (show ∀ W, Below w.heap.size w W → Rd W (some ⟨ba, off, none⟩) 0 0 ys from fun W hW => by rw [← hys]; exact rd_tail8 (hr.below hW))
  have KD := Lib.hid (fun W (hW : Below w.heap.size w W) => bclone_any (some ⟨ba, off, none⟩) 0 0 ys W (HD.out W hW) (by omega))
  have SS := Lib.hid (show ∀ W, Hid (Below w.heap.size w W) → W.cell? ⟨ba, off, none⟩ = some (.int .u8 b0) ∧ Hid (Below w.heap.size w W) from fun W h => by
    refine ⟨?_, h⟩
    have := CC.out W h.out 0 (by omega)
    rw [q0] at this
    simpa using this)
  rw [hm1, hm2, hys]
  clear hr hc q0 q1 hs
  clear hm1 hm2 hys HD
  have hrn : w.heap.size < w.heap.size + 1 := Nat.lt_succ_self _
  have hn1 : w.heap.size ≤ w.heap.size + 1 := Nat.le_succ _
  generalize hn0 : w.heap.size + 1 = n0 at hrn hn1
  have HN := Lib.hid hn0
  clear hn0
  rcases hf with ⟨f0, f1⟩ | ⟨f0, f1, f2⟩
  all_goals
    go_enter Try.func74, Try.ntmps74
    go_wp2_with fail
    refine (refuse_no _ _).mono ?_
    rintro e w' ⟨rfl, rfl⟩
    go_wp2_with fail
    refine (KS.out _ B0.out).mono ?_
    rintro e w1 ⟨rfl, b1⟩
    have B1 := Lib.hid (B0.out.trans (b1.mono B0.out.size))
    have X1 := Lib.hid (X0.out.below b1 X0.out.lt)
    clear b1 X0 B0
    go_wp2_with fail
    refine (refuse_no _ _).mono ?_
    rintro e w' ⟨rfl, rfl⟩
    have c0 := CC.out _ B1.out 0 (by omega)
    rw [Q0.out] at c0
    simp only [Nat.add_zero] at c0
    have c1 := CC.out _ B1.out 1 (by omega)
    rw [Q1.out] at c1
    go_wp2_with fail
    refine (refuse_no _ _).mono ?_
    rintro e w' ⟨rfl, rfl⟩
    go_wp2_with fail
    clear c0 c1
    have hn0 := HN.out
    have TD := kDrew B1
    refine wp_region_held_drew (S := fun W => W.cell? ⟨ba, off, none⟩ = some (.int .u8 b0) ∧ Hid (Below w.heap.size w W)) (by kernel_rfl) (SS.out _ TD) (fun hHeld => ?_)
    refine wpAnyH_take (i := 0) (v := ?_) (by simp only [List.getElem?_toArray, List.getElem?_cons_zero]; exact rfl) (by kernel_rfl) (by kernel_rfl) (by kernel_rfl) (by exact fun _ _ _ h => h) (Or.inl ⟨by rfl, ?_⟩) hHeld ?_
    rotate_left
    · intro w' hSw
      obtain ⟨s0, _⟩ := hSw
      go_simp
      try with_reducible rfl
    try simp only [Act.put, List.setIfInBounds_toArray, List.set_cons_zero, List.set_cons_succ]
    refine wpAnyH_take (i := 1) (v := ?_) (by simp only [List.getElem?_toArray, List.getElem?_cons_zero, List.getElem?_cons_succ]; exact rfl) (by kernel_rfl) (by kernel_rfl) (by kernel_rfl) (by exact fun _ _ _ h => h) (Or.inl ⟨by rfl, ?_⟩) hHeld ?_
    rotate_left
    · intro w' hSw
      obtain ⟨s0, _⟩ := hSw
      go_simp
      try with_reducible rfl
    try simp only [Act.put, List.setIfInBounds_toArray, List.set_cons_zero, List.set_cons_succ]
    refine wpAnyH_take (i := 2) (v := ?_) (by simp only [List.getElem?_toArray, List.getElem?_cons_zero, List.getElem?_cons_succ]; exact rfl) (by kernel_rfl) (by kernel_rfl) (by kernel_rfl) (by exact fun _ _ _ h => h) (Or.inl ⟨by rfl, ?_⟩) hHeld ?_
    rotate_left
    · intro w' hSw
      obtain ⟨s0, _⟩ := hSw
      go_simp
      try with_reducible rfl
    try simp only [Act.put, List.setIfInBounds_toArray, List.set_cons_zero, List.set_cons_succ]
    refine wpAnyH_take (i := 3) (v := ?_) (by simp only [List.getElem?_toArray, List.getElem?_cons_zero, List.getElem?_cons_succ]; exact rfl) (by kernel_rfl) (by kernel_rfl) (by kernel_rfl) (by exact fun _ _ _ h => h) (Or.inl ⟨by rfl, ?_⟩) hHeld ?_
    rotate_left
    · intro w' hSw
      obtain ⟨s0, _⟩ := hSw
      go_simp
      try with_reducible rfl
    try simp only [Act.put, List.setIfInBounds_toArray, List.set_cons_zero, List.set_cons_succ]
    refine wpAnyH_take (i := 4) (v := ?_) (by simp only [List.getElem?_toArray, List.getElem?_cons_zero, List.getElem?_cons_succ]; exact rfl) (by kernel_rfl) (by kernel_rfl) (by kernel_rfl) (by exact fun _ _ _ h => h) (Or.inl ⟨by rfl, ?_⟩) hHeld ?_
    rotate_left
    · intro w' hSw
      obtain ⟨s0, _⟩ := hSw
      go_simp
      try with_reducible rfl
    try simp only [Act.put, List.setIfInBounds_toArray, List.set_cons_zero, List.set_cons_succ]
    refine wpAnyH_take (i := 7) (v := ?_) (by simp only [List.getElem?_toArray, List.getElem?_cons_zero, List.getElem?_cons_succ]; exact rfl) (by kernel_rfl) (by kernel_rfl) (by kernel_rfl) (by exact fun _ _ _ h => h) (Or.inl ⟨by rfl, ?_⟩) hHeld ?_
    rotate_left
    · intro w' hSw
      obtain ⟨s0, _⟩ := hSw
      go_simp
      try with_reducible rfl
    try simp only [Act.put, List.setIfInBounds_toArray, List.set_cons_zero, List.set_cons_succ]
    refine wpAnyH_take (i := 10) (v := ?_) (by simp only [List.getElem?_toArray, List.getElem?_cons_zero, List.getElem?_cons_succ]; exact rfl) (by kernel_rfl) (by kernel_rfl) (by kernel_rfl) (by exact fun _ _ _ h => h) (Or.inl ⟨by rfl, ?_⟩) hHeld ?_
    rotate_left
    · intro w' hSw
      obtain ⟨s0, _⟩ := hSw
      go_simp
      try with_reducible rfl
    try simp only [Act.put, List.setIfInBounds_toArray, List.set_cons_zero, List.set_cons_succ]
    refine wpAnyH_take (i := 11) (v := ?_) (by simp only [List.getElem?_toArray, List.getElem?_cons_zero, List.getElem?_cons_succ]; exact rfl) (by kernel_rfl) (by kernel_rfl) (by kernel_rfl) (by exact fun _ _ _ h => h) (Or.inl ⟨by rfl, ?_⟩) hHeld ?_
    rotate_left
    · intro w' hSw
      obtain ⟨s0, _⟩ := hSw
      go_simp
      try with_reducible rfl
    try simp only [Act.put, List.setIfInBounds_toArray, List.set_cons_zero, List.set_cons_succ]
    refine flow_go (Inv := fun listed ac W => ∃ v38 v39 v41 v42 v45 v46 : Value, ac = { tmps := #[.slice (some ⟨ba, off, none⟩) 8 8, _, .pointer (some ⟨w.heap.size, 0, none⟩), _, _, _, _, _, _, _, _, _, _, _, _, _, _, _, _, _, _, _, _, _, _, _, _, _, _, _, _, _, _, .slice (some ⟨ba, off, none⟩) 8 8, .pointer (some ⟨ba, off, none⟩), .int .u8 b0, .bool (b0 == 0), .slice (some ⟨ba, off, none⟩) 8 8, v38, v39, .slice (some ⟨ba, off, none⟩) 8 8, v41, v42, .slice (some ⟨ba, off, none⟩) 8 8, .slice (some ⟨ba, off, none⟩) 0 0, v45, v46], defers := [] } ∧ Hid (Below w.heap.size w W) ∧ Hid (∃ vs : Array Value, Box W w.heap.size 35 vs ∧ vs.size = 4) ∧ Fl listed 5 (EqV v38 (.agg #[.int .i64 0, .int .i64 m1])) ∧ Fl listed 6 (EqV v39 (.int .i64 m1)) ∧ Fl listed 8 (EqV v41 (.agg #[.int .i64 0, .int .i64 m2])) ∧ Fl listed 9 (EqV v42 (.int .i64 m2)) ∧ Fl listed 12 (SlV W n0 v45 (0) ys) ∧ Fl listed 13 (AgV W n0 v46 #[.bool (b0 == 0), .int .i64 m1, .int .i64 m2] (0) ys) ∧ Fl listed 14 (BxV W n0 w.heap.size 35 #[.bool (b0 == 0), .int .i64 m1, .int .i64 m2] (0) ys)) [5, 6, 8, 9, 12, 13, 14] (by kernel_rfl) (by kernel_rfl) ⟨_, _, _, _, _, _, rfl, TD, ⟨_, (show Box _ _ _ _ from X1.out), rfl⟩, Fl.not (by kernel_rfl), Fl.not (by kernel_rfl), Fl.not (by kernel_rfl), Fl.not (by kernel_rfl), Fl.not (by kernel_rfl), Fl.not (by kernel_rfl), Fl.not (by kernel_rfl)⟩
      (FlowAll.cons [] (by simp only [List.getElem?_toArray, List.getElem?_cons_zero, List.getElem?_cons_succ]; exact rfl) (by kernel_rfl) (fun listed ac W hI hd K hK => ?_)
        (FlowAll.cons [5] (by simp only [List.getElem?_toArray, List.getElem?_cons_zero, List.getElem?_cons_succ]; exact rfl) (by kernel_rfl) (fun listed ac W hI hd K hK => ?_)
        (FlowAll.cons [] (by simp only [List.getElem?_toArray, List.getElem?_cons_zero, List.getElem?_cons_succ]; exact rfl) (by kernel_rfl) (fun listed ac W hI hd K hK => ?_)
        (FlowAll.cons [8] (by simp only [List.getElem?_toArray, List.getElem?_cons_zero, List.getElem?_cons_succ]; exact rfl) (by kernel_rfl) (fun listed ac W hI hd K hK => ?_)
        (FlowAll.cons [] (by simp only [List.getElem?_toArray, List.getElem?_cons_zero, List.getElem?_cons_succ]; exact rfl) (by kernel_rfl) (fun listed ac W hI hd K hK => ?_)
        (FlowAll.cons [6, 9, 12] (by simp only [List.getElem?_toArray, List.getElem?_cons_zero, List.getElem?_cons_succ]; exact rfl) (by kernel_rfl) (fun listed ac W hI hd K hK => ?_)
        (FlowAll.cons [13] (by simp only [List.getElem?_toArray, List.getElem?_cons_zero, List.getElem?_cons_succ]; exact rfl) (by kernel_rfl) (fun listed ac W hI hd K hK => ?_)
        FlowAll.nil)))))))
      (fun listed ac W hI hall => ?_)
    · obtain ⟨v38, v39, v41, v42, v45, v46, rfl, TB, XB, f5, f6, f8, f9, f12, f13, f14⟩ := hI
      obtain ⟨vsR, xR, sR⟩ := XB.out
      have hnW : n0 ≤ W.heap.size := by have := xR.lt; omega
      refine want_none (by exact rfl) ?_
      go_wp2_with fail
      refine (K3.out _ TB.out).mono ?_
      rintro e w' ⟨rfl, hb0⟩
      go_wp2_with fail
      have hb : Below W.heap.size W _ := hb0
      have TB' := kCall hb (kSize TB) TB
      refine hK.out _ _ (SS.out _ TB') ?_
      exact ⟨_, _, _, _, _, _, rfl, TB', ⟨_, xR.below hb xR.lt, sR⟩, Fl.new (EqV.rfl _), f6.keep (by decide) (keepE hb), f8.keep (by decide) (keepE hb), f9.keep (by decide) (keepE hb), f12.keep (by decide) (SlV.below hb), f13.keep (by decide) (AgV.below hb), f14.keep (by decide) (BxV.below hb)⟩
    · obtain ⟨v38, v39, v41, v42, v45, v46, rfl, TB, XB, f5, f6, f8, f9, f12, f13, f14⟩ := hI
      obtain ⟨vsR, xR, sR⟩ := XB.out
      have hnW : n0 ≤ W.heap.size := by have := xR.lt; omega
      obtain ⟨rfl⟩ := f5.get (hd 5 (by simp))
      refine want_none (by exact rfl) ?_
      go_wp2_with fail
      refine hK.out _ _ (SS.out _ TB) ?_
      exact ⟨_, _, _, _, _, _, rfl, TB, XB, f5.keep (by decide) id, Fl.new (EqV.rfl _), f8.keep (by decide) id, f9.keep (by decide) id, f12.keep (by decide) id, f13.keep (by decide) id, f14.keep (by decide) id⟩
    · obtain ⟨v38, v39, v41, v42, v45, v46, rfl, TB, XB, f5, f6, f8, f9, f12, f13, f14⟩ := hI
      obtain ⟨vsR, xR, sR⟩ := XB.out
      have hnW : n0 ≤ W.heap.size := by have := xR.lt; omega
      refine want_none (by exact rfl) ?_
      go_wp2_with fail
      refine (K4.out _ TB.out).mono ?_
      rintro e w' ⟨rfl, hb0⟩
      go_wp2_with fail
      have hb : Below W.heap.size W _ := hb0
      have TB' := kCall hb (kSize TB) TB
      refine hK.out _ _ (SS.out _ TB') ?_
      exact ⟨_, _, _, _, _, _, rfl, TB', ⟨_, xR.below hb xR.lt, sR⟩, f5.keep (by decide) (keepE hb), f6.keep (by decide) (keepE hb), Fl.new (EqV.rfl _), f9.keep (by decide) (keepE hb), f12.keep (by decide) (SlV.below hb), f13.keep (by decide) (AgV.below hb), f14.keep (by decide) (BxV.below hb)⟩
    · obtain ⟨v38, v39, v41, v42, v45, v46, rfl, TB, XB, f5, f6, f8, f9, f12, f13, f14⟩ := hI
      obtain ⟨vsR, xR, sR⟩ := XB.out
      have hnW : n0 ≤ W.heap.size := by have := xR.lt; omega
      obtain ⟨rfl⟩ := f8.get (hd 8 (by simp))
      refine want_none (by exact rfl) ?_
      go_wp2_with fail
      refine hK.out _ _ (SS.out _ TB) ?_
      exact ⟨_, _, _, _, _, _, rfl, TB, XB, f5.keep (by decide) id, f6.keep (by decide) id, f8.keep (by decide) id, Fl.new (EqV.rfl _), f12.keep (by decide) id, f13.keep (by decide) id, f14.keep (by decide) id⟩
    · obtain ⟨v38, v39, v41, v42, v45, v46, rfl, TB, XB, f5, f6, f8, f9, f12, f13, f14⟩ := hI
      obtain ⟨vsR, xR, sR⟩ := XB.out
      have hnW : n0 ≤ W.heap.size := by have := xR.lt; omega
      refine want_none (by exact rfl) ?_
      go_wp2_with fail
      refine (KD.out _ TB.out).mono ?_
      rintro e w' ⟨a', c', rfl, o', hb0⟩
      go_wp2_with fail
      have hb : Below W.heap.size W _ := hb0
      have TB' := kCall hb (kSize TB) TB
      refine hK.out _ _ (SS.out _ TB') ?_
      exact ⟨_, _, _, _, _, _, rfl, TB', ⟨_, xR.below hb xR.lt, sR⟩, f5.keep (by decide) (keepE hb), f6.keep (by decide) (keepE hb), f8.keep (by decide) (keepE hb), f9.keep (by decide) (keepE hb), Fl.new (⟨_, _, rfl, o'.rebase hnW⟩), f13.keep (by decide) (AgV.below hb), f14.keep (by decide) (BxV.below hb)⟩
    · obtain ⟨v38, v39, v41, v42, v45, v46, rfl, TB, XB, f5, f6, f8, f9, f12, f13, f14⟩ := hI
      obtain ⟨vsR, xR, sR⟩ := XB.out
      have hnW : n0 ≤ W.heap.size := by have := xR.lt; omega
      obtain ⟨rfl⟩ := f6.get (hd 6 (by simp))
      obtain ⟨rfl⟩ := f9.get (hd 9 (by simp))
      obtain ⟨a45, c45, rfl, o45⟩ := f12.get (hd 12 (by simp))
      refine want_none (by exact rfl) ?_
      go_wp2_with fail
      refine hK.out _ _ (SS.out _ TB) ?_
      exact ⟨_, _, _, _, _, _, rfl, TB, XB, f5.keep (by decide) id, f6.keep (by decide) id, f8.keep (by decide) id, f9.keep (by decide) id, f12.keep (by decide) id, Fl.new (⟨_, _, rfl, o45⟩), f14.keep (by decide) id⟩
    · obtain ⟨v38, v39, v41, v42, v45, v46, rfl, TB, XB, f5, f6, f8, f9, f12, f13, f14⟩ := hI
      obtain ⟨vsR, xR, sR⟩ := XB.out
      have hnW : n0 ≤ W.heap.size := by have := xR.lt; omega
      obtain ⟨a46, c46, rfl, o46⟩ := f13.get (hd 13 (by simp))
      refine storeBox_step _ rfl 35 (.tmp 2) (.tmp 46) rfl w.heap.size 35 vsR (#[.bool (b0 == 0), .int .i64 m1, .int .i64 m2] ++ #[.slice a46 (0) c46]) xR (by exact rfl) (by exact rfl) (by kernel_rfl) (sR.trans rfl) (by simp [Value.oneCell']) ?_
      intro wS xS gS
      simp only [Act.put]
      have TB' := kGrownB gS TB (Nat.le_refl _)
      refine hK.out _ _ (SS.out _ TB') ?_
      exact ⟨_, _, _, _, _, _, rfl, TB', ⟨_, xS, rfl⟩, f5.keep (by decide) (id), f6.keep (by decide) (id), f8.keep (by decide) (id), f9.keep (by decide) (id), f12.keep (by decide) (SlV.grown gS hrn), f13.keep (by decide) (AgV.grown gS hrn), Fl.new (⟨_, _, xS, o46.grown gS (fun x hx e => by have := (o46.lt x hx).1; simp only [Option.some.injEq] at e; omega)⟩)⟩
    · obtain ⟨v38, v39, v41, v42, v45, v46, rfl, TB, XB, f5, f6, f8, f9, f12, f13, f14⟩ := hI
      obtain ⟨vsR, xR, sR⟩ := XB.out
      have hnW : n0 ≤ W.heap.size := by have := xR.lt; omega
      obtain ⟨a5, c5, x5, o5⟩ := f14.get (hall 14 (by decide))
      have X5 := Lib.hid x5
      have O5 := Lib.hid (o5.rebase hn1)
      have T5 := TB
      clear x5 o5 xR sR XB hall TB SS f5 f6 f8 f9 f12 f13 f14
      go_wp2
      exact bodyPost_ret (results_cell_row Try.results74 _ _ _ _ _ _ _ rfl X5.out Try.underlying35 rfl (by kernel_rfl)) rfl ⟨_, _, _, rfl, O5.out, T5.out⟩

/-- what ReadEcho answers -/
structure ReA where
  c : Int
  r : Bool
  i : Int
  s : Int
  rs : List Int
def reNo (c : Int) : ReA := ⟨c, false, 0, 0, []⟩
def reAns (zs : List Int) : ReA :=
  if reLen zs.length = false then reNo 2
  else if ¬ sumV zs = 0 then reNo 6
  else if reForm (zs.getD 0 0) (zs.getD 1 0) = false then reNo 1
  else ⟨0, zs.getD 0 0 == 0, rdTo zs 4 2, rdTo zs 6 2, zs.drop 8⟩
def ReRes (w : World) (r : ReA) (e : Ending) (w' : World) : Prop := EchoRes w r.c r.r r.i r.s r.rs e w'
theorem reLen_bd {n : Nat} (h : ¬ reLen n = false) : 8 ≤ n ∧ n ≤ 560 := by
  have h' : reLen n = true := by simpa using h
  exact of_decide_eq_true h'
theorem reAns_len (zs : List Int) : (reAns zs).rs.length ≤ 700 := by
  unfold reAns
  split
  · exact Nat.zero_le _
  · rename_i h1
    have := reLen_bd h1
    split
    · exact Nat.zero_le _
    · split
      · exact Nat.zero_le _
      · simp only [List.length_drop]; omega
theorem reForm_false {b0 b1 : Int} (h : reForm b0 b1 = false) : (b0 != 8) = true ∧ (b0 != 0) = true ∨ (b0 != 8) = false ∧ (b1 != 0) = true ∨ (b0 != 8) = true ∧ (b0 != 0) = false ∧ (b1 != 0) = true := by
  unfold reForm at h
  cases e0 : (b0 == 8) <;> cases e1 : (b0 == 0) <;> cases e2 : (b1 == 0) <;> simp_all [bne]
theorem reForm_true {b0 b1 : Int} (h : reForm b0 b1 = true) : (b0 != 8) = false ∧ (b1 != 0) = false ∨ (b0 != 8) = true ∧ (b0 != 0) = false ∧ (b1 != 0) = false := by
  unfold reForm at h
  cases e0 : (b0 == 8) <;> cases e1 : (b0 == 0) <;> cases e2 : (b1 == 0) <;> simp_all [bne]

theorem specReadEcho (a : Option Addr) (len cap : Nat) (zs : List Int) (w : World) (hr : Rd w a len cap zs) :
    Calls Try.prog 25 #[.slice a len cap] w (ReRes w (reAns zs)) := by
  have hl := hr.length
  unfold ReRes reAns
  split
  · rename_i h; rw [hl] at h; exact specReadEcho_len a len cap w h
  rename_i h1
  obtain ⟨g1, g2⟩ := reLen_bd h1
  rw [hl] at g1 g2
  split
  · rename_i h; exact specReadEcho_sum a len cap zs w hr g1 g2 h
  rename_i h3
  have hs : sumV zs = 0 := Decidable.of_not_not h3
  split
  · rename_i h; exact specReadEcho_form a len cap zs w hr g1 g2 hs _ _ rfl rfl h
  rename_i h4
  have hf : reForm (zs.getD 0 0) (zs.getD 1 0) = true := by simpa using h4
  by_cases hcap : cap = 8
  · have hle := hr.le
    obtain rfl : len = 8 := by omega
    subst hcap
    exact specReadEcho_ok2 a zs w hr hs _ _ rfl rfl hf
  · exact specReadEcho_ok1 a len cap zs w hr g1 g2 hcap hs _ _ rfl rfl hf

theorem implReadEcho (a : Option Addr) (len cap : Nat) (zs : List Int) (w : World) (hr : Rd w a len cap zs) :
    Calls Try.prog 19 #[.slice a len cap] w (ReRes w (reAns zs)) := by
  have hl := hr.length
  unfold ReRes reAns
  split
  · rename_i h; rw [hl] at h; exact faceEcho_no a len cap 2 w (fun W _ => echoIn_len a len cap W h)
  rename_i h1
  obtain ⟨g1, g2⟩ := reLen_bd h1
  rw [hl] at g1 g2
  split
  · rename_i h; exact faceEcho_no a len cap 6 w (fun W hW => echoIn_sum a len cap zs W (hr.below hW) g1 g2 _ _ rfl rfl (decide_eq_false h))
  rename_i h3
  have hs : sumV zs = 0 := Decidable.of_not_not h3
  split
  · rename_i h; exact faceEcho_no a len cap 1 w (fun W hW => echoIn_form a len cap zs W (hr.below hW) g1 g2 _ _ rfl rfl (decide_eq_true hs) (reForm_false h))
  rename_i h4
  have hf := reForm_true (show reForm (zs.getD 0 0) (zs.getD 1 0) = true by simpa using h4)
  by_cases hcap : cap = 8
  · have hle := hr.le
    obtain rfl : len = 8 := by omega
    subst hcap
    exact faceEcho_ok a 8 8 _ _ _ _ w (fun W hW => echoIn_ok2 a zs W (hr.below hW) _ _ rfl rfl (decide_eq_true hs) hf)
  · exact faceEcho_ok a len cap _ _ _ _ w (fun W hW => echoIn_ok1 a len cap zs W (hr.below hW) g1 g2 _ _ rfl rfl hcap (decide_eq_true hs) hf)

theorem readEcho_law (a : Option Addr) (len cap : Nat) (zs : List Int) (w : World) (hr : Rd w a len cap zs) :
    Calls Try.prog 9 #[.slice a len cap] w fun e w' => e = .returned (.bool true) ∧ Below w.heap.size w w' :=
  exactReadEcho a len cap zs (reAns zs).c (reAns zs).r (reAns zs).i (reAns zs).s (reAns zs).rs w hr (fun a' l' c' W h => specReadEcho a' l' c' zs W h) (fun a' l' c' W h => implReadEcho a' l' c' zs W h) (reAns_len zs)
end Go.Proofs.Ytgjkbaplfbiomaa
