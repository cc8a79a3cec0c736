/-
  packetIn of the program, where it is a packet; ReadPacket's law.
-/
import Derived.Test.YtgjkbaplfbiomaaP3RdP
import Derived.Test.YtgjkbaplfbiomaaFlow
namespace Go.Proofs.Ytgjkbaplfbiomaa
open Go.ChangeShapes Go.WideShapes Go.ChangeAt Go.RowKit

theorem rd_tail20 {W : World} {ba off : Nat} {zs : List Int} (h : Rd W (some ⟨ba, off, none⟩) 20 20 zs) : Rd W (some ⟨ba, off, none⟩) 0 0 (zs.drop 20) := by
  have := h.fromIf 20 (by omega)
  simpa using this

set_option maxRecDepth 20000 in
set_option maxHeartbeats 4000000 in
theorem packetIn_ok1 (a : Option Addr) (len cap : Nat) (zs : List Int) (w : World) (hr : Rd w a len cap zs) (h1 : 20 ≤ len) (h2 : len ≤ 600) (b0 ct : Int) (N : Nat) (q0 : zs.getD 0 0 = b0) (qn : rdTo zs 2 2 = (N : Int)) (qc : rdTo zs 6 2 = ct) (hcap : ¬ cap = 20) (f0 : (b0 != 69) = false) (f1 : plB (N : Int) len = true) (f2 : cutB ct = false) (hs : decide (sumV (zs.take 20) = 0) = true) (kp kl : Int) (ht : zs.getD 8 0 = kl) (hp : zs.getD 9 0 = kp) (hz : (kl == 0) = false) :
    Calls Try.prog 67 #[.slice a len cap] w (PacketOut w (rdTo zs 12 4) (rdTo zs 16 4) kp kl ((zs.take N).drop 20)) := by
  have hle := hr.le
  have hmx := hr.max
  rcases hr.cells with h0 | ⟨ba, off, rfl, hc⟩
  · omega
  have d1 : decide ((len : Int) < 20) = false := decide_eq_false (by omega)
  have d2 : decide ((600 : Int) < len) = false := decide_eq_false (by omega)
  have i0 : (0 : Int) < len := by omega
  have i0n : 0 < len := by omega
  have i8 : (8 : Int) < len := by omega
  have i9 : (9 : Int) < len := by omega
  have i20 : (20 : Int) ≤ cap := by omega
  have i20l : (20 : Int) ≤ len := by omega
  have i20n : 20 ≤ cap := by omega
  have hfi := fld_ir
  have HR := Lib.hid (fun W (hW : Below w.heap.size w W) => hr.below hW)
  have K1 := Lib.hid (fun W (hW : Below w.heap.size w W) => readWord_lit _ len cap 2 2 2 2 (N : Int) zs W (hr.below hW) rfl rfl (by omega) (by omega) (by omega) qn)
  have KL := Lib.hid (fun W => packetLength_any (N : Int) (some ⟨ba, off, none⟩) len cap W)
  have KC := Lib.hid (fun W (hW : Below w.heap.size w W) => isCut_any _ len cap zs ct W (hr.below hW) (by omega) qc)
  have CC := Lib.hid (fun W (hW : Below w.heap.size w W) (i : Nat) (hi : i < len) => (hW.cell (World.block_lt_of_cell? _ _ (hc i hi))).trans (hc i hi))
  have B0 := Lib.hid ((Below.refl w.heap.size w).alloc (Nat.le_refl _) (.cells #[.int .i64 0, .int .i64 0, .int .i64 0, .int .i64 0, .slice none 0 0] 25))
  have X0 := Lib.hid (Box.new w 25 #[.int .i64 0, .int .i64 0, .int .i64 0, .int .i64 0, .slice none 0 0])
  have Q0 := Lib.hid q0
  rw [f1] at KL
  rw [f2] at KC
  have hN : 20 ≤ N ∧ N ≤ len ∧ N ≤ 580 := by simp only [plB, Bool.and_eq_true, decide_eq_true_eq] at f1; omega
  obtain ⟨n1, n2, n3⟩ := hN
  have j1 : (20 : Int) ≤ N := by omega
  have j2 : (N : Int) ≤ cap := by omega
  have j3 : N ≤ cap := by omega
  have KS := Lib.hid (fun W (hW : Below w.heap.size w W) => isSummed_is _ 20 cap (zs.take 20) true W ((hr.below hW).upto 20 (by omega)) (by omega) hs)
  have v8 : IntKind.i64.wrap kl = kl := IntWalk.i64_in _ (by have := b8_getD hr.b8 8; omega)
  have v9 : IntKind.i64.wrap kp = kp := IntWalk.i64_in _ (by have := b8_getD hr.b8 9; omega)
  obtain ⟨m1, hm1⟩ : ∃ m, rdTo zs 12 4 = m := ⟨_, rfl⟩
  obtain ⟨m2, hm2⟩ : ∃ m, rdTo zs 16 4 = m := ⟨_, rfl⟩
  obtain ⟨ys, hys⟩ : ∃ ys, ((zs.take N).drop 20) = ys := ⟨_, rfl⟩
  have K3 := Lib.hid (fun W (hW : Below w.heap.size w W) => readWord_lit _ len cap 12 4 12 4 m1 zs W (hr.below hW) rfl rfl (by omega) (by omega) (by omega) hm1)
  have K4 := Lib.hid (fun W (hW : Below w.heap.size w W) => readWord_lit _ len cap 16 4 16 4 m2 zs W (hr.below hW) rfl rfl (by omega) (by omega) (by omega) hm2)
  have HD := Lib.hid (show ∀ W, Below w.heap.size w W → Rd W (some ⟨ba, off + 20, none⟩) (N - 20) (cap - 20) ys from fun W hW => by rw [← hys]; exact ((hr.below hW).upto N (by omega)).from 20 _ _ _ (by omega) rfl rfl rfl)
  have KD := Lib.hid (fun W (hW : Below w.heap.size w W) => bclone_any (some ⟨ba, off + 20, none⟩) (N - 20) (cap - 20) ys W (HD.out W hW) (by omega))
  have SS := Lib.hid (show ∀ W, Hid (Below w.heap.size w W) → W.cell? ⟨ba, off + 8, none⟩ = some (.int .u8 kl) ∧ W.cell? ⟨ba, off + 9, none⟩ = some (.int .u8 kp) ∧ Hid (Below w.heap.size w W) from fun W h => by
    refine ⟨?_, ?_, h⟩
    · rw [← ht]; exact CC.out W h.out 8 (by omega)
    · rw [← hp]; exact CC.out W h.out 9 (by omega))
  rw [hm1, hm2, hys]
  clear hr hc q0 qn qc
  clear hs ht hp hm1 hm2 hys HD
  go_enter Try.func67, Try.ntmps67
  go_wp2_with fail
  refine (refuse_no _ _).mono ?_
  rintro e w' ⟨rfl, rfl⟩
  go_wp2_with fail
  refine (K1.out _ B0.out).mono ?_
  rintro e w1 ⟨rfl, b1⟩
  have B1 := Lib.hid (B0.out.trans (b1.mono B0.out.size))
  have X1 := Lib.hid (X0.out.below b1 X0.out.lt)
  clear b1 X0 B0
  have c0 := CC.out _ B1.out 0 i0n
  rw [Q0.out] at c0
  simp only [Nat.add_zero] at c0
  go_wp2_with fail
  refine (KL.out _).mono ?_
  rintro e w' ⟨rfl, rfl⟩
  go_wp2_with fail
  refine (KC.out _ B1.out).mono ?_
  rintro e w2 ⟨rfl, b2⟩
  have B2 := Lib.hid (B1.out.trans (b2.mono B1.out.size))
  have X2 := Lib.hid (X1.out.below b2 X1.out.lt)
  clear b2 X1 B1 c0
  go_wp2_with fail
  refine (refuse_no _ _).mono ?_
  rintro e w' ⟨rfl, rfl⟩
  go_wp2_with fail
  refine (KS.out _ B2.out).mono ?_
  rintro e w3 ⟨rfl, b3⟩
  have B3 := Lib.hid (B2.out.trans (b3.mono B2.out.size))
  have X3 := Lib.hid (X2.out.below b3 X2.out.lt)
  clear b3 X2 B2
  go_wp2_with fail
  refine (refuse_no _ _).mono ?_
  rintro e w' ⟨rfl, rfl⟩
  obtain ⟨c8, _, _⟩ := SS.out _ B3
  go_wp2_with fail
  refine (refuse_no _ _).mono ?_
  rintro e w' ⟨rfl, rfl⟩
  go_wp2_with fail
  clear c8
  have hrn : w.heap.size < w.heap.size + 1 := Nat.lt_succ_self _
  have hn1 : w.heap.size ≤ w.heap.size + 1 := Nat.le_succ _
  generalize hn0 : w.heap.size + 1 = n0 at hrn hn1
  have TD := kDrew B3
  refine wp_region_held_drew (S := fun W => W.cell? ⟨ba, off + 8, none⟩ = some (.int .u8 kl) ∧ W.cell? ⟨ba, off + 9, none⟩ = some (.int .u8 kp) ∧ Hid (Below w.heap.size w W)) (by kernel_rfl) (SS.out _ TD) (fun hHeld => ?_)
  refine wpAnyH_take (i := 0) (v := ?_) (by simp only [List.getElem?_toArray, List.getElem?_cons_zero]; exact rfl) (by kernel_rfl) (by kernel_rfl) (by kernel_rfl) (by exact fun _ _ _ h => h) (Or.inl ⟨by rfl, ?_⟩) hHeld ?_
  rotate_left
  · intro w' hSw
    obtain ⟨s0, s1, _⟩ := hSw
    go_simp
    try with_reducible rfl
  try simp only [Act.put, List.setIfInBounds_toArray, List.set_cons_zero, List.set_cons_succ]
  refine wpAnyH_take (i := 3) (v := ?_) (by simp only [List.getElem?_toArray, List.getElem?_cons_zero, List.getElem?_cons_succ]; exact rfl) (by kernel_rfl) (by kernel_rfl) (by kernel_rfl) (by exact fun _ _ _ h => h) (Or.inl ⟨by rfl, ?_⟩) hHeld ?_
  rotate_left
  · intro w' hSw
    obtain ⟨s0, s1, _⟩ := hSw
    go_simp
    try with_reducible rfl
  try simp only [Act.put, List.setIfInBounds_toArray, List.set_cons_zero, List.set_cons_succ]
  refine wpAnyH_take (i := 6) (v := ?_) (by simp only [List.getElem?_toArray, List.getElem?_cons_zero, List.getElem?_cons_succ]; exact rfl) (by kernel_rfl) (by kernel_rfl) (by kernel_rfl) (by exact fun _ _ _ h => h) (Or.inl ⟨by rfl, ?_⟩) hHeld ?_
  rotate_left
  · intro w' hSw
    obtain ⟨s0, s1, _⟩ := hSw
    go_simp
    try with_reducible rfl
  try simp only [Act.put, List.setIfInBounds_toArray, List.set_cons_zero, List.set_cons_succ]
  refine wpAnyH_take (i := 7) (v := ?_) (by simp only [List.getElem?_toArray, List.getElem?_cons_zero, List.getElem?_cons_succ]; exact rfl) (by kernel_rfl) (by kernel_rfl) (by kernel_rfl) (by exact fun _ _ _ h => h) (Or.inl ⟨by rfl, ?_⟩) hHeld ?_
  rotate_left
  · intro w' hSw
    obtain ⟨s0, s1, _⟩ := hSw
    go_simp
    try with_reducible rfl
  try simp only [Act.put, List.setIfInBounds_toArray, List.set_cons_zero, List.set_cons_succ]
  refine wpAnyH_take (i := 8) (v := ?_) (by simp only [List.getElem?_toArray, List.getElem?_cons_zero, List.getElem?_cons_succ]; exact rfl) (by kernel_rfl) (by kernel_rfl) (by kernel_rfl) (by exact fun _ _ _ h => h) (Or.inl ⟨by rfl, ?_⟩) hHeld ?_
  rotate_left
  · intro w' hSw
    obtain ⟨s0, s1, _⟩ := hSw
    go_simp
    try with_reducible rfl
  try simp only [Act.put, List.setIfInBounds_toArray, List.set_cons_zero, List.set_cons_succ]
  refine wpAnyH_take (i := 9) (v := ?_) (by simp only [List.getElem?_toArray, List.getElem?_cons_zero, List.getElem?_cons_succ]; exact rfl) (by kernel_rfl) (by kernel_rfl) (by kernel_rfl) (by exact fun _ _ _ h => h) (Or.inl ⟨by rfl, ?_⟩) hHeld ?_
  rotate_left
  · intro w' hSw
    obtain ⟨s0, s1, _⟩ := hSw
    go_simp
    try with_reducible rfl
  try simp only [Act.put, List.setIfInBounds_toArray, List.set_cons_zero, List.set_cons_succ]
  refine wpAnyH_take (i := 10) (v := ?_) (by simp only [List.getElem?_toArray, List.getElem?_cons_zero, List.getElem?_cons_succ]; exact rfl) (by kernel_rfl) (by kernel_rfl) (by kernel_rfl) (by exact fun _ _ _ h => h) (Or.inl ⟨by rfl, ?_⟩) hHeld ?_
  rotate_left
  · intro w' hSw
    obtain ⟨s0, s1, _⟩ := hSw
    go_simp
    try with_reducible rfl
  try simp only [Act.put, List.setIfInBounds_toArray, List.set_cons_zero, List.set_cons_succ]
  refine wpAnyH_take (i := 11) (v := ?_) (by simp only [List.getElem?_toArray, List.getElem?_cons_zero, List.getElem?_cons_succ]; exact rfl) (by kernel_rfl) (by kernel_rfl) (by kernel_rfl) (by exact fun _ _ _ h => h) (Or.inl ⟨by rfl, ?_⟩) hHeld ?_
  rotate_left
  · intro w' hSw
    obtain ⟨s0, s1, _⟩ := hSw
    go_simp
    try with_reducible rfl
  try simp only [Act.put, List.setIfInBounds_toArray, List.set_cons_zero, List.set_cons_succ]
  refine wpAnyH_take (i := 12) (v := ?_) (by simp only [List.getElem?_toArray, List.getElem?_cons_zero, List.getElem?_cons_succ]; exact rfl) (by kernel_rfl) (by kernel_rfl) (by kernel_rfl) (by exact fun _ _ _ h => h) (Or.inl ⟨by rfl, ?_⟩) hHeld ?_
  rotate_left
  · intro w' hSw
    obtain ⟨s0, s1, _⟩ := hSw
    go_simp
    try with_reducible rfl
  try simp only [Act.put, List.setIfInBounds_toArray, List.set_cons_zero, List.set_cons_succ]
  refine wpAnyH_take (i := 13) (v := ?_) (by simp only [List.getElem?_toArray, List.getElem?_cons_zero, List.getElem?_cons_succ]; exact rfl) (by kernel_rfl) (by kernel_rfl) (by kernel_rfl) (by exact fun _ _ _ h => h) (Or.inl ⟨by rfl, ?_⟩) hHeld ?_
  rotate_left
  · intro w' hSw
    obtain ⟨s0, s1, _⟩ := hSw
    go_simp
    try with_reducible rfl
  try simp only [Act.put, List.setIfInBounds_toArray, List.set_cons_zero, List.set_cons_succ]
  refine wpAnyH_take (i := 14) (v := ?_) (by simp only [List.getElem?_toArray, List.getElem?_cons_zero, List.getElem?_cons_succ]; exact rfl) (by kernel_rfl) (by kernel_rfl) (by kernel_rfl) (by exact fun _ _ _ h => h) (Or.inl ⟨by rfl, ?_⟩) hHeld ?_
  rotate_left
  · intro w' hSw
    obtain ⟨s0, s1, _⟩ := hSw
    go_simp
    try with_reducible rfl
  try simp only [Act.put, List.setIfInBounds_toArray, List.set_cons_zero, List.set_cons_succ]
  refine wpAnyH_take (i := 15) (v := ?_) (by simp only [List.getElem?_toArray, List.getElem?_cons_zero, List.getElem?_cons_succ]; exact rfl) (by kernel_rfl) (by kernel_rfl) (by kernel_rfl) (by exact fun _ _ _ h => h) (Or.inl ⟨by rfl, ?_⟩) hHeld ?_
  rotate_left
  · intro w' hSw
    obtain ⟨s0, s1, _⟩ := hSw
    go_simp
    try with_reducible rfl
  try simp only [Act.put, List.setIfInBounds_toArray, List.set_cons_zero, List.set_cons_succ]
  refine wpAnyH_take (i := 16) (v := ?_) (by simp only [List.getElem?_toArray, List.getElem?_cons_zero, List.getElem?_cons_succ]; exact rfl) (by kernel_rfl) (by kernel_rfl) (by kernel_rfl) (by exact fun _ _ _ h => h) (Or.inl ⟨by rfl, ?_⟩) hHeld ?_
  rotate_left
  · intro w' hSw
    obtain ⟨s0, s1, _⟩ := hSw
    go_simp
    try with_reducible rfl
  try simp only [Act.put, List.setIfInBounds_toArray, List.set_cons_zero, List.set_cons_succ]
  refine flow_go (Inv := fun listed ac W => ∃ v42 v43 v45 v46 v58 v59 : Value, ac = { tmps := #[.slice (some ⟨ba, off, none⟩) len cap, _, .pointer (some ⟨w.heap.size, 0, none⟩), .int .i64 N, _, _, _, _, _, _, _, _, _, _, _, _, _, _, _, _, _, _, _, _, _, _, _, _, _, _, _, _, _, _, _, _, _, _, _, _, _, .slice (some ⟨ba, off, none⟩) len cap, v42, v43, .slice (some ⟨ba, off, none⟩) len cap, v45, v46, .slice (some ⟨ba, off, none⟩) len cap, .pointer (some ⟨ba, off + 9, none⟩), .int .u8 kp, .int .i64 kp, .slice (some ⟨ba, off, none⟩) len cap, .pointer (some ⟨ba, off + 8, none⟩), .int .u8 kl, .int .i64 kl, .slice (some ⟨ba, off, none⟩) len cap, .int .i64 N, .slice (some ⟨ba, off + 20, none⟩) (N - 20) (cap - 20), v58, v59], defers := [] } ∧ Hid (Below w.heap.size w W) ∧ Hid (∃ vs : Array Value, Box W w.heap.size 25 vs ∧ vs.size = 5) ∧ Fl listed 1 (EqV v42 (.agg #[.int .i64 0, .int .i64 m1])) ∧ Fl listed 2 (EqV v43 (.int .i64 m1)) ∧ Fl listed 4 (EqV v45 (.agg #[.int .i64 0, .int .i64 m2])) ∧ Fl listed 5 (EqV v46 (.int .i64 m2)) ∧ Fl listed 17 (SlV W n0 v58 (N - 20) ys) ∧ Fl listed 18 (AgV W n0 v59 #[.int .i64 m1, .int .i64 m2, .int .i64 kp, .int .i64 kl] (N - 20) ys) ∧ Fl listed 19 (BxV W n0 w.heap.size 25 #[.int .i64 m1, .int .i64 m2, .int .i64 kp, .int .i64 kl] (N - 20) ys)) [1, 2, 4, 5, 17, 18, 19] (by kernel_rfl) (by kernel_rfl) ⟨_, _, _, _, _, _, rfl, TD, ⟨_, (show Box _ _ _ _ from X3.out), rfl⟩, Fl.not (by kernel_rfl), Fl.not (by kernel_rfl), Fl.not (by kernel_rfl), Fl.not (by kernel_rfl), Fl.not (by kernel_rfl), Fl.not (by kernel_rfl), Fl.not (by kernel_rfl)⟩
    (FlowAll.cons [] (by simp only [List.getElem?_toArray, List.getElem?_cons_zero, List.getElem?_cons_succ]; exact rfl) (by kernel_rfl) (fun listed ac W hI hd K hK => ?_)
      (FlowAll.cons [1] (by simp only [List.getElem?_toArray, List.getElem?_cons_zero, List.getElem?_cons_succ]; exact rfl) (by kernel_rfl) (fun listed ac W hI hd K hK => ?_)
      (FlowAll.cons [] (by simp only [List.getElem?_toArray, List.getElem?_cons_zero, List.getElem?_cons_succ]; exact rfl) (by kernel_rfl) (fun listed ac W hI hd K hK => ?_)
      (FlowAll.cons [4] (by simp only [List.getElem?_toArray, List.getElem?_cons_zero, List.getElem?_cons_succ]; exact rfl) (by kernel_rfl) (fun listed ac W hI hd K hK => ?_)
      (FlowAll.cons [] (by simp only [List.getElem?_toArray, List.getElem?_cons_zero, List.getElem?_cons_succ]; exact rfl) (by kernel_rfl) (fun listed ac W hI hd K hK => ?_)
      (FlowAll.cons [2, 5, 17] (by simp only [List.getElem?_toArray, List.getElem?_cons_zero, List.getElem?_cons_succ]; exact rfl) (by kernel_rfl) (fun listed ac W hI hd K hK => ?_)
      (FlowAll.cons [18] (by simp only [List.getElem?_toArray, List.getElem?_cons_zero, List.getElem?_cons_succ]; exact rfl) (by kernel_rfl) (fun listed ac W hI hd K hK => ?_)
      FlowAll.nil)))))))
    (fun listed ac W hI hall => ?_)
  · obtain ⟨v42, v43, v45, v46, v58, v59, rfl, TB, XB, f1, f2, f4, f5, f17, f18, f19⟩ := hI
    obtain ⟨vsR, xR, sR⟩ := XB.out
    have hnW : n0 ≤ W.heap.size := by have := xR.lt; omega
    refine want_none (by exact rfl) ?_
    go_wp2_with fail
    refine (K3.out _ TB.out).mono ?_
    rintro e w' ⟨rfl, hb0⟩
    go_wp2_with fail
    have hb : Below W.heap.size W _ := hb0
    have TB' := kCall hb (kSize TB) TB
    refine hK.out _ _ (SS.out _ TB') ?_
    exact ⟨_, _, _, _, _, _, rfl, TB', ⟨_, xR.below hb xR.lt, sR⟩, Fl.new (EqV.rfl _), f2.keep (by decide) (keepE hb), f4.keep (by decide) (keepE hb), f5.keep (by decide) (keepE hb), f17.keep (by decide) (SlV.below hb), f18.keep (by decide) (AgV.below hb), f19.keep (by decide) (BxV.below hb)⟩
  · obtain ⟨v42, v43, v45, v46, v58, v59, rfl, TB, XB, f1, f2, f4, f5, f17, f18, f19⟩ := hI
    obtain ⟨vsR, xR, sR⟩ := XB.out
    have hnW : n0 ≤ W.heap.size := by have := xR.lt; omega
    obtain ⟨rfl⟩ := f1.get (hd 1 (by simp))
    refine want_none (by exact rfl) ?_
    go_wp2_with fail
    refine hK.out _ _ (SS.out _ TB) ?_
    exact ⟨_, _, _, _, _, _, rfl, TB, XB, f1.keep (by decide) id, Fl.new (EqV.rfl _), f4.keep (by decide) id, f5.keep (by decide) id, f17.keep (by decide) id, f18.keep (by decide) id, f19.keep (by decide) id⟩
  · obtain ⟨v42, v43, v45, v46, v58, v59, rfl, TB, XB, f1, f2, f4, f5, f17, f18, f19⟩ := hI
    obtain ⟨vsR, xR, sR⟩ := XB.out
    have hnW : n0 ≤ W.heap.size := by have := xR.lt; omega
    refine want_none (by exact rfl) ?_
    go_wp2_with fail
    refine (K4.out _ TB.out).mono ?_
    rintro e w' ⟨rfl, hb0⟩
    go_wp2_with fail
    have hb : Below W.heap.size W _ := hb0
    have TB' := kCall hb (kSize TB) TB
    refine hK.out _ _ (SS.out _ TB') ?_
    exact ⟨_, _, _, _, _, _, rfl, TB', ⟨_, xR.below hb xR.lt, sR⟩, f1.keep (by decide) (keepE hb), f2.keep (by decide) (keepE hb), Fl.new (EqV.rfl _), f5.keep (by decide) (keepE hb), f17.keep (by decide) (SlV.below hb), f18.keep (by decide) (AgV.below hb), f19.keep (by decide) (BxV.below hb)⟩
  · obtain ⟨v42, v43, v45, v46, v58, v59, rfl, TB, XB, f1, f2, f4, f5, f17, f18, f19⟩ := hI
    obtain ⟨vsR, xR, sR⟩ := XB.out
    have hnW : n0 ≤ W.heap.size := by have := xR.lt; omega
    obtain ⟨rfl⟩ := f4.get (hd 4 (by simp))
    refine want_none (by exact rfl) ?_
    go_wp2_with fail
    refine hK.out _ _ (SS.out _ TB) ?_
    exact ⟨_, _, _, _, _, _, rfl, TB, XB, f1.keep (by decide) id, f2.keep (by decide) id, f4.keep (by decide) id, Fl.new (EqV.rfl _), f17.keep (by decide) id, f18.keep (by decide) id, f19.keep (by decide) id⟩
  · obtain ⟨v42, v43, v45, v46, v58, v59, rfl, TB, XB, f1, f2, f4, f5, f17, f18, f19⟩ := hI
    obtain ⟨vsR, xR, sR⟩ := XB.out
    have hnW : n0 ≤ W.heap.size := by have := xR.lt; omega
    refine want_none (by exact rfl) ?_
    go_wp2_with fail
    refine (KD.out _ TB.out).mono ?_
    rintro e w' ⟨a', c', rfl, o', hb0⟩
    go_wp2_with fail
    have hb : Below W.heap.size W _ := hb0
    have TB' := kCall hb (kSize TB) TB
    refine hK.out _ _ (SS.out _ TB') ?_
    exact ⟨_, _, _, _, _, _, rfl, TB', ⟨_, xR.below hb xR.lt, sR⟩, f1.keep (by decide) (keepE hb), f2.keep (by decide) (keepE hb), f4.keep (by decide) (keepE hb), f5.keep (by decide) (keepE hb), Fl.new (⟨_, _, rfl, o'.rebase hnW⟩), f18.keep (by decide) (AgV.below hb), f19.keep (by decide) (BxV.below hb)⟩
  · obtain ⟨v42, v43, v45, v46, v58, v59, rfl, TB, XB, f1, f2, f4, f5, f17, f18, f19⟩ := hI
    obtain ⟨vsR, xR, sR⟩ := XB.out
    have hnW : n0 ≤ W.heap.size := by have := xR.lt; omega
    obtain ⟨rfl⟩ := f2.get (hd 2 (by simp))
    obtain ⟨rfl⟩ := f5.get (hd 5 (by simp))
    obtain ⟨a58, c58, rfl, o58⟩ := f17.get (hd 17 (by simp))
    refine want_none (by exact rfl) ?_
    go_wp2_with fail
    refine hK.out _ _ (SS.out _ TB) ?_
    exact ⟨_, _, _, _, _, _, rfl, TB, XB, f1.keep (by decide) id, f2.keep (by decide) id, f4.keep (by decide) id, f5.keep (by decide) id, f17.keep (by decide) id, Fl.new (⟨_, _, rfl, o58⟩), f19.keep (by decide) id⟩
  · obtain ⟨v42, v43, v45, v46, v58, v59, rfl, TB, XB, f1, f2, f4, f5, f17, f18, f19⟩ := hI
    obtain ⟨vsR, xR, sR⟩ := XB.out
    have hnW : n0 ≤ W.heap.size := by have := xR.lt; omega
    obtain ⟨a59, c59, rfl, o59⟩ := f18.get (hd 18 (by simp))
    refine storeBox_step _ rfl 25 (.tmp 2) (.tmp 59) rfl w.heap.size 25 vsR (#[.int .i64 m1, .int .i64 m2, .int .i64 kp, .int .i64 kl] ++ #[.slice a59 (N - 20) c59]) xR (by exact rfl) (by exact rfl) (by kernel_rfl) (sR.trans rfl) (by simp [Value.oneCell']) ?_
    intro wS xS gS
    simp only [Act.put]
    have TB' := kGrownB gS TB (Nat.le_refl _)
    refine hK.out _ _ (SS.out _ TB') ?_
    exact ⟨_, _, _, _, _, _, rfl, TB', ⟨_, xS, rfl⟩, f1.keep (by decide) (id), f2.keep (by decide) (id), f4.keep (by decide) (id), f5.keep (by decide) (id), f17.keep (by decide) (SlV.grown gS hrn), f18.keep (by decide) (AgV.grown gS hrn), Fl.new (⟨_, _, xS, o59.grown gS (fun x hx e => by have := (o59.lt x hx).1; simp only [Option.some.injEq] at e; omega)⟩)⟩
  · obtain ⟨v42, v43, v45, v46, v58, v59, rfl, TB, XB, f1, f2, f4, f5, f17, f18, f19⟩ := hI
    obtain ⟨vsR, xR, sR⟩ := XB.out
    have hnW : n0 ≤ W.heap.size := by have := xR.lt; omega
    obtain ⟨a5, c5, x5, o5⟩ := f19.get (hall 19 (by decide))
    have X5 := Lib.hid x5
    have O5 := Lib.hid (o5.rebase hn1)
    have T5 := TB
    clear x5 o5 xR sR XB hall TB SS f1 f2 f4 f5 f17 f18 f19
    go_wp2
    exact bodyPost_ret (results_cell_row Try.results67 _ _ _ _ _ _ _ rfl X5.out Try.underlying25 rfl (by kernel_rfl)) rfl ⟨_, _, _, rfl, O5.out, T5.out⟩

set_option maxRecDepth 20000 in
set_option maxHeartbeats 4000000 in
theorem packetIn_ok2 (a : Option Addr) (zs : List Int) (w : World) (hr : Rd w a 20 20 zs) (b0 ct : Int) (q0 : zs.getD 0 0 = b0) (qn : rdTo zs 2 2 = 20) (qc : rdTo zs 6 2 = ct) (f0 : (b0 != 69) = false) (f1 : plB 20 20 = true) (f2 : cutB ct = false) (hs : decide (sumV (zs.take 20) = 0) = true) (kp kl : Int) (ht : zs.getD 8 0 = kl) (hp : zs.getD 9 0 = kp) (hz : (kl == 0) = false) :
    Calls Try.prog 67 #[.slice a 20 20] w (PacketOut w (rdTo zs 12 4) (rdTo zs 16 4) kp kl (zs.drop 20)) := by
  have hle := hr.le
  have hmx := hr.max
  rcases hr.cells with h0 | ⟨ba, off, rfl, hc⟩
  · omega
  have hfi := fld_ir
  have HR := Lib.hid (fun W (hW : Below w.heap.size w W) => hr.below hW)
  have K1 := Lib.hid (fun W (hW : Below w.heap.size w W) => readWord_lit _ 20 20 2 2 2 2 20 zs W (hr.below hW) rfl rfl (by omega) (by omega) (by omega) qn)
  have KL := Lib.hid (fun W => packetLength_any 20 (some ⟨ba, off, none⟩) 20 20 W)
  have KC := Lib.hid (fun W (hW : Below w.heap.size w W) => isCut_any _ 20 20 zs ct W (hr.below hW) (by omega) qc)
  have CC := Lib.hid (fun W (hW : Below w.heap.size w W) (i : Nat) (hi : i < 20) => (hW.cell (World.block_lt_of_cell? _ _ (hc i hi))).trans (hc i hi))
  have B0 := Lib.hid ((Below.refl w.heap.size w).alloc (Nat.le_refl _) (.cells #[.int .i64 0, .int .i64 0, .int .i64 0, .int .i64 0, .slice none 0 0] 25))
  have X0 := Lib.hid (Box.new w 25 #[.int .i64 0, .int .i64 0, .int .i64 0, .int .i64 0, .slice none 0 0])
  have Q0 := Lib.hid q0
  rw [f1] at KL
  rw [f2] at KC
  have KS := Lib.hid (fun W (hW : Below w.heap.size w W) => isSummed_is _ 20 20 (zs.take 20) true W ((hr.below hW).upto 20 (by omega)) (by omega) hs)
  have v8 : IntKind.i64.wrap kl = kl := IntWalk.i64_in _ (by have := b8_getD hr.b8 8; omega)
  have v9 : IntKind.i64.wrap kp = kp := IntWalk.i64_in _ (by have := b8_getD hr.b8 9; omega)
  obtain ⟨m1, hm1⟩ : ∃ m, rdTo zs 12 4 = m := ⟨_, rfl⟩
  obtain ⟨m2, hm2⟩ : ∃ m, rdTo zs 16 4 = m := ⟨_, rfl⟩
  obtain ⟨ys, hys⟩ : ∃ ys, (zs.drop 20) = ys := ⟨_, rfl⟩
  have K3 := Lib.hid (fun W (hW : Below w.heap.size w W) => readWord_lit _ 20 20 12 4 12 4 m1 zs W (hr.below hW) rfl rfl (by omega) (by omega) (by omega) hm1)
  have K4 := Lib.hid (fun W (hW : Below w.heap.size w W) => readWord_lit _ 20 20 16 4 16 4 m2 zs W (hr.below hW) rfl rfl (by omega) (by omega) (by omega) hm2)
  have HD := Lib.hid (show ∀ W, Below w.heap.size w W → Rd W (some ⟨ba, off, none⟩) 0 0 ys from fun W hW => by rw [← hys]; exact rd_tail20 (hr.below hW))
  have KD := Lib.hid (fun W (hW : Below w.heap.size w W) => bclone_any (some ⟨ba, off, none⟩) 0 0 ys W (HD.out W hW) (by omega))
  have SS := Lib.hid (show ∀ W, Hid (Below w.heap.size w W) → W.cell? ⟨ba, off + 8, none⟩ = some (.int .u8 kl) ∧ W.cell? ⟨ba, off + 9, none⟩ = some (.int .u8 kp) ∧ Hid (Below w.heap.size w W) from fun W h => by
    refine ⟨?_, ?_, h⟩
    · rw [← ht]; exact CC.out W h.out 8 (by omega)
    · rw [← hp]; exact CC.out W h.out 9 (by omega))
  rw [hm1, hm2, hys]
  clear hr hc q0 qn qc
  clear hs ht hp hm1 hm2 hys HD
  go_enter Try.func67, Try.ntmps67
  go_wp2_with fail
  refine (refuse_no _ _).mono ?_
  rintro e w' ⟨rfl, rfl⟩
  go_wp2_with fail
  refine (K1.out _ B0.out).mono ?_
  rintro e w1 ⟨rfl, b1⟩
  have B1 := Lib.hid (B0.out.trans (b1.mono B0.out.size))
  have X1 := Lib.hid (X0.out.below b1 X0.out.lt)
  clear b1 X0 B0
  have c0 := CC.out _ B1.out 0 (by omega)
  rw [Q0.out] at c0
  simp only [Nat.add_zero] at c0
  go_wp2_with fail
  refine (KL.out _).mono ?_
  rintro e w' ⟨rfl, rfl⟩
  go_wp2_with fail
  refine (KC.out _ B1.out).mono ?_
  rintro e w2 ⟨rfl, b2⟩
  have B2 := Lib.hid (B1.out.trans (b2.mono B1.out.size))
  have X2 := Lib.hid (X1.out.below b2 X1.out.lt)
  clear b2 X1 B1 c0
  go_wp2_with fail
  refine (refuse_no _ _).mono ?_
  rintro e w' ⟨rfl, rfl⟩
  go_wp2_with fail
  refine (KS.out _ B2.out).mono ?_
  rintro e w3 ⟨rfl, b3⟩
  have B3 := Lib.hid (B2.out.trans (b3.mono B2.out.size))
  have X3 := Lib.hid (X2.out.below b3 X2.out.lt)
  clear b3 X2 B2
  go_wp2_with fail
  refine (refuse_no _ _).mono ?_
  rintro e w' ⟨rfl, rfl⟩
  obtain ⟨c8, _, _⟩ := SS.out _ B3
  go_wp2_with fail
  refine (refuse_no _ _).mono ?_
  rintro e w' ⟨rfl, rfl⟩
  go_wp2_with fail
  clear c8
  have hrn : w.heap.size < w.heap.size + 1 := Nat.lt_succ_self _
  have hn1 : w.heap.size ≤ w.heap.size + 1 := Nat.le_succ _
  generalize hn0 : w.heap.size + 1 = n0 at hrn hn1
  have TD := kDrew B3
  refine wp_region_held_drew (S := fun W => W.cell? ⟨ba, off + 8, none⟩ = some (.int .u8 kl) ∧ W.cell? ⟨ba, off + 9, none⟩ = some (.int .u8 kp) ∧ Hid (Below w.heap.size w W)) (by kernel_rfl) (SS.out _ TD) (fun hHeld => ?_)
  refine wpAnyH_take (i := 0) (v := ?_) (by simp only [List.getElem?_toArray, List.getElem?_cons_zero]; exact rfl) (by kernel_rfl) (by kernel_rfl) (by kernel_rfl) (by exact fun _ _ _ h => h) (Or.inl ⟨by rfl, ?_⟩) hHeld ?_
  rotate_left
  · intro w' hSw
    obtain ⟨s0, s1, _⟩ := hSw
    go_simp
    try with_reducible rfl
  try simp only [Act.put, List.setIfInBounds_toArray, List.set_cons_zero, List.set_cons_succ]
  refine wpAnyH_take (i := 3) (v := ?_) (by simp only [List.getElem?_toArray, List.getElem?_cons_zero, List.getElem?_cons_succ]; exact rfl) (by kernel_rfl) (by kernel_rfl) (by kernel_rfl) (by exact fun _ _ _ h => h) (Or.inl ⟨by rfl, ?_⟩) hHeld ?_
  rotate_left
  · intro w' hSw
    obtain ⟨s0, s1, _⟩ := hSw
    go_simp
    try with_reducible rfl
  try simp only [Act.put, List.setIfInBounds_toArray, List.set_cons_zero, List.set_cons_succ]
  refine wpAnyH_take (i := 6) (v := ?_) (by simp only [List.getElem?_toArray, List.getElem?_cons_zero, List.getElem?_cons_succ]; exact rfl) (by kernel_rfl) (by kernel_rfl) (by kernel_rfl) (by exact fun _ _ _ h => h) (Or.inl ⟨by rfl, ?_⟩) hHeld ?_
  rotate_left
  · intro w' hSw
    obtain ⟨s0, s1, _⟩ := hSw
    go_simp
    try with_reducible rfl
  try simp only [Act.put, List.setIfInBounds_toArray, List.set_cons_zero, List.set_cons_succ]
  refine wpAnyH_take (i := 7) (v := ?_) (by simp only [List.getElem?_toArray, List.getElem?_cons_zero, List.getElem?_cons_succ]; exact rfl) (by kernel_rfl) (by kernel_rfl) (by kernel_rfl) (by exact fun _ _ _ h => h) (Or.inl ⟨by rfl, ?_⟩) hHeld ?_
  rotate_left
  · intro w' hSw
    obtain ⟨s0, s1, _⟩ := hSw
    go_simp
    try with_reducible rfl
  try simp only [Act.put, List.setIfInBounds_toArray, List.set_cons_zero, List.set_cons_succ]
  refine wpAnyH_take (i := 8) (v := ?_) (by simp only [List.getElem?_toArray, List.getElem?_cons_zero, List.getElem?_cons_succ]; exact rfl) (by kernel_rfl) (by kernel_rfl) (by kernel_rfl) (by exact fun _ _ _ h => h) (Or.inl ⟨by rfl, ?_⟩) hHeld ?_
  rotate_left
  · intro w' hSw
    obtain ⟨s0, s1, _⟩ := hSw
    go_simp
    try with_reducible rfl
  try simp only [Act.put, List.setIfInBounds_toArray, List.set_cons_zero, List.set_cons_succ]
  refine wpAnyH_take (i := 9) (v := ?_) (by simp only [List.getElem?_toArray, List.getElem?_cons_zero, List.getElem?_cons_succ]; exact rfl) (by kernel_rfl) (by kernel_rfl) (by kernel_rfl) (by exact fun _ _ _ h => h) (Or.inl ⟨by rfl, ?_⟩) hHeld ?_
  rotate_left
  · intro w' hSw
    obtain ⟨s0, s1, _⟩ := hSw
    go_simp
    try with_reducible rfl
  try simp only [Act.put, List.setIfInBounds_toArray, List.set_cons_zero, List.set_cons_succ]
  refine wpAnyH_take (i := 10) (v := ?_) (by simp only [List.getElem?_toArray, List.getElem?_cons_zero, List.getElem?_cons_succ]; exact rfl) (by kernel_rfl) (by kernel_rfl) (by kernel_rfl) (by exact fun _ _ _ h => h) (Or.inl ⟨by rfl, ?_⟩) hHeld ?_
  rotate_left
  · intro w' hSw
    obtain ⟨s0, s1, _⟩ := hSw
    go_simp
    try with_reducible rfl
  try simp only [Act.put, List.setIfInBounds_toArray, List.set_cons_zero, List.set_cons_succ]
  refine wpAnyH_take (i := 11) (v := ?_) (by simp only [List.getElem?_toArray, List.getElem?_cons_zero, List.getElem?_cons_succ]; exact rfl) (by kernel_rfl) (by kernel_rfl) (by kernel_rfl) (by exact fun _ _ _ h => h) (Or.inl ⟨by rfl, ?_⟩) hHeld ?_
  rotate_left
  · intro w' hSw
    obtain ⟨s0, s1, _⟩ := hSw
    go_simp
    try with_reducible rfl
  try simp only [Act.put, List.setIfInBounds_toArray, List.set_cons_zero, List.set_cons_succ]
  refine wpAnyH_take (i := 12) (v := ?_) (by simp only [List.getElem?_toArray, List.getElem?_cons_zero, List.getElem?_cons_succ]; exact rfl) (by kernel_rfl) (by kernel_rfl) (by kernel_rfl) (by exact fun _ _ _ h => h) (Or.inl ⟨by rfl, ?_⟩) hHeld ?_
  rotate_left
  · intro w' hSw
    obtain ⟨s0, s1, _⟩ := hSw
    go_simp
    try with_reducible rfl
  try simp only [Act.put, List.setIfInBounds_toArray, List.set_cons_zero, List.set_cons_succ]
  refine wpAnyH_take (i := 13) (v := ?_) (by simp only [List.getElem?_toArray, List.getElem?_cons_zero, List.getElem?_cons_succ]; exact rfl) (by kernel_rfl) (by kernel_rfl) (by kernel_rfl) (by exact fun _ _ _ h => h) (Or.inl ⟨by rfl, ?_⟩) hHeld ?_
  rotate_left
  · intro w' hSw
    obtain ⟨s0, s1, _⟩ := hSw
    go_simp
    try with_reducible rfl
  try simp only [Act.put, List.setIfInBounds_toArray, List.set_cons_zero, List.set_cons_succ]
  refine wpAnyH_take (i := 14) (v := ?_) (by simp only [List.getElem?_toArray, List.getElem?_cons_zero, List.getElem?_cons_succ]; exact rfl) (by kernel_rfl) (by kernel_rfl) (by kernel_rfl) (by exact fun _ _ _ h => h) (Or.inl ⟨by rfl, ?_⟩) hHeld ?_
  rotate_left
  · intro w' hSw
    obtain ⟨s0, s1, _⟩ := hSw
    go_simp
    try with_reducible rfl
  try simp only [Act.put, List.setIfInBounds_toArray, List.set_cons_zero, List.set_cons_succ]
  refine wpAnyH_take (i := 15) (v := ?_) (by simp only [List.getElem?_toArray, List.getElem?_cons_zero, List.getElem?_cons_succ]; exact rfl) (by kernel_rfl) (by kernel_rfl) (by kernel_rfl) (by exact fun _ _ _ h => h) (Or.inl ⟨by rfl, ?_⟩) hHeld ?_
  rotate_left
  · intro w' hSw
    obtain ⟨s0, s1, _⟩ := hSw
    go_simp
    try with_reducible rfl
  try simp only [Act.put, List.setIfInBounds_toArray, List.set_cons_zero, List.set_cons_succ]
  refine wpAnyH_take (i := 16) (v := ?_) (by simp only [List.getElem?_toArray, List.getElem?_cons_zero, List.getElem?_cons_succ]; exact rfl) (by kernel_rfl) (by kernel_rfl) (by kernel_rfl) (by exact fun _ _ _ h => h) (Or.inl ⟨by rfl, ?_⟩) hHeld ?_
  rotate_left
  · intro w' hSw
    obtain ⟨s0, s1, _⟩ := hSw
    go_simp
    try with_reducible rfl
  try simp only [Act.put, List.setIfInBounds_toArray, List.set_cons_zero, List.set_cons_succ]
  refine flow_go (Inv := fun listed ac W => ∃ v42 v43 v45 v46 v58 v59 : Value, ac = { tmps := #[.slice (some ⟨ba, off, none⟩) 20 20, _, .pointer (some ⟨w.heap.size, 0, none⟩), .int .i64 20, _, _, _, _, _, _, _, _, _, _, _, _, _, _, _, _, _, _, _, _, _, _, _, _, _, _, _, _, _, _, _, _, _, _, _, _, _, .slice (some ⟨ba, off, none⟩) 20 20, v42, v43, .slice (some ⟨ba, off, none⟩) 20 20, v45, v46, .slice (some ⟨ba, off, none⟩) 20 20, .pointer (some ⟨ba, off + 9, none⟩), .int .u8 kp, .int .i64 kp, .slice (some ⟨ba, off, none⟩) 20 20, .pointer (some ⟨ba, off + 8, none⟩), .int .u8 kl, .int .i64 kl, .slice (some ⟨ba, off, none⟩) 20 20, .int .i64 20, .slice (some ⟨ba, off, none⟩) 0 0, v58, v59], defers := [] } ∧ Hid (Below w.heap.size w W) ∧ Hid (∃ vs : Array Value, Box W w.heap.size 25 vs ∧ vs.size = 5) ∧ Fl listed 1 (EqV v42 (.agg #[.int .i64 0, .int .i64 m1])) ∧ Fl listed 2 (EqV v43 (.int .i64 m1)) ∧ Fl listed 4 (EqV v45 (.agg #[.int .i64 0, .int .i64 m2])) ∧ Fl listed 5 (EqV v46 (.int .i64 m2)) ∧ Fl listed 17 (SlV W n0 v58 (0) ys) ∧ Fl listed 18 (AgV W n0 v59 #[.int .i64 m1, .int .i64 m2, .int .i64 kp, .int .i64 kl] (0) ys) ∧ Fl listed 19 (BxV W n0 w.heap.size 25 #[.int .i64 m1, .int .i64 m2, .int .i64 kp, .int .i64 kl] (0) ys)) [1, 2, 4, 5, 17, 18, 19] (by kernel_rfl) (by kernel_rfl) ⟨_, _, _, _, _, _, rfl, TD, ⟨_, (show Box _ _ _ _ from X3.out), rfl⟩, Fl.not (by kernel_rfl), Fl.not (by kernel_rfl), Fl.not (by kernel_rfl), Fl.not (by kernel_rfl), Fl.not (by kernel_rfl), Fl.not (by kernel_rfl), Fl.not (by kernel_rfl)⟩
    (FlowAll.cons [] (by simp only [List.getElem?_toArray, List.getElem?_cons_zero, List.getElem?_cons_succ]; exact rfl) (by kernel_rfl) (fun listed ac W hI hd K hK => ?_)
      (FlowAll.cons [1] (by simp only [List.getElem?_toArray, List.getElem?_cons_zero, List.getElem?_cons_succ]; exact rfl) (by kernel_rfl) (fun listed ac W hI hd K hK => ?_)
      (FlowAll.cons [] (by simp only [List.getElem?_toArray, List.getElem?_cons_zero, List.getElem?_cons_succ]; exact rfl) (by kernel_rfl) (fun listed ac W hI hd K hK => ?_)
      (FlowAll.cons [4] (by simp only [List.getElem?_toArray, List.getElem?_cons_zero, List.getElem?_cons_succ]; exact rfl) (by kernel_rfl) (fun listed ac W hI hd K hK => ?_)
      (FlowAll.cons [] (by simp only [List.getElem?_toArray, List.getElem?_cons_zero, List.getElem?_cons_succ]; exact rfl) (by kernel_rfl) (fun listed ac W hI hd K hK => ?_)
      (FlowAll.cons [2, 5, 17] (by simp only [List.getElem?_toArray, List.getElem?_cons_zero, List.getElem?_cons_succ]; exact rfl) (by kernel_rfl) (fun listed ac W hI hd K hK => ?_)
      (FlowAll.cons [18] (by simp only [List.getElem?_toArray, List.getElem?_cons_zero, List.getElem?_cons_succ]; exact rfl) (by kernel_rfl) (fun listed ac W hI hd K hK => ?_)
      FlowAll.nil)))))))
    (fun listed ac W hI hall => ?_)
  · obtain ⟨v42, v43, v45, v46, v58, v59, rfl, TB, XB, f1, f2, f4, f5, f17, f18, f19⟩ := hI
    obtain ⟨vsR, xR, sR⟩ := XB.out
    have hnW : n0 ≤ W.heap.size := by have := xR.lt; omega
    refine want_none (by exact rfl) ?_
    go_wp2_with fail
    refine (K3.out _ TB.out).mono ?_
    rintro e w' ⟨rfl, hb0⟩
    go_wp2_with fail
    have hb : Below W.heap.size W _ := hb0
    have TB' := kCall hb (kSize TB) TB
    refine hK.out _ _ (SS.out _ TB') ?_
    exact ⟨_, _, _, _, _, _, rfl, TB', ⟨_, xR.below hb xR.lt, sR⟩, Fl.new (EqV.rfl _), f2.keep (by decide) (keepE hb), f4.keep (by decide) (keepE hb), f5.keep (by decide) (keepE hb), f17.keep (by decide) (SlV.below hb), f18.keep (by decide) (AgV.below hb), f19.keep (by decide) (BxV.below hb)⟩
  · obtain ⟨v42, v43, v45, v46, v58, v59, rfl, TB, XB, f1, f2, f4, f5, f17, f18, f19⟩ := hI
    obtain ⟨vsR, xR, sR⟩ := XB.out
    have hnW : n0 ≤ W.heap.size := by have := xR.lt; omega
    obtain ⟨rfl⟩ := f1.get (hd 1 (by simp))
    refine want_none (by exact rfl) ?_
    go_wp2_with fail
    refine hK.out _ _ (SS.out _ TB) ?_
    exact ⟨_, _, _, _, _, _, rfl, TB, XB, f1.keep (by decide) id, Fl.new (EqV.rfl _), f4.keep (by decide) id, f5.keep (by decide) id, f17.keep (by decide) id, f18.keep (by decide) id, f19.keep (by decide) id⟩
  · obtain ⟨v42, v43, v45, v46, v58, v59, rfl, TB, XB, f1, f2, f4, f5, f17, f18, f19⟩ := hI
    obtain ⟨vsR, xR, sR⟩ := XB.out
    have hnW : n0 ≤ W.heap.size := by have := xR.lt; omega
    refine want_none (by exact rfl) ?_
    go_wp2_with fail
    refine (K4.out _ TB.out).mono ?_
    rintro e w' ⟨rfl, hb0⟩
    go_wp2_with fail
    have hb : Below W.heap.size W _ := hb0
    have TB' := kCall hb (kSize TB) TB
    refine hK.out _ _ (SS.out _ TB') ?_
    exact ⟨_, _, _, _, _, _, rfl, TB', ⟨_, xR.below hb xR.lt, sR⟩, f1.keep (by decide) (keepE hb), f2.keep (by decide) (keepE hb), Fl.new (EqV.rfl _), f5.keep (by decide) (keepE hb), f17.keep (by decide) (SlV.below hb), f18.keep (by decide) (AgV.below hb), f19.keep (by decide) (BxV.below hb)⟩
  · obtain ⟨v42, v43, v45, v46, v58, v59, rfl, TB, XB, f1, f2, f4, f5, f17, f18, f19⟩ := hI
    obtain ⟨vsR, xR, sR⟩ := XB.out
    have hnW : n0 ≤ W.heap.size := by have := xR.lt; omega
    obtain ⟨rfl⟩ := f4.get (hd 4 (by simp))
    refine want_none (by exact rfl) ?_
    go_wp2_with fail
    refine hK.out _ _ (SS.out _ TB) ?_
    exact ⟨_, _, _, _, _, _, rfl, TB, XB, f1.keep (by decide) id, f2.keep (by decide) id, f4.keep (by decide) id, Fl.new (EqV.rfl _), f17.keep (by decide) id, f18.keep (by decide) id, f19.keep (by decide) id⟩
  · obtain ⟨v42, v43, v45, v46, v58, v59, rfl, TB, XB, f1, f2, f4, f5, f17, f18, f19⟩ := hI
    obtain ⟨vsR, xR, sR⟩ := XB.out
    have hnW : n0 ≤ W.heap.size := by have := xR.lt; omega
    refine want_none (by exact rfl) ?_
    go_wp2_with fail
    refine (KD.out _ TB.out).mono ?_
    rintro e w' ⟨a', c', rfl, o', hb0⟩
    go_wp2_with fail
    have hb : Below W.heap.size W _ := hb0
    have TB' := kCall hb (kSize TB) TB
    refine hK.out _ _ (SS.out _ TB') ?_
    exact ⟨_, _, _, _, _, _, rfl, TB', ⟨_, xR.below hb xR.lt, sR⟩, f1.keep (by decide) (keepE hb), f2.keep (by decide) (keepE hb), f4.keep (by decide) (keepE hb), f5.keep (by decide) (keepE hb), Fl.new (⟨_, _, rfl, o'.rebase hnW⟩), f18.keep (by decide) (AgV.below hb), f19.keep (by decide) (BxV.below hb)⟩
  · obtain ⟨v42, v43, v45, v46, v58, v59, rfl, TB, XB, f1, f2, f4, f5, f17, f18, f19⟩ := hI
    obtain ⟨vsR, xR, sR⟩ := XB.out
    have hnW : n0 ≤ W.heap.size := by have := xR.lt; omega
    obtain ⟨rfl⟩ := f2.get (hd 2 (by simp))
    obtain ⟨rfl⟩ := f5.get (hd 5 (by simp))
    obtain ⟨a58, c58, rfl, o58⟩ := f17.get (hd 17 (by simp))
    refine want_none (by exact rfl) ?_
    go_wp2_with fail
    refine hK.out _ _ (SS.out _ TB) ?_
    exact ⟨_, _, _, _, _, _, rfl, TB, XB, f1.keep (by decide) id, f2.keep (by decide) id, f4.keep (by decide) id, f5.keep (by decide) id, f17.keep (by decide) id, Fl.new (⟨_, _, rfl, o58⟩), f19.keep (by decide) id⟩
  · obtain ⟨v42, v43, v45, v46, v58, v59, rfl, TB, XB, f1, f2, f4, f5, f17, f18, f19⟩ := hI
    obtain ⟨vsR, xR, sR⟩ := XB.out
    have hnW : n0 ≤ W.heap.size := by have := xR.lt; omega
    obtain ⟨a59, c59, rfl, o59⟩ := f18.get (hd 18 (by simp))
    refine storeBox_step _ rfl 25 (.tmp 2) (.tmp 59) rfl w.heap.size 25 vsR (#[.int .i64 m1, .int .i64 m2, .int .i64 kp, .int .i64 kl] ++ #[.slice a59 (0) c59]) xR (by exact rfl) (by exact rfl) (by kernel_rfl) (sR.trans rfl) (by simp [Value.oneCell']) ?_
    intro wS xS gS
    simp only [Act.put]
    have TB' := kGrownB gS TB (Nat.le_refl _)
    refine hK.out _ _ (SS.out _ TB') ?_
    exact ⟨_, _, _, _, _, _, rfl, TB', ⟨_, xS, rfl⟩, f1.keep (by decide) (id), f2.keep (by decide) (id), f4.keep (by decide) (id), f5.keep (by decide) (id), f17.keep (by decide) (SlV.grown gS hrn), f18.keep (by decide) (AgV.grown gS hrn), Fl.new (⟨_, _, xS, o59.grown gS (fun x hx e => by have := (o59.lt x hx).1; simp only [Option.some.injEq] at e; omega)⟩)⟩
  · obtain ⟨v42, v43, v45, v46, v58, v59, rfl, TB, XB, f1, f2, f4, f5, f17, f18, f19⟩ := hI
    obtain ⟨vsR, xR, sR⟩ := XB.out
    have hnW : n0 ≤ W.heap.size := by have := xR.lt; omega
    obtain ⟨a5, c5, x5, o5⟩ := f19.get (hall 19 (by decide))
    have X5 := Lib.hid x5
    have O5 := Lib.hid (o5.rebase hn1)
    have T5 := TB
    clear x5 o5 xR sR XB hall TB SS f1 f2 f4 f5 f17 f18 f19
    go_wp2
    exact bodyPost_ret (results_cell_row Try.results67 _ _ _ _ _ _ _ rfl X5.out Try.underlying25 rfl (by kernel_rfl)) rfl ⟨_, _, _, rfl, O5.out, T5.out⟩
end Go.Proofs.Ytgjkbaplfbiomaa
