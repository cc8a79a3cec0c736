/-
  packetIn of the program, where it is a packet; ReadPacket's law.
  ReadPacket of the model and of the program in one closed form, and its law.
  echoIn of the program; ReadEcho's law.
  The source of draws of the laws: whatever it gives lies in its bounds, and nothing but its own block changes.
  Draws of the laws: a number out of a list, some bytes, a chance.
  InWindow of the program and of the model answer by one and the same function of numbers; the laws FnExactSeqDist and FnExactInWindow return true.
  The draws of the law of sequence numbers.
  SealSum of the model, and of the program, answer by one and the same function.
  The law FnSeqs returns true at every slice of bytes.
  Numbers alone: what has its sum is summed; numbers are read back from their bytes.
  Draws of the law of words; two slices of the same bytes are the same text; numbers and their bytes, there and back.
  Numbers alone: a packet's bytes are read back; one bit that is turned in a head that has its sum is told by the sum.
  Where the law turns a bit: lwAt; a bit that is turned.
  What is packed is read back; a bit that is turned in a head is told: in the closed forms of ReadPacket and ReadEcho.
-/
import Derived.Test.YtgjkbaplfbiomaaPacketsM2
import Derived.Test.YtgjkbaplfbiomaaPacketsM0
import Derived.Test.YtgjkbaplfbiomaaPacketsM1
import Derived.WalkSpells
import Derived.Deep.RegionLaw
import Derived.Deep.RegionWith
import Derived.Laws.CopyOwn
import Derived.Deep.RegionHeld3
import Derived.Deep.DeepCutAuto
import Derived.Laws.Shifts
namespace Go.Proofs.Ytgjkbaplfbiomaa
open Go.ChangeShapes Go.WideShapes Go.ChangeAt Go.RowKit

theorem rd_tail20 {W : World} {ba off : Nat} {zs : List Int} (h : Rd W (some ⟨ba, off, none⟩) 20 20 zs) : Rd W (some ⟨ba, off, none⟩) 0 0 (zs.drop 20) := by
  have := h.fromIf 20 (by omega)
  simpa using this

set_option maxRecDepth 20000 in
set_option maxHeartbeats 4000000 in
theorem packetIn_ok1 (a : Option Addr) (len cap : Nat) (zs : List Int) (w : World) (hr : Rd w a len cap zs) (h1 : 20 ≤ len) (h2 : len ≤ 600) (b0 ct : Int) (N : Nat) (q0 : zs.getD 0 0 = b0) (qn : rdTo zs 2 2 = (N : Int)) (qc : rdTo zs 6 2 = ct) (hcap : ¬ cap = 20) (f0 : (b0 != 69) = false) (f1 : plB (N : Int) len = true) (f2 : cutB ct = false) (hs : decide (sumV (zs.take 20) = 0) = true) (kp kl : Int) (ht : zs.getD 8 0 = kl) (hp : zs.getD 9 0 = kp) (hz : (kl == 0) = false) :
    Calls Try.prog 67 #[.slice a len cap] w (PacketOut w (rdTo zs 12 4) (rdTo zs 16 4) kp kl ((zs.take N).drop 20)) := by
  have hle := hr.le
  have hmx := hr.max
  rcases hr.cells with h0 | ⟨ba, off, rfl, hc⟩
  · omega
  have d1 : decide ((len : Int) < 20) = false := decide_eq_false (by omega)
  have d2 : decide ((600 : Int) < len) = false := decide_eq_false (by omega)
  have i0 : (0 : Int) < len := by omega
  have i0n : 0 < len := by omega
  have i8 : (8 : Int) < len := by omega
  have i9 : (9 : Int) < len := by omega
  have i20 : (20 : Int) ≤ cap := by omega
  have i20l : (20 : Int) ≤ len := by omega
  have i20n : 20 ≤ cap := by omega
  have hfi := fld_ir
  have HR := Lib.hid (fun W (hW : Below w.heap.size w W) => hr.below hW)
  have K1 := Lib.hid (fun W (hW : Below w.heap.size w W) => readWord_lit _ len cap 2 2 2 2 (N : Int) zs W (hr.below hW) rfl rfl (by omega) (by omega) (by omega) qn)
  have KL := Lib.hid (fun W => packetLength_any (N : Int) (some ⟨ba, off, none⟩) len cap W)
  have KC := Lib.hid (fun W (hW : Below w.heap.size w W) => isCut_any _ len cap zs ct W (hr.below hW) (by omega) qc)
  have CC := Lib.hid (fun W (hW : Below w.heap.size w W) (i : Nat) (hi : i < len) => (hW.cell (World.block_lt_of_cell? _ _ (hc i hi))).trans (hc i hi))
  have B0 := Lib.hid ((Below.refl w.heap.size w).alloc (Nat.le_refl _) (.cells #[.int .i64 0, .int .i64 0, .int .i64 0, .int .i64 0, .slice none 0 0] 25))
  have X0 := Lib.hid (Box.new w 25 #[.int .i64 0, .int .i64 0, .int .i64 0, .int .i64 0, .slice none 0 0])
  have Q0 := Lib.hid q0
  rw [f1] at KL
  rw [f2] at KC
  have hN : 20 ≤ N ∧ N ≤ len ∧ N ≤ 580 := by simp only [plB, Bool.and_eq_true, decide_eq_true_eq] at f1; omega
  obtain ⟨n1, n2, n3⟩ := hN
  have j1 : (20 : Int) ≤ N := by omega
  have j2 : (N : Int) ≤ cap := by omega
  have j3 : N ≤ cap := by omega
  have KS := Lib.hid (fun W (hW : Below w.heap.size w W) => isSummed_is _ 20 cap (zs.take 20) true W ((hr.below hW).upto 20 (by omega)) (by omega) hs)
  have v8 : IntKind.i64.wrap kl = kl := IntWalk.i64_in _ (by have := b8_getD hr.b8 8; omega)
  have v9 : IntKind.i64.wrap kp = kp := IntWalk.i64_in _ (by have := b8_getD hr.b8 9; omega)
  obtain ⟨m1, hm1⟩ : ∃ m, rdTo zs 12 4 = m := ⟨_, rfl⟩
  obtain ⟨m2, hm2⟩ : ∃ m, rdTo zs 16 4 = m := ⟨_, rfl⟩
  obtain ⟨ys, hys⟩ : ∃ ys, ((zs.take N).drop 20) = ys := ⟨_, rfl⟩
  have K3 := Lib.hid (fun W (hW : Below w.heap.size w W) => readWord_lit _ len cap 12 4 12 4 m1 zs W (hr.below hW) rfl rfl (by omega) (by omega) (by omega) hm1)
  have K4 := Lib.hid (fun W (hW : Below w.heap.size w W) => readWord_lit _ len cap 16 4 16 4 m2 zs W (hr.below hW) rfl rfl (by omega) (by omega) (by omega) hm2)
  have HD := Lib.hid (show ∀ W, Below w.heap.size w W → Rd W (some ⟨ba, off + 20, none⟩) (N - 20) (cap - 20) ys from fun W hW => by rw [← hys]; exact ((hr.below hW).upto N (by omega)).from 20 _ _ _ (by omega) rfl rfl rfl)
  have KD := Lib.hid (fun W (hW : Below w.heap.size w W) => bclone_any (some ⟨ba, off + 20, none⟩) (N - 20) (cap - 20) ys W (HD.out W hW) (by omega))
  have SS := Lib.hid (show ∀ W, Hid (Below w.heap.size w W) → W.cell? ⟨ba, off + 8, none⟩ = some (.int .u8 kl) ∧ W.cell? ⟨ba, off + 9, none⟩ = some (.int .u8 kp) ∧ Hid (Below w.heap.size w W) from fun W h => by
    refine ⟨?_, ?_, h⟩
    · rw [← ht]; exact CC.out W h.out 8 (by omega)
    · rw [← hp]; exact CC.out W h.out 9 (by omega))
  rw [hm1, hm2, hys]
  clear hr hc q0 qn qc
  clear hs ht hp hm1 hm2 hys HD
  go_enter Try.func67, Try.ntmps67
  go_wp2_with fail
  refine (refuse_no _ _).mono ?_
  rintro e w' ⟨rfl, rfl⟩
  go_wp2_with fail
  refine (K1.out _ B0.out).mono ?_
  rintro e w1 ⟨rfl, b1⟩
  have B1 := Lib.hid (B0.out.trans (b1.mono B0.out.size))
  have X1 := Lib.hid (X0.out.below b1 X0.out.lt)
  clear b1 X0 B0
  have c0 := CC.out _ B1.out 0 i0n
  rw [Q0.out] at c0
  simp only [Nat.add_zero] at c0
  go_wp2_with fail
  refine (KL.out _).mono ?_
  rintro e w' ⟨rfl, rfl⟩
  go_wp2_with fail
  refine (KC.out _ B1.out).mono ?_
  rintro e w2 ⟨rfl, b2⟩
  have B2 := Lib.hid (B1.out.trans (b2.mono B1.out.size))
  have X2 := Lib.hid (X1.out.below b2 X1.out.lt)
  clear b2 X1 B1 c0
  go_wp2_with fail
  refine (refuse_no _ _).mono ?_
  rintro e w' ⟨rfl, rfl⟩
  go_wp2_with fail
  refine (KS.out _ B2.out).mono ?_
  rintro e w3 ⟨rfl, b3⟩
  have B3 := Lib.hid (B2.out.trans (b3.mono B2.out.size))
  have X3 := Lib.hid (X2.out.below b3 X2.out.lt)
  clear b3 X2 B2
  go_wp2_with fail
  refine (refuse_no _ _).mono ?_
  rintro e w' ⟨rfl, rfl⟩
  obtain ⟨c8, _, _⟩ := SS.out _ B3
  go_wp2_with fail
  refine (refuse_no _ _).mono ?_
  rintro e w' ⟨rfl, rfl⟩
  go_wp2_with fail
  clear c8
  have hrn : w.heap.size < w.heap.size + 1 := Nat.lt_succ_self _
  have hn1 : w.heap.size ≤ w.heap.size + 1 := Nat.le_succ _
  generalize hn0 : w.heap.size + 1 = n0 at hrn hn1
  have TD := kDrew B3
  refine wp_region_held_drew (S := fun W => W.cell? ⟨ba, off + 8, none⟩ = some (.int .u8 kl) ∧ W.cell? ⟨ba, off + 9, none⟩ = some (.int .u8 kp) ∧ Hid (Below w.heap.size w W)) (by kernel_rfl) (SS.out _ TD) (fun hHeld => ?_)
  refine wpAnyH_take (i := 0) (v := ?_) (by simp only [List.getElem?_toArray, List.getElem?_cons_zero]; exact rfl) (by kernel_rfl) (by kernel_rfl) (by kernel_rfl) (by exact fun _ _ _ h => h) (Or.inl ⟨by rfl, ?_⟩) hHeld ?_
  rotate_left
  · intro w' hSw
    obtain ⟨s0, s1, _⟩ := hSw
    go_simp
    try with_reducible rfl
  try simp only [Act.put, List.setIfInBounds_toArray, List.set_cons_zero, List.set_cons_succ]
  refine wpAnyH_take (i := 3) (v := ?_) (by simp only [List.getElem?_toArray, List.getElem?_cons_zero, List.getElem?_cons_succ]; exact rfl) (by kernel_rfl) (by kernel_rfl) (by kernel_rfl) (by exact fun _ _ _ h => h) (Or.inl ⟨by rfl, ?_⟩) hHeld ?_
  rotate_left
  · intro w' hSw
    obtain ⟨s0, s1, _⟩ := hSw
    go_simp
    try with_reducible rfl
  try simp only [Act.put, List.setIfInBounds_toArray, List.set_cons_zero, List.set_cons_succ]
  refine wpAnyH_take (i := 6) (v := ?_) (by simp only [List.getElem?_toArray, List.getElem?_cons_zero, List.getElem?_cons_succ]; exact rfl) (by kernel_rfl) (by kernel_rfl) (by kernel_rfl) (by exact fun _ _ _ h => h) (Or.inl ⟨by rfl, ?_⟩) hHeld ?_
  rotate_left
  · intro w' hSw
    obtain ⟨s0, s1, _⟩ := hSw
    go_simp
    try with_reducible rfl
  try simp only [Act.put, List.setIfInBounds_toArray, List.set_cons_zero, List.set_cons_succ]
  refine wpAnyH_take (i := 7) (v := ?_) (by simp only [List.getElem?_toArray, List.getElem?_cons_zero, List.getElem?_cons_succ]; exact rfl) (by kernel_rfl) (by kernel_rfl) (by kernel_rfl) (by exact fun _ _ _ h => h) (Or.inl ⟨by rfl, ?_⟩) hHeld ?_
  rotate_left
  · intro w' hSw
    obtain ⟨s0, s1, _⟩ := hSw
    go_simp
    try with_reducible rfl
  try simp only [Act.put, List.setIfInBounds_toArray, List.set_cons_zero, List.set_cons_succ]
  refine wpAnyH_take (i := 8) (v := ?_) (by simp only [List.getElem?_toArray, List.getElem?_cons_zero, List.getElem?_cons_succ]; exact rfl) (by kernel_rfl) (by kernel_rfl) (by kernel_rfl) (by exact fun _ _ _ h => h) (Or.inl ⟨by rfl, ?_⟩) hHeld ?_
  rotate_left
  · intro w' hSw
    obtain ⟨s0, s1, _⟩ := hSw
    go_simp
    try with_reducible rfl
  try simp only [Act.put, List.setIfInBounds_toArray, List.set_cons_zero, List.set_cons_succ]
  refine wpAnyH_take (i := 9) (v := ?_) (by simp only [List.getElem?_toArray, List.getElem?_cons_zero, List.getElem?_cons_succ]; exact rfl) (by kernel_rfl) (by kernel_rfl) (by kernel_rfl) (by exact fun _ _ _ h => h) (Or.inl ⟨by rfl, ?_⟩) hHeld ?_
  rotate_left
  · intro w' hSw
    obtain ⟨s0, s1, _⟩ := hSw
    go_simp
    try with_reducible rfl
  try simp only [Act.put, List.setIfInBounds_toArray, List.set_cons_zero, List.set_cons_succ]
  refine wpAnyH_take (i := 10) (v := ?_) (by simp only [List.getElem?_toArray, List.getElem?_cons_zero, List.getElem?_cons_succ]; exact rfl) (by kernel_rfl) (by kernel_rfl) (by kernel_rfl) (by exact fun _ _ _ h => h) (Or.inl ⟨by rfl, ?_⟩) hHeld ?_
  rotate_left
  · intro w' hSw
    obtain ⟨s0, s1, _⟩ := hSw
    go_simp
    try with_reducible rfl
  try simp only [Act.put, List.setIfInBounds_toArray, List.set_cons_zero, List.set_cons_succ]
  refine wpAnyH_take (i := 11) (v := ?_) (by simp only [List.getElem?_toArray, List.getElem?_cons_zero, List.getElem?_cons_succ]; exact rfl) (by kernel_rfl) (by kernel_rfl) (by kernel_rfl) (by exact fun _ _ _ h => h) (Or.inl ⟨by rfl, ?_⟩) hHeld ?_
  rotate_left
  · intro w' hSw
    obtain ⟨s0, s1, _⟩ := hSw
    go_simp
    try with_reducible rfl
  try simp only [Act.put, List.setIfInBounds_toArray, List.set_cons_zero, List.set_cons_succ]
  refine wpAnyH_take (i := 12) (v := ?_) (by simp only [List.getElem?_toArray, List.getElem?_cons_zero, List.getElem?_cons_succ]; exact rfl) (by kernel_rfl) (by kernel_rfl) (by kernel_rfl) (by exact fun _ _ _ h => h) (Or.inl ⟨by rfl, ?_⟩) hHeld ?_
  rotate_left
  · intro w' hSw
    obtain ⟨s0, s1, _⟩ := hSw
    go_simp
    try with_reducible rfl
  try simp only [Act.put, List.setIfInBounds_toArray, List.set_cons_zero, List.set_cons_succ]
  refine wpAnyH_take (i := 13) (v := ?_) (by simp only [List.getElem?_toArray, List.getElem?_cons_zero, List.getElem?_cons_succ]; exact rfl) (by kernel_rfl) (by kernel_rfl) (by kernel_rfl) (by exact fun _ _ _ h => h) (Or.inl ⟨by rfl, ?_⟩) hHeld ?_
  rotate_left
  · intro w' hSw
    obtain ⟨s0, s1, _⟩ := hSw
    go_simp
    try with_reducible rfl
  try simp only [Act.put, List.setIfInBounds_toArray, List.set_cons_zero, List.set_cons_succ]
  refine wpAnyH_take (i := 14) (v := ?_) (by simp only [List.getElem?_toArray, List.getElem?_cons_zero, List.getElem?_cons_succ]; exact rfl) (by kernel_rfl) (by kernel_rfl) (by kernel_rfl) (by exact fun _ _ _ h => h) (Or.inl ⟨by rfl, ?_⟩) hHeld ?_
  rotate_left
  · intro w' hSw
    obtain ⟨s0, s1, _⟩ := hSw
    go_simp
    try with_reducible rfl
  try simp only [Act.put, List.setIfInBounds_toArray, List.set_cons_zero, List.set_cons_succ]
  refine wpAnyH_take (i := 15) (v := ?_) (by simp only [List.getElem?_toArray, List.getElem?_cons_zero, List.getElem?_cons_succ]; exact rfl) (by kernel_rfl) (by kernel_rfl) (by kernel_rfl) (by exact fun _ _ _ h => h) (Or.inl ⟨by rfl, ?_⟩) hHeld ?_
  rotate_left
  · intro w' hSw
    obtain ⟨s0, s1, _⟩ := hSw
    go_simp
    try with_reducible rfl
  try simp only [Act.put, List.setIfInBounds_toArray, List.set_cons_zero, List.set_cons_succ]
  refine wpAnyH_take (i := 16) (v := ?_) (by simp only [List.getElem?_toArray, List.getElem?_cons_zero, List.getElem?_cons_succ]; exact rfl) (by kernel_rfl) (by kernel_rfl) (by kernel_rfl) (by exact fun _ _ _ h => h) (Or.inl ⟨by rfl, ?_⟩) hHeld ?_
  rotate_left
  · intro w' hSw
    obtain ⟨s0, s1, _⟩ := hSw
    go_simp
    try with_reducible rfl
  try simp only [Act.put, List.setIfInBounds_toArray, List.set_cons_zero, List.set_cons_succ]
  refine flow_go (Inv := fun listed ac W => ∃ v42 v43 v45 v46 v58 v59 : Value, ac = { tmps := #[.slice (some ⟨ba, off, none⟩) len cap, _, .pointer (some ⟨w.heap.size, 0, none⟩), .int .i64 N, _, _, _, _, _, _, _, _, _, _, _, _, _, _, _, _, _, _, _, _, _, _, _, _, _, _, _, _, _, _, _, _, _, _, _, _, _, .slice (some ⟨ba, off, none⟩) len cap, v42, v43, .slice (some ⟨ba, off, none⟩) len cap, v45, v46, .slice (some ⟨ba, off, none⟩) len cap, .pointer (some ⟨ba, off + 9, none⟩), .int .u8 kp, .int .i64 kp, .slice (some ⟨ba, off, none⟩) len cap, .pointer (some ⟨ba, off + 8, none⟩), .int .u8 kl, .int .i64 kl, .slice (some ⟨ba, off, none⟩) len cap, .int .i64 N, .slice (some ⟨ba, off + 20, none⟩) (N - 20) (cap - 20), v58, v59], defers := [] } ∧ Hid (Below w.heap.size w W) ∧ Hid (∃ vs : Array Value, Box W w.heap.size 25 vs ∧ vs.size = 5) ∧ Fl listed 1 (EqV v42 (.agg #[.int .i64 0, .int .i64 m1])) ∧ Fl listed 2 (EqV v43 (.int .i64 m1)) ∧ Fl listed 4 (EqV v45 (.agg #[.int .i64 0, .int .i64 m2])) ∧ Fl listed 5 (EqV v46 (.int .i64 m2)) ∧ Fl listed 17 (SlV W n0 v58 (N - 20) ys) ∧ Fl listed 18 (AgV W n0 v59 #[.int .i64 m1, .int .i64 m2, .int .i64 kp, .int .i64 kl] (N - 20) ys) ∧ Fl listed 19 (BxV W n0 w.heap.size 25 #[.int .i64 m1, .int .i64 m2, .int .i64 kp, .int .i64 kl] (N - 20) ys)) [1, 2, 4, 5, 17, 18, 19] (by kernel_rfl) (by kernel_rfl) ⟨_, _, _, _, _, _, rfl, TD, ⟨_, (show Box _ _ _ _ from X3.out), rfl⟩, Fl.not (by kernel_rfl), Fl.not (by kernel_rfl), Fl.not (by kernel_rfl), Fl.not (by kernel_rfl), Fl.not (by kernel_rfl), Fl.not (by kernel_rfl), Fl.not (by kernel_rfl)⟩
    (FlowAll.cons [] (by simp only [List.getElem?_toArray, List.getElem?_cons_zero, List.getElem?_cons_succ]; exact rfl) (by kernel_rfl) (fun listed ac W hI hu hd K hK => ?_)
      (FlowAll.cons [1] (by simp only [List.getElem?_toArray, List.getElem?_cons_zero, List.getElem?_cons_succ]; exact rfl) (by kernel_rfl) (fun listed ac W hI hu hd K hK => ?_)
      (FlowAll.cons [] (by simp only [List.getElem?_toArray, List.getElem?_cons_zero, List.getElem?_cons_succ]; exact rfl) (by kernel_rfl) (fun listed ac W hI hu hd K hK => ?_)
      (FlowAll.cons [4] (by simp only [List.getElem?_toArray, List.getElem?_cons_zero, List.getElem?_cons_succ]; exact rfl) (by kernel_rfl) (fun listed ac W hI hu hd K hK => ?_)
      (FlowAll.cons [] (by simp only [List.getElem?_toArray, List.getElem?_cons_zero, List.getElem?_cons_succ]; exact rfl) (by kernel_rfl) (fun listed ac W hI hu hd K hK => ?_)
      (FlowAll.cons [2, 5, 17] (by simp only [List.getElem?_toArray, List.getElem?_cons_zero, List.getElem?_cons_succ]; exact rfl) (by kernel_rfl) (fun listed ac W hI hu hd K hK => ?_)
      (FlowAll.cons [18] (by simp only [List.getElem?_toArray, List.getElem?_cons_zero, List.getElem?_cons_succ]; exact rfl) (by kernel_rfl) (fun listed ac W hI hu hd K hK => ?_)
      FlowAll.nil)))))))
    (fun listed ac W hI hall => ?_)
  · obtain ⟨v42, v43, v45, v46, v58, v59, rfl, TB, XB, f1, f2, f4, f5, f17, f18, f19⟩ := hI
    obtain ⟨vsR, xR, sR⟩ := XB.out
    have hnW : n0 ≤ W.heap.size := by have := xR.lt; omega
    refine want_none (by exact rfl) ?_
    go_wp2_with fail
    refine (K3.out _ TB.out).mono ?_
    rintro e w' ⟨rfl, hb0⟩
    go_wp2_with fail
    have hb : Below W.heap.size W _ := hb0
    have TB' := kCall hb (kSize TB) TB
    refine hK.out _ _ (SS.out _ TB') ?_
    exact ⟨_, _, _, _, _, _, rfl, TB', ⟨_, xR.below hb xR.lt, sR⟩, Fl.new (EqV.rfl _), f2.keep (by decide) (keepE hb), f4.keep (by decide) (keepE hb), f5.keep (by decide) (keepE hb), f17.keep (by decide) (SlV.below hb), f18.keep (by decide) (AgV.below hb), f19.keep (by decide) (BxV.below hb)⟩
  · obtain ⟨v42, v43, v45, v46, v58, v59, rfl, TB, XB, f1, f2, f4, f5, f17, f18, f19⟩ := hI
    obtain ⟨vsR, xR, sR⟩ := XB.out
    have hnW : n0 ≤ W.heap.size := by have := xR.lt; omega
    obtain ⟨rfl⟩ := f1.get (hd 1 (by simp))
    refine want_none (by exact rfl) ?_
    go_wp2_with fail
    refine hK.out _ _ (SS.out _ TB) ?_
    exact ⟨_, _, _, _, _, _, rfl, TB, XB, f1.keep (by decide) id, Fl.new (EqV.rfl _), f4.keep (by decide) id, f5.keep (by decide) id, f17.keep (by decide) id, f18.keep (by decide) id, f19.keep (by decide) id⟩
  · obtain ⟨v42, v43, v45, v46, v58, v59, rfl, TB, XB, f1, f2, f4, f5, f17, f18, f19⟩ := hI
    obtain ⟨vsR, xR, sR⟩ := XB.out
    have hnW : n0 ≤ W.heap.size := by have := xR.lt; omega
    refine want_none (by exact rfl) ?_
    go_wp2_with fail
    refine (K4.out _ TB.out).mono ?_
    rintro e w' ⟨rfl, hb0⟩
    go_wp2_with fail
    have hb : Below W.heap.size W _ := hb0
    have TB' := kCall hb (kSize TB) TB
    refine hK.out _ _ (SS.out _ TB') ?_
    exact ⟨_, _, _, _, _, _, rfl, TB', ⟨_, xR.below hb xR.lt, sR⟩, f1.keep (by decide) (keepE hb), f2.keep (by decide) (keepE hb), Fl.new (EqV.rfl _), f5.keep (by decide) (keepE hb), f17.keep (by decide) (SlV.below hb), f18.keep (by decide) (AgV.below hb), f19.keep (by decide) (BxV.below hb)⟩
  · obtain ⟨v42, v43, v45, v46, v58, v59, rfl, TB, XB, f1, f2, f4, f5, f17, f18, f19⟩ := hI
    obtain ⟨vsR, xR, sR⟩ := XB.out
    have hnW : n0 ≤ W.heap.size := by have := xR.lt; omega
    obtain ⟨rfl⟩ := f4.get (hd 4 (by simp))
    refine want_none (by exact rfl) ?_
    go_wp2_with fail
    refine hK.out _ _ (SS.out _ TB) ?_
    exact ⟨_, _, _, _, _, _, rfl, TB, XB, f1.keep (by decide) id, f2.keep (by decide) id, f4.keep (by decide) id, Fl.new (EqV.rfl _), f17.keep (by decide) id, f18.keep (by decide) id, f19.keep (by decide) id⟩
  · obtain ⟨v42, v43, v45, v46, v58, v59, rfl, TB, XB, f1, f2, f4, f5, f17, f18, f19⟩ := hI
    obtain ⟨vsR, xR, sR⟩ := XB.out
    have hnW : n0 ≤ W.heap.size := by have := xR.lt; omega
    refine want_none (by exact rfl) ?_
    go_wp2_with fail
    refine (KD.out _ TB.out).mono ?_
    rintro e w' ⟨a', c', rfl, o', hb0⟩
    go_wp2_with fail
    have hb : Below W.heap.size W _ := hb0
    have TB' := kCall hb (kSize TB) TB
    refine hK.out _ _ (SS.out _ TB') ?_
    exact ⟨_, _, _, _, _, _, rfl, TB', ⟨_, xR.below hb xR.lt, sR⟩, f1.keep (by decide) (keepE hb), f2.keep (by decide) (keepE hb), f4.keep (by decide) (keepE hb), f5.keep (by decide) (keepE hb), Fl.new (⟨_, _, rfl, o'.rebase hnW⟩), f18.keep (by decide) (AgV.below hb), f19.keep (by decide) (BxV.below hb)⟩
  · obtain ⟨v42, v43, v45, v46, v58, v59, rfl, TB, XB, f1, f2, f4, f5, f17, f18, f19⟩ := hI
    obtain ⟨vsR, xR, sR⟩ := XB.out
    have hnW : n0 ≤ W.heap.size := by have := xR.lt; omega
    obtain ⟨rfl⟩ := f2.get (hd 2 (by simp))
    obtain ⟨rfl⟩ := f5.get (hd 5 (by simp))
    obtain ⟨a58, c58, rfl, o58⟩ := f17.get (hd 17 (by simp))
    refine want_none (by exact rfl) ?_
    go_wp2_with fail
    refine hK.out _ _ (SS.out _ TB) ?_
    exact ⟨_, _, _, _, _, _, rfl, TB, XB, f1.keep (by decide) id, f2.keep (by decide) id, f4.keep (by decide) id, f5.keep (by decide) id, f17.keep (by decide) id, Fl.new (⟨_, _, rfl, o58⟩), f19.keep (by decide) id⟩
  · obtain ⟨v42, v43, v45, v46, v58, v59, rfl, TB, XB, f1, f2, f4, f5, f17, f18, f19⟩ := hI
    obtain ⟨vsR, xR, sR⟩ := XB.out
    have hnW : n0 ≤ W.heap.size := by have := xR.lt; omega
    obtain ⟨a59, c59, rfl, o59⟩ := f18.get (hd 18 (by simp))
    refine storeBox_step _ rfl 25 (.tmp 2) (.tmp 59) rfl w.heap.size 25 vsR (#[.int .i64 m1, .int .i64 m2, .int .i64 kp, .int .i64 kl] ++ #[.slice a59 (N - 20) c59]) xR (by exact rfl) (by exact rfl) (by kernel_rfl) (sR.trans rfl) (by simp [Value.oneCell']) ?_
    intro wS xS gS
    simp only [Act.put]
    have TB' := kGrownB gS TB (Nat.le_refl _)
    refine hK.out _ _ (SS.out _ TB') ?_
    exact ⟨_, _, _, _, _, _, rfl, TB', ⟨_, xS, rfl⟩, f1.keep (by decide) (id), f2.keep (by decide) (id), f4.keep (by decide) (id), f5.keep (by decide) (id), f17.keep (by decide) (SlV.grown gS hrn), f18.keep (by decide) (AgV.grown gS hrn), Fl.new (⟨_, _, xS, o59.grown gS (fun x hx e => by have := (o59.lt x hx).1; simp only [Option.some.injEq] at e; omega)⟩)⟩
  · obtain ⟨v42, v43, v45, v46, v58, v59, rfl, TB, XB, f1, f2, f4, f5, f17, f18, f19⟩ := hI
    obtain ⟨vsR, xR, sR⟩ := XB.out
    have hnW : n0 ≤ W.heap.size := by have := xR.lt; omega
    obtain ⟨a5, c5, x5, o5⟩ := f19.get (hall 19 (by decide))
    have X5 := Lib.hid x5
    have O5 := Lib.hid (o5.rebase hn1)
    have T5 := TB
    clear x5 o5 xR sR XB hall TB SS f1 f2 f4 f5 f17 f18 f19
    go_wp2
    exact bodyPost_ret (results_cell_row Try.results67 _ _ _ _ _ _ _ rfl X5.out Try.underlying25 rfl (by kernel_rfl)) rfl ⟨_, _, _, rfl, O5.out, T5.out⟩

set_option maxRecDepth 20000 in
set_option maxHeartbeats 4000000 in
theorem packetIn_ok2 (a : Option Addr) (zs : List Int) (w : World) (hr : Rd w a 20 20 zs) (b0 ct : Int) (q0 : zs.getD 0 0 = b0) (qn : rdTo zs 2 2 = 20) (qc : rdTo zs 6 2 = ct) (f0 : (b0 != 69) = false) (f1 : plB 20 20 = true) (f2 : cutB ct = false) (hs : decide (sumV (zs.take 20) = 0) = true) (kp kl : Int) (ht : zs.getD 8 0 = kl) (hp : zs.getD 9 0 = kp) (hz : (kl == 0) = false) :
    Calls Try.prog 67 #[.slice a 20 20] w (PacketOut w (rdTo zs 12 4) (rdTo zs 16 4) kp kl (zs.drop 20)) := by
  have hle := hr.le
  have hmx := hr.max
  rcases hr.cells with h0 | ⟨ba, off, rfl, hc⟩
  · omega
  have hfi := fld_ir
  have HR := Lib.hid (fun W (hW : Below w.heap.size w W) => hr.below hW)
  have K1 := Lib.hid (fun W (hW : Below w.heap.size w W) => readWord_lit _ 20 20 2 2 2 2 20 zs W (hr.below hW) rfl rfl (by omega) (by omega) (by omega) qn)
  have KL := Lib.hid (fun W => packetLength_any 20 (some ⟨ba, off, none⟩) 20 20 W)
  have KC := Lib.hid (fun W (hW : Below w.heap.size w W) => isCut_any _ 20 20 zs ct W (hr.below hW) (by omega) qc)
  have CC := Lib.hid (fun W (hW : Below w.heap.size w W) (i : Nat) (hi : i < 20) => (hW.cell (World.block_lt_of_cell? _ _ (hc i hi))).trans (hc i hi))
  have B0 := Lib.hid ((Below.refl w.heap.size w).alloc (Nat.le_refl _) (.cells #[.int .i64 0, .int .i64 0, .int .i64 0, .int .i64 0, .slice none 0 0] 25))
  have X0 := Lib.hid (Box.new w 25 #[.int .i64 0, .int .i64 0, .int .i64 0, .int .i64 0, .slice none 0 0])
  have Q0 := Lib.hid q0
  rw [f1] at KL
  rw [f2] at KC
  have KS := Lib.hid (fun W (hW : Below w.heap.size w W) => isSummed_is _ 20 20 (zs.take 20) true W ((hr.below hW).upto 20 (by omega)) (by omega) hs)
  have v8 : IntKind.i64.wrap kl = kl := IntWalk.i64_in _ (by have := b8_getD hr.b8 8; omega)
  have v9 : IntKind.i64.wrap kp = kp := IntWalk.i64_in _ (by have := b8_getD hr.b8 9; omega)
  obtain ⟨m1, hm1⟩ : ∃ m, rdTo zs 12 4 = m := ⟨_, rfl⟩
  obtain ⟨m2, hm2⟩ : ∃ m, rdTo zs 16 4 = m := ⟨_, rfl⟩
  obtain ⟨ys, hys⟩ : ∃ ys, (zs.drop 20) = ys := ⟨_, rfl⟩
  have K3 := Lib.hid (fun W (hW : Below w.heap.size w W) => readWord_lit _ 20 20 12 4 12 4 m1 zs W (hr.below hW) rfl rfl (by omega) (by omega) (by omega) hm1)
  have K4 := Lib.hid (fun W (hW : Below w.heap.size w W) => readWord_lit _ 20 20 16 4 16 4 m2 zs W (hr.below hW) rfl rfl (by omega) (by omega) (by omega) hm2)
  have HD := Lib.hid (show ∀ W, Below w.heap.size w W → Rd W (some ⟨ba, off, none⟩) 0 0 ys from fun W hW => by rw [← hys]; exact rd_tail20 (hr.below hW))
  have KD := Lib.hid (fun W (hW : Below w.heap.size w W) => bclone_any (some ⟨ba, off, none⟩) 0 0 ys W (HD.out W hW) (by omega))
  have SS := Lib.hid (show ∀ W, Hid (Below w.heap.size w W) → W.cell? ⟨ba, off + 8, none⟩ = some (.int .u8 kl) ∧ W.cell? ⟨ba, off + 9, none⟩ = some (.int .u8 kp) ∧ Hid (Below w.heap.size w W) from fun W h => by
    refine ⟨?_, ?_, h⟩
    · rw [← ht]; exact CC.out W h.out 8 (by omega)
    · rw [← hp]; exact CC.out W h.out 9 (by omega))
  rw [hm1, hm2, hys]
  clear hr hc q0 qn qc
  clear hs ht hp hm1 hm2 hys HD
  go_enter Try.func67, Try.ntmps67
  go_wp2_with fail
  refine (refuse_no _ _).mono ?_
  rintro e w' ⟨rfl, rfl⟩
  go_wp2_with fail
  refine (K1.out _ B0.out).mono ?_
  rintro e w1 ⟨rfl, b1⟩
  have B1 := Lib.hid (B0.out.trans (b1.mono B0.out.size))
  have X1 := Lib.hid (X0.out.below b1 X0.out.lt)
  clear b1 X0 B0
  have c0 := CC.out _ B1.out 0 (by omega)
  rw [Q0.out] at c0
  simp only [Nat.add_zero] at c0
  go_wp2_with fail
  refine (KL.out _).mono ?_
  rintro e w' ⟨rfl, rfl⟩
  go_wp2_with fail
  refine (KC.out _ B1.out).mono ?_
  rintro e w2 ⟨rfl, b2⟩
  have B2 := Lib.hid (B1.out.trans (b2.mono B1.out.size))
  have X2 := Lib.hid (X1.out.below b2 X1.out.lt)
  clear b2 X1 B1 c0
  go_wp2_with fail
  refine (refuse_no _ _).mono ?_
  rintro e w' ⟨rfl, rfl⟩
  go_wp2_with fail
  refine (KS.out _ B2.out).mono ?_
  rintro e w3 ⟨rfl, b3⟩
  have B3 := Lib.hid (B2.out.trans (b3.mono B2.out.size))
  have X3 := Lib.hid (X2.out.below b3 X2.out.lt)
  clear b3 X2 B2
  go_wp2_with fail
  refine (refuse_no _ _).mono ?_
  rintro e w' ⟨rfl, rfl⟩
  obtain ⟨c8, _, _⟩ := SS.out _ B3
  go_wp2_with fail
  refine (refuse_no _ _).mono ?_
  rintro e w' ⟨rfl, rfl⟩
  go_wp2_with fail
  clear c8
  have hrn : w.heap.size < w.heap.size + 1 := Nat.lt_succ_self _
  have hn1 : w.heap.size ≤ w.heap.size + 1 := Nat.le_succ _
  generalize hn0 : w.heap.size + 1 = n0 at hrn hn1
  have TD := kDrew B3
  refine wp_region_held_drew (S := fun W => W.cell? ⟨ba, off + 8, none⟩ = some (.int .u8 kl) ∧ W.cell? ⟨ba, off + 9, none⟩ = some (.int .u8 kp) ∧ Hid (Below w.heap.size w W)) (by kernel_rfl) (SS.out _ TD) (fun hHeld => ?_)
  refine wpAnyH_take (i := 0) (v := ?_) (by simp only [List.getElem?_toArray, List.getElem?_cons_zero]; exact rfl) (by kernel_rfl) (by kernel_rfl) (by kernel_rfl) (by exact fun _ _ _ h => h) (Or.inl ⟨by rfl, ?_⟩) hHeld ?_
  rotate_left
  · intro w' hSw
    obtain ⟨s0, s1, _⟩ := hSw
    go_simp
    try with_reducible rfl
  try simp only [Act.put, List.setIfInBounds_toArray, List.set_cons_zero, List.set_cons_succ]
  refine wpAnyH_take (i := 3) (v := ?_) (by simp only [List.getElem?_toArray, List.getElem?_cons_zero, List.getElem?_cons_succ]; exact rfl) (by kernel_rfl) (by kernel_rfl) (by kernel_rfl) (by exact fun _ _ _ h => h) (Or.inl ⟨by rfl, ?_⟩) hHeld ?_
  rotate_left
  · intro w' hSw
    obtain ⟨s0, s1, _⟩ := hSw
    go_simp
    try with_reducible rfl
  try simp only [Act.put, List.setIfInBounds_toArray, List.set_cons_zero, List.set_cons_succ]
  refine wpAnyH_take (i := 6) (v := ?_) (by simp only [List.getElem?_toArray, List.getElem?_cons_zero, List.getElem?_cons_succ]; exact rfl) (by kernel_rfl) (by kernel_rfl) (by kernel_rfl) (by exact fun _ _ _ h => h) (Or.inl ⟨by rfl, ?_⟩) hHeld ?_
  rotate_left
  · intro w' hSw
    obtain ⟨s0, s1, _⟩ := hSw
    go_simp
    try with_reducible rfl
  try simp only [Act.put, List.setIfInBounds_toArray, List.set_cons_zero, List.set_cons_succ]
  refine wpAnyH_take (i := 7) (v := ?_) (by simp only [List.getElem?_toArray, List.getElem?_cons_zero, List.getElem?_cons_succ]; exact rfl) (by kernel_rfl) (by kernel_rfl) (by kernel_rfl) (by exact fun _ _ _ h => h) (Or.inl ⟨by rfl, ?_⟩) hHeld ?_
  rotate_left
  · intro w' hSw
    obtain ⟨s0, s1, _⟩ := hSw
    go_simp
    try with_reducible rfl
  try simp only [Act.put, List.setIfInBounds_toArray, List.set_cons_zero, List.set_cons_succ]
  refine wpAnyH_take (i := 8) (v := ?_) (by simp only [List.getElem?_toArray, List.getElem?_cons_zero, List.getElem?_cons_succ]; exact rfl) (by kernel_rfl) (by kernel_rfl) (by kernel_rfl) (by exact fun _ _ _ h => h) (Or.inl ⟨by rfl, ?_⟩) hHeld ?_
  rotate_left
  · intro w' hSw
    obtain ⟨s0, s1, _⟩ := hSw
    go_simp
    try with_reducible rfl
  try simp only [Act.put, List.setIfInBounds_toArray, List.set_cons_zero, List.set_cons_succ]
  refine wpAnyH_take (i := 9) (v := ?_) (by simp only [List.getElem?_toArray, List.getElem?_cons_zero, List.getElem?_cons_succ]; exact rfl) (by kernel_rfl) (by kernel_rfl) (by kernel_rfl) (by exact fun _ _ _ h => h) (Or.inl ⟨by rfl, ?_⟩) hHeld ?_
  rotate_left
  · intro w' hSw
    obtain ⟨s0, s1, _⟩ := hSw
    go_simp
    try with_reducible rfl
  try simp only [Act.put, List.setIfInBounds_toArray, List.set_cons_zero, List.set_cons_succ]
  refine wpAnyH_take (i := 10) (v := ?_) (by simp only [List.getElem?_toArray, List.getElem?_cons_zero, List.getElem?_cons_succ]; exact rfl) (by kernel_rfl) (by kernel_rfl) (by kernel_rfl) (by exact fun _ _ _ h => h) (Or.inl ⟨by rfl, ?_⟩) hHeld ?_
  rotate_left
  · intro w' hSw
    obtain ⟨s0, s1, _⟩ := hSw
    go_simp
    try with_reducible rfl
  try simp only [Act.put, List.setIfInBounds_toArray, List.set_cons_zero, List.set_cons_succ]
  refine wpAnyH_take (i := 11) (v := ?_) (by simp only [List.getElem?_toArray, List.getElem?_cons_zero, List.getElem?_cons_succ]; exact rfl) (by kernel_rfl) (by kernel_rfl) (by kernel_rfl) (by exact fun _ _ _ h => h) (Or.inl ⟨by rfl, ?_⟩) hHeld ?_
  rotate_left
  · intro w' hSw
    obtain ⟨s0, s1, _⟩ := hSw
    go_simp
    try with_reducible rfl
  try simp only [Act.put, List.setIfInBounds_toArray, List.set_cons_zero, List.set_cons_succ]
  refine wpAnyH_take (i := 12) (v := ?_) (by simp only [List.getElem?_toArray, List.getElem?_cons_zero, List.getElem?_cons_succ]; exact rfl) (by kernel_rfl) (by kernel_rfl) (by kernel_rfl) (by exact fun _ _ _ h => h) (Or.inl ⟨by rfl, ?_⟩) hHeld ?_
  rotate_left
  · intro w' hSw
    obtain ⟨s0, s1, _⟩ := hSw
    go_simp
    try with_reducible rfl
  try simp only [Act.put, List.setIfInBounds_toArray, List.set_cons_zero, List.set_cons_succ]
  refine wpAnyH_take (i := 13) (v := ?_) (by simp only [List.getElem?_toArray, List.getElem?_cons_zero, List.getElem?_cons_succ]; exact rfl) (by kernel_rfl) (by kernel_rfl) (by kernel_rfl) (by exact fun _ _ _ h => h) (Or.inl ⟨by rfl, ?_⟩) hHeld ?_
  rotate_left
  · intro w' hSw
    obtain ⟨s0, s1, _⟩ := hSw
    go_simp
    try with_reducible rfl
  try simp only [Act.put, List.setIfInBounds_toArray, List.set_cons_zero, List.set_cons_succ]
  refine wpAnyH_take (i := 14) (v := ?_) (by simp only [List.getElem?_toArray, List.getElem?_cons_zero, List.getElem?_cons_succ]; exact rfl) (by kernel_rfl) (by kernel_rfl) (by kernel_rfl) (by exact fun _ _ _ h => h) (Or.inl ⟨by rfl, ?_⟩) hHeld ?_
  rotate_left
  · intro w' hSw
    obtain ⟨s0, s1, _⟩ := hSw
    go_simp
    try with_reducible rfl
  try simp only [Act.put, List.setIfInBounds_toArray, List.set_cons_zero, List.set_cons_succ]
  refine wpAnyH_take (i := 15) (v := ?_) (by simp only [List.getElem?_toArray, List.getElem?_cons_zero, List.getElem?_cons_succ]; exact rfl) (by kernel_rfl) (by kernel_rfl) (by kernel_rfl) (by exact fun _ _ _ h => h) (Or.inl ⟨by rfl, ?_⟩) hHeld ?_
  rotate_left
  · intro w' hSw
    obtain ⟨s0, s1, _⟩ := hSw
    go_simp
    try with_reducible rfl
  try simp only [Act.put, List.setIfInBounds_toArray, List.set_cons_zero, List.set_cons_succ]
  refine wpAnyH_take (i := 16) (v := ?_) (by simp only [List.getElem?_toArray, List.getElem?_cons_zero, List.getElem?_cons_succ]; exact rfl) (by kernel_rfl) (by kernel_rfl) (by kernel_rfl) (by exact fun _ _ _ h => h) (Or.inl ⟨by rfl, ?_⟩) hHeld ?_
  rotate_left
  · intro w' hSw
    obtain ⟨s0, s1, _⟩ := hSw
    go_simp
    try with_reducible rfl
  try simp only [Act.put, List.setIfInBounds_toArray, List.set_cons_zero, List.set_cons_succ]
  refine flow_go (Inv := fun listed ac W => ∃ v42 v43 v45 v46 v58 v59 : Value, ac = { tmps := #[.slice (some ⟨ba, off, none⟩) 20 20, _, .pointer (some ⟨w.heap.size, 0, none⟩), .int .i64 20, _, _, _, _, _, _, _, _, _, _, _, _, _, _, _, _, _, _, _, _, _, _, _, _, _, _, _, _, _, _, _, _, _, _, _, _, _, .slice (some ⟨ba, off, none⟩) 20 20, v42, v43, .slice (some ⟨ba, off, none⟩) 20 20, v45, v46, .slice (some ⟨ba, off, none⟩) 20 20, .pointer (some ⟨ba, off + 9, none⟩), .int .u8 kp, .int .i64 kp, .slice (some ⟨ba, off, none⟩) 20 20, .pointer (some ⟨ba, off + 8, none⟩), .int .u8 kl, .int .i64 kl, .slice (some ⟨ba, off, none⟩) 20 20, .int .i64 20, .slice (some ⟨ba, off, none⟩) 0 0, v58, v59], defers := [] } ∧ Hid (Below w.heap.size w W) ∧ Hid (∃ vs : Array Value, Box W w.heap.size 25 vs ∧ vs.size = 5) ∧ Fl listed 1 (EqV v42 (.agg #[.int .i64 0, .int .i64 m1])) ∧ Fl listed 2 (EqV v43 (.int .i64 m1)) ∧ Fl listed 4 (EqV v45 (.agg #[.int .i64 0, .int .i64 m2])) ∧ Fl listed 5 (EqV v46 (.int .i64 m2)) ∧ Fl listed 17 (SlV W n0 v58 (0) ys) ∧ Fl listed 18 (AgV W n0 v59 #[.int .i64 m1, .int .i64 m2, .int .i64 kp, .int .i64 kl] (0) ys) ∧ Fl listed 19 (BxV W n0 w.heap.size 25 #[.int .i64 m1, .int .i64 m2, .int .i64 kp, .int .i64 kl] (0) ys)) [1, 2, 4, 5, 17, 18, 19] (by kernel_rfl) (by kernel_rfl) ⟨_, _, _, _, _, _, rfl, TD, ⟨_, (show Box _ _ _ _ from X3.out), rfl⟩, Fl.not (by kernel_rfl), Fl.not (by kernel_rfl), Fl.not (by kernel_rfl), Fl.not (by kernel_rfl), Fl.not (by kernel_rfl), Fl.not (by kernel_rfl), Fl.not (by kernel_rfl)⟩
    (FlowAll.cons [] (by simp only [List.getElem?_toArray, List.getElem?_cons_zero, List.getElem?_cons_succ]; exact rfl) (by kernel_rfl) (fun listed ac W hI hu hd K hK => ?_)
      (FlowAll.cons [1] (by simp only [List.getElem?_toArray, List.getElem?_cons_zero, List.getElem?_cons_succ]; exact rfl) (by kernel_rfl) (fun listed ac W hI hu hd K hK => ?_)
      (FlowAll.cons [] (by simp only [List.getElem?_toArray, List.getElem?_cons_zero, List.getElem?_cons_succ]; exact rfl) (by kernel_rfl) (fun listed ac W hI hu hd K hK => ?_)
      (FlowAll.cons [4] (by simp only [List.getElem?_toArray, List.getElem?_cons_zero, List.getElem?_cons_succ]; exact rfl) (by kernel_rfl) (fun listed ac W hI hu hd K hK => ?_)
      (FlowAll.cons [] (by simp only [List.getElem?_toArray, List.getElem?_cons_zero, List.getElem?_cons_succ]; exact rfl) (by kernel_rfl) (fun listed ac W hI hu hd K hK => ?_)
      (FlowAll.cons [2, 5, 17] (by simp only [List.getElem?_toArray, List.getElem?_cons_zero, List.getElem?_cons_succ]; exact rfl) (by kernel_rfl) (fun listed ac W hI hu hd K hK => ?_)
      (FlowAll.cons [18] (by simp only [List.getElem?_toArray, List.getElem?_cons_zero, List.getElem?_cons_succ]; exact rfl) (by kernel_rfl) (fun listed ac W hI hu hd K hK => ?_)
      FlowAll.nil)))))))
    (fun listed ac W hI hall => ?_)
  · obtain ⟨v42, v43, v45, v46, v58, v59, rfl, TB, XB, f1, f2, f4, f5, f17, f18, f19⟩ := hI
    obtain ⟨vsR, xR, sR⟩ := XB.out
    have hnW : n0 ≤ W.heap.size := by have := xR.lt; omega
    refine want_none (by exact rfl) ?_
    go_wp2_with fail
    refine (K3.out _ TB.out).mono ?_
    rintro e w' ⟨rfl, hb0⟩
    go_wp2_with fail
    have hb : Below W.heap.size W _ := hb0
    have TB' := kCall hb (kSize TB) TB
    refine hK.out _ _ (SS.out _ TB') ?_
    exact ⟨_, _, _, _, _, _, rfl, TB', ⟨_, xR.below hb xR.lt, sR⟩, Fl.new (EqV.rfl _), f2.keep (by decide) (keepE hb), f4.keep (by decide) (keepE hb), f5.keep (by decide) (keepE hb), f17.keep (by decide) (SlV.below hb), f18.keep (by decide) (AgV.below hb), f19.keep (by decide) (BxV.below hb)⟩
  · obtain ⟨v42, v43, v45, v46, v58, v59, rfl, TB, XB, f1, f2, f4, f5, f17, f18, f19⟩ := hI
    obtain ⟨vsR, xR, sR⟩ := XB.out
    have hnW : n0 ≤ W.heap.size := by have := xR.lt; omega
    obtain ⟨rfl⟩ := f1.get (hd 1 (by simp))
    refine want_none (by exact rfl) ?_
    go_wp2_with fail
    refine hK.out _ _ (SS.out _ TB) ?_
    exact ⟨_, _, _, _, _, _, rfl, TB, XB, f1.keep (by decide) id, Fl.new (EqV.rfl _), f4.keep (by decide) id, f5.keep (by decide) id, f17.keep (by decide) id, f18.keep (by decide) id, f19.keep (by decide) id⟩
  · obtain ⟨v42, v43, v45, v46, v58, v59, rfl, TB, XB, f1, f2, f4, f5, f17, f18, f19⟩ := hI
    obtain ⟨vsR, xR, sR⟩ := XB.out
    have hnW : n0 ≤ W.heap.size := by have := xR.lt; omega
    refine want_none (by exact rfl) ?_
    go_wp2_with fail
    refine (K4.out _ TB.out).mono ?_
    rintro e w' ⟨rfl, hb0⟩
    go_wp2_with fail
    have hb : Below W.heap.size W _ := hb0
    have TB' := kCall hb (kSize TB) TB
    refine hK.out _ _ (SS.out _ TB') ?_
    exact ⟨_, _, _, _, _, _, rfl, TB', ⟨_, xR.below hb xR.lt, sR⟩, f1.keep (by decide) (keepE hb), f2.keep (by decide) (keepE hb), Fl.new (EqV.rfl _), f5.keep (by decide) (keepE hb), f17.keep (by decide) (SlV.below hb), f18.keep (by decide) (AgV.below hb), f19.keep (by decide) (BxV.below hb)⟩
  · obtain ⟨v42, v43, v45, v46, v58, v59, rfl, TB, XB, f1, f2, f4, f5, f17, f18, f19⟩ := hI
    obtain ⟨vsR, xR, sR⟩ := XB.out
    have hnW : n0 ≤ W.heap.size := by have := xR.lt; omega
    obtain ⟨rfl⟩ := f4.get (hd 4 (by simp))
    refine want_none (by exact rfl) ?_
    go_wp2_with fail
    refine hK.out _ _ (SS.out _ TB) ?_
    exact ⟨_, _, _, _, _, _, rfl, TB, XB, f1.keep (by decide) id, f2.keep (by decide) id, f4.keep (by decide) id, Fl.new (EqV.rfl _), f17.keep (by decide) id, f18.keep (by decide) id, f19.keep (by decide) id⟩
  · obtain ⟨v42, v43, v45, v46, v58, v59, rfl, TB, XB, f1, f2, f4, f5, f17, f18, f19⟩ := hI
    obtain ⟨vsR, xR, sR⟩ := XB.out
    have hnW : n0 ≤ W.heap.size := by have := xR.lt; omega
    refine want_none (by exact rfl) ?_
    go_wp2_with fail
    refine (KD.out _ TB.out).mono ?_
    rintro e w' ⟨a', c', rfl, o', hb0⟩
    go_wp2_with fail
    have hb : Below W.heap.size W _ := hb0
    have TB' := kCall hb (kSize TB) TB
    refine hK.out _ _ (SS.out _ TB') ?_
    exact ⟨_, _, _, _, _, _, rfl, TB', ⟨_, xR.below hb xR.lt, sR⟩, f1.keep (by decide) (keepE hb), f2.keep (by decide) (keepE hb), f4.keep (by decide) (keepE hb), f5.keep (by decide) (keepE hb), Fl.new (⟨_, _, rfl, o'.rebase hnW⟩), f18.keep (by decide) (AgV.below hb), f19.keep (by decide) (BxV.below hb)⟩
  · obtain ⟨v42, v43, v45, v46, v58, v59, rfl, TB, XB, f1, f2, f4, f5, f17, f18, f19⟩ := hI
    obtain ⟨vsR, xR, sR⟩ := XB.out
    have hnW : n0 ≤ W.heap.size := by have := xR.lt; omega
    obtain ⟨rfl⟩ := f2.get (hd 2 (by simp))
    obtain ⟨rfl⟩ := f5.get (hd 5 (by simp))
    obtain ⟨a58, c58, rfl, o58⟩ := f17.get (hd 17 (by simp))
    refine want_none (by exact rfl) ?_
    go_wp2_with fail
    refine hK.out _ _ (SS.out _ TB) ?_
    exact ⟨_, _, _, _, _, _, rfl, TB, XB, f1.keep (by decide) id, f2.keep (by decide) id, f4.keep (by decide) id, f5.keep (by decide) id, f17.keep (by decide) id, Fl.new (⟨_, _, rfl, o58⟩), f19.keep (by decide) id⟩
  · obtain ⟨v42, v43, v45, v46, v58, v59, rfl, TB, XB, f1, f2, f4, f5, f17, f18, f19⟩ := hI
    obtain ⟨vsR, xR, sR⟩ := XB.out
    have hnW : n0 ≤ W.heap.size := by have := xR.lt; omega
    obtain ⟨a59, c59, rfl, o59⟩ := f18.get (hd 18 (by simp))
    refine storeBox_step _ rfl 25 (.tmp 2) (.tmp 59) rfl w.heap.size 25 vsR (#[.int .i64 m1, .int .i64 m2, .int .i64 kp, .int .i64 kl] ++ #[.slice a59 (0) c59]) xR (by exact rfl) (by exact rfl) (by kernel_rfl) (sR.trans rfl) (by simp [Value.oneCell']) ?_
    intro wS xS gS
    simp only [Act.put]
    have TB' := kGrownB gS TB (Nat.le_refl _)
    refine hK.out _ _ (SS.out _ TB') ?_
    exact ⟨_, _, _, _, _, _, rfl, TB', ⟨_, xS, rfl⟩, f1.keep (by decide) (id), f2.keep (by decide) (id), f4.keep (by decide) (id), f5.keep (by decide) (id), f17.keep (by decide) (SlV.grown gS hrn), f18.keep (by decide) (AgV.grown gS hrn), Fl.new (⟨_, _, xS, o59.grown gS (fun x hx e => by have := (o59.lt x hx).1; simp only [Option.some.injEq] at e; omega)⟩)⟩
  · obtain ⟨v42, v43, v45, v46, v58, v59, rfl, TB, XB, f1, f2, f4, f5, f17, f18, f19⟩ := hI
    obtain ⟨vsR, xR, sR⟩ := XB.out
    have hnW : n0 ≤ W.heap.size := by have := xR.lt; omega
    obtain ⟨a5, c5, x5, o5⟩ := f19.get (hall 19 (by decide))
    have X5 := Lib.hid x5
    have O5 := Lib.hid (o5.rebase hn1)
    have T5 := TB
    clear x5 o5 xR sR XB hall TB SS f1 f2 f4 f5 f17 f18 f19
    go_wp2
    exact bodyPost_ret (results_cell_row Try.results67 _ _ _ _ _ _ _ rfl X5.out Try.underlying25 rfl (by kernel_rfl)) rfl ⟨_, _, _, rfl, O5.out, T5.out⟩
end Go.Proofs.Ytgjkbaplfbiomaa

namespace Go.Proofs.Ytgjkbaplfbiomaa
open Go.ChangeShapes Go.WideShapes Go.ChangeAt Go.RowKit

theorem plB_false {n : Int} {len : Nat} (h : plB n len = false) : decide (n < 20) = true ∨ decide (n < 20) = false ∧ (decide ((len : Int) < n) = true ∨ decide ((len : Int) < n) = false ∧ decide (580 < n) = true) := by
  simp only [plB, Bool.and_eq_false_iff, decide_eq_false_iff_not, decide_eq_true_eq] at h ⊢
  omega
theorem plB_true {n : Int} {len : Nat} (h : plB n len = true) : decide (n < 20) = false ∧ decide ((len : Int) < n) = false ∧ decide (580 < n) = false := by
  simp only [plB, Bool.and_eq_true, decide_eq_true_eq, decide_eq_false_iff_not] at h ⊢
  omega
theorem cutB_false {ct : Int} (h : cutB ct = false) : (ct != 0) = false ∨ (ct != 0) = true ∧ (ct != 16384) = false := by
  unfold cutB at h
  cases h0 : (ct != 0) with
  | false => exact .inl rfl
  | true => rw [h0] at h; exact .inr ⟨rfl, by simpa using h⟩
theorem cutB_true {ct : Int} (h : cutB ct = true) : (ct != 0) = true ∧ (ct != 16384) = true := by
  unfold cutB at h
  simpa [Bool.and_eq_true] using h

/-- what ReadPacket answers: a code, four numbers and bytes -/
structure RpA where
  c : Int
  f : Int
  t : Int
  p : Int
  l : Int
  rs : List Int
def rpNo (c : Int) : RpA := ⟨c, 0, 0, 0, 0, []⟩
def rpAns (zs : List Int) : RpA :=
  if rpLen zs.length = false then rpNo 2
  else if (zs.getD 0 0 != 69) = true ∨ plB (rdTo zs 2 2) zs.length = false ∨ cutB (rdTo zs 6 2) = true then rpNo 1
  else if ¬ sumV (zs.take 20) = 0 then rpNo 6
  else if zs.getD 8 0 = 0 then rpNo 3
  else ⟨0, rdTo zs 12 4, rdTo zs 16 4, zs.getD 9 0, zs.getD 8 0, (zs.take (rdTo zs 2 2).toNat).drop 20⟩
def RpRes (w : World) (r : RpA) (e : Ending) (w' : World) : Prop := PacketRes w r.c r.f r.t r.p r.l r.rs e w'

theorem rpLen_bd {n : Nat} (h : ¬ rpLen n = false) : 20 ≤ n ∧ n ≤ 600 := by
  have h' : rpLen n = true := by simpa using h
  exact of_decide_eq_true h'
theorem rpAns_len (zs : List Int) : (rpAns zs).rs.length ≤ 700 := by
  unfold rpAns
  split
  · exact Nat.zero_le _
  · rename_i h1
    have := rpLen_bd h1
    split
    · exact Nat.zero_le _
    · split
      · exact Nat.zero_le _
      · split
        · exact Nat.zero_le _
        · simp only [List.length_drop, List.length_take]; omega

theorem specReadPacket (a : Option Addr) (len cap : Nat) (zs : List Int) (w : World) (hr : Rd w a len cap zs) :
    Calls Try.prog 22 #[.slice a len cap] w (RpRes w (rpAns zs)) := by
  have hl := hr.length
  have hb := rdTo_bd zs 2 hr.b8 2
  unfold RpRes rpAns
  split
  · rename_i h; rw [hl] at h; exact specReadPacket_len a len cap w h
  rename_i h1
  obtain ⟨g1, g2⟩ := rpLen_bd h1
  rw [hl] at g1 g2
  split
  · rename_i h
    refine specReadPacket_form a len cap zs w hr g1 g2 _ _ _ rfl rfl rfl ?_
    cases f0 : (zs.getD 0 0 != 69) with
    | true => exact .inl rfl
    | false =>
      refine .inr ⟨rfl, ?_⟩
      cases f1 : plB (rdTo zs 2 2) len with
      | false =>
        rcases plB_false f1 with k | ⟨k, k'⟩
        · exact .inl k
        · refine .inr ⟨k, ?_⟩
          rcases k' with k' | ⟨k', k''⟩
          · exact .inl k'
          · exact .inr ⟨k', .inl k''⟩
      | true =>
        obtain ⟨k1, k2, k3⟩ := plB_true f1
        rcases h with h | h | h
        · rw [f0] at h; cases h
        · rw [hl, f1] at h; cases h
        · exact .inr ⟨k1, .inr ⟨k2, .inr ⟨k3, cutB_true h⟩⟩⟩
  rename_i h2
  have f0 : (zs.getD 0 0 != 69) = false := by
    cases h : (zs.getD 0 0 != 69) with
    | true => exact absurd (.inl h) h2
    | false => rfl
  have f1 : plB (rdTo zs 2 2) len = true := by
    cases h : plB (rdTo zs 2 2) len with
    | false => exact absurd (.inr (.inl (by rw [hl]; exact h))) h2
    | true => rfl
  have f2 : cutB (rdTo zs 6 2) = false := by
    cases h : cutB (rdTo zs 6 2) with
    | true => exact absurd (.inr (.inr h)) h2
    | false => rfl
  obtain ⟨k1, k2, k3⟩ := plB_true f1
  have hf := (⟨f0, k1, k2, k3, cutB_false f2⟩ : (zs.getD 0 0 != 69) = false ∧ decide (rdTo zs 2 2 < 20) = false ∧ decide ((len : Int) < rdTo zs 2 2) = false ∧ decide (580 < rdTo zs 2 2) = false ∧ _)
  split
  · rename_i h; exact specReadPacket_sum a len cap zs w hr g1 g2 _ _ _ rfl rfl rfl hf h
  rename_i h3
  have hs : sumV (zs.take 20) = 0 := Decidable.of_not_not h3
  split
  · rename_i h; exact specReadPacket_ttl a len cap zs w hr g1 g2 _ _ _ rfl rfl rfl hf hs h
  rename_i h4
  have hz : (zs.getD 8 0 == 0) = false := by simpa using h4
  by_cases hcap : cap = 20
  · have hle := hr.le
    obtain rfl : len = 20 := by omega
    subst hcap
    have hn : rdTo zs 2 2 = 20 := by simp only [decide_eq_false_iff_not] at k1 k2; omega
    rw [show (zs.take (rdTo zs 2 2).toNat).drop 20 = zs.drop 20 by rw [hn]; simp [hl]]
    exact specReadPacket_ok2 a zs w hr _ _ rfl hn rfl ⟨f0, cutB_false f2⟩ hs _ _ rfl rfl hz
  · obtain ⟨N, hN⟩ : ∃ N : Nat, rdTo zs 2 2 = (N : Int) := ⟨(rdTo zs 2 2).toNat, by omega⟩
    rw [hN] at hf ⊢
    exact specReadPacket_ok1 a len cap zs w hr g1 g2 _ _ N rfl hN rfl hcap hf hs _ _ rfl rfl hz

theorem implReadPacket (a : Option Addr) (len cap : Nat) (zs : List Int) (w : World) (hr : Rd w a len cap zs) :
    Calls Try.prog 15 #[.slice a len cap] w (RpRes w (rpAns zs)) := by
  have hl := hr.length
  have hb := rdTo_bd zs 2 hr.b8 2
  unfold RpRes rpAns
  split
  · rename_i h; rw [hl] at h; exact facePacket_no a len cap 2 w (fun W _ => packetIn_len a len cap W h)
  rename_i h1
  obtain ⟨g1, g2⟩ := rpLen_bd h1
  rw [hl] at g1 g2
  split
  · rename_i h
    refine facePacket_no a len cap 1 w (fun W hW => ?_)
    cases f0 : (zs.getD 0 0 != 69) with
    | true => exact packetIn_form0 a len cap zs W (hr.below hW) g1 g2 _ _ _ rfl rfl rfl f0
    | false =>
      cases f1 : plB (rdTo zs 2 2) len with
      | false => exact packetIn_form1 a len cap zs W (hr.below hW) g1 g2 _ _ _ rfl rfl rfl f0 f1
      | true =>
        rcases h with h | h | h
        · rw [f0] at h; cases h
        · rw [hl, f1] at h; cases h
        · exact packetIn_form2 a len cap zs W (hr.below hW) g1 g2 _ _ _ rfl rfl rfl f0 f1 h
  rename_i h2
  have f0 : (zs.getD 0 0 != 69) = false := by
    cases h : (zs.getD 0 0 != 69) with
    | true => exact absurd (.inl h) h2
    | false => rfl
  have f1 : plB (rdTo zs 2 2) len = true := by
    cases h : plB (rdTo zs 2 2) len with
    | false => exact absurd (.inr (.inl (by rw [hl]; exact h))) h2
    | true => rfl
  have f2 : cutB (rdTo zs 6 2) = false := by
    cases h : cutB (rdTo zs 6 2) with
    | true => exact absurd (.inr (.inr h)) h2
    | false => rfl
  split
  · rename_i h; exact facePacket_no a len cap 6 w (fun W hW => packetIn_sum a len cap zs W (hr.below hW) g1 g2 _ _ _ rfl rfl rfl f0 f1 f2 (decide_eq_false h))
  rename_i h3
  have hs : sumV (zs.take 20) = 0 := Decidable.of_not_not h3
  split
  · rename_i h; exact facePacket_no a len cap 3 w (fun W hW => packetIn_ttl a len cap zs W (hr.below hW) g1 g2 _ _ _ rfl rfl rfl f0 f1 f2 (decide_eq_true hs) h)
  rename_i h4
  have hz : (zs.getD 8 0 == 0) = false := by simpa using h4
  by_cases hcap : cap = 20
  · have hle := hr.le
    obtain rfl : len = 20 := by omega
    subst hcap
    obtain ⟨k1, k2, k3⟩ := plB_true f1
    have hn : rdTo zs 2 2 = 20 := by simp only [decide_eq_false_iff_not] at k1 k2; omega
    rw [show (zs.take (rdTo zs 2 2).toNat).drop 20 = zs.drop 20 by rw [hn]; simp [hl]]
    rw [hn] at f1
    exact facePacket_ok a 20 20 _ _ _ _ _ w (fun W hW => packetIn_ok2 a zs W (hr.below hW) _ _ rfl hn rfl f0 f1 f2 (decide_eq_true hs) _ _ rfl rfl hz)
  · obtain ⟨N, hN⟩ : ∃ N : Nat, rdTo zs 2 2 = (N : Int) := ⟨(rdTo zs 2 2).toNat, by omega⟩
    rw [hN] at f1 ⊢
    exact facePacket_ok a len cap _ _ _ _ _ w (fun W hW => packetIn_ok1 a len cap zs W (hr.below hW) g1 g2 _ _ N rfl hN rfl hcap f0 f1 f2 (decide_eq_true hs) _ _ rfl rfl hz)

theorem readPacket_law (a : Option Addr) (len cap : Nat) (zs : List Int) (w : World) (hr : Rd w a len cap zs) :
    Calls Try.prog 6 #[.slice a len cap] w fun e w' => e = .returned (.bool true) ∧ Below w.heap.size w w' :=
  exactReadPacket a len cap zs (rpAns zs).c (rpAns zs).f (rpAns zs).t (rpAns zs).p (rpAns zs).l (rpAns zs).rs w hr (fun a' l' c' W h => specReadPacket a' l' c' zs W h) (fun a' l' c' W h => implReadPacket a' l' c' zs W h) (rpAns_len zs)
end Go.Proofs.Ytgjkbaplfbiomaa

namespace Go.Proofs.Ytgjkbaplfbiomaa
open Go.ChangeShapes Go.WideShapes Go.ChangeAt Go.RowKit

theorem rd_tail8 {W : World} {ba off : Nat} {zs : List Int} (h : Rd W (some ⟨ba, off, none⟩) 8 8 zs) : Rd W (some ⟨ba, off, none⟩) 0 0 (zs.drop 8) := by
  have := h.fromIf 8 (by omega)
  simpa using this

theorem echoIn_len (a : Option Addr) (len cap : Nat) (w : World) (h : reLen len = false) : Calls Try.prog 74 #[.slice a len cap] w (Refused w 2) := by
  simp only [reLen, decide_eq_false_iff_not] at h
  have B0 := Lib.hid ((Below.refl w.heap.size w).alloc (Nat.le_refl _) (.cells #[.bool false, .int .i64 0, .int .i64 0, .slice none 0 0] 35))
  by_cases h1 : 8 ≤ len
  · have h2 : ¬ len ≤ 560 := fun h2 => h ⟨h1, h2⟩
    have e1 : decide ((len : Int) < 8) = false := decide_eq_false (by omega)
    have e2 : decide ((560 : Int) < len) = true := decide_eq_true (by omega)
    clear h h1 h2
    go_enter Try.func74, Try.ntmps74
    go_wp2_with fail
    refine (refuse_yes _ _).mono ?_
    rintro e w' ⟨rfl, rfl⟩
    go_wp2
    exact ⟨rfl, rfl, B0.out⟩
  · have e1 : decide ((len : Int) < 8) = true := decide_eq_true (by omega)
    clear h h1
    go_enter Try.func74, Try.ntmps74
    go_wp2_with fail
    refine (refuse_yes _ _).mono ?_
    rintro e w' ⟨rfl, rfl⟩
    go_wp2
    exact ⟨rfl, rfl, B0.out⟩

set_option maxRecDepth 20000 in
set_option maxHeartbeats 2000000 in
theorem echoIn_sum (a : Option Addr) (len cap : Nat) (zs : List Int) (w : World) (hr : Rd w a len cap zs) (h1 : 8 ≤ len) (h2 : len ≤ 560) (b0 b1 : Int) (q0 : zs.getD 0 0 = b0) (q1 : zs.getD 1 0 = b1) (hs : decide (sumV zs = 0) = false) : Calls Try.prog 74 #[.slice a len cap] w (Refused w 6) := by
  have hle := hr.le
  have hmx := hr.max
  rcases hr.cells with h0 | ⟨ba, off, rfl, hc⟩
  · omega
  have d1 : decide ((len : Int) < 8) = false := decide_eq_false (by omega)
  have d2 : decide ((560 : Int) < len) = false := decide_eq_false (by omega)
  have i0 : (0 : Int) < len := by omega
  have i0n : 0 < len := by omega
  have i1 : (1 : Int) < len := by omega
  have i8l : (8 : Int) ≤ len := by omega
  have hfi := fld_ir
  have HR := Lib.hid (fun W (hW : Below w.heap.size w W) => hr.below hW)
  have CC := Lib.hid (fun W (hW : Below w.heap.size w W) (i : Nat) (hi : i < len) => (hW.cell (World.block_lt_of_cell? _ _ (hc i hi))).trans (hc i hi))
  have B0 := Lib.hid ((Below.refl w.heap.size w).alloc (Nat.le_refl _) (.cells #[.bool false, .int .i64 0, .int .i64 0, .slice none 0 0] 35))
  have X0 := Lib.hid (Box.new w 35 #[.bool false, .int .i64 0, .int .i64 0, .slice none 0 0])
  have Q0 := Lib.hid q0
  have Q1 := Lib.hid q1
  have KS := Lib.hid (fun W (hW : Below w.heap.size w W) => isSummed_is _ len cap zs false W (hr.below hW) (by omega) hs)
  clear hr hc q0 q1 hs
  go_enter Try.func74, Try.ntmps74
  go_wp2_with fail
  refine (refuse_no _ _).mono ?_
  rintro e w' ⟨rfl, rfl⟩
  go_wp2_with fail
  refine (KS.out _ B0.out).mono ?_
  rintro e w1 ⟨rfl, b1⟩
  have B1 := Lib.hid (B0.out.trans (b1.mono B0.out.size))
  have X1 := Lib.hid (X0.out.below b1 X0.out.lt)
  clear b1 X0 B0
  go_wp2_with fail
  refine (refuse_yes _ _).mono ?_
  rintro e w' ⟨rfl, rfl⟩
  go_wp2
  exact ⟨rfl, rfl, B1.out⟩

set_option maxRecDepth 20000 in
set_option maxHeartbeats 2000000 in
theorem echoIn_form (a : Option Addr) (len cap : Nat) (zs : List Int) (w : World) (hr : Rd w a len cap zs) (h1 : 8 ≤ len) (h2 : len ≤ 560) (b0 b1 : Int) (q0 : zs.getD 0 0 = b0) (q1 : zs.getD 1 0 = b1) (hs : decide (sumV zs = 0) = true) (hf : (b0 != 8) = true ∧ (b0 != 0) = true ∨ (b0 != 8) = false ∧ (b1 != 0) = true ∨ (b0 != 8) = true ∧ (b0 != 0) = false ∧ (b1 != 0) = true) : Calls Try.prog 74 #[.slice a len cap] w (Refused w 1) := by
  have hle := hr.le
  have hmx := hr.max
  rcases hr.cells with h0 | ⟨ba, off, rfl, hc⟩
  · omega
  have d1 : decide ((len : Int) < 8) = false := decide_eq_false (by omega)
  have d2 : decide ((560 : Int) < len) = false := decide_eq_false (by omega)
  have i0 : (0 : Int) < len := by omega
  have i0n : 0 < len := by omega
  have i1 : (1 : Int) < len := by omega
  have i8l : (8 : Int) ≤ len := by omega
  have hfi := fld_ir
  have HR := Lib.hid (fun W (hW : Below w.heap.size w W) => hr.below hW)
  have CC := Lib.hid (fun W (hW : Below w.heap.size w W) (i : Nat) (hi : i < len) => (hW.cell (World.block_lt_of_cell? _ _ (hc i hi))).trans (hc i hi))
  have B0 := Lib.hid ((Below.refl w.heap.size w).alloc (Nat.le_refl _) (.cells #[.bool false, .int .i64 0, .int .i64 0, .slice none 0 0] 35))
  have X0 := Lib.hid (Box.new w 35 #[.bool false, .int .i64 0, .int .i64 0, .slice none 0 0])
  have Q0 := Lib.hid q0
  have Q1 := Lib.hid q1
  have KS := Lib.hid (fun W (hW : Below w.heap.size w W) => isSummed_is _ len cap zs true W (hr.below hW) (by omega) hs)
  clear hr hc q0 q1 hs
  rcases hf with ⟨f0, f1⟩ | ⟨f0, f1⟩ | ⟨f0, f1, f2⟩
  all_goals
    go_enter Try.func74, Try.ntmps74
    go_wp2_with fail
    refine (refuse_no _ _).mono ?_
    rintro e w' ⟨rfl, rfl⟩
    go_wp2_with fail
    refine (KS.out _ B0.out).mono ?_
    rintro e w1 ⟨rfl, b1⟩
    have B1 := Lib.hid (B0.out.trans (b1.mono B0.out.size))
    have X1 := Lib.hid (X0.out.below b1 X0.out.lt)
    clear b1 X0 B0
    go_wp2_with fail
    refine (refuse_no _ _).mono ?_
    rintro e w' ⟨rfl, rfl⟩
    have c0 := CC.out _ B1.out 0 i0n
    rw [Q0.out] at c0
    simp only [Nat.add_zero] at c0
    have c1 := CC.out _ B1.out 1 (by omega)
    rw [Q1.out] at c1
    go_wp2_with fail
    refine (refuse_yes _ _).mono ?_
    rintro e w' ⟨rfl, rfl⟩
    go_wp2
    exact ⟨rfl, rfl, B1.out⟩

set_option maxRecDepth 20000 in
set_option maxHeartbeats 4000000 in
theorem echoIn_ok1 (a : Option Addr) (len cap : Nat) (zs : List Int) (w : World) (hr : Rd w a len cap zs) (h1 : 8 ≤ len) (h2 : len ≤ 560) (b0 b1 : Int) (q0 : zs.getD 0 0 = b0) (q1 : zs.getD 1 0 = b1) (hcap : ¬ cap = 8) (hs : decide (sumV zs = 0) = true) (hf : (b0 != 8) = false ∧ (b1 != 0) = false ∨ (b0 != 8) = true ∧ (b0 != 0) = false ∧ (b1 != 0) = false) :
    Calls Try.prog 74 #[.slice a len cap] w (EchoOut w (b0 == 0) (rdTo zs 4 2) (rdTo zs 6 2) (zs.drop 8)) := by
  have hle := hr.le
  have hmx := hr.max
  rcases hr.cells with h0 | ⟨ba, off, rfl, hc⟩
  · omega
  have d1 : decide ((len : Int) < 8) = false := decide_eq_false (by omega)
  have d2 : decide ((560 : Int) < len) = false := decide_eq_false (by omega)
  have i0 : (0 : Int) < len := by omega
  have i0n : 0 < len := by omega
  have i1 : (1 : Int) < len := by omega
  have i8l : (8 : Int) ≤ len := by omega
  have hfi := fld_ir
  have HR := Lib.hid (fun W (hW : Below w.heap.size w W) => hr.below hW)
  have CC := Lib.hid (fun W (hW : Below w.heap.size w W) (i : Nat) (hi : i < len) => (hW.cell (World.block_lt_of_cell? _ _ (hc i hi))).trans (hc i hi))
  have B0 := Lib.hid ((Below.refl w.heap.size w).alloc (Nat.le_refl _) (.cells #[.bool false, .int .i64 0, .int .i64 0, .slice none 0 0] 35))
  have X0 := Lib.hid (Box.new w 35 #[.bool false, .int .i64 0, .int .i64 0, .slice none 0 0])
  have Q0 := Lib.hid q0
  have Q1 := Lib.hid q1
  have KS := Lib.hid (fun W (hW : Below w.heap.size w W) => isSummed_is _ len cap zs true W (hr.below hW) (by omega) hs)
  obtain ⟨m1, hm1⟩ : ∃ m, rdTo zs 4 2 = m := ⟨_, rfl⟩
  obtain ⟨m2, hm2⟩ : ∃ m, rdTo zs 6 2 = m := ⟨_, rfl⟩
  obtain ⟨ys, hys⟩ : ∃ ys, zs.drop 8 = ys := ⟨_, rfl⟩
  have K3 := Lib.hid (fun W (hW : Below w.heap.size w W) => readWord_lit _ len cap 4 2 4 2 m1 zs W (hr.below hW) rfl rfl (by omega) (by omega) (by omega) hm1)
  have K4 := Lib.hid (fun W (hW : Below w.heap.size w W) => readWord_lit _ len cap 6 2 6 2 m2 zs W (hr.below hW) rfl rfl (by omega) (by omega) (by omega) hm2)
  have HD := Lib.hid (show ∀ W, Below w.heap.size w W → Rd W (some ⟨ba, off + 8, none⟩) (len - 8) (cap - 8) ys from fun W hW => by rw [← hys]; exact (hr.below hW).from 8 _ _ _ (by omega) rfl rfl rfl)
  have KD := Lib.hid (fun W (hW : Below w.heap.size w W) => bclone_any (some ⟨ba, off + 8, none⟩) (len - 8) (cap - 8) ys W (HD.out W hW) (by omega))
  have SS := Lib.hid (show ∀ W, Hid (Below w.heap.size w W) → W.cell? ⟨ba, off, none⟩ = some (.int .u8 b0) ∧ Hid (Below w.heap.size w W) from fun W h => by
    refine ⟨?_, h⟩
    have := CC.out W h.out 0 (by omega)
    rw [q0] at this
    simpa using this)
  rw [hm1, hm2, hys]
  clear hr hc q0 q1 hs
  clear hm1 hm2 hys HD
  have hrn : w.heap.size < w.heap.size + 1 := Nat.lt_succ_self _
  have hn1 : w.heap.size ≤ w.heap.size + 1 := Nat.le_succ _
  generalize hn0 : w.heap.size + 1 = n0 at hrn hn1
  have HN := Lib.hid hn0
  clear hn0
  rcases hf with ⟨f0, f1⟩ | ⟨f0, f1, f2⟩
  all_goals
    go_enter Try.func74, Try.ntmps74
    go_wp2_with fail
    refine (refuse_no _ _).mono ?_
    rintro e w' ⟨rfl, rfl⟩
    go_wp2_with fail
    refine (KS.out _ B0.out).mono ?_
    rintro e w1 ⟨rfl, b1⟩
    have B1 := Lib.hid (B0.out.trans (b1.mono B0.out.size))
    have X1 := Lib.hid (X0.out.below b1 X0.out.lt)
    clear b1 X0 B0
    go_wp2_with fail
    refine (refuse_no _ _).mono ?_
    rintro e w' ⟨rfl, rfl⟩
    have c0 := CC.out _ B1.out 0 i0n
    rw [Q0.out] at c0
    simp only [Nat.add_zero] at c0
    have c1 := CC.out _ B1.out 1 (by omega)
    rw [Q1.out] at c1
    go_wp2_with fail
    refine (refuse_no _ _).mono ?_
    rintro e w' ⟨rfl, rfl⟩
    go_wp2_with fail
    clear c0 c1
    have hn0 := HN.out
    have TD := kDrew B1
    refine wp_region_held_drew (S := fun W => W.cell? ⟨ba, off, none⟩ = some (.int .u8 b0) ∧ Hid (Below w.heap.size w W)) (by kernel_rfl) (SS.out _ TD) (fun hHeld => ?_)
    refine wpAnyH_take (i := 0) (v := ?_) (by simp only [List.getElem?_toArray, List.getElem?_cons_zero]; exact rfl) (by kernel_rfl) (by kernel_rfl) (by kernel_rfl) (by exact fun _ _ _ h => h) (Or.inl ⟨by rfl, ?_⟩) hHeld ?_
    rotate_left
    · intro w' hSw
      obtain ⟨s0, _⟩ := hSw
      go_simp
      try with_reducible rfl
    try simp only [Act.put, List.setIfInBounds_toArray, List.set_cons_zero, List.set_cons_succ]
    refine wpAnyH_take (i := 1) (v := ?_) (by simp only [List.getElem?_toArray, List.getElem?_cons_zero, List.getElem?_cons_succ]; exact rfl) (by kernel_rfl) (by kernel_rfl) (by kernel_rfl) (by exact fun _ _ _ h => h) (Or.inl ⟨by rfl, ?_⟩) hHeld ?_
    rotate_left
    · intro w' hSw
      obtain ⟨s0, _⟩ := hSw
      go_simp
      try with_reducible rfl
    try simp only [Act.put, List.setIfInBounds_toArray, List.set_cons_zero, List.set_cons_succ]
    refine wpAnyH_take (i := 2) (v := ?_) (by simp only [List.getElem?_toArray, List.getElem?_cons_zero, List.getElem?_cons_succ]; exact rfl) (by kernel_rfl) (by kernel_rfl) (by kernel_rfl) (by exact fun _ _ _ h => h) (Or.inl ⟨by rfl, ?_⟩) hHeld ?_
    rotate_left
    · intro w' hSw
      obtain ⟨s0, _⟩ := hSw
      go_simp
      try with_reducible rfl
    try simp only [Act.put, List.setIfInBounds_toArray, List.set_cons_zero, List.set_cons_succ]
    refine wpAnyH_take (i := 3) (v := ?_) (by simp only [List.getElem?_toArray, List.getElem?_cons_zero, List.getElem?_cons_succ]; exact rfl) (by kernel_rfl) (by kernel_rfl) (by kernel_rfl) (by exact fun _ _ _ h => h) (Or.inl ⟨by rfl, ?_⟩) hHeld ?_
    rotate_left
    · intro w' hSw
      obtain ⟨s0, _⟩ := hSw
      go_simp
      try with_reducible rfl
    try simp only [Act.put, List.setIfInBounds_toArray, List.set_cons_zero, List.set_cons_succ]
    refine wpAnyH_take (i := 4) (v := ?_) (by simp only [List.getElem?_toArray, List.getElem?_cons_zero, List.getElem?_cons_succ]; exact rfl) (by kernel_rfl) (by kernel_rfl) (by kernel_rfl) (by exact fun _ _ _ h => h) (Or.inl ⟨by rfl, ?_⟩) hHeld ?_
    rotate_left
    · intro w' hSw
      obtain ⟨s0, _⟩ := hSw
      go_simp
      try with_reducible rfl
    try simp only [Act.put, List.setIfInBounds_toArray, List.set_cons_zero, List.set_cons_succ]
    refine wpAnyH_take (i := 7) (v := ?_) (by simp only [List.getElem?_toArray, List.getElem?_cons_zero, List.getElem?_cons_succ]; exact rfl) (by kernel_rfl) (by kernel_rfl) (by kernel_rfl) (by exact fun _ _ _ h => h) (Or.inl ⟨by rfl, ?_⟩) hHeld ?_
    rotate_left
    · intro w' hSw
      obtain ⟨s0, _⟩ := hSw
      go_simp
      try with_reducible rfl
    try simp only [Act.put, List.setIfInBounds_toArray, List.set_cons_zero, List.set_cons_succ]
    refine wpAnyH_take (i := 10) (v := ?_) (by simp only [List.getElem?_toArray, List.getElem?_cons_zero, List.getElem?_cons_succ]; exact rfl) (by kernel_rfl) (by kernel_rfl) (by kernel_rfl) (by exact fun _ _ _ h => h) (Or.inl ⟨by rfl, ?_⟩) hHeld ?_
    rotate_left
    · intro w' hSw
      obtain ⟨s0, _⟩ := hSw
      go_simp
      try with_reducible rfl
    try simp only [Act.put, List.setIfInBounds_toArray, List.set_cons_zero, List.set_cons_succ]
    refine wpAnyH_take (i := 11) (v := ?_) (by simp only [List.getElem?_toArray, List.getElem?_cons_zero, List.getElem?_cons_succ]; exact rfl) (by kernel_rfl) (by kernel_rfl) (by kernel_rfl) (by exact fun _ _ _ h => h) (Or.inl ⟨by rfl, ?_⟩) hHeld ?_
    rotate_left
    · intro w' hSw
      obtain ⟨s0, _⟩ := hSw
      go_simp
      try with_reducible rfl
    try simp only [Act.put, List.setIfInBounds_toArray, List.set_cons_zero, List.set_cons_succ]
    refine flow_go (Inv := fun listed ac W => ∃ v38 v39 v41 v42 v45 v46 : Value, ac = { tmps := #[.slice (some ⟨ba, off, none⟩) len cap, _, .pointer (some ⟨w.heap.size, 0, none⟩), _, _, _, _, _, _, _, _, _, _, _, _, _, _, _, _, _, _, _, _, _, _, _, _, _, _, _, _, _, _, .slice (some ⟨ba, off, none⟩) len cap, .pointer (some ⟨ba, off, none⟩), .int .u8 b0, .bool (b0 == 0), .slice (some ⟨ba, off, none⟩) len cap, v38, v39, .slice (some ⟨ba, off, none⟩) len cap, v41, v42, .slice (some ⟨ba, off, none⟩) len cap, .slice (some ⟨ba, off + 8, none⟩) (len - 8) (cap - 8), v45, v46], defers := [] } ∧ Hid (Below w.heap.size w W) ∧ Hid (∃ vs : Array Value, Box W w.heap.size 35 vs ∧ vs.size = 4) ∧ Fl listed 5 (EqV v38 (.agg #[.int .i64 0, .int .i64 m1])) ∧ Fl listed 6 (EqV v39 (.int .i64 m1)) ∧ Fl listed 8 (EqV v41 (.agg #[.int .i64 0, .int .i64 m2])) ∧ Fl listed 9 (EqV v42 (.int .i64 m2)) ∧ Fl listed 12 (SlV W n0 v45 (len - 8) ys) ∧ Fl listed 13 (AgV W n0 v46 #[.bool (b0 == 0), .int .i64 m1, .int .i64 m2] (len - 8) ys) ∧ Fl listed 14 (BxV W n0 w.heap.size 35 #[.bool (b0 == 0), .int .i64 m1, .int .i64 m2] (len - 8) ys)) [5, 6, 8, 9, 12, 13, 14] (by kernel_rfl) (by kernel_rfl) ⟨_, _, _, _, _, _, rfl, TD, ⟨_, (show Box _ _ _ _ from X1.out), rfl⟩, Fl.not (by kernel_rfl), Fl.not (by kernel_rfl), Fl.not (by kernel_rfl), Fl.not (by kernel_rfl), Fl.not (by kernel_rfl), Fl.not (by kernel_rfl), Fl.not (by kernel_rfl)⟩
      (FlowAll.cons [] (by simp only [List.getElem?_toArray, List.getElem?_cons_zero, List.getElem?_cons_succ]; exact rfl) (by kernel_rfl) (fun listed ac W hI hu hd K hK => ?_)
        (FlowAll.cons [5] (by simp only [List.getElem?_toArray, List.getElem?_cons_zero, List.getElem?_cons_succ]; exact rfl) (by kernel_rfl) (fun listed ac W hI hu hd K hK => ?_)
        (FlowAll.cons [] (by simp only [List.getElem?_toArray, List.getElem?_cons_zero, List.getElem?_cons_succ]; exact rfl) (by kernel_rfl) (fun listed ac W hI hu hd K hK => ?_)
        (FlowAll.cons [8] (by simp only [List.getElem?_toArray, List.getElem?_cons_zero, List.getElem?_cons_succ]; exact rfl) (by kernel_rfl) (fun listed ac W hI hu hd K hK => ?_)
        (FlowAll.cons [] (by simp only [List.getElem?_toArray, List.getElem?_cons_zero, List.getElem?_cons_succ]; exact rfl) (by kernel_rfl) (fun listed ac W hI hu hd K hK => ?_)
        (FlowAll.cons [6, 9, 12] (by simp only [List.getElem?_toArray, List.getElem?_cons_zero, List.getElem?_cons_succ]; exact rfl) (by kernel_rfl) (fun listed ac W hI hu hd K hK => ?_)
        (FlowAll.cons [13] (by simp only [List.getElem?_toArray, List.getElem?_cons_zero, List.getElem?_cons_succ]; exact rfl) (by kernel_rfl) (fun listed ac W hI hu hd K hK => ?_)
        FlowAll.nil)))))))
      (fun listed ac W hI hall => ?_)
    · obtain ⟨v38, v39, v41, v42, v45, v46, rfl, TB, XB, f5, f6, f8, f9, f12, f13, f14⟩ := hI
      obtain ⟨vsR, xR, sR⟩ := XB.out
      have hnW : n0 ≤ W.heap.size := by have := xR.lt; omega
      refine want_none (by exact rfl) ?_
      go_wp2_with fail
      refine (K3.out _ TB.out).mono ?_
      rintro e w' ⟨rfl, hb0⟩
      go_wp2_with fail
      have hb : Below W.heap.size W _ := hb0
      have TB' := kCall hb (kSize TB) TB
      refine hK.out _ _ (SS.out _ TB') ?_
      exact ⟨_, _, _, _, _, _, rfl, TB', ⟨_, xR.below hb xR.lt, sR⟩, Fl.new (EqV.rfl _), f6.keep (by decide) (keepE hb), f8.keep (by decide) (keepE hb), f9.keep (by decide) (keepE hb), f12.keep (by decide) (SlV.below hb), f13.keep (by decide) (AgV.below hb), f14.keep (by decide) (BxV.below hb)⟩
    · obtain ⟨v38, v39, v41, v42, v45, v46, rfl, TB, XB, f5, f6, f8, f9, f12, f13, f14⟩ := hI
      obtain ⟨vsR, xR, sR⟩ := XB.out
      have hnW : n0 ≤ W.heap.size := by have := xR.lt; omega
      obtain ⟨rfl⟩ := f5.get (hd 5 (by simp))
      refine want_none (by exact rfl) ?_
      go_wp2_with fail
      refine hK.out _ _ (SS.out _ TB) ?_
      exact ⟨_, _, _, _, _, _, rfl, TB, XB, f5.keep (by decide) id, Fl.new (EqV.rfl _), f8.keep (by decide) id, f9.keep (by decide) id, f12.keep (by decide) id, f13.keep (by decide) id, f14.keep (by decide) id⟩
    · obtain ⟨v38, v39, v41, v42, v45, v46, rfl, TB, XB, f5, f6, f8, f9, f12, f13, f14⟩ := hI
      obtain ⟨vsR, xR, sR⟩ := XB.out
      have hnW : n0 ≤ W.heap.size := by have := xR.lt; omega
      refine want_none (by exact rfl) ?_
      go_wp2_with fail
      refine (K4.out _ TB.out).mono ?_
      rintro e w' ⟨rfl, hb0⟩
      go_wp2_with fail
      have hb : Below W.heap.size W _ := hb0
      have TB' := kCall hb (kSize TB) TB
      refine hK.out _ _ (SS.out _ TB') ?_
      exact ⟨_, _, _, _, _, _, rfl, TB', ⟨_, xR.below hb xR.lt, sR⟩, f5.keep (by decide) (keepE hb), f6.keep (by decide) (keepE hb), Fl.new (EqV.rfl _), f9.keep (by decide) (keepE hb), f12.keep (by decide) (SlV.below hb), f13.keep (by decide) (AgV.below hb), f14.keep (by decide) (BxV.below hb)⟩
    · obtain ⟨v38, v39, v41, v42, v45, v46, rfl, TB, XB, f5, f6, f8, f9, f12, f13, f14⟩ := hI
      obtain ⟨vsR, xR, sR⟩ := XB.out
      have hnW : n0 ≤ W.heap.size := by have := xR.lt; omega
      obtain ⟨rfl⟩ := f8.get (hd 8 (by simp))
      refine want_none (by exact rfl) ?_
      go_wp2_with fail
      refine hK.out _ _ (SS.out _ TB) ?_
      exact ⟨_, _, _, _, _, _, rfl, TB, XB, f5.keep (by decide) id, f6.keep (by decide) id, f8.keep (by decide) id, Fl.new (EqV.rfl _), f12.keep (by decide) id, f13.keep (by decide) id, f14.keep (by decide) id⟩
    · obtain ⟨v38, v39, v41, v42, v45, v46, rfl, TB, XB, f5, f6, f8, f9, f12, f13, f14⟩ := hI
      obtain ⟨vsR, xR, sR⟩ := XB.out
      have hnW : n0 ≤ W.heap.size := by have := xR.lt; omega
      refine want_none (by exact rfl) ?_
      go_wp2_with fail
      refine (KD.out _ TB.out).mono ?_
      rintro e w' ⟨a', c', rfl, o', hb0⟩
      go_wp2_with fail
      have hb : Below W.heap.size W _ := hb0
      have TB' := kCall hb (kSize TB) TB
      refine hK.out _ _ (SS.out _ TB') ?_
      exact ⟨_, _, _, _, _, _, rfl, TB', ⟨_, xR.below hb xR.lt, sR⟩, f5.keep (by decide) (keepE hb), f6.keep (by decide) (keepE hb), f8.keep (by decide) (keepE hb), f9.keep (by decide) (keepE hb), Fl.new (⟨_, _, rfl, o'.rebase hnW⟩), f13.keep (by decide) (AgV.below hb), f14.keep (by decide) (BxV.below hb)⟩
    · obtain ⟨v38, v39, v41, v42, v45, v46, rfl, TB, XB, f5, f6, f8, f9, f12, f13, f14⟩ := hI
      obtain ⟨vsR, xR, sR⟩ := XB.out
      have hnW : n0 ≤ W.heap.size := by have := xR.lt; omega
      obtain ⟨rfl⟩ := f6.get (hd 6 (by simp))
      obtain ⟨rfl⟩ := f9.get (hd 9 (by simp))
      obtain ⟨a45, c45, rfl, o45⟩ := f12.get (hd 12 (by simp))
      refine want_none (by exact rfl) ?_
      go_wp2_with fail
      refine hK.out _ _ (SS.out _ TB) ?_
      exact ⟨_, _, _, _, _, _, rfl, TB, XB, f5.keep (by decide) id, f6.keep (by decide) id, f8.keep (by decide) id, f9.keep (by decide) id, f12.keep (by decide) id, Fl.new (⟨_, _, rfl, o45⟩), f14.keep (by decide) id⟩
    · obtain ⟨v38, v39, v41, v42, v45, v46, rfl, TB, XB, f5, f6, f8, f9, f12, f13, f14⟩ := hI
      obtain ⟨vsR, xR, sR⟩ := XB.out
      have hnW : n0 ≤ W.heap.size := by have := xR.lt; omega
      obtain ⟨a46, c46, rfl, o46⟩ := f13.get (hd 13 (by simp))
      refine storeBox_step _ rfl 35 (.tmp 2) (.tmp 46) rfl w.heap.size 35 vsR (#[.bool (b0 == 0), .int .i64 m1, .int .i64 m2] ++ #[.slice a46 (len - 8) c46]) xR (by exact rfl) (by exact rfl) (by kernel_rfl) (sR.trans rfl) (by simp [Value.oneCell']) ?_
      intro wS xS gS
      simp only [Act.put]
      have TB' := kGrownB gS TB (Nat.le_refl _)
      refine hK.out _ _ (SS.out _ TB') ?_
      exact ⟨_, _, _, _, _, _, rfl, TB', ⟨_, xS, rfl⟩, f5.keep (by decide) (id), f6.keep (by decide) (id), f8.keep (by decide) (id), f9.keep (by decide) (id), f12.keep (by decide) (SlV.grown gS hrn), f13.keep (by decide) (AgV.grown gS hrn), Fl.new (⟨_, _, xS, o46.grown gS (fun x hx e => by have := (o46.lt x hx).1; simp only [Option.some.injEq] at e; omega)⟩)⟩
    · obtain ⟨v38, v39, v41, v42, v45, v46, rfl, TB, XB, f5, f6, f8, f9, f12, f13, f14⟩ := hI
      obtain ⟨vsR, xR, sR⟩ := XB.out
      have hnW : n0 ≤ W.heap.size := by have := xR.lt; omega
      obtain ⟨a5, c5, x5, o5⟩ := f14.get (hall 14 (by decide))
      have X5 := Lib.hid x5
      have O5 := Lib.hid (o5.rebase hn1)
      have T5 := TB
      clear x5 o5 xR sR XB hall TB SS f5 f6 f8 f9 f12 f13 f14
      go_wp2
      exact bodyPost_ret (results_cell_row Try.results74 _ _ _ _ _ _ _ rfl X5.out Try.underlying35 rfl (by kernel_rfl)) rfl ⟨_, _, _, rfl, O5.out, T5.out⟩

set_option maxRecDepth 20000 in
set_option maxHeartbeats 4000000 in
theorem echoIn_ok2 (a : Option Addr) (zs : List Int) (w : World) (hr : Rd w a 8 8 zs) (b0 b1 : Int) (q0 : zs.getD 0 0 = b0) (q1 : zs.getD 1 0 = b1) (hs : decide (sumV zs = 0) = true) (hf : (b0 != 8) = false ∧ (b1 != 0) = false ∨ (b0 != 8) = true ∧ (b0 != 0) = false ∧ (b1 != 0) = false) :
    Calls Try.prog 74 #[.slice a 8 8] w (EchoOut w (b0 == 0) (rdTo zs 4 2) (rdTo zs 6 2) (zs.drop 8)) := by
  have hle := hr.le
  have hmx := hr.max
  rcases hr.cells with h0 | ⟨ba, off, rfl, hc⟩
  · omega
  have hfi := fld_ir
  have HR := Lib.hid (fun W (hW : Below w.heap.size w W) => hr.below hW)
  have CC := Lib.hid (fun W (hW : Below w.heap.size w W) (i : Nat) (hi : i < 8) => (hW.cell (World.block_lt_of_cell? _ _ (hc i hi))).trans (hc i hi))
  have B0 := Lib.hid ((Below.refl w.heap.size w).alloc (Nat.le_refl _) (.cells #[.bool false, .int .i64 0, .int .i64 0, .slice none 0 0] 35))
  have X0 := Lib.hid (Box.new w 35 #[.bool false, .int .i64 0, .int .i64 0, .slice none 0 0])
  have Q0 := Lib.hid q0
  have Q1 := Lib.hid q1
  have KS := Lib.hid (fun W (hW : Below w.heap.size w W) => isSummed_is _ 8 8 zs true W (hr.below hW) (by omega) hs)
  obtain ⟨m1, hm1⟩ : ∃ m, rdTo zs 4 2 = m := ⟨_, rfl⟩
  obtain ⟨m2, hm2⟩ : ∃ m, rdTo zs 6 2 = m := ⟨_, rfl⟩
  obtain ⟨ys, hys⟩ : ∃ ys, zs.drop 8 = ys := ⟨_, rfl⟩
  have K3 := Lib.hid (fun W (hW : Below w.heap.size w W) => readWord_lit _ 8 8 4 2 4 2 m1 zs W (hr.below hW) rfl rfl (by omega) (by omega) (by omega) hm1)
  have K4 := Lib.hid (fun W (hW : Below w.heap.size w W) => readWord_lit _ 8 8 6 2 6 2 m2 zs W (hr.below hW) rfl rfl (by omega) (by omega) (by omega) hm2)
  have HD := Lib.hid (show ∀ W, Below w.heap.size w W → Rd W (some ⟨ba, off, none⟩) 0 0 ys from fun W hW => by rw [← hys]; exact rd_tail8 (hr.below hW))
  have KD := Lib.hid (fun W (hW : Below w.heap.size w W) => bclone_any (some ⟨ba, off, none⟩) 0 0 ys W (HD.out W hW) (by omega))
  have SS := Lib.hid (show ∀ W, Hid (Below w.heap.size w W) → W.cell? ⟨ba, off, none⟩ = some (.int .u8 b0) ∧ Hid (Below w.heap.size w W) from fun W h => by
    refine ⟨?_, h⟩
    have := CC.out W h.out 0 (by omega)
    rw [q0] at this
    simpa using this)
  rw [hm1, hm2, hys]
  clear hr hc q0 q1 hs
  clear hm1 hm2 hys HD
  have hrn : w.heap.size < w.heap.size + 1 := Nat.lt_succ_self _
  have hn1 : w.heap.size ≤ w.heap.size + 1 := Nat.le_succ _
  generalize hn0 : w.heap.size + 1 = n0 at hrn hn1
  have HN := Lib.hid hn0
  clear hn0
  rcases hf with ⟨f0, f1⟩ | ⟨f0, f1, f2⟩
  all_goals
    go_enter Try.func74, Try.ntmps74
    go_wp2_with fail
    refine (refuse_no _ _).mono ?_
    rintro e w' ⟨rfl, rfl⟩
    go_wp2_with fail
    refine (KS.out _ B0.out).mono ?_
    rintro e w1 ⟨rfl, b1⟩
    have B1 := Lib.hid (B0.out.trans (b1.mono B0.out.size))
    have X1 := Lib.hid (X0.out.below b1 X0.out.lt)
    clear b1 X0 B0
    go_wp2_with fail
    refine (refuse_no _ _).mono ?_
    rintro e w' ⟨rfl, rfl⟩
    have c0 := CC.out _ B1.out 0 (by omega)
    rw [Q0.out] at c0
    simp only [Nat.add_zero] at c0
    have c1 := CC.out _ B1.out 1 (by omega)
    rw [Q1.out] at c1
    go_wp2_with fail
    refine (refuse_no _ _).mono ?_
    rintro e w' ⟨rfl, rfl⟩
    go_wp2_with fail
    clear c0 c1
    have hn0 := HN.out
    have TD := kDrew B1
    refine wp_region_held_drew (S := fun W => W.cell? ⟨ba, off, none⟩ = some (.int .u8 b0) ∧ Hid (Below w.heap.size w W)) (by kernel_rfl) (SS.out _ TD) (fun hHeld => ?_)
    refine wpAnyH_take (i := 0) (v := ?_) (by simp only [List.getElem?_toArray, List.getElem?_cons_zero]; exact rfl) (by kernel_rfl) (by kernel_rfl) (by kernel_rfl) (by exact fun _ _ _ h => h) (Or.inl ⟨by rfl, ?_⟩) hHeld ?_
    rotate_left
    · intro w' hSw
      obtain ⟨s0, _⟩ := hSw
      go_simp
      try with_reducible rfl
    try simp only [Act.put, List.setIfInBounds_toArray, List.set_cons_zero, List.set_cons_succ]
    refine wpAnyH_take (i := 1) (v := ?_) (by simp only [List.getElem?_toArray, List.getElem?_cons_zero, List.getElem?_cons_succ]; exact rfl) (by kernel_rfl) (by kernel_rfl) (by kernel_rfl) (by exact fun _ _ _ h => h) (Or.inl ⟨by rfl, ?_⟩) hHeld ?_
    rotate_left
    · intro w' hSw
      obtain ⟨s0, _⟩ := hSw
      go_simp
      try with_reducible rfl
    try simp only [Act.put, List.setIfInBounds_toArray, List.set_cons_zero, List.set_cons_succ]
    refine wpAnyH_take (i := 2) (v := ?_) (by simp only [List.getElem?_toArray, List.getElem?_cons_zero, List.getElem?_cons_succ]; exact rfl) (by kernel_rfl) (by kernel_rfl) (by kernel_rfl) (by exact fun _ _ _ h => h) (Or.inl ⟨by rfl, ?_⟩) hHeld ?_
    rotate_left
    · intro w' hSw
      obtain ⟨s0, _⟩ := hSw
      go_simp
      try with_reducible rfl
    try simp only [Act.put, List.setIfInBounds_toArray, List.set_cons_zero, List.set_cons_succ]
    refine wpAnyH_take (i := 3) (v := ?_) (by simp only [List.getElem?_toArray, List.getElem?_cons_zero, List.getElem?_cons_succ]; exact rfl) (by kernel_rfl) (by kernel_rfl) (by kernel_rfl) (by exact fun _ _ _ h => h) (Or.inl ⟨by rfl, ?_⟩) hHeld ?_
    rotate_left
    · intro w' hSw
      obtain ⟨s0, _⟩ := hSw
      go_simp
      try with_reducible rfl
    try simp only [Act.put, List.setIfInBounds_toArray, List.set_cons_zero, List.set_cons_succ]
    refine wpAnyH_take (i := 4) (v := ?_) (by simp only [List.getElem?_toArray, List.getElem?_cons_zero, List.getElem?_cons_succ]; exact rfl) (by kernel_rfl) (by kernel_rfl) (by kernel_rfl) (by exact fun _ _ _ h => h) (Or.inl ⟨by rfl, ?_⟩) hHeld ?_
    rotate_left
    · intro w' hSw
      obtain ⟨s0, _⟩ := hSw
      go_simp
      try with_reducible rfl
    try simp only [Act.put, List.setIfInBounds_toArray, List.set_cons_zero, List.set_cons_succ]
    refine wpAnyH_take (i := 7) (v := ?_) (by simp only [List.getElem?_toArray, List.getElem?_cons_zero, List.getElem?_cons_succ]; exact rfl) (by kernel_rfl) (by kernel_rfl) (by kernel_rfl) (by exact fun _ _ _ h => h) (Or.inl ⟨by rfl, ?_⟩) hHeld ?_
    rotate_left
    · intro w' hSw
      obtain ⟨s0, _⟩ := hSw
      go_simp
      try with_reducible rfl
    try simp only [Act.put, List.setIfInBounds_toArray, List.set_cons_zero, List.set_cons_succ]
    refine wpAnyH_take (i := 10) (v := ?_) (by simp only [List.getElem?_toArray, List.getElem?_cons_zero, List.getElem?_cons_succ]; exact rfl) (by kernel_rfl) (by kernel_rfl) (by kernel_rfl) (by exact fun _ _ _ h => h) (Or.inl ⟨by rfl, ?_⟩) hHeld ?_
    rotate_left
    · intro w' hSw
      obtain ⟨s0, _⟩ := hSw
      go_simp
      try with_reducible rfl
    try simp only [Act.put, List.setIfInBounds_toArray, List.set_cons_zero, List.set_cons_succ]
    refine wpAnyH_take (i := 11) (v := ?_) (by simp only [List.getElem?_toArray, List.getElem?_cons_zero, List.getElem?_cons_succ]; exact rfl) (by kernel_rfl) (by kernel_rfl) (by kernel_rfl) (by exact fun _ _ _ h => h) (Or.inl ⟨by rfl, ?_⟩) hHeld ?_
    rotate_left
    · intro w' hSw
      obtain ⟨s0, _⟩ := hSw
      go_simp
      try with_reducible rfl
    try simp only [Act.put, List.setIfInBounds_toArray, List.set_cons_zero, List.set_cons_succ]
    refine flow_go (Inv := fun listed ac W => ∃ v38 v39 v41 v42 v45 v46 : Value, ac = { tmps := #[.slice (some ⟨ba, off, none⟩) 8 8, _, .pointer (some ⟨w.heap.size, 0, none⟩), _, _, _, _, _, _, _, _, _, _, _, _, _, _, _, _, _, _, _, _, _, _, _, _, _, _, _, _, _, _, .slice (some ⟨ba, off, none⟩) 8 8, .pointer (some ⟨ba, off, none⟩), .int .u8 b0, .bool (b0 == 0), .slice (some ⟨ba, off, none⟩) 8 8, v38, v39, .slice (some ⟨ba, off, none⟩) 8 8, v41, v42, .slice (some ⟨ba, off, none⟩) 8 8, .slice (some ⟨ba, off, none⟩) 0 0, v45, v46], defers := [] } ∧ Hid (Below w.heap.size w W) ∧ Hid (∃ vs : Array Value, Box W w.heap.size 35 vs ∧ vs.size = 4) ∧ Fl listed 5 (EqV v38 (.agg #[.int .i64 0, .int .i64 m1])) ∧ Fl listed 6 (EqV v39 (.int .i64 m1)) ∧ Fl listed 8 (EqV v41 (.agg #[.int .i64 0, .int .i64 m2])) ∧ Fl listed 9 (EqV v42 (.int .i64 m2)) ∧ Fl listed 12 (SlV W n0 v45 (0) ys) ∧ Fl listed 13 (AgV W n0 v46 #[.bool (b0 == 0), .int .i64 m1, .int .i64 m2] (0) ys) ∧ Fl listed 14 (BxV W n0 w.heap.size 35 #[.bool (b0 == 0), .int .i64 m1, .int .i64 m2] (0) ys)) [5, 6, 8, 9, 12, 13, 14] (by kernel_rfl) (by kernel_rfl) ⟨_, _, _, _, _, _, rfl, TD, ⟨_, (show Box _ _ _ _ from X1.out), rfl⟩, Fl.not (by kernel_rfl), Fl.not (by kernel_rfl), Fl.not (by kernel_rfl), Fl.not (by kernel_rfl), Fl.not (by kernel_rfl), Fl.not (by kernel_rfl), Fl.not (by kernel_rfl)⟩
      (FlowAll.cons [] (by simp only [List.getElem?_toArray, List.getElem?_cons_zero, List.getElem?_cons_succ]; exact rfl) (by kernel_rfl) (fun listed ac W hI hu hd K hK => ?_)
        (FlowAll.cons [5] (by simp only [List.getElem?_toArray, List.getElem?_cons_zero, List.getElem?_cons_succ]; exact rfl) (by kernel_rfl) (fun listed ac W hI hu hd K hK => ?_)
        (FlowAll.cons [] (by simp only [List.getElem?_toArray, List.getElem?_cons_zero, List.getElem?_cons_succ]; exact rfl) (by kernel_rfl) (fun listed ac W hI hu hd K hK => ?_)
        (FlowAll.cons [8] (by simp only [List.getElem?_toArray, List.getElem?_cons_zero, List.getElem?_cons_succ]; exact rfl) (by kernel_rfl) (fun listed ac W hI hu hd K hK => ?_)
        (FlowAll.cons [] (by simp only [List.getElem?_toArray, List.getElem?_cons_zero, List.getElem?_cons_succ]; exact rfl) (by kernel_rfl) (fun listed ac W hI hu hd K hK => ?_)
        (FlowAll.cons [6, 9, 12] (by simp only [List.getElem?_toArray, List.getElem?_cons_zero, List.getElem?_cons_succ]; exact rfl) (by kernel_rfl) (fun listed ac W hI hu hd K hK => ?_)
        (FlowAll.cons [13] (by simp only [List.getElem?_toArray, List.getElem?_cons_zero, List.getElem?_cons_succ]; exact rfl) (by kernel_rfl) (fun listed ac W hI hu hd K hK => ?_)
        FlowAll.nil)))))))
      (fun listed ac W hI hall => ?_)
    · obtain ⟨v38, v39, v41, v42, v45, v46, rfl, TB, XB, f5, f6, f8, f9, f12, f13, f14⟩ := hI
      obtain ⟨vsR, xR, sR⟩ := XB.out
      have hnW : n0 ≤ W.heap.size := by have := xR.lt; omega
      refine want_none (by exact rfl) ?_
      go_wp2_with fail
      refine (K3.out _ TB.out).mono ?_
      rintro e w' ⟨rfl, hb0⟩
      go_wp2_with fail
      have hb : Below W.heap.size W _ := hb0
      have TB' := kCall hb (kSize TB) TB
      refine hK.out _ _ (SS.out _ TB') ?_
      exact ⟨_, _, _, _, _, _, rfl, TB', ⟨_, xR.below hb xR.lt, sR⟩, Fl.new (EqV.rfl _), f6.keep (by decide) (keepE hb), f8.keep (by decide) (keepE hb), f9.keep (by decide) (keepE hb), f12.keep (by decide) (SlV.below hb), f13.keep (by decide) (AgV.below hb), f14.keep (by decide) (BxV.below hb)⟩
    · obtain ⟨v38, v39, v41, v42, v45, v46, rfl, TB, XB, f5, f6, f8, f9, f12, f13, f14⟩ := hI
      obtain ⟨vsR, xR, sR⟩ := XB.out
      have hnW : n0 ≤ W.heap.size := by have := xR.lt; omega
      obtain ⟨rfl⟩ := f5.get (hd 5 (by simp))
      refine want_none (by exact rfl) ?_
      go_wp2_with fail
      refine hK.out _ _ (SS.out _ TB) ?_
      exact ⟨_, _, _, _, _, _, rfl, TB, XB, f5.keep (by decide) id, Fl.new (EqV.rfl _), f8.keep (by decide) id, f9.keep (by decide) id, f12.keep (by decide) id, f13.keep (by decide) id, f14.keep (by decide) id⟩
    · obtain ⟨v38, v39, v41, v42, v45, v46, rfl, TB, XB, f5, f6, f8, f9, f12, f13, f14⟩ := hI
      obtain ⟨vsR, xR, sR⟩ := XB.out
      have hnW : n0 ≤ W.heap.size := by have := xR.lt; omega
      refine want_none (by exact rfl) ?_
      go_wp2_with fail
      refine (K4.out _ TB.out).mono ?_
      rintro e w' ⟨rfl, hb0⟩
      go_wp2_with fail
      have hb : Below W.heap.size W _ := hb0
      have TB' := kCall hb (kSize TB) TB
      refine hK.out _ _ (SS.out _ TB') ?_
      exact ⟨_, _, _, _, _, _, rfl, TB', ⟨_, xR.below hb xR.lt, sR⟩, f5.keep (by decide) (keepE hb), f6.keep (by decide) (keepE hb), Fl.new (EqV.rfl _), f9.keep (by decide) (keepE hb), f12.keep (by decide) (SlV.below hb), f13.keep (by decide) (AgV.below hb), f14.keep (by decide) (BxV.below hb)⟩
    · obtain ⟨v38, v39, v41, v42, v45, v46, rfl, TB, XB, f5, f6, f8, f9, f12, f13, f14⟩ := hI
      obtain ⟨vsR, xR, sR⟩ := XB.out
      have hnW : n0 ≤ W.heap.size := by have := xR.lt; omega
      obtain ⟨rfl⟩ := f8.get (hd 8 (by simp))
      refine want_none (by exact rfl) ?_
      go_wp2_with fail
      refine hK.out _ _ (SS.out _ TB) ?_
      exact ⟨_, _, _, _, _, _, rfl, TB, XB, f5.keep (by decide) id, f6.keep (by decide) id, f8.keep (by decide) id, Fl.new (EqV.rfl _), f12.keep (by decide) id, f13.keep (by decide) id, f14.keep (by decide) id⟩
    · obtain ⟨v38, v39, v41, v42, v45, v46, rfl, TB, XB, f5, f6, f8, f9, f12, f13, f14⟩ := hI
      obtain ⟨vsR, xR, sR⟩ := XB.out
      have hnW : n0 ≤ W.heap.size := by have := xR.lt; omega
      refine want_none (by exact rfl) ?_
      go_wp2_with fail
      refine (KD.out _ TB.out).mono ?_
      rintro e w' ⟨a', c', rfl, o', hb0⟩
      go_wp2_with fail
      have hb : Below W.heap.size W _ := hb0
      have TB' := kCall hb (kSize TB) TB
      refine hK.out _ _ (SS.out _ TB') ?_
      exact ⟨_, _, _, _, _, _, rfl, TB', ⟨_, xR.below hb xR.lt, sR⟩, f5.keep (by decide) (keepE hb), f6.keep (by decide) (keepE hb), f8.keep (by decide) (keepE hb), f9.keep (by decide) (keepE hb), Fl.new (⟨_, _, rfl, o'.rebase hnW⟩), f13.keep (by decide) (AgV.below hb), f14.keep (by decide) (BxV.below hb)⟩
    · obtain ⟨v38, v39, v41, v42, v45, v46, rfl, TB, XB, f5, f6, f8, f9, f12, f13, f14⟩ := hI
      obtain ⟨vsR, xR, sR⟩ := XB.out
      have hnW : n0 ≤ W.heap.size := by have := xR.lt; omega
      obtain ⟨rfl⟩ := f6.get (hd 6 (by simp))
      obtain ⟨rfl⟩ := f9.get (hd 9 (by simp))
      obtain ⟨a45, c45, rfl, o45⟩ := f12.get (hd 12 (by simp))
      refine want_none (by exact rfl) ?_
      go_wp2_with fail
      refine hK.out _ _ (SS.out _ TB) ?_
      exact ⟨_, _, _, _, _, _, rfl, TB, XB, f5.keep (by decide) id, f6.keep (by decide) id, f8.keep (by decide) id, f9.keep (by decide) id, f12.keep (by decide) id, Fl.new (⟨_, _, rfl, o45⟩), f14.keep (by decide) id⟩
    · obtain ⟨v38, v39, v41, v42, v45, v46, rfl, TB, XB, f5, f6, f8, f9, f12, f13, f14⟩ := hI
      obtain ⟨vsR, xR, sR⟩ := XB.out
      have hnW : n0 ≤ W.heap.size := by have := xR.lt; omega
      obtain ⟨a46, c46, rfl, o46⟩ := f13.get (hd 13 (by simp))
      refine storeBox_step _ rfl 35 (.tmp 2) (.tmp 46) rfl w.heap.size 35 vsR (#[.bool (b0 == 0), .int .i64 m1, .int .i64 m2] ++ #[.slice a46 (0) c46]) xR (by exact rfl) (by exact rfl) (by kernel_rfl) (sR.trans rfl) (by simp [Value.oneCell']) ?_
      intro wS xS gS
      simp only [Act.put]
      have TB' := kGrownB gS TB (Nat.le_refl _)
      refine hK.out _ _ (SS.out _ TB') ?_
      exact ⟨_, _, _, _, _, _, rfl, TB', ⟨_, xS, rfl⟩, f5.keep (by decide) (id), f6.keep (by decide) (id), f8.keep (by decide) (id), f9.keep (by decide) (id), f12.keep (by decide) (SlV.grown gS hrn), f13.keep (by decide) (AgV.grown gS hrn), Fl.new (⟨_, _, xS, o46.grown gS (fun x hx e => by have := (o46.lt x hx).1; simp only [Option.some.injEq] at e; omega)⟩)⟩
    · obtain ⟨v38, v39, v41, v42, v45, v46, rfl, TB, XB, f5, f6, f8, f9, f12, f13, f14⟩ := hI
      obtain ⟨vsR, xR, sR⟩ := XB.out
      have hnW : n0 ≤ W.heap.size := by have := xR.lt; omega
      obtain ⟨a5, c5, x5, o5⟩ := f14.get (hall 14 (by decide))
      have X5 := Lib.hid x5
      have O5 := Lib.hid (o5.rebase hn1)
      have T5 := TB
      clear x5 o5 xR sR XB hall TB SS f5 f6 f8 f9 f12 f13 f14
      go_wp2
      exact bodyPost_ret (results_cell_row Try.results74 _ _ _ _ _ _ _ rfl X5.out Try.underlying35 rfl (by kernel_rfl)) rfl ⟨_, _, _, rfl, O5.out, T5.out⟩

/-- what ReadEcho answers -/
structure ReA where
  c : Int
  r : Bool
  i : Int
  s : Int
  rs : List Int
def reNo (c : Int) : ReA := ⟨c, false, 0, 0, []⟩
def reAns (zs : List Int) : ReA :=
  if reLen zs.length = false then reNo 2
  else if ¬ sumV zs = 0 then reNo 6
  else if reForm (zs.getD 0 0) (zs.getD 1 0) = false then reNo 1
  else ⟨0, zs.getD 0 0 == 0, rdTo zs 4 2, rdTo zs 6 2, zs.drop 8⟩
def ReRes (w : World) (r : ReA) (e : Ending) (w' : World) : Prop := EchoRes w r.c r.r r.i r.s r.rs e w'
theorem reLen_bd {n : Nat} (h : ¬ reLen n = false) : 8 ≤ n ∧ n ≤ 560 := by
  have h' : reLen n = true := by simpa using h
  exact of_decide_eq_true h'
theorem reAns_len (zs : List Int) : (reAns zs).rs.length ≤ 700 := by
  unfold reAns
  split
  · exact Nat.zero_le _
  · rename_i h1
    have := reLen_bd h1
    split
    · exact Nat.zero_le _
    · split
      · exact Nat.zero_le _
      · simp only [List.length_drop]; omega
theorem reForm_false {b0 b1 : Int} (h : reForm b0 b1 = false) : (b0 != 8) = true ∧ (b0 != 0) = true ∨ (b0 != 8) = false ∧ (b1 != 0) = true ∨ (b0 != 8) = true ∧ (b0 != 0) = false ∧ (b1 != 0) = true := by
  unfold reForm at h
  cases e0 : (b0 == 8) <;> cases e1 : (b0 == 0) <;> cases e2 : (b1 == 0) <;> simp_all [bne]
theorem reForm_true {b0 b1 : Int} (h : reForm b0 b1 = true) : (b0 != 8) = false ∧ (b1 != 0) = false ∨ (b0 != 8) = true ∧ (b0 != 0) = false ∧ (b1 != 0) = false := by
  unfold reForm at h
  cases e0 : (b0 == 8) <;> cases e1 : (b0 == 0) <;> cases e2 : (b1 == 0) <;> simp_all [bne]

theorem specReadEcho (a : Option Addr) (len cap : Nat) (zs : List Int) (w : World) (hr : Rd w a len cap zs) :
    Calls Try.prog 25 #[.slice a len cap] w (ReRes w (reAns zs)) := by
  have hl := hr.length
  unfold ReRes reAns
  split
  · rename_i h; rw [hl] at h; exact specReadEcho_len a len cap w h
  rename_i h1
  obtain ⟨g1, g2⟩ := reLen_bd h1
  rw [hl] at g1 g2
  split
  · rename_i h; exact specReadEcho_sum a len cap zs w hr g1 g2 h
  rename_i h3
  have hs : sumV zs = 0 := Decidable.of_not_not h3
  split
  · rename_i h; exact specReadEcho_form a len cap zs w hr g1 g2 hs _ _ rfl rfl h
  rename_i h4
  have hf : reForm (zs.getD 0 0) (zs.getD 1 0) = true := by simpa using h4
  by_cases hcap : cap = 8
  · have hle := hr.le
    obtain rfl : len = 8 := by omega
    subst hcap
    exact specReadEcho_ok2 a zs w hr hs _ _ rfl rfl hf
  · exact specReadEcho_ok1 a len cap zs w hr g1 g2 hcap hs _ _ rfl rfl hf

theorem implReadEcho (a : Option Addr) (len cap : Nat) (zs : List Int) (w : World) (hr : Rd w a len cap zs) :
    Calls Try.prog 19 #[.slice a len cap] w (ReRes w (reAns zs)) := by
  have hl := hr.length
  unfold ReRes reAns
  split
  · rename_i h; rw [hl] at h; exact faceEcho_no a len cap 2 w (fun W _ => echoIn_len a len cap W h)
  rename_i h1
  obtain ⟨g1, g2⟩ := reLen_bd h1
  rw [hl] at g1 g2
  split
  · rename_i h; exact faceEcho_no a len cap 6 w (fun W hW => echoIn_sum a len cap zs W (hr.below hW) g1 g2 _ _ rfl rfl (decide_eq_false h))
  rename_i h3
  have hs : sumV zs = 0 := Decidable.of_not_not h3
  split
  · rename_i h; exact faceEcho_no a len cap 1 w (fun W hW => echoIn_form a len cap zs W (hr.below hW) g1 g2 _ _ rfl rfl (decide_eq_true hs) (reForm_false h))
  rename_i h4
  have hf := reForm_true (show reForm (zs.getD 0 0) (zs.getD 1 0) = true by simpa using h4)
  by_cases hcap : cap = 8
  · have hle := hr.le
    obtain rfl : len = 8 := by omega
    subst hcap
    exact faceEcho_ok a 8 8 _ _ _ _ w (fun W hW => echoIn_ok2 a zs W (hr.below hW) _ _ rfl rfl (decide_eq_true hs) hf)
  · exact faceEcho_ok a len cap _ _ _ _ w (fun W hW => echoIn_ok1 a len cap zs W (hr.below hW) g1 g2 _ _ rfl rfl hcap (decide_eq_true hs) hf)

theorem readEcho_law (a : Option Addr) (len cap : Nat) (zs : List Int) (w : World) (hr : Rd w a len cap zs) :
    Calls Try.prog 9 #[.slice a len cap] w fun e w' => e = .returned (.bool true) ∧ Below w.heap.size w w' :=
  exactReadEcho a len cap zs (reAns zs).c (reAns zs).r (reAns zs).i (reAns zs).s (reAns zs).rs w hr (fun a' l' c' W h => specReadEcho a' l' c' zs W h) (fun a' l' c' W h => implReadEcho a' l' c' zs W h) (reAns_len zs)
end Go.Proofs.Ytgjkbaplfbiomaa

namespace Go.Proofs.Ytgjkbaplfbiomaa
open Go.ChangeShapes Go.WideShapes Go.ChangeAt Go.RowKit

/-- a source of draws: its block b, how far it has been read -/
structure Src (w : World) (b t : Nat) (a : Option Addr) (len cap : Nat) (zs : List Int) : Prop where
  box : Box w b 97 #[.slice a len cap, .int .i64 (t : Int)]
  rd : Rd w a len cap zs
  lt : 0 < len → ∀ x, a = some x → x.block < b
theorem Src.step {w w' : World} {b t t' : Nat} {a : Option Addr} {len cap : Nat} {zs : List Int} (h : Src w b t a len cap zs) (hg : w.grownBy w' (some b)) (hb : Box w' b 97 #[.slice a len cap, .int .i64 (t' : Int)]) : Src w' b t' a len cap zs := by
  refine ⟨hb, ⟨h.rd.length, h.rd.le, h.rd.max, h.rd.b8, h.rd.nil, ?_⟩, h.lt⟩
  rcases h.rd.cells with h0 | ⟨bb, off, rfl, hc⟩
  · exact .inl h0
  · refine .inr ⟨bb, off, rfl, fun i hi => hg.cell (hc i hi) ?_⟩
    have := h.lt (by omega) _ rfl
    intro e
    simp at e this
    omega
theorem Src.alloc {w : World} {b t : Nat} {a : Option Addr} {len cap : Nat} {zs : List Int} (h : Src w b t a len cap zs) (o : Obj) : Src (w.alloc o) b t a len cap zs :=
  h.step (World.grownBy_alloc w o (some b)) (h.box.alloc o)
theorem Src.below {w w' : World} {b t : Nat} {a : Option Addr} {len cap : Nat} {zs : List Int} (h : Src w b t a len cap zs) (hb : Below w.heap.size w w') : Src w' b t a len cap zs :=
  h.step (grown_of_below hb _) (h.box.below hb h.box.lt)
theorem Src.drewN {w : World} {b t : Nat} {a : Option Addr} {len cap : Nat} {zs : List Int} (h : Src w b t a len cap zs) (n : Nat) : Src (w.drewN n) b t a len cap zs :=
  h.below (belowN (Below.refl _ _) n)

theorem grown_through {a b c : World} {r row : Option Nat} (h : a.grownBy b r) (k : b.grownBy c row) (hr : ∀ x, row = some x → a.heap.size ≤ x) : a.grownBy c r :=
  ⟨k.os.trans h.os, k.tape.trans h.tape, k.output.trans h.output, Nat.le_trans h.size k.size, fun i hi hn => (k.block i (Nat.lt_of_lt_of_le hi h.size) (fun e => by have := hr i e.symm; omega)).trans (h.block i hi hn)⟩
theorem Src.grown {w w' : World} {b t : Nat} {a : Option Addr} {len cap : Nat} {zs : List Int} {row : Option Nat} (h : Src w b t a len cap zs) (hg : w.grownBy w' row) (hr : ∀ x, row = some x → b < x) : Src w' b t a len cap zs := by
  refine ⟨h.box.grown hg (fun e => by have := hr b e.symm; omega), ⟨h.rd.length, h.rd.le, h.rd.max, h.rd.b8, h.rd.nil, ?_⟩, h.lt⟩
  rcases h.rd.cells with h0 | ⟨bb, off, rfl, hc⟩
  · exact .inl h0
  · refine .inr ⟨bb, off, rfl, fun i hi => hg.cell (hc i hi) ?_⟩
    have := h.lt (by omega) _ rfl
    intro e
    have h2 := hr _ e.symm
    simp at h2 this
    omega
theorem own_row {w : World} {base : Nat} {a : Option Addr} {len cap : Nat} {zs : List Int} (h : Own w base a len cap zs) : ∀ x, (Value.slice a len cap).ownBlock = some x → base ≤ x := by
  intro x e
  cases a with
  | none => simp [Value.ownBlock] at e
  | some y => have := h.lt y rfl; simp [Value.ownBlock] at e; omega

/-- a number drawn: from 0 on, below n -/
def Nexted (w : World) (b t : Nat) (n : Int) (a : Option Addr) (len cap : Nat) (zs : List Int) (e : Ending) (w' : World) : Prop :=
  ∃ r : Int, e = .returned (.int .i64 r) ∧ 0 ≤ r ∧ (1 ≤ n → r < n) ∧ Src w' b (t + 1) a len cap zs ∧ w.grownBy w' (some b)

theorem box_set {w : World} {b : Nat} {t : TypeId} {x y z : Value} (h : Box w b t #[x, y]) : Box (w.setCell ⟨b, 1, none⟩ z) b t #[x, z] := by
  have := heap_setCell_same w b 1 #[x, y] t z h
  simpa [Box] using this

set_option maxRecDepth 100000 in
set_option maxHeartbeats 2000000 in
theorem l1Next_any (b t : Nat) (n : Int) (a : Option Addr) (len cap : Nat) (zs : List Int) (w : World) (h : Src w b t a len cap zs) (ht : t ≤ 1000000) (hl : len ≤ 1048576) (hn : n ≤ 1000000) :
    Calls Try.prog 60 #[.pointer (some ⟨b, 0, none⟩), .int .i64 n] w (Nexted w b t n a len cap zs) := by
  obtain ⟨z0, c0, c1⟩ := h.box.two
  have f1 := h.box.frozen 1
  obtain ⟨W1, hW1⟩ : ∃ W1, W1 = w.setCell ⟨b, 1, none⟩ (.int .i64 ((t : Int) + 1)) := ⟨_, rfl⟩
  have hg : w.grownBy W1 (some b) := by rw [hW1]; exact grown_setCell w ⟨b, 1, none⟩ _
  have hb1 : Box W1 b 97 #[.slice a len cap, .int .i64 ((t + 1 : Nat) : Int)] := by rw [hW1]; exact box_set h.box
  have hs := h.step hg hb1
  obtain ⟨z1, d0, d1⟩ := hb1.two
  have HW := Lib.hid hW1
  have HS := Lib.hid hs
  have HG := Lib.hid hg
  clear hW1 hs hg hb1 h
  by_cases h1 : n < 1
  · go_enter Try.func60, Try.ntmps60
    go_wp2
    go_ret
    rw [← HW.out]
    exact ⟨0, rfl, by omega, by omega, HS.out, HG.out⟩
  · by_cases h2 : len = 0
    · subst h2
      have hd0 := d0
      have hd1 := d1
      rw [HW.out] at hd0 hd1
      simp only [Int.natCast_add, Int.natCast_one] at hd1
      clear d0 d1
      have k1 : 0 ≤ (t : Int) * 7 % n := Int.emod_nonneg _ (by omega)
      have k2 : (t : Int) * 7 % n < n := Int.emod_lt_of_pos _ (by omega)
      go_enter Try.func60, Try.ntmps60
      go_wp2
      go_ret
      rw [← HW.out]
      exact ⟨_, rfl, k1, fun _ => k2, HS.out, HG.out⟩
    · rcases HS.out.rd.cells with h0 | ⟨bb, off, rfl, hc⟩
      · exact absurd h0 h2
      have hd0 := d0
      have hd1 := d1
      rw [HW.out] at hd0 hd1
      simp only [Int.natCast_add, Int.natCast_one] at hd1
      have hp : (0 : Int) < len := by omega
      have hne : ((len : Int) == 0) = false := by simp; omega
      have m1 : (0 : Int) ≤ (t : Int) % len := Int.emod_nonneg _ (by omega)
      have m2 : (t : Int) % len < len := Int.emod_lt_of_pos _ hp
      have m3 : ((t : Int) % len).toNat = t % len := by rw [← Int.natCast_emod]; exact Int.toNat_natCast _
      have hcm := hc (t % len) (Nat.mod_lt _ (by omega))
      rw [HW.out] at hcm
      have hbd := HS.out.rd.getD_bd (t % len)
      generalize zs.getD (t % len) 0 = x at *
      clear d0 d1 hc
      go_enter Try.func60, Try.ntmps60
      go_wp2
      go_quiet (fail)
      obtain ⟨v, hv, hv1, hv2⟩ : ∃ v, wrap64 (x + wrap64 (wrap64 ((t : Int) / len) * 37)) = v ∧ 0 ≤ v ∧ v ≤ 37000255 := by
        have d1 : 0 ≤ (t : Int) / len := Int.ediv_nonneg (by omega) (by omega)
        have d2 : (t : Int) / len ≤ t := Int.ediv_le_self _ (by omega)
        refine ⟨x + (t : Int) / len * 37, ?_, by omega, by omega⟩
        rw [IntWalk.wrap64_in ((t : Int) / len) (by omega), IntWalk.wrap64_in ((t : Int) / len * 37) (by omega), IntWalk.wrap64_in _ (by omega)]
      rw [hv, ← HW.out]
      have S2 := HS.out.drewN nq
      have G2 : w.grownBy (W1.drewN nq) (some b) := grown_trans HG.out (grown_of_below (belowN (Below.refl _ W1) nq) _)
      generalize W1.drewN nq = W2 at S2 G2 ⊢
      obtain ⟨z2, d0, d1⟩ := S2.box.two
      simp only [Int.natCast_add, Int.natCast_one] at d1
      have HS2 := Lib.hid S2
      have HG2 := Lib.hid G2
      clear hv hcm m1 m2 m3 hbd hd0 hd1 c0 c1 f1 z0 z1 HG HS HW S2 G2
      by_cases h200 : 200 < n
      · rcases HS2.out.rd.cells with h0 | ⟨bb', off', e, hc⟩
        · exact absurd h0 h2
        cases e
        have m1 : (0 : Int) ≤ ((t : Int) + 1) % len := Int.emod_nonneg _ (by omega)
        have m2 : ((t : Int) + 1) % len < len := Int.emod_lt_of_pos _ hp
        have m3 : (((t : Int) + 1) % len).toNat = (t + 1) % len := by rw [← Int.natCast_one, ← Int.natCast_add, ← Int.natCast_emod]; exact Int.toNat_natCast _
        have hcm := hc ((t + 1) % len) (Nat.mod_lt _ (by omega))
        have hbd := HS2.out.rd.getD_bd ((t + 1) % len)
        generalize zs.getD ((t + 1) % len) 0 = y at *
        clear hc
        have n1 : (0 : Int) ≤ (t : Int) + 1 := by omega
        go_wp2
        go_quiet (fail)
        obtain ⟨v', hv', hv1', hv2'⟩ : ∃ v', v * 251 + y * 13 + (t : Int) = v' ∧ 0 ≤ v' ∧ v' ≤ 10000000000 := ⟨_, rfl, by omega, by omega⟩
        rw [hv']
        have S3 := HS2.out.drewN nq
        have G3 : w.grownBy (W2.drewN nq) (some b) := grown_trans HG2.out (grown_of_below (belowN (Below.refl _ W2) nq) _)
        generalize W2.drewN nq = W3 at S3 G3 ⊢
        obtain ⟨z3, e0, e1⟩ := S3.box.two
        have HS3 := Lib.hid S3
        have HG3 := Lib.hid G3
        clear hv' hcm m1 m2 m3 hbd d0 d1 z2 HG2 HS2 S3 G3
        by_cases h6 : 60000 < n
        · rcases HS3.out.rd.cells with h0 | ⟨bb', off', e, hc⟩
          · exact absurd h0 h2
          cases e
          have m1 : (0 : Int) ≤ ((t : Int) + 2) % len := Int.emod_nonneg _ (by omega)
          have m2 : ((t : Int) + 2) % len < len := Int.emod_lt_of_pos _ hp
          have m3 : (((t : Int) + 2) % len).toNat = (t + 2) % len := by
            have : ((t : Int) + 2) = ((t + 2 : Nat) : Int) := by omega
            rw [this, ← Int.natCast_emod]; exact Int.toNat_natCast _
          have hcm := hc ((t + 2) % len) (Nat.mod_lt _ (by omega))
          have hbd := HS3.out.rd.getD_bd ((t + 2) % len)
          generalize zs.getD ((t + 2) % len) 0 = u at *
          clear hc
          have n2 : (0 : Int) ≤ (t : Int) + 2 := by omega
          go_wp2
          go_quiet (fail)
          obtain ⟨v2, hv2, hw1, hw2⟩ : ∃ v2, v' * 257 + u = v2 ∧ 0 ≤ v2 ∧ v2 ≤ 10000000000000 := ⟨_, rfl, by omega, by omega⟩
          rw [hv2]
          have S4 := HS3.out.drewN nq
          have G4 : w.grownBy (W3.drewN nq) (some b) := grown_trans HG3.out (grown_of_below (belowN (Below.refl _ W3) nq) _)
          generalize W3.drewN nq = W4 at S4 G4 ⊢
          have HS4 := Lib.hid S4
          have HG4 := Lib.hid G4
          have k1 : 0 ≤ v2 % n := Int.emod_nonneg _ (by omega)
          have k2 : v2 % n < n := Int.emod_lt_of_pos _ (by omega)
          clear hv2 hcm m1 m2 m3 hbd e0 e1 z3 HG3 HS3 S4 G4
          go_wp2
          go_ret
          exact ⟨_, rfl, k1, fun _ => k2, HS4.out, HG4.out⟩
        · have k1 : 0 ≤ v' % n := Int.emod_nonneg _ (by omega)
          have k2 : v' % n < n := Int.emod_lt_of_pos _ (by omega)
          go_wp2
          go_ret
          exact ⟨_, rfl, k1, fun _ => k2, HS3.out, HG3.out⟩
      · have k1 : 0 ≤ v % n := Int.emod_nonneg _ (by omega)
        have k2 : v % n < n := Int.emod_lt_of_pos _ (by omega)
        go_wp2
        go_ret
        exact ⟨_, rfl, k1, fun _ => k2, HS2.out, HG2.out⟩
end Go.Proofs.Ytgjkbaplfbiomaa

namespace Go.Proofs.Ytgjkbaplfbiomaa
open Go.ChangeShapes Go.WideShapes Go.ChangeAt Go.RowKit

theorem l1Source_any (a : Option Addr) (len cap : Nat) (zs : List Int) (w : World) (h : Rd w a len cap zs) :
    Calls Try.prog 57 #[.slice a len cap] w fun e w' => e = .returned (.pointer (some ⟨w.heap.size, 0, none⟩)) ∧ Src w' w.heap.size 0 a len cap zs ∧ Below w.heap.size w w' := by
  have hb := Lib.hid (Box.new w 97 #[.slice a len cap, .int .i64 0])
  have H := Lib.hid h
  clear h
  go_enter Try.func57, Try.ntmps57
  go_wp2
  go_ret
  refine ⟨rfl, ⟨hb.out, H.out.alloc _, ?_⟩, (Below.refl _ _).alloc (Nat.le_refl _) _⟩
  intro hp x hx
  rcases H.out.cells with h0 | ⟨b, off, e, hc⟩
  · omega
  · rw [e] at hx; cases hx; exact World.block_lt_of_cell? _ _ (hc 0 hp)

/-- a number between two bounds was drawn -/
def Picked (w : World) (b t : Nat) (lo hi : Int) (a : Option Addr) (len cap : Nat) (zs : List Int) (e : Ending) (w' : World) : Prop :=
  ∃ r : Int, e = .returned (.int .i64 r) ∧ lo ≤ r ∧ r ≤ hi ∧ Src w' b (t + 1) a len cap zs ∧ w.grownBy w' (some b)

set_option maxHeartbeats 1000000 in
theorem l1Pick_any (b t g n : Nat) (xs : List Int) (lo hi : Int) (a : Option Addr) (len cap : Nat) (zs : List Int) (w : World) (h : Src w b t a len cap zs) (hx : ∀ x ∈ xs, lo ≤ x ∧ x ≤ hi) (hn : xs.length = n) (hp : 0 < n) (hn2 : n ≤ 1000)
    (hL : Box w g 2 (xs.map (Value.int .i64)).toArray) (hgb : g ≠ b) (ht : t ≤ 1000000) (hl : len ≤ 1048576) :
    Calls Try.prog 61 #[.pointer (some ⟨b, 0, none⟩), .slice (some ⟨g, 0, none⟩) n n] w (Picked w b t lo hi a len cap zs) := by
  have K := Lib.hid (l1Next_any b t n a len cap zs w h ht hl (by omega))
  have HL := Lib.hid hL
  have HN := Lib.hid hn
  have HX := Lib.hid hx
  clear h hL hn hx
  go_enter Try.func61, Try.ntmps61
  go_wp2_with fail
  refine K.out.mono ?_
  rintro e w1 ⟨r, rfl, hr0, hr1, hs, hg⟩
  obtain ⟨i, rfl⟩ := Int.eq_ofNat_of_zero_le hr0
  have hin : i < n := by have := hr1 (by omega); omega
  have hc := (HL.out.grown hg (by intro e; cases e; exact hgb rfl)).cell i
  have hi' : i < xs.length := by rw [HN.out]; exact hin
  rw [List.getElem?_toArray, List.getElem?_map, List.getElem?_eq_getElem hi'] at hc
  have hb := HX.out _ (List.getElem_mem hi')
  simp only [Option.map_some] at hc
  generalize xs[i] = x at *
  have HS := Lib.hid hs
  have HG := Lib.hid hg
  clear hs hg hr0 hr1
  go_wp2
  go_ret
  exact ⟨x, rfl, hb.1, hb.2, HS.out, HG.out⟩

theorem l1Chance_any (b t : Nat) (n : Int) (a : Option Addr) (len cap : Nat) (zs : List Int) (w : World) (h : Src w b t a len cap zs) (ht : t ≤ 1000000) (hl : len ≤ 1048576) (hn : n ≤ 1000000) :
    Calls Try.prog 75 #[.pointer (some ⟨b, 0, none⟩), .int .i64 n] w fun e w' => ∃ c : Bool, e = .returned (.bool c) ∧ Src w' b (t + 1) a len cap zs ∧ w.grownBy w' (some b) := by
  have K := Lib.hid (l1Next_any b t n a len cap zs w h ht hl hn)
  clear h
  go_enter Try.func75, Try.ntmps75
  go_wp2_with fail
  refine K.out.mono ?_
  rintro e w1 ⟨r, rfl, hr0, hr1, hs, hg⟩
  have HS := Lib.hid hs
  have HG := Lib.hid hg
  clear hs hg hr0 hr1
  go_wp2
  go_ret
  exact ⟨_, rfl, HS.out, HG.out⟩

/-- some bytes were drawn, into an array of their own -/
def Somed (w : World) (b t n : Nat) (a : Option Addr) (len cap : Nat) (zs : List Int) (e : Ending) (w' : World) : Prop :=
  ∃ (a' : Option Addr) (c' : Nat) (ys : List Int), e = .returned (.slice a' n c') ∧ Own w' w.heap.size a' n c' ys ∧ Src w' b (t + n) a len cap zs ∧ w.grownBy w' (some b)

set_option maxHeartbeats 2000000 in
theorem l1Some_any (b t n : Nat) (a : Option Addr) (len cap : Nat) (zs : List Int) (w : World) (h : Src w b t a len cap zs) (ht : t + n ≤ 1000000) (hl : len ≤ 1048576) :
    Calls Try.prog 64 #[.pointer (some ⟨b, 0, none⟩), .int .i64 n] w (Somed w b t n a len cap zs) := by
  have o0 := Lib.hid (own_lit w w.heap.size (Nat.le_refl _))
  have s0 := Lib.hid (h.alloc (.cells #[] 5))
  have hbw := h.box.lt
  clear h
  go_enter Try.func64, Try.ntmps64
  go_wp2
  go_loopw [1, 5] (fun nn out wr => ∃ (k : Nat) (a' : Option Addr) (c' : Nat) (ys : List Int), k ≤ n ∧ nn = .int .i64 ((n - k : Nat) : Int) ∧ out = .slice a' k c' ∧ Own wr w.heap.size a' k c' ys ∧ Src wr b (t + k) a len cap zs ∧ w.grownBy wr (some b)) (fun nn _ _ => (intOf nn).toNat)
  case atStart => exact ⟨0, _, _, [], Nat.zero_le _, rfl, rfl, o0.out, s0.out, World.grownBy_alloc w _ _⟩
  case round =>
    obtain ⟨k, a', c', ys, hk, rfl, rfl, ho, hs, hg⟩ := hrel
    by_cases hlt : k < n
    · have K := Lib.hid (l1Next_any b (t + k) 256 a len cap zs wr hs (by omega) hl (by omega))
      have HO := Lib.hid ho
      have HG := Lib.hid hg
      have hgz := hg.size
      clear o0 s0 ho hs hg
      go_wp2_with fail
      refine K.out.mono ?_
      rintro e w1 ⟨r, rfl, hr0, hr1, hs1, hg1⟩
      have hr2 := hr1 (by omega)
      have o1 := HO.out.grown hg1 (by intro x hx e; have := HO.out.lt x hx; simp at e; omega)
      obtain ⟨x, rfl⟩ := Int.eq_ofNat_of_zero_le hr0
      have o2 := o1.alloc (.cells #[.int .u8 (x : Int)] 5)
      have hbx := Box.new w1 5 #[.int .u8 (x : Int)]
      have r2 : Rd (w1.alloc (.cells #[.int .u8 (x : Int)] 5)) (some ⟨w1.heap.size, 0, none⟩) 1 1 [(x : Int)] := ⟨rfl, Nat.le_refl _, by decide, by intro m hm; simp at hm; subst hm; omega, by simp, .inr ⟨_, 0, rfl, fun i hi => by
        obtain rfl : i = 0 := by omega
        exact hbx.cell 0⟩⟩
      have hs2 := hs1.alloc (.cells #[.int .u8 (x : Int)] 5)
      have hg2 := Lib.hid (grown_trans (grown_trans HG.out hg1) (World.grownBy_alloc w1 (.cells #[.int .u8 (x : Int)] 5) (some b)))
      have hz1 := hg1.size
      clear hr0 hr1 hg1 hs1 o1 hbx
      go_wp2_with (at_builtin; refine append_bytes _ rfl (.tmp 11) (.tmp 15) rfl w.heap.size _ _ _ _ rfl o2 _ _ _ _ rfl r2 (by simp; omega) (by omega) ?_; intro a3 c3 w3 o3 g3)
      have hs3 := hs2.grown g3 (fun x e => by have := own_row HO.out x e; omega)
      have hg3 := grown_through hg2.out g3 (own_row HO.out)
      go_roundw
      case rel => exact ⟨k + 1, a3, c3, ys ++ [(x : Int)], by omega, by go_num, rfl, o3, by rw [← Nat.add_assoc]; exact hs3, hg3⟩
      case measure => simp [intOf]; omega
    · obtain rfl : k = n := by omega
      have R := Lib.hid (And.intro ho (And.intro hs hg))
      clear ho hs hg o0 s0
      go_wp2
      go_ret
      exact ⟨a', c', ys, rfl, R.out.1, R.out.2.1, R.out.2.2⟩
end Go.Proofs.Ytgjkbaplfbiomaa

namespace Go.Proofs.Ytgjkbaplfbiomaa
open Go.ChangeShapes Go.WideShapes Go.ChangeAt Go.RowKit

def winB (seq frm size : Int) : Bool := sqB seq && sqB frm && inB size 0 65535 && inB (dist frm seq) 0 (size - 1)
theorem dist_bd (f t : Int) : -2147483648 ≤ dist f t ∧ dist f t ≤ 2147483647 := by
  unfold dist; split <;> omega

theorem win_yes {seq frm size : Int} (ha : (sqB frm && sqB seq) = true) (h : 0 ≤ size ∧ size ≤ 65535 ∧ 0 ≤ dist frm seq ∧ dist frm seq < size) : winB seq frm size = true := by
  rw [Bool.and_eq_true] at ha
  simp only [winB, ha.1, ha.2, in_t (v := size) (a := 0) (b := 65535) (by omega), in_t (v := dist frm seq) (a := 0) (b := size - 1) (by omega), Bool.and_self]
theorem win_no {seq frm size : Int} (h : ¬ (0 ≤ size ∧ size ≤ 65535 ∧ 0 ≤ dist frm seq ∧ dist frm seq < size)) : winB seq frm size = false := by
  by_cases k : 0 ≤ size ∧ size ≤ 65535
  · simp only [winB, in_f (v := dist frm seq) (a := 0) (b := size - 1) (by omega), Bool.and_false]
  · simp only [winB, in_f k, Bool.and_false, Bool.false_and]

end Go.Proofs.Ytgjkbaplfbiomaa

namespace Go.Proofs.Ytgjkbaplfbiomaa
open Go.ChangeShapes Go.WideShapes Go.ChangeAt Go.RowKit

theorem mem8 {x a b c d e f g h lo hi : Int} (hx : x ∈ [a, b, c, d, e, f, g, h]) (k : lo ≤ a ∧ a ≤ hi ∧ lo ≤ b ∧ b ≤ hi ∧ lo ≤ c ∧ c ≤ hi ∧ lo ≤ d ∧ d ≤ hi ∧ lo ≤ e ∧ e ≤ hi ∧ lo ≤ f ∧ f ≤ hi ∧ lo ≤ g ∧ g ≤ hi ∧ lo ≤ h ∧ h ≤ hi) : lo ≤ x ∧ x ≤ hi := by
  simp only [List.mem_cons, List.not_mem_nil, or_false] at hx
  rcases hx with rfl | rfl | rfl | rfl | rfl | rfl | rfl | rfl <;> omega

theorem mem2 {x a b lo hi : Int} (hx : x ∈ [a, b]) (k : lo ≤ a ∧ a ≤ hi ∧ lo ≤ b ∧ b ≤ hi) : lo ≤ x ∧ x ≤ hi := by
  simp only [List.mem_cons, List.not_mem_nil, or_false] at hx
  rcases hx with rfl | rfl <;> omega
theorem mem5 {x a b c d e lo hi : Int} (hx : x ∈ [a, b, c, d, e]) (k : lo ≤ a ∧ a ≤ hi ∧ lo ≤ b ∧ b ≤ hi ∧ lo ≤ c ∧ c ≤ hi ∧ lo ≤ d ∧ d ≤ hi ∧ lo ≤ e ∧ e ≤ hi) : lo ≤ x ∧ x ≤ hi := by
  simp only [List.mem_cons, List.not_mem_nil, or_false] at hx
  rcases hx with rfl | rfl | rfl | rfl | rfl <;> omega
theorem mem6 {x a b c d e f lo hi : Int} (hx : x ∈ [a, b, c, d, e, f]) (k : lo ≤ a ∧ a ≤ hi ∧ lo ≤ b ∧ b ≤ hi ∧ lo ≤ c ∧ c ≤ hi ∧ lo ≤ d ∧ d ≤ hi ∧ lo ≤ e ∧ e ≤ hi ∧ lo ≤ f ∧ f ≤ hi) : lo ≤ x ∧ x ≤ hi := by
  simp only [List.mem_cons, List.not_mem_nil, or_false] at hx
  rcases hx with rfl | rfl | rfl | rfl | rfl | rfl <;> omega

/-- two numbers were drawn -/
def Two (w : World) (P : Int → Int → Prop) (e : Ending) (w' : World) : Prop := ∃ x y : Int, e = .returned (.tuple #[.int .i64 x, .int .i64 y]) ∧ P x y ∧ Below w.heap.size w w'

theorem below_src {w w1 w2 : World} (h : Below w.heap.size w w1) (hg : w1.grownBy w2 (some w.heap.size)) : Below w.heap.size w w2 :=
  h.grown hg h.size (fun k e => by cases e; exact Nat.le_refl _)

/-- three numbers were drawn -/
def Three (w : World) (P : Int → Int → Int → Prop) (e : Ending) (w' : World) : Prop := ∃ x y z : Int, e = .returned (.tuple #[.int .i64 x, .int .i64 y, .int .i64 z]) ∧ P x y z ∧ Below w.heap.size w w'

end Go.Proofs.Ytgjkbaplfbiomaa

namespace Go.Proofs.Ytgjkbaplfbiomaa
open Go.ChangeShapes Go.WideShapes Go.ChangeAt Go.RowKit

theorem packed_code {w : World} {o : Obj} {c : Int} {e : Ending} (he : e = .returned (.agg #[.int .i64 c, .slice none 0 0])) : Packed w c [] e (w.alloc o) :=
  ⟨none, 0, 0, he, Own.nil _ _, (Below.refl _ _).alloc (Nat.le_refl _) _⟩

theorem below_grown {w w' : World} {B : Nat} {row : Option Nat} (hg : w.grownBy w' row) (hB : B ≤ w.heap.size) (hr : ∀ k, row = some k → B ≤ k) : Below B w w' := (Below.refl B w).grown hg hB hr

theorem field_ir (w : World) (c v : Int) : (Instr.field 92 (.agg #[.int .i64 c, .int .i64 v]) 1).run Try.prog w = .ok (.int .i64 v) w := by
  simp [Instr.field, asAgg, go_sem]
theorem field_br (w : World) (c : Int) (a : Option Addr) (l k : Nat) : (Instr.field 28 (.agg #[.int .i64 c, .slice a l k]) 1).run Try.prog w = .ok (.slice a l k) w := by
  simp [Instr.field, asAgg, go_sem]

theorem splice_cons (a : Int) (r : List Int) (A : Nat) (cs : List Int) : splice (a :: r) (A + 1) cs = a :: splice r A cs := by
  unfold splice
  rw [show A + 1 + cs.length = (A + cs.length) + 1 by omega]
  rfl
theorem set2_splice : ∀ (A : Nat) (L : List Int) (x y : Int), A + 2 ≤ L.length → (L.set A x).set (A + 1) y = splice L A [x, y]
  | _, [], _, _, h => absurd h (by simp)
  | 0, [_], _, _, h => absurd h (by simp)
  | 0, _ :: _ :: _, _, _, _ => rfl
  | A + 1, a :: r, x, y, h => by
    rw [splice_cons, ← set2_splice A r x y (by simpa using h)]
    rfl
theorem be2 (v : Int) (h : 0 ≤ v ∧ v ≤ 65535) : be v 2 = [v / 256, v % 256] := by
  have : v / 256 % 256 = v / 256 := by omega
  simp [be, this]
theorem sealB_splice (zs : List Int) (A : Nat) (h : A + 2 ≤ zs.length) : sealB zs A = splice (seal0 zs A) A (be (sumV (seal0 zs A)) 2) := by
  rw [be2 _ (sumV_bd _)]
  exact set2_splice _ _ _ _ (by simp [seal0]; omega)

set_option maxHeartbeats 1000000 in
set_option maxRecDepth 20000 in
theorem implSeal_ok (a : Option Addr) (len cap A : Nat) (zs : List Int) (w : World) (h : Rd w a len cap zs) (hl : len ≤ 700) (hA : A + 2 ≤ len) (hp : A % 2 = 0) :
    Calls Try.prog 54 #[.slice a len cap, .int .i64 A] w (Packed w 0 (sealB zs A)) := by
  obtain ⟨W0, hW0⟩ : ∃ W0, W0 = w.alloc (.cells #[.int .i64 0, .slice none 0 0] 28) := ⟨_, rfl⟩
  have K := Lib.hid (clone_any a len cap zs W0 (by rw [hW0]; exact h.alloc _) (by omega))
  have HW := Lib.hid hW0
  have hi : hasB len A 2 = true := has_t (by omega)
  have hq : ((A : Int) % 2 != 0) = false := by simp; omega
  have e1 : decide ((700 : Int) < len) = false := decide_eq_false (by omega)
  have hml : len ≤ maxLen := by unfold maxLen; omega
  clear h
  go_enter Try.func54, Try.ntmps54
  go_wp2_with (go_at_call 87; refine (hasBytes_any _ _ _ _ _ _ hml (by omega) (by omega)).mono ?_; rintro e w' ⟨rfl, rfl⟩)
  rw [← HW.out]
  refine K.out.mono ?_
  rintro e w1 ⟨a1, c1, rfl, o1, b1⟩
  have sz : W0.heap.size = w.heap.size + 1 := by rw [HW.out]; simp
  rcases o1.shape with ⟨_, h0, _⟩ | ⟨g, rfl⟩
  · omega
  have hg := (o1.lt _ rfl).1
  have hgr0 := Lib.hid (grown_of_below b1 (some g))
  rw [sz] at hg
  dsimp only at hg
  have hSZ := Lib.hid sz
  have cmx := o1.max
  have hc0 := o1.cellAt A (by omega)
  have hf0 := o1.frozenAt A
  obtain ⟨o2, g2⟩ := o1.set A 0 (by omega)
  have hc1 := o2.cellAt (A + 1) (by omega)
  have hf1 := o2.frozenAt (A + 1)
  obtain ⟨o3, g3⟩ := o2.set (A + 1) 0 (by omega)
  have O3 := Lib.hid o3
  have G3 := Lib.hid (grown_trans hgr0.out (grown_trans g2 g3))
  have i1 : (0 : Int) ≤ (A : Int) + 1 := by omega
  have i2 : (A : Int) + 1 < len := by omega
  have i3 : ((A : Int) + 1).toNat = A + 1 := by omega
  clear sz b1 hW0 K o1 o2 o3 g2 g3 hgr0
  go_wp2_with fail
  generalize hW3 : (w1.setCell ⟨g, A, none⟩ (.int .u8 0)).setCell ⟨g, A + 1, none⟩ (.int .u8 0) = W3 at O3 G3 ⊢
  clear hW3 hc0 hf0 hc1 hf1
  have hz3 : ((zs.set A 0).set (A + 1) 0).length ≤ 700 := by have := O3.out.length; omega
  have hvb := sumV_bd ((zs.set A 0).set (A + 1) 0)
  obtain ⟨v, hv⟩ : ∃ v, v = sumV ((zs.set A 0).set (A + 1) 0) := ⟨_, rfl⟩
  rw [← hv] at hvb
  have KS := Lib.hid (show ∀ W, Rd W (some ⟨g, 0, none⟩) len c1 ((zs.set A 0).set (A + 1) 0) → Calls Try.prog 89 #[.slice (some ⟨g, 0, none⟩) len c1] W fun e w' => e = .returned (.agg #[.int .i64 0, .int .i64 v]) ∧ Below W.heap.size W w' from fun W hr => by
    have := implSum _ _ _ _ W hr
    simp only [smC, smV, hz3, if_true] at this
    rw [hv]; exact this)
  have KP := Lib.hid (show ∀ W, Calls Try.prog 69 #[.int .i64 v, .int .i64 2] W (Packed W 0 (be v 2)) from fun W => implPack_ok v 2 W hvb.1 (by omega) (by simp only [Int.reducePow]; omega))
  have HB : Hid (sealB zs A = splice ((zs.set A 0).set (A + 1) 0) A (be v 2)) := by rw [hv]; exact sealB_splice zs A (by have := O3.out.length; simp at this; omega)
  clear hv hz3
  have hAl : ((A : Int)) ≤ len := by omega
  have hcA : ¬ c1 = A := by omega
  have hfi := field_ir
  have hfb := field_br
  go_region_law (first
    | (refine copy_step _ rfl (.tmp 31) (.tmp 36) rfl _ g len c1 A (len - A) _ _ o5 rfl (by omega) _ _ _ _ rfl r5 (by omega) ?_; intro w6 o6 g6)
    | (go_simp; go_at_call 89; refine (KS.out _ O3.out.drew.rd).mono ?_; rintro e w4 ⟨rfl, b4⟩)
    | (go_simp; go_at_call 69; refine (KP.out _).mono ?_; rintro e w5 ⟨a5, l5, k5, rfl, p5, b5⟩; have o5 := (O3.out.drew.below b4).below b5; have r5 := p5.rd; obtain rfl : 2 = l5 := (be_len 2 v).symm.trans p5.length))
  have hgr := grown_trans (grown_trans (grown_trans G3.out (show W3.grownBy w4 (some g) from grown_of_below (w := W3) ⟨b4.os, b4.tape, b4.output, b4.size, b4.block⟩ (some g))) (grown_of_below b5 (some g))) g6
  obtain ⟨hz, q0, q1, f0, f1⟩ := res_cells HW.out hgr (by intro e; cases e; omega)
  have hB := below_res HW.out hgr (fun k e => by cases e; omega)
  have o6 := o6.rebase (show w.heap.size ≤ W0.heap.size by rw [hSZ.out]; omega)
  rw [← HB.out] at o6
  clear g6 hgr p5 r5 o5 b5 b4 O3 G3 hfi hfb
  go_wp2
  refine bodyPost_ret (v := .agg #[.int .i64 0, .slice (some ⟨g, 0, none⟩) len c1]) (by simp [results, Try.results54, go_sem, q0, q1]) rfl ⟨_, _, _, rfl, ?_, (hB.setCell (Nat.le_refl _) _).setCell (Nat.le_refl _) _⟩
  exact (o6.setOther _ _ (by rintro x hx; cases hx; simp; omega)).setOther _ _ (by rintro x hx; cases hx; simp; omega)

set_option maxHeartbeats 1000000 in
set_option maxRecDepth 20000 in
theorem implSeal (a : Option Addr) (len cap : Nat) (at' : Int) (zs : List Int) (w : World) (h : Rd w a len cap zs) :
    Calls Try.prog 54 #[.slice a len cap, .int .i64 at'] w (Packed w (slC zs at') (slB zs at')) := by
  by_cases hl : len ≤ 700
  · cases hk : slOk len at' with
    | true =>
      simp only [slC, slB, h.length, hl, hk, if_true]
      simp only [slOk, decide_eq_true_eq] at hk
      obtain ⟨A, rfl⟩ := Int.eq_ofNat_of_zero_le hk.1
      rw [Int.toNat_natCast]
      exact implSeal_ok a len cap A zs w h hl (by omega) (by omega)
    | false =>
      simp only [slC, slB, h.length, hl, hk, if_true, Bool.false_eq_true, if_false]
      have e1 : decide ((700 : Int) < len) = false := decide_eq_false (by omega)
      have hml : len ≤ maxLen := by unfold maxLen; omega
      simp only [slOk, decide_eq_false_iff_not] at hk
      by_cases hr : 0 ≤ at' ∧ at' ≤ len - 2
      · have hi : hasB len at' 2 = true := has_t hr
        have hq : (at' % 2 != 0) = true := by simp; omega
        obtain ⟨r1, r2⟩ := hr
        clear h hk
        go_enter Try.func54, Try.ntmps54
        go_wp2_with (go_at_call 87; refine (hasBytes_any _ _ _ _ _ _ hml (by omega) (by omega)).mono ?_; rintro e w' ⟨rfl, rfl⟩)
        all_goals exact bodyPost_ret (v := .agg #[.int .i64 3, .slice none 0 0]) (by simp [results, Try.results54, go_sem]) rfl (packed_code rfl)
      · have hi : hasB len at' 2 = false := has_f hr
        clear h hk hr
        go_enter Try.func54, Try.ntmps54
        go_wp2_with (go_at_call 87; refine (hasBytes_any _ _ _ _ _ _ hml (by omega) (by omega)).mono ?_; rintro e w' ⟨rfl, rfl⟩)
        all_goals exact bodyPost_ret (v := .agg #[.int .i64 3, .slice none 0 0]) (by simp [results, Try.results54, go_sem]) rfl (packed_code rfl)
  · simp only [slC, slB, h.length, hl, if_false]
    have e1 : decide ((700 : Int) < len) = true := decide_eq_true (by omega)
    clear h
    go_enter Try.func54, Try.ntmps54
    go_wp2
    all_goals exact bodyPost_ret (v := .agg #[.int .i64 2, .slice none 0 0]) (by simp [results, Try.results54, go_sem]) rfl (packed_code rfl)
end Go.Proofs.Ytgjkbaplfbiomaa

namespace Go.Proofs.Ytgjkbaplfbiomaa
open Go.ChangeShapes Go.WideShapes Go.ChangeAt Go.RowKit

theorem lwBig_f (a : Option Addr) (len cap : Nat) (w : World) (hl : len ≤ 1048576) : Calls Try.prog 11 #[.slice a len cap] w fun e w' => e = .returned (.bool false) ∧ w = w' := by
  have e1 : decide ((1048576 : Int) < len) = false := decide_eq_false (by omega)
  go_enter Try.func11, Try.ntmps11
  go_wp2
  go_ret
  exact ⟨rfl, rfl⟩
theorem lwBig_t (a : Option Addr) (len cap : Nat) (w : World) (hl : ¬ len ≤ 1048576) : Calls Try.prog 11 #[.slice a len cap] w fun e w' => e = .returned (.bool true) ∧ w = w' := by
  have e1 : decide ((1048576 : Int) < len) = true := decide_eq_true (by omega)
  go_enter Try.func11, Try.ntmps11
  go_wp2
  go_ret
  exact ⟨rfl, rfl⟩

theorem keepc {W w1 : World} (hb : Below W.heap.size W w1) {p : Addr} {u : Value} (h : W.cell? p = some u) : w1.cell? p = some u := (hb.cell (World.block_lt_of_cell? _ _ h)).trans h

theorem add_dist {f t : Int} (hf : sqB f = true) (ht : sqB t = true) : addC f (dist f t) = 0 ∧ addV f (dist f t) = t := by
  have hd := dist_bd f t
  have hi : inB (dist f t) (-4294967296) 4294967296 = true := in_t (by omega)
  simp only [sqB, decide_eq_true_eq] at hf ht
  refine ⟨by simp only [addC, sq_t hf, hi, Bool.and_self, if_true], ?_⟩
  simp only [addV, sq_t hf, hi, Bool.and_self, if_true]
  unfold dist
  split <;> omega
theorem dist_back {f t : Int} (hf : sqB f = true) (ht : sqB t = true) (h : -2147483648 < dist f t) : distC t f = 0 ∧ distV t f = -dist f t := by
  refine ⟨by simp only [distC, hf, ht, Bool.and_self, if_true], ?_⟩
  simp only [distV, hf, ht, Bool.and_self, if_true]
  simp only [sqB, decide_eq_true_eq] at hf ht
  unfold dist at *
  split at h <;> (split <;> omega)
theorem add_back {s n : Int} (h : addC s n = 0) : addC (addV s n) (-n) = 0 ∧ addV (addV s n) (-n) = s := by
  unfold addC at h
  split at h
  · rename_i hk
    have hv : addV s n = (s + n) % 4294967296 := by unfold addV; rw [if_pos hk]
    rw [Bool.and_eq_true] at hk
    have h1 := hk.1
    have h2 := hk.2
    simp only [sqB, inB, decide_eq_true_eq] at h1 h2
    have k1 : sqB (addV s n) = true := sq_t (by rw [hv]; omega)
    have k2 : inB (-n) (-4294967296) 4294967296 = true := in_t (by omega)
    refine ⟨by simp only [addC, k1, k2, Bool.and_self, if_true], ?_⟩
    have e : addV (addV s n) (-n) = (addV s n + -n) % 4294967296 := by
      simp only [addV, k1, k2, Bool.and_self, if_true] at *
    rw [e, hv]; omega
  · omega

end Go.Proofs.Ytgjkbaplfbiomaa

namespace Go.Proofs.Ytgjkbaplfbiomaa
open Go.ChangeShapes Go.WideShapes Go.ChangeAt Go.RowKit

theorem foldN_mod (n : Nat) : foldN n % 65535 = n % 65535 := by
  induction n using Nat.strongRecOn with
  | _ n ih =>
    by_cases h : n ≤ 65535
    · rw [foldN_le h]
    · rw [foldN_gt h, ih _ (by omega)]
      omega
theorem foldN_pos (n : Nat) (h : 0 < n) : 0 < foldN n := by
  induction n using Nat.strongRecOn with
  | _ n ih =>
    by_cases h' : n ≤ 65535
    · rw [foldN_le h']; exact h
    · rw [foldN_gt h']; exact ih _ (by omega) (by omega)
theorem foldN_seal (t : Nat) : foldN (t + (65535 - foldN t)) = 65535 := by
  have h1 := foldN_bd t
  have h2 := foldN_mod t
  have h3 := foldN_bd (t + (65535 - foldN t))
  have h4 := foldN_mod (t + (65535 - foldN t))
  have h5 : 0 < foldN (t + (65535 - foldN t)) := by
    refine foldN_pos _ ?_
    by_cases h : t = 0
    · subst h; rw [foldN_le (by omega)]; omega
    · omega
  omega
theorem sumTo_congr (l m : List Int) : ∀ k, (∀ i, i < k → l.getD i 0 = m.getD i 0) → sumTo l k = sumTo m k
  | 0, _ => rfl
  | k + 1, h => by simp only [sumTo]; rw [sumTo_congr l m k (fun i hi => h i (by omega)), h k (by omega)]
theorem getD_set (l : List Int) (i j : Nat) (x : Int) (h : i < l.length) : (l.set i x).getD j 0 = if i = j then x else l.getD j 0 := by
  rw [List.getD_eq_getElem?_getD, List.getElem?_set]
  split
  · first | rfl | (rename_i e; subst e; rw [if_pos h]; rfl)
  · rw [List.getD_eq_getElem?_getD]
/-- two bytes at an even place count as one number -/
theorem sumTo_two (l : List Int) (A : Nat) (hA : A % 2 = 0) (x y : Nat) : ∀ k, A + 2 + k ≤ l.length →
    sumTo ((l.set A (x : Int)).set (A + 1) (y : Int)) (A + 2 + k) = sumTo ((l.set A 0).set (A + 1) 0) (A + 2 + k) + 256 * x + y
  | 0, h => by
    have e := sumTo_congr ((l.set A (x : Int)).set (A + 1) (y : Int)) ((l.set A 0).set (A + 1) 0) A (fun i hi => by
      rw [getD_set _ _ _ _ (by simp; omega), getD_set _ _ _ _ (by omega), getD_set _ _ _ _ (by simp; omega), getD_set _ _ _ _ (by omega), if_neg (by omega), if_neg (by omega), if_neg (by omega), if_neg (by omega)])
    simp only [Nat.add_zero]
    rw [show A + 2 = (A + 1) + 1 by omega]
    simp only [sumTo]
    rw [e, if_pos hA, if_pos hA, if_neg (by omega), if_neg (by omega)]
    simp only [getD_set _ (A + 1) _ _ (show A + 1 < (l.set A (x : Int)).length by simp; omega), getD_set _ (A + 1) _ _ (show A + 1 < (l.set A 0).length by simp; omega), getD_set l A _ _ (show A < l.length by omega)]
    simp
  | k + 1, h => by
    have ih := sumTo_two l A hA x y k (by omega)
    rw [show A + 2 + (k + 1) = (A + 2 + k) + 1 by omega]
    simp only [sumTo]
    rw [ih, getD_set _ _ _ _ (by simp; omega), getD_set _ _ _ _ (by omega), getD_set _ _ _ _ (by simp; omega), getD_set _ _ _ _ (by omega), if_neg (show ¬ A + 1 = A + 2 + k by omega), if_neg (show ¬ A = A + 2 + k by omega), if_neg (show ¬ A + 1 = A + 2 + k by omega), if_neg (show ¬ A = A + 2 + k by omega)]
    omega
theorem seal0_set (zs : List Int) (A : Nat) (x y : Int) : seal0 ((zs.set A x).set (A + 1) y) A = seal0 zs A := by
  unfold seal0
  rw [List.set_comm _ _ (show A + 1 ≠ A by omega), List.set_set, List.set_set]
theorem seal0_seal0 (zs : List Int) (A : Nat) : seal0 (seal0 zs A) A = seal0 zs A := seal0_set zs A 0 0
theorem seal0_sealB (zs : List Int) (A : Nat) : seal0 (sealB zs A) A = seal0 zs A := by
  unfold sealB
  rw [seal0_set, seal0_seal0]
theorem sealB_sealB (zs : List Int) (A : Nat) : sealB (sealB zs A) A = sealB zs A := by
  have h := seal0_sealB zs A
  have e : sealB (sealB zs A) A = ((seal0 (sealB zs A) A).set A (sumV (seal0 (sealB zs A) A) / 256)).set (A + 1) (sumV (seal0 (sealB zs A) A) % 256) := rfl
  rw [e, h]
  rfl
theorem sum_sealB (zs : List Int) (A : Nat) (hA : A % 2 = 0) (h : A + 2 ≤ zs.length) : sumV (sealB zs A) = 0 := by
  have hb := sumV_bd (seal0 zs A)
  obtain ⟨v, hv⟩ := Int.eq_ofNat_of_zero_le hb.1
  have hl : (seal0 zs A).length = zs.length := by simp [seal0]
  obtain ⟨k, hk⟩ : ∃ k, zs.length = A + 2 + k := ⟨zs.length - (A + 2), by omega⟩
  have e := sumTo_two (seal0 zs A) A hA (v / 256) (v % 256) k (by omega)
  have e2 : ((seal0 zs A).set A 0).set (A + 1) 0 = seal0 zs A := seal0_seal0 zs A
  rw [e2] at e
  have e3 : sealB zs A = ((seal0 zs A).set A ((v / 256 : Nat) : Int)).set (A + 1) ((v % 256 : Nat) : Int) := by
    unfold sealB
    rw [hv]
    rfl
  have e4 : (v : Int) = 65535 - foldN (sumTo (seal0 zs A) (A + 2 + k)) := by
    rw [← hv]; unfold sumV; rw [hl, hk]
  have hf := foldN_seal (sumTo (seal0 zs A) (A + 2 + k))
  have hfb := foldN_bd (sumTo (seal0 zs A) (A + 2 + k))
  have hv2 : v = 65535 - foldN (sumTo (seal0 zs A) (A + 2 + k)) := by omega
  unfold sumV
  rw [sealB_len, hk, e3, e]
  have : sumTo (seal0 zs A) (A + 2 + k) + 256 * (v / 256) + v % 256 = sumTo (seal0 zs A) (A + 2 + k) + (65535 - foldN (sumTo (seal0 zs A) (A + 2 + k))) := by omega
  rw [this, hf]
  rfl
theorem rdTo_snoc (l : List Int) (x : Int) (k : Nat) (h : k ≤ l.length) : rdTo (l ++ [x]) 0 k = rdTo l 0 k := by
  induction k with
  | zero => rfl
  | succ k ih =>
    simp only [rdTo, Nat.zero_add]
    rw [ih (by omega), List.getD_eq_getElem?_getD, List.getD_eq_getElem?_getD, List.getElem?_append_left (by omega)]
theorem rd_be : ∀ (S : Nat) (n : Int), 0 ≤ n → n < 256 ^ S → rdTo (be n S) 0 S = n
  | 0, n, h0, h1 => by simp at h1; simp only [rdTo]; omega
  | S + 1, n, h0, h1 => by
    have hp : (0 : Int) < 256 ^ S := Int.pow_pos (by omega)
    rw [Int.pow_succ] at h1
    have ih := rd_be S (n / 256) (by omega) (by omega)
    simp only [be, rdTo, Nat.zero_add]
    rw [rdTo_snoc _ _ _ (by rw [be_len]; exact Nat.le_refl _), ih, List.getD_eq_getElem?_getD, List.getElem?_append_right (by rw [be_len]; exact Nat.le_refl _), be_len]
    simp
    omega
theorem be_rd (zs : List Int) (h8 : B8 zs) (A : Nat) : ∀ S, A + S ≤ zs.length → be (rdTo zs A S) S = (zs.drop A).take S
  | 0, _ => rfl
  | S + 1, h => by
    have hb := b8_getD h8 (A + S)
    have e1 : (rdTo zs A S * 256 + zs.getD (A + S) 0) / 256 = rdTo zs A S := by omega
    have e2 : (rdTo zs A S * 256 + zs.getD (A + S) 0) % 256 = zs.getD (A + S) 0 := by omega
    simp only [be, rdTo]
    rw [e1, e2, be_rd zs h8 A S (by omega)]
    have hl : S < (zs.drop A).length := by simp; omega
    rw [List.take_succ_eq_append_getElem hl, List.getElem_drop, List.getD_eq_getElem?_getD, List.getElem?_eq_getElem (by omega)]
    rfl
end Go.Proofs.Ytgjkbaplfbiomaa

namespace Go.Proofs.Ytgjkbaplfbiomaa
open Go.ChangeShapes Go.WideShapes Go.ChangeAt Go.RowKit

theorem lwSame_t (a b : Option Addr) (la ca lb cb : Nat) (zs : List Int) (w : World) (ha : Rd w a la ca zs) (hb : Rd w b lb cb zs) :
    Calls Try.prog 29 #[.slice a la ca, .slice b lb cb] w fun e w' => e = .returned (.bool true) ∧ w = w' := by
  have h1 := conv_rd ha
  have h2 := conv_rd hb
  generalize strOfNums zs = t at *
  clear ha hb
  go_enter Try.func29, Try.ntmps29
  go_wp2
  go_ret
  exact ⟨rfl, rfl⟩

theorem mem10 {x a b c d e f g h i j lo hi : Int} (hx : x ∈ [a, b, c, d, e, f, g, h, i, j]) (k : lo ≤ a ∧ a ≤ hi ∧ lo ≤ b ∧ b ≤ hi ∧ lo ≤ c ∧ c ≤ hi ∧ lo ≤ d ∧ d ≤ hi ∧ lo ≤ e ∧ e ≤ hi ∧ lo ≤ f ∧ f ≤ hi ∧ lo ≤ g ∧ g ≤ hi ∧ lo ≤ h ∧ h ≤ hi ∧ lo ≤ i ∧ i ≤ hi ∧ lo ≤ j ∧ j ≤ hi) : lo ≤ x ∧ x ≤ hi := by
  simp only [List.mem_cons, List.not_mem_nil, or_false] at hx
  rcases hx with rfl | rfl | rfl | rfl | rfl | rfl | rfl | rfl | rfl | rfl <;> omega

/-- some bytes, and two numbers, were drawn -/
def BytesTwo (w : World) (e : Ending) (w' : World) : Prop := ∃ (a' : Option Addr) (l' c' : Nat) (ys : List Int) (x y : Int), e = .returned (.tuple #[.slice a' l' c', .int .i64 x, .int .i64 y]) ∧ Own w' w.heap.size a' l' c' ys ∧ l' ≤ 12 ∧ 0 ≤ y ∧ y ≤ 7 ∧ Below w.heap.size w w'

end Go.Proofs.Ytgjkbaplfbiomaa

namespace Go.Proofs.Ytgjkbaplfbiomaa
open Go.ChangeShapes Go.WideShapes Go.ChangeAt Go.RowKit

theorem pack_form (kf kt kp kl : Int) (zs : List Int) : ∃ l0 l1 s0 s1 f0 f1 f2 f3 t0 t1 t2 t3 : Int,
    packL kf kt kp kl zs = [69, 0, l0, l1, 0, 0, 64, 0, kl, kp, s0, s1, f0, f1, f2, f3, t0, t1, t2, t3] ++ zs ∧ be (20 + zs.length) 2 = [l0, l1] ∧ be kf 4 = [f0, f1, f2, f3] ∧ be kt 4 = [t0, t1, t2, t3] :=
  ⟨_, _, _, _, _, _, _, _, _, _, _, _, rfl, rfl, rfl, rfl⟩

/-- what ReadPacket asks of the bytes of a packet without a fault -/
theorem pack_back (kf kt kp kl : Int) (zs : List Int) (h : packC kf kt kp kl zs.length = 0) :
    (packL kf kt kp kl zs).length = 20 + zs.length ∧ (packL kf kt kp kl zs).getD 0 0 = 69 ∧ rdTo (packL kf kt kp kl zs) 2 2 = 20 + zs.length ∧ rdTo (packL kf kt kp kl zs) 6 2 = 16384 ∧
    sumV ((packL kf kt kp kl zs).take 20) = 0 ∧ (packL kf kt kp kl zs).getD 8 0 = kl ∧ (packL kf kt kp kl zs).getD 9 0 = kp ∧ rdTo (packL kf kt kp kl zs) 12 4 = kf ∧ rdTo (packL kf kt kp kl zs) 16 4 = kt ∧
    ((packL kf kt kp kl zs).take (20 + zs.length)).drop 20 = zs := by
  obtain ⟨h0, h1, h2, h3, h4⟩ := packC_parts h
  have hs : sumV ((packL kf kt kp kl zs).take 20) = 0 := by
    have e : (packL kf kt kp kl zs).take 20 = sealB (packH kf kt kp kl zs.length) 10 := by
      unfold packL
      rw [List.take_append_of_le_length (by rw [sealB_len, packH_len]; exact Nat.le_refl _), List.take_of_length_le (by rw [sealB_len, packH_len]; exact Nat.le_refl _)]
    rw [e]
    exact sum_sealB _ 10 rfl (by rw [packH_len]; omega)
  obtain ⟨l0, l1, s0, s1, f0, f1, f2, f3, t0, t1, t2, t3, hP, hl, hf, ht⟩ := pack_form kf kt kp kl zs
  have e1 := rd_be 2 (20 + zs.length) (by omega) (by simp only [Int.reducePow]; omega)
  have e2 := rd_be 4 kf h0.1 (by simp only [Int.reducePow]; omega)
  have e3 := rd_be 4 kt h1.1 (by simp only [Int.reducePow]; omega)
  rw [hl] at e1
  rw [hf] at e2
  rw [ht] at e3
  rw [hP] at hs ⊢
  refine ⟨by simp; omega, rfl, e1, rfl, hs, rfl, rfl, e2, e3, ?_⟩
  rw [List.take_of_length_le (by simp; omega)]
  rfl

/-- the sum where one byte is another one -/
theorem sumTo_set (l : List Int) (i : Nat) (y : Int) (hi : i < l.length) : ∀ k, i < k → sumTo (l.set i y) k + (if i % 2 = 0 then 256 else 1) * (l.getD i 0).toNat = sumTo l k + (if i % 2 = 0 then 256 else 1) * y.toNat
  | 0, h => absurd h (by omega)
  | k + 1, h => by
    by_cases hk : i < k
    · have ih := sumTo_set l i y hi k hk
      simp only [sumTo, getD_set l i k y hi, if_neg (show ¬ i = k by omega)]
      omega
    · obtain rfl : i = k := by omega
      have hc : sumTo (l.set i y) i = sumTo l i := sumTo_congr _ _ i (fun j hj => by rw [getD_set l i j y hi, if_neg (by omega)])
      simp only [sumTo, hc, getD_set l i i y hi, if_true]
      split <;> omega

theorem sum_zero_iff (l : List Int) : sumV l = 0 ↔ foldN (sumTo l l.length) = 65535 := by
  have := foldN_bd (sumTo l l.length)
  unfold sumV
  omega

/-- one bit turned: the byte is another one by a power of two below 256 -/
theorem sum_bit (l : List Int) (i : Nat) (y : Int) (d : Nat) (hi : i < l.length) (h8 : B8 l) (hy : 0 ≤ y) (hd : d = 1 ∨ d = 2 ∨ d = 4 ∨ d = 8 ∨ d = 16 ∨ d = 32 ∨ d = 64 ∨ d = 128) (hb : y = l.getD i 0 + d ∨ y + d = l.getD i 0) (hs : sumV l = 0) :
    ¬ sumV (l.set i y) = 0 := by
  rw [sum_zero_iff] at hs ⊢
  intro hs'
  rw [List.length_set] at hs'
  have hx := b8_getD h8 i
  have h1 := foldN_mod (sumTo l l.length)
  have h2 := foldN_mod (sumTo (l.set i y) l.length)
  rw [hs] at h1
  rw [hs'] at h2
  have h3 := sumTo_set l i y hi l.length hi
  generalize sumTo l l.length = s at *
  generalize sumTo (l.set i y) l.length = s' at *
  generalize l.getD i 0 = x at *
  obtain ⟨X, rfl⟩ := Int.eq_ofNat_of_zero_le hx.1
  obtain ⟨Y, rfl⟩ := Int.eq_ofNat_of_zero_le hy
  simp only [Int.toNat_natCast] at h3
  rcases hd with rfl | rfl | rfl | rfl | rfl | rfl | rfl | rfl <;> split at h3 <;> omega

theorem echo_form (er : Bool) (ei es : Int) (zs : List Int) : ∃ s0 s1 i0 i1 q0 q1 : Int,
    echoL er ei es zs = [if er then 0 else 8, 0, s0, s1, i0, i1, q0, q1] ++ zs ∧ be ei 2 = [i0, i1] ∧ be es 2 = [q0, q1] :=
  ⟨_, _, _, _, _, _, rfl, rfl, rfl⟩
/-- what ReadEcho asks of the bytes of an echo without a fault -/
theorem echo_back (er : Bool) (ei es : Int) (zs : List Int) (h : echoC ei es zs.length = 0) :
    (echoL er ei es zs).length = 8 + zs.length ∧ sumV (echoL er ei es zs) = 0 ∧ (echoL er ei es zs).getD 0 0 = (if er then 0 else 8) ∧ (echoL er ei es zs).getD 1 0 = 0 ∧
    rdTo (echoL er ei es zs) 4 2 = ei ∧ rdTo (echoL er ei es zs) 6 2 = es ∧ (echoL er ei es zs).drop 8 = zs := by
  obtain ⟨h0, h1, h2⟩ := echoC_parts h
  have hs : sumV (echoL er ei es zs) = 0 := by
    unfold echoL
    exact sum_sealB _ 2 rfl (by simp [be_len])
  have hl := echoL_len er ei es zs
  obtain ⟨s0, s1, i0, i1, q0, q1, hP, hi, hq⟩ := echo_form er ei es zs
  have e1 := rd_be 2 ei h0.1 (by simp only [Int.reducePow]; omega)
  have e2 := rd_be 2 es h1.1 (by simp only [Int.reducePow]; omega)
  rw [hi] at e1
  rw [hq] at e2
  rw [hP] at hs hl ⊢
  exact ⟨hl, hs, rfl, rfl, e1, e2, rfl⟩
end Go.Proofs.Ytgjkbaplfbiomaa

namespace Go.Proofs.Ytgjkbaplfbiomaa
open Go.ChangeShapes Go.WideShapes Go.ChangeAt Go.RowKit

set_option maxRecDepth 20000 in
theorem xor_bit : ∀ x : Fin 256, ∀ k : Fin 8, bits .xor .u8 (x.val : Int) (2 ^ k.val) = (x.val : Int) + 2 ^ k.val ∨ bits .xor .u8 (x.val : Int) (2 ^ k.val) + 2 ^ k.val = (x.val : Int) := by decide +kernel

set_option maxRecDepth 20000 in
set_option maxHeartbeats 1000000 in
theorem lwAt_any (i n : Nat) (a : Option Addr) (len cap : Nat) (zs : List Int) (w : World) (h : Rd w a len cap zs) (hi : i ≤ 100) (hn : 2 ≤ n) (hn2 : n ≤ 200) (hl : len ≤ 1048576) :
    Calls Try.prog 30 #[.slice a len cap, .int .i64 i, .int .i64 n] w fun e w' => ∃ r : Nat, e = .returned (.int .i64 r) ∧ r < n ∧ Below w.heap.size w w' := by
  have HR := Lib.hid h
  by_cases h2 : len = 0
  · subst h2
    clear h
    have k1 : 0 ≤ (i : Int) * 7 % n := Int.emod_nonneg _ (by omega)
    have k2 : (i : Int) * 7 % n < n := Int.emod_lt_of_pos _ (by omega)
    go_enter Try.func30, Try.ntmps30
    go_wp2
    go_ret
    refine ⟨((i : Int) * 7 % n).toNat, ret_i (by omega), by omega, Below.refl _ _⟩
  · rcases h.cells with h0 | ⟨bb, off, rfl, hc⟩
    · exact absurd h0 h2
    have hp : (0 : Int) < len := by omega
    have hne : ((len : Int) == 0) = false := by simp; omega
    have m1 : (0 : Int) ≤ (i : Int) % len := Int.emod_nonneg _ (by omega)
    have m2 : (i : Int) % len < len := Int.emod_lt_of_pos _ hp
    have m3 : ((i : Int) % len).toNat = i % len := by rw [← Int.natCast_emod]; exact Int.toNat_natCast _
    have hcm := hc (i % len) (Nat.mod_lt _ (by omega))
    have hbd := h.getD_bd (i % len)
    generalize zs.getD (i % len) 0 = x at *
    clear hc h
    go_enter Try.func30, Try.ntmps30
    go_wp2
    go_quiet (fail)
    obtain ⟨v, hv, hv1, hv2⟩ : ∃ v, wrap64 (x + wrap64 (wrap64 ((i : Int) / len) * 3)) = v ∧ 0 ≤ v ∧ v ≤ 1000 := by
      have d1 : 0 ≤ (i : Int) / len := Int.ediv_nonneg (by omega) (by omega)
      have d2 : (i : Int) / len ≤ i := Int.ediv_le_self _ (by omega)
      refine ⟨x + (i : Int) / len * 3, ?_, by omega, by omega⟩
      rw [IntWalk.wrap64_in ((i : Int) / len) (by omega), IntWalk.wrap64_in ((i : Int) / len * 3) (by omega), IntWalk.wrap64_in _ (by omega)]
    rw [hv]
    have B2 := Lib.hid (belowN (Below.refl w.heap.size w) nq)
    generalize w.drewN nq = W2 at *
    clear hv hcm m1 m2 m3 hbd
    have k1 : 0 ≤ v % n := Int.emod_nonneg _ (by omega)
    have k2 : v % n < n := Int.emod_lt_of_pos _ (by omega)
    go_wp2
    go_ret
    exact ⟨(v % n).toNat, ret_i (by omega), by omega, B2.out⟩
end Go.Proofs.Ytgjkbaplfbiomaa

namespace Go.Proofs.Ytgjkbaplfbiomaa
open Go.ChangeShapes Go.WideShapes Go.ChangeAt Go.RowKit

theorem rpAns_pack (kf kt kp kl : Int) (zs : List Int) (h : packC kf kt kp kl zs.length = 0) : rpAns (packL kf kt kp kl zs) = ⟨0, kf, kt, kp, kl, zs⟩ := by
  obtain ⟨b1, b2, b3, b4, b5, b6, b7, b8, b9, b10⟩ := pack_back kf kt kp kl zs h
  obtain ⟨_, _, _, hk, hn⟩ := packC_parts h
  unfold rpAns
  rw [if_neg (by rw [b1]; simp [rpLen]; omega), if_neg (by rw [b1, b2, b3, b4]; simp [plB, cutB]; omega), if_neg (by simp [b5]), if_neg (by rw [b6]; omega), b3, b6, b7, b8, b9]
  have : ((20 : Int) + zs.length).toNat = 20 + zs.length := by omega
  rw [this, b10]
theorem reAns_pack (er : Bool) (ei es : Int) (zs : List Int) (h : echoC ei es zs.length = 0) : reAns (echoL er ei es zs) = ⟨0, er, ei, es, zs⟩ := by
  obtain ⟨b1, b2, b3, b4, b5, b6, b7⟩ := echo_back er ei es zs h
  obtain ⟨_, _, hn⟩ := echoC_parts h
  unfold reAns
  rw [if_neg (by rw [b1]; simp [reLen]; omega), if_neg (by simp [b2]), if_neg (by rw [b3, b4]; cases er <;> simp [reForm]), b3, b5, b6, b7]
  cases er <;> rfl
theorem reAns_rest (zs : List Int) (h : (reAns zs).c = 0) : (reAns zs).rs.length = zs.length - 8 ∧ 8 ≤ zs.length := by
  unfold reAns at h ⊢
  split at h
  · simp [reNo] at h
  rename_i h1
  rw [if_neg h1]
  split at h
  · simp [reNo] at h
  rename_i h2
  rw [if_neg h2]
  split at h
  · simp [reNo] at h
  rename_i h3
  rw [if_neg h3]
  have := reLen_bd h1
  exact ⟨by simp, by omega⟩
theorem rpAns_sum (zs : List Int) (h : (rpAns zs).c = 0) : sumV (zs.take 20) = 0 := by
  unfold rpAns at h
  split at h
  · simp [rpNo] at h
  split at h
  · simp [rpNo] at h
  split at h
  · simp [rpNo] at h
  rename_i h3
  exact Decidable.of_not_not h3
theorem xor_int (x : Int) (k : Nat) (hx : 0 ≤ x ∧ x ≤ 255) (hk : k < 8) : bits .xor .u8 x (2 ^ k) = x + 2 ^ k ∨ bits .xor .u8 x (2 ^ k) + 2 ^ k = x := by
  have := xor_bit ⟨x.toNat, by omega⟩ ⟨k, hk⟩
  simp only at this
  rwa [show ((x.toNat : Nat) : Int) = x by omega] at this
theorem bit_told (L : List Int) (i k : Nat) (hi : i < 20) (hk : k < 8) (h8 : B8 L) (hlen : 20 ≤ L.length) (hs : sumV (L.take 20) = 0) : ¬ (rpAns (L.set i (bits .xor .u8 (L.getD i 0) (2 ^ k)))).c = 0 := by
  intro hc
  have h1 := rpAns_sum _ hc
  have hb := b8_getD h8 i
  have hx := xor_int (L.getD i 0) k hb hk
  have hw := bits_within .xor .u8 (L.getD i 0) (2 ^ k)
  rw [List.take_set] at h1
  refine sum_bit (L.take 20) i _ (2 ^ k) (by simp; omega) (b8_take h8 20) hw.1 ?_ ?_ hs h1
  · obtain rfl | rfl | rfl | rfl | rfl | rfl | rfl | rfl : k = 0 ∨ k = 1 ∨ k = 2 ∨ k = 3 ∨ k = 4 ∨ k = 5 ∨ k = 6 ∨ k = 7 := by omega
    all_goals simp
  · have : (L.take 20).getD i 0 = L.getD i 0 := by rw [List.getD_eq_getElem?_getD, List.getD_eq_getElem?_getD, List.getElem?_take, if_pos hi]
    rw [this]
    simpa using hx
end Go.Proofs.Ytgjkbaplfbiomaa
