/-
  Contracts of the program's readers of heads and parties, whose addresses are arrays in a struct.
  The exact law of PseudoHead, where model and program answer the same.
  PseudoHead of the program and its law; withPseudoHead.
  SealSum of the model, and of the program, answer by one and the same function.
  withPseudoHead, packWithoutSum and PackDatagram of the program, and the law of PackDatagram.
  ReadDatagram of the model.
  Numbers alone: what has its sum is summed; numbers are read back from their bytes.
  ReadDatagram of the model in one closed form; what is packed is read back.
  Contracts of the program's parties of a question or an answer of addresses, and of the head of one.
  Contracts of the program's FrameFault and ArpFault.
  PackFrame of the program.
  PackArp of the model, and the law FnExactPackArp where the program's PackArp answers so.
  The law FnExactPackArp returns true, where the program's PackArp answers as the model's does.
  PackArp of the program.
  ReadFrame of the program.
  isSumRight, datagramIn and ReadDatagram of the program, and the law of ReadDatagram.
-/
import Derived.Test.YteaiemckcepphaaMA
import Derived.Test.YteaiemckcepphaaMB
import Derived.WalkSpells
import Derived.Deep.RegionLaw
import Derived.Deep.RegionWith
import Derived.Laws.CopyOwn
import Derived.Deep.DeepCutAuto
namespace Go.Proofs.Yteaiemckcepphaa
open Go.ChangeShapes Go.WideShapes Go.ChangeAt Go.RowKit

/-- a whole struct loaded out of its block -/
theorem loadBox_list (w : World) {ops : Array Oper} {rest : List Oper} {o : Oper} {ac : Act} {Q : Exit → Act → World → Prop} (hgd : o.guard = none) (ty : TypeId) (x : Operand)
    (ho : o.op = .load ty x) (b : Nat) (t : TypeId) (vs : Array Value) (hx : Box w b t vs) (ex : ac.eval x = .pointer (some ⟨b, 0, none⟩)) (d : TypeDesc) (hd : (match d with | .struct _ | .array _ _ => true | _ => false) = true) (hu : Try.prog.underlying ty = some d)
    (hi : (Try.prog.info? ty).map (·.size) = some vs.size)
    (h : wpList Try.prog ops Q rest (ac.put o.dst (.agg vs)) w) : wpList Try.prog ops Q (o :: rest) ac w := by
  refine wpList_plain hgd fun K hK => ?_
  have hrun := run_loadVar_row (P := Try.prog) w b t ty vs (0, 0) d hx hu (by cases d <;> first | rfl | exact hd) hi
  unfold Oper.wp execOp
  simp only [ho, ex, Instr.loadAt, Instr.sureAddr, Sem.run_bind, Sem.run_pure, Result.andThen_ok, hrun]
  exact hK _ _ h

end Go.Proofs.Yteaiemckcepphaa

namespace Go.Proofs.Yteaiemckcepphaa
open Go.ChangeShapes Go.WideShapes Go.ChangeAt Go.RowKit

end Go.Proofs.Yteaiemckcepphaa

namespace Go.Proofs.Yteaiemckcepphaa
open Go.ChangeShapes Go.WideShapes Go.ChangeAt Go.RowKit

set_option maxRecDepth 20000 in
set_option maxHeartbeats 4000000 in
theorem implPseudoHead (f t p n : Int) (w : World) :
    Calls Try.prog 96 #[.int .i64 f, .int .i64 t, .int .i64 p, .int .i64 n] w (Packed w (phC f t p n) (phP f t p n)) := by
  obtain ⟨q, hq⟩ : ∃ q, q = (inB f 0 4294967295 && inB t 0 4294967295 && inB p 0 255 && inB n 0 65535) := ⟨_, rfl⟩
  obtain ⟨C, hC⟩ : ∃ C, C = phC f t p n := ⟨_, rfl⟩
  obtain ⟨L, hL⟩ : ∃ L, L = phP f t p n := ⟨_, rfl⟩
  rw [← hC, ← hL]
  have HP : Hid ((q = true → (0 ≤ f ∧ f < 4294967296) ∧ (0 ≤ t ∧ t < 4294967296) ∧ (0 ≤ p ∧ p ≤ 255) ∧ (0 ≤ n ∧ n < 65536) ∧ C = 0 ∧ L = pseudoL f t p n) ∧ (q = false → C = 3 ∧ L = [])) := by
    have e : phB f t p n = q := by rw [hq]; rfl
    refine ⟨fun h => ?_, fun h => ?_⟩
    · obtain ⟨h0, h1, h2, h3⟩ := phB_parts (e.trans h)
      exact ⟨h0, h1, h2, h3, by rw [hC, phC, if_pos (e.trans h)], by rw [hL, phP, if_pos (e.trans h)]⟩
    · have h' : ¬ phB f t p n = true := by rw [e, h]; simp
      exact ⟨by rw [hC, phC, if_neg h'], by rw [hL, phP, if_neg h']⟩
  have HQ := Lib.hid hq
  clear hq hC hL
  have B0 := Lib.hid ((((Below.refl w.heap.size w).alloc (Nat.le_refl _) (.cells #[.int .i64 0, .slice none 0 0] 29)).alloc (by simp) (.cells #[.int .i64 p, .int .i64 0, .int .i64 255] 73)).alloc (by simp; omega) (.cells #[.int .i64 n, .int .i64 0, .int .i64 65535] 73))
  have R0 := Lib.hid (((Box.new w 29 #[.int .i64 0, .slice none 0 0]).alloc (.cells #[.int .i64 p, .int .i64 0, .int .i64 255] 73)).alloc (.cells #[.int .i64 n, .int .i64 0, .int .i64 65535] 73))
  have X1 := Lib.hid ((Box.new (w.alloc (.cells #[.int .i64 0, .slice none 0 0] 29)) 73 #[.int .i64 p, .int .i64 0, .int .i64 255]).alloc (.cells #[.int .i64 n, .int .i64 0, .int .i64 65535] 73))
  have X2 := Lib.hid (Box.new ((w.alloc (.cells #[.int .i64 0, .slice none 0 0] 29)).alloc (.cells #[.int .i64 p, .int .i64 0, .int .i64 255] 73)) 73 #[.int .i64 n, .int .i64 0, .int .i64 65535])
  simp only [World.size_alloc] at X1 X2
  go_enter Try.func96, Try.ntmps96
  go_wp2_with fail
  obtain ⟨n0, hn0⟩ : ∃ n0, n0 = w.heap.size := ⟨_, rfl⟩
  generalize (((w.alloc (.cells #[.int .i64 0, .slice none 0 0] 29)).alloc (.cells #[.int .i64 p, .int .i64 0, .int .i64 255] 73)).alloc (.cells #[.int .i64 n, .int .i64 0, .int .i64 65535] 73)) = W0 at *
  have SS := Lib.hid (show ∀ W, Hid (Below W0.heap.size W0 W) → W.cell? ⟨w.heap.size + 1, 0, none⟩ = some (.int .i64 p) ∧ W.cell? ⟨w.heap.size + 1, 1, none⟩ = some (.int .i64 0) ∧ W.cell? ⟨w.heap.size + 1, 2, none⟩ = some (.int .i64 255) ∧ W.cell? ⟨w.heap.size + 1 + 1, 0, none⟩ = some (.int .i64 n) ∧ W.cell? ⟨w.heap.size + 1 + 1, 1, none⟩ = some (.int .i64 0) ∧ W.cell? ⟨w.heap.size + 1 + 1, 2, none⟩ = some (.int .i64 65535) ∧ Hid (Below W0.heap.size W0 W) from fun W h => by
    obtain ⟨_, x0, x1, x2⟩ := (X1.out.below h.out X1.out.lt).three
    obtain ⟨_, y0, y1, y2⟩ := (X2.out.below h.out X2.out.lt).three
    exact ⟨x0, x1, x2, y0, y1, y2, h⟩)
  have T1 := Lib.hid (Below.refl W0.heap.size W0)
  have hnn := Lib.hid hn0
  have hn0 : n0 ≤ W0.heap.size := by rw [hnn.out]; exact B0.out.size
  have TD := kDrew T1
  refine wp_region_held_drew (S := fun W => W.cell? ⟨w.heap.size + 1, 0, none⟩ = some (.int .i64 p) ∧ W.cell? ⟨w.heap.size + 1, 1, none⟩ = some (.int .i64 0) ∧ W.cell? ⟨w.heap.size + 1, 2, none⟩ = some (.int .i64 255) ∧ W.cell? ⟨w.heap.size + 1 + 1, 0, none⟩ = some (.int .i64 n) ∧ W.cell? ⟨w.heap.size + 1 + 1, 1, none⟩ = some (.int .i64 0) ∧ W.cell? ⟨w.heap.size + 1 + 1, 2, none⟩ = some (.int .i64 65535) ∧ Hid (Below W0.heap.size W0 W)) (by kernel_rfl) (SS.out _ TD) (fun hHeld => ?_)
  refine wpAnyH_take (i := 0) (v := ?_) (by simp only [List.getElem?_toArray, List.getElem?_cons_zero]; exact rfl) (by kernel_rfl) (by kernel_rfl) (by kernel_rfl) (by exact fun _ _ _ h => h) (Or.inl ⟨by rfl, ?_⟩) hHeld ?_
  rotate_left
  · intro w' hSw
    obtain ⟨s0, s1, s2, s3, s4, s5, _⟩ := hSw
    go_simp
    try with_reducible rfl
  try simp only [Act.put, List.setIfInBounds_toArray, List.set_cons_zero, List.set_cons_succ]
  refine wpAnyH_take (i := 2) (v := ?_) (by simp only [List.getElem?_toArray, List.getElem?_cons_zero, List.getElem?_cons_succ]; exact rfl) (by kernel_rfl) (by kernel_rfl) (by kernel_rfl) (by exact fun _ _ _ h => h) (Or.inl ⟨by rfl, ?_⟩) hHeld ?_
  rotate_left
  · intro w' hSw
    obtain ⟨s0, s1, s2, s3, s4, s5, _⟩ := hSw
    go_simp
    try with_reducible rfl
  try simp only [Act.put, List.setIfInBounds_toArray, List.set_cons_zero, List.set_cons_succ]
  refine wpAnyH_take (i := 4) (v := ?_) (by simp only [List.getElem?_toArray, List.getElem?_cons_zero, List.getElem?_cons_succ]; exact rfl) (by kernel_rfl) (by kernel_rfl) (by kernel_rfl) (by exact fun _ _ _ h => h) (Or.inl ⟨by rfl, ?_⟩) hHeld ?_
  rotate_left
  · intro w' hSw
    obtain ⟨s0, s1, s2, s3, s4, s5, _⟩ := hSw
    go_simp
    try with_reducible rfl
  try simp only [Act.put, List.setIfInBounds_toArray, List.set_cons_zero, List.set_cons_succ]
  refine wpAnyH_take (i := 5) (v := ?_) (by simp only [List.getElem?_toArray, List.getElem?_cons_zero, List.getElem?_cons_succ]; exact rfl) (by kernel_rfl) (by kernel_rfl) (by kernel_rfl) (by exact fun _ _ _ h => h) (Or.inl ⟨by rfl, ?_⟩) hHeld ?_
  rotate_left
  · intro w' hSw
    obtain ⟨s0, s1, s2, s3, s4, s5, _⟩ := hSw
    go_simp
    try with_reducible rfl
  try simp only [Act.put, List.setIfInBounds_toArray, List.set_cons_zero, List.set_cons_succ]
  refine flow_go (Inv := fun listed ac W => ∃ v16 v18 v21 v22 v23 : Value, ac = { tmps := #[.int .i64 f, .int .i64 t, .int .i64 p, .int .i64 n, undef, undef, undef, undef, .pointer (some ⟨w.heap.size, 0, none⟩), .pointer (some ⟨w.heap.size + 1, 0, none⟩), .pointer (some ⟨w.heap.size + 1 + 1, 0, none⟩), .int .i64 p, .agg #[.int .i64 p, .int .i64 0, .int .i64 255], .int .i64 n, .agg #[.int .i64 n, .int .i64 0, .int .i64 65535], .int .i64 f, v16, .int .i64 t, v18, .agg #[.int .i64 p, .int .i64 0, .int .i64 255], .agg #[.int .i64 n, .int .i64 0, .int .i64 65535], v21, v22, v23, undef, undef, undef, undef, undef, undef, undef, undef, undef, undef, undef, undef, undef, undef, undef, undef], defers := [] } ∧ Hid (Below W0.heap.size W0 W) ∧ Fl listed 1 (EqV v16 (.agg #[.int .i64 f, .int .i64 0, .int .i64 4294967295])) ∧ Fl listed 3 (EqV v18 (.agg #[.int .i64 t, .int .i64 0, .int .i64 4294967295])) ∧ Fl listed 6 (BdV W v21 4 #[.int .i64 f, .int .i64 0, .int .i64 4294967295, .int .i64 t, .int .i64 0, .int .i64 4294967295, .int .i64 p, .int .i64 0, .int .i64 255, .int .i64 n, .int .i64 0, .int .i64 65535]) ∧ Fl listed 7 (EqV v22 (.bool q)) ∧ Fl listed 8 (EqV v23 (.bool (!q)))) [1, 3, 6, 7, 8] (by kernel_rfl) (by kernel_rfl) ⟨_, _, _, _, _, rfl, TD, Fl.not (by kernel_rfl), Fl.not (by kernel_rfl), Fl.not (by kernel_rfl), Fl.not (by kernel_rfl), Fl.not (by kernel_rfl)⟩
    (FlowAll.cons [] (by simp only [List.getElem?_toArray, List.getElem?_cons_zero, List.getElem?_cons_succ]; exact rfl) (by kernel_rfl) (fun listed ac W hI hu hd K hK => ?_)
      (FlowAll.cons [] (by simp only [List.getElem?_toArray, List.getElem?_cons_zero, List.getElem?_cons_succ]; exact rfl) (by kernel_rfl) (fun listed ac W hI hu hd K hK => ?_)
      (FlowAll.cons [1, 3] (by simp only [List.getElem?_toArray, List.getElem?_cons_zero, List.getElem?_cons_succ]; exact rfl) (by kernel_rfl) (fun listed ac W hI hu hd K hK => ?_)
      (FlowAll.cons [6] (by simp only [List.getElem?_toArray, List.getElem?_cons_zero, List.getElem?_cons_succ]; exact rfl) (by kernel_rfl) (fun listed ac W hI hu hd K hK => ?_)
      (FlowAll.cons [7] (by simp only [List.getElem?_toArray, List.getElem?_cons_zero, List.getElem?_cons_succ]; exact rfl) (by kernel_rfl) (fun listed ac W hI hu hd K hK => ?_)
      FlowAll.nil)))))
    (fun listed ac W hI hall => ?_)
  · obtain ⟨v16, v18, v21, v22, v23, rfl, TB, f1, f3, f6, f7, f8⟩ := hI
    have hnW : n0 ≤ W.heap.size := Nat.le_trans hn0 (kSize TB)
    refine want_none (by exact rfl) ?_
    go_wp2_with fail
    refine (ipBound_any f _).mono ?_
    rintro e w' ⟨rfl, hb0⟩
    go_wp2_with fail
    have hb : Below W.heap.size W _ := hb0
    have TB' := kCall hb (kSize TB) TB
    refine hK.out _ _ (SS.out _ TB') ?_
    exact ⟨_, _, _, _, _, rfl, TB', Fl.new (EqV.rfl _), f3.keep (by decide) (keepE hb), f6.keep (by decide) (BdV.below hb), f7.keep (by decide) (keepE hb), f8.keep (by decide) (keepE hb)⟩
  · obtain ⟨v16, v18, v21, v22, v23, rfl, TB, f1, f3, f6, f7, f8⟩ := hI
    have hnW : n0 ≤ W.heap.size := Nat.le_trans hn0 (kSize TB)
    refine want_none (by exact rfl) ?_
    go_wp2_with fail
    refine (ipBound_any t _).mono ?_
    rintro e w' ⟨rfl, hb0⟩
    go_wp2_with fail
    have hb : Below W.heap.size W _ := hb0
    have TB' := kCall hb (kSize TB) TB
    refine hK.out _ _ (SS.out _ TB') ?_
    exact ⟨_, _, _, _, _, rfl, TB', f1.keep (by decide) (keepE hb), Fl.new (EqV.rfl _), f6.keep (by decide) (BdV.below hb), f7.keep (by decide) (keepE hb), f8.keep (by decide) (keepE hb)⟩
  · obtain ⟨v16, v18, v21, v22, v23, rfl, TB, f1, f3, f6, f7, f8⟩ := hI
    have hnW : n0 ≤ W.heap.size := Nat.le_trans hn0 (kSize TB)
    obtain ⟨rfl⟩ := f1.get (hd 1 (by simp))
    obtain ⟨rfl⟩ := f3.get (hd 3 (by simp))
    refine want_none (by exact rfl) ?_
    go_wp2_with fail
    have hb : Below W.heap.size W _ := bAlloc W (.cells #[.int .i64 f, .int .i64 0, .int .i64 4294967295, .int .i64 t, .int .i64 0, .int .i64 4294967295, .int .i64 p, .int .i64 0, .int .i64 255, .int .i64 n, .int .i64 0, .int .i64 65535] 73)
    have TB' := kCall hb (kSize TB) TB
    refine hK.out _ _ (SS.out _ TB') ?_
    exact ⟨_, _, _, _, _, rfl, TB', f1.keep (by decide) (keepE hb), f3.keep (by decide) (keepE hb), Fl.new (BdV.new _ _ _), f7.keep (by decide) (keepE hb), f8.keep (by decide) (keepE hb)⟩
  · obtain ⟨v16, v18, v21, v22, v23, rfl, TB, f1, f3, f6, f7, f8⟩ := hI
    have hnW : n0 ≤ W.heap.size := Nat.le_trans hn0 (kSize TB)
    obtain ⟨g, rfl, xG⟩ := f6.get (hd 6 (by simp))
    refine want_none (by exact rfl) ?_
    go_wp2_with fail
    refine (within4 g _ f 0 4294967295 t 0 4294967295 p 0 255 n 0 65535 _ xG).mono ?_
    rintro e w' ⟨rfl, hb0⟩
    rw [← HQ.out]
    go_wp2_with fail
    have hb : Below W.heap.size W _ := hb0
    have TB' := kCall hb (kSize TB) TB
    refine hK.out _ _ (SS.out _ TB') ?_
    exact ⟨_, _, _, _, _, rfl, TB', f1.keep (by decide) (keepE hb), f3.keep (by decide) (keepE hb), f6.keep (by decide) (BdV.below hb), Fl.new (EqV.rfl _), f8.keep (by decide) (keepE hb)⟩
  · obtain ⟨v16, v18, v21, v22, v23, rfl, TB, f1, f3, f6, f7, f8⟩ := hI
    have hnW : n0 ≤ W.heap.size := Nat.le_trans hn0 (kSize TB)
    obtain ⟨rfl⟩ := f7.get (hd 7 (by simp))
    refine want_none (by exact rfl) ?_
    go_wp2_with fail
    refine hK.out _ _ (SS.out _ TB) ?_
    exact ⟨_, _, _, _, _, rfl, TB, f1.keep (by decide) id, f3.keep (by decide) id, f6.keep (by decide) id, f7.keep (by decide) id, Fl.new (EqV.rfl _)⟩
  · obtain ⟨v16, v18, v21, v22, v23, rfl, TB, f1, f3, f6, f7, f8⟩ := hI
    have hnW : n0 ≤ W.heap.size := Nat.le_trans hn0 (kSize TB)
    obtain ⟨rfl⟩ := f8.get (hall 8 (by decide))
    have B2 := Lib.hid (B0.out.trans (TB.out.mono B0.out.size))
    have R2 := Lib.hid (R0.out.below TB.out R0.out.lt)
    clear f1 f3 f6 f7 f8 TB hall SS X1 X2 T1
    cases q
    · obtain ⟨_, r0, r1⟩ := R2.out.two
      have f0 := R2.out.frozen 0
      have f1 := R2.out.frozen 1
      obtain ⟨rfl, rfl⟩ := HP.out.2 rfl
      go_wp2
      exact bodyPost_ret (v := .agg #[.int .i64 3, .slice none 0 0]) (by simp [results, Try.results96, go_sem, r0, r1]) rfl ⟨none, 0, 0, rfl, Own.nil _ _, (B2.out.setCell (by simp) _).setCell (by simp) _⟩
    obtain ⟨h0, h1, h2, h3, rfl, e1⟩ := HP.out.1 rfl
    have HL := Lib.hid (show L = be f 4 ++ (be t 4 ++ ([0, p] ++ be n 2)) by rw [e1]; simp [pseudoL])
    have K0 := Lib.hid (show ∀ W, Calls Try.prog 59 #[.int .i64 f, .int .i64 4] W (Packed W 0 (be f 4)) from fun W => implPack_ok f 4 W h0.1 (by omega) (by simp only [Int.reducePow]; omega))
    have K1 := Lib.hid (show ∀ W, Calls Try.prog 59 #[.int .i64 t, .int .i64 4] W (Packed W 0 (be t 4)) from fun W => implPack_ok t 4 W h1.1 (by omega) (by simp only [Int.reducePow]; omega))
    have K2 := Lib.hid (show ∀ W, Calls Try.prog 59 #[.int .i64 n, .int .i64 2] W (Packed W 0 (be n 2)) from fun W => implPack_ok n 2 W h3.1 (by omega) (by simp only [Int.reducePow]; omega))
    have u1 := u8_in p h2
    have hfb := fld_br
    have h8 : Hid (B8 [0, p]) := by intro m hm; simp at hm; omega
    clear e1 h0 h1 h2 h3 HP HQ
    go_wp2_with fail
    refine (K0.out _).mono ?_
    rintro e w3 ⟨a3, l3, c3, rfl, o3, b3⟩
    obtain rfl : l3 = 4 := o3.length.symm.trans (be_len 4 _)
    have R3 := Lib.hid (R2.out.below b3 R2.out.lt)
    have B3 := Lib.hid (B2.out.trans (b3.mono B2.out.size))
    have O3 := Lib.hid o3.rd
    clear b3 o3 R2 B2
    go_wp2_with fail
    refine (K1.out _).mono ?_
    rintro e w4 ⟨a4, l4, c4, rfl, o4, b4⟩
    obtain rfl : l4 = 4 := o4.length.symm.trans (be_len 4 _)
    have R4 := Lib.hid (R3.out.below b4 R3.out.lt)
    have B4 := Lib.hid (B3.out.trans (b4.mono B3.out.size))
    replace O3 := Lib.hid (O3.out.below b4)
    have O4 := Lib.hid o4.rd
    clear b4 o4 R3 B3
    go_wp2_with fail
    have R4' := Lib.hid (R4.out.alloc (.cells #[.int .u8 0, .int .u8 p] 5))
    have B4' := Lib.hid (B4.out.alloc B4.out.size (.cells #[.int .u8 0, .int .u8 p] 5))
    replace O3 := Lib.hid (O3.out.alloc (.cells #[.int .u8 0, .int .u8 p] 5))
    replace O4 := Lib.hid (O4.out.alloc (.cells #[.int .u8 0, .int .u8 p] 5))
    have O5 : Hid (Rd _ _ 2 2 [0, p]) := Rd.of_box (off := 0) (Box.new w4 5 #[.int .u8 0, .int .u8 p]) rfl (by unfold maxLen; omega) h8.out (fun i hi => by match i, hi with | 0, _ => rfl | 1, _ => rfl)
    generalize hW4 : w4.alloc (.cells #[.int .u8 0, .int .u8 p] 5) = W4 at *
    clear R4 B4 hW4
    refine (K2.out _).mono ?_
    rintro e w6 ⟨a6, l6, c6, rfl, o6, b6⟩
    obtain rfl : l6 = 2 := o6.length.symm.trans (be_len 2 _)
    have R6 := Lib.hid (R4'.out.below b6 R4'.out.lt)
    have B6 := Lib.hid (B4'.out.trans (b6.mono B4'.out.size))
    replace O3 := Lib.hid (O3.out.below b6)
    replace O4 := Lib.hid (O4.out.below b6)
    replace O5 := Lib.hid (O5.out.below b6)
    have O6 := Lib.hid o6.rd
    clear b6 o6 R4' B4'
    go_wp2_with fail
    refine (concat4 _ _ _ _ _ _ _ _ _ _ _ _ _ _ _ _ _ _ _ (Box.new _ _ _) (O3.out.alloc _) (O4.out.alloc _) (O5.out.alloc _) (O6.out.alloc _) (by omega)).mono ?_
    rintro e w7 ⟨a7, l7, c7, rfl, o7, b7⟩
    have R7 := (R6.out.alloc _).below b7 (R6.out.alloc _).lt
    obtain ⟨r0, r1, r2⟩ := R7.two
    have f0 := R7.frozen 0
    have f1 := R7.frozen 1
    have hs6 := B6.out.size
    have hr6 := R6.out.lt
    have B7 := Lib.hid ((B6.out.alloc hs6 (.cells _ 22)).trans (b7.mono (by simp; omega)))
    have hn : Hid (∀ x, a7 = some x → ¬ x.block = w.heap.size) := fun x hx e => by
      have := (o7.lt x hx).1
      simp at this
      omega
    have O7 : Hid (Own w7 w.heap.size a7 l7 c7 L) := by rw [HL.out]; exact o7.rebase (by simp; omega)
    clear o7 b7 O3 O4 O5 O6 R6 B6 R7 hs6 hr6
    go_wp2
    refine bodyPost_ret (v := .agg #[.int .i64 0, .slice a7 l7 c7]) (by simp [results, Try.results96, go_sem, r1, r2]) rfl ⟨_, _, _, rfl, ?_, (B7.out.setCell (by simp) _).setCell (by simp) _⟩
    exact (O7.out.setOther _ _ hn.out).setOther _ _ hn.out

end Go.Proofs.Yteaiemckcepphaa

namespace Go.Proofs.Yteaiemckcepphaa
open Go.ChangeShapes Go.WideShapes Go.ChangeAt Go.RowKit

theorem packed_code {w : World} {o : Obj} {c : Int} {e : Ending} (he : e = .returned (.agg #[.int .i64 c, .slice none 0 0])) : Packed w c [] e (w.alloc o) :=
  ⟨none, 0, 0, he, Own.nil _ _, (Below.refl _ _).alloc (Nat.le_refl _) _⟩

theorem below_grown {w w' : World} {B : Nat} {row : Option Nat} (hg : w.grownBy w' row) (hB : B ≤ w.heap.size) (hr : ∀ k, row = some k → B ≤ k) : Below B w w' := (Below.refl B w).grown hg hB hr

theorem field_ir (w : World) (c v : Int) : (Instr.field 46 (.agg #[.int .i64 c, .int .i64 v]) 1).run Try.prog w = .ok (.int .i64 v) w := by
  simp [Instr.field, asAgg, go_sem]
theorem field_br (w : World) (c : Int) (a : Option Addr) (l k : Nat) : (Instr.field 29 (.agg #[.int .i64 c, .slice a l k]) 1).run Try.prog w = .ok (.slice a l k) w := by
  simp [Instr.field, asAgg, go_sem]

theorem splice_cons (a : Int) (r : List Int) (A : Nat) (cs : List Int) : splice (a :: r) (A + 1) cs = a :: splice r A cs := by
  unfold splice
  rw [show A + 1 + cs.length = (A + cs.length) + 1 by omega]
  rfl
theorem set2_splice : ∀ (A : Nat) (L : List Int) (x y : Int), A + 2 ≤ L.length → (L.set A x).set (A + 1) y = splice L A [x, y]
  | _, [], _, _, h => absurd h (by simp)
  | 0, [_], _, _, h => absurd h (by simp)
  | 0, _ :: _ :: _, _, _, _ => rfl
  | A + 1, a :: r, x, y, h => by
    rw [splice_cons, ← set2_splice A r x y (by simpa using h)]
    rfl
theorem be2 (v : Int) (h : 0 ≤ v ∧ v ≤ 65535) : be v 2 = [v / 256, v % 256] := by
  have : v / 256 % 256 = v / 256 := by omega
  simp [be, this]
theorem sealB_splice (zs : List Int) (A : Nat) (h : A + 2 ≤ zs.length) : sealB zs A = splice (seal0 zs A) A (be (sumV (seal0 zs A)) 2) := by
  rw [be2 _ (sumV_bd _)]
  exact set2_splice _ _ _ _ (by simp [seal0]; omega)

end Go.Proofs.Yteaiemckcepphaa

namespace Go.Proofs.Yteaiemckcepphaa
open Go.ChangeShapes Go.WideShapes Go.ChangeAt Go.RowKit

set_option maxRecDepth 20000 in
set_option maxHeartbeats 1000000 in
theorem withHead_any (f t p : Int) (a : Option Addr) (len cap : Nat) (zs : List Int) (w : World) (hr : Rd w a len cap zs) (hp : phB f t p len = true) (hl : len ≤ 1000) :
    Calls Try.prog 58 #[.int .i64 f, .int .i64 t, .int .i64 p, .slice a len cap] w (FreshA w (pseudoL f t p zs.length ++ zs)) := by
  have K := Lib.hid (fun W => implPseudoHead f t p len W)
  rw [phC, phP, if_pos hp, if_pos hp] at K
  rw [hr.length]
  have HL := Lib.hid (pseudoL_len f t p len)
  generalize pseudoL f t p len = L at *
  have HR := Lib.hid hr
  have hfb := fld_br
  clear hr hp
  go_enter Try.func58, Try.ntmps58
  go_wp2_with fail
  refine (K.out _).mono ?_
  rintro e w1 ⟨a1, l1, c1, rfl, o1, b1⟩
  obtain rfl : l1 = 12 := o1.length.symm.trans HL.out
  have O1 := Lib.hid o1.rd
  have B1 := Lib.hid b1
  clear o1 b1
  go_wp2_with fail
  refine (concat2 _ _ _ _ _ _ _ _ _ _ _ (Box.new _ _ _) (O1.out.alloc _) ((HR.out.below B1.out).alloc _) (by omega)).mono ?_
  rintro e w2 ⟨a2, l2, c2, rfl, o2, b2⟩
  have B2 := Lib.hid ((B1.out.alloc B1.out.size _).trans (b2.mono (B1.out.alloc B1.out.size _).size))
  have O2 := Lib.hid (o2.rebase (show w.heap.size ≤ _ from by have := B1.out.size; simp; omega))
  clear o2 b2 O1 B1
  go_wp2
  go_ret
  exact ⟨_, _, _, rfl, O2.out, B2.out⟩

theorem dgL_splice (f t df dt : Int) (zs : List Int) (v : Int) (hv : v = dgT (dgSum f t 17 (dgH df dt zs))) (hb : 0 ≤ v ∧ v ≤ 65535) : dgL f t df dt zs = splice (dgH df dt zs) 6 (be v 2) := by
  rw [be2 v hb, hv]
  exact set2_splice 6 _ _ _ (by rw [dgH_len]; omega)
end Go.Proofs.Yteaiemckcepphaa

namespace Go.Proofs.Yteaiemckcepphaa
open Go.ChangeShapes Go.WideShapes Go.ChangeAt Go.RowKit

def dlOk (n : Nat) : Bool := decide (8 ≤ n ∧ n ≤ 560)
theorem l1Read_lit' (a : Option Addr) (len cap A S : Nat) (x y : Int) (zs : List Int) (w : World) (h : Rd w a len cap zs) (hx : (A : Int) = x) (hy : (S : Int) = y) (hS2 : S ≤ 6) (hA : A + S ≤ len) :
    Calls Try.prog 106 #[.slice a len cap, .int .i64 x, .int .i64 y] w fun e w' => e = .returned (.int .i64 (rdTo zs A S)) ∧ w = w' := by
  subst hx hy
  exact l1Read_any a len cap A S zs w h hS2 hA
/-- what is answered behind the fault of what was read -/
def RdOr (w : World) (c m1 m2 : Int) (ys : List Int) (e : Ending) (w' : World) : Prop := (c = 0 → DatagramRes w 0 m1 m2 ys e w') ∧ (c ≠ 0 → DatagramRes w 3 0 0 [] e w')
theorem rd_tail8' {W : World} {ba off : Nat} {zs : List Int} (h : Rd W (some ⟨ba, off, none⟩) 8 8 zs) : Rd W (some ⟨ba, off, none⟩) 0 0 (zs.drop 8) := by
  have := h.fromIf 8 (by omega)
  simpa using this

end Go.Proofs.Yteaiemckcepphaa

namespace Go.Proofs.Yteaiemckcepphaa
open Go.ChangeShapes Go.WideShapes Go.ChangeAt Go.RowKit

theorem foldN_mod (n : Nat) : foldN n % 65535 = n % 65535 := by
  induction n using Nat.strongRecOn with
  | _ n ih =>
    by_cases h : n ≤ 65535
    · rw [foldN_le h]
    · rw [foldN_gt h, ih _ (by omega)]
      omega
theorem foldN_pos (n : Nat) (h : 0 < n) : 0 < foldN n := by
  induction n using Nat.strongRecOn with
  | _ n ih =>
    by_cases h' : n ≤ 65535
    · rw [foldN_le h']; exact h
    · rw [foldN_gt h']; exact ih _ (by omega) (by omega)
theorem foldN_seal (t : Nat) : foldN (t + (65535 - foldN t)) = 65535 := by
  have h1 := foldN_bd t
  have h2 := foldN_mod t
  have h3 := foldN_bd (t + (65535 - foldN t))
  have h4 := foldN_mod (t + (65535 - foldN t))
  have h5 : 0 < foldN (t + (65535 - foldN t)) := by
    refine foldN_pos _ ?_
    by_cases h : t = 0
    · subst h; rw [foldN_le (by omega)]; omega
    · omega
  omega
theorem sumTo_congr (l m : List Int) : ∀ k, (∀ i, i < k → l.getD i 0 = m.getD i 0) → sumTo l k = sumTo m k
  | 0, _ => rfl
  | k + 1, h => by simp only [sumTo]; rw [sumTo_congr l m k (fun i hi => h i (by omega)), h k (by omega)]
theorem getD_set (l : List Int) (i j : Nat) (x : Int) (h : i < l.length) : (l.set i x).getD j 0 = if i = j then x else l.getD j 0 := by
  rw [List.getD_eq_getElem?_getD, List.getElem?_set]
  split
  · first | rfl | (rename_i e; subst e; rw [if_pos h]; rfl)
  · rw [List.getD_eq_getElem?_getD]
/-- two bytes at an even place count as one number -/
theorem sumTo_two (l : List Int) (A : Nat) (hA : A % 2 = 0) (x y : Nat) : ∀ k, A + 2 + k ≤ l.length →
    sumTo ((l.set A (x : Int)).set (A + 1) (y : Int)) (A + 2 + k) = sumTo ((l.set A 0).set (A + 1) 0) (A + 2 + k) + 256 * x + y
  | 0, h => by
    have e := sumTo_congr ((l.set A (x : Int)).set (A + 1) (y : Int)) ((l.set A 0).set (A + 1) 0) A (fun i hi => by
      rw [getD_set _ _ _ _ (by simp; omega), getD_set _ _ _ _ (by omega), getD_set _ _ _ _ (by simp; omega), getD_set _ _ _ _ (by omega), if_neg (by omega), if_neg (by omega), if_neg (by omega), if_neg (by omega)])
    simp only [Nat.add_zero]
    rw [show A + 2 = (A + 1) + 1 by omega]
    simp only [sumTo]
    rw [e, if_pos hA, if_pos hA, if_neg (by omega), if_neg (by omega)]
    simp only [getD_set _ (A + 1) _ _ (show A + 1 < (l.set A (x : Int)).length by simp; omega), getD_set _ (A + 1) _ _ (show A + 1 < (l.set A 0).length by simp; omega), getD_set l A _ _ (show A < l.length by omega)]
    simp
  | k + 1, h => by
    have ih := sumTo_two l A hA x y k (by omega)
    rw [show A + 2 + (k + 1) = (A + 2 + k) + 1 by omega]
    simp only [sumTo]
    rw [ih, getD_set _ _ _ _ (by simp; omega), getD_set _ _ _ _ (by omega), getD_set _ _ _ _ (by simp; omega), getD_set _ _ _ _ (by omega), if_neg (show ¬ A + 1 = A + 2 + k by omega), if_neg (show ¬ A = A + 2 + k by omega), if_neg (show ¬ A + 1 = A + 2 + k by omega), if_neg (show ¬ A = A + 2 + k by omega)]
    omega
theorem seal0_set (zs : List Int) (A : Nat) (x y : Int) : seal0 ((zs.set A x).set (A + 1) y) A = seal0 zs A := by
  unfold seal0
  rw [List.set_comm _ _ (show A + 1 ≠ A by omega), List.set_set, List.set_set]
theorem seal0_seal0 (zs : List Int) (A : Nat) : seal0 (seal0 zs A) A = seal0 zs A := seal0_set zs A 0 0
theorem seal0_sealB (zs : List Int) (A : Nat) : seal0 (sealB zs A) A = seal0 zs A := by
  unfold sealB
  rw [seal0_set, seal0_seal0]
theorem sealB_sealB (zs : List Int) (A : Nat) : sealB (sealB zs A) A = sealB zs A := by
  have h := seal0_sealB zs A
  have e : sealB (sealB zs A) A = ((seal0 (sealB zs A) A).set A (sumV (seal0 (sealB zs A) A) / 256)).set (A + 1) (sumV (seal0 (sealB zs A) A) % 256) := rfl
  rw [e, h]
  rfl
theorem sum_sealB (zs : List Int) (A : Nat) (hA : A % 2 = 0) (h : A + 2 ≤ zs.length) : sumV (sealB zs A) = 0 := by
  have hb := sumV_bd (seal0 zs A)
  obtain ⟨v, hv⟩ := Int.eq_ofNat_of_zero_le hb.1
  have hl : (seal0 zs A).length = zs.length := by simp [seal0]
  obtain ⟨k, hk⟩ : ∃ k, zs.length = A + 2 + k := ⟨zs.length - (A + 2), by omega⟩
  have e := sumTo_two (seal0 zs A) A hA (v / 256) (v % 256) k (by omega)
  have e2 : ((seal0 zs A).set A 0).set (A + 1) 0 = seal0 zs A := seal0_seal0 zs A
  rw [e2] at e
  have e3 : sealB zs A = ((seal0 zs A).set A ((v / 256 : Nat) : Int)).set (A + 1) ((v % 256 : Nat) : Int) := by
    unfold sealB
    rw [hv]
    rfl
  have e4 : (v : Int) = 65535 - foldN (sumTo (seal0 zs A) (A + 2 + k)) := by
    rw [← hv]; unfold sumV; rw [hl, hk]
  have hf := foldN_seal (sumTo (seal0 zs A) (A + 2 + k))
  have hfb := foldN_bd (sumTo (seal0 zs A) (A + 2 + k))
  have hv2 : v = 65535 - foldN (sumTo (seal0 zs A) (A + 2 + k)) := by omega
  unfold sumV
  rw [sealB_len, hk, e3, e]
  have : sumTo (seal0 zs A) (A + 2 + k) + 256 * (v / 256) + v % 256 = sumTo (seal0 zs A) (A + 2 + k) + (65535 - foldN (sumTo (seal0 zs A) (A + 2 + k))) := by omega
  rw [this, hf]
  rfl
theorem rdTo_snoc (l : List Int) (x : Int) (k : Nat) (h : k ≤ l.length) : rdTo (l ++ [x]) 0 k = rdTo l 0 k := by
  induction k with
  | zero => rfl
  | succ k ih =>
    simp only [rdTo, Nat.zero_add]
    rw [ih (by omega), List.getD_eq_getElem?_getD, List.getD_eq_getElem?_getD, List.getElem?_append_left (by omega)]
theorem rd_be : ∀ (S : Nat) (n : Int), 0 ≤ n → n < 256 ^ S → rdTo (be n S) 0 S = n
  | 0, n, h0, h1 => by simp at h1; simp only [rdTo]; omega
  | S + 1, n, h0, h1 => by
    have hp : (0 : Int) < 256 ^ S := Int.pow_pos (by omega)
    rw [Int.pow_succ] at h1
    have ih := rd_be S (n / 256) (by omega) (by omega)
    simp only [be, rdTo, Nat.zero_add]
    rw [rdTo_snoc _ _ _ (by rw [be_len]; exact Nat.le_refl _), ih, List.getD_eq_getElem?_getD, List.getElem?_append_right (by rw [be_len]; exact Nat.le_refl _), be_len]
    simp
    omega
theorem be_rd (zs : List Int) (h8 : B8 zs) (A : Nat) : ∀ S, A + S ≤ zs.length → be (rdTo zs A S) S = (zs.drop A).take S
  | 0, _ => rfl
  | S + 1, h => by
    have hb := b8_getD h8 (A + S)
    have e1 : (rdTo zs A S * 256 + zs.getD (A + S) 0) / 256 = rdTo zs A S := by omega
    have e2 : (rdTo zs A S * 256 + zs.getD (A + S) 0) % 256 = zs.getD (A + S) 0 := by omega
    simp only [be, rdTo]
    rw [e1, e2, be_rd zs h8 A S (by omega)]
    have hl : S < (zs.drop A).length := by simp; omega
    rw [List.take_succ_eq_append_getElem hl, List.getElem_drop, List.getD_eq_getElem?_getD, List.getElem?_eq_getElem (by omega)]
    rfl
end Go.Proofs.Yteaiemckcepphaa

namespace Go.Proofs.Yteaiemckcepphaa
open Go.ChangeShapes Go.WideShapes Go.ChangeAt Go.RowKit

/-- what ReadDatagram answers -/
structure RgA where
  c : Int
  f : Int
  t : Int
  rs : List Int
def rgNo (c : Int) : RgA := ⟨c, 0, 0, []⟩
def rgAns (f t : Int) (zs : List Int) : RgA :=
  if (ipB f && ipB t) = false then rgNo 3
  else if dlOk zs.length = false then rgNo 2
  else if ¬ rdTo zs 4 2 = zs.length then rgNo 1
  else if ¬ rdTo zs 6 2 = 0 ∧ ¬ dgSum f t 17 zs = 0 then rgNo 6
  else if ¬ dgC (rdTo zs 0 2) (rdTo zs 2 2) (zs.length - 8) = 0 then rgNo 3
  else ⟨0, rdTo zs 0 2, rdTo zs 2 2, zs.drop 8⟩
def RgRes (w : World) (r : RgA) (e : Ending) (w' : World) : Prop := DatagramRes w r.c r.f r.t r.rs e w'
theorem dlOk_bd {n : Nat} (h : ¬ dlOk n = false) : 8 ≤ n ∧ n ≤ 560 := by
  have h' : dlOk n = true := by simpa using h
  exact of_decide_eq_true h'
theorem rgAns_len (f t : Int) (zs : List Int) : (rgAns f t zs).rs.length ≤ 700 := by
  unfold rgAns
  split
  · exact Nat.zero_le _
  split
  · exact Nat.zero_le _
  rename_i h1
  have := dlOk_bd h1
  split
  · exact Nat.zero_le _
  split
  · exact Nat.zero_le _
  split
  · exact Nat.zero_le _
  · simp only [List.length_drop]; omega
theorem ip_two {f t : Int} (h : ¬ (ipB f && ipB t) = false) : ipB f = true ∧ ipB t = true := by
  have h' : (ipB f && ipB t) = true := by simpa using h
  simpa [Bool.and_eq_true] using h'

end Go.Proofs.Yteaiemckcepphaa

namespace Go.Proofs.Yteaiemckcepphaa
open Go.ChangeShapes Go.WideShapes Go.ChangeAt Go.RowKit

theorem own_lit2 (w : World) (base : Nat) (x y : Int) (hx : 0 ≤ x ∧ x ≤ 255) (hy : 0 ≤ y ∧ y ≤ 255) (hb : base ≤ w.heap.size) : Own (w.alloc (.cells #[.int .u8 x, .int .u8 y] 5)) base (some ⟨w.heap.size, 0, none⟩) 2 2 [x, y] :=
  ⟨World.ownsRow_lit w #[.int .u8 x, .int .u8 y] 2 hb (by unfold maxLen; omega) rfl, by intro n hn; simp at hn; omega⟩

end Go.Proofs.Yteaiemckcepphaa

namespace Go.Proofs.Yteaiemckcepphaa
open Go.ChangeShapes Go.WideShapes Go.ChangeAt Go.RowKit

end Go.Proofs.Yteaiemckcepphaa

namespace Go.Proofs.Yteaiemckcepphaa
open Go.ChangeShapes Go.WideShapes Go.ChangeAt Go.RowKit

theorem box_after {W w' : World} {vs : Array Value} {t : TypeId} (hb : Below (W.alloc (.cells vs t)).heap.size (W.alloc (.cells vs t)) w') : Box w' W.heap.size t vs := (Box.new W t vs).below hb (Box.new W t vs).lt

theorem Box.c14 {w : World} {b : Nat} {t : TypeId} {x0 x1 x2 x3 x4 x5 x6 x7 x8 x9 x10 x11 x12 x13 : Value} (h : Box w b t #[x0, x1, x2, x3, x4, x5, x6, x7, x8, x9, x10, x11, x12, x13]) : w.cell? ⟨b, 0, none⟩ = some x0 ∧ w.cell? ⟨b, 1, none⟩ = some x1 ∧ w.cell? ⟨b, 2, none⟩ = some x2 ∧ w.cell? ⟨b, 3, none⟩ = some x3 ∧ w.cell? ⟨b, 4, none⟩ = some x4 ∧ w.cell? ⟨b, 5, none⟩ = some x5 ∧ w.cell? ⟨b, 6, none⟩ = some x6 ∧ w.cell? ⟨b, 7, none⟩ = some x7 ∧ w.cell? ⟨b, 8, none⟩ = some x8 ∧ w.cell? ⟨b, 9, none⟩ = some x9 ∧ w.cell? ⟨b, 10, none⟩ = some x10 ∧ w.cell? ⟨b, 11, none⟩ = some x11 ∧ w.cell? ⟨b, 12, none⟩ = some x12 ∧ w.cell? ⟨b, 13, none⟩ = some x13 := ⟨h.cell 0, h.cell 1, h.cell 2, h.cell 3, h.cell 4, h.cell 5, h.cell 6, h.cell 7, h.cell 8, h.cell 9, h.cell 10, h.cell 11, h.cell 12, h.cell 13⟩
theorem be6 (n : Int) : ∃ y0 y1 y2 y3 y4 y5, be n 6 = [y0, y1, y2, y3, y4, y5] := ⟨_, _, _, _, _, _, rfl⟩

theorem frameC_kd {tq fr kd : Int} {n : Nat} (h : frameC tq fr kd n = 0) : 0 ≤ kd ∧ kd < 65536 := by
  unfold frameC at h
  split at h
  · rename_i hk
    simp only [frameB, inB, Bool.and_eq_true, decide_eq_true_eq] at hk
    omega
  · omega

end Go.Proofs.Yteaiemckcepphaa

namespace Go.Proofs.Yteaiemckcepphaa
open Go.ChangeShapes Go.WideShapes Go.ChangeAt Go.RowKit

def arpP (op fm fi tm ti : Int) : List Int := if arpB op fm fi tm ti then arpL op fm fi tm ti else []
theorem arpL_len (op fm fi tm ti : Int) : (arpL op fm fi tm ti).length = 28 := by simp [arpL, be_len]
theorem arpP_len (op fm fi tm ti : Int) : (arpP op fm fi tm ti).length ≤ 28 := by
  unfold arpP
  split
  · rw [arpL_len]; exact Nat.le_refl _
  · simp
theorem arpB_parts {op fm fi tm ti : Int} (h : arpB op fm fi tm ti = true) : (0 ≤ op ∧ op < 281474976710656) ∧ (0 ≤ fm ∧ fm < 281474976710656) ∧ (0 ≤ fi ∧ fi < 281474976710656) ∧ (0 ≤ tm ∧ tm < 281474976710656) ∧ (0 ≤ ti ∧ ti < 281474976710656) := by
  simp only [arpB, macB, ipB, inB, Bool.and_eq_true, decide_eq_true_eq] at h
  omega

end Go.Proofs.Yteaiemckcepphaa

namespace Go.Proofs.Yteaiemckcepphaa
open Go.ChangeShapes Go.WideShapes Go.ChangeAt Go.RowKit

end Go.Proofs.Yteaiemckcepphaa

namespace Go.Proofs.Yteaiemckcepphaa
open Go.ChangeShapes Go.WideShapes Go.ChangeAt Go.RowKit

/-- these blocks hold just these cells -/
def Bs (l : List (Nat × TypeId × Array Value)) (W : World) : Prop := ∀ x ∈ l, Box W x.1 x.2.1 x.2.2
theorem bsCall {l : List (Nat × TypeId × Array Value)} {W w' : World} (hb : Below W.heap.size W w') (h : Hid (Bs l W)) : Hid (Bs l w') := fun x hx => (h.out x hx).below hb (h.out x hx).lt
theorem bsAlloc {l : List (Nat × TypeId × Array Value)} {W : World} {o : Obj} (h : Hid (Bs l W)) : Hid (Bs l (W.alloc o)) := fun x hx => (h.out x hx).alloc o
theorem bsDrew {l : List (Nat × TypeId × Array Value)} {W : World} (h : Hid (Bs l W)) : Hid (Bs l W.drew) := fun x hx => h.out x hx
theorem bsSet {l : List (Nat × TypeId × Array Value)} {W : World} {p : Addr} {u : Value} (hp : ∀ x ∈ l, x.1 ≠ p.block) (h : Hid (Bs l W)) : Hid (Bs l (W.setCell p u)) := fun x hx => (h.out x hx).grown (grown_setCell W p u) (by have := hp x hx; simpa using this)
theorem be4 (n : Int) : ∃ y0 y1 y2 y3, be n 4 = [y0, y1, y2, y3] := ⟨_, _, _, _, rfl⟩
theorem b8_4 {y0 y1 y2 y3 : Int} {n : Int} {k : Nat} (h : be n k = [y0, y1, y2, y3]) : B8 [y0, y1, y2, y3] := by rw [← h]; exact b8_be k n
theorem arpB_ip {op fm fi tm ti : Int} (h : arpB op fm fi tm ti = true) : (0 ≤ op ∧ op < 65536) ∧ (0 ≤ fi ∧ fi < 4294967296) ∧ (0 ≤ ti ∧ ti < 4294967296) := by
  simp only [arpB, macB, ipB, inB, Bool.and_eq_true, decide_eq_true_eq] at h
  omega

end Go.Proofs.Yteaiemckcepphaa

namespace Go.Proofs.Yteaiemckcepphaa
open Go.ChangeShapes Go.WideShapes Go.ChangeAt Go.RowKit

theorem rdTo_take (zs : List Int) (A n : Nat) : ∀ k, A + k ≤ n → rdTo (zs.take n) A k = rdTo zs A k
  | 0, _ => rfl
  | k + 1, h => by
    simp only [rdTo]
    rw [rdTo_take zs A n k (by omega), List.getD_eq_getElem?_getD, List.getD_eq_getElem?_getD, List.getElem?_take, if_pos (by omega)]
theorem rdTo_drop (zs : List Int) (A n : Nat) : ∀ k, rdTo (zs.drop n) A k = rdTo zs (n + A) k
  | 0 => rfl
  | k + 1 => by
    simp only [rdTo]
    rw [rdTo_drop zs A n k, List.getD_eq_getElem?_getD, List.getD_eq_getElem?_getD, List.getElem?_drop, Nat.add_assoc]

set_option maxHeartbeats 1000000 in
theorem bclone_any (a : Option Addr) (len cap : Nat) (zs : List Int) (w : World) (h : Rd w a len cap zs) (hl : len ≤ 1048576) :
    Calls Try.prog 102 #[.slice a len cap] w (Fresh w len zs) := by
  cases a with
  | none =>
    obtain ⟨rfl, rfl⟩ := h.nil rfl
    have hz := Lib.hid (List.length_eq_zero_iff.1 h.length)
    clear h
    have q := Lib.run_eql_slice_nil (P := Try.prog) w 22 5 none 0 0 0 0 Try.underlying22
    go_enter Try.func102, Try.ntmps102
    go_wp2
    go_ret
    exact ⟨none, 0, rfl, by rw [hz.out]; exact Own.nil _ _, Below.refl _ _⟩
  | some x =>
    have o0 := own_lit w w.heap.size (Nat.le_refl _)
    have r0 := h.alloc (.cells #[] 5)
    have q := Lib.run_eql_slice_nil (P := Try.prog) w 22 5 (some x) len cap 0 0 Try.underlying22
    go_enter Try.func102, Try.ntmps102
    go_wp2_with (at_builtin; refine append_bytes _ rfl (.tmp 5) (.tmp 6) rfl w.heap.size _ _ _ [] rfl o0 (some x) len cap zs rfl r0 (by simp) (by omega) ?_; intro a' c' w' ho hg)
    go_ret
    refine ⟨a', c', by simp [Array.getD], by simpa using ho, ?_⟩
    exact ((Below.refl _ _).alloc (Nat.le_refl _) _).grown hg (by simp) (fun k e => by simp [Value.ownBlock] at e; omega)

theorem take6 (zs : List Int) (n : Nat) (h : n + 6 ≤ zs.length) : ∃ y0 y1 y2 y3 y4 y5, (zs.drop n).take 6 = [y0, y1, y2, y3, y4, y5] := by
  have hl : ((zs.drop n).take 6).length = 6 := by simp; omega
  match h' : (zs.drop n).take 6, hl with
  | [y0, y1, y2, y3, y4, y5], _ => exact ⟨y0, y1, y2, y3, y4, y5, rfl⟩

end Go.Proofs.Yteaiemckcepphaa

namespace Go.Proofs.Yteaiemckcepphaa
open Go.ChangeShapes Go.WideShapes Go.ChangeAt Go.RowKit

theorem readWord_l4 (a : Option Addr) (len cap A S : Nat) (x y v : Int) (zs : List Int) (w : World) (h : Rd w a len cap zs) (hx : (A : Int) = x) (hy : (S : Int) = y) (hS1 : 1 ≤ S) (hS2 : S ≤ 6) (hA : A + S ≤ len) (hv : rdTo zs A S = v) :
    Calls Try.prog 101 #[.slice a len cap, .int .i64 x, .int .i64 y] w fun e w' => e = .returned (.agg #[.int .i64 0, .int .i64 v]) ∧ Below w.heap.size w w' := by
  subst hx hy hv
  exact implRead_ok a len cap A S zs w h hS1 hS2 hA
theorem isSummed_l4 (a : Option Addr) (len cap : Nat) (zs : List Int) (b : Bool) (w : World) (h : Rd w a len cap zs) (hl : len ≤ 700) (hb : decide (sumV zs = 0) = b) :
    Calls Try.prog 69 #[.slice a len cap] w fun e w' => e = .returned (.bool b) ∧ Below w.heap.size w w' := by
  have := implIs a len cap zs w h
  rw [isS, h.length, decide_eq_true hl, Bool.true_and, hb] at this
  exact this
theorem Box.four' {w : World} {b : Nat} {t : TypeId} {x0 x1 x2 x3 : Value} (h : Box w b t #[x0, x1, x2, x3]) : b < w.heap.size ∧ w.cell? ⟨b, 0, none⟩ = some x0 ∧ w.cell? ⟨b, 1, none⟩ = some x1 ∧ w.cell? ⟨b, 2, none⟩ = some x2 ∧ w.cell? ⟨b, 3, none⟩ = some x3 := ⟨h.lt, h.cell 0, h.cell 1, h.cell 2, h.cell 3⟩

theorem dgC_three (m1 m2 : Int) (n : Nat) (h : n ≤ 552) (hn : ¬ dgC m1 m2 n = 0) : dgC m1 m2 n = 3 := by
  unfold dgC at hn ⊢
  by_cases hb : dgB m1 m2 = true
  · rw [if_pos hb, if_pos h] at hn; exact absurd rfl hn
  · rw [if_neg hb]
theorem rg_ip {f t : Int} {zs : List Int} (h0 : (ipB f && ipB t) = false) : rgAns f t zs = rgNo 3 := by unfold rgAns; rw [if_pos h0]
theorem rg_len {f t : Int} {zs : List Int} (h0 : (ipB f && ipB t) = true) (h1 : dlOk zs.length = false) : rgAns f t zs = rgNo 2 := by unfold rgAns; rw [if_neg (by rw [h0]; simp), if_pos h1]
theorem rg_form {f t : Int} {zs : List Int} (h0 : (ipB f && ipB t) = true) (h1 : dlOk zs.length = true) (h2 : ¬ rdTo zs 4 2 = zs.length) : rgAns f t zs = rgNo 1 := by unfold rgAns; rw [if_neg (by rw [h0]; simp), if_neg (by rw [h1]; simp), if_pos h2]
theorem rg_sum {f t : Int} {zs : List Int} (h0 : (ipB f && ipB t) = true) (h1 : dlOk zs.length = true) (h2 : rdTo zs 4 2 = zs.length) (h3 : ((rdTo zs 6 2 == 0) || decide (dgSum f t 17 zs = 0)) = false) : rgAns f t zs = rgNo 6 := by
  simp only [Bool.or_eq_false_iff, beq_eq_false_iff_ne, decide_eq_false_iff_not, ne_eq] at h3
  unfold rgAns; rw [if_neg (by rw [h0]; simp), if_neg (by rw [h1]; simp), if_neg (by simpa using h2), if_pos h3]
theorem rg_fin {f t : Int} {zs : List Int} (h0 : (ipB f && ipB t) = true) (h1 : dlOk zs.length = true) (h2 : rdTo zs 4 2 = zs.length) (h3 : ((rdTo zs 6 2 == 0) || decide (dgSum f t 17 zs = 0)) = true) : rgAns f t zs = if ¬ dgC (rdTo zs 0 2) (rdTo zs 2 2) (zs.length - 8) = 0 then rgNo 3 else ⟨0, rdTo zs 0 2, rdTo zs 2 2, zs.drop 8⟩ := by
  simp only [Bool.or_eq_true, beq_iff_eq, decide_eq_true_eq] at h3
  unfold rgAns; rw [if_neg (by rw [h0]; simp), if_neg (by rw [h1]; simp), if_neg (by simpa using h2), if_neg (fun k => by rcases h3 with h' | h'; exact k.1 h'; exact k.2 h')]

end Go.Proofs.Yteaiemckcepphaa
