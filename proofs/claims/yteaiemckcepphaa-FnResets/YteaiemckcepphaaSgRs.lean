/-
  The law FnResets, where the program answers as it should.
-/
import Derived.Test.YteaiemckcepphaaSgM
import Derived.Test.YteaiemckcepphaaSgG
import Derived.Test.YteaiemckcepphaaMD
import Derived.Deep.DeepCutAuto
namespace Go.Proofs.Yteaiemckcepphaa
open Go.ChangeShapes Go.WideShapes Go.ChangeAt Go.RowKit

theorem fld_rs0 (w : World) (c f t s k g v m : Int) (a : Option Addr) (n p : Nat) : (Instr.field 34 (.agg #[.int .i64 c, .int .i64 f, .int .i64 t, .int .i64 s, .int .i64 k, .int .i64 g, .int .i64 v, .int .i64 m, .slice a n p]) 0).run Try.prog w = .ok (.int .i64 c) w := by
  simp [Instr.field, asAgg, go_sem]
theorem rf_eight (x : Sg) (n : Nat) (h : (rfAns x n).c = 8) : hfB x.g 4 = true := by
  unfold rfAns at h
  by_cases h1 : sgC x n = 0
  · rw [if_neg (by simpa using h1)] at h
    have hg := (sgN_parts (sgC_parts h1).1).2.2.2.2.1
    cases h2 : flB x.g 4
    · rw [h2] at h; simp at h
    · unfold hfB; rw [h2, in_t hg]; rfl
  · rw [if_pos h1] at h
    simp only [rsNo] at h
    unfold sgC at h
    split at h
    · split at h
      · omega
      · split at h <;> omega
    · omega
theorem want_not {o : Oper} {y : Nat → Option Bool} {A B : Prop} (h : Region.wanted o y = false) (hB : B) : if Region.wanted o y = true then A else B := by
  rw [h]
  exact hB
theorem fld_i1 (w : World) (c v : Int) : (Instr.field 46 (.agg #[.int .i64 c, .int .i64 v]) 1).run Try.prog w = .ok (.int .i64 v) w := by
  simp [Instr.field, asAgg, go_sem]

set_option maxRecDepth 100000 in
set_option maxHeartbeats 8000000 in
theorem resets_law (a : Option Addr) (len cap : Nat) (zs : List Int) (w : World) (hr : Rd w a len cap zs)
    (iReset : ∀ (x : Sg) (a : Option Addr) (len cap : Nat) (w : World), Calls Try.prog 27 #[.agg #[.int .i64 x.f, .int .i64 x.t, .int .i64 x.s, .int .i64 x.a, .int .i64 x.g, .int .i64 x.w, .int .i64 x.m, .slice a len cap]] w (RsRes w (rfAns x len)))
    (iSize : ∀ (x : Sg) (a : Option Addr) (len cap : Nat) (w : World), Calls Try.prog 28 #[.agg #[.int .i64 x.f, .int .i64 x.t, .int .i64 x.s, .int .i64 x.a, .int .i64 x.g, .int .i64 x.w, .int .i64 x.m, .slice a len cap]] w fun e w' => e = .returned (.agg #[.int .i64 (sgC x len), .int .i64 (if sgC x len = 0 then sgZ x.g len else 0)]) ∧ Below w.heap.size w w')
    (iFlag : ∀ (x : Sg) (a : Option Addr) (len cap : Nat) (k : Int) (w : World), Calls Try.prog 32 #[.agg #[.int .i64 x.f, .int .i64 x.t, .int .i64 x.s, .int .i64 x.a, .int .i64 x.g, .int .i64 x.w, .int .i64 x.m, .slice a len cap], .int .i64 k] w fun e w' => e = .returned (.bool (hfB x.g k)) ∧ Below w.heap.size w w')
    (iFault : ∀ (x : Sg) (a : Option Addr) (len cap : Nat) (w : World), Calls Try.prog 21 #[.agg #[.int .i64 x.f, .int .i64 x.t, .int .i64 x.s, .int .i64 x.a, .int .i64 x.g, .int .i64 x.w, .int .i64 x.m, .slice a len cap]] w fun e w' => e = .returned (.int .i64 (sgC x len)) ∧ Below w.heap.size w w')
    (iAdd : ∀ (s n : Int) (w : World), (0 ≤ s ∧ s < 4294967296) → (-4294967296 ≤ n ∧ n ≤ 4294967296) → Calls Try.prog 34 #[.int .i64 s, .int .i64 n] w fun e w' => e = .returned (.agg #[.int .i64 0, .int .i64 ((s + n) % 4294967296)]) ∧ Below w.heap.size w w') :
    Calls Try.prog 4 #[.slice a len cap] w fun e w' => e = .returned (.bool true) ∧ Below w.heap.size w w' := by
  by_cases hl : len ≤ 1048576
  case neg =>
    have K := Lib.hid (lwBig_t a len cap w hl)
    clear hr iReset iSize iFlag iFault iAdd
    go_enter Try.func4, Try.ntmps4
    go_wp2_with fail
    refine K.out.mono ?_
    rintro e w' ⟨rfl, rfl⟩
    go_wp2
    go_ret
    exact ⟨rfl, Below.refl _ _⟩
  have IR := Lib.hid iReset
  have IZ := Lib.hid iSize
  have IG := Lib.hid iFlag
  have IF := Lib.hid iFault
  have IA := Lib.hid iAdd
  clear iReset iSize iFlag iFault iAdd
  have KL := Lib.hid (lwBig_f a len cap w hl)
  have KP : Hid (Kp [] [(a, len, cap, zs)] w) := ⟨fun x hx => (by cases hx), fun x hx => (by rcases List.mem_cons.1 hx with rfl | hx; exact hr; cases hx)⟩
  have T := Lib.hid (Below.refl w.heap.size w)
  clear hr
  go_enter Try.func4, Try.ntmps4
  go_wp2_with fail
  refine KL.out.mono ?_
  rintro e w' ⟨rfl, rfl⟩
  clear KL
  go_wp2_with fail
  refine (drawResetFor a len cap zs _ (KP.out.2 _ (List.Mem.head _)) hl).mono ?_
  rintro e w1 ⟨x, a1, n1, c1, z1, rfl, o1, hn1, hb⟩
  replace T := Lib.hid (T.out.trans (hb.mono T.out.size))
  replace KP := Lib.hid (KP.out.below hb)
  replace KP := Lib.hid (KP.out.rd o1.rd)
  clear o1
  clear hb
  replace T := Lib.hid (T.out.alloc T.out.size (.cells #[.int .i64 x.f, .int .i64 x.t, .int .i64 x.s, .int .i64 x.a, .int .i64 x.g, .int .i64 x.w, .int .i64 x.m, .slice a1 n1 c1] 25))
  replace KP := Lib.hid (KP.out.box 25 #[.int .i64 x.f, .int .i64 x.t, .int .i64 x.s, .int .i64 x.a, .int .i64 x.g, .int .i64 x.w, .int .i64 x.m, .slice a1 n1 c1])
  generalize hW : w1.alloc (.cells #[.int .i64 x.f, .int .i64 x.t, .int .i64 x.s, .int .i64 x.a, .int .i64 x.g, .int .i64 x.w, .int .i64 x.m, .slice a1 n1 c1] 25) = W at *
  have q0 := (KP.out.1 _ (List.Mem.head _)).cell 0
  have q1 := (KP.out.1 _ (List.Mem.head _)).cell 1
  have q2 := (KP.out.1 _ (List.Mem.head _)).cell 2
  have q3 := (KP.out.1 _ (List.Mem.head _)).cell 3
  have q4 := (KP.out.1 _ (List.Mem.head _)).cell 4
  have q5 := (KP.out.1 _ (List.Mem.head _)).cell 5
  have q6 := (KP.out.1 _ (List.Mem.head _)).cell 6
  have q7 := (KP.out.1 _ (List.Mem.head _)).cell 7
  go_wp2_with fail
  clear hW q0 q1 q2 q3 q4 q5 q6 q7
  generalize w1.heap.size = b3 at *
  refine (IR.out x a1 n1 c1 _).mono ?_
  rintro e w1 ⟨a2, n2, c2, rfl, o2, hb⟩
  replace T := Lib.hid (T.out.trans (hb.mono T.out.size))
  replace KP := Lib.hid (KP.out.below hb)
  replace KP := Lib.hid (KP.out.rd o2.rd)
  clear o2
  generalize hrr : rfAns x n1 = rr at *
  have HRR := Lib.hid hrr
  clear hrr
  clear hb
  replace T := Lib.hid (T.out.alloc T.out.size (.cells #[.int .i64 rr.c, .int .i64 rr.x.f, .int .i64 rr.x.t, .int .i64 rr.x.s, .int .i64 rr.x.a, .int .i64 rr.x.g, .int .i64 rr.x.w, .int .i64 rr.x.m, .slice a2 n2 c2] 34))
  replace KP := Lib.hid (KP.out.box 34 #[.int .i64 rr.c, .int .i64 rr.x.f, .int .i64 rr.x.t, .int .i64 rr.x.s, .int .i64 rr.x.a, .int .i64 rr.x.g, .int .i64 rr.x.w, .int .i64 rr.x.m, .slice a2 n2 c2])
  generalize hW : w1.alloc (.cells #[.int .i64 rr.c, .int .i64 rr.x.f, .int .i64 rr.x.t, .int .i64 rr.x.s, .int .i64 rr.x.a, .int .i64 rr.x.g, .int .i64 rr.x.w, .int .i64 rr.x.m, .slice a2 n2 c2] 34) = W at *
  have q0 := (KP.out.1 _ (List.Mem.tail _ (List.Mem.head _))).cell 0
  have q1 := (KP.out.1 _ (List.Mem.tail _ (List.Mem.head _))).cell 1
  have q2 := (KP.out.1 _ (List.Mem.tail _ (List.Mem.head _))).cell 2
  have q3 := (KP.out.1 _ (List.Mem.tail _ (List.Mem.head _))).cell 3
  have q4 := (KP.out.1 _ (List.Mem.tail _ (List.Mem.head _))).cell 4
  have q5 := (KP.out.1 _ (List.Mem.tail _ (List.Mem.head _))).cell 5
  have q6 := (KP.out.1 _ (List.Mem.tail _ (List.Mem.head _))).cell 6
  have q7 := (KP.out.1 _ (List.Mem.tail _ (List.Mem.head _))).cell 7
  go_wp2_with fail
  clear hW q0 q1 q2 q3 q4 q5 q6 q7
  generalize w1.heap.size = b4 at *
  refine (IZ.out x a1 n1 c1 _).mono ?_
  rintro e w1 ⟨rfl, hb⟩
  replace T := Lib.hid (T.out.trans (hb.mono T.out.size))
  replace KP := Lib.hid (KP.out.below hb)
  generalize hnc : sgC x n1 = nc at *
  generalize hnv : (if nc = 0 then sgZ x.g n1 else 0) = nv at *
  have HNC := Lib.hid hnc
  have HNV := Lib.hid hnv
  clear hnc hnv
  clear hb
  replace T := Lib.hid (T.out.alloc T.out.size (.cells #[.int .i64 nc, .int .i64 nv] 46))
  replace KP := Lib.hid (KP.out.box 46 #[.int .i64 nc, .int .i64 nv])
  generalize hW : w1.alloc (.cells #[.int .i64 nc, .int .i64 nv] 46) = W at *
  go_wp2_with fail
  clear hW 
  generalize w1.heap.size = b5 at *
  refine (drawHasFlag a len cap zs _ (KP.out.2 _ (List.Mem.tail _ (List.Mem.tail _ (List.Mem.head _)))) hl).mono ?_
  rintro e w1 ⟨y, a3, n3, c3, z3, fk, rfl, o3, hn3, hb⟩
  replace T := Lib.hid (T.out.trans (hb.mono T.out.size))
  replace KP := Lib.hid ((KP.out.below hb).rd o3.rd)
  clear hb o3
  replace T := Lib.hid (T.out.alloc T.out.size (.cells #[.int .i64 y.f, .int .i64 y.t, .int .i64 y.s, .int .i64 y.a, .int .i64 y.g, .int .i64 y.w, .int .i64 y.m, .slice a3 n3 c3] 25))
  replace KP := Lib.hid (KP.out.box 25 #[.int .i64 y.f, .int .i64 y.t, .int .i64 y.s, .int .i64 y.a, .int .i64 y.g, .int .i64 y.w, .int .i64 y.m, .slice a3 n3 c3])
  generalize hW : w1.alloc (.cells #[.int .i64 y.f, .int .i64 y.t, .int .i64 y.s, .int .i64 y.a, .int .i64 y.g, .int .i64 y.w, .int .i64 y.m, .slice a3 n3 c3] 25) = W at *
  go_upto_region 7 with (fail)
  clear hW
  generalize w1.heap.size = b6 at *
  obtain ⟨bl, hbl⟩ : ∃ bl : List (Nat × TypeId × Array Value), bl = [(b6, 25, #[.int .i64 y.f, .int .i64 y.t, .int .i64 y.s, .int .i64 y.a, .int .i64 y.g, .int .i64 y.w, .int .i64 y.m, .slice a3 n3 c3]), (b5, 46, #[.int .i64 nc, .int .i64 nv]), (b4, 34, #[.int .i64 rr.c, .int .i64 rr.x.f, .int .i64 rr.x.t, .int .i64 rr.x.s, .int .i64 rr.x.a, .int .i64 rr.x.g, .int .i64 rr.x.w, .int .i64 rr.x.m, .slice a2 n2 c2]), (b3, 25, #[.int .i64 x.f, .int .i64 x.t, .int .i64 x.s, .int .i64 x.a, .int .i64 x.g, .int .i64 x.w, .int .i64 x.m, .slice a1 n1 c1])] := ⟨_, rfl⟩
  obtain ⟨rl, hrl⟩ : ∃ rl : List (Option Addr × Nat × Nat × List Int), rl = [(a3, n3, c3, z3), (a2, n2, c2, rr.rs), (a1, n1, c1, z1), (a, len, cap, zs)] := ⟨_, rfl⟩
  rw [← hbl, ← hrl] at KP
  have Gb6 := Lib.hid (show ∀ W, Hid (Kp bl rl W) → Box W b6 25 #[.int .i64 y.f, .int .i64 y.t, .int .i64 y.s, .int .i64 y.a, .int .i64 y.g, .int .i64 y.w, .int .i64 y.m, .slice a3 n3 c3] from fun W h => by rw [hbl] at h; exact h.out.1 _ (List.Mem.head _))
  have Gb5 := Lib.hid (show ∀ W, Hid (Kp bl rl W) → Box W b5 46 #[.int .i64 nc, .int .i64 nv] from fun W h => by rw [hbl] at h; exact h.out.1 _ (List.Mem.tail _ (List.Mem.head _)))
  have Gb4 := Lib.hid (show ∀ W, Hid (Kp bl rl W) → Box W b4 34 #[.int .i64 rr.c, .int .i64 rr.x.f, .int .i64 rr.x.t, .int .i64 rr.x.s, .int .i64 rr.x.a, .int .i64 rr.x.g, .int .i64 rr.x.w, .int .i64 rr.x.m, .slice a2 n2 c2] from fun W h => by rw [hbl] at h; exact h.out.1 _ (List.Mem.tail _ (List.Mem.tail _ (List.Mem.head _))))
  have Gb3 := Lib.hid (show ∀ W, Hid (Kp bl rl W) → Box W b3 25 #[.int .i64 x.f, .int .i64 x.t, .int .i64 x.s, .int .i64 x.a, .int .i64 x.g, .int .i64 x.w, .int .i64 x.m, .slice a1 n1 c1] from fun W h => by rw [hbl] at h; exact h.out.1 _ (List.Mem.tail _ (List.Mem.tail _ (List.Mem.tail _ (List.Mem.head _)))))
  have Ga2 := Lib.hid (show ∀ W, Hid (Kp bl rl W) → Rd W a2 n2 c2 rr.rs from fun W h => by rw [hrl] at h; exact h.out.2 _ (List.Mem.tail _ (List.Mem.head _)))
  clear hbl hrl
  have KA := Lib.hid (show ∀ W, Hid (Kp bl rl W) → Calls Try.prog 30 #[.agg #[.int .i64 x.f, .int .i64 x.t, .int .i64 x.s, .int .i64 x.a, .int .i64 x.g, .int .i64 x.w, .int .i64 x.m, .slice a1 n1 c1]] W (RsRes W rr) from fun W _ => by rw [← HRR.out]; exact specResetFor x a1 n1 c1 W)
  have KB := Lib.hid (show ∀ W, Hid (Kp bl rl W) → Calls Try.prog 31 #[.agg #[.int .i64 x.f, .int .i64 x.t, .int .i64 x.s, .int .i64 x.a, .int .i64 x.g, .int .i64 x.w, .int .i64 x.m, .slice a1 n1 c1]] W (fun e w' => e = .returned (.agg #[.int .i64 nc, .int .i64 nv]) ∧ Below W.heap.size W w') from fun W _ => by have := specSegmentSize x a1 n1 c1 W; rw [HNC.out, HNV.out] at this; exact this)
  obtain ⟨q, hq⟩ : ∃ q, hfB y.g fk = q := ⟨_, rfl⟩
  have KG := Lib.hid (show ∀ W, Hid (Kp bl rl W) → Calls Try.prog 32 #[.agg #[.int .i64 y.f, .int .i64 y.t, .int .i64 y.s, .int .i64 y.a, .int .i64 y.g, .int .i64 y.w, .int .i64 y.m, .slice a3 n3 c3], .int .i64 fk] W (fun e w' => e = .returned (.bool q) ∧ Below W.heap.size W w') from fun W _ => by rw [← hq]; exact IG.out y a3 n3 c3 fk W)
  have KH := Lib.hid (show ∀ W, Hid (Kp bl rl W) → Calls Try.prog 33 #[.agg #[.int .i64 y.f, .int .i64 y.t, .int .i64 y.s, .int .i64 y.a, .int .i64 y.g, .int .i64 y.w, .int .i64 y.m, .slice a3 n3 c3], .int .i64 fk] W (fun e w' => e = .returned (.bool q) ∧ Below W.heap.size W w') from fun W _ => by rw [← hq]; exact specHasFlag y a3 n3 c3 fk W)
  clear hq
  have hf1 := fld_rs0
  have hf3 := fld_i1
  go_cut [42] (fun v wx => v = .bool false ∧ Hid (Below w.heap.size w wx) ∧ Hid (Kp bl rl wx))
  case first =>
    as_aux_lemma =>
      have SS := Lib.hid (show ∀ W, Hid (Kp bl rl W) → W.cell? ⟨b3, 0, none⟩ = some (.int .i64 x.f) ∧ W.cell? ⟨b3, 1, none⟩ = some (.int .i64 x.t) ∧ W.cell? ⟨b3, 2, none⟩ = some (.int .i64 x.s) ∧ W.cell? ⟨b3, 3, none⟩ = some (.int .i64 x.a) ∧ W.cell? ⟨b3, 4, none⟩ = some (.int .i64 x.g) ∧ W.cell? ⟨b3, 5, none⟩ = some (.int .i64 x.w) ∧ W.cell? ⟨b3, 6, none⟩ = some (.int .i64 x.m) ∧ W.cell? ⟨b3, 7, none⟩ = some (.slice a1 n1 c1) ∧ W.cell? ⟨b4, 0, none⟩ = some (.int .i64 rr.c) ∧ W.cell? ⟨b5, 0, none⟩ = some (.int .i64 nc) ∧ W.cell? ⟨b5, 1, none⟩ = some (.int .i64 nv) ∧ W.cell? ⟨b6, 0, none⟩ = some (.int .i64 y.f) ∧ W.cell? ⟨b6, 1, none⟩ = some (.int .i64 y.t) ∧ W.cell? ⟨b6, 2, none⟩ = some (.int .i64 y.s) ∧ W.cell? ⟨b6, 3, none⟩ = some (.int .i64 y.a) ∧ W.cell? ⟨b6, 4, none⟩ = some (.int .i64 y.g) ∧ W.cell? ⟨b6, 5, none⟩ = some (.int .i64 y.w) ∧ W.cell? ⟨b6, 6, none⟩ = some (.int .i64 y.m) ∧ W.cell? ⟨b6, 7, none⟩ = some (.slice a3 n3 c3) ∧ Hid (Kp bl rl W) from fun W h => ⟨(Gb3.out W h).cell 0, (Gb3.out W h).cell 1, (Gb3.out W h).cell 2, (Gb3.out W h).cell 3, (Gb3.out W h).cell 4, (Gb3.out W h).cell 5, (Gb3.out W h).cell 6, (Gb3.out W h).cell 7, (Gb4.out W h).cell 0, (Gb5.out W h).cell 0, (Gb5.out W h).cell 1, (Gb6.out W h).cell 0, (Gb6.out W h).cell 1, (Gb6.out W h).cell 2, (Gb6.out W h).cell 3, (Gb6.out W h).cell 4, (Gb6.out W h).cell 5, (Gb6.out W h).cell 6, (Gb6.out W h).cell 7, h⟩)
      replace T := Lib.hid T.out.drew
      replace KP := Lib.hid KP.out.drew
      refine wp_region_held_drew (S := fun W => W.cell? ⟨b3, 0, none⟩ = some (.int .i64 x.f) ∧ W.cell? ⟨b3, 1, none⟩ = some (.int .i64 x.t) ∧ W.cell? ⟨b3, 2, none⟩ = some (.int .i64 x.s) ∧ W.cell? ⟨b3, 3, none⟩ = some (.int .i64 x.a) ∧ W.cell? ⟨b3, 4, none⟩ = some (.int .i64 x.g) ∧ W.cell? ⟨b3, 5, none⟩ = some (.int .i64 x.w) ∧ W.cell? ⟨b3, 6, none⟩ = some (.int .i64 x.m) ∧ W.cell? ⟨b3, 7, none⟩ = some (.slice a1 n1 c1) ∧ W.cell? ⟨b4, 0, none⟩ = some (.int .i64 rr.c) ∧ W.cell? ⟨b5, 0, none⟩ = some (.int .i64 nc) ∧ W.cell? ⟨b5, 1, none⟩ = some (.int .i64 nv) ∧ W.cell? ⟨b6, 0, none⟩ = some (.int .i64 y.f) ∧ W.cell? ⟨b6, 1, none⟩ = some (.int .i64 y.t) ∧ W.cell? ⟨b6, 2, none⟩ = some (.int .i64 y.s) ∧ W.cell? ⟨b6, 3, none⟩ = some (.int .i64 y.a) ∧ W.cell? ⟨b6, 4, none⟩ = some (.int .i64 y.g) ∧ W.cell? ⟨b6, 5, none⟩ = some (.int .i64 y.w) ∧ W.cell? ⟨b6, 6, none⟩ = some (.int .i64 y.m) ∧ W.cell? ⟨b6, 7, none⟩ = some (.slice a3 n3 c3) ∧ Hid (Kp bl rl W)) (by kernel_rfl) (SS.out _ KP) (fun hHeld => ?_)
      refine wpAnyH_take (i := 0) (v := ?_) (by simp only [List.getElem?_toArray, List.getElem?_cons_zero]; exact rfl) (by kernel_rfl) (by kernel_rfl) (by kernel_rfl) (by exact fun _ _ _ h => h) (Or.inl ⟨by rfl, ?_⟩) hHeld ?_
      rotate_left
      · intro w' hSw
        clear hSw
        go_simp
        try with_reducible rfl
      try simp only [Act.put, List.setIfInBounds_toArray, List.set_cons_zero, List.set_cons_succ]
      refine wpAnyH_take (i := 1) (v := ?_) (by simp only [List.getElem?_toArray, List.getElem?_cons_zero, List.getElem?_cons_succ]; exact rfl) (by kernel_rfl) (by kernel_rfl) (by kernel_rfl) (by exact fun _ _ _ h => h) (Or.inl ⟨by rfl, ?_⟩) hHeld ?_
      rotate_left
      · intro w' hSw
        obtain ⟨_, _, _, _, _, _, _, _, s8, _, _, _, _, _, _, _, _, _, _, _⟩ := hSw
        go_simp
        try with_reducible rfl
      try simp only [Act.put, List.setIfInBounds_toArray, List.set_cons_zero, List.set_cons_succ]
      refine wpAnyH_take (i := 2) (v := ?_) (by simp only [List.getElem?_toArray, List.getElem?_cons_zero, List.getElem?_cons_succ]; exact rfl) (by kernel_rfl) (by kernel_rfl) (by kernel_rfl) (by exact fun _ _ _ h => h) (Or.inl ⟨by rfl, ?_⟩) hHeld ?_
      rotate_left
      · intro w' hSw
        obtain ⟨s0, s1, s2, s3, s4, s5, s6, s7, _, _, _, _, _, _, _, _, _, _, _, _⟩ := hSw
        go_simp
        try with_reducible rfl
      try simp only [Act.put, List.setIfInBounds_toArray, List.set_cons_zero, List.set_cons_succ]
      refine wpAnyH_ready (rs := [3]) (by kernel_rfl) (by simp) ?_
      refine (AllReadyH.cons (by simp only [List.getElem?_toArray, List.getElem?_cons_zero, List.getElem?_cons_succ]; exact rfl) (fun K hK => ?_) AllReadyH.nil)
      refine want_none (by exact rfl) ?_
      go_wp2_with fail
      refine (KA.out _ KP).mono ?_
      rintro e w1 ⟨x1, y1, k1, rfl, _, hb⟩
      replace T := Lib.hid (T.out.trans (hb.mono T.out.size))
      replace KP := Lib.hid (KP.out.below hb)
      clear hb
      go_wp2_with fail
      refine hK.out _ _ (SS.out _ KP) (fun hHeld => ?_)
      clear hK K
      try simp only [Act.put, List.setIfInBounds_toArray, List.set_cons_zero, List.set_cons_succ]
      refine wpAnyH_take (i := 4) (v := ?_) (by simp only [List.getElem?_toArray, List.getElem?_cons_zero, List.getElem?_cons_succ]; exact rfl) (by kernel_rfl) (by kernel_rfl) (by kernel_rfl) (by exact fun _ _ _ h => h) (Or.inl ⟨by rfl, ?_⟩) hHeld ?_
      rotate_left
      · intro w' hSw
        clear hSw
        go_simp
        try with_reducible rfl
      try simp only [Act.put, List.setIfInBounds_toArray, List.set_cons_zero, List.set_cons_succ]
      refine wpAnyH_take (i := 5) (v := ?_) (by simp only [List.getElem?_toArray, List.getElem?_cons_zero, List.getElem?_cons_succ]; exact rfl) (by kernel_rfl) (by kernel_rfl) (by kernel_rfl) (by exact fun _ _ _ h => h) (Or.inl ⟨by rfl, ?_⟩) hHeld ?_
      rotate_left
      · intro w' hSw
        clear hSw
        go_simp
        try with_reducible rfl
      try simp only [Act.put, List.setIfInBounds_toArray, List.set_cons_zero, List.set_cons_succ]
      refine wpAnyH_take (i := 6) (v := ?_) (by simp only [List.getElem?_toArray, List.getElem?_cons_zero, List.getElem?_cons_succ]; exact rfl) (by kernel_rfl) (by kernel_rfl) (by kernel_rfl) (by exact fun _ _ _ h => h) (Or.inl ⟨by rfl, ?_⟩) hHeld ?_
      rotate_left
      · intro w' hSw
        clear hSw
        go_simp
        try with_reducible rfl
      try simp only [Act.put, List.setIfInBounds_toArray, List.set_cons_zero, List.set_cons_succ]
      refine wpAnyH_take (i := 7) (v := ?_) (by simp only [List.getElem?_toArray, List.getElem?_cons_zero, List.getElem?_cons_succ]; exact rfl) (by kernel_rfl) (by kernel_rfl) (by kernel_rfl) (by exact fun _ _ _ h => h) (Or.inl ⟨by rfl, ?_⟩) hHeld ?_
      rotate_left
      · intro w' hSw
        obtain ⟨_, _, _, _, _, _, _, _, _, s9, s10, _, _, _, _, _, _, _, _, _⟩ := hSw
        go_simp
        try with_reducible rfl
      try simp only [Act.put, List.setIfInBounds_toArray, List.set_cons_zero, List.set_cons_succ]
      refine wpAnyH_take (i := 8) (v := ?_) (by simp only [List.getElem?_toArray, List.getElem?_cons_zero, List.getElem?_cons_succ]; exact rfl) (by kernel_rfl) (by kernel_rfl) (by kernel_rfl) (by exact fun _ _ _ h => h) (Or.inl ⟨by rfl, ?_⟩) hHeld ?_
      rotate_left
      · intro w' hSw
        obtain ⟨s0, s1, s2, s3, s4, s5, s6, s7, _, _, _, _, _, _, _, _, _, _, _, _⟩ := hSw
        go_simp
        try with_reducible rfl
      try simp only [Act.put, List.setIfInBounds_toArray, List.set_cons_zero, List.set_cons_succ]
      refine wpAnyH_ready (rs := [9]) (by kernel_rfl) (by simp) ?_
      refine (AllReadyH.cons (by simp only [List.getElem?_toArray, List.getElem?_cons_zero, List.getElem?_cons_succ]; exact rfl) (fun K hK => ?_) AllReadyH.nil)
      refine want_yes (by rfl) ?_
      go_wp2_with fail
      refine (KB.out _ KP).mono ?_
      rintro e w1 ⟨rfl, hb⟩
      replace T := Lib.hid (T.out.trans (hb.mono T.out.size))
      replace KP := Lib.hid (KP.out.below hb)
      clear hb
      go_wp2_with fail
      refine hK.out _ _ (SS.out _ KP) (fun hHeld => ?_)
      clear hK K
      try simp only [Act.put, List.setIfInBounds_toArray, List.set_cons_zero, List.set_cons_succ]
      refine wpAnyH_take (i := 10) (v := ?_) (by simp only [List.getElem?_toArray, List.getElem?_cons_zero, List.getElem?_cons_succ]; exact rfl) (by kernel_rfl) (by kernel_rfl) (by kernel_rfl) (by exact fun _ _ _ h => h) (Or.inl ⟨by rfl, ?_⟩) hHeld ?_
      rotate_left
      · intro w' hSw
        clear hSw
        go_simp
        try with_reducible rfl
      try simp only [Act.put, List.setIfInBounds_toArray, List.set_cons_zero, List.set_cons_succ]
      refine wpAnyH_take (i := 11) (v := ?_) (by simp only [List.getElem?_toArray, List.getElem?_cons_zero, List.getElem?_cons_succ]; exact rfl) (by kernel_rfl) (by kernel_rfl) (by kernel_rfl) (by exact fun _ _ _ h => h) (Or.inl ⟨by rfl, ?_⟩) hHeld ?_
      rotate_left
      · intro w' hSw
        clear hSw
        go_simp
        try with_reducible rfl
      try simp only [Act.put, List.setIfInBounds_toArray, List.set_cons_zero, List.set_cons_succ]
      refine wpAnyH_take (i := 12) (v := ?_) (by simp only [List.getElem?_toArray, List.getElem?_cons_zero, List.getElem?_cons_succ]; exact rfl) (by kernel_rfl) (by kernel_rfl) (by kernel_rfl) (by exact fun _ _ _ h => h) (Or.inl ⟨by rfl, ?_⟩) hHeld ?_
      rotate_left
      · intro w' hSw
        clear hSw
        go_simp
        try with_reducible rfl
      try simp only [Act.put, List.setIfInBounds_toArray, List.set_cons_zero, List.set_cons_succ]
      refine wpAnyH_take (i := 13) (v := ?_) (by simp only [List.getElem?_toArray, List.getElem?_cons_zero, List.getElem?_cons_succ]; exact rfl) (by kernel_rfl) (by kernel_rfl) (by kernel_rfl) (by exact fun _ _ _ h => h) (Or.inl ⟨by rfl, ?_⟩) hHeld ?_
      rotate_left
      · intro w' hSw
        obtain ⟨_, _, _, _, _, _, _, _, _, _, _, s11, s12, s13, s14, s15, s16, s17, s18, _⟩ := hSw
        go_simp
        try with_reducible rfl
      try simp only [Act.put, List.setIfInBounds_toArray, List.set_cons_zero, List.set_cons_succ]
      refine wpAnyH_take (i := 14) (v := ?_) (by simp only [List.getElem?_toArray, List.getElem?_cons_zero, List.getElem?_cons_succ]; exact rfl) (by kernel_rfl) (by kernel_rfl) (by kernel_rfl) (by exact fun _ _ _ h => h) (Or.inl ⟨by rfl, ?_⟩) hHeld ?_
      rotate_left
      · intro w' hSw
        clear hSw
        go_simp
        try with_reducible rfl
      try simp only [Act.put, List.setIfInBounds_toArray, List.set_cons_zero, List.set_cons_succ]
      refine wpAnyH_take (i := 16) (v := ?_) (by simp only [List.getElem?_toArray, List.getElem?_cons_zero, List.getElem?_cons_succ]; exact rfl) (by kernel_rfl) (by kernel_rfl) (by kernel_rfl) (by exact fun _ _ _ h => h) (Or.inl ⟨by rfl, ?_⟩) hHeld ?_
      rotate_left
      · intro w' hSw
        obtain ⟨_, _, _, _, _, _, _, _, _, _, _, s11, s12, s13, s14, s15, s16, s17, s18, _⟩ := hSw
        go_simp
        try with_reducible rfl
      try simp only [Act.put, List.setIfInBounds_toArray, List.set_cons_zero, List.set_cons_succ]
      refine wpAnyH_take (i := 17) (v := ?_) (by simp only [List.getElem?_toArray, List.getElem?_cons_zero, List.getElem?_cons_succ]; exact rfl) (by kernel_rfl) (by kernel_rfl) (by kernel_rfl) (by exact fun _ _ _ h => h) (Or.inl ⟨by rfl, ?_⟩) hHeld ?_
      rotate_left
      · intro w' hSw
        clear hSw
        go_simp
        try with_reducible rfl
      try simp only [Act.put, List.setIfInBounds_toArray, List.set_cons_zero, List.set_cons_succ]
      refine wpAnyH_ready (rs := [15]) (by kernel_rfl) (by simp) ?_
      refine (AllReadyH.cons (by simp only [List.getElem?_toArray, List.getElem?_cons_zero, List.getElem?_cons_succ]; exact rfl) (fun K hK => ?_) AllReadyH.nil)
      refine want_yes (by rfl) ?_
      go_wp2_with fail
      refine (KG.out _ KP).mono ?_
      rintro e w1 ⟨rfl, hb⟩
      replace T := Lib.hid (T.out.trans (hb.mono T.out.size))
      replace KP := Lib.hid (KP.out.below hb)
      clear hb
      go_wp2_with fail
      refine hK.out _ _ (SS.out _ KP) (fun hHeld => ?_)
      clear hK K
      try simp only [Act.put, List.setIfInBounds_toArray, List.set_cons_zero, List.set_cons_succ]
      refine wpAnyH_ready (rs := [18]) (by kernel_rfl) (by simp) ?_
      refine (AllReadyH.cons (by simp only [List.getElem?_toArray, List.getElem?_cons_zero, List.getElem?_cons_succ]; exact rfl) (fun K hK => ?_) AllReadyH.nil)
      refine want_yes (by rfl) ?_
      go_wp2_with fail
      refine (KH.out _ KP).mono ?_
      rintro e w1 ⟨rfl, hb⟩
      replace T := Lib.hid (T.out.trans (hb.mono T.out.size))
      replace KP := Lib.hid (KP.out.below hb)
      clear hb
      go_wp2_with fail
      refine hK.out _ _ (SS.out _ KP) (fun hHeld => ?_)
      clear hK K
      try simp only [Act.put, List.setIfInBounds_toArray, List.set_cons_zero, List.set_cons_succ]
      refine wpAnyH_take (i := 19) (v := ?_) (by simp only [List.getElem?_toArray, List.getElem?_cons_zero, List.getElem?_cons_succ]; exact rfl) (by kernel_rfl) (by kernel_rfl) (by kernel_rfl) (by exact fun _ _ _ h => h) (Or.inl ⟨by rfl, ?_⟩) hHeld ?_
      rotate_left
      · intro w' hSw
        clear hSw
        go_simp
        try with_reducible rfl
      try simp only [Act.put, List.setIfInBounds_toArray, List.set_cons_zero, List.set_cons_succ]
      refine wpAnyH_take (i := 20) (v := ?_) (by simp only [List.getElem?_toArray, List.getElem?_cons_zero, List.getElem?_cons_succ]; exact rfl) (by kernel_rfl) (by kernel_rfl) (by kernel_rfl) (by exact fun _ _ _ h => h) (Or.inl ⟨by rfl, ?_⟩) hHeld ?_
      rotate_left
      · intro w' hSw
        clear hSw
        go_simp
        try with_reducible rfl
      try simp only [Act.put, List.setIfInBounds_toArray, List.set_cons_zero, List.set_cons_succ]
      refine wpAnyH_done (by kernel_rfl) ?_ _
      go_wp2_with fail
      go_meet
      exact ⟨rfl, T, KP⟩
  case rest =>
    as_aux_lemma =>
      obtain ⟨rfl, T, KP⟩ := hcut
      clear KA KB KG KH
      obtain ⟨_, r0, r1, r2, r3, r4, r5, r6, r7, r8⟩ := (Gb4.out _ KP).nine
      obtain ⟨_, x0, x1, x2, x3, x4, x5, x6, x7⟩ := (Gb3.out _ KP).eight
      by_cases hc0 : rr.c = 0
      case neg =>
        have e1 : (rr.c != 0) = true := by simpa using hc0
        by_cases hc8 : rr.c = 8
        · have e8 : (rr.c != 8) = false := by simpa using hc8
          have KX := Lib.hid (show ∀ W, Calls Try.prog 32 #[.agg #[.int .i64 x.f, .int .i64 x.t, .int .i64 x.s, .int .i64 x.a, .int .i64 x.g, .int .i64 x.w, .int .i64 x.m, .slice a1 n1 c1], .int .i64 4] W (fun e w' => e = .returned (.bool true) ∧ Below W.heap.size W w') from fun W => by have := IG.out x a1 n1 c1 4 W; rw [rf_eight x n1 (by rw [HRR.out]; exact hc8)] at this; exact this)
          go_wp2_with fail
          refine (KX.out _).mono ?_
          rintro e w1 ⟨rfl, hb⟩
          replace T := Lib.hid (T.out.trans (hb.mono T.out.size))
          go_wp2
          go_ret
          exact ⟨rfl, T.out⟩
        · have e8 : (rr.c != 8) = true := by simpa using hc8
          go_wp2
          go_ret
          exact ⟨rfl, T.out⟩
      case pos =>
        obtain ⟨hR, hsg, h4⟩ := rf_ok x n1 (by rw [HRR.out]; exact hc0)
        obtain ⟨hq1, hq2, hq3, hq4, hq5⟩ := rf_fault x n1 hsg
        have hxg := (sgN_parts (sgC_parts hsg).1).2.2.2.2.1
        have hxs := (sgN_parts (sgC_parts hsg).1).2.2.1
        have hzb := sgZ_bd x.g n1
        have hn520 := (sgC_parts hsg).2.2.2
        have hnc : nc = 0 := by rw [← HNC.out]; exact hsg
        have hnv : nv = sgZ x.g n1 := by rw [← HNV.out, if_pos hnc]
        have hT16 : Hid (flB x.g 16 = true → (rfX x n1).s = x.a) := fun h => by unfold rfX; rw [h]; rfl
        have hF16 : Hid (flB x.g 16 = false → (rfX x n1).g = 20 ∧ (rfX x n1).a = (x.s + nv) % 4294967296) := fun h => by unfold rfX; rw [h, hnv]; exact ⟨rfl, rfl⟩
        rw [HRR.out] at hR
        clear r0 r1 r2 r3 r4 r5 r6 r7 r8 x0 x1 x2 x3 x4 x5 x6 x7 h4 HRR HNC HNV
        obtain ⟨rc, tt, trs⟩ := rr
        simp only [RsA.mk.injEq] at hR
        obtain ⟨rfl, htt, rfl⟩ := hR
        rw [← htt] at hq1 hq2 hq3 hq4 hq5 hT16 hF16
        clear htt hc0
        dsimp only at Gb4 Ga2
        obtain rfl : n2 = 0 := (Ga2.out _ KP).length.symm
        have KX1 := Lib.hid (show ∀ W, Calls Try.prog 21 #[.agg #[.int .i64 tt.f, .int .i64 tt.t, .int .i64 tt.s, .int .i64 tt.a, .int .i64 tt.g, .int .i64 tt.w, .int .i64 tt.m, .slice a2 0 c2]] W (fun e w' => e = .returned (.int .i64 0) ∧ Below W.heap.size W w') from fun W => by have := IF.out tt a2 0 c2 W; rw [hq1] at this; exact this)
        have KX2 := Lib.hid (show ∀ W, Calls Try.prog 32 #[.agg #[.int .i64 tt.f, .int .i64 tt.t, .int .i64 tt.s, .int .i64 tt.a, .int .i64 tt.g, .int .i64 tt.w, .int .i64 tt.m, .slice a2 0 c2], .int .i64 4] W (fun e w' => e = .returned (.bool true) ∧ Below W.heap.size W w') from fun W => by have := IG.out tt a2 0 c2 4 W; rw [show hfB tt.g 4 = true by unfold hfB; rw [hq2, in_t hq5]; rfl] at this; exact this)
        have KX3 := Lib.hid (show ∀ W, Calls Try.prog 27 #[.agg #[.int .i64 tt.f, .int .i64 tt.t, .int .i64 tt.s, .int .i64 tt.a, .int .i64 tt.g, .int .i64 tt.w, .int .i64 tt.m, .slice a2 0 c2]] W (RsRes W (rsNo 8)) from fun W => by have := IR.out tt a2 0 c2 W; rw [show rfAns tt 0 = rsNo 8 by unfold rfAns; rw [if_neg (by simpa using hq1), hq2]; rfl] at this; exact this)
        have KX4 := Lib.hid (show ∀ W, Calls Try.prog 32 #[.agg #[.int .i64 x.f, .int .i64 x.t, .int .i64 x.s, .int .i64 x.a, .int .i64 x.g, .int .i64 x.w, .int .i64 x.m, .slice a1 n1 c1], .int .i64 16] W (fun e w' => e = .returned (.bool (flB x.g 16)) ∧ Below W.heap.size W w') from fun W => by have := IG.out x a1 n1 c1 16 W; rw [show hfB x.g 16 = flB x.g 16 by unfold hfB; rw [in_t hxg]; rfl] at this; exact this)
        have KX5 := Lib.hid (show flB x.g 16 = false → ∀ W, Calls Try.prog 32 #[.agg #[.int .i64 tt.f, .int .i64 tt.t, .int .i64 tt.s, .int .i64 tt.a, .int .i64 tt.g, .int .i64 tt.w, .int .i64 tt.m, .slice a2 0 c2], .int .i64 16] W (fun e w' => e = .returned (.bool true) ∧ Below W.heap.size W w') from fun h W => by have := IG.out tt a2 0 c2 16 W; rw [show hfB tt.g 16 = true by rw [(hF16.out h).1]; rfl] at this; exact this)
        have KX6 := Lib.hid (show ∀ W, Calls Try.prog 34 #[.int .i64 x.s, .int .i64 nv] W (fun e w' => e = .returned (.agg #[.int .i64 0, .int .i64 ((x.s + nv) % 4294967296)]) ∧ Below W.heap.size W w') from fun W => IA.out x.s nv W hxs (by omega))
        have e0 : (tt.f == x.t) = true := by simpa using hq3
        have e1 : (tt.t == x.f) = true := by simpa using hq4
        clear hq1 hq2 hq3 hq4 hq5 hsg hxg hxs hzb hn520 hnc hnv IR IZ IG IF IA
        have KQ := Lib.hid (KP.out.box 25 #[.int .i64 tt.f, .int .i64 tt.t, .int .i64 tt.s, .int .i64 tt.a, .int .i64 tt.g, .int .i64 tt.w, .int .i64 tt.m, .slice a2 0 c2])
        replace T := Lib.hid (T.out.alloc T.out.size (.cells #[.int .i64 tt.f, .int .i64 tt.t, .int .i64 tt.s, .int .i64 tt.a, .int .i64 tt.g, .int .i64 tt.w, .int .i64 tt.m, .slice a2 0 c2] 25))
        obtain ⟨_, r0, r1, r2, r3, r4, r5, r6, r7, r8⟩ := (Gb4.out _ KP).nine
        go_upto_region 12 with (fail)
        clear r0 r1 r2 r3 r4 r5 r6 r7 r8 KP
        generalize wc.alloc (.cells #[.int .i64 tt.f, .int .i64 tt.t, .int .i64 tt.s, .int .i64 tt.a, .int .i64 tt.g, .int .i64 tt.w, .int .i64 tt.m, .slice a2 0 c2] 25) = W at *
        generalize wc.heap.size = b8 at *
        have Gb8 := Lib.hid (show ∀ W, Hid (Kp ((b8, 25, #[.int .i64 tt.f, .int .i64 tt.t, .int .i64 tt.s, .int .i64 tt.a, .int .i64 tt.g, .int .i64 tt.w, .int .i64 tt.m, .slice a2 0 c2]) :: bl) rl W) → Box W b8 25 #[.int .i64 tt.f, .int .i64 tt.t, .int .i64 tt.s, .int .i64 tt.a, .int .i64 tt.g, .int .i64 tt.w, .int .i64 tt.m, .slice a2 0 c2] from fun W h => h.out.1 _ (List.Mem.head _))
        have KPP := Lib.hid (show ∀ W, Hid (Kp ((b8, 25, #[.int .i64 tt.f, .int .i64 tt.t, .int .i64 tt.s, .int .i64 tt.a, .int .i64 tt.g, .int .i64 tt.w, .int .i64 tt.m, .slice a2 0 c2]) :: bl) rl W) → Hid (Kp bl rl W) from fun W h => ⟨fun x hx => h.out.1 x (List.Mem.tail _ hx), h.out.2⟩)
        obtain ⟨bm, hbm⟩ : ∃ bm, bm = ((b8, 25, #[.int .i64 tt.f, .int .i64 tt.t, .int .i64 tt.s, .int .i64 tt.a, .int .i64 tt.g, .int .i64 tt.w, .int .i64 tt.m, .slice a2 0 c2]) :: bl) := ⟨_, rfl⟩
        rw [← hbm] at KQ Gb8 KPP
        clear hbm
        have KP := KQ
        clear KQ
        have SS := Lib.hid (show ∀ W, Hid (Kp bm rl W) → W.cell? ⟨b8, 0, none⟩ = some (.int .i64 tt.f) ∧ W.cell? ⟨b8, 1, none⟩ = some (.int .i64 tt.t) ∧ W.cell? ⟨b8, 2, none⟩ = some (.int .i64 tt.s) ∧ W.cell? ⟨b8, 3, none⟩ = some (.int .i64 tt.a) ∧ W.cell? ⟨b8, 4, none⟩ = some (.int .i64 tt.g) ∧ W.cell? ⟨b8, 5, none⟩ = some (.int .i64 tt.w) ∧ W.cell? ⟨b8, 6, none⟩ = some (.int .i64 tt.m) ∧ W.cell? ⟨b8, 7, none⟩ = some (.slice a2 0 c2) ∧ W.cell? ⟨b3, 0, none⟩ = some (.int .i64 x.f) ∧ W.cell? ⟨b3, 1, none⟩ = some (.int .i64 x.t) ∧ W.cell? ⟨b3, 2, none⟩ = some (.int .i64 x.s) ∧ W.cell? ⟨b3, 3, none⟩ = some (.int .i64 x.a) ∧ W.cell? ⟨b3, 4, none⟩ = some (.int .i64 x.g) ∧ W.cell? ⟨b3, 5, none⟩ = some (.int .i64 x.w) ∧ W.cell? ⟨b3, 6, none⟩ = some (.int .i64 x.m) ∧ W.cell? ⟨b3, 7, none⟩ = some (.slice a1 n1 c1) ∧ W.cell? ⟨b5, 0, none⟩ = some (.int .i64 nc) ∧ W.cell? ⟨b5, 1, none⟩ = some (.int .i64 nv) ∧ Hid (Kp bm rl W) from fun W h => ⟨(Gb8.out W h).cell 0, (Gb8.out W h).cell 1, (Gb8.out W h).cell 2, (Gb8.out W h).cell 3, (Gb8.out W h).cell 4, (Gb8.out W h).cell 5, (Gb8.out W h).cell 6, (Gb8.out W h).cell 7, (Gb3.out W (KPP.out W h)).cell 0, (Gb3.out W (KPP.out W h)).cell 1, (Gb3.out W (KPP.out W h)).cell 2, (Gb3.out W (KPP.out W h)).cell 3, (Gb3.out W (KPP.out W h)).cell 4, (Gb3.out W (KPP.out W h)).cell 5, (Gb3.out W (KPP.out W h)).cell 6, (Gb3.out W (KPP.out W h)).cell 7, (Gb5.out W (KPP.out W h)).cell 0, (Gb5.out W (KPP.out W h)).cell 1, h⟩)
        cases m16 : flB x.g 16
        case true =>
          have e2 : (tt.s == x.a) = true := by simpa using hT16.out m16
          clear hT16 hF16 KX5
          replace T := Lib.hid T.out.drew
          replace KP := Lib.hid KP.out.drew
          refine wp_region_held_drew (S := fun W => W.cell? ⟨b8, 0, none⟩ = some (.int .i64 tt.f) ∧ W.cell? ⟨b8, 1, none⟩ = some (.int .i64 tt.t) ∧ W.cell? ⟨b8, 2, none⟩ = some (.int .i64 tt.s) ∧ W.cell? ⟨b8, 3, none⟩ = some (.int .i64 tt.a) ∧ W.cell? ⟨b8, 4, none⟩ = some (.int .i64 tt.g) ∧ W.cell? ⟨b8, 5, none⟩ = some (.int .i64 tt.w) ∧ W.cell? ⟨b8, 6, none⟩ = some (.int .i64 tt.m) ∧ W.cell? ⟨b8, 7, none⟩ = some (.slice a2 0 c2) ∧ W.cell? ⟨b3, 0, none⟩ = some (.int .i64 x.f) ∧ W.cell? ⟨b3, 1, none⟩ = some (.int .i64 x.t) ∧ W.cell? ⟨b3, 2, none⟩ = some (.int .i64 x.s) ∧ W.cell? ⟨b3, 3, none⟩ = some (.int .i64 x.a) ∧ W.cell? ⟨b3, 4, none⟩ = some (.int .i64 x.g) ∧ W.cell? ⟨b3, 5, none⟩ = some (.int .i64 x.w) ∧ W.cell? ⟨b3, 6, none⟩ = some (.int .i64 x.m) ∧ W.cell? ⟨b3, 7, none⟩ = some (.slice a1 n1 c1) ∧ W.cell? ⟨b5, 0, none⟩ = some (.int .i64 nc) ∧ W.cell? ⟨b5, 1, none⟩ = some (.int .i64 nv) ∧ Hid (Kp bm rl W)) (by kernel_rfl) (SS.out _ KP) (fun hHeld => ?_)
          refine wpAnyH_take (i := 0) (v := ?_) (by simp only [List.getElem?_toArray, List.getElem?_cons_zero]; exact rfl) (by kernel_rfl) (by kernel_rfl) (by kernel_rfl) (by exact fun _ _ _ h => h) (Or.inl ⟨by rfl, ?_⟩) hHeld ?_
          rotate_left
          · intro w' hSw
            obtain ⟨s0, s1, s2, s3, s4, s5, s6, s7, _, _, _, _, _, _, _, _, _, _, _⟩ := hSw
            go_simp
            try with_reducible rfl
          try simp only [Act.put, List.setIfInBounds_toArray, List.set_cons_zero, List.set_cons_succ]
          refine wpAnyH_ready (rs := [1]) (by kernel_rfl) (by simp) ?_
          refine (AllReadyH.cons (by simp only [List.getElem?_toArray, List.getElem?_cons_zero, List.getElem?_cons_succ]; exact rfl) (fun K hK => ?_) AllReadyH.nil)
          refine want_none (by exact rfl) ?_
          go_wp2_with fail
          refine (KX1.out _).mono ?_
          rintro e w1 ⟨rfl, hb⟩
          replace T := Lib.hid (T.out.trans (hb.mono T.out.size))
          replace KP := Lib.hid (KP.out.below hb)
          clear hb
          go_wp2_with fail
          refine hK.out _ _ (SS.out _ KP) (fun hHeld => ?_)
          clear hK K
          try simp only [Act.put, List.setIfInBounds_toArray, List.set_cons_zero, List.set_cons_succ]
          refine wpAnyH_take (i := 2) (v := ?_) (by simp only [List.getElem?_toArray, List.getElem?_cons_zero, List.getElem?_cons_succ]; exact rfl) (by kernel_rfl) (by kernel_rfl) (by kernel_rfl) (by exact fun _ _ _ h => h) (Or.inl ⟨by rfl, ?_⟩) hHeld ?_
          rotate_left
          · intro w' hSw
            clear hSw
            go_simp
            try with_reducible rfl
          try simp only [Act.put, List.setIfInBounds_toArray, List.set_cons_zero, List.set_cons_succ]
          refine wpAnyH_take (i := 3) (v := ?_) (by simp only [List.getElem?_toArray, List.getElem?_cons_zero, List.getElem?_cons_succ]; exact rfl) (by kernel_rfl) (by kernel_rfl) (by kernel_rfl) (by exact fun _ _ _ h => h) (Or.inl ⟨by rfl, ?_⟩) hHeld ?_
          rotate_left
          · intro w' hSw
            clear hSw
            go_simp
            try with_reducible rfl
          try simp only [Act.put, List.setIfInBounds_toArray, List.set_cons_zero, List.set_cons_succ]
          refine wpAnyH_take (i := 4) (v := ?_) (by simp only [List.getElem?_toArray, List.getElem?_cons_zero, List.getElem?_cons_succ]; exact rfl) (by kernel_rfl) (by kernel_rfl) (by kernel_rfl) (by exact fun _ _ _ h => h) (Or.inl ⟨by rfl, ?_⟩) hHeld ?_
          rotate_left
          · intro w' hSw
            obtain ⟨s0, s1, s2, s3, s4, s5, s6, s7, _, _, _, _, _, _, _, _, _, _, _⟩ := hSw
            go_simp
            try with_reducible rfl
          try simp only [Act.put, List.setIfInBounds_toArray, List.set_cons_zero, List.set_cons_succ]
          refine wpAnyH_ready (rs := [5]) (by kernel_rfl) (by simp) ?_
          refine (AllReadyH.cons (by simp only [List.getElem?_toArray, List.getElem?_cons_zero, List.getElem?_cons_succ]; exact rfl) (fun K hK => ?_) AllReadyH.nil)
          refine want_yes (by rfl) ?_
          go_wp2_with fail
          refine (KX2.out _).mono ?_
          rintro e w1 ⟨rfl, hb⟩
          replace T := Lib.hid (T.out.trans (hb.mono T.out.size))
          replace KP := Lib.hid (KP.out.below hb)
          clear hb
          go_wp2_with fail
          refine hK.out _ _ (SS.out _ KP) (fun hHeld => ?_)
          clear hK K
          try simp only [Act.put, List.setIfInBounds_toArray, List.set_cons_zero, List.set_cons_succ]
          refine wpAnyH_take (i := 6) (v := ?_) (by simp only [List.getElem?_toArray, List.getElem?_cons_zero, List.getElem?_cons_succ]; exact rfl) (by kernel_rfl) (by kernel_rfl) (by kernel_rfl) (by exact fun _ _ _ h => h) (Or.inl ⟨by rfl, ?_⟩) hHeld ?_
          rotate_left
          · intro w' hSw
            clear hSw
            go_simp
            try with_reducible rfl
          try simp only [Act.put, List.setIfInBounds_toArray, List.set_cons_zero, List.set_cons_succ]
          refine wpAnyH_take (i := 7) (v := ?_) (by simp only [List.getElem?_toArray, List.getElem?_cons_zero, List.getElem?_cons_succ]; exact rfl) (by kernel_rfl) (by kernel_rfl) (by kernel_rfl) (by exact fun _ _ _ h => h) (Or.inl ⟨by rfl, ?_⟩) hHeld ?_
          rotate_left
          · intro w' hSw
            clear hSw
            go_simp
            try with_reducible rfl
          try simp only [Act.put, List.setIfInBounds_toArray, List.set_cons_zero, List.set_cons_succ]
          refine wpAnyH_take (i := 8) (v := ?_) (by simp only [List.getElem?_toArray, List.getElem?_cons_zero, List.getElem?_cons_succ]; exact rfl) (by kernel_rfl) (by kernel_rfl) (by kernel_rfl) (by exact fun _ _ _ h => h) (Or.inl ⟨by rfl, ?_⟩) hHeld ?_
          rotate_left
          · intro w' hSw
            obtain ⟨s0, s1, s2, s3, s4, s5, s6, s7, _, _, _, _, _, _, _, _, _, _, _⟩ := hSw
            go_simp
            try with_reducible rfl
          try simp only [Act.put, List.setIfInBounds_toArray, List.set_cons_zero, List.set_cons_succ]
          refine wpAnyH_ready (rs := [9]) (by kernel_rfl) (by simp) ?_
          refine (AllReadyH.cons (by simp only [List.getElem?_toArray, List.getElem?_cons_zero, List.getElem?_cons_succ]; exact rfl) (fun K hK => ?_) AllReadyH.nil)
          refine want_yes (by rfl) ?_
          go_wp2_with fail
          refine (KX3.out _).mono ?_
          rintro e w1 ⟨x1, y1, k1, rfl, _, hb⟩
          replace T := Lib.hid (T.out.trans (hb.mono T.out.size))
          replace KP := Lib.hid (KP.out.below hb)
          clear hb
          go_wp2_with fail
          refine hK.out _ _ (SS.out _ KP) (fun hHeld => ?_)
          clear hK K
          try simp only [Act.put, List.setIfInBounds_toArray, List.set_cons_zero, List.set_cons_succ]
          refine wpAnyH_take (i := 10) (v := ?_) (by simp only [List.getElem?_toArray, List.getElem?_cons_zero, List.getElem?_cons_succ]; exact rfl) (by kernel_rfl) (by kernel_rfl) (by kernel_rfl) (by exact fun _ _ _ h => h) (Or.inl ⟨by rfl, ?_⟩) hHeld ?_
          rotate_left
          · intro w' hSw
            clear hSw
            go_simp
            try with_reducible rfl
          try simp only [Act.put, List.setIfInBounds_toArray, List.set_cons_zero, List.set_cons_succ]
          refine wpAnyH_take (i := 11) (v := ?_) (by simp only [List.getElem?_toArray, List.getElem?_cons_zero, List.getElem?_cons_succ]; exact rfl) (by kernel_rfl) (by kernel_rfl) (by kernel_rfl) (by exact fun _ _ _ h => h) (Or.inl ⟨by rfl, ?_⟩) hHeld ?_
          rotate_left
          · intro w' hSw
            clear hSw
            go_simp
            try with_reducible rfl
          try simp only [Act.put, List.setIfInBounds_toArray, List.set_cons_zero, List.set_cons_succ]
          refine wpAnyH_take (i := 12) (v := ?_) (by simp only [List.getElem?_toArray, List.getElem?_cons_zero, List.getElem?_cons_succ]; exact rfl) (by kernel_rfl) (by kernel_rfl) (by kernel_rfl) (by exact fun _ _ _ h => h) (Or.inl ⟨by rfl, ?_⟩) hHeld ?_
          rotate_left
          · intro w' hSw
            clear hSw
            go_simp
            try with_reducible rfl
          try simp only [Act.put, List.setIfInBounds_toArray, List.set_cons_zero, List.set_cons_succ]
          refine wpAnyH_take (i := 13) (v := ?_) (by simp only [List.getElem?_toArray, List.getElem?_cons_zero, List.getElem?_cons_succ]; exact rfl) (by kernel_rfl) (by kernel_rfl) (by kernel_rfl) (by exact fun _ _ _ h => h) (Or.inl ⟨by rfl, ?_⟩) hHeld ?_
          rotate_left
          · intro w' hSw
            clear hSw
            go_simp
            try with_reducible rfl
          try simp only [Act.put, List.setIfInBounds_toArray, List.set_cons_zero, List.set_cons_succ]
          refine wpAnyH_take (i := 14) (v := ?_) (by simp only [List.getElem?_toArray, List.getElem?_cons_zero, List.getElem?_cons_succ]; exact rfl) (by kernel_rfl) (by kernel_rfl) (by kernel_rfl) (by exact fun _ _ _ h => h) (Or.inl ⟨by rfl, ?_⟩) hHeld ?_
          rotate_left
          · intro w' hSw
            clear hSw
            go_simp
            try with_reducible rfl
          try simp only [Act.put, List.setIfInBounds_toArray, List.set_cons_zero, List.set_cons_succ]
          refine wpAnyH_take (i := 15) (v := ?_) (by simp only [List.getElem?_toArray, List.getElem?_cons_zero, List.getElem?_cons_succ]; exact rfl) (by kernel_rfl) (by kernel_rfl) (by kernel_rfl) (by exact fun _ _ _ h => h) (Or.inl ⟨by rfl, ?_⟩) hHeld ?_
          rotate_left
          · intro w' hSw
            obtain ⟨s0, _, _, _, _, _, _, _, _, _, _, _, _, _, _, _, _, _, _⟩ := hSw
            go_simp
            try with_reducible rfl
          try simp only [Act.put, List.setIfInBounds_toArray, List.set_cons_zero, List.set_cons_succ]
          refine wpAnyH_take (i := 16) (v := ?_) (by simp only [List.getElem?_toArray, List.getElem?_cons_zero, List.getElem?_cons_succ]; exact rfl) (by kernel_rfl) (by kernel_rfl) (by kernel_rfl) (by exact fun _ _ _ h => h) (Or.inl ⟨by rfl, ?_⟩) hHeld ?_
          rotate_left
          · intro w' hSw
            clear hSw
            go_simp
            try with_reducible rfl
          try simp only [Act.put, List.setIfInBounds_toArray, List.set_cons_zero, List.set_cons_succ]
          refine wpAnyH_take (i := 17) (v := ?_) (by simp only [List.getElem?_toArray, List.getElem?_cons_zero, List.getElem?_cons_succ]; exact rfl) (by kernel_rfl) (by kernel_rfl) (by kernel_rfl) (by exact fun _ _ _ h => h) (Or.inl ⟨by rfl, ?_⟩) hHeld ?_
          rotate_left
          · intro w' hSw
            obtain ⟨_, _, _, _, _, _, _, _, _, s9, _, _, _, _, _, _, _, _, _⟩ := hSw
            go_simp
            try with_reducible rfl
          try simp only [Act.put, List.setIfInBounds_toArray, List.set_cons_zero, List.set_cons_succ]
          refine wpAnyH_take (i := 18) (v := ?_) (by simp only [List.getElem?_toArray, List.getElem?_cons_zero, List.getElem?_cons_succ]; exact rfl) (by kernel_rfl) (by kernel_rfl) (by kernel_rfl) (by exact fun _ _ _ h => h) (Or.inl ⟨by rfl, ?_⟩) hHeld ?_
          rotate_left
          · intro w' hSw
            clear hSw
            go_simp
            try with_reducible rfl
          try simp only [Act.put, List.setIfInBounds_toArray, List.set_cons_zero, List.set_cons_succ]
          refine wpAnyH_take (i := 19) (v := ?_) (by simp only [List.getElem?_toArray, List.getElem?_cons_zero, List.getElem?_cons_succ]; exact rfl) (by kernel_rfl) (by kernel_rfl) (by kernel_rfl) (by exact fun _ _ _ h => h) (Or.inl ⟨by rfl, ?_⟩) hHeld ?_
          rotate_left
          · intro w' hSw
            clear hSw
            go_simp
            try with_reducible rfl
          try simp only [Act.put, List.setIfInBounds_toArray, List.set_cons_zero, List.set_cons_succ]
          refine wpAnyH_take (i := 20) (v := ?_) (by simp only [List.getElem?_toArray, List.getElem?_cons_zero, List.getElem?_cons_succ]; exact rfl) (by kernel_rfl) (by kernel_rfl) (by kernel_rfl) (by exact fun _ _ _ h => h) (Or.inl ⟨by rfl, ?_⟩) hHeld ?_
          rotate_left
          · intro w' hSw
            clear hSw
            go_simp
            try with_reducible rfl
          try simp only [Act.put, List.setIfInBounds_toArray, List.set_cons_zero, List.set_cons_succ]
          refine wpAnyH_take (i := 21) (v := ?_) (by simp only [List.getElem?_toArray, List.getElem?_cons_zero, List.getElem?_cons_succ]; exact rfl) (by kernel_rfl) (by kernel_rfl) (by kernel_rfl) (by exact fun _ _ _ h => h) (Or.inl ⟨by rfl, ?_⟩) hHeld ?_
          rotate_left
          · intro w' hSw
            clear hSw
            go_simp
            try with_reducible rfl
          try simp only [Act.put, List.setIfInBounds_toArray, List.set_cons_zero, List.set_cons_succ]
          refine wpAnyH_take (i := 22) (v := ?_) (by simp only [List.getElem?_toArray, List.getElem?_cons_zero, List.getElem?_cons_succ]; exact rfl) (by kernel_rfl) (by kernel_rfl) (by kernel_rfl) (by exact fun _ _ _ h => h) (Or.inl ⟨by rfl, ?_⟩) hHeld ?_
          rotate_left
          · intro w' hSw
            obtain ⟨_, s1, _, _, _, _, _, _, _, _, _, _, _, _, _, _, _, _, _⟩ := hSw
            go_simp
            try with_reducible rfl
          try simp only [Act.put, List.setIfInBounds_toArray, List.set_cons_zero, List.set_cons_succ]
          refine wpAnyH_take (i := 23) (v := ?_) (by simp only [List.getElem?_toArray, List.getElem?_cons_zero, List.getElem?_cons_succ]; exact rfl) (by kernel_rfl) (by kernel_rfl) (by kernel_rfl) (by exact fun _ _ _ h => h) (Or.inl ⟨by rfl, ?_⟩) hHeld ?_
          rotate_left
          · intro w' hSw
            clear hSw
            go_simp
            try with_reducible rfl
          try simp only [Act.put, List.setIfInBounds_toArray, List.set_cons_zero, List.set_cons_succ]
          refine wpAnyH_take (i := 24) (v := ?_) (by simp only [List.getElem?_toArray, List.getElem?_cons_zero, List.getElem?_cons_succ]; exact rfl) (by kernel_rfl) (by kernel_rfl) (by kernel_rfl) (by exact fun _ _ _ h => h) (Or.inl ⟨by rfl, ?_⟩) hHeld ?_
          rotate_left
          · intro w' hSw
            obtain ⟨_, _, _, _, _, _, _, _, s8, _, _, _, _, _, _, _, _, _, _⟩ := hSw
            go_simp
            try with_reducible rfl
          try simp only [Act.put, List.setIfInBounds_toArray, List.set_cons_zero, List.set_cons_succ]
          refine wpAnyH_take (i := 25) (v := ?_) (by simp only [List.getElem?_toArray, List.getElem?_cons_zero, List.getElem?_cons_succ]; exact rfl) (by kernel_rfl) (by kernel_rfl) (by kernel_rfl) (by exact fun _ _ _ h => h) (Or.inl ⟨by rfl, ?_⟩) hHeld ?_
          rotate_left
          · intro w' hSw
            clear hSw
            go_simp
            try with_reducible rfl
          try simp only [Act.put, List.setIfInBounds_toArray, List.set_cons_zero, List.set_cons_succ]
          refine wpAnyH_take (i := 26) (v := ?_) (by simp only [List.getElem?_toArray, List.getElem?_cons_zero, List.getElem?_cons_succ]; exact rfl) (by kernel_rfl) (by kernel_rfl) (by kernel_rfl) (by exact fun _ _ _ h => h) (Or.inl ⟨by rfl, ?_⟩) hHeld ?_
          rotate_left
          · intro w' hSw
            clear hSw
            go_simp
            try with_reducible rfl
          try simp only [Act.put, List.setIfInBounds_toArray, List.set_cons_zero, List.set_cons_succ]
          refine wpAnyH_take (i := 27) (v := ?_) (by simp only [List.getElem?_toArray, List.getElem?_cons_zero, List.getElem?_cons_succ]; exact rfl) (by kernel_rfl) (by kernel_rfl) (by kernel_rfl) (by exact fun _ _ _ h => h) (Or.inl ⟨by rfl, ?_⟩) hHeld ?_
          rotate_left
          · intro w' hSw
            clear hSw
            go_simp
            try with_reducible rfl
          try simp only [Act.put, List.setIfInBounds_toArray, List.set_cons_zero, List.set_cons_succ]
          refine wpAnyH_take (i := 28) (v := ?_) (by simp only [List.getElem?_toArray, List.getElem?_cons_zero, List.getElem?_cons_succ]; exact rfl) (by kernel_rfl) (by kernel_rfl) (by kernel_rfl) (by exact fun _ _ _ h => h) (Or.inl ⟨by rfl, ?_⟩) hHeld ?_
          rotate_left
          · intro w' hSw
            clear hSw
            go_simp
            try with_reducible rfl
          try simp only [Act.put, List.setIfInBounds_toArray, List.set_cons_zero, List.set_cons_succ]
          refine wpAnyH_take (i := 29) (v := ?_) (by simp only [List.getElem?_toArray, List.getElem?_cons_zero, List.getElem?_cons_succ]; exact rfl) (by kernel_rfl) (by kernel_rfl) (by kernel_rfl) (by exact fun _ _ _ h => h) (Or.inl ⟨by rfl, ?_⟩) hHeld ?_
          rotate_left
          · intro w' hSw
            obtain ⟨_, _, _, _, _, _, _, s7, _, _, _, _, _, _, _, _, _, _, _⟩ := hSw
            go_simp
            try with_reducible rfl
          try simp only [Act.put, List.setIfInBounds_toArray, List.set_cons_zero, List.set_cons_succ]
          refine wpAnyH_take (i := 30) (v := ?_) (by simp only [List.getElem?_toArray, List.getElem?_cons_zero, List.getElem?_cons_succ]; exact rfl) (by kernel_rfl) (by kernel_rfl) (by kernel_rfl) (by exact fun _ _ _ h => h) (Or.inl ⟨by rfl, ?_⟩) hHeld ?_
          rotate_left
          · intro w' hSw
            clear hSw
            go_simp
            try with_reducible rfl
          try simp only [Act.put, List.setIfInBounds_toArray, List.set_cons_zero, List.set_cons_succ]
          refine wpAnyH_take (i := 31) (v := ?_) (by simp only [List.getElem?_toArray, List.getElem?_cons_zero, List.getElem?_cons_succ]; exact rfl) (by kernel_rfl) (by kernel_rfl) (by kernel_rfl) (by exact fun _ _ _ h => h) (Or.inl ⟨by rfl, ?_⟩) hHeld ?_
          rotate_left
          · intro w' hSw
            clear hSw
            go_simp
            try with_reducible rfl
          try simp only [Act.put, List.setIfInBounds_toArray, List.set_cons_zero, List.set_cons_succ]
          refine wpAnyH_take (i := 32) (v := ?_) (by simp only [List.getElem?_toArray, List.getElem?_cons_zero, List.getElem?_cons_succ]; exact rfl) (by kernel_rfl) (by kernel_rfl) (by kernel_rfl) (by exact fun _ _ _ h => h) (Or.inl ⟨by rfl, ?_⟩) hHeld ?_
          rotate_left
          · intro w' hSw
            clear hSw
            go_simp
            try with_reducible rfl
          try simp only [Act.put, List.setIfInBounds_toArray, List.set_cons_zero, List.set_cons_succ]
          refine wpAnyH_take (i := 33) (v := ?_) (by simp only [List.getElem?_toArray, List.getElem?_cons_zero, List.getElem?_cons_succ]; exact rfl) (by kernel_rfl) (by kernel_rfl) (by kernel_rfl) (by exact fun _ _ _ h => h) (Or.inl ⟨by rfl, ?_⟩) hHeld ?_
          rotate_left
          · intro w' hSw
            clear hSw
            go_simp
            try with_reducible rfl
          try simp only [Act.put, List.setIfInBounds_toArray, List.set_cons_zero, List.set_cons_succ]
          refine wpAnyH_take (i := 34) (v := ?_) (by simp only [List.getElem?_toArray, List.getElem?_cons_zero, List.getElem?_cons_succ]; exact rfl) (by kernel_rfl) (by kernel_rfl) (by kernel_rfl) (by exact fun _ _ _ h => h) (Or.inl ⟨by rfl, ?_⟩) hHeld ?_
          rotate_left
          · intro w' hSw
            obtain ⟨_, _, _, _, _, _, _, _, s8, s9, s10, s11, s12, s13, s14, s15, _, _, _⟩ := hSw
            go_simp
            try with_reducible rfl
          try simp only [Act.put, List.setIfInBounds_toArray, List.set_cons_zero, List.set_cons_succ]
          refine wpAnyH_ready (rs := [35]) (by kernel_rfl) (by simp) ?_
          refine (AllReadyH.cons (by simp only [List.getElem?_toArray, List.getElem?_cons_zero, List.getElem?_cons_succ]; exact rfl) (fun K hK => ?_) AllReadyH.nil)
          refine want_yes (by rfl) ?_
          go_wp2_with fail
          refine (KX4.out _).mono ?_
          rintro e w1 ⟨rfl, hb⟩
          replace T := Lib.hid (T.out.trans (hb.mono T.out.size))
          replace KP := Lib.hid (KP.out.below hb)
          rw [m16]
          clear hb
          go_wp2_with fail
          refine hK.out _ _ (SS.out _ KP) (fun hHeld => ?_)
          clear hK K
          try simp only [Act.put, List.setIfInBounds_toArray, List.set_cons_zero, List.set_cons_succ]
          refine wpAnyH_take (i := 36) (v := ?_) (by simp only [List.getElem?_toArray, List.getElem?_cons_zero, List.getElem?_cons_succ]; exact rfl) (by kernel_rfl) (by kernel_rfl) (by kernel_rfl) (by exact fun _ _ _ h => h) (Or.inl ⟨by rfl, ?_⟩) hHeld ?_
          rotate_left
          · intro w' hSw
            clear hSw
            go_simp
            try with_reducible rfl
          try simp only [Act.put, List.setIfInBounds_toArray, List.set_cons_zero, List.set_cons_succ]
          refine wpAnyH_take (i := 37) (v := ?_) (by simp only [List.getElem?_toArray, List.getElem?_cons_zero, List.getElem?_cons_succ]; exact rfl) (by kernel_rfl) (by kernel_rfl) (by kernel_rfl) (by exact fun _ _ _ h => h) (Or.inl ⟨by rfl, ?_⟩) hHeld ?_
          rotate_left
          · intro w' hSw
            clear hSw
            go_simp
            try with_reducible rfl
          try simp only [Act.put, List.setIfInBounds_toArray, List.set_cons_zero, List.set_cons_succ]
          refine wpAnyH_take (i := 38) (v := ?_) (by simp only [List.getElem?_toArray, List.getElem?_cons_zero, List.getElem?_cons_succ]; exact rfl) (by kernel_rfl) (by kernel_rfl) (by kernel_rfl) (by exact fun _ _ _ h => h) (Or.inl ⟨by rfl, ?_⟩) hHeld ?_
          rotate_left
          · intro w' hSw
            obtain ⟨_, _, s2, _, _, _, _, _, _, _, _, _, _, _, _, _, _, _, _⟩ := hSw
            go_simp
            try with_reducible rfl
          try simp only [Act.put, List.setIfInBounds_toArray, List.set_cons_zero, List.set_cons_succ]
          refine wpAnyH_take (i := 39) (v := ?_) (by simp only [List.getElem?_toArray, List.getElem?_cons_zero, List.getElem?_cons_succ]; exact rfl) (by kernel_rfl) (by kernel_rfl) (by kernel_rfl) (by exact fun _ _ _ h => h) (Or.inl ⟨by rfl, ?_⟩) hHeld ?_
          rotate_left
          · intro w' hSw
            clear hSw
            go_simp
            try with_reducible rfl
          try simp only [Act.put, List.setIfInBounds_toArray, List.set_cons_zero, List.set_cons_succ]
          refine wpAnyH_take (i := 40) (v := ?_) (by simp only [List.getElem?_toArray, List.getElem?_cons_zero, List.getElem?_cons_succ]; exact rfl) (by kernel_rfl) (by kernel_rfl) (by kernel_rfl) (by exact fun _ _ _ h => h) (Or.inl ⟨by rfl, ?_⟩) hHeld ?_
          rotate_left
          · intro w' hSw
            obtain ⟨_, _, _, _, _, _, _, _, _, _, _, s11, _, _, _, _, _, _, _⟩ := hSw
            go_simp
            try with_reducible rfl
          try simp only [Act.put, List.setIfInBounds_toArray, List.set_cons_zero, List.set_cons_succ]
          refine wpAnyH_take (i := 41) (v := ?_) (by simp only [List.getElem?_toArray, List.getElem?_cons_zero, List.getElem?_cons_succ]; exact rfl) (by kernel_rfl) (by kernel_rfl) (by kernel_rfl) (by exact fun _ _ _ h => h) (Or.inl ⟨by rfl, ?_⟩) hHeld ?_
          rotate_left
          · intro w' hSw
            clear hSw
            go_simp
            try with_reducible rfl
          try simp only [Act.put, List.setIfInBounds_toArray, List.set_cons_zero, List.set_cons_succ]
          refine wpAnyH_take (i := 42) (v := ?_) (by simp only [List.getElem?_toArray, List.getElem?_cons_zero, List.getElem?_cons_succ]; exact rfl) (by kernel_rfl) (by kernel_rfl) (by kernel_rfl) (by exact fun _ _ _ h => h) (Or.inl ⟨by rfl, ?_⟩) hHeld ?_
          rotate_left
          · intro w' hSw
            clear hSw
            go_simp
            try with_reducible rfl
          try simp only [Act.put, List.setIfInBounds_toArray, List.set_cons_zero, List.set_cons_succ]
          refine wpAnyH_take (i := 43) (v := ?_) (by simp only [List.getElem?_toArray, List.getElem?_cons_zero, List.getElem?_cons_succ]; exact rfl) (by kernel_rfl) (by kernel_rfl) (by kernel_rfl) (by exact fun _ _ _ h => h) (Or.inl ⟨by rfl, ?_⟩) hHeld ?_
          rotate_left
          · intro w' hSw
            clear hSw
            go_simp
            try with_reducible rfl
          try simp only [Act.put, List.setIfInBounds_toArray, List.set_cons_zero, List.set_cons_succ]
          refine wpAnyH_take (i := 44) (v := undef) (by simp only [List.getElem?_toArray, List.getElem?_cons_zero, List.getElem?_cons_succ]; exact rfl) (by kernel_rfl) (by kernel_rfl) (by kernel_rfl) (by exact fun _ _ _ h => h) (Or.inr ⟨by rfl, rfl⟩) hHeld ?_
          try simp only [Act.put, List.setIfInBounds_toArray, List.set_cons_zero, List.set_cons_succ]
          refine wpAnyH_ready (rs := [45]) (by kernel_rfl) (by simp) ?_
          refine (AllReadyH.cons (by simp only [List.getElem?_toArray, List.getElem?_cons_zero, List.getElem?_cons_succ]; exact rfl) (fun K hK => ?_) AllReadyH.nil)
          refine want_not (by rfl) ?_
          refine hK.out _ _ (SS.out _ KP) (fun hHeld => ?_)
          clear hK K
          try simp only [Act.put]
          try simp only [Act.put, List.setIfInBounds_toArray, List.set_cons_zero, List.set_cons_succ]
          refine wpAnyH_take (i := 46) (v := undef) (by simp only [List.getElem?_toArray, List.getElem?_cons_zero, List.getElem?_cons_succ]; exact rfl) (by kernel_rfl) (by kernel_rfl) (by kernel_rfl) (by exact fun _ _ _ h => h) (Or.inr ⟨by rfl, rfl⟩) hHeld ?_
          try simp only [Act.put, List.setIfInBounds_toArray, List.set_cons_zero, List.set_cons_succ]
          refine wpAnyH_take (i := 47) (v := undef) (by simp only [List.getElem?_toArray, List.getElem?_cons_zero, List.getElem?_cons_succ]; exact rfl) (by kernel_rfl) (by kernel_rfl) (by kernel_rfl) (by exact fun _ _ _ h => h) (Or.inr ⟨by rfl, rfl⟩) hHeld ?_
          try simp only [Act.put, List.setIfInBounds_toArray, List.set_cons_zero, List.set_cons_succ]
          refine wpAnyH_take (i := 48) (v := undef) (by simp only [List.getElem?_toArray, List.getElem?_cons_zero, List.getElem?_cons_succ]; exact rfl) (by kernel_rfl) (by kernel_rfl) (by kernel_rfl) (by exact fun _ _ _ h => h) (Or.inr ⟨by rfl, rfl⟩) hHeld ?_
          try simp only [Act.put, List.setIfInBounds_toArray, List.set_cons_zero, List.set_cons_succ]
          refine wpAnyH_take (i := 49) (v := undef) (by simp only [List.getElem?_toArray, List.getElem?_cons_zero, List.getElem?_cons_succ]; exact rfl) (by kernel_rfl) (by kernel_rfl) (by kernel_rfl) (by exact fun _ _ _ h => h) (Or.inr ⟨by rfl, rfl⟩) hHeld ?_
          try simp only [Act.put, List.setIfInBounds_toArray, List.set_cons_zero, List.set_cons_succ]
          refine wpAnyH_take (i := 50) (v := undef) (by simp only [List.getElem?_toArray, List.getElem?_cons_zero, List.getElem?_cons_succ]; exact rfl) (by kernel_rfl) (by kernel_rfl) (by kernel_rfl) (by exact fun _ _ _ h => h) (Or.inr ⟨by rfl, rfl⟩) hHeld ?_
          try simp only [Act.put, List.setIfInBounds_toArray, List.set_cons_zero, List.set_cons_succ]
          refine wpAnyH_take (i := 51) (v := undef) (by simp only [List.getElem?_toArray, List.getElem?_cons_zero, List.getElem?_cons_succ]; exact rfl) (by kernel_rfl) (by kernel_rfl) (by kernel_rfl) (by exact fun _ _ _ h => h) (Or.inr ⟨by rfl, rfl⟩) hHeld ?_
          try simp only [Act.put, List.setIfInBounds_toArray, List.set_cons_zero, List.set_cons_succ]
          refine wpAnyH_take (i := 52) (v := undef) (by simp only [List.getElem?_toArray, List.getElem?_cons_zero, List.getElem?_cons_succ]; exact rfl) (by kernel_rfl) (by kernel_rfl) (by kernel_rfl) (by exact fun _ _ _ h => h) (Or.inr ⟨by rfl, rfl⟩) hHeld ?_
          try simp only [Act.put, List.setIfInBounds_toArray, List.set_cons_zero, List.set_cons_succ]
          refine wpAnyH_ready (rs := [53]) (by kernel_rfl) (by simp) ?_
          refine (AllReadyH.cons (by simp only [List.getElem?_toArray, List.getElem?_cons_zero, List.getElem?_cons_succ]; exact rfl) (fun K hK => ?_) AllReadyH.nil)
          refine want_not (by rfl) ?_
          refine hK.out _ _ (SS.out _ KP) (fun hHeld => ?_)
          clear hK K
          try simp only [Act.put]
          try simp only [Act.put, List.setIfInBounds_toArray, List.set_cons_zero, List.set_cons_succ]
          refine wpAnyH_take (i := 54) (v := undef) (by simp only [List.getElem?_toArray, List.getElem?_cons_zero, List.getElem?_cons_succ]; exact rfl) (by kernel_rfl) (by kernel_rfl) (by kernel_rfl) (by exact fun _ _ _ h => h) (Or.inr ⟨by rfl, rfl⟩) hHeld ?_
          try simp only [Act.put, List.setIfInBounds_toArray, List.set_cons_zero, List.set_cons_succ]
          refine wpAnyH_take (i := 55) (v := undef) (by simp only [List.getElem?_toArray, List.getElem?_cons_zero, List.getElem?_cons_succ]; exact rfl) (by kernel_rfl) (by kernel_rfl) (by kernel_rfl) (by exact fun _ _ _ h => h) (Or.inr ⟨by rfl, rfl⟩) hHeld ?_
          try simp only [Act.put, List.setIfInBounds_toArray, List.set_cons_zero, List.set_cons_succ]
          refine wpAnyH_take (i := 56) (v := undef) (by simp only [List.getElem?_toArray, List.getElem?_cons_zero, List.getElem?_cons_succ]; exact rfl) (by kernel_rfl) (by kernel_rfl) (by kernel_rfl) (by exact fun _ _ _ h => h) (Or.inr ⟨by rfl, rfl⟩) hHeld ?_
          try simp only [Act.put, List.setIfInBounds_toArray, List.set_cons_zero, List.set_cons_succ]
          refine wpAnyH_take (i := 57) (v := ?_) (by simp only [List.getElem?_toArray, List.getElem?_cons_zero, List.getElem?_cons_succ]; exact rfl) (by kernel_rfl) (by kernel_rfl) (by kernel_rfl) (by exact fun _ _ _ h => h) (Or.inl ⟨by rfl, ?_⟩) hHeld ?_
          rotate_left
          · intro w' hSw
            clear hSw
            go_simp
            try with_reducible rfl
          try simp only [Act.put, List.setIfInBounds_toArray, List.set_cons_zero, List.set_cons_succ]
          refine wpAnyH_take (i := 58) (v := ?_) (by simp only [List.getElem?_toArray, List.getElem?_cons_zero, List.getElem?_cons_succ]; exact rfl) (by kernel_rfl) (by kernel_rfl) (by kernel_rfl) (by exact fun _ _ _ h => h) (Or.inl ⟨by rfl, ?_⟩) hHeld ?_
          rotate_left
          · intro w' hSw
            clear hSw
            go_simp
            try with_reducible rfl
          try simp only [Act.put, List.setIfInBounds_toArray, List.set_cons_zero, List.set_cons_succ]
          refine wpAnyH_take (i := 59) (v := ?_) (by simp only [List.getElem?_toArray, List.getElem?_cons_zero, List.getElem?_cons_succ]; exact rfl) (by kernel_rfl) (by kernel_rfl) (by kernel_rfl) (by exact fun _ _ _ h => h) (Or.inl ⟨by rfl, ?_⟩) hHeld ?_
          rotate_left
          · intro w' hSw
            clear hSw
            go_simp
            try with_reducible rfl
          try simp only [Act.put, List.setIfInBounds_toArray, List.set_cons_zero, List.set_cons_succ]
          refine wpAnyH_done (by kernel_rfl) ?_ _
          go_wp2
          go_ret
          exact ⟨rfl, T.out⟩
        case false =>
          have e2 : (tt.a == (x.s + nv) % 4294967296) = true := by simpa using (hF16.out m16).2
          have KX5 := Lib.hid (KX5.out m16)
          clear hT16 hF16
          replace T := Lib.hid T.out.drew
          replace KP := Lib.hid KP.out.drew
          refine wp_region_held_drew (S := fun W => W.cell? ⟨b8, 0, none⟩ = some (.int .i64 tt.f) ∧ W.cell? ⟨b8, 1, none⟩ = some (.int .i64 tt.t) ∧ W.cell? ⟨b8, 2, none⟩ = some (.int .i64 tt.s) ∧ W.cell? ⟨b8, 3, none⟩ = some (.int .i64 tt.a) ∧ W.cell? ⟨b8, 4, none⟩ = some (.int .i64 tt.g) ∧ W.cell? ⟨b8, 5, none⟩ = some (.int .i64 tt.w) ∧ W.cell? ⟨b8, 6, none⟩ = some (.int .i64 tt.m) ∧ W.cell? ⟨b8, 7, none⟩ = some (.slice a2 0 c2) ∧ W.cell? ⟨b3, 0, none⟩ = some (.int .i64 x.f) ∧ W.cell? ⟨b3, 1, none⟩ = some (.int .i64 x.t) ∧ W.cell? ⟨b3, 2, none⟩ = some (.int .i64 x.s) ∧ W.cell? ⟨b3, 3, none⟩ = some (.int .i64 x.a) ∧ W.cell? ⟨b3, 4, none⟩ = some (.int .i64 x.g) ∧ W.cell? ⟨b3, 5, none⟩ = some (.int .i64 x.w) ∧ W.cell? ⟨b3, 6, none⟩ = some (.int .i64 x.m) ∧ W.cell? ⟨b3, 7, none⟩ = some (.slice a1 n1 c1) ∧ W.cell? ⟨b5, 0, none⟩ = some (.int .i64 nc) ∧ W.cell? ⟨b5, 1, none⟩ = some (.int .i64 nv) ∧ Hid (Kp bm rl W)) (by kernel_rfl) (SS.out _ KP) (fun hHeld => ?_)
          refine wpAnyH_take (i := 0) (v := ?_) (by simp only [List.getElem?_toArray, List.getElem?_cons_zero]; exact rfl) (by kernel_rfl) (by kernel_rfl) (by kernel_rfl) (by exact fun _ _ _ h => h) (Or.inl ⟨by rfl, ?_⟩) hHeld ?_
          rotate_left
          · intro w' hSw
            obtain ⟨s0, s1, s2, s3, s4, s5, s6, s7, _, _, _, _, _, _, _, _, _, _, _⟩ := hSw
            go_simp
            try with_reducible rfl
          try simp only [Act.put, List.setIfInBounds_toArray, List.set_cons_zero, List.set_cons_succ]
          refine wpAnyH_ready (rs := [1]) (by kernel_rfl) (by simp) ?_
          refine (AllReadyH.cons (by simp only [List.getElem?_toArray, List.getElem?_cons_zero, List.getElem?_cons_succ]; exact rfl) (fun K hK => ?_) AllReadyH.nil)
          refine want_none (by exact rfl) ?_
          go_wp2_with fail
          refine (KX1.out _).mono ?_
          rintro e w1 ⟨rfl, hb⟩
          replace T := Lib.hid (T.out.trans (hb.mono T.out.size))
          replace KP := Lib.hid (KP.out.below hb)
          clear hb
          go_wp2_with fail
          refine hK.out _ _ (SS.out _ KP) (fun hHeld => ?_)
          clear hK K
          try simp only [Act.put, List.setIfInBounds_toArray, List.set_cons_zero, List.set_cons_succ]
          refine wpAnyH_take (i := 2) (v := ?_) (by simp only [List.getElem?_toArray, List.getElem?_cons_zero, List.getElem?_cons_succ]; exact rfl) (by kernel_rfl) (by kernel_rfl) (by kernel_rfl) (by exact fun _ _ _ h => h) (Or.inl ⟨by rfl, ?_⟩) hHeld ?_
          rotate_left
          · intro w' hSw
            clear hSw
            go_simp
            try with_reducible rfl
          try simp only [Act.put, List.setIfInBounds_toArray, List.set_cons_zero, List.set_cons_succ]
          refine wpAnyH_take (i := 3) (v := ?_) (by simp only [List.getElem?_toArray, List.getElem?_cons_zero, List.getElem?_cons_succ]; exact rfl) (by kernel_rfl) (by kernel_rfl) (by kernel_rfl) (by exact fun _ _ _ h => h) (Or.inl ⟨by rfl, ?_⟩) hHeld ?_
          rotate_left
          · intro w' hSw
            clear hSw
            go_simp
            try with_reducible rfl
          try simp only [Act.put, List.setIfInBounds_toArray, List.set_cons_zero, List.set_cons_succ]
          refine wpAnyH_take (i := 4) (v := ?_) (by simp only [List.getElem?_toArray, List.getElem?_cons_zero, List.getElem?_cons_succ]; exact rfl) (by kernel_rfl) (by kernel_rfl) (by kernel_rfl) (by exact fun _ _ _ h => h) (Or.inl ⟨by rfl, ?_⟩) hHeld ?_
          rotate_left
          · intro w' hSw
            obtain ⟨s0, s1, s2, s3, s4, s5, s6, s7, _, _, _, _, _, _, _, _, _, _, _⟩ := hSw
            go_simp
            try with_reducible rfl
          try simp only [Act.put, List.setIfInBounds_toArray, List.set_cons_zero, List.set_cons_succ]
          refine wpAnyH_ready (rs := [5]) (by kernel_rfl) (by simp) ?_
          refine (AllReadyH.cons (by simp only [List.getElem?_toArray, List.getElem?_cons_zero, List.getElem?_cons_succ]; exact rfl) (fun K hK => ?_) AllReadyH.nil)
          refine want_yes (by rfl) ?_
          go_wp2_with fail
          refine (KX2.out _).mono ?_
          rintro e w1 ⟨rfl, hb⟩
          replace T := Lib.hid (T.out.trans (hb.mono T.out.size))
          replace KP := Lib.hid (KP.out.below hb)
          clear hb
          go_wp2_with fail
          refine hK.out _ _ (SS.out _ KP) (fun hHeld => ?_)
          clear hK K
          try simp only [Act.put, List.setIfInBounds_toArray, List.set_cons_zero, List.set_cons_succ]
          refine wpAnyH_take (i := 6) (v := ?_) (by simp only [List.getElem?_toArray, List.getElem?_cons_zero, List.getElem?_cons_succ]; exact rfl) (by kernel_rfl) (by kernel_rfl) (by kernel_rfl) (by exact fun _ _ _ h => h) (Or.inl ⟨by rfl, ?_⟩) hHeld ?_
          rotate_left
          · intro w' hSw
            clear hSw
            go_simp
            try with_reducible rfl
          try simp only [Act.put, List.setIfInBounds_toArray, List.set_cons_zero, List.set_cons_succ]
          refine wpAnyH_take (i := 7) (v := ?_) (by simp only [List.getElem?_toArray, List.getElem?_cons_zero, List.getElem?_cons_succ]; exact rfl) (by kernel_rfl) (by kernel_rfl) (by kernel_rfl) (by exact fun _ _ _ h => h) (Or.inl ⟨by rfl, ?_⟩) hHeld ?_
          rotate_left
          · intro w' hSw
            clear hSw
            go_simp
            try with_reducible rfl
          try simp only [Act.put, List.setIfInBounds_toArray, List.set_cons_zero, List.set_cons_succ]
          refine wpAnyH_take (i := 8) (v := ?_) (by simp only [List.getElem?_toArray, List.getElem?_cons_zero, List.getElem?_cons_succ]; exact rfl) (by kernel_rfl) (by kernel_rfl) (by kernel_rfl) (by exact fun _ _ _ h => h) (Or.inl ⟨by rfl, ?_⟩) hHeld ?_
          rotate_left
          · intro w' hSw
            obtain ⟨s0, s1, s2, s3, s4, s5, s6, s7, _, _, _, _, _, _, _, _, _, _, _⟩ := hSw
            go_simp
            try with_reducible rfl
          try simp only [Act.put, List.setIfInBounds_toArray, List.set_cons_zero, List.set_cons_succ]
          refine wpAnyH_ready (rs := [9]) (by kernel_rfl) (by simp) ?_
          refine (AllReadyH.cons (by simp only [List.getElem?_toArray, List.getElem?_cons_zero, List.getElem?_cons_succ]; exact rfl) (fun K hK => ?_) AllReadyH.nil)
          refine want_yes (by rfl) ?_
          go_wp2_with fail
          refine (KX3.out _).mono ?_
          rintro e w1 ⟨x1, y1, k1, rfl, _, hb⟩
          replace T := Lib.hid (T.out.trans (hb.mono T.out.size))
          replace KP := Lib.hid (KP.out.below hb)
          clear hb
          go_wp2_with fail
          refine hK.out _ _ (SS.out _ KP) (fun hHeld => ?_)
          clear hK K
          try simp only [Act.put, List.setIfInBounds_toArray, List.set_cons_zero, List.set_cons_succ]
          refine wpAnyH_take (i := 10) (v := ?_) (by simp only [List.getElem?_toArray, List.getElem?_cons_zero, List.getElem?_cons_succ]; exact rfl) (by kernel_rfl) (by kernel_rfl) (by kernel_rfl) (by exact fun _ _ _ h => h) (Or.inl ⟨by rfl, ?_⟩) hHeld ?_
          rotate_left
          · intro w' hSw
            clear hSw
            go_simp
            try with_reducible rfl
          try simp only [Act.put, List.setIfInBounds_toArray, List.set_cons_zero, List.set_cons_succ]
          refine wpAnyH_take (i := 11) (v := ?_) (by simp only [List.getElem?_toArray, List.getElem?_cons_zero, List.getElem?_cons_succ]; exact rfl) (by kernel_rfl) (by kernel_rfl) (by kernel_rfl) (by exact fun _ _ _ h => h) (Or.inl ⟨by rfl, ?_⟩) hHeld ?_
          rotate_left
          · intro w' hSw
            clear hSw
            go_simp
            try with_reducible rfl
          try simp only [Act.put, List.setIfInBounds_toArray, List.set_cons_zero, List.set_cons_succ]
          refine wpAnyH_take (i := 12) (v := ?_) (by simp only [List.getElem?_toArray, List.getElem?_cons_zero, List.getElem?_cons_succ]; exact rfl) (by kernel_rfl) (by kernel_rfl) (by kernel_rfl) (by exact fun _ _ _ h => h) (Or.inl ⟨by rfl, ?_⟩) hHeld ?_
          rotate_left
          · intro w' hSw
            clear hSw
            go_simp
            try with_reducible rfl
          try simp only [Act.put, List.setIfInBounds_toArray, List.set_cons_zero, List.set_cons_succ]
          refine wpAnyH_take (i := 13) (v := ?_) (by simp only [List.getElem?_toArray, List.getElem?_cons_zero, List.getElem?_cons_succ]; exact rfl) (by kernel_rfl) (by kernel_rfl) (by kernel_rfl) (by exact fun _ _ _ h => h) (Or.inl ⟨by rfl, ?_⟩) hHeld ?_
          rotate_left
          · intro w' hSw
            clear hSw
            go_simp
            try with_reducible rfl
          try simp only [Act.put, List.setIfInBounds_toArray, List.set_cons_zero, List.set_cons_succ]
          refine wpAnyH_take (i := 14) (v := ?_) (by simp only [List.getElem?_toArray, List.getElem?_cons_zero, List.getElem?_cons_succ]; exact rfl) (by kernel_rfl) (by kernel_rfl) (by kernel_rfl) (by exact fun _ _ _ h => h) (Or.inl ⟨by rfl, ?_⟩) hHeld ?_
          rotate_left
          · intro w' hSw
            clear hSw
            go_simp
            try with_reducible rfl
          try simp only [Act.put, List.setIfInBounds_toArray, List.set_cons_zero, List.set_cons_succ]
          refine wpAnyH_take (i := 15) (v := ?_) (by simp only [List.getElem?_toArray, List.getElem?_cons_zero, List.getElem?_cons_succ]; exact rfl) (by kernel_rfl) (by kernel_rfl) (by kernel_rfl) (by exact fun _ _ _ h => h) (Or.inl ⟨by rfl, ?_⟩) hHeld ?_
          rotate_left
          · intro w' hSw
            obtain ⟨s0, _, _, _, _, _, _, _, _, _, _, _, _, _, _, _, _, _, _⟩ := hSw
            go_simp
            try with_reducible rfl
          try simp only [Act.put, List.setIfInBounds_toArray, List.set_cons_zero, List.set_cons_succ]
          refine wpAnyH_take (i := 16) (v := ?_) (by simp only [List.getElem?_toArray, List.getElem?_cons_zero, List.getElem?_cons_succ]; exact rfl) (by kernel_rfl) (by kernel_rfl) (by kernel_rfl) (by exact fun _ _ _ h => h) (Or.inl ⟨by rfl, ?_⟩) hHeld ?_
          rotate_left
          · intro w' hSw
            clear hSw
            go_simp
            try with_reducible rfl
          try simp only [Act.put, List.setIfInBounds_toArray, List.set_cons_zero, List.set_cons_succ]
          refine wpAnyH_take (i := 17) (v := ?_) (by simp only [List.getElem?_toArray, List.getElem?_cons_zero, List.getElem?_cons_succ]; exact rfl) (by kernel_rfl) (by kernel_rfl) (by kernel_rfl) (by exact fun _ _ _ h => h) (Or.inl ⟨by rfl, ?_⟩) hHeld ?_
          rotate_left
          · intro w' hSw
            obtain ⟨_, _, _, _, _, _, _, _, _, s9, _, _, _, _, _, _, _, _, _⟩ := hSw
            go_simp
            try with_reducible rfl
          try simp only [Act.put, List.setIfInBounds_toArray, List.set_cons_zero, List.set_cons_succ]
          refine wpAnyH_take (i := 18) (v := ?_) (by simp only [List.getElem?_toArray, List.getElem?_cons_zero, List.getElem?_cons_succ]; exact rfl) (by kernel_rfl) (by kernel_rfl) (by kernel_rfl) (by exact fun _ _ _ h => h) (Or.inl ⟨by rfl, ?_⟩) hHeld ?_
          rotate_left
          · intro w' hSw
            clear hSw
            go_simp
            try with_reducible rfl
          try simp only [Act.put, List.setIfInBounds_toArray, List.set_cons_zero, List.set_cons_succ]
          refine wpAnyH_take (i := 19) (v := ?_) (by simp only [List.getElem?_toArray, List.getElem?_cons_zero, List.getElem?_cons_succ]; exact rfl) (by kernel_rfl) (by kernel_rfl) (by kernel_rfl) (by exact fun _ _ _ h => h) (Or.inl ⟨by rfl, ?_⟩) hHeld ?_
          rotate_left
          · intro w' hSw
            clear hSw
            go_simp
            try with_reducible rfl
          try simp only [Act.put, List.setIfInBounds_toArray, List.set_cons_zero, List.set_cons_succ]
          refine wpAnyH_take (i := 20) (v := ?_) (by simp only [List.getElem?_toArray, List.getElem?_cons_zero, List.getElem?_cons_succ]; exact rfl) (by kernel_rfl) (by kernel_rfl) (by kernel_rfl) (by exact fun _ _ _ h => h) (Or.inl ⟨by rfl, ?_⟩) hHeld ?_
          rotate_left
          · intro w' hSw
            clear hSw
            go_simp
            try with_reducible rfl
          try simp only [Act.put, List.setIfInBounds_toArray, List.set_cons_zero, List.set_cons_succ]
          refine wpAnyH_take (i := 21) (v := ?_) (by simp only [List.getElem?_toArray, List.getElem?_cons_zero, List.getElem?_cons_succ]; exact rfl) (by kernel_rfl) (by kernel_rfl) (by kernel_rfl) (by exact fun _ _ _ h => h) (Or.inl ⟨by rfl, ?_⟩) hHeld ?_
          rotate_left
          · intro w' hSw
            clear hSw
            go_simp
            try with_reducible rfl
          try simp only [Act.put, List.setIfInBounds_toArray, List.set_cons_zero, List.set_cons_succ]
          refine wpAnyH_take (i := 22) (v := ?_) (by simp only [List.getElem?_toArray, List.getElem?_cons_zero, List.getElem?_cons_succ]; exact rfl) (by kernel_rfl) (by kernel_rfl) (by kernel_rfl) (by exact fun _ _ _ h => h) (Or.inl ⟨by rfl, ?_⟩) hHeld ?_
          rotate_left
          · intro w' hSw
            obtain ⟨_, s1, _, _, _, _, _, _, _, _, _, _, _, _, _, _, _, _, _⟩ := hSw
            go_simp
            try with_reducible rfl
          try simp only [Act.put, List.setIfInBounds_toArray, List.set_cons_zero, List.set_cons_succ]
          refine wpAnyH_take (i := 23) (v := ?_) (by simp only [List.getElem?_toArray, List.getElem?_cons_zero, List.getElem?_cons_succ]; exact rfl) (by kernel_rfl) (by kernel_rfl) (by kernel_rfl) (by exact fun _ _ _ h => h) (Or.inl ⟨by rfl, ?_⟩) hHeld ?_
          rotate_left
          · intro w' hSw
            clear hSw
            go_simp
            try with_reducible rfl
          try simp only [Act.put, List.setIfInBounds_toArray, List.set_cons_zero, List.set_cons_succ]
          refine wpAnyH_take (i := 24) (v := ?_) (by simp only [List.getElem?_toArray, List.getElem?_cons_zero, List.getElem?_cons_succ]; exact rfl) (by kernel_rfl) (by kernel_rfl) (by kernel_rfl) (by exact fun _ _ _ h => h) (Or.inl ⟨by rfl, ?_⟩) hHeld ?_
          rotate_left
          · intro w' hSw
            obtain ⟨_, _, _, _, _, _, _, _, s8, _, _, _, _, _, _, _, _, _, _⟩ := hSw
            go_simp
            try with_reducible rfl
          try simp only [Act.put, List.setIfInBounds_toArray, List.set_cons_zero, List.set_cons_succ]
          refine wpAnyH_take (i := 25) (v := ?_) (by simp only [List.getElem?_toArray, List.getElem?_cons_zero, List.getElem?_cons_succ]; exact rfl) (by kernel_rfl) (by kernel_rfl) (by kernel_rfl) (by exact fun _ _ _ h => h) (Or.inl ⟨by rfl, ?_⟩) hHeld ?_
          rotate_left
          · intro w' hSw
            clear hSw
            go_simp
            try with_reducible rfl
          try simp only [Act.put, List.setIfInBounds_toArray, List.set_cons_zero, List.set_cons_succ]
          refine wpAnyH_take (i := 26) (v := ?_) (by simp only [List.getElem?_toArray, List.getElem?_cons_zero, List.getElem?_cons_succ]; exact rfl) (by kernel_rfl) (by kernel_rfl) (by kernel_rfl) (by exact fun _ _ _ h => h) (Or.inl ⟨by rfl, ?_⟩) hHeld ?_
          rotate_left
          · intro w' hSw
            clear hSw
            go_simp
            try with_reducible rfl
          try simp only [Act.put, List.setIfInBounds_toArray, List.set_cons_zero, List.set_cons_succ]
          refine wpAnyH_take (i := 27) (v := ?_) (by simp only [List.getElem?_toArray, List.getElem?_cons_zero, List.getElem?_cons_succ]; exact rfl) (by kernel_rfl) (by kernel_rfl) (by kernel_rfl) (by exact fun _ _ _ h => h) (Or.inl ⟨by rfl, ?_⟩) hHeld ?_
          rotate_left
          · intro w' hSw
            clear hSw
            go_simp
            try with_reducible rfl
          try simp only [Act.put, List.setIfInBounds_toArray, List.set_cons_zero, List.set_cons_succ]
          refine wpAnyH_take (i := 28) (v := ?_) (by simp only [List.getElem?_toArray, List.getElem?_cons_zero, List.getElem?_cons_succ]; exact rfl) (by kernel_rfl) (by kernel_rfl) (by kernel_rfl) (by exact fun _ _ _ h => h) (Or.inl ⟨by rfl, ?_⟩) hHeld ?_
          rotate_left
          · intro w' hSw
            clear hSw
            go_simp
            try with_reducible rfl
          try simp only [Act.put, List.setIfInBounds_toArray, List.set_cons_zero, List.set_cons_succ]
          refine wpAnyH_take (i := 29) (v := ?_) (by simp only [List.getElem?_toArray, List.getElem?_cons_zero, List.getElem?_cons_succ]; exact rfl) (by kernel_rfl) (by kernel_rfl) (by kernel_rfl) (by exact fun _ _ _ h => h) (Or.inl ⟨by rfl, ?_⟩) hHeld ?_
          rotate_left
          · intro w' hSw
            obtain ⟨_, _, _, _, _, _, _, s7, _, _, _, _, _, _, _, _, _, _, _⟩ := hSw
            go_simp
            try with_reducible rfl
          try simp only [Act.put, List.setIfInBounds_toArray, List.set_cons_zero, List.set_cons_succ]
          refine wpAnyH_take (i := 30) (v := ?_) (by simp only [List.getElem?_toArray, List.getElem?_cons_zero, List.getElem?_cons_succ]; exact rfl) (by kernel_rfl) (by kernel_rfl) (by kernel_rfl) (by exact fun _ _ _ h => h) (Or.inl ⟨by rfl, ?_⟩) hHeld ?_
          rotate_left
          · intro w' hSw
            clear hSw
            go_simp
            try with_reducible rfl
          try simp only [Act.put, List.setIfInBounds_toArray, List.set_cons_zero, List.set_cons_succ]
          refine wpAnyH_take (i := 31) (v := ?_) (by simp only [List.getElem?_toArray, List.getElem?_cons_zero, List.getElem?_cons_succ]; exact rfl) (by kernel_rfl) (by kernel_rfl) (by kernel_rfl) (by exact fun _ _ _ h => h) (Or.inl ⟨by rfl, ?_⟩) hHeld ?_
          rotate_left
          · intro w' hSw
            clear hSw
            go_simp
            try with_reducible rfl
          try simp only [Act.put, List.setIfInBounds_toArray, List.set_cons_zero, List.set_cons_succ]
          refine wpAnyH_take (i := 32) (v := ?_) (by simp only [List.getElem?_toArray, List.getElem?_cons_zero, List.getElem?_cons_succ]; exact rfl) (by kernel_rfl) (by kernel_rfl) (by kernel_rfl) (by exact fun _ _ _ h => h) (Or.inl ⟨by rfl, ?_⟩) hHeld ?_
          rotate_left
          · intro w' hSw
            clear hSw
            go_simp
            try with_reducible rfl
          try simp only [Act.put, List.setIfInBounds_toArray, List.set_cons_zero, List.set_cons_succ]
          refine wpAnyH_take (i := 33) (v := ?_) (by simp only [List.getElem?_toArray, List.getElem?_cons_zero, List.getElem?_cons_succ]; exact rfl) (by kernel_rfl) (by kernel_rfl) (by kernel_rfl) (by exact fun _ _ _ h => h) (Or.inl ⟨by rfl, ?_⟩) hHeld ?_
          rotate_left
          · intro w' hSw
            clear hSw
            go_simp
            try with_reducible rfl
          try simp only [Act.put, List.setIfInBounds_toArray, List.set_cons_zero, List.set_cons_succ]
          refine wpAnyH_take (i := 34) (v := ?_) (by simp only [List.getElem?_toArray, List.getElem?_cons_zero, List.getElem?_cons_succ]; exact rfl) (by kernel_rfl) (by kernel_rfl) (by kernel_rfl) (by exact fun _ _ _ h => h) (Or.inl ⟨by rfl, ?_⟩) hHeld ?_
          rotate_left
          · intro w' hSw
            obtain ⟨_, _, _, _, _, _, _, _, s8, s9, s10, s11, s12, s13, s14, s15, _, _, _⟩ := hSw
            go_simp
            try with_reducible rfl
          try simp only [Act.put, List.setIfInBounds_toArray, List.set_cons_zero, List.set_cons_succ]
          refine wpAnyH_ready (rs := [35]) (by kernel_rfl) (by simp) ?_
          refine (AllReadyH.cons (by simp only [List.getElem?_toArray, List.getElem?_cons_zero, List.getElem?_cons_succ]; exact rfl) (fun K hK => ?_) AllReadyH.nil)
          refine want_yes (by rfl) ?_
          go_wp2_with fail
          refine (KX4.out _).mono ?_
          rintro e w1 ⟨rfl, hb⟩
          replace T := Lib.hid (T.out.trans (hb.mono T.out.size))
          replace KP := Lib.hid (KP.out.below hb)
          rw [m16]
          clear hb
          go_wp2_with fail
          refine hK.out _ _ (SS.out _ KP) (fun hHeld => ?_)
          clear hK K
          try simp only [Act.put, List.setIfInBounds_toArray, List.set_cons_zero, List.set_cons_succ]
          refine wpAnyH_take (i := 36) (v := ?_) (by simp only [List.getElem?_toArray, List.getElem?_cons_zero, List.getElem?_cons_succ]; exact rfl) (by kernel_rfl) (by kernel_rfl) (by kernel_rfl) (by exact fun _ _ _ h => h) (Or.inl ⟨by rfl, ?_⟩) hHeld ?_
          rotate_left
          · intro w' hSw
            clear hSw
            go_simp
            try with_reducible rfl
          try simp only [Act.put, List.setIfInBounds_toArray, List.set_cons_zero, List.set_cons_succ]
          refine wpAnyH_take (i := 37) (v := undef) (by simp only [List.getElem?_toArray, List.getElem?_cons_zero, List.getElem?_cons_succ]; exact rfl) (by kernel_rfl) (by kernel_rfl) (by kernel_rfl) (by exact fun _ _ _ h => h) (Or.inr ⟨by rfl, rfl⟩) hHeld ?_
          try simp only [Act.put, List.setIfInBounds_toArray, List.set_cons_zero, List.set_cons_succ]
          refine wpAnyH_take (i := 38) (v := undef) (by simp only [List.getElem?_toArray, List.getElem?_cons_zero, List.getElem?_cons_succ]; exact rfl) (by kernel_rfl) (by kernel_rfl) (by kernel_rfl) (by exact fun _ _ _ h => h) (Or.inr ⟨by rfl, rfl⟩) hHeld ?_
          try simp only [Act.put, List.setIfInBounds_toArray, List.set_cons_zero, List.set_cons_succ]
          refine wpAnyH_take (i := 39) (v := undef) (by simp only [List.getElem?_toArray, List.getElem?_cons_zero, List.getElem?_cons_succ]; exact rfl) (by kernel_rfl) (by kernel_rfl) (by kernel_rfl) (by exact fun _ _ _ h => h) (Or.inr ⟨by rfl, rfl⟩) hHeld ?_
          try simp only [Act.put, List.setIfInBounds_toArray, List.set_cons_zero, List.set_cons_succ]
          refine wpAnyH_take (i := 40) (v := undef) (by simp only [List.getElem?_toArray, List.getElem?_cons_zero, List.getElem?_cons_succ]; exact rfl) (by kernel_rfl) (by kernel_rfl) (by kernel_rfl) (by exact fun _ _ _ h => h) (Or.inr ⟨by rfl, rfl⟩) hHeld ?_
          try simp only [Act.put, List.setIfInBounds_toArray, List.set_cons_zero, List.set_cons_succ]
          refine wpAnyH_take (i := 41) (v := undef) (by simp only [List.getElem?_toArray, List.getElem?_cons_zero, List.getElem?_cons_succ]; exact rfl) (by kernel_rfl) (by kernel_rfl) (by kernel_rfl) (by exact fun _ _ _ h => h) (Or.inr ⟨by rfl, rfl⟩) hHeld ?_
          try simp only [Act.put, List.setIfInBounds_toArray, List.set_cons_zero, List.set_cons_succ]
          refine wpAnyH_take (i := 42) (v := ?_) (by simp only [List.getElem?_toArray, List.getElem?_cons_zero, List.getElem?_cons_succ]; exact rfl) (by kernel_rfl) (by kernel_rfl) (by kernel_rfl) (by exact fun _ _ _ h => h) (Or.inl ⟨by rfl, ?_⟩) hHeld ?_
          rotate_left
          · intro w' hSw
            clear hSw
            go_simp
            try with_reducible rfl
          try simp only [Act.put, List.setIfInBounds_toArray, List.set_cons_zero, List.set_cons_succ]
          refine wpAnyH_take (i := 43) (v := ?_) (by simp only [List.getElem?_toArray, List.getElem?_cons_zero, List.getElem?_cons_succ]; exact rfl) (by kernel_rfl) (by kernel_rfl) (by kernel_rfl) (by exact fun _ _ _ h => h) (Or.inl ⟨by rfl, ?_⟩) hHeld ?_
          rotate_left
          · intro w' hSw
            clear hSw
            go_simp
            try with_reducible rfl
          try simp only [Act.put, List.setIfInBounds_toArray, List.set_cons_zero, List.set_cons_succ]
          refine wpAnyH_take (i := 44) (v := ?_) (by simp only [List.getElem?_toArray, List.getElem?_cons_zero, List.getElem?_cons_succ]; exact rfl) (by kernel_rfl) (by kernel_rfl) (by kernel_rfl) (by exact fun _ _ _ h => h) (Or.inl ⟨by rfl, ?_⟩) hHeld ?_
          rotate_left
          · intro w' hSw
            obtain ⟨s0, s1, s2, s3, s4, s5, s6, s7, _, _, _, _, _, _, _, _, _, _, _⟩ := hSw
            go_simp
            try with_reducible rfl
          try simp only [Act.put, List.setIfInBounds_toArray, List.set_cons_zero, List.set_cons_succ]
          refine wpAnyH_ready (rs := [45]) (by kernel_rfl) (by simp) ?_
          refine (AllReadyH.cons (by simp only [List.getElem?_toArray, List.getElem?_cons_zero, List.getElem?_cons_succ]; exact rfl) (fun K hK => ?_) AllReadyH.nil)
          refine want_yes (by rfl) ?_
          go_wp2_with fail
          refine (KX5.out _).mono ?_
          rintro e w1 ⟨rfl, hb⟩
          replace T := Lib.hid (T.out.trans (hb.mono T.out.size))
          replace KP := Lib.hid (KP.out.below hb)
          clear hb
          go_wp2_with fail
          refine hK.out _ _ (SS.out _ KP) (fun hHeld => ?_)
          clear hK K
          try simp only [Act.put, List.setIfInBounds_toArray, List.set_cons_zero, List.set_cons_succ]
          refine wpAnyH_take (i := 46) (v := ?_) (by simp only [List.getElem?_toArray, List.getElem?_cons_zero, List.getElem?_cons_succ]; exact rfl) (by kernel_rfl) (by kernel_rfl) (by kernel_rfl) (by exact fun _ _ _ h => h) (Or.inl ⟨by rfl, ?_⟩) hHeld ?_
          rotate_left
          · intro w' hSw
            clear hSw
            go_simp
            try with_reducible rfl
          try simp only [Act.put, List.setIfInBounds_toArray, List.set_cons_zero, List.set_cons_succ]
          refine wpAnyH_take (i := 47) (v := ?_) (by simp only [List.getElem?_toArray, List.getElem?_cons_zero, List.getElem?_cons_succ]; exact rfl) (by kernel_rfl) (by kernel_rfl) (by kernel_rfl) (by exact fun _ _ _ h => h) (Or.inl ⟨by rfl, ?_⟩) hHeld ?_
          rotate_left
          · intro w' hSw
            clear hSw
            go_simp
            try with_reducible rfl
          try simp only [Act.put, List.setIfInBounds_toArray, List.set_cons_zero, List.set_cons_succ]
          refine wpAnyH_take (i := 48) (v := ?_) (by simp only [List.getElem?_toArray, List.getElem?_cons_zero, List.getElem?_cons_succ]; exact rfl) (by kernel_rfl) (by kernel_rfl) (by kernel_rfl) (by exact fun _ _ _ h => h) (Or.inl ⟨by rfl, ?_⟩) hHeld ?_
          rotate_left
          · intro w' hSw
            obtain ⟨_, _, _, s3, _, _, _, _, _, _, _, _, _, _, _, _, _, _, _⟩ := hSw
            go_simp
            try with_reducible rfl
          try simp only [Act.put, List.setIfInBounds_toArray, List.set_cons_zero, List.set_cons_succ]
          refine wpAnyH_take (i := 49) (v := ?_) (by simp only [List.getElem?_toArray, List.getElem?_cons_zero, List.getElem?_cons_succ]; exact rfl) (by kernel_rfl) (by kernel_rfl) (by kernel_rfl) (by exact fun _ _ _ h => h) (Or.inl ⟨by rfl, ?_⟩) hHeld ?_
          rotate_left
          · intro w' hSw
            clear hSw
            go_simp
            try with_reducible rfl
          try simp only [Act.put, List.setIfInBounds_toArray, List.set_cons_zero, List.set_cons_succ]
          refine wpAnyH_take (i := 50) (v := ?_) (by simp only [List.getElem?_toArray, List.getElem?_cons_zero, List.getElem?_cons_succ]; exact rfl) (by kernel_rfl) (by kernel_rfl) (by kernel_rfl) (by exact fun _ _ _ h => h) (Or.inl ⟨by rfl, ?_⟩) hHeld ?_
          rotate_left
          · intro w' hSw
            obtain ⟨_, _, _, _, _, _, _, _, _, _, s10, _, _, _, _, _, _, _, _⟩ := hSw
            go_simp
            try with_reducible rfl
          try simp only [Act.put, List.setIfInBounds_toArray, List.set_cons_zero, List.set_cons_succ]
          refine wpAnyH_take (i := 51) (v := ?_) (by simp only [List.getElem?_toArray, List.getElem?_cons_zero, List.getElem?_cons_succ]; exact rfl) (by kernel_rfl) (by kernel_rfl) (by kernel_rfl) (by exact fun _ _ _ h => h) (Or.inl ⟨by rfl, ?_⟩) hHeld ?_
          rotate_left
          · intro w' hSw
            clear hSw
            go_simp
            try with_reducible rfl
          try simp only [Act.put, List.setIfInBounds_toArray, List.set_cons_zero, List.set_cons_succ]
          refine wpAnyH_take (i := 52) (v := ?_) (by simp only [List.getElem?_toArray, List.getElem?_cons_zero, List.getElem?_cons_succ]; exact rfl) (by kernel_rfl) (by kernel_rfl) (by kernel_rfl) (by exact fun _ _ _ h => h) (Or.inl ⟨by rfl, ?_⟩) hHeld ?_
          rotate_left
          · intro w' hSw
            obtain ⟨_, _, _, _, _, _, _, _, _, _, _, _, _, _, _, _, _, s17, _⟩ := hSw
            go_simp
            try with_reducible rfl
          try simp only [Act.put, List.setIfInBounds_toArray, List.set_cons_zero, List.set_cons_succ]
          refine wpAnyH_ready (rs := [53]) (by kernel_rfl) (by simp) ?_
          refine (AllReadyH.cons (by simp only [List.getElem?_toArray, List.getElem?_cons_zero, List.getElem?_cons_succ]; exact rfl) (fun K hK => ?_) AllReadyH.nil)
          refine want_yes (by rfl) ?_
          go_wp2_with fail
          refine (KX6.out _).mono ?_
          rintro e w1 ⟨rfl, hb⟩
          replace T := Lib.hid (T.out.trans (hb.mono T.out.size))
          replace KP := Lib.hid (KP.out.below hb)
          clear hb
          go_wp2_with fail
          refine hK.out _ _ (SS.out _ KP) (fun hHeld => ?_)
          clear hK K
          try simp only [Act.put, List.setIfInBounds_toArray, List.set_cons_zero, List.set_cons_succ]
          refine wpAnyH_take (i := 54) (v := ?_) (by simp only [List.getElem?_toArray, List.getElem?_cons_zero, List.getElem?_cons_succ]; exact rfl) (by kernel_rfl) (by kernel_rfl) (by kernel_rfl) (by exact fun _ _ _ h => h) (Or.inl ⟨by rfl, ?_⟩) hHeld ?_
          rotate_left
          · intro w' hSw
            clear hSw
            go_simp
            try with_reducible rfl
          try simp only [Act.put, List.setIfInBounds_toArray, List.set_cons_zero, List.set_cons_succ]
          refine wpAnyH_take (i := 55) (v := ?_) (by simp only [List.getElem?_toArray, List.getElem?_cons_zero, List.getElem?_cons_succ]; exact rfl) (by kernel_rfl) (by kernel_rfl) (by kernel_rfl) (by exact fun _ _ _ h => h) (Or.inl ⟨by rfl, ?_⟩) hHeld ?_
          rotate_left
          · intro w' hSw
            clear hSw
            go_simp
            try with_reducible rfl
          try simp only [Act.put, List.setIfInBounds_toArray, List.set_cons_zero, List.set_cons_succ]
          refine wpAnyH_take (i := 56) (v := ?_) (by simp only [List.getElem?_toArray, List.getElem?_cons_zero, List.getElem?_cons_succ]; exact rfl) (by kernel_rfl) (by kernel_rfl) (by kernel_rfl) (by exact fun _ _ _ h => h) (Or.inl ⟨by rfl, ?_⟩) hHeld ?_
          rotate_left
          · intro w' hSw
            clear hSw
            go_simp
            try with_reducible rfl
          try simp only [Act.put, List.setIfInBounds_toArray, List.set_cons_zero, List.set_cons_succ]
          refine wpAnyH_take (i := 57) (v := ?_) (by simp only [List.getElem?_toArray, List.getElem?_cons_zero, List.getElem?_cons_succ]; exact rfl) (by kernel_rfl) (by kernel_rfl) (by kernel_rfl) (by exact fun _ _ _ h => h) (Or.inl ⟨by rfl, ?_⟩) hHeld ?_
          rotate_left
          · intro w' hSw
            clear hSw
            go_simp
            try with_reducible rfl
          try simp only [Act.put, List.setIfInBounds_toArray, List.set_cons_zero, List.set_cons_succ]
          refine wpAnyH_take (i := 58) (v := ?_) (by simp only [List.getElem?_toArray, List.getElem?_cons_zero, List.getElem?_cons_succ]; exact rfl) (by kernel_rfl) (by kernel_rfl) (by kernel_rfl) (by exact fun _ _ _ h => h) (Or.inl ⟨by rfl, ?_⟩) hHeld ?_
          rotate_left
          · intro w' hSw
            clear hSw
            go_simp
            try with_reducible rfl
          try simp only [Act.put, List.setIfInBounds_toArray, List.set_cons_zero, List.set_cons_succ]
          refine wpAnyH_take (i := 59) (v := ?_) (by simp only [List.getElem?_toArray, List.getElem?_cons_zero, List.getElem?_cons_succ]; exact rfl) (by kernel_rfl) (by kernel_rfl) (by kernel_rfl) (by exact fun _ _ _ h => h) (Or.inl ⟨by rfl, ?_⟩) hHeld ?_
          rotate_left
          · intro w' hSw
            clear hSw
            go_simp
            try with_reducible rfl
          try simp only [Act.put, List.setIfInBounds_toArray, List.set_cons_zero, List.set_cons_succ]
          refine wpAnyH_done (by kernel_rfl) ?_ _
          go_wp2
          go_ret
          exact ⟨rfl, T.out⟩
end Go.Proofs.Yteaiemckcepphaa
