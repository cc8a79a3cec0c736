/-
  The law FnSegments, where the program answers as it should.
-/
import Derived.Test.YteaiemckcepphaaSgM
import Derived.Test.YteaiemckcepphaaSgG
import Derived.Test.YteaiemckcepphaaMD
import Derived.Deep.DeepCutAuto
namespace Go.Proofs.Yteaiemckcepphaa
open Go.ChangeShapes Go.WideShapes Go.ChangeAt Go.RowKit

theorem fld_sr0 (w : World) (c f t s k g v m : Int) (a : Option Addr) (n p : Nat) : (Instr.field 34 (.agg #[.int .i64 c, .int .i64 f, .int .i64 t, .int .i64 s, .int .i64 k, .int .i64 g, .int .i64 v, .int .i64 m, .slice a n p]) 0).run Try.prog w = .ok (.int .i64 c) w := by
  simp [Instr.field, asAgg, go_sem]
theorem fld_sr1 (w : World) (c f t s k g v m : Int) (a : Option Addr) (n p : Nat) : (Instr.field 34 (.agg #[.int .i64 c, .int .i64 f, .int .i64 t, .int .i64 s, .int .i64 k, .int .i64 g, .int .i64 v, .int .i64 m, .slice a n p]) 1).run Try.prog w = .ok (.agg #[.int .i64 f, .int .i64 t, .int .i64 s, .int .i64 k, .int .i64 g, .int .i64 v, .int .i64 m, .slice a n p]) w := by
  simp [Instr.field, asAgg, go_sem]
theorem fld_sb1 (w : World) (c : Int) (a : Option Addr) (l k : Nat) : (Instr.field 29 (.agg #[.int .i64 c, .slice a l k]) 1).run Try.prog w = .ok (.slice a l k) w := by
  simp [Instr.field, asAgg, go_sem]
theorem sameG_self (x : Sg) (zs : List Int) : sameG x zs x zs = true := by simp [sameG, eqL]

set_option maxRecDepth 100000 in
set_option maxHeartbeats 8000000 in
theorem segments_law (a : Option Addr) (len cap : Nat) (zs : List Int) (w : World) (hr : Rd w a len cap zs)
    (iPack : ∀ (f t : Int) (x : Sg) (a : Option Addr) (len cap : Nat) (zs : List Int) (w : World), Rd w a len cap zs → Calls Try.prog 14 #[.int .i64 f, .int .i64 t, .agg #[.int .i64 x.f, .int .i64 x.t, .int .i64 x.s, .int .i64 x.a, .int .i64 x.g, .int .i64 x.w, .int .i64 x.m, .slice a len cap]] w (Packed w (psC f t x zs.length) (psP f t x zs)))
    (iRead : ∀ (f t : Int) (a : Option Addr) (len cap : Nat) (zs : List Int) (w : World), Rd w a len cap zs → Calls Try.prog 16 #[.int .i64 f, .int .i64 t, .slice a len cap] w (RsRes w (rsAns f t zs)))
    (iFault : ∀ (x : Sg) (a : Option Addr) (len cap : Nat) (w : World), Calls Try.prog 21 #[.agg #[.int .i64 x.f, .int .i64 x.t, .int .i64 x.s, .int .i64 x.a, .int .i64 x.g, .int .i64 x.w, .int .i64 x.m, .slice a len cap]] w fun e w' => e = .returned (.int .i64 (sgC x len)) ∧ Below w.heap.size w w')
    (iSame : ∀ (x : Sg) (a : Option Addr) (len cap : Nat) (zs : List Int) (y : Sg) (a' : Option Addr) (len' cap' : Nat) (zs' : List Int) (w : World), Rd w a len cap zs → Rd w a' len' cap' zs' → Calls Try.prog 20 #[.agg #[.int .i64 x.f, .int .i64 x.t, .int .i64 x.s, .int .i64 x.a, .int .i64 x.g, .int .i64 x.w, .int .i64 x.m, .slice a len cap], .agg #[.int .i64 y.f, .int .i64 y.t, .int .i64 y.s, .int .i64 y.a, .int .i64 y.g, .int .i64 y.w, .int .i64 y.m, .slice a' len' cap']] w fun e w' => e = .returned (.bool (sameG x zs y zs')) ∧ Below w.heap.size w w') :
    Calls Try.prog 3 #[.slice a len cap] w fun e w' => e = .returned (.bool true) ∧ Below w.heap.size w w' := by
  by_cases hl : len ≤ 1048576
  case neg =>
    have K := Lib.hid (lwBig_t a len cap w hl)
    clear hr iPack iRead iFault iSame
    go_enter Try.func3, Try.ntmps3
    go_wp2_with fail
    refine K.out.mono ?_
    rintro e w' ⟨rfl, rfl⟩
    go_wp2
    go_ret
    exact ⟨rfl, Below.refl _ _⟩
  have IP := Lib.hid iPack
  have IR := Lib.hid iRead
  have IF := Lib.hid iFault
  have IS := Lib.hid iSame
  clear iPack iRead iFault iSame
  have KL := Lib.hid (lwBig_f a len cap w hl)
  have KP : Hid (Kp [] [(a, len, cap, zs)] w) := ⟨fun x hx => (by cases hx), fun x hx => (by rcases List.mem_cons.1 hx with rfl | hx; exact hr; cases hx)⟩
  have T := Lib.hid (Below.refl w.heap.size w)
  clear hr
  go_enter Try.func3, Try.ntmps3
  go_wp2_with fail
  refine KL.out.mono ?_
  rintro e w' ⟨rfl, rfl⟩
  clear KL
  go_wp2_with fail
  refine (drawPackSegment a len cap zs _ (KP.out.2 _ (List.Mem.head _)) hl).mono ?_
  rintro e w1 ⟨pf, pt, x, a1, n1, c1, z1, rfl, o1, hn1, hb⟩
  replace T := Lib.hid (T.out.trans (hb.mono T.out.size))
  replace KP := Lib.hid (KP.out.below hb)
  replace KP := Lib.hid (KP.out.rd o1.rd)
  have H1 := Lib.hid o1.length
  clear o1
  clear hb
  replace T := Lib.hid (T.out.alloc T.out.size (.cells #[.int .i64 x.f, .int .i64 x.t, .int .i64 x.s, .int .i64 x.a, .int .i64 x.g, .int .i64 x.w, .int .i64 x.m, .slice a1 n1 c1] 25))
  replace KP := Lib.hid (KP.out.box 25 #[.int .i64 x.f, .int .i64 x.t, .int .i64 x.s, .int .i64 x.a, .int .i64 x.g, .int .i64 x.w, .int .i64 x.m, .slice a1 n1 c1])
  generalize hW : w1.alloc (.cells #[.int .i64 x.f, .int .i64 x.t, .int .i64 x.s, .int .i64 x.a, .int .i64 x.g, .int .i64 x.w, .int .i64 x.m, .slice a1 n1 c1] 25) = W at *
  have q0 := (KP.out.1 _ (List.Mem.head _)).cell 0
  have q1 := (KP.out.1 _ (List.Mem.head _)).cell 1
  have q2 := (KP.out.1 _ (List.Mem.head _)).cell 2
  have q3 := (KP.out.1 _ (List.Mem.head _)).cell 3
  have q4 := (KP.out.1 _ (List.Mem.head _)).cell 4
  have q5 := (KP.out.1 _ (List.Mem.head _)).cell 5
  have q6 := (KP.out.1 _ (List.Mem.head _)).cell 6
  have q7 := (KP.out.1 _ (List.Mem.head _)).cell 7
  go_wp2_with fail
  clear hW q0 q1 q2 q3 q4 q5 q6 q7
  generalize w1.heap.size = b5 at *
  refine (IP.out pf pt x a1 n1 c1 z1 _ (KP.out.2 _ (List.Mem.head _))).mono ?_
  rintro e w1 ⟨a2, n2, c2, rfl, o2, hb⟩
  replace T := Lib.hid (T.out.trans (hb.mono T.out.size))
  replace KP := Lib.hid (KP.out.below hb)
  replace KP := Lib.hid (KP.out.rd o2.rd)
  clear o2
  generalize hcb : psC pf pt x z1.length = cb at *
  generalize hzb : psP pf pt x z1 = zb at *
  have HCB := Lib.hid hcb
  have HZB := Lib.hid hzb
  clear hcb hzb
  clear hb
  replace T := Lib.hid (T.out.alloc T.out.size (.cells #[.int .i64 cb, .slice a2 n2 c2] 29))
  replace KP := Lib.hid (KP.out.box 29 #[.int .i64 cb, .slice a2 n2 c2])
  generalize hW : w1.alloc (.cells #[.int .i64 cb, .slice a2 n2 c2] 29) = W at *
  go_wp2_with fail
  clear hW 
  generalize w1.heap.size = b6 at *
  refine (drawReadSegment a len cap zs _ (KP.out.2 _ (List.Mem.tail _ (List.Mem.tail _ (List.Mem.head _)))) hl).mono ?_
  rintro e w1 ⟨rx, ry, a3, n3, c3, z3, rfl, r3, hb⟩
  replace T := Lib.hid (T.out.trans (hb.mono T.out.size))
  replace KP := Lib.hid (KP.out.below hb)
  replace KP := Lib.hid (KP.out.rd r3)
  clear r3
  clear hb
  go_wp2_with fail
  refine (IR.out rx ry a3 n3 c3 z3 _ (KP.out.2 _ (List.Mem.head _))).mono ?_
  rintro e w1 ⟨a4, n4, c4, rfl, o4, hb⟩
  replace T := Lib.hid (T.out.trans (hb.mono T.out.size))
  replace KP := Lib.hid (KP.out.below hb)
  replace KP := Lib.hid (KP.out.rd o4.rd)
  clear o4
  generalize hrr : rsAns rx ry z3 = rr at *
  have HRR := Lib.hid hrr
  clear hrr
  clear hb
  replace T := Lib.hid (T.out.alloc T.out.size (.cells #[.int .i64 rr.c, .int .i64 rr.x.f, .int .i64 rr.x.t, .int .i64 rr.x.s, .int .i64 rr.x.a, .int .i64 rr.x.g, .int .i64 rr.x.w, .int .i64 rr.x.m, .slice a4 n4 c4] 34))
  replace KP := Lib.hid (KP.out.box 34 #[.int .i64 rr.c, .int .i64 rr.x.f, .int .i64 rr.x.t, .int .i64 rr.x.s, .int .i64 rr.x.a, .int .i64 rr.x.g, .int .i64 rr.x.w, .int .i64 rr.x.m, .slice a4 n4 c4])
  generalize hW : w1.alloc (.cells #[.int .i64 rr.c, .int .i64 rr.x.f, .int .i64 rr.x.t, .int .i64 rr.x.s, .int .i64 rr.x.a, .int .i64 rr.x.g, .int .i64 rr.x.w, .int .i64 rr.x.m, .slice a4 n4 c4] 34) = W at *
  go_wp2_with fail
  clear hW 
  generalize w1.heap.size = b10 at *
  refine (drawSameSegments a len cap zs _ (KP.out.2 _ (List.Mem.tail _ (List.Mem.tail _ (List.Mem.tail _ (List.Mem.tail _ (List.Mem.head _)))))) hl).mono ?_
  rintro e w1 ⟨u, a9, n9, c9, z9, v, a10, n10, c10, z10, rfl, r9, r10, hb⟩
  replace T := Lib.hid (T.out.trans (hb.mono T.out.size))
  replace KP := Lib.hid (((KP.out.below hb).rd r9).rd r10)
  clear hb r9 r10
  replace T := Lib.hid ((T.out.alloc T.out.size (.cells #[.int .i64 u.f, .int .i64 u.t, .int .i64 u.s, .int .i64 u.a, .int .i64 u.g, .int .i64 u.w, .int .i64 u.m, .slice a9 n9 c9] 25)).alloc (by have := T.out.size; simp; omega) (.cells #[.int .i64 v.f, .int .i64 v.t, .int .i64 v.s, .int .i64 v.a, .int .i64 v.g, .int .i64 v.w, .int .i64 v.m, .slice a10 n10 c10] 25))
  replace KP := Lib.hid ((KP.out.box 25 #[.int .i64 u.f, .int .i64 u.t, .int .i64 u.s, .int .i64 u.a, .int .i64 u.g, .int .i64 u.w, .int .i64 u.m, .slice a9 n9 c9]).box 25 #[.int .i64 v.f, .int .i64 v.t, .int .i64 v.s, .int .i64 v.a, .int .i64 v.g, .int .i64 v.w, .int .i64 v.m, .slice a10 n10 c10])
  simp only [World.size_alloc] at KP
  generalize hW : (w1.alloc (.cells #[.int .i64 u.f, .int .i64 u.t, .int .i64 u.s, .int .i64 u.a, .int .i64 u.g, .int .i64 u.w, .int .i64 u.m, .slice a9 n9 c9] 25)).alloc (.cells #[.int .i64 v.f, .int .i64 v.t, .int .i64 v.s, .int .i64 v.a, .int .i64 v.g, .int .i64 v.w, .int .i64 v.m, .slice a10 n10 c10] 25) = W at *
  go_upto_region 8 with (fail)
  clear hW
  generalize hb12 : w1.heap.size + 1 = b12 at *
  generalize w1.heap.size = b11 at *
  clear hb12
  obtain ⟨bl, hbl⟩ : ∃ bl : List (Nat × TypeId × Array Value), bl = [(b12, 25, #[.int .i64 v.f, .int .i64 v.t, .int .i64 v.s, .int .i64 v.a, .int .i64 v.g, .int .i64 v.w, .int .i64 v.m, .slice a10 n10 c10]), (b11, 25, #[.int .i64 u.f, .int .i64 u.t, .int .i64 u.s, .int .i64 u.a, .int .i64 u.g, .int .i64 u.w, .int .i64 u.m, .slice a9 n9 c9]), (b10, 34, #[.int .i64 rr.c, .int .i64 rr.x.f, .int .i64 rr.x.t, .int .i64 rr.x.s, .int .i64 rr.x.a, .int .i64 rr.x.g, .int .i64 rr.x.w, .int .i64 rr.x.m, .slice a4 n4 c4]), (b6, 29, #[.int .i64 cb, .slice a2 n2 c2]), (b5, 25, #[.int .i64 x.f, .int .i64 x.t, .int .i64 x.s, .int .i64 x.a, .int .i64 x.g, .int .i64 x.w, .int .i64 x.m, .slice a1 n1 c1])] := ⟨_, rfl⟩
  obtain ⟨rl, hrl⟩ : ∃ rl : List (Option Addr × Nat × Nat × List Int), rl = [(a10, n10, c10, z10), (a9, n9, c9, z9), (a4, n4, c4, rr.rs), (a3, n3, c3, z3), (a2, n2, c2, zb), (a1, n1, c1, z1), (a, len, cap, zs)] := ⟨_, rfl⟩
  rw [← hbl, ← hrl] at KP
  have Gb12 := Lib.hid (show ∀ W, Hid (Kp bl rl W) → Box W b12 25 #[.int .i64 v.f, .int .i64 v.t, .int .i64 v.s, .int .i64 v.a, .int .i64 v.g, .int .i64 v.w, .int .i64 v.m, .slice a10 n10 c10] from fun W h => by rw [hbl] at h; exact h.out.1 _ (List.Mem.head _))
  have Gb11 := Lib.hid (show ∀ W, Hid (Kp bl rl W) → Box W b11 25 #[.int .i64 u.f, .int .i64 u.t, .int .i64 u.s, .int .i64 u.a, .int .i64 u.g, .int .i64 u.w, .int .i64 u.m, .slice a9 n9 c9] from fun W h => by rw [hbl] at h; exact h.out.1 _ (List.Mem.tail _ (List.Mem.head _)))
  have Gb10 := Lib.hid (show ∀ W, Hid (Kp bl rl W) → Box W b10 34 #[.int .i64 rr.c, .int .i64 rr.x.f, .int .i64 rr.x.t, .int .i64 rr.x.s, .int .i64 rr.x.a, .int .i64 rr.x.g, .int .i64 rr.x.w, .int .i64 rr.x.m, .slice a4 n4 c4] from fun W h => by rw [hbl] at h; exact h.out.1 _ (List.Mem.tail _ (List.Mem.tail _ (List.Mem.head _))))
  have Gb6 := Lib.hid (show ∀ W, Hid (Kp bl rl W) → Box W b6 29 #[.int .i64 cb, .slice a2 n2 c2] from fun W h => by rw [hbl] at h; exact h.out.1 _ (List.Mem.tail _ (List.Mem.tail _ (List.Mem.tail _ (List.Mem.head _)))))
  have Gb5 := Lib.hid (show ∀ W, Hid (Kp bl rl W) → Box W b5 25 #[.int .i64 x.f, .int .i64 x.t, .int .i64 x.s, .int .i64 x.a, .int .i64 x.g, .int .i64 x.w, .int .i64 x.m, .slice a1 n1 c1] from fun W h => by rw [hbl] at h; exact h.out.1 _ (List.Mem.tail _ (List.Mem.tail _ (List.Mem.tail _ (List.Mem.tail _ (List.Mem.head _))))))
  have Ga10 := Lib.hid (show ∀ W, Hid (Kp bl rl W) → Rd W a10 n10 c10 z10 from fun W h => by rw [hrl] at h; exact h.out.2 _ (List.Mem.head _))
  have Ga9 := Lib.hid (show ∀ W, Hid (Kp bl rl W) → Rd W a9 n9 c9 z9 from fun W h => by rw [hrl] at h; exact h.out.2 _ (List.Mem.tail _ (List.Mem.head _)))
  have Ga4 := Lib.hid (show ∀ W, Hid (Kp bl rl W) → Rd W a4 n4 c4 rr.rs from fun W h => by rw [hrl] at h; exact h.out.2 _ (List.Mem.tail _ (List.Mem.tail _ (List.Mem.head _))))
  have Ga3 := Lib.hid (show ∀ W, Hid (Kp bl rl W) → Rd W a3 n3 c3 z3 from fun W h => by rw [hrl] at h; exact h.out.2 _ (List.Mem.tail _ (List.Mem.tail _ (List.Mem.tail _ (List.Mem.head _)))))
  have Ga2 := Lib.hid (show ∀ W, Hid (Kp bl rl W) → Rd W a2 n2 c2 zb from fun W h => by rw [hrl] at h; exact h.out.2 _ (List.Mem.tail _ (List.Mem.tail _ (List.Mem.tail _ (List.Mem.tail _ (List.Mem.head _))))))
  have Ga1 := Lib.hid (show ∀ W, Hid (Kp bl rl W) → Rd W a1 n1 c1 z1 from fun W h => by rw [hrl] at h; exact h.out.2 _ (List.Mem.tail _ (List.Mem.tail _ (List.Mem.tail _ (List.Mem.tail _ (List.Mem.tail _ (List.Mem.head _)))))))
  have Ga := Lib.hid (show ∀ W, Hid (Kp bl rl W) → Rd W a len cap zs from fun W h => by rw [hrl] at h; exact h.out.2 _ (List.Mem.tail _ (List.Mem.tail _ (List.Mem.tail _ (List.Mem.tail _ (List.Mem.tail _ (List.Mem.tail _ (List.Mem.head _))))))))
  clear hbl hrl
  have KA := Lib.hid (show ∀ W, Hid (Kp bl rl W) → Calls Try.prog 18 #[.int .i64 pf, .int .i64 pt, .agg #[.int .i64 x.f, .int .i64 x.t, .int .i64 x.s, .int .i64 x.a, .int .i64 x.g, .int .i64 x.w, .int .i64 x.m, .slice a1 n1 c1]] W (Packed W cb zb) from fun W h => by have := specPackSegment pf pt x a1 n1 c1 z1 W (Ga1.out W h); rw [HCB.out, HZB.out] at this; exact this)
  have KB := Lib.hid (show ∀ W, Hid (Kp bl rl W) → Calls Try.prog 19 #[.int .i64 rx, .int .i64 ry, .slice a3 n3 c3] W (RsRes W rr) from fun W h => by have := specReadSegment rx ry a3 n3 c3 z3 W (Ga3.out W h); rw [HRR.out] at this; exact this)
  obtain ⟨cf, hcf⟩ : ∃ cf, sgC x n1 = cf := ⟨_, rfl⟩
  have KE := Lib.hid (show ∀ W, Hid (Kp bl rl W) → Calls Try.prog 21 #[.agg #[.int .i64 x.f, .int .i64 x.t, .int .i64 x.s, .int .i64 x.a, .int .i64 x.g, .int .i64 x.w, .int .i64 x.m, .slice a1 n1 c1]] W (fun e w' => e = .returned (.int .i64 cf) ∧ Below W.heap.size W w') from fun W h => by rw [← hcf]; exact IF.out x a1 n1 c1 W)
  have KF := Lib.hid (show ∀ W, Hid (Kp bl rl W) → Calls Try.prog 22 #[.agg #[.int .i64 x.f, .int .i64 x.t, .int .i64 x.s, .int .i64 x.a, .int .i64 x.g, .int .i64 x.w, .int .i64 x.m, .slice a1 n1 c1]] W (fun e w' => e = .returned (.int .i64 cf) ∧ Below W.heap.size W w') from fun W h => by rw [← hcf]; exact specSegmentFault x a1 n1 c1 W)
  obtain ⟨q, hq⟩ : ∃ q, sameG u z9 v z10 = q := ⟨_, rfl⟩
  have KG := Lib.hid (show ∀ W, Hid (Kp bl rl W) → Calls Try.prog 20 #[.agg #[.int .i64 u.f, .int .i64 u.t, .int .i64 u.s, .int .i64 u.a, .int .i64 u.g, .int .i64 u.w, .int .i64 u.m, .slice a9 n9 c9], .agg #[.int .i64 v.f, .int .i64 v.t, .int .i64 v.s, .int .i64 v.a, .int .i64 v.g, .int .i64 v.w, .int .i64 v.m, .slice a10 n10 c10]] W (fun e w' => e = .returned (.bool q) ∧ Below W.heap.size W w') from fun W h => by rw [← hq]; exact IS.out u a9 n9 c9 z9 v a10 n10 c10 z10 W (Ga9.out W h) (Ga10.out W h))
  have KH := Lib.hid (show ∀ W, Hid (Kp bl rl W) → Calls Try.prog 23 #[.agg #[.int .i64 u.f, .int .i64 u.t, .int .i64 u.s, .int .i64 u.a, .int .i64 u.g, .int .i64 u.w, .int .i64 u.m, .slice a9 n9 c9], .agg #[.int .i64 v.f, .int .i64 v.t, .int .i64 v.s, .int .i64 v.a, .int .i64 v.g, .int .i64 v.w, .int .i64 v.m, .slice a10 n10 c10]] W (fun e w' => e = .returned (.bool q) ∧ Below W.heap.size W w') from fun W h => by rw [← hq]; exact specSameSegments u a9 n9 c9 z9 v a10 n10 c10 z10 W (Ga9.out W h) (Ga10.out W h))
  have KI := Lib.hid (show ∀ W (a' : Option Addr) (n' c' : Nat), Hid (Kp bl rl W) → Rd W a' n' c' rr.rs → Calls Try.prog 20 #[.agg #[.int .i64 rr.x.f, .int .i64 rr.x.t, .int .i64 rr.x.s, .int .i64 rr.x.a, .int .i64 rr.x.g, .int .i64 rr.x.w, .int .i64 rr.x.m, .slice a4 n4 c4], .agg #[.int .i64 rr.x.f, .int .i64 rr.x.t, .int .i64 rr.x.s, .int .i64 rr.x.a, .int .i64 rr.x.g, .int .i64 rr.x.w, .int .i64 rr.x.m, .slice a' n' c']] W (fun e w' => e = .returned (.bool true) ∧ Below W.heap.size W w') from fun W a' n' c' h h' => by have := IS.out rr.x a4 n4 c4 rr.rs rr.x a' n' c' rr.rs W (Ga4.out W h) h'; rw [sameG_self] at this; exact this)
  clear hq hcf
  have hf0 := fld_br0
  have hf1 := fld_sr0
  have hf2 := fld_sr1
  have hf3 := fld_sb1
  go_cut [85] (fun v wx => v = .bool false ∧ Hid (Below w.heap.size w wx) ∧ Hid (Kp bl rl wx))
  case first =>
    as_aux_lemma =>
      have SS := Lib.hid (show ∀ W, Hid (Kp bl rl W) → W.cell? ⟨b5, 0, none⟩ = some (.int .i64 x.f) ∧ W.cell? ⟨b5, 1, none⟩ = some (.int .i64 x.t) ∧ W.cell? ⟨b5, 2, none⟩ = some (.int .i64 x.s) ∧ W.cell? ⟨b5, 3, none⟩ = some (.int .i64 x.a) ∧ W.cell? ⟨b5, 4, none⟩ = some (.int .i64 x.g) ∧ W.cell? ⟨b5, 5, none⟩ = some (.int .i64 x.w) ∧ W.cell? ⟨b5, 6, none⟩ = some (.int .i64 x.m) ∧ W.cell? ⟨b5, 7, none⟩ = some (.slice a1 n1 c1) ∧ W.cell? ⟨b6, 0, none⟩ = some (.int .i64 cb) ∧ W.cell? ⟨b10, 0, none⟩ = some (.int .i64 rr.c) ∧ W.cell? ⟨b10, 1, none⟩ = some (.int .i64 rr.x.f) ∧ W.cell? ⟨b10, 2, none⟩ = some (.int .i64 rr.x.t) ∧ W.cell? ⟨b10, 3, none⟩ = some (.int .i64 rr.x.s) ∧ W.cell? ⟨b10, 4, none⟩ = some (.int .i64 rr.x.a) ∧ W.cell? ⟨b10, 5, none⟩ = some (.int .i64 rr.x.g) ∧ W.cell? ⟨b10, 6, none⟩ = some (.int .i64 rr.x.w) ∧ W.cell? ⟨b10, 7, none⟩ = some (.int .i64 rr.x.m) ∧ W.cell? ⟨b10, 8, none⟩ = some (.slice a4 n4 c4) ∧ W.cell? ⟨b11, 0, none⟩ = some (.int .i64 u.f) ∧ W.cell? ⟨b11, 1, none⟩ = some (.int .i64 u.t) ∧ W.cell? ⟨b11, 2, none⟩ = some (.int .i64 u.s) ∧ W.cell? ⟨b11, 3, none⟩ = some (.int .i64 u.a) ∧ W.cell? ⟨b11, 4, none⟩ = some (.int .i64 u.g) ∧ W.cell? ⟨b11, 5, none⟩ = some (.int .i64 u.w) ∧ W.cell? ⟨b11, 6, none⟩ = some (.int .i64 u.m) ∧ W.cell? ⟨b11, 7, none⟩ = some (.slice a9 n9 c9) ∧ W.cell? ⟨b12, 0, none⟩ = some (.int .i64 v.f) ∧ W.cell? ⟨b12, 1, none⟩ = some (.int .i64 v.t) ∧ W.cell? ⟨b12, 2, none⟩ = some (.int .i64 v.s) ∧ W.cell? ⟨b12, 3, none⟩ = some (.int .i64 v.a) ∧ W.cell? ⟨b12, 4, none⟩ = some (.int .i64 v.g) ∧ W.cell? ⟨b12, 5, none⟩ = some (.int .i64 v.w) ∧ W.cell? ⟨b12, 6, none⟩ = some (.int .i64 v.m) ∧ W.cell? ⟨b12, 7, none⟩ = some (.slice a10 n10 c10) ∧ Hid (Kp bl rl W) from fun W h => ⟨(Gb5.out W h).cell 0, (Gb5.out W h).cell 1, (Gb5.out W h).cell 2, (Gb5.out W h).cell 3, (Gb5.out W h).cell 4, (Gb5.out W h).cell 5, (Gb5.out W h).cell 6, (Gb5.out W h).cell 7, (Gb6.out W h).cell 0, (Gb10.out W h).cell 0, (Gb10.out W h).cell 1, (Gb10.out W h).cell 2, (Gb10.out W h).cell 3, (Gb10.out W h).cell 4, (Gb10.out W h).cell 5, (Gb10.out W h).cell 6, (Gb10.out W h).cell 7, (Gb10.out W h).cell 8, (Gb11.out W h).cell 0, (Gb11.out W h).cell 1, (Gb11.out W h).cell 2, (Gb11.out W h).cell 3, (Gb11.out W h).cell 4, (Gb11.out W h).cell 5, (Gb11.out W h).cell 6, (Gb11.out W h).cell 7, (Gb12.out W h).cell 0, (Gb12.out W h).cell 1, (Gb12.out W h).cell 2, (Gb12.out W h).cell 3, (Gb12.out W h).cell 4, (Gb12.out W h).cell 5, (Gb12.out W h).cell 6, (Gb12.out W h).cell 7, h⟩)
      replace T := Lib.hid T.out.drew
      replace KP := Lib.hid KP.out.drew
      refine wp_region_held_drew (S := fun W => W.cell? ⟨b5, 0, none⟩ = some (.int .i64 x.f) ∧ W.cell? ⟨b5, 1, none⟩ = some (.int .i64 x.t) ∧ W.cell? ⟨b5, 2, none⟩ = some (.int .i64 x.s) ∧ W.cell? ⟨b5, 3, none⟩ = some (.int .i64 x.a) ∧ W.cell? ⟨b5, 4, none⟩ = some (.int .i64 x.g) ∧ W.cell? ⟨b5, 5, none⟩ = some (.int .i64 x.w) ∧ W.cell? ⟨b5, 6, none⟩ = some (.int .i64 x.m) ∧ W.cell? ⟨b5, 7, none⟩ = some (.slice a1 n1 c1) ∧ W.cell? ⟨b6, 0, none⟩ = some (.int .i64 cb) ∧ W.cell? ⟨b10, 0, none⟩ = some (.int .i64 rr.c) ∧ W.cell? ⟨b10, 1, none⟩ = some (.int .i64 rr.x.f) ∧ W.cell? ⟨b10, 2, none⟩ = some (.int .i64 rr.x.t) ∧ W.cell? ⟨b10, 3, none⟩ = some (.int .i64 rr.x.s) ∧ W.cell? ⟨b10, 4, none⟩ = some (.int .i64 rr.x.a) ∧ W.cell? ⟨b10, 5, none⟩ = some (.int .i64 rr.x.g) ∧ W.cell? ⟨b10, 6, none⟩ = some (.int .i64 rr.x.w) ∧ W.cell? ⟨b10, 7, none⟩ = some (.int .i64 rr.x.m) ∧ W.cell? ⟨b10, 8, none⟩ = some (.slice a4 n4 c4) ∧ W.cell? ⟨b11, 0, none⟩ = some (.int .i64 u.f) ∧ W.cell? ⟨b11, 1, none⟩ = some (.int .i64 u.t) ∧ W.cell? ⟨b11, 2, none⟩ = some (.int .i64 u.s) ∧ W.cell? ⟨b11, 3, none⟩ = some (.int .i64 u.a) ∧ W.cell? ⟨b11, 4, none⟩ = some (.int .i64 u.g) ∧ W.cell? ⟨b11, 5, none⟩ = some (.int .i64 u.w) ∧ W.cell? ⟨b11, 6, none⟩ = some (.int .i64 u.m) ∧ W.cell? ⟨b11, 7, none⟩ = some (.slice a9 n9 c9) ∧ W.cell? ⟨b12, 0, none⟩ = some (.int .i64 v.f) ∧ W.cell? ⟨b12, 1, none⟩ = some (.int .i64 v.t) ∧ W.cell? ⟨b12, 2, none⟩ = some (.int .i64 v.s) ∧ W.cell? ⟨b12, 3, none⟩ = some (.int .i64 v.a) ∧ W.cell? ⟨b12, 4, none⟩ = some (.int .i64 v.g) ∧ W.cell? ⟨b12, 5, none⟩ = some (.int .i64 v.w) ∧ W.cell? ⟨b12, 6, none⟩ = some (.int .i64 v.m) ∧ W.cell? ⟨b12, 7, none⟩ = some (.slice a10 n10 c10) ∧ Hid (Kp bl rl W)) (by kernel_rfl) (SS.out _ KP) (fun hHeld => ?_)
      refine wpAnyH_take (i := 0) (v := ?_) (by simp only [List.getElem?_toArray, List.getElem?_cons_zero]; exact rfl) (by kernel_rfl) (by kernel_rfl) (by kernel_rfl) (by exact fun _ _ _ h => h) (Or.inl ⟨by rfl, ?_⟩) hHeld ?_
      rotate_left
      · intro w' hSw
        clear hSw
        go_simp
        try with_reducible rfl
      try simp only [Act.put, List.setIfInBounds_toArray, List.set_cons_zero, List.set_cons_succ]
      refine wpAnyH_take (i := 1) (v := ?_) (by simp only [List.getElem?_toArray, List.getElem?_cons_zero, List.getElem?_cons_succ]; exact rfl) (by kernel_rfl) (by kernel_rfl) (by kernel_rfl) (by exact fun _ _ _ h => h) (Or.inl ⟨by rfl, ?_⟩) hHeld ?_
      rotate_left
      · intro w' hSw
        obtain ⟨_, _, _, _, _, _, _, _, s8, _, _, _, _, _, _, _, _, _, _, _, _, _, _, _, _, _, _, _, _, _, _, _, _, _, _⟩ := hSw
        go_simp
        try with_reducible rfl
      try simp only [Act.put, List.setIfInBounds_toArray, List.set_cons_zero, List.set_cons_succ]
      refine wpAnyH_take (i := 2) (v := ?_) (by simp only [List.getElem?_toArray, List.getElem?_cons_zero, List.getElem?_cons_succ]; exact rfl) (by kernel_rfl) (by kernel_rfl) (by kernel_rfl) (by exact fun _ _ _ h => h) (Or.inl ⟨by rfl, ?_⟩) hHeld ?_
      rotate_left
      · intro w' hSw
        clear hSw
        go_simp
        try with_reducible rfl
      try simp only [Act.put, List.setIfInBounds_toArray, List.set_cons_zero, List.set_cons_succ]
      refine wpAnyH_take (i := 3) (v := ?_) (by simp only [List.getElem?_toArray, List.getElem?_cons_zero, List.getElem?_cons_succ]; exact rfl) (by kernel_rfl) (by kernel_rfl) (by kernel_rfl) (by exact fun _ _ _ h => h) (Or.inl ⟨by rfl, ?_⟩) hHeld ?_
      rotate_left
      · intro w' hSw
        clear hSw
        go_simp
        try with_reducible rfl
      try simp only [Act.put, List.setIfInBounds_toArray, List.set_cons_zero, List.set_cons_succ]
      refine wpAnyH_take (i := 4) (v := ?_) (by simp only [List.getElem?_toArray, List.getElem?_cons_zero, List.getElem?_cons_succ]; exact rfl) (by kernel_rfl) (by kernel_rfl) (by kernel_rfl) (by exact fun _ _ _ h => h) (Or.inl ⟨by rfl, ?_⟩) hHeld ?_
      rotate_left
      · intro w' hSw
        obtain ⟨s0, s1, s2, s3, s4, s5, s6, s7, _, _, _, _, _, _, _, _, _, _, _, _, _, _, _, _, _, _, _, _, _, _, _, _, _, _, _⟩ := hSw
        go_simp
        try with_reducible rfl
      try simp only [Act.put, List.setIfInBounds_toArray, List.set_cons_zero, List.set_cons_succ]
      refine wpAnyH_ready (rs := [5]) (by kernel_rfl) (by simp) ?_
      refine (AllReadyH.cons (by simp only [List.getElem?_toArray, List.getElem?_cons_zero, List.getElem?_cons_succ]; exact rfl) (fun K hK => ?_) AllReadyH.nil)
      refine want_none (by exact rfl) ?_
      go_wp2_with fail
      refine (KA.out _ KP).mono ?_
      rintro e w1 ⟨x1, y1, k1, rfl, _, hb⟩
      replace T := Lib.hid (T.out.trans (hb.mono T.out.size))
      replace KP := Lib.hid (KP.out.below hb)
      clear hb
      go_wp2_with fail
      refine hK.out _ _ (SS.out _ KP) (fun hHeld => ?_)
      clear hK K
      try simp only [Act.put, List.setIfInBounds_toArray, List.set_cons_zero, List.set_cons_succ]
      refine wpAnyH_take (i := 6) (v := ?_) (by simp only [List.getElem?_toArray, List.getElem?_cons_zero, List.getElem?_cons_succ]; exact rfl) (by kernel_rfl) (by kernel_rfl) (by kernel_rfl) (by exact fun _ _ _ h => h) (Or.inl ⟨by rfl, ?_⟩) hHeld ?_
      rotate_left
      · intro w' hSw
        clear hSw
        go_simp
        try with_reducible rfl
      try simp only [Act.put, List.setIfInBounds_toArray, List.set_cons_zero, List.set_cons_succ]
      refine wpAnyH_take (i := 7) (v := ?_) (by simp only [List.getElem?_toArray, List.getElem?_cons_zero, List.getElem?_cons_succ]; exact rfl) (by kernel_rfl) (by kernel_rfl) (by kernel_rfl) (by exact fun _ _ _ h => h) (Or.inl ⟨by rfl, ?_⟩) hHeld ?_
      rotate_left
      · intro w' hSw
        clear hSw
        go_simp
        try with_reducible rfl
      try simp only [Act.put, List.setIfInBounds_toArray, List.set_cons_zero, List.set_cons_succ]
      refine wpAnyH_take (i := 8) (v := ?_) (by simp only [List.getElem?_toArray, List.getElem?_cons_zero, List.getElem?_cons_succ]; exact rfl) (by kernel_rfl) (by kernel_rfl) (by kernel_rfl) (by exact fun _ _ _ h => h) (Or.inl ⟨by rfl, ?_⟩) hHeld ?_
      rotate_left
      · intro w' hSw
        clear hSw
        go_simp
        try with_reducible rfl
      try simp only [Act.put, List.setIfInBounds_toArray, List.set_cons_zero, List.set_cons_succ]
      refine wpAnyH_take (i := 9) (v := ?_) (by simp only [List.getElem?_toArray, List.getElem?_cons_zero, List.getElem?_cons_succ]; exact rfl) (by kernel_rfl) (by kernel_rfl) (by kernel_rfl) (by exact fun _ _ _ h => h) (Or.inl ⟨by rfl, ?_⟩) hHeld ?_
      rotate_left
      · intro w' hSw
        clear hSw
        go_simp
        try with_reducible rfl
      try simp only [Act.put, List.setIfInBounds_toArray, List.set_cons_zero, List.set_cons_succ]
      refine wpAnyH_take (i := 10) (v := ?_) (by simp only [List.getElem?_toArray, List.getElem?_cons_zero, List.getElem?_cons_succ]; exact rfl) (by kernel_rfl) (by kernel_rfl) (by kernel_rfl) (by exact fun _ _ _ h => h) (Or.inl ⟨by rfl, ?_⟩) hHeld ?_
      rotate_left
      · intro w' hSw
        obtain ⟨_, _, _, _, _, _, _, _, _, s9, _, _, _, _, _, _, _, _, _, _, _, _, _, _, _, _, _, _, _, _, _, _, _, _, _⟩ := hSw
        go_simp
        try with_reducible rfl
      try simp only [Act.put, List.setIfInBounds_toArray, List.set_cons_zero, List.set_cons_succ]
      refine wpAnyH_take (i := 11) (v := ?_) (by simp only [List.getElem?_toArray, List.getElem?_cons_zero, List.getElem?_cons_succ]; exact rfl) (by kernel_rfl) (by kernel_rfl) (by kernel_rfl) (by exact fun _ _ _ h => h) (Or.inl ⟨by rfl, ?_⟩) hHeld ?_
      rotate_left
      · intro w' hSw
        clear hSw
        go_simp
        try with_reducible rfl
      try simp only [Act.put, List.setIfInBounds_toArray, List.set_cons_zero, List.set_cons_succ]
      refine wpAnyH_take (i := 12) (v := ?_) (by simp only [List.getElem?_toArray, List.getElem?_cons_zero, List.getElem?_cons_succ]; exact rfl) (by kernel_rfl) (by kernel_rfl) (by kernel_rfl) (by exact fun _ _ _ h => h) (Or.inl ⟨by rfl, ?_⟩) hHeld ?_
      rotate_left
      · intro w' hSw
        clear hSw
        go_simp
        try with_reducible rfl
      try simp only [Act.put, List.setIfInBounds_toArray, List.set_cons_zero, List.set_cons_succ]
      refine wpAnyH_take (i := 13) (v := ?_) (by simp only [List.getElem?_toArray, List.getElem?_cons_zero, List.getElem?_cons_succ]; exact rfl) (by kernel_rfl) (by kernel_rfl) (by kernel_rfl) (by exact fun _ _ _ h => h) (Or.inl ⟨by rfl, ?_⟩) hHeld ?_
      rotate_left
      · intro w' hSw
        clear hSw
        go_simp
        try with_reducible rfl
      try simp only [Act.put, List.setIfInBounds_toArray, List.set_cons_zero, List.set_cons_succ]
      refine wpAnyH_ready (rs := [14]) (by kernel_rfl) (by simp) ?_
      refine (AllReadyH.cons (by simp only [List.getElem?_toArray, List.getElem?_cons_zero, List.getElem?_cons_succ]; exact rfl) (fun K hK => ?_) AllReadyH.nil)
      refine want_yes (by rfl) ?_
      go_wp2_with fail
      refine (KB.out _ KP).mono ?_
      rintro e w1 ⟨x2, y2, k2, rfl, _, hb⟩
      replace T := Lib.hid (T.out.trans (hb.mono T.out.size))
      replace KP := Lib.hid (KP.out.below hb)
      clear hb
      go_wp2_with fail
      refine hK.out _ _ (SS.out _ KP) (fun hHeld => ?_)
      clear hK K
      try simp only [Act.put, List.setIfInBounds_toArray, List.set_cons_zero, List.set_cons_succ]
      refine wpAnyH_take (i := 15) (v := ?_) (by simp only [List.getElem?_toArray, List.getElem?_cons_zero, List.getElem?_cons_succ]; exact rfl) (by kernel_rfl) (by kernel_rfl) (by kernel_rfl) (by exact fun _ _ _ h => h) (Or.inl ⟨by rfl, ?_⟩) hHeld ?_
      rotate_left
      · intro w' hSw
        clear hSw
        go_simp
        try with_reducible rfl
      try simp only [Act.put, List.setIfInBounds_toArray, List.set_cons_zero, List.set_cons_succ]
      refine wpAnyH_take (i := 16) (v := ?_) (by simp only [List.getElem?_toArray, List.getElem?_cons_zero, List.getElem?_cons_succ]; exact rfl) (by kernel_rfl) (by kernel_rfl) (by kernel_rfl) (by exact fun _ _ _ h => h) (Or.inl ⟨by rfl, ?_⟩) hHeld ?_
      rotate_left
      · intro w' hSw
        clear hSw
        go_simp
        try with_reducible rfl
      try simp only [Act.put, List.setIfInBounds_toArray, List.set_cons_zero, List.set_cons_succ]
      refine wpAnyH_take (i := 17) (v := ?_) (by simp only [List.getElem?_toArray, List.getElem?_cons_zero, List.getElem?_cons_succ]; exact rfl) (by kernel_rfl) (by kernel_rfl) (by kernel_rfl) (by exact fun _ _ _ h => h) (Or.inl ⟨by rfl, ?_⟩) hHeld ?_
      rotate_left
      · intro w' hSw
        clear hSw
        go_simp
        try with_reducible rfl
      try simp only [Act.put, List.setIfInBounds_toArray, List.set_cons_zero, List.set_cons_succ]
      refine wpAnyH_take (i := 18) (v := ?_) (by simp only [List.getElem?_toArray, List.getElem?_cons_zero, List.getElem?_cons_succ]; exact rfl) (by kernel_rfl) (by kernel_rfl) (by kernel_rfl) (by exact fun _ _ _ h => h) (Or.inl ⟨by rfl, ?_⟩) hHeld ?_
      rotate_left
      · intro w' hSw
        clear hSw
        go_simp
        try with_reducible rfl
      try simp only [Act.put, List.setIfInBounds_toArray, List.set_cons_zero, List.set_cons_succ]
      refine wpAnyH_take (i := 19) (v := ?_) (by simp only [List.getElem?_toArray, List.getElem?_cons_zero, List.getElem?_cons_succ]; exact rfl) (by kernel_rfl) (by kernel_rfl) (by kernel_rfl) (by exact fun _ _ _ h => h) (Or.inl ⟨by rfl, ?_⟩) hHeld ?_
      rotate_left
      · intro w' hSw
        clear hSw
        go_simp
        try with_reducible rfl
      try simp only [Act.put, List.setIfInBounds_toArray, List.set_cons_zero, List.set_cons_succ]
      refine wpAnyH_take (i := 20) (v := ?_) (by simp only [List.getElem?_toArray, List.getElem?_cons_zero, List.getElem?_cons_succ]; exact rfl) (by kernel_rfl) (by kernel_rfl) (by kernel_rfl) (by exact fun _ _ _ h => h) (Or.inl ⟨by rfl, ?_⟩) hHeld ?_
      rotate_left
      · intro w' hSw
        obtain ⟨_, _, _, _, _, _, _, _, _, _, s10, s11, s12, s13, s14, s15, s16, s17, _, _, _, _, _, _, _, _, _, _, _, _, _, _, _, _, _⟩ := hSw
        go_simp
        try with_reducible rfl
      try simp only [Act.put, List.setIfInBounds_toArray, List.set_cons_zero, List.set_cons_succ]
      refine wpAnyH_take (i := 21) (v := ?_) (by simp only [List.getElem?_toArray, List.getElem?_cons_zero, List.getElem?_cons_succ]; exact rfl) (by kernel_rfl) (by kernel_rfl) (by kernel_rfl) (by exact fun _ _ _ h => h) (Or.inl ⟨by rfl, ?_⟩) hHeld ?_
      rotate_left
      · intro w' hSw
        clear hSw
        go_simp
        try with_reducible rfl
      try simp only [Act.put, List.setIfInBounds_toArray, List.set_cons_zero, List.set_cons_succ]
      refine wpAnyH_take (i := 22) (v := ?_) (by simp only [List.getElem?_toArray, List.getElem?_cons_zero, List.getElem?_cons_succ]; exact rfl) (by kernel_rfl) (by kernel_rfl) (by kernel_rfl) (by exact fun _ _ _ h => h) (Or.inl ⟨by rfl, ?_⟩) hHeld ?_
      rotate_left
      · intro w' hSw
        clear hSw
        go_simp
        try with_reducible rfl
      try simp only [Act.put, List.setIfInBounds_toArray, List.set_cons_zero, List.set_cons_succ]
      refine wpAnyH_take (i := 23) (v := ?_) (by simp only [List.getElem?_toArray, List.getElem?_cons_zero, List.getElem?_cons_succ]; exact rfl) (by kernel_rfl) (by kernel_rfl) (by kernel_rfl) (by exact fun _ _ _ h => h) (Or.inl ⟨by rfl, ?_⟩) hHeld ?_
      rotate_left
      · intro w' hSw
        clear hSw
        go_simp
        try with_reducible rfl
      try simp only [Act.put, List.setIfInBounds_toArray, List.set_cons_zero, List.set_cons_succ]
      refine wpAnyH_ready (rs := [24]) (by kernel_rfl) (by simp) ?_
      refine (AllReadyH.cons (by simp only [List.getElem?_toArray, List.getElem?_cons_zero, List.getElem?_cons_succ]; exact rfl) (fun K hK => ?_) AllReadyH.nil)
      refine want_yes (by rfl) ?_
      go_wp2_with fail
      refine (KB.out _ KP).mono ?_
      rintro e w1 ⟨x3, y3, k3, rfl, o3, hb⟩
      replace T := Lib.hid (T.out.trans (hb.mono T.out.size))
      replace KP := Lib.hid (KP.out.below hb)
      have O3 := Lib.hid o3.rd
      clear o3
      clear hb
      go_wp2_with fail
      refine hK.out _ _ (SS.out _ KP) (fun hHeld => ?_)
      clear hK K
      try simp only [Act.put, List.setIfInBounds_toArray, List.set_cons_zero, List.set_cons_succ]
      refine wpAnyH_take (i := 25) (v := ?_) (by simp only [List.getElem?_toArray, List.getElem?_cons_zero, List.getElem?_cons_succ]; exact rfl) (by kernel_rfl) (by kernel_rfl) (by kernel_rfl) (by exact fun _ _ _ h => h) (Or.inl ⟨by rfl, ?_⟩) hHeld ?_
      rotate_left
      · intro w' hSw
        clear hSw
        go_simp
        try with_reducible rfl
      try simp only [Act.put, List.setIfInBounds_toArray, List.set_cons_zero, List.set_cons_succ]
      refine wpAnyH_ready (rs := [26]) (by kernel_rfl) (by simp) ?_
      refine (AllReadyH.cons (by simp only [List.getElem?_toArray, List.getElem?_cons_zero, List.getElem?_cons_succ]; exact rfl) (fun K hK => ?_) AllReadyH.nil)
      refine want_yes (by rfl) ?_
      go_wp2_with fail
      refine (KI.out _ _ _ _ KP O3.out).mono ?_
      rintro e w1 ⟨rfl, hb⟩
      replace T := Lib.hid (T.out.trans (hb.mono T.out.size))
      replace KP := Lib.hid (KP.out.below hb)
      clear O3
      clear hb
      go_wp2_with fail
      refine hK.out _ _ (SS.out _ KP) (fun hHeld => ?_)
      clear hK K
      try simp only [Act.put, List.setIfInBounds_toArray, List.set_cons_zero, List.set_cons_succ]
      refine wpAnyH_take (i := 27) (v := ?_) (by simp only [List.getElem?_toArray, List.getElem?_cons_zero, List.getElem?_cons_succ]; exact rfl) (by kernel_rfl) (by kernel_rfl) (by kernel_rfl) (by exact fun _ _ _ h => h) (Or.inl ⟨by rfl, ?_⟩) hHeld ?_
      rotate_left
      · intro w' hSw
        clear hSw
        go_simp
        try with_reducible rfl
      try simp only [Act.put, List.setIfInBounds_toArray, List.set_cons_zero, List.set_cons_succ]
      refine wpAnyH_take (i := 28) (v := ?_) (by simp only [List.getElem?_toArray, List.getElem?_cons_zero, List.getElem?_cons_succ]; exact rfl) (by kernel_rfl) (by kernel_rfl) (by kernel_rfl) (by exact fun _ _ _ h => h) (Or.inl ⟨by rfl, ?_⟩) hHeld ?_
      rotate_left
      · intro w' hSw
        clear hSw
        go_simp
        try with_reducible rfl
      try simp only [Act.put, List.setIfInBounds_toArray, List.set_cons_zero, List.set_cons_succ]
      refine wpAnyH_take (i := 29) (v := ?_) (by simp only [List.getElem?_toArray, List.getElem?_cons_zero, List.getElem?_cons_succ]; exact rfl) (by kernel_rfl) (by kernel_rfl) (by kernel_rfl) (by exact fun _ _ _ h => h) (Or.inl ⟨by rfl, ?_⟩) hHeld ?_
      rotate_left
      · intro w' hSw
        clear hSw
        go_simp
        try with_reducible rfl
      try simp only [Act.put, List.setIfInBounds_toArray, List.set_cons_zero, List.set_cons_succ]
      refine wpAnyH_take (i := 30) (v := ?_) (by simp only [List.getElem?_toArray, List.getElem?_cons_zero, List.getElem?_cons_succ]; exact rfl) (by kernel_rfl) (by kernel_rfl) (by kernel_rfl) (by exact fun _ _ _ h => h) (Or.inl ⟨by rfl, ?_⟩) hHeld ?_
      rotate_left
      · intro w' hSw
        obtain ⟨s0, s1, s2, s3, s4, s5, s6, s7, _, _, _, _, _, _, _, _, _, _, _, _, _, _, _, _, _, _, _, _, _, _, _, _, _, _, _⟩ := hSw
        go_simp
        try with_reducible rfl
      try simp only [Act.put, List.setIfInBounds_toArray, List.set_cons_zero, List.set_cons_succ]
      refine wpAnyH_take (i := 32) (v := ?_) (by simp only [List.getElem?_toArray, List.getElem?_cons_zero, List.getElem?_cons_succ]; exact rfl) (by kernel_rfl) (by kernel_rfl) (by kernel_rfl) (by exact fun _ _ _ h => h) (Or.inl ⟨by rfl, ?_⟩) hHeld ?_
      rotate_left
      · intro w' hSw
        obtain ⟨s0, s1, s2, s3, s4, s5, s6, s7, _, _, _, _, _, _, _, _, _, _, _, _, _, _, _, _, _, _, _, _, _, _, _, _, _, _, _⟩ := hSw
        go_simp
        try with_reducible rfl
      try simp only [Act.put, List.setIfInBounds_toArray, List.set_cons_zero, List.set_cons_succ]
      refine wpAnyH_ready (rs := [31]) (by kernel_rfl) (by simp) ?_
      refine (AllReadyH.cons (by simp only [List.getElem?_toArray, List.getElem?_cons_zero, List.getElem?_cons_succ]; exact rfl) (fun K hK => ?_) AllReadyH.nil)
      refine want_yes (by rfl) ?_
      go_wp2_with fail
      refine (KE.out _ KP).mono ?_
      rintro e w1 ⟨rfl, hb⟩
      replace T := Lib.hid (T.out.trans (hb.mono T.out.size))
      replace KP := Lib.hid (KP.out.below hb)
      clear hb
      go_wp2_with fail
      refine hK.out _ _ (SS.out _ KP) (fun hHeld => ?_)
      clear hK K
      try simp only [Act.put, List.setIfInBounds_toArray, List.set_cons_zero, List.set_cons_succ]
      refine wpAnyH_ready (rs := [33]) (by kernel_rfl) (by simp) ?_
      refine (AllReadyH.cons (by simp only [List.getElem?_toArray, List.getElem?_cons_zero, List.getElem?_cons_succ]; exact rfl) (fun K hK => ?_) AllReadyH.nil)
      refine want_yes (by rfl) ?_
      go_wp2_with fail
      refine (KF.out _ KP).mono ?_
      rintro e w1 ⟨rfl, hb⟩
      replace T := Lib.hid (T.out.trans (hb.mono T.out.size))
      replace KP := Lib.hid (KP.out.below hb)
      clear hb
      go_wp2_with fail
      refine hK.out _ _ (SS.out _ KP) (fun hHeld => ?_)
      clear hK K
      try simp only [Act.put, List.setIfInBounds_toArray, List.set_cons_zero, List.set_cons_succ]
      refine wpAnyH_take (i := 34) (v := ?_) (by simp only [List.getElem?_toArray, List.getElem?_cons_zero, List.getElem?_cons_succ]; exact rfl) (by kernel_rfl) (by kernel_rfl) (by kernel_rfl) (by exact fun _ _ _ h => h) (Or.inl ⟨by rfl, ?_⟩) hHeld ?_
      rotate_left
      · intro w' hSw
        clear hSw
        go_simp
        try with_reducible rfl
      try simp only [Act.put, List.setIfInBounds_toArray, List.set_cons_zero, List.set_cons_succ]
      refine wpAnyH_take (i := 35) (v := ?_) (by simp only [List.getElem?_toArray, List.getElem?_cons_zero, List.getElem?_cons_succ]; exact rfl) (by kernel_rfl) (by kernel_rfl) (by kernel_rfl) (by exact fun _ _ _ h => h) (Or.inl ⟨by rfl, ?_⟩) hHeld ?_
      rotate_left
      · intro w' hSw
        clear hSw
        go_simp
        try with_reducible rfl
      try simp only [Act.put, List.setIfInBounds_toArray, List.set_cons_zero, List.set_cons_succ]
      refine wpAnyH_take (i := 36) (v := ?_) (by simp only [List.getElem?_toArray, List.getElem?_cons_zero, List.getElem?_cons_succ]; exact rfl) (by kernel_rfl) (by kernel_rfl) (by kernel_rfl) (by exact fun _ _ _ h => h) (Or.inl ⟨by rfl, ?_⟩) hHeld ?_
      rotate_left
      · intro w' hSw
        clear hSw
        go_simp
        try with_reducible rfl
      try simp only [Act.put, List.setIfInBounds_toArray, List.set_cons_zero, List.set_cons_succ]
      refine wpAnyH_take (i := 37) (v := ?_) (by simp only [List.getElem?_toArray, List.getElem?_cons_zero, List.getElem?_cons_succ]; exact rfl) (by kernel_rfl) (by kernel_rfl) (by kernel_rfl) (by exact fun _ _ _ h => h) (Or.inl ⟨by rfl, ?_⟩) hHeld ?_
      rotate_left
      · intro w' hSw
        obtain ⟨_, _, _, _, _, _, _, _, _, _, _, _, _, _, _, _, _, _, s18, s19, s20, s21, s22, s23, s24, s25, _, _, _, _, _, _, _, _, _⟩ := hSw
        go_simp
        try with_reducible rfl
      try simp only [Act.put, List.setIfInBounds_toArray, List.set_cons_zero, List.set_cons_succ]
      refine wpAnyH_take (i := 38) (v := ?_) (by simp only [List.getElem?_toArray, List.getElem?_cons_zero, List.getElem?_cons_succ]; exact rfl) (by kernel_rfl) (by kernel_rfl) (by kernel_rfl) (by exact fun _ _ _ h => h) (Or.inl ⟨by rfl, ?_⟩) hHeld ?_
      rotate_left
      · intro w' hSw
        obtain ⟨_, _, _, _, _, _, _, _, _, _, _, _, _, _, _, _, _, _, _, _, _, _, _, _, _, _, s26, s27, s28, s29, s30, s31, s32, s33, _⟩ := hSw
        go_simp
        try with_reducible rfl
      try simp only [Act.put, List.setIfInBounds_toArray, List.set_cons_zero, List.set_cons_succ]
      refine wpAnyH_take (i := 40) (v := ?_) (by simp only [List.getElem?_toArray, List.getElem?_cons_zero, List.getElem?_cons_succ]; exact rfl) (by kernel_rfl) (by kernel_rfl) (by kernel_rfl) (by exact fun _ _ _ h => h) (Or.inl ⟨by rfl, ?_⟩) hHeld ?_
      rotate_left
      · intro w' hSw
        obtain ⟨_, _, _, _, _, _, _, _, _, _, _, _, _, _, _, _, _, _, s18, s19, s20, s21, s22, s23, s24, s25, _, _, _, _, _, _, _, _, _⟩ := hSw
        go_simp
        try with_reducible rfl
      try simp only [Act.put, List.setIfInBounds_toArray, List.set_cons_zero, List.set_cons_succ]
      refine wpAnyH_take (i := 41) (v := ?_) (by simp only [List.getElem?_toArray, List.getElem?_cons_zero, List.getElem?_cons_succ]; exact rfl) (by kernel_rfl) (by kernel_rfl) (by kernel_rfl) (by exact fun _ _ _ h => h) (Or.inl ⟨by rfl, ?_⟩) hHeld ?_
      rotate_left
      · intro w' hSw
        obtain ⟨_, _, _, _, _, _, _, _, _, _, _, _, _, _, _, _, _, _, _, _, _, _, _, _, _, _, s26, s27, s28, s29, s30, s31, s32, s33, _⟩ := hSw
        go_simp
        try with_reducible rfl
      try simp only [Act.put, List.setIfInBounds_toArray, List.set_cons_zero, List.set_cons_succ]
      refine wpAnyH_ready (rs := [39]) (by kernel_rfl) (by simp) ?_
      refine (AllReadyH.cons (by simp only [List.getElem?_toArray, List.getElem?_cons_zero, List.getElem?_cons_succ]; exact rfl) (fun K hK => ?_) AllReadyH.nil)
      refine want_yes (by rfl) ?_
      go_wp2_with fail
      refine (KG.out _ KP).mono ?_
      rintro e w1 ⟨rfl, hb⟩
      replace T := Lib.hid (T.out.trans (hb.mono T.out.size))
      replace KP := Lib.hid (KP.out.below hb)
      clear hb
      go_wp2_with fail
      refine hK.out _ _ (SS.out _ KP) (fun hHeld => ?_)
      clear hK K
      try simp only [Act.put, List.setIfInBounds_toArray, List.set_cons_zero, List.set_cons_succ]
      refine wpAnyH_ready (rs := [42]) (by kernel_rfl) (by simp) ?_
      refine (AllReadyH.cons (by simp only [List.getElem?_toArray, List.getElem?_cons_zero, List.getElem?_cons_succ]; exact rfl) (fun K hK => ?_) AllReadyH.nil)
      refine want_yes (by rfl) ?_
      go_wp2_with fail
      refine (KH.out _ KP).mono ?_
      rintro e w1 ⟨rfl, hb⟩
      replace T := Lib.hid (T.out.trans (hb.mono T.out.size))
      replace KP := Lib.hid (KP.out.below hb)
      clear hb
      go_wp2_with fail
      refine hK.out _ _ (SS.out _ KP) (fun hHeld => ?_)
      clear hK K
      try simp only [Act.put, List.setIfInBounds_toArray, List.set_cons_zero, List.set_cons_succ]
      refine wpAnyH_take (i := 43) (v := ?_) (by simp only [List.getElem?_toArray, List.getElem?_cons_zero, List.getElem?_cons_succ]; exact rfl) (by kernel_rfl) (by kernel_rfl) (by kernel_rfl) (by exact fun _ _ _ h => h) (Or.inl ⟨by rfl, ?_⟩) hHeld ?_
      rotate_left
      · intro w' hSw
        clear hSw
        go_simp
        try with_reducible rfl
      try simp only [Act.put, List.setIfInBounds_toArray, List.set_cons_zero, List.set_cons_succ]
      refine wpAnyH_take (i := 44) (v := ?_) (by simp only [List.getElem?_toArray, List.getElem?_cons_zero, List.getElem?_cons_succ]; exact rfl) (by kernel_rfl) (by kernel_rfl) (by kernel_rfl) (by exact fun _ _ _ h => h) (Or.inl ⟨by rfl, ?_⟩) hHeld ?_
      rotate_left
      · intro w' hSw
        clear hSw
        go_simp
        try with_reducible rfl
      try simp only [Act.put, List.setIfInBounds_toArray, List.set_cons_zero, List.set_cons_succ]
      refine wpAnyH_done (by kernel_rfl) ?_ _
      go_wp2_with fail
      go_meet
      exact ⟨rfl, T, KP⟩
  case rest =>
    as_aux_lemma =>
      obtain ⟨rfl, T, KP⟩ := hcut
      clear KA KB KE KF KG KH KI
      have HOK := Lib.hid (show rr.c = 0 → sgC rr.x n4 = 0 from fun h => by have := rsAns_ok rx ry z3 (by rw [HRR.out]; exact h); rw [HRR.out] at this; rw [← (Ga4.out _ KP).length]; exact this.2)
      go_upto_region 10 with (fail)
      go_cut [94] (fun v wx => v = .bool false ∧ Hid (Below w.heap.size w wx) ∧ Hid (Kp bl rl wx))
      case first =>
        as_aux_lemma =>
          obtain ⟨_, x0, x1, x2, x3, x4, x5, x6, x7, x8⟩ := (Gb10.out _ KP).nine
          by_cases hc0 : rr.c = 0
          · have KX := Lib.hid (show ∀ W, Calls Try.prog 21 #[.agg #[.int .i64 rr.x.f, .int .i64 rr.x.t, .int .i64 rr.x.s, .int .i64 rr.x.a, .int .i64 rr.x.g, .int .i64 rr.x.w, .int .i64 rr.x.m, .slice a4 n4 c4]] W (fun e w' => e = .returned (.int .i64 0) ∧ Below W.heap.size W w') from fun W => by have := IF.out rr.x a4 n4 c4 W; rw [HOK.out hc0] at this; exact this)
            have e0 : (rr.c == 0) = true := by simpa using hc0
            go_wp2_with fail
            refine (KX.out _).mono ?_
            rintro e w1 ⟨rfl, hb⟩
            replace T := Lib.hid (T.out.trans (hb.mono T.out.size))
            replace KP := Lib.hid (KP.out.below hb)
            clear hb KX x0 x1 x2 x3 x4 x5 x6 x7 x8
            go_wp2_with fail
            go_meet
            exact ⟨rfl, T, KP⟩
          · have e0 : (rr.c == 0) = false := by simpa using hc0
            go_wp2_with fail
            go_meet
            exact ⟨rfl, T, KP⟩
      case rest =>
        as_aux_lemma =>
          obtain ⟨rfl, T, KP⟩ := hcut
          clear HOK
          have x6 := (Gb6.out _ KP).cell 0
          by_cases hb0 : cb = 0
          case neg =>
            have e1 : (cb != 0) = true := by simpa using hb0
            clear hb0
            go_wp2
            go_ret
            exact ⟨rfl, T.out⟩
          case pos =>
            subst hb0
            clear x6
            have hpc := HCB.out
            have hzb : zb = sgL pf pt x z1 := by have := HZB.out; unfold psP at this; rw [if_pos hpc] at this; exact this.symm
            have hn2 : 20 ≤ n2 ∧ n2 ≤ 560 := by
              have e1 := (Ga2.out _ KP).length
              have e2 := (sgC_parts (psC_parts hpc).2.2).2.2.2
              have e3 := sgL_len pf pt x z1
              have e4 := sgO_len x.m
              rw [← hzb] at e3
              split at e4 <;> omega
            have HS0 := Lib.hid (show dgSum pf pt 6 zb = 0 by rw [hzb]; exact sg_sum pf pt x z1)
            have KR := Lib.hid (show ∀ W, Hid (Kp bl rl W) → Calls Try.prog 16 #[.int .i64 pf, .int .i64 pt, .slice a2 n2 c2] W (RsRes W ⟨0, x, z1⟩) from fun W h => by have := IR.out pf pt a2 n2 c2 zb W (Ga2.out W h); rw [hzb, rsAns_pack pf pt x z1 hpc] at this; exact this)
            have KM := Lib.hid (show ∀ W (a' : Option Addr) (n' c' : Nat), Hid (Kp bl rl W) → Rd W a' n' c' z1 → Calls Try.prog 20 #[.agg #[.int .i64 x.f, .int .i64 x.t, .int .i64 x.s, .int .i64 x.a, .int .i64 x.g, .int .i64 x.w, .int .i64 x.m, .slice a' n' c'], .agg #[.int .i64 x.f, .int .i64 x.t, .int .i64 x.s, .int .i64 x.a, .int .i64 x.g, .int .i64 x.w, .int .i64 x.m, .slice a1 n1 c1]] W (fun e w' => e = .returned (.bool true) ∧ Below W.heap.size W w') from fun W a' n' c' h h' => by have := IS.out x a' n' c' z1 x a1 n1 c1 z1 W h' (Ga1.out W h); rw [sameG_self] at this; exact this)
            have KA := Lib.hid (show ∀ W, Hid (Kp bl rl W) → Calls Try.prog 18 #[.int .i64 pf, .int .i64 pt, .agg #[.int .i64 x.f, .int .i64 x.t, .int .i64 x.s, .int .i64 x.a, .int .i64 x.g, .int .i64 x.w, .int .i64 x.m, .slice a1 n1 c1]] W (Packed W 0 zb) from fun W h => by have := specPackSegment pf pt x a1 n1 c1 z1 W (Ga1.out W h); rw [HCB.out, HZB.out] at this; exact this)
            have KJ := Lib.hid (show ∀ W (a' : Option Addr) (n' c' : Nat), Hid (Kp bl rl W) → Rd W a' n' c' zb → Calls Try.prog 24 #[.slice a2 n2 c2, .slice a' n' c'] W (fun e w' => e = .returned (.bool true) ∧ Below W.heap.size W w') from fun W a' n' c' h h' => (lwSame_t a2 a' n2 c2 n' c' zb W (Ga2.out W h) h').mono fun e w' ⟨he, hw⟩ => by subst hw; exact ⟨he, Below.refl _ _⟩)
            have hn2b := hn2
            clear hpc hzb hn2
            have x6 := (Gb6.out _ KP).cell 0
            go_upto_region 14 with (fail)
            clear x6
            go_cut [126] (fun v wx => v = .bool false ∧ Hid (Below w.heap.size w wx) ∧ Hid (Kp bl rl wx))
            case first =>
              as_aux_lemma =>
                have SS := Lib.hid (show ∀ W, Hid (Kp bl rl W) → W.cell? ⟨b5, 0, none⟩ = some (.int .i64 x.f) ∧ W.cell? ⟨b5, 1, none⟩ = some (.int .i64 x.t) ∧ W.cell? ⟨b5, 2, none⟩ = some (.int .i64 x.s) ∧ W.cell? ⟨b5, 3, none⟩ = some (.int .i64 x.a) ∧ W.cell? ⟨b5, 4, none⟩ = some (.int .i64 x.g) ∧ W.cell? ⟨b5, 5, none⟩ = some (.int .i64 x.w) ∧ W.cell? ⟨b5, 6, none⟩ = some (.int .i64 x.m) ∧ W.cell? ⟨b5, 7, none⟩ = some (.slice a1 n1 c1) ∧ W.cell? ⟨b6, 1, none⟩ = some (.slice a2 n2 c2) ∧ Hid (Kp bl rl W) from fun W h => ⟨(Gb5.out W h).cell 0, (Gb5.out W h).cell 1, (Gb5.out W h).cell 2, (Gb5.out W h).cell 3, (Gb5.out W h).cell 4, (Gb5.out W h).cell 5, (Gb5.out W h).cell 6, (Gb5.out W h).cell 7, (Gb6.out W h).cell 1, h⟩)
                replace T := Lib.hid T.out.drew
                replace KP := Lib.hid KP.out.drew
                refine wp_region_held_drew (S := fun W => W.cell? ⟨b5, 0, none⟩ = some (.int .i64 x.f) ∧ W.cell? ⟨b5, 1, none⟩ = some (.int .i64 x.t) ∧ W.cell? ⟨b5, 2, none⟩ = some (.int .i64 x.s) ∧ W.cell? ⟨b5, 3, none⟩ = some (.int .i64 x.a) ∧ W.cell? ⟨b5, 4, none⟩ = some (.int .i64 x.g) ∧ W.cell? ⟨b5, 5, none⟩ = some (.int .i64 x.w) ∧ W.cell? ⟨b5, 6, none⟩ = some (.int .i64 x.m) ∧ W.cell? ⟨b5, 7, none⟩ = some (.slice a1 n1 c1) ∧ W.cell? ⟨b6, 1, none⟩ = some (.slice a2 n2 c2) ∧ Hid (Kp bl rl W)) (by kernel_rfl) (SS.out _ KP) (fun hHeld => ?_)
                refine wpAnyH_take (i := 0) (v := ?_) (by simp only [List.getElem?_toArray, List.getElem?_cons_zero]; exact rfl) (by kernel_rfl) (by kernel_rfl) (by kernel_rfl) (by exact fun _ _ _ h => h) (Or.inl ⟨by rfl, ?_⟩) hHeld ?_
                rotate_left
                · intro w' hSw
                  clear hSw
                  go_simp
                  try with_reducible rfl
                try simp only [Act.put, List.setIfInBounds_toArray, List.set_cons_zero, List.set_cons_succ]
                refine wpAnyH_take (i := 1) (v := ?_) (by simp only [List.getElem?_toArray, List.getElem?_cons_zero, List.getElem?_cons_succ]; exact rfl) (by kernel_rfl) (by kernel_rfl) (by kernel_rfl) (by exact fun _ _ _ h => h) (Or.inl ⟨by rfl, ?_⟩) hHeld ?_
                rotate_left
                · intro w' hSw
                  clear hSw
                  go_simp
                  try with_reducible rfl
                try simp only [Act.put, List.setIfInBounds_toArray, List.set_cons_zero, List.set_cons_succ]
                refine wpAnyH_take (i := 2) (v := ?_) (by simp only [List.getElem?_toArray, List.getElem?_cons_zero, List.getElem?_cons_succ]; exact rfl) (by kernel_rfl) (by kernel_rfl) (by kernel_rfl) (by exact fun _ _ _ h => h) (Or.inl ⟨by rfl, ?_⟩) hHeld ?_
                rotate_left
                · intro w' hSw
                  clear hSw
                  go_simp
                  try with_reducible rfl
                try simp only [Act.put, List.setIfInBounds_toArray, List.set_cons_zero, List.set_cons_succ]
                refine wpAnyH_take (i := 3) (v := ?_) (by simp only [List.getElem?_toArray, List.getElem?_cons_zero, List.getElem?_cons_succ]; exact rfl) (by kernel_rfl) (by kernel_rfl) (by kernel_rfl) (by exact fun _ _ _ h => h) (Or.inl ⟨by rfl, ?_⟩) hHeld ?_
                rotate_left
                · intro w' hSw
                  obtain ⟨_, _, _, _, _, _, _, _, s8, _⟩ := hSw
                  go_simp
                  try with_reducible rfl
                try simp only [Act.put, List.setIfInBounds_toArray, List.set_cons_zero, List.set_cons_succ]
                refine wpAnyH_take (i := 6) (v := ?_) (by simp only [List.getElem?_toArray, List.getElem?_cons_zero, List.getElem?_cons_succ]; exact rfl) (by kernel_rfl) (by kernel_rfl) (by kernel_rfl) (by exact fun _ _ _ h => h) (Or.inl ⟨by rfl, ?_⟩) hHeld ?_
                rotate_left
                · intro w' hSw
                  obtain ⟨s0, s1, s2, s3, s4, s5, s6, s7, _, _⟩ := hSw
                  go_simp
                  try with_reducible rfl
                try simp only [Act.put, List.setIfInBounds_toArray, List.set_cons_zero, List.set_cons_succ]
                refine wpAnyH_ready (rs := [4]) (by kernel_rfl) (by simp) ?_
                refine (AllReadyH.cons (by simp only [List.getElem?_toArray, List.getElem?_cons_zero, List.getElem?_cons_succ]; exact rfl) (fun K hK => ?_) AllReadyH.nil)
                refine want_none (by exact rfl) ?_
                go_wp2_with fail
                refine (KR.out _ KP).mono ?_
                rintro e w1 ⟨x1, y1, k1, rfl, o1, hb⟩
                replace T := Lib.hid (T.out.trans (hb.mono T.out.size))
                replace KP := Lib.hid (KP.out.below hb)
                have O1 := Lib.hid o1.rd
                clear o1
                clear hb
                go_wp2_with fail
                refine hK.out _ _ (SS.out _ KP) (fun hHeld => ?_)
                clear hK K
                try simp only [Act.put, List.setIfInBounds_toArray, List.set_cons_zero, List.set_cons_succ]
                refine wpAnyH_take (i := 5) (v := ?_) (by simp only [List.getElem?_toArray, List.getElem?_cons_zero, List.getElem?_cons_succ]; exact rfl) (by kernel_rfl) (by kernel_rfl) (by kernel_rfl) (by exact fun _ _ _ h => h) (Or.inl ⟨by rfl, ?_⟩) hHeld ?_
                rotate_left
                · intro w' hSw
                  clear hSw
                  go_simp
                  try with_reducible rfl
                try simp only [Act.put, List.setIfInBounds_toArray, List.set_cons_zero, List.set_cons_succ]
                refine wpAnyH_ready (rs := [7]) (by kernel_rfl) (by simp) ?_
                refine (AllReadyH.cons (by simp only [List.getElem?_toArray, List.getElem?_cons_zero, List.getElem?_cons_succ]; exact rfl) (fun K hK => ?_) AllReadyH.nil)
                refine want_none (by exact rfl) ?_
                go_wp2_with fail
                refine (KM.out _ _ _ _ KP O1.out).mono ?_
                rintro e w1 ⟨rfl, hb⟩
                replace T := Lib.hid (T.out.trans (hb.mono T.out.size))
                replace KP := Lib.hid (KP.out.below hb)
                clear O1
                clear hb
                go_wp2_with fail
                refine hK.out _ _ (SS.out _ KP) (fun hHeld => ?_)
                clear hK K
                try simp only [Act.put, List.setIfInBounds_toArray, List.set_cons_zero, List.set_cons_succ]
                refine wpAnyH_take (i := 8) (v := ?_) (by simp only [List.getElem?_toArray, List.getElem?_cons_zero, List.getElem?_cons_succ]; exact rfl) (by kernel_rfl) (by kernel_rfl) (by kernel_rfl) (by exact fun _ _ _ h => h) (Or.inl ⟨by rfl, ?_⟩) hHeld ?_
                rotate_left
                · intro w' hSw
                  clear hSw
                  go_simp
                  try with_reducible rfl
                try simp only [Act.put, List.setIfInBounds_toArray, List.set_cons_zero, List.set_cons_succ]
                refine wpAnyH_take (i := 9) (v := ?_) (by simp only [List.getElem?_toArray, List.getElem?_cons_zero, List.getElem?_cons_succ]; exact rfl) (by kernel_rfl) (by kernel_rfl) (by kernel_rfl) (by exact fun _ _ _ h => h) (Or.inl ⟨by rfl, ?_⟩) hHeld ?_
                rotate_left
                · intro w' hSw
                  clear hSw
                  go_simp
                  try with_reducible rfl
                try simp only [Act.put, List.setIfInBounds_toArray, List.set_cons_zero, List.set_cons_succ]
                refine wpAnyH_take (i := 10) (v := ?_) (by simp only [List.getElem?_toArray, List.getElem?_cons_zero, List.getElem?_cons_succ]; exact rfl) (by kernel_rfl) (by kernel_rfl) (by kernel_rfl) (by exact fun _ _ _ h => h) (Or.inl ⟨by rfl, ?_⟩) hHeld ?_
                rotate_left
                · intro w' hSw
                  clear hSw
                  go_simp
                  try with_reducible rfl
                try simp only [Act.put, List.setIfInBounds_toArray, List.set_cons_zero, List.set_cons_succ]
                refine wpAnyH_take (i := 11) (v := ?_) (by simp only [List.getElem?_toArray, List.getElem?_cons_zero, List.getElem?_cons_succ]; exact rfl) (by kernel_rfl) (by kernel_rfl) (by kernel_rfl) (by exact fun _ _ _ h => h) (Or.inl ⟨by rfl, ?_⟩) hHeld ?_
                rotate_left
                · intro w' hSw
                  clear hSw
                  go_simp
                  try with_reducible rfl
                try simp only [Act.put, List.setIfInBounds_toArray, List.set_cons_zero, List.set_cons_succ]
                refine wpAnyH_take (i := 12) (v := ?_) (by simp only [List.getElem?_toArray, List.getElem?_cons_zero, List.getElem?_cons_succ]; exact rfl) (by kernel_rfl) (by kernel_rfl) (by kernel_rfl) (by exact fun _ _ _ h => h) (Or.inl ⟨by rfl, ?_⟩) hHeld ?_
                rotate_left
                · intro w' hSw
                  clear hSw
                  go_simp
                  try with_reducible rfl
                try simp only [Act.put, List.setIfInBounds_toArray, List.set_cons_zero, List.set_cons_succ]
                refine wpAnyH_take (i := 13) (v := ?_) (by simp only [List.getElem?_toArray, List.getElem?_cons_zero, List.getElem?_cons_succ]; exact rfl) (by kernel_rfl) (by kernel_rfl) (by kernel_rfl) (by exact fun _ _ _ h => h) (Or.inl ⟨by rfl, ?_⟩) hHeld ?_
                rotate_left
                · intro w' hSw
                  obtain ⟨_, _, _, _, _, _, _, _, s8, _⟩ := hSw
                  go_simp
                  try with_reducible rfl
                try simp only [Act.put, List.setIfInBounds_toArray, List.set_cons_zero, List.set_cons_succ]
                refine wpAnyH_ready (rs := [14]) (by kernel_rfl) (by simp) ?_
                refine (AllReadyH.cons (by simp only [List.getElem?_toArray, List.getElem?_cons_zero, List.getElem?_cons_succ]; exact rfl) (fun K hK => ?_) AllReadyH.nil)
                refine want_yes (by rfl) ?_
                go_wp2_with fail
                refine (KR.out _ KP).mono ?_
                rintro e w1 ⟨x2, y2, k2, rfl, _, hb⟩
                replace T := Lib.hid (T.out.trans (hb.mono T.out.size))
                replace KP := Lib.hid (KP.out.below hb)
                clear hb
                go_wp2_with fail
                refine hK.out _ _ (SS.out _ KP) (fun hHeld => ?_)
                clear hK K
                try simp only [Act.put, List.setIfInBounds_toArray, List.set_cons_zero, List.set_cons_succ]
                refine wpAnyH_take (i := 15) (v := ?_) (by simp only [List.getElem?_toArray, List.getElem?_cons_zero, List.getElem?_cons_succ]; exact rfl) (by kernel_rfl) (by kernel_rfl) (by kernel_rfl) (by exact fun _ _ _ h => h) (Or.inl ⟨by rfl, ?_⟩) hHeld ?_
                rotate_left
                · intro w' hSw
                  clear hSw
                  go_simp
                  try with_reducible rfl
                try simp only [Act.put, List.setIfInBounds_toArray, List.set_cons_zero, List.set_cons_succ]
                refine wpAnyH_take (i := 16) (v := ?_) (by simp only [List.getElem?_toArray, List.getElem?_cons_zero, List.getElem?_cons_succ]; exact rfl) (by kernel_rfl) (by kernel_rfl) (by kernel_rfl) (by exact fun _ _ _ h => h) (Or.inl ⟨by rfl, ?_⟩) hHeld ?_
                rotate_left
                · intro w' hSw
                  clear hSw
                  go_simp
                  try with_reducible rfl
                try simp only [Act.put, List.setIfInBounds_toArray, List.set_cons_zero, List.set_cons_succ]
                refine wpAnyH_take (i := 17) (v := ?_) (by simp only [List.getElem?_toArray, List.getElem?_cons_zero, List.getElem?_cons_succ]; exact rfl) (by kernel_rfl) (by kernel_rfl) (by kernel_rfl) (by exact fun _ _ _ h => h) (Or.inl ⟨by rfl, ?_⟩) hHeld ?_
                rotate_left
                · intro w' hSw
                  clear hSw
                  go_simp
                  try with_reducible rfl
                try simp only [Act.put, List.setIfInBounds_toArray, List.set_cons_zero, List.set_cons_succ]
                refine wpAnyH_take (i := 18) (v := ?_) (by simp only [List.getElem?_toArray, List.getElem?_cons_zero, List.getElem?_cons_succ]; exact rfl) (by kernel_rfl) (by kernel_rfl) (by kernel_rfl) (by exact fun _ _ _ h => h) (Or.inl ⟨by rfl, ?_⟩) hHeld ?_
                rotate_left
                · intro w' hSw
                  clear hSw
                  go_simp
                  try with_reducible rfl
                try simp only [Act.put, List.setIfInBounds_toArray, List.set_cons_zero, List.set_cons_succ]
                refine wpAnyH_take (i := 19) (v := ?_) (by simp only [List.getElem?_toArray, List.getElem?_cons_zero, List.getElem?_cons_succ]; exact rfl) (by kernel_rfl) (by kernel_rfl) (by kernel_rfl) (by exact fun _ _ _ h => h) (Or.inl ⟨by rfl, ?_⟩) hHeld ?_
                rotate_left
                · intro w' hSw
                  clear hSw
                  go_simp
                  try with_reducible rfl
                try simp only [Act.put, List.setIfInBounds_toArray, List.set_cons_zero, List.set_cons_succ]
                refine wpAnyH_take (i := 20) (v := ?_) (by simp only [List.getElem?_toArray, List.getElem?_cons_zero, List.getElem?_cons_succ]; exact rfl) (by kernel_rfl) (by kernel_rfl) (by kernel_rfl) (by exact fun _ _ _ h => h) (Or.inl ⟨by rfl, ?_⟩) hHeld ?_
                rotate_left
                · intro w' hSw
                  obtain ⟨_, _, _, _, _, _, _, _, s8, _⟩ := hSw
                  go_simp
                  try with_reducible rfl
                try simp only [Act.put, List.setIfInBounds_toArray, List.set_cons_zero, List.set_cons_succ]
                refine wpAnyH_take (i := 21) (v := ?_) (by simp only [List.getElem?_toArray, List.getElem?_cons_zero, List.getElem?_cons_succ]; exact rfl) (by kernel_rfl) (by kernel_rfl) (by kernel_rfl) (by exact fun _ _ _ h => h) (Or.inl ⟨by rfl, ?_⟩) hHeld ?_
                rotate_left
                · intro w' hSw
                  clear hSw
                  go_simp
                  try with_reducible rfl
                try simp only [Act.put, List.setIfInBounds_toArray, List.set_cons_zero, List.set_cons_succ]
                refine wpAnyH_take (i := 22) (v := ?_) (by simp only [List.getElem?_toArray, List.getElem?_cons_zero, List.getElem?_cons_succ]; exact rfl) (by kernel_rfl) (by kernel_rfl) (by kernel_rfl) (by exact fun _ _ _ h => h) (Or.inl ⟨by rfl, ?_⟩) hHeld ?_
                rotate_left
                · intro w' hSw
                  clear hSw
                  go_simp
                  try with_reducible rfl
                try simp only [Act.put, List.setIfInBounds_toArray, List.set_cons_zero, List.set_cons_succ]
                refine wpAnyH_take (i := 23) (v := ?_) (by simp only [List.getElem?_toArray, List.getElem?_cons_zero, List.getElem?_cons_succ]; exact rfl) (by kernel_rfl) (by kernel_rfl) (by kernel_rfl) (by exact fun _ _ _ h => h) (Or.inl ⟨by rfl, ?_⟩) hHeld ?_
                rotate_left
                · intro w' hSw
                  obtain ⟨s0, s1, s2, s3, s4, s5, s6, s7, _, _⟩ := hSw
                  go_simp
                  try with_reducible rfl
                try simp only [Act.put, List.setIfInBounds_toArray, List.set_cons_zero, List.set_cons_succ]
                refine wpAnyH_ready (rs := [24]) (by kernel_rfl) (by simp) ?_
                refine (AllReadyH.cons (by simp only [List.getElem?_toArray, List.getElem?_cons_zero, List.getElem?_cons_succ]; exact rfl) (fun K hK => ?_) AllReadyH.nil)
                refine want_yes (by rfl) ?_
                go_wp2_with fail
                refine (KA.out _ KP).mono ?_
                rintro e w1 ⟨x3, y3, k3, rfl, o3, hb⟩
                replace T := Lib.hid (T.out.trans (hb.mono T.out.size))
                replace KP := Lib.hid (KP.out.below hb)
                have O3 := Lib.hid o3.rd
                clear o3
                clear hb
                go_wp2_with fail
                refine hK.out _ _ (SS.out _ KP) (fun hHeld => ?_)
                clear hK K
                try simp only [Act.put, List.setIfInBounds_toArray, List.set_cons_zero, List.set_cons_succ]
                refine wpAnyH_take (i := 25) (v := ?_) (by simp only [List.getElem?_toArray, List.getElem?_cons_zero, List.getElem?_cons_succ]; exact rfl) (by kernel_rfl) (by kernel_rfl) (by kernel_rfl) (by exact fun _ _ _ h => h) (Or.inl ⟨by rfl, ?_⟩) hHeld ?_
                rotate_left
                · intro w' hSw
                  clear hSw
                  go_simp
                  try with_reducible rfl
                try simp only [Act.put, List.setIfInBounds_toArray, List.set_cons_zero, List.set_cons_succ]
                refine wpAnyH_ready (rs := [26]) (by kernel_rfl) (by simp) ?_
                refine (AllReadyH.cons (by simp only [List.getElem?_toArray, List.getElem?_cons_zero, List.getElem?_cons_succ]; exact rfl) (fun K hK => ?_) AllReadyH.nil)
                refine want_yes (by rfl) ?_
                go_wp2_with fail
                refine (KJ.out _ _ _ _ KP O3.out).mono ?_
                rintro e w1 ⟨rfl, hb⟩
                replace T := Lib.hid (T.out.trans (hb.mono T.out.size))
                replace KP := Lib.hid (KP.out.below hb)
                clear O3
                clear hb
                go_wp2_with fail
                refine hK.out _ _ (SS.out _ KP) (fun hHeld => ?_)
                clear hK K
                try simp only [Act.put, List.setIfInBounds_toArray, List.set_cons_zero, List.set_cons_succ]
                refine wpAnyH_take (i := 27) (v := ?_) (by simp only [List.getElem?_toArray, List.getElem?_cons_zero, List.getElem?_cons_succ]; exact rfl) (by kernel_rfl) (by kernel_rfl) (by kernel_rfl) (by exact fun _ _ _ h => h) (Or.inl ⟨by rfl, ?_⟩) hHeld ?_
                rotate_left
                · intro w' hSw
                  clear hSw
                  go_simp
                  try with_reducible rfl
                try simp only [Act.put, List.setIfInBounds_toArray, List.set_cons_zero, List.set_cons_succ]
                refine wpAnyH_take (i := 28) (v := ?_) (by simp only [List.getElem?_toArray, List.getElem?_cons_zero, List.getElem?_cons_succ]; exact rfl) (by kernel_rfl) (by kernel_rfl) (by kernel_rfl) (by exact fun _ _ _ h => h) (Or.inl ⟨by rfl, ?_⟩) hHeld ?_
                rotate_left
                · intro w' hSw
                  clear hSw
                  go_simp
                  try with_reducible rfl
                try simp only [Act.put, List.setIfInBounds_toArray, List.set_cons_zero, List.set_cons_succ]
                refine wpAnyH_done (by kernel_rfl) ?_ _
                go_wp2_with fail
                go_meet
                exact ⟨rfl, T, KP⟩
            case rest =>
              as_aux_lemma =>
                obtain ⟨rfl, T, KP⟩ := hcut
                have zwc := Lib.hid T.out.size
                clear KR KM KA KJ
                have y4 : (wc.alloc (.cells #[] 5)).cell? ⟨b6, 1, none⟩ = some (.slice a2 n2 c2) := ((Gb6.out _ KP).alloc (.cells #[] 5)).cell 1
                have o0 := own_lit wc wc.heap.size (Nat.le_refl _)
                have r0 := (Ga2.out _ KP).alloc (.cells #[] 5)
                have H8B := Lib.hid (Ga2.out _ KP).b8
                have HZL := Lib.hid (Ga2.out _ KP).length
                go_wp2_with (at_builtin; refine append_bytes _ rfl (.tmp 127) (.tmp 129) rfl wc.heap.size _ _ _ [] rfl o0 a2 n2 c2 zb rfl r0 (by simp) (by omega) ?_; intro a14 c14 w9 o9 g9; simp only [List.nil_append, Nat.zero_add] at o9; have O9 := Lib.hid o9; have B9 := Lib.hid (((Below.refl wc.heap.size wc).alloc (Nat.le_refl _) (.cells #[] 5)).grown g9 (by simp) (fun k e => by simp [Value.ownBlock] at e; omega)); clear o9 g9)
                clear y4 o0 r0
                replace T := Lib.hid (T.out.trans (B9.out.mono T.out.size))
                have RA := Lib.hid (Ga.out _ (Lib.hid (KP.out.below B9.out)))
                rcases O9.out.shape with ⟨_, h0, _⟩ | ⟨g, rfl⟩
                · omega
                have gB := O9.out.lt _ rfl
                dsimp only at gB
                have KT := Lib.hid (fun W (hW : Rd W a len cap zs) => lwAt_all 2 n2 a len cap zs W hW (by omega) (by omega) (by omega) hl)
                have KU := Lib.hid (fun W (hW : Rd W a len cap zs) => lwAt_all 3 8 a len cap zs W hW (by omega) (by omega) (by omega) hl)
                have T := Lib.hid T.out.drew
                have RA := Lib.hid RA.out.drew
                have O9 := Lib.hid O9.out.drew
                clear B9 KP
                refine wp_region_held_drew (S := fun _ => True) (by kernel_rfl) trivial (fun hHeld => ?_)
                refine wpAnyH_take (i := 0) (v := ?_) (by simp only [List.getElem?_toArray, List.getElem?_cons_zero]; exact rfl) (by kernel_rfl) (by kernel_rfl) (by kernel_rfl) (by exact fun _ _ _ h => h) (Or.inl ⟨by rfl, ?_⟩) hHeld ?_
                rotate_left
                · intro w' hSw
                  clear hSw
                  go_simp
                  try with_reducible rfl
                try simp only [Act.put, List.setIfInBounds_toArray, List.set_cons_zero, List.set_cons_succ]
                refine wpAnyH_take (i := 1) (v := ?_) (by simp only [List.getElem?_toArray, List.getElem?_cons_zero, List.getElem?_cons_succ]; exact rfl) (by kernel_rfl) (by kernel_rfl) (by kernel_rfl) (by exact fun _ _ _ h => h) (Or.inl ⟨by rfl, ?_⟩) hHeld ?_
                rotate_left
                · intro w' hSw
                  clear hSw
                  go_simp
                  try with_reducible rfl
                try simp only [Act.put, List.setIfInBounds_toArray, List.set_cons_zero, List.set_cons_succ]
                refine wpAnyH_take (i := 2) (v := ?_) (by simp only [List.getElem?_toArray, List.getElem?_cons_zero, List.getElem?_cons_succ]; exact rfl) (by kernel_rfl) (by kernel_rfl) (by kernel_rfl) (by exact fun _ _ _ h => h) (Or.inl ⟨by rfl, ?_⟩) hHeld ?_
                rotate_left
                · intro w' hSw
                  clear hSw
                  go_simp
                  try with_reducible rfl
                try simp only [Act.put, List.setIfInBounds_toArray, List.set_cons_zero, List.set_cons_succ]
                refine wpAnyH_take (i := 3) (v := ?_) (by simp only [List.getElem?_toArray, List.getElem?_cons_zero, List.getElem?_cons_succ]; exact rfl) (by kernel_rfl) (by kernel_rfl) (by kernel_rfl) (by exact fun _ _ _ h => h) (Or.inl ⟨by rfl, ?_⟩) hHeld ?_
                rotate_left
                · intro w' hSw
                  clear hSw
                  go_simp
                  try with_reducible rfl
                try simp only [Act.put, List.setIfInBounds_toArray, List.set_cons_zero, List.set_cons_succ]
                refine wpAnyH_take (i := 7) (v := ?_) (by simp only [List.getElem?_toArray, List.getElem?_cons_zero, List.getElem?_cons_succ]; exact rfl) (by kernel_rfl) (by kernel_rfl) (by kernel_rfl) (by exact fun _ _ _ h => h) (Or.inl ⟨by rfl, ?_⟩) hHeld ?_
                rotate_left
                · intro w' hSw
                  clear hSw
                  go_simp
                  try with_reducible rfl
                try simp only [Act.put, List.setIfInBounds_toArray, List.set_cons_zero, List.set_cons_succ]
                refine wpAnyH_ready (rs := [4]) (by kernel_rfl) (by simp) ?_
                refine (AllReadyH.cons (by simp only [List.getElem?_toArray, List.getElem?_cons_zero, List.getElem?_cons_succ]; exact rfl) (fun K hK => ?_) AllReadyH.nil)
                refine want_none (by exact rfl) ?_
                go_wp2_with fail
                refine (KT.out _ RA.out).mono ?_
                rintro e w10 ⟨i, rfl, hin, hb⟩
                have hii : (i : Int) < n2 := by omega
                replace T := Lib.hid (T.out.trans (hb.mono T.out.size))
                replace RA := Lib.hid (RA.out.below hb)
                replace O9 := Lib.hid (O9.out.below hb)
                clear hb
                go_wp2_with fail
                refine hK.out _ _ trivial (fun hHeld => ?_)
                clear hK K
                try simp only [Act.put, List.setIfInBounds_toArray, List.set_cons_zero, List.set_cons_succ]
                refine wpAnyH_take (i := 5) (v := ?_) (by simp only [List.getElem?_toArray, List.getElem?_cons_zero, List.getElem?_cons_succ]; exact rfl) (by kernel_rfl) (by kernel_rfl) (by kernel_rfl) (by exact fun _ _ _ h => h) (Or.inl ⟨by rfl, ?_⟩) hHeld ?_
                rotate_left
                · intro w' hSw
                  clear hSw
                  go_simp
                  try with_reducible rfl
                try simp only [Act.put, List.setIfInBounds_toArray, List.set_cons_zero, List.set_cons_succ]
                refine wpAnyH_ready (rs := [6, 8]) (by kernel_rfl) (by simp) ?_
                refine (AllReadyH.cons (by simp only [List.getElem?_toArray, List.getElem?_cons_zero, List.getElem?_cons_succ]; exact rfl) (fun K hK => ?_) (AllReadyH.cons (by simp only [List.getElem?_toArray, List.getElem?_cons_zero, List.getElem?_cons_succ]; exact rfl) (fun K hK => ?_) AllReadyH.nil))
                · skip
                  have ck := O9.out.cellAt i hin
                  refine want_none (by exact rfl) ?_
                  go_wp2_with fail
                  refine hK.out _ _ trivial (fun hHeld => ?_)
                  clear hK K ck
                  try simp only [Act.put, List.setIfInBounds_toArray, List.set_cons_zero, List.set_cons_succ]
                  refine wpAnyH_ready (rs := [8]) (by kernel_rfl) (by simp) ?_
                  refine (AllReadyH.cons (by simp only [List.getElem?_toArray, List.getElem?_cons_zero, List.getElem?_cons_succ]; exact rfl) (fun K hK => ?_) AllReadyH.nil)
                  refine want_none (by exact rfl) ?_
                  go_wp2_with fail
                  refine (KU.out _ RA.out).mono ?_
                  rintro e w11 ⟨k, rfl, hk, hb⟩
                  have hk8 : (k : Int) ≤ 8 := by omega
                  have hk0 : (0 : Int) ≤ k := by omega
                  have hku : IntKind.u64.wrap (k : Int) = k := by rw [IntKind.wrap_u64]; omega
                  replace T := Lib.hid (T.out.trans (hb.mono T.out.size))
                  replace O9 := Lib.hid (O9.out.below hb)
                  clear hb
                  go_wp2_with fail
                  refine hK.out _ _ trivial (fun hHeld => ?_)
                  clear hK K RA
                  try simp only [Act.put, List.setIfInBounds_toArray, List.set_cons_zero, List.set_cons_succ]
                  refine wpAnyH_take (i := 9) (v := ?_) (by simp only [List.getElem?_toArray, List.getElem?_cons_zero, List.getElem?_cons_succ]; exact rfl) (by kernel_rfl) (by kernel_rfl) (by kernel_rfl) (by exact fun _ _ _ h => h) (Or.inl ⟨by rfl, ?_⟩) hHeld ?_
                  rotate_left
                  · intro w' hSw
                    clear hSw
                    go_simp
                    try with_reducible rfl
                  try simp only [Act.put, List.setIfInBounds_toArray, List.set_cons_zero, List.set_cons_succ]
                  refine wpAnyH_take (i := 10) (v := ?_) (by simp only [List.getElem?_toArray, List.getElem?_cons_zero, List.getElem?_cons_succ]; exact rfl) (by kernel_rfl) (by kernel_rfl) (by kernel_rfl) (by exact fun _ _ _ h => h) (Or.inl ⟨by rfl, ?_⟩) hHeld ?_
                  rotate_left
                  · intro w' hSw
                    clear hSw
                    go_simp
                    try with_reducible rfl
                  try simp only [Act.put, List.setIfInBounds_toArray, List.set_cons_zero, List.set_cons_succ]
                  refine wpAnyH_take (i := 11) (v := ?_) (by simp only [List.getElem?_toArray, List.getElem?_cons_zero, List.getElem?_cons_succ]; exact rfl) (by kernel_rfl) (by kernel_rfl) (by kernel_rfl) (by exact fun _ _ _ h => h) (Or.inl ⟨by rfl, ?_⟩) hHeld ?_
                  rotate_left
                  · intro w' hSw
                    clear hSw
                    go_simp
                    try with_reducible rfl
                  try simp only [Act.put, List.setIfInBounds_toArray, List.set_cons_zero, List.set_cons_succ]
                  refine wpAnyH_take (i := 12) (v := ?_) (by simp only [List.getElem?_toArray, List.getElem?_cons_zero, List.getElem?_cons_succ]; exact rfl) (by kernel_rfl) (by kernel_rfl) (by kernel_rfl) (by exact fun _ _ _ h => h) (Or.inl ⟨by rfl, ?_⟩) hHeld ?_
                  rotate_left
                  · intro w' hSw
                    clear hSw
                    go_simp
                    try with_reducible rfl
                  try simp only [Act.put, List.setIfInBounds_toArray, List.set_cons_zero, List.set_cons_succ]
                  refine wpAnyH_ready (rs := [13]) (by kernel_rfl) (by simp) ?_
                  refine (AllReadyH.cons (by simp only [List.getElem?_toArray, List.getElem?_cons_zero, List.getElem?_cons_succ]; exact rfl) (fun K hK => ?_) AllReadyH.nil)
                  have ck := O9.out.cellAt i hin
                  have fk := O9.out.frozenAt i
                  refine want_none (by exact rfl) ?_
                  go_wp2_with fail
                  clear ck fk
                  have OS := O9.out.set i (bits .xor .u8 (zb[i]?.getD 0) (2 ^ k % 256)) (bits_within .xor .u8 _ _)
                  have HT := sg_told pf pt zb i k (by rw [HZL.out]; exact hin) hk H8B.out HS0.out
                  rw [List.getD_eq_getElem?_getD, ← pow_mod k hk] at HT
                  obtain ⟨bad, hbad⟩ : ∃ bad, bad = zb.set i (bits .xor .u8 (zb[i]?.getD 0) (2 ^ k % 256)) := ⟨_, rfl⟩
                  have OB := OS.1
                  rw [← hbad] at HT OB
                  replace T := Lib.hid (T.out.setCell (p := ⟨g, i, none⟩) (by show w.heap.size ≤ g; have := zwc.out; omega) (.int .u8 (bits .xor .u8 (zb[i]?.getD 0) (2 ^ k % 256))))
                  generalize w11.setCell ⟨g, i, none⟩ (.int .u8 (bits .xor .u8 (zb[i]?.getD 0) (2 ^ k % 256))) = w11b at *
                  clear OS hbad
                  have KV := Lib.hid (IR.out pf pt _ n2 c14 bad w11b OB.rd)
                  clear OB
                  refine hK.out _ _ trivial (fun hHeld => ?_)
                  clear hK K
                  try simp only [Act.put]
                  refine wpAnyH_done (by kernel_rfl) ?_ _
                  go_wp2_with fail
                  refine KV.out.mono ?_
                  rintro e w12 ⟨x12, y12, z12, rfl, _, hb⟩
                  replace T := Lib.hid (T.out.trans (hb.mono T.out.size))
                  clear hb KV
                  generalize rsAns pf pt bad = ra at *
                  have e9 : (ra.c != 0) = true := by simpa using HT
                  clear HT
                  go_wp2
                  go_ret
                  exact ⟨rfl, T.out⟩
                · skip
                  refine want_none (by exact rfl) ?_
                  go_wp2_with fail
                  refine (KU.out _ RA.out).mono ?_
                  rintro e w11 ⟨k, rfl, hk, hb⟩
                  have hk8 : (k : Int) ≤ 8 := by omega
                  have hk0 : (0 : Int) ≤ k := by omega
                  have hku : IntKind.u64.wrap (k : Int) = k := by rw [IntKind.wrap_u64]; omega
                  replace T := Lib.hid (T.out.trans (hb.mono T.out.size))
                  replace O9 := Lib.hid (O9.out.below hb)
                  clear hb
                  go_wp2_with fail
                  refine hK.out _ _ trivial (fun hHeld => ?_)
                  clear hK K RA
                  try simp only [Act.put, List.setIfInBounds_toArray, List.set_cons_zero, List.set_cons_succ]
                  refine wpAnyH_take (i := 9) (v := ?_) (by simp only [List.getElem?_toArray, List.getElem?_cons_zero, List.getElem?_cons_succ]; exact rfl) (by kernel_rfl) (by kernel_rfl) (by kernel_rfl) (by exact fun _ _ _ h => h) (Or.inl ⟨by rfl, ?_⟩) hHeld ?_
                  rotate_left
                  · intro w' hSw
                    clear hSw
                    go_simp
                    try with_reducible rfl
                  try simp only [Act.put, List.setIfInBounds_toArray, List.set_cons_zero, List.set_cons_succ]
                  refine wpAnyH_take (i := 10) (v := ?_) (by simp only [List.getElem?_toArray, List.getElem?_cons_zero, List.getElem?_cons_succ]; exact rfl) (by kernel_rfl) (by kernel_rfl) (by kernel_rfl) (by exact fun _ _ _ h => h) (Or.inl ⟨by rfl, ?_⟩) hHeld ?_
                  rotate_left
                  · intro w' hSw
                    clear hSw
                    go_simp
                    try with_reducible rfl
                  try simp only [Act.put, List.setIfInBounds_toArray, List.set_cons_zero, List.set_cons_succ]
                  refine wpAnyH_ready (rs := [6]) (by kernel_rfl) (by simp) ?_
                  refine (AllReadyH.cons (by simp only [List.getElem?_toArray, List.getElem?_cons_zero, List.getElem?_cons_succ]; exact rfl) (fun K hK => ?_) AllReadyH.nil)
                  have ck := O9.out.cellAt i hin
                  refine want_none (by exact rfl) ?_
                  go_wp2_with fail
                  refine hK.out _ _ trivial (fun hHeld => ?_)
                  clear hK K ck
                  try simp only [Act.put, List.setIfInBounds_toArray, List.set_cons_zero, List.set_cons_succ]
                  refine wpAnyH_take (i := 11) (v := ?_) (by simp only [List.getElem?_toArray, List.getElem?_cons_zero, List.getElem?_cons_succ]; exact rfl) (by kernel_rfl) (by kernel_rfl) (by kernel_rfl) (by exact fun _ _ _ h => h) (Or.inl ⟨by rfl, ?_⟩) hHeld ?_
                  rotate_left
                  · intro w' hSw
                    clear hSw
                    go_simp
                    try with_reducible rfl
                  try simp only [Act.put, List.setIfInBounds_toArray, List.set_cons_zero, List.set_cons_succ]
                  refine wpAnyH_take (i := 12) (v := ?_) (by simp only [List.getElem?_toArray, List.getElem?_cons_zero, List.getElem?_cons_succ]; exact rfl) (by kernel_rfl) (by kernel_rfl) (by kernel_rfl) (by exact fun _ _ _ h => h) (Or.inl ⟨by rfl, ?_⟩) hHeld ?_
                  rotate_left
                  · intro w' hSw
                    clear hSw
                    go_simp
                    try with_reducible rfl
                  try simp only [Act.put, List.setIfInBounds_toArray, List.set_cons_zero, List.set_cons_succ]
                  refine wpAnyH_ready (rs := [13]) (by kernel_rfl) (by simp) ?_
                  refine (AllReadyH.cons (by simp only [List.getElem?_toArray, List.getElem?_cons_zero, List.getElem?_cons_succ]; exact rfl) (fun K hK => ?_) AllReadyH.nil)
                  have ck := O9.out.cellAt i hin
                  have fk := O9.out.frozenAt i
                  refine want_none (by exact rfl) ?_
                  go_wp2_with fail
                  clear ck fk
                  have OS := O9.out.set i (bits .xor .u8 (zb[i]?.getD 0) (2 ^ k % 256)) (bits_within .xor .u8 _ _)
                  have HT := sg_told pf pt zb i k (by rw [HZL.out]; exact hin) hk H8B.out HS0.out
                  rw [List.getD_eq_getElem?_getD, ← pow_mod k hk] at HT
                  obtain ⟨bad, hbad⟩ : ∃ bad, bad = zb.set i (bits .xor .u8 (zb[i]?.getD 0) (2 ^ k % 256)) := ⟨_, rfl⟩
                  have OB := OS.1
                  rw [← hbad] at HT OB
                  replace T := Lib.hid (T.out.setCell (p := ⟨g, i, none⟩) (by show w.heap.size ≤ g; have := zwc.out; omega) (.int .u8 (bits .xor .u8 (zb[i]?.getD 0) (2 ^ k % 256))))
                  generalize w11.setCell ⟨g, i, none⟩ (.int .u8 (bits .xor .u8 (zb[i]?.getD 0) (2 ^ k % 256))) = w11b at *
                  clear OS hbad
                  have KV := Lib.hid (IR.out pf pt _ n2 c14 bad w11b OB.rd)
                  clear OB
                  refine hK.out _ _ trivial (fun hHeld => ?_)
                  clear hK K
                  try simp only [Act.put]
                  refine wpAnyH_done (by kernel_rfl) ?_ _
                  go_wp2_with fail
                  refine KV.out.mono ?_
                  rintro e w12 ⟨x12, y12, z12, rfl, _, hb⟩
                  replace T := Lib.hid (T.out.trans (hb.mono T.out.size))
                  clear hb KV
                  generalize rsAns pf pt bad = ra at *
                  have e9 : (ra.c != 0) = true := by simpa using HT
                  clear HT
                  go_wp2
                  go_ret
                  exact ⟨rfl, T.out⟩
end Go.Proofs.Yteaiemckcepphaa
