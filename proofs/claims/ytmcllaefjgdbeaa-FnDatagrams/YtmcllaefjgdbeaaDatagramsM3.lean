/-
  The law FnDatagrams, where the program answers as it should.
  The bounds of the program: ipBound, portBound, and areWithin over a row of them.
  bytes.Equal, and SameFrames of the program.
  DatagramFault and SameDatagrams of the program, and their laws.
  The exact law of PseudoHead, where model and program answer the same.
  PseudoHead of the program and its law; withPseudoHead.
-/
import Derived.Test.YtmcllaefjgdbeaaDatagramsM1
import Derived.Test.YtmcllaefjgdbeaaDatagramsM2
import Derived.Deep.DeepCutAuto
import Derived.Test.YtmcllaefjgdbeaaDatagramsM0
namespace Go.Proofs.Ytmcllaefjgdbeaa
open Go.ChangeShapes Go.WideShapes Go.ChangeAt Go.RowKit

theorem fld_dr0 (w : World) (c f t : Int) (a : Option Addr) (n k : Nat) : (Instr.field 34 (.agg #[.int .i64 c, .int .i64 f, .int .i64 t, .slice a n k]) 0).run Try.prog w = .ok (.int .i64 c) w := by
  simp [Instr.field, asAgg, go_sem]
theorem fld_dr1 (w : World) (c f t : Int) (a : Option Addr) (n k : Nat) : (Instr.field 34 (.agg #[.int .i64 c, .int .i64 f, .int .i64 t, .slice a n k]) 1).run Try.prog w = .ok (.agg #[.int .i64 f, .int .i64 t, .slice a n k]) w := by
  simp [Instr.field, asAgg, go_sem]
theorem fld_bb1 (w : World) (c : Int) (a : Option Addr) (l k : Nat) : (Instr.field 29 (.agg #[.int .i64 c, .slice a l k]) 1).run Try.prog w = .ok (.slice a l k) w := by
  simp [Instr.field, asAgg, go_sem]
theorem sameD_self (df dt : Int) (zs : List Int) : sameD df dt zs df dt zs = true := by simp [sameD, eqL]

set_option maxRecDepth 100000 in
set_option maxHeartbeats 8000000 in
theorem datagrams_law (a : Option Addr) (len cap : Nat) (zs : List Int) (w : World) (hr : Rd w a len cap zs)
    (iPack : ∀ (f t df dt : Int) (a : Option Addr) (len cap : Nat) (zs : List Int) (w : World), Rd w a len cap zs → Calls Try.prog 11 #[.int .i64 f, .int .i64 t, .agg #[.int .i64 df, .int .i64 dt, .slice a len cap]] w (Packed w (pdC f t df dt zs.length) (pdP f t df dt zs)))
    (iRead : ∀ (f t : Int) (a : Option Addr) (len cap : Nat) (zs : List Int) (w : World), Rd w a len cap zs → Calls Try.prog 13 #[.int .i64 f, .int .i64 t, .slice a len cap] w (RgRes w (rgAns f t zs)))
    (iHead : ∀ (f t p n : Int) (w : World), Calls Try.prog 15 #[.int .i64 f, .int .i64 t, .int .i64 p, .int .i64 n] w (Packed w (phC f t p n) (phP f t p n)))
    (iFault : ∀ (df dt : Int) (a : Option Addr) (len cap : Nat) (w : World), Calls Try.prog 22 #[.agg #[.int .i64 df, .int .i64 dt, .slice a len cap]] w fun e w' => e = .returned (.int .i64 (dgC df dt len)) ∧ Below w.heap.size w w')
    (iSame : ∀ (df dt : Int) (a : Option Addr) (len cap : Nat) (zs : List Int) (df' dt' : Int) (a' : Option Addr) (len' cap' : Nat) (zs' : List Int) (w : World), Rd w a len cap zs → Rd w a' len' cap' zs' → Calls Try.prog 19 #[.agg #[.int .i64 df, .int .i64 dt, .slice a len cap], .agg #[.int .i64 df', .int .i64 dt', .slice a' len' cap']] w fun e w' => e = .returned (.bool (sameD df dt zs df' dt' zs')) ∧ Below w.heap.size w w') :
    Calls Try.prog 3 #[.slice a len cap] w fun e w' => e = .returned (.bool true) ∧ Below w.heap.size w w' := by
  by_cases hl : len ≤ 1048576
  case neg =>
    have K := Lib.hid (lwBig_t a len cap w hl)
    clear hr iPack iRead iHead iFault iSame
    go_enter Try.func3, Try.ntmps3
    go_wp2_with fail
    refine K.out.mono ?_
    rintro e w' ⟨rfl, rfl⟩
    go_wp2
    go_ret
    exact ⟨rfl, Below.refl _ _⟩
  have IP := Lib.hid iPack
  have IR := Lib.hid iRead
  have IH := Lib.hid iHead
  have IF := Lib.hid iFault
  have IS := Lib.hid iSame
  clear iPack iRead iHead iFault iSame
  have KL := Lib.hid (lwBig_f a len cap w hl)
  have KP : Hid (Kp [] [(a, len, cap, zs)] w) := ⟨fun x hx => (by cases hx), fun x hx => (by rcases List.mem_cons.1 hx with rfl | hx; exact hr; cases hx)⟩
  have T := Lib.hid (Below.refl w.heap.size w)
  clear hr
  go_enter Try.func3, Try.ntmps3
  go_wp2_with fail
  refine KL.out.mono ?_
  rintro e w' ⟨rfl, rfl⟩
  clear KL
  go_wp2_with fail
  refine (drawPackDatagram a len cap zs _ (KP.out.2 _ (List.Mem.head _)) hl).mono ?_
  rintro e w1 ⟨pf, pt, df, dt, a1, n1, c1, z1, rfl, _, _, hn1, o1, hb⟩
  replace T := Lib.hid (T.out.trans (hb.mono T.out.size))
  replace KP := Lib.hid (KP.out.below hb)
  replace KP := Lib.hid (KP.out.rd o1.rd)
  have H1 := Lib.hid o1.length
  clear o1
  clear hb
  replace T := Lib.hid (T.out.alloc T.out.size (.cells #[.int .i64 df, .int .i64 dt, .slice a1 n1 c1] 25))
  replace KP := Lib.hid (KP.out.box 25 #[.int .i64 df, .int .i64 dt, .slice a1 n1 c1])
  generalize hW : w1.alloc (.cells #[.int .i64 df, .int .i64 dt, .slice a1 n1 c1] 25) = W at *
  have q0 := (KP.out.1 _ (List.Mem.head _)).cell 0
  have q1 := (KP.out.1 _ (List.Mem.head _)).cell 1
  have q2 := (KP.out.1 _ (List.Mem.head _)).cell 2
  go_wp2_with fail
  clear hW q0 q1 q2
  generalize w1.heap.size = b5 at *
  refine (IP.out pf pt df dt a1 n1 c1 z1 _ (KP.out.2 _ (List.Mem.head _))).mono ?_
  rintro e w1 ⟨a2, n2, c2, rfl, o2, hb⟩
  replace T := Lib.hid (T.out.trans (hb.mono T.out.size))
  replace KP := Lib.hid (KP.out.below hb)
  replace KP := Lib.hid (KP.out.rd o2.rd)
  clear o2
  generalize hcb : pdC pf pt df dt z1.length = cb at *
  generalize hzb : pdP pf pt df dt z1 = zb at *
  have HCB := Lib.hid hcb
  have HZB := Lib.hid hzb
  clear hcb hzb
  clear hb
  replace T := Lib.hid (T.out.alloc T.out.size (.cells #[.int .i64 cb, .slice a2 n2 c2] 29))
  replace KP := Lib.hid (KP.out.box 29 #[.int .i64 cb, .slice a2 n2 c2])
  generalize hW : w1.alloc (.cells #[.int .i64 cb, .slice a2 n2 c2] 29) = W at *
  go_wp2_with fail
  clear hW 
  generalize w1.heap.size = b6 at *
  refine (drawReadDatagram a len cap zs _ (KP.out.2 _ (List.Mem.tail _ (List.Mem.tail _ (List.Mem.head _)))) hl).mono ?_
  rintro e w1 ⟨rx, ry, a3, n3, c3, z3, rfl, _, hn3, r3, hb⟩
  replace T := Lib.hid (T.out.trans (hb.mono T.out.size))
  replace KP := Lib.hid (KP.out.below hb)
  replace KP := Lib.hid (KP.out.rd r3)
  clear r3
  clear hb
  go_wp2_with fail
  refine (IR.out rx ry a3 n3 c3 z3 _ (KP.out.2 _ (List.Mem.head _))).mono ?_
  rintro e w1 ⟨a4, n4, c4, rfl, o4, hb⟩
  replace T := Lib.hid (T.out.trans (hb.mono T.out.size))
  replace KP := Lib.hid (KP.out.below hb)
  replace KP := Lib.hid (KP.out.rd o4.rd)
  clear o4
  generalize hrr : rgAns rx ry z3 = rr at *
  have HRR := Lib.hid hrr
  clear hrr
  clear hb
  replace T := Lib.hid (T.out.alloc T.out.size (.cells #[.int .i64 rr.c, .int .i64 rr.f, .int .i64 rr.t, .slice a4 n4 c4] 34))
  replace KP := Lib.hid (KP.out.box 34 #[.int .i64 rr.c, .int .i64 rr.f, .int .i64 rr.t, .slice a4 n4 c4])
  generalize hW : w1.alloc (.cells #[.int .i64 rr.c, .int .i64 rr.f, .int .i64 rr.t, .slice a4 n4 c4] 34) = W at *
  go_wp2_with fail
  clear hW 
  generalize w1.heap.size = b10 at *
  refine (drawPseudoHead a len cap zs _ (KP.out.2 _ (List.Mem.tail _ (List.Mem.tail _ (List.Mem.tail _ (List.Mem.tail _ (List.Mem.head _)))))) hl).mono ?_
  rintro e w1 ⟨sf, st, sp, sn, rfl, _, hb⟩
  replace T := Lib.hid (T.out.trans (hb.mono T.out.size))
  replace KP := Lib.hid (KP.out.below hb)
  clear hb
  go_wp2_with fail
  refine (IH.out sf st sp sn _).mono ?_
  rintro e w1 ⟨a5, n5, c5, rfl, o5, hb⟩
  replace T := Lib.hid (T.out.trans (hb.mono T.out.size))
  replace KP := Lib.hid (KP.out.below hb)
  replace KP := Lib.hid (KP.out.rd o5.rd)
  clear o5
  generalize hch : phC sf st sp sn = ch at *
  generalize hzh : phP sf st sp sn = zh at *
  have HCH := Lib.hid hch
  have HZH := Lib.hid hzh
  clear hch hzh
  clear hb
  replace T := Lib.hid (T.out.alloc T.out.size (.cells #[.int .i64 ch, .slice a5 n5 c5] 29))
  replace KP := Lib.hid (KP.out.box 29 #[.int .i64 ch, .slice a5 n5 c5])
  generalize hW : w1.alloc (.cells #[.int .i64 ch, .slice a5 n5 c5] 29) = W at *
  go_wp2_with fail
  clear hW 
  generalize w1.heap.size = b15 at *
  refine (drawSameDatagrams a len cap zs _ (KP.out.2 _ (List.Mem.tail _ (List.Mem.tail _ (List.Mem.tail _ (List.Mem.tail _ (List.Mem.tail _ (List.Mem.head _))))))) hl).mono ?_
  rintro e w1 ⟨uf, ut, a9, n9, c9, z9, vf, vt, a10, n10, c10, z10, rfl, r9, r10, hb⟩
  replace T := Lib.hid (T.out.trans (hb.mono T.out.size))
  replace KP := Lib.hid (((KP.out.below hb).rd r9).rd r10)
  clear hb r9 r10
  replace T := Lib.hid ((T.out.alloc T.out.size (.cells #[.int .i64 uf, .int .i64 ut, .slice a9 n9 c9] 25)).alloc (by have := T.out.size; simp; omega) (.cells #[.int .i64 vf, .int .i64 vt, .slice a10 n10 c10] 25))
  replace KP := Lib.hid ((KP.out.box 25 #[.int .i64 uf, .int .i64 ut, .slice a9 n9 c9]).box 25 #[.int .i64 vf, .int .i64 vt, .slice a10 n10 c10])
  simp only [World.size_alloc] at KP
  generalize hW : (w1.alloc (.cells #[.int .i64 uf, .int .i64 ut, .slice a9 n9 c9] 25)).alloc (.cells #[.int .i64 vf, .int .i64 vt, .slice a10 n10 c10] 25) = W at *
  go_upto_region 10 with (fail)
  clear hW
  generalize hb12 : w1.heap.size + 1 = b17 at *
  generalize w1.heap.size = b16 at *
  clear hb12
  obtain ⟨bl, hbl⟩ : ∃ bl : List (Nat × TypeId × Array Value), bl = [(b17, 25, #[.int .i64 vf, .int .i64 vt, .slice a10 n10 c10]), (b16, 25, #[.int .i64 uf, .int .i64 ut, .slice a9 n9 c9]), (b15, 29, #[.int .i64 ch, .slice a5 n5 c5]), (b10, 34, #[.int .i64 rr.c, .int .i64 rr.f, .int .i64 rr.t, .slice a4 n4 c4]), (b6, 29, #[.int .i64 cb, .slice a2 n2 c2]), (b5, 25, #[.int .i64 df, .int .i64 dt, .slice a1 n1 c1])] := ⟨_, rfl⟩
  obtain ⟨rl, hrl⟩ : ∃ rl : List (Option Addr × Nat × Nat × List Int), rl = [(a10, n10, c10, z10), (a9, n9, c9, z9), (a5, n5, c5, zh), (a4, n4, c4, rr.rs), (a3, n3, c3, z3), (a2, n2, c2, zb), (a1, n1, c1, z1), (a, len, cap, zs)] := ⟨_, rfl⟩
  rw [← hbl, ← hrl] at KP
  have Gb17 := Lib.hid (show ∀ W, Hid (Kp bl rl W) → Box W b17 25 #[.int .i64 vf, .int .i64 vt, .slice a10 n10 c10] from fun W h => by rw [hbl] at h; exact h.out.1 _ (List.Mem.head _))
  have Gb16 := Lib.hid (show ∀ W, Hid (Kp bl rl W) → Box W b16 25 #[.int .i64 uf, .int .i64 ut, .slice a9 n9 c9] from fun W h => by rw [hbl] at h; exact h.out.1 _ (List.Mem.tail _ (List.Mem.head _)))
  have Gb15 := Lib.hid (show ∀ W, Hid (Kp bl rl W) → Box W b15 29 #[.int .i64 ch, .slice a5 n5 c5] from fun W h => by rw [hbl] at h; exact h.out.1 _ (List.Mem.tail _ (List.Mem.tail _ (List.Mem.head _))))
  have Gb10 := Lib.hid (show ∀ W, Hid (Kp bl rl W) → Box W b10 34 #[.int .i64 rr.c, .int .i64 rr.f, .int .i64 rr.t, .slice a4 n4 c4] from fun W h => by rw [hbl] at h; exact h.out.1 _ (List.Mem.tail _ (List.Mem.tail _ (List.Mem.tail _ (List.Mem.head _)))))
  have Gb6 := Lib.hid (show ∀ W, Hid (Kp bl rl W) → Box W b6 29 #[.int .i64 cb, .slice a2 n2 c2] from fun W h => by rw [hbl] at h; exact h.out.1 _ (List.Mem.tail _ (List.Mem.tail _ (List.Mem.tail _ (List.Mem.tail _ (List.Mem.head _))))))
  have Gb5 := Lib.hid (show ∀ W, Hid (Kp bl rl W) → Box W b5 25 #[.int .i64 df, .int .i64 dt, .slice a1 n1 c1] from fun W h => by rw [hbl] at h; exact h.out.1 _ (List.Mem.tail _ (List.Mem.tail _ (List.Mem.tail _ (List.Mem.tail _ (List.Mem.tail _ (List.Mem.head _)))))))
  have Ga10 := Lib.hid (show ∀ W, Hid (Kp bl rl W) → Rd W a10 n10 c10 z10 from fun W h => by rw [hrl] at h; exact h.out.2 _ (List.Mem.head _))
  have Ga9 := Lib.hid (show ∀ W, Hid (Kp bl rl W) → Rd W a9 n9 c9 z9 from fun W h => by rw [hrl] at h; exact h.out.2 _ (List.Mem.tail _ (List.Mem.head _)))
  have Ga5 := Lib.hid (show ∀ W, Hid (Kp bl rl W) → Rd W a5 n5 c5 zh from fun W h => by rw [hrl] at h; exact h.out.2 _ (List.Mem.tail _ (List.Mem.tail _ (List.Mem.head _))))
  have Ga4 := Lib.hid (show ∀ W, Hid (Kp bl rl W) → Rd W a4 n4 c4 rr.rs from fun W h => by rw [hrl] at h; exact h.out.2 _ (List.Mem.tail _ (List.Mem.tail _ (List.Mem.tail _ (List.Mem.head _)))))
  have Ga3 := Lib.hid (show ∀ W, Hid (Kp bl rl W) → Rd W a3 n3 c3 z3 from fun W h => by rw [hrl] at h; exact h.out.2 _ (List.Mem.tail _ (List.Mem.tail _ (List.Mem.tail _ (List.Mem.tail _ (List.Mem.head _))))))
  have Ga2 := Lib.hid (show ∀ W, Hid (Kp bl rl W) → Rd W a2 n2 c2 zb from fun W h => by rw [hrl] at h; exact h.out.2 _ (List.Mem.tail _ (List.Mem.tail _ (List.Mem.tail _ (List.Mem.tail _ (List.Mem.tail _ (List.Mem.head _)))))))
  have Ga1 := Lib.hid (show ∀ W, Hid (Kp bl rl W) → Rd W a1 n1 c1 z1 from fun W h => by rw [hrl] at h; exact h.out.2 _ (List.Mem.tail _ (List.Mem.tail _ (List.Mem.tail _ (List.Mem.tail _ (List.Mem.tail _ (List.Mem.tail _ (List.Mem.head _))))))))
  have Ga := Lib.hid (show ∀ W, Hid (Kp bl rl W) → Rd W a len cap zs from fun W h => by rw [hrl] at h; exact h.out.2 _ (List.Mem.tail _ (List.Mem.tail _ (List.Mem.tail _ (List.Mem.tail _ (List.Mem.tail _ (List.Mem.tail _ (List.Mem.tail _ (List.Mem.head _)))))))))
  clear hbl hrl
  have KA := Lib.hid (show ∀ W, Hid (Kp bl rl W) → Calls Try.prog 17 #[.int .i64 pf, .int .i64 pt, .agg #[.int .i64 df, .int .i64 dt, .slice a1 n1 c1]] W (Packed W cb zb) from fun W h => by have := specPackDatagram pf pt df dt a1 n1 c1 z1 W (Ga1.out W h); rw [HCB.out, HZB.out] at this; exact this)
  have KB := Lib.hid (show ∀ W, Hid (Kp bl rl W) → Calls Try.prog 18 #[.int .i64 rx, .int .i64 ry, .slice a3 n3 c3] W (RgRes W rr) from fun W h => by have := specReadDatagram rx ry a3 n3 c3 z3 W (Ga3.out W h); rw [HRR.out] at this; exact this)
  have KC := Lib.hid (show ∀ W, Hid (Kp bl rl W) → Calls Try.prog 20 #[.int .i64 sf, .int .i64 st, .int .i64 sp, .int .i64 sn] W (Packed W ch zh) from fun W h => by have := specPseudoHead sf st sp sn W; rw [HCH.out, HZH.out] at this; exact this)
  obtain ⟨cf, hcf⟩ : ∃ cf, dgC df dt n1 = cf := ⟨_, rfl⟩
  have KE := Lib.hid (show ∀ W, Hid (Kp bl rl W) → Calls Try.prog 22 #[.agg #[.int .i64 df, .int .i64 dt, .slice a1 n1 c1]] W (fun e w' => e = .returned (.int .i64 cf) ∧ Below W.heap.size W w') from fun W h => by rw [← hcf]; exact IF.out df dt a1 n1 c1 W)
  have KF := Lib.hid (show ∀ W, Hid (Kp bl rl W) → Calls Try.prog 23 #[.agg #[.int .i64 df, .int .i64 dt, .slice a1 n1 c1]] W (fun e w' => e = .returned (.int .i64 cf) ∧ Below W.heap.size W w') from fun W h => by rw [← hcf]; exact specDatagramFault df dt a1 n1 c1 W)
  obtain ⟨q, hq⟩ : ∃ q, sameD uf ut z9 vf vt z10 = q := ⟨_, rfl⟩
  have KG := Lib.hid (show ∀ W, Hid (Kp bl rl W) → Calls Try.prog 19 #[.agg #[.int .i64 uf, .int .i64 ut, .slice a9 n9 c9], .agg #[.int .i64 vf, .int .i64 vt, .slice a10 n10 c10]] W (fun e w' => e = .returned (.bool q) ∧ Below W.heap.size W w') from fun W h => by rw [← hq]; exact IS.out uf ut a9 n9 c9 z9 vf vt a10 n10 c10 z10 W (Ga9.out W h) (Ga10.out W h))
  have KH := Lib.hid (show ∀ W, Hid (Kp bl rl W) → Calls Try.prog 24 #[.agg #[.int .i64 uf, .int .i64 ut, .slice a9 n9 c9], .agg #[.int .i64 vf, .int .i64 vt, .slice a10 n10 c10]] W (fun e w' => e = .returned (.bool q) ∧ Below W.heap.size W w') from fun W h => by rw [← hq]; exact specSameDatagrams uf ut a9 n9 c9 z9 vf vt a10 n10 c10 z10 W (Ga9.out W h) (Ga10.out W h))
  have KI := Lib.hid (show ∀ W (a' : Option Addr) (n' c' : Nat), Hid (Kp bl rl W) → Rd W a' n' c' rr.rs → Calls Try.prog 19 #[.agg #[.int .i64 rr.f, .int .i64 rr.t, .slice a4 n4 c4], .agg #[.int .i64 rr.f, .int .i64 rr.t, .slice a' n' c']] W (fun e w' => e = .returned (.bool true) ∧ Below W.heap.size W w') from fun W a' n' c' h h' => by have := IS.out rr.f rr.t a4 n4 c4 rr.rs rr.f rr.t a' n' c' rr.rs W (Ga4.out W h) h'; rw [sameD_self] at this; exact this)
  have KJ := Lib.hid (show ∀ W (a' : Option Addr) (n' c' : Nat), Hid (Kp bl rl W) → Rd W a' n' c' zh → Calls Try.prog 21 #[.slice a5 n5 c5, .slice a' n' c'] W (fun e w' => e = .returned (.bool true) ∧ Below W.heap.size W w') from fun W a' n' c' h h' => (lwSame_t a5 a' n5 c5 n' c' zh W (Ga5.out W h) h').mono fun e w' ⟨he, hw⟩ => by subst hw; exact ⟨he, Below.refl _ _⟩)
  clear hq hcf
  have hf0 := fld_br0
  have hf1 := fld_dr0
  have hf2 := fld_dr1
  have hf3 := fld_bb1
  go_cut [125] (fun v wx => v = .bool false ∧ Hid (Below w.heap.size w wx) ∧ Hid (Kp bl rl wx))
  case first =>
    as_aux_lemma =>
      have SS := Lib.hid (show ∀ W, Hid (Kp bl rl W) → W.cell? ⟨b5, 0, none⟩ = some (.int .i64 df) ∧ W.cell? ⟨b5, 1, none⟩ = some (.int .i64 dt) ∧ W.cell? ⟨b5, 2, none⟩ = some (.slice a1 n1 c1) ∧ W.cell? ⟨b6, 0, none⟩ = some (.int .i64 cb) ∧ W.cell? ⟨b10, 0, none⟩ = some (.int .i64 rr.c) ∧ W.cell? ⟨b10, 1, none⟩ = some (.int .i64 rr.f) ∧ W.cell? ⟨b10, 2, none⟩ = some (.int .i64 rr.t) ∧ W.cell? ⟨b10, 3, none⟩ = some (.slice a4 n4 c4) ∧ W.cell? ⟨b15, 0, none⟩ = some (.int .i64 ch) ∧ W.cell? ⟨b15, 1, none⟩ = some (.slice a5 n5 c5) ∧ W.cell? ⟨b16, 0, none⟩ = some (.int .i64 uf) ∧ W.cell? ⟨b16, 1, none⟩ = some (.int .i64 ut) ∧ W.cell? ⟨b16, 2, none⟩ = some (.slice a9 n9 c9) ∧ W.cell? ⟨b17, 0, none⟩ = some (.int .i64 vf) ∧ W.cell? ⟨b17, 1, none⟩ = some (.int .i64 vt) ∧ W.cell? ⟨b17, 2, none⟩ = some (.slice a10 n10 c10) ∧ Hid (Kp bl rl W) from fun W h => ⟨(Gb5.out W h).cell 0, (Gb5.out W h).cell 1, (Gb5.out W h).cell 2, (Gb6.out W h).cell 0, (Gb10.out W h).cell 0, (Gb10.out W h).cell 1, (Gb10.out W h).cell 2, (Gb10.out W h).cell 3, (Gb15.out W h).cell 0, (Gb15.out W h).cell 1, (Gb16.out W h).cell 0, (Gb16.out W h).cell 1, (Gb16.out W h).cell 2, (Gb17.out W h).cell 0, (Gb17.out W h).cell 1, (Gb17.out W h).cell 2, h⟩)
      replace T := Lib.hid T.out.drew
      replace KP := Lib.hid KP.out.drew
      refine wp_region_held_drew (S := fun W => W.cell? ⟨b5, 0, none⟩ = some (.int .i64 df) ∧ W.cell? ⟨b5, 1, none⟩ = some (.int .i64 dt) ∧ W.cell? ⟨b5, 2, none⟩ = some (.slice a1 n1 c1) ∧ W.cell? ⟨b6, 0, none⟩ = some (.int .i64 cb) ∧ W.cell? ⟨b10, 0, none⟩ = some (.int .i64 rr.c) ∧ W.cell? ⟨b10, 1, none⟩ = some (.int .i64 rr.f) ∧ W.cell? ⟨b10, 2, none⟩ = some (.int .i64 rr.t) ∧ W.cell? ⟨b10, 3, none⟩ = some (.slice a4 n4 c4) ∧ W.cell? ⟨b15, 0, none⟩ = some (.int .i64 ch) ∧ W.cell? ⟨b15, 1, none⟩ = some (.slice a5 n5 c5) ∧ W.cell? ⟨b16, 0, none⟩ = some (.int .i64 uf) ∧ W.cell? ⟨b16, 1, none⟩ = some (.int .i64 ut) ∧ W.cell? ⟨b16, 2, none⟩ = some (.slice a9 n9 c9) ∧ W.cell? ⟨b17, 0, none⟩ = some (.int .i64 vf) ∧ W.cell? ⟨b17, 1, none⟩ = some (.int .i64 vt) ∧ W.cell? ⟨b17, 2, none⟩ = some (.slice a10 n10 c10) ∧ Hid (Kp bl rl W)) (by kernel_rfl) (SS.out _ KP) (fun hHeld => ?_)
      refine wpAnyH_take (i := 0) (v := ?_) (by simp only [List.getElem?_toArray, List.getElem?_cons_zero]; exact rfl) (by kernel_rfl) (by kernel_rfl) (by kernel_rfl) (by exact fun _ _ _ h => h) (Or.inl ⟨by rfl, ?_⟩) hHeld ?_
      rotate_left
      · intro w' hSw
        clear hSw
        go_simp
        try with_reducible rfl
      try simp only [Act.put, List.setIfInBounds_toArray, List.set_cons_zero, List.set_cons_succ]
      refine wpAnyH_take (i := 1) (v := ?_) (by simp only [List.getElem?_toArray, List.getElem?_cons_zero, List.getElem?_cons_succ]; exact rfl) (by kernel_rfl) (by kernel_rfl) (by kernel_rfl) (by exact fun _ _ _ h => h) (Or.inl ⟨by rfl, ?_⟩) hHeld ?_
      rotate_left
      · intro w' hSw
        obtain ⟨_, _, _, s3, _, _, _, _, _, _, _, _, _, _, _, _, _⟩ := hSw
        go_simp
        try with_reducible rfl
      try simp only [Act.put, List.setIfInBounds_toArray, List.set_cons_zero, List.set_cons_succ]
      refine wpAnyH_take (i := 2) (v := ?_) (by simp only [List.getElem?_toArray, List.getElem?_cons_zero, List.getElem?_cons_succ]; exact rfl) (by kernel_rfl) (by kernel_rfl) (by kernel_rfl) (by exact fun _ _ _ h => h) (Or.inl ⟨by rfl, ?_⟩) hHeld ?_
      rotate_left
      · intro w' hSw
        clear hSw
        go_simp
        try with_reducible rfl
      try simp only [Act.put, List.setIfInBounds_toArray, List.set_cons_zero, List.set_cons_succ]
      refine wpAnyH_take (i := 3) (v := ?_) (by simp only [List.getElem?_toArray, List.getElem?_cons_zero, List.getElem?_cons_succ]; exact rfl) (by kernel_rfl) (by kernel_rfl) (by kernel_rfl) (by exact fun _ _ _ h => h) (Or.inl ⟨by rfl, ?_⟩) hHeld ?_
      rotate_left
      · intro w' hSw
        clear hSw
        go_simp
        try with_reducible rfl
      try simp only [Act.put, List.setIfInBounds_toArray, List.set_cons_zero, List.set_cons_succ]
      refine wpAnyH_take (i := 4) (v := ?_) (by simp only [List.getElem?_toArray, List.getElem?_cons_zero, List.getElem?_cons_succ]; exact rfl) (by kernel_rfl) (by kernel_rfl) (by kernel_rfl) (by exact fun _ _ _ h => h) (Or.inl ⟨by rfl, ?_⟩) hHeld ?_
      rotate_left
      · intro w' hSw
        obtain ⟨s0, s1, s2, _, _, _, _, _, _, _, _, _, _, _, _, _, _⟩ := hSw
        go_simp
        try with_reducible rfl
      try simp only [Act.put, List.setIfInBounds_toArray, List.set_cons_zero, List.set_cons_succ]
      refine wpAnyH_ready (rs := [5]) (by kernel_rfl) (by simp) ?_
      refine (AllReadyH.cons (by simp only [List.getElem?_toArray, List.getElem?_cons_zero, List.getElem?_cons_succ]; exact rfl) (fun K hK => ?_) AllReadyH.nil)
      refine want_none (by exact rfl) ?_
      go_wp2_with fail
      refine (KA.out _ KP).mono ?_
      rintro e w1 ⟨x1, y1, k1, rfl, _, hb⟩
      replace T := Lib.hid (T.out.trans (hb.mono T.out.size))
      replace KP := Lib.hid (KP.out.below hb)
      clear hb
      go_wp2_with fail
      refine hK.out _ _ (SS.out _ KP) (fun hHeld => ?_)
      clear hK K
      try simp only [Act.put, List.setIfInBounds_toArray, List.set_cons_zero, List.set_cons_succ]
      refine wpAnyH_take (i := 6) (v := ?_) (by simp only [List.getElem?_toArray, List.getElem?_cons_zero, List.getElem?_cons_succ]; exact rfl) (by kernel_rfl) (by kernel_rfl) (by kernel_rfl) (by exact fun _ _ _ h => h) (Or.inl ⟨by rfl, ?_⟩) hHeld ?_
      rotate_left
      · intro w' hSw
        clear hSw
        go_simp
        try with_reducible rfl
      try simp only [Act.put, List.setIfInBounds_toArray, List.set_cons_zero, List.set_cons_succ]
      refine wpAnyH_take (i := 7) (v := ?_) (by simp only [List.getElem?_toArray, List.getElem?_cons_zero, List.getElem?_cons_succ]; exact rfl) (by kernel_rfl) (by kernel_rfl) (by kernel_rfl) (by exact fun _ _ _ h => h) (Or.inl ⟨by rfl, ?_⟩) hHeld ?_
      rotate_left
      · intro w' hSw
        clear hSw
        go_simp
        try with_reducible rfl
      try simp only [Act.put, List.setIfInBounds_toArray, List.set_cons_zero, List.set_cons_succ]
      refine wpAnyH_take (i := 8) (v := ?_) (by simp only [List.getElem?_toArray, List.getElem?_cons_zero, List.getElem?_cons_succ]; exact rfl) (by kernel_rfl) (by kernel_rfl) (by kernel_rfl) (by exact fun _ _ _ h => h) (Or.inl ⟨by rfl, ?_⟩) hHeld ?_
      rotate_left
      · intro w' hSw
        clear hSw
        go_simp
        try with_reducible rfl
      try simp only [Act.put, List.setIfInBounds_toArray, List.set_cons_zero, List.set_cons_succ]
      refine wpAnyH_take (i := 9) (v := ?_) (by simp only [List.getElem?_toArray, List.getElem?_cons_zero, List.getElem?_cons_succ]; exact rfl) (by kernel_rfl) (by kernel_rfl) (by kernel_rfl) (by exact fun _ _ _ h => h) (Or.inl ⟨by rfl, ?_⟩) hHeld ?_
      rotate_left
      · intro w' hSw
        clear hSw
        go_simp
        try with_reducible rfl
      try simp only [Act.put, List.setIfInBounds_toArray, List.set_cons_zero, List.set_cons_succ]
      refine wpAnyH_take (i := 10) (v := ?_) (by simp only [List.getElem?_toArray, List.getElem?_cons_zero, List.getElem?_cons_succ]; exact rfl) (by kernel_rfl) (by kernel_rfl) (by kernel_rfl) (by exact fun _ _ _ h => h) (Or.inl ⟨by rfl, ?_⟩) hHeld ?_
      rotate_left
      · intro w' hSw
        obtain ⟨_, _, _, _, s4, _, _, _, _, _, _, _, _, _, _, _, _⟩ := hSw
        go_simp
        try with_reducible rfl
      try simp only [Act.put, List.setIfInBounds_toArray, List.set_cons_zero, List.set_cons_succ]
      refine wpAnyH_take (i := 11) (v := ?_) (by simp only [List.getElem?_toArray, List.getElem?_cons_zero, List.getElem?_cons_succ]; exact rfl) (by kernel_rfl) (by kernel_rfl) (by kernel_rfl) (by exact fun _ _ _ h => h) (Or.inl ⟨by rfl, ?_⟩) hHeld ?_
      rotate_left
      · intro w' hSw
        clear hSw
        go_simp
        try with_reducible rfl
      try simp only [Act.put, List.setIfInBounds_toArray, List.set_cons_zero, List.set_cons_succ]
      refine wpAnyH_take (i := 12) (v := ?_) (by simp only [List.getElem?_toArray, List.getElem?_cons_zero, List.getElem?_cons_succ]; exact rfl) (by kernel_rfl) (by kernel_rfl) (by kernel_rfl) (by exact fun _ _ _ h => h) (Or.inl ⟨by rfl, ?_⟩) hHeld ?_
      rotate_left
      · intro w' hSw
        clear hSw
        go_simp
        try with_reducible rfl
      try simp only [Act.put, List.setIfInBounds_toArray, List.set_cons_zero, List.set_cons_succ]
      refine wpAnyH_take (i := 13) (v := ?_) (by simp only [List.getElem?_toArray, List.getElem?_cons_zero, List.getElem?_cons_succ]; exact rfl) (by kernel_rfl) (by kernel_rfl) (by kernel_rfl) (by exact fun _ _ _ h => h) (Or.inl ⟨by rfl, ?_⟩) hHeld ?_
      rotate_left
      · intro w' hSw
        clear hSw
        go_simp
        try with_reducible rfl
      try simp only [Act.put, List.setIfInBounds_toArray, List.set_cons_zero, List.set_cons_succ]
      refine wpAnyH_ready (rs := [14]) (by kernel_rfl) (by simp) ?_
      refine (AllReadyH.cons (by simp only [List.getElem?_toArray, List.getElem?_cons_zero, List.getElem?_cons_succ]; exact rfl) (fun K hK => ?_) AllReadyH.nil)
      refine want_yes (by rfl) ?_
      go_wp2_with fail
      refine (KB.out _ KP).mono ?_
      rintro e w1 ⟨x2, y2, k2, rfl, _, hb⟩
      replace T := Lib.hid (T.out.trans (hb.mono T.out.size))
      replace KP := Lib.hid (KP.out.below hb)
      clear hb
      go_wp2_with fail
      refine hK.out _ _ (SS.out _ KP) (fun hHeld => ?_)
      clear hK K
      try simp only [Act.put, List.setIfInBounds_toArray, List.set_cons_zero, List.set_cons_succ]
      refine wpAnyH_take (i := 15) (v := ?_) (by simp only [List.getElem?_toArray, List.getElem?_cons_zero, List.getElem?_cons_succ]; exact rfl) (by kernel_rfl) (by kernel_rfl) (by kernel_rfl) (by exact fun _ _ _ h => h) (Or.inl ⟨by rfl, ?_⟩) hHeld ?_
      rotate_left
      · intro w' hSw
        clear hSw
        go_simp
        try with_reducible rfl
      try simp only [Act.put, List.setIfInBounds_toArray, List.set_cons_zero, List.set_cons_succ]
      refine wpAnyH_take (i := 16) (v := ?_) (by simp only [List.getElem?_toArray, List.getElem?_cons_zero, List.getElem?_cons_succ]; exact rfl) (by kernel_rfl) (by kernel_rfl) (by kernel_rfl) (by exact fun _ _ _ h => h) (Or.inl ⟨by rfl, ?_⟩) hHeld ?_
      rotate_left
      · intro w' hSw
        clear hSw
        go_simp
        try with_reducible rfl
      try simp only [Act.put, List.setIfInBounds_toArray, List.set_cons_zero, List.set_cons_succ]
      refine wpAnyH_take (i := 17) (v := ?_) (by simp only [List.getElem?_toArray, List.getElem?_cons_zero, List.getElem?_cons_succ]; exact rfl) (by kernel_rfl) (by kernel_rfl) (by kernel_rfl) (by exact fun _ _ _ h => h) (Or.inl ⟨by rfl, ?_⟩) hHeld ?_
      rotate_left
      · intro w' hSw
        clear hSw
        go_simp
        try with_reducible rfl
      try simp only [Act.put, List.setIfInBounds_toArray, List.set_cons_zero, List.set_cons_succ]
      refine wpAnyH_take (i := 18) (v := ?_) (by simp only [List.getElem?_toArray, List.getElem?_cons_zero, List.getElem?_cons_succ]; exact rfl) (by kernel_rfl) (by kernel_rfl) (by kernel_rfl) (by exact fun _ _ _ h => h) (Or.inl ⟨by rfl, ?_⟩) hHeld ?_
      rotate_left
      · intro w' hSw
        clear hSw
        go_simp
        try with_reducible rfl
      try simp only [Act.put, List.setIfInBounds_toArray, List.set_cons_zero, List.set_cons_succ]
      refine wpAnyH_take (i := 19) (v := ?_) (by simp only [List.getElem?_toArray, List.getElem?_cons_zero, List.getElem?_cons_succ]; exact rfl) (by kernel_rfl) (by kernel_rfl) (by kernel_rfl) (by exact fun _ _ _ h => h) (Or.inl ⟨by rfl, ?_⟩) hHeld ?_
      rotate_left
      · intro w' hSw
        clear hSw
        go_simp
        try with_reducible rfl
      try simp only [Act.put, List.setIfInBounds_toArray, List.set_cons_zero, List.set_cons_succ]
      refine wpAnyH_take (i := 20) (v := ?_) (by simp only [List.getElem?_toArray, List.getElem?_cons_zero, List.getElem?_cons_succ]; exact rfl) (by kernel_rfl) (by kernel_rfl) (by kernel_rfl) (by exact fun _ _ _ h => h) (Or.inl ⟨by rfl, ?_⟩) hHeld ?_
      rotate_left
      · intro w' hSw
        obtain ⟨_, _, _, _, _, s5, s6, s7, _, _, _, _, _, _, _, _, _⟩ := hSw
        go_simp
        try with_reducible rfl
      try simp only [Act.put, List.setIfInBounds_toArray, List.set_cons_zero, List.set_cons_succ]
      refine wpAnyH_take (i := 21) (v := ?_) (by simp only [List.getElem?_toArray, List.getElem?_cons_zero, List.getElem?_cons_succ]; exact rfl) (by kernel_rfl) (by kernel_rfl) (by kernel_rfl) (by exact fun _ _ _ h => h) (Or.inl ⟨by rfl, ?_⟩) hHeld ?_
      rotate_left
      · intro w' hSw
        clear hSw
        go_simp
        try with_reducible rfl
      try simp only [Act.put, List.setIfInBounds_toArray, List.set_cons_zero, List.set_cons_succ]
      refine wpAnyH_take (i := 22) (v := ?_) (by simp only [List.getElem?_toArray, List.getElem?_cons_zero, List.getElem?_cons_succ]; exact rfl) (by kernel_rfl) (by kernel_rfl) (by kernel_rfl) (by exact fun _ _ _ h => h) (Or.inl ⟨by rfl, ?_⟩) hHeld ?_
      rotate_left
      · intro w' hSw
        clear hSw
        go_simp
        try with_reducible rfl
      try simp only [Act.put, List.setIfInBounds_toArray, List.set_cons_zero, List.set_cons_succ]
      refine wpAnyH_take (i := 23) (v := ?_) (by simp only [List.getElem?_toArray, List.getElem?_cons_zero, List.getElem?_cons_succ]; exact rfl) (by kernel_rfl) (by kernel_rfl) (by kernel_rfl) (by exact fun _ _ _ h => h) (Or.inl ⟨by rfl, ?_⟩) hHeld ?_
      rotate_left
      · intro w' hSw
        clear hSw
        go_simp
        try with_reducible rfl
      try simp only [Act.put, List.setIfInBounds_toArray, List.set_cons_zero, List.set_cons_succ]
      refine wpAnyH_ready (rs := [24]) (by kernel_rfl) (by simp) ?_
      refine (AllReadyH.cons (by simp only [List.getElem?_toArray, List.getElem?_cons_zero, List.getElem?_cons_succ]; exact rfl) (fun K hK => ?_) AllReadyH.nil)
      refine want_yes (by rfl) ?_
      go_wp2_with fail
      refine (KB.out _ KP).mono ?_
      rintro e w1 ⟨x3, y3, k3, rfl, o3, hb⟩
      replace T := Lib.hid (T.out.trans (hb.mono T.out.size))
      replace KP := Lib.hid (KP.out.below hb)
      have O3 := Lib.hid o3.rd
      clear o3
      clear hb
      go_wp2_with fail
      refine hK.out _ _ (SS.out _ KP) (fun hHeld => ?_)
      clear hK K
      try simp only [Act.put, List.setIfInBounds_toArray, List.set_cons_zero, List.set_cons_succ]
      refine wpAnyH_take (i := 25) (v := ?_) (by simp only [List.getElem?_toArray, List.getElem?_cons_zero, List.getElem?_cons_succ]; exact rfl) (by kernel_rfl) (by kernel_rfl) (by kernel_rfl) (by exact fun _ _ _ h => h) (Or.inl ⟨by rfl, ?_⟩) hHeld ?_
      rotate_left
      · intro w' hSw
        clear hSw
        go_simp
        try with_reducible rfl
      try simp only [Act.put, List.setIfInBounds_toArray, List.set_cons_zero, List.set_cons_succ]
      refine wpAnyH_ready (rs := [26]) (by kernel_rfl) (by simp) ?_
      refine (AllReadyH.cons (by simp only [List.getElem?_toArray, List.getElem?_cons_zero, List.getElem?_cons_succ]; exact rfl) (fun K hK => ?_) AllReadyH.nil)
      refine want_yes (by rfl) ?_
      go_wp2_with fail
      refine (KI.out _ _ _ _ KP O3.out).mono ?_
      rintro e w1 ⟨rfl, hb⟩
      replace T := Lib.hid (T.out.trans (hb.mono T.out.size))
      replace KP := Lib.hid (KP.out.below hb)
      clear O3
      clear hb
      go_wp2_with fail
      refine hK.out _ _ (SS.out _ KP) (fun hHeld => ?_)
      clear hK K
      try simp only [Act.put, List.setIfInBounds_toArray, List.set_cons_zero, List.set_cons_succ]
      refine wpAnyH_take (i := 27) (v := ?_) (by simp only [List.getElem?_toArray, List.getElem?_cons_zero, List.getElem?_cons_succ]; exact rfl) (by kernel_rfl) (by kernel_rfl) (by kernel_rfl) (by exact fun _ _ _ h => h) (Or.inl ⟨by rfl, ?_⟩) hHeld ?_
      rotate_left
      · intro w' hSw
        clear hSw
        go_simp
        try with_reducible rfl
      try simp only [Act.put, List.setIfInBounds_toArray, List.set_cons_zero, List.set_cons_succ]
      refine wpAnyH_take (i := 28) (v := ?_) (by simp only [List.getElem?_toArray, List.getElem?_cons_zero, List.getElem?_cons_succ]; exact rfl) (by kernel_rfl) (by kernel_rfl) (by kernel_rfl) (by exact fun _ _ _ h => h) (Or.inl ⟨by rfl, ?_⟩) hHeld ?_
      rotate_left
      · intro w' hSw
        clear hSw
        go_simp
        try with_reducible rfl
      try simp only [Act.put, List.setIfInBounds_toArray, List.set_cons_zero, List.set_cons_succ]
      refine wpAnyH_take (i := 29) (v := ?_) (by simp only [List.getElem?_toArray, List.getElem?_cons_zero, List.getElem?_cons_succ]; exact rfl) (by kernel_rfl) (by kernel_rfl) (by kernel_rfl) (by exact fun _ _ _ h => h) (Or.inl ⟨by rfl, ?_⟩) hHeld ?_
      rotate_left
      · intro w' hSw
        clear hSw
        go_simp
        try with_reducible rfl
      try simp only [Act.put, List.setIfInBounds_toArray, List.set_cons_zero, List.set_cons_succ]
      refine wpAnyH_take (i := 30) (v := ?_) (by simp only [List.getElem?_toArray, List.getElem?_cons_zero, List.getElem?_cons_succ]; exact rfl) (by kernel_rfl) (by kernel_rfl) (by kernel_rfl) (by exact fun _ _ _ h => h) (Or.inl ⟨by rfl, ?_⟩) hHeld ?_
      rotate_left
      · intro w' hSw
        clear hSw
        go_simp
        try with_reducible rfl
      try simp only [Act.put, List.setIfInBounds_toArray, List.set_cons_zero, List.set_cons_succ]
      refine wpAnyH_take (i := 31) (v := ?_) (by simp only [List.getElem?_toArray, List.getElem?_cons_zero, List.getElem?_cons_succ]; exact rfl) (by kernel_rfl) (by kernel_rfl) (by kernel_rfl) (by exact fun _ _ _ h => h) (Or.inl ⟨by rfl, ?_⟩) hHeld ?_
      rotate_left
      · intro w' hSw
        obtain ⟨_, _, _, _, _, _, _, _, s8, _, _, _, _, _, _, _, _⟩ := hSw
        go_simp
        try with_reducible rfl
      try simp only [Act.put, List.setIfInBounds_toArray, List.set_cons_zero, List.set_cons_succ]
      refine wpAnyH_take (i := 32) (v := ?_) (by simp only [List.getElem?_toArray, List.getElem?_cons_zero, List.getElem?_cons_succ]; exact rfl) (by kernel_rfl) (by kernel_rfl) (by kernel_rfl) (by exact fun _ _ _ h => h) (Or.inl ⟨by rfl, ?_⟩) hHeld ?_
      rotate_left
      · intro w' hSw
        clear hSw
        go_simp
        try with_reducible rfl
      try simp only [Act.put, List.setIfInBounds_toArray, List.set_cons_zero, List.set_cons_succ]
      refine wpAnyH_take (i := 33) (v := ?_) (by simp only [List.getElem?_toArray, List.getElem?_cons_zero, List.getElem?_cons_succ]; exact rfl) (by kernel_rfl) (by kernel_rfl) (by kernel_rfl) (by exact fun _ _ _ h => h) (Or.inl ⟨by rfl, ?_⟩) hHeld ?_
      rotate_left
      · intro w' hSw
        clear hSw
        go_simp
        try with_reducible rfl
      try simp only [Act.put, List.setIfInBounds_toArray, List.set_cons_zero, List.set_cons_succ]
      refine wpAnyH_take (i := 34) (v := ?_) (by simp only [List.getElem?_toArray, List.getElem?_cons_zero, List.getElem?_cons_succ]; exact rfl) (by kernel_rfl) (by kernel_rfl) (by kernel_rfl) (by exact fun _ _ _ h => h) (Or.inl ⟨by rfl, ?_⟩) hHeld ?_
      rotate_left
      · intro w' hSw
        clear hSw
        go_simp
        try with_reducible rfl
      try simp only [Act.put, List.setIfInBounds_toArray, List.set_cons_zero, List.set_cons_succ]
      refine wpAnyH_take (i := 35) (v := ?_) (by simp only [List.getElem?_toArray, List.getElem?_cons_zero, List.getElem?_cons_succ]; exact rfl) (by kernel_rfl) (by kernel_rfl) (by kernel_rfl) (by exact fun _ _ _ h => h) (Or.inl ⟨by rfl, ?_⟩) hHeld ?_
      rotate_left
      · intro w' hSw
        clear hSw
        go_simp
        try with_reducible rfl
      try simp only [Act.put, List.setIfInBounds_toArray, List.set_cons_zero, List.set_cons_succ]
      refine wpAnyH_ready (rs := [36]) (by kernel_rfl) (by simp) ?_
      refine (AllReadyH.cons (by simp only [List.getElem?_toArray, List.getElem?_cons_zero, List.getElem?_cons_succ]; exact rfl) (fun K hK => ?_) AllReadyH.nil)
      refine want_yes (by rfl) ?_
      go_wp2_with fail
      refine (KC.out _ KP).mono ?_
      rintro e w1 ⟨x4, y4, k4, rfl, _, hb⟩
      replace T := Lib.hid (T.out.trans (hb.mono T.out.size))
      replace KP := Lib.hid (KP.out.below hb)
      clear hb
      go_wp2_with fail
      refine hK.out _ _ (SS.out _ KP) (fun hHeld => ?_)
      clear hK K
      try simp only [Act.put, List.setIfInBounds_toArray, List.set_cons_zero, List.set_cons_succ]
      refine wpAnyH_take (i := 37) (v := ?_) (by simp only [List.getElem?_toArray, List.getElem?_cons_zero, List.getElem?_cons_succ]; exact rfl) (by kernel_rfl) (by kernel_rfl) (by kernel_rfl) (by exact fun _ _ _ h => h) (Or.inl ⟨by rfl, ?_⟩) hHeld ?_
      rotate_left
      · intro w' hSw
        clear hSw
        go_simp
        try with_reducible rfl
      try simp only [Act.put, List.setIfInBounds_toArray, List.set_cons_zero, List.set_cons_succ]
      refine wpAnyH_take (i := 38) (v := ?_) (by simp only [List.getElem?_toArray, List.getElem?_cons_zero, List.getElem?_cons_succ]; exact rfl) (by kernel_rfl) (by kernel_rfl) (by kernel_rfl) (by exact fun _ _ _ h => h) (Or.inl ⟨by rfl, ?_⟩) hHeld ?_
      rotate_left
      · intro w' hSw
        clear hSw
        go_simp
        try with_reducible rfl
      try simp only [Act.put, List.setIfInBounds_toArray, List.set_cons_zero, List.set_cons_succ]
      refine wpAnyH_take (i := 39) (v := ?_) (by simp only [List.getElem?_toArray, List.getElem?_cons_zero, List.getElem?_cons_succ]; exact rfl) (by kernel_rfl) (by kernel_rfl) (by kernel_rfl) (by exact fun _ _ _ h => h) (Or.inl ⟨by rfl, ?_⟩) hHeld ?_
      rotate_left
      · intro w' hSw
        clear hSw
        go_simp
        try with_reducible rfl
      try simp only [Act.put, List.setIfInBounds_toArray, List.set_cons_zero, List.set_cons_succ]
      refine wpAnyH_take (i := 40) (v := ?_) (by simp only [List.getElem?_toArray, List.getElem?_cons_zero, List.getElem?_cons_succ]; exact rfl) (by kernel_rfl) (by kernel_rfl) (by kernel_rfl) (by exact fun _ _ _ h => h) (Or.inl ⟨by rfl, ?_⟩) hHeld ?_
      rotate_left
      · intro w' hSw
        clear hSw
        go_simp
        try with_reducible rfl
      try simp only [Act.put, List.setIfInBounds_toArray, List.set_cons_zero, List.set_cons_succ]
      refine wpAnyH_take (i := 41) (v := ?_) (by simp only [List.getElem?_toArray, List.getElem?_cons_zero, List.getElem?_cons_succ]; exact rfl) (by kernel_rfl) (by kernel_rfl) (by kernel_rfl) (by exact fun _ _ _ h => h) (Or.inl ⟨by rfl, ?_⟩) hHeld ?_
      rotate_left
      · intro w' hSw
        clear hSw
        go_simp
        try with_reducible rfl
      try simp only [Act.put, List.setIfInBounds_toArray, List.set_cons_zero, List.set_cons_succ]
      refine wpAnyH_take (i := 42) (v := ?_) (by simp only [List.getElem?_toArray, List.getElem?_cons_zero, List.getElem?_cons_succ]; exact rfl) (by kernel_rfl) (by kernel_rfl) (by kernel_rfl) (by exact fun _ _ _ h => h) (Or.inl ⟨by rfl, ?_⟩) hHeld ?_
      rotate_left
      · intro w' hSw
        obtain ⟨_, _, _, _, _, _, _, _, _, s9, _, _, _, _, _, _, _⟩ := hSw
        go_simp
        try with_reducible rfl
      try simp only [Act.put, List.setIfInBounds_toArray, List.set_cons_zero, List.set_cons_succ]
      refine wpAnyH_take (i := 43) (v := ?_) (by simp only [List.getElem?_toArray, List.getElem?_cons_zero, List.getElem?_cons_succ]; exact rfl) (by kernel_rfl) (by kernel_rfl) (by kernel_rfl) (by exact fun _ _ _ h => h) (Or.inl ⟨by rfl, ?_⟩) hHeld ?_
      rotate_left
      · intro w' hSw
        clear hSw
        go_simp
        try with_reducible rfl
      try simp only [Act.put, List.setIfInBounds_toArray, List.set_cons_zero, List.set_cons_succ]
      refine wpAnyH_take (i := 44) (v := ?_) (by simp only [List.getElem?_toArray, List.getElem?_cons_zero, List.getElem?_cons_succ]; exact rfl) (by kernel_rfl) (by kernel_rfl) (by kernel_rfl) (by exact fun _ _ _ h => h) (Or.inl ⟨by rfl, ?_⟩) hHeld ?_
      rotate_left
      · intro w' hSw
        clear hSw
        go_simp
        try with_reducible rfl
      try simp only [Act.put, List.setIfInBounds_toArray, List.set_cons_zero, List.set_cons_succ]
      refine wpAnyH_take (i := 45) (v := ?_) (by simp only [List.getElem?_toArray, List.getElem?_cons_zero, List.getElem?_cons_succ]; exact rfl) (by kernel_rfl) (by kernel_rfl) (by kernel_rfl) (by exact fun _ _ _ h => h) (Or.inl ⟨by rfl, ?_⟩) hHeld ?_
      rotate_left
      · intro w' hSw
        clear hSw
        go_simp
        try with_reducible rfl
      try simp only [Act.put, List.setIfInBounds_toArray, List.set_cons_zero, List.set_cons_succ]
      refine wpAnyH_take (i := 46) (v := ?_) (by simp only [List.getElem?_toArray, List.getElem?_cons_zero, List.getElem?_cons_succ]; exact rfl) (by kernel_rfl) (by kernel_rfl) (by kernel_rfl) (by exact fun _ _ _ h => h) (Or.inl ⟨by rfl, ?_⟩) hHeld ?_
      rotate_left
      · intro w' hSw
        clear hSw
        go_simp
        try with_reducible rfl
      try simp only [Act.put, List.setIfInBounds_toArray, List.set_cons_zero, List.set_cons_succ]
      refine wpAnyH_ready (rs := [47]) (by kernel_rfl) (by simp) ?_
      refine (AllReadyH.cons (by simp only [List.getElem?_toArray, List.getElem?_cons_zero, List.getElem?_cons_succ]; exact rfl) (fun K hK => ?_) AllReadyH.nil)
      refine want_yes (by rfl) ?_
      go_wp2_with fail
      refine (KC.out _ KP).mono ?_
      rintro e w1 ⟨x5, y5, k5, rfl, o5, hb⟩
      replace T := Lib.hid (T.out.trans (hb.mono T.out.size))
      replace KP := Lib.hid (KP.out.below hb)
      have O5 := Lib.hid o5.rd
      clear o5
      clear hb
      go_wp2_with fail
      refine hK.out _ _ (SS.out _ KP) (fun hHeld => ?_)
      clear hK K
      try simp only [Act.put, List.setIfInBounds_toArray, List.set_cons_zero, List.set_cons_succ]
      refine wpAnyH_take (i := 48) (v := ?_) (by simp only [List.getElem?_toArray, List.getElem?_cons_zero, List.getElem?_cons_succ]; exact rfl) (by kernel_rfl) (by kernel_rfl) (by kernel_rfl) (by exact fun _ _ _ h => h) (Or.inl ⟨by rfl, ?_⟩) hHeld ?_
      rotate_left
      · intro w' hSw
        clear hSw
        go_simp
        try with_reducible rfl
      try simp only [Act.put, List.setIfInBounds_toArray, List.set_cons_zero, List.set_cons_succ]
      refine wpAnyH_ready (rs := [49]) (by kernel_rfl) (by simp) ?_
      refine (AllReadyH.cons (by simp only [List.getElem?_toArray, List.getElem?_cons_zero, List.getElem?_cons_succ]; exact rfl) (fun K hK => ?_) AllReadyH.nil)
      refine want_yes (by rfl) ?_
      go_wp2_with fail
      refine (KJ.out _ _ _ _ KP O5.out).mono ?_
      rintro e w1 ⟨rfl, hb⟩
      replace T := Lib.hid (T.out.trans (hb.mono T.out.size))
      replace KP := Lib.hid (KP.out.below hb)
      clear O5
      clear hb
      go_wp2_with fail
      refine hK.out _ _ (SS.out _ KP) (fun hHeld => ?_)
      clear hK K
      try simp only [Act.put, List.setIfInBounds_toArray, List.set_cons_zero, List.set_cons_succ]
      refine wpAnyH_take (i := 50) (v := ?_) (by simp only [List.getElem?_toArray, List.getElem?_cons_zero, List.getElem?_cons_succ]; exact rfl) (by kernel_rfl) (by kernel_rfl) (by kernel_rfl) (by exact fun _ _ _ h => h) (Or.inl ⟨by rfl, ?_⟩) hHeld ?_
      rotate_left
      · intro w' hSw
        clear hSw
        go_simp
        try with_reducible rfl
      try simp only [Act.put, List.setIfInBounds_toArray, List.set_cons_zero, List.set_cons_succ]
      refine wpAnyH_take (i := 51) (v := ?_) (by simp only [List.getElem?_toArray, List.getElem?_cons_zero, List.getElem?_cons_succ]; exact rfl) (by kernel_rfl) (by kernel_rfl) (by kernel_rfl) (by exact fun _ _ _ h => h) (Or.inl ⟨by rfl, ?_⟩) hHeld ?_
      rotate_left
      · intro w' hSw
        clear hSw
        go_simp
        try with_reducible rfl
      try simp only [Act.put, List.setIfInBounds_toArray, List.set_cons_zero, List.set_cons_succ]
      refine wpAnyH_take (i := 52) (v := ?_) (by simp only [List.getElem?_toArray, List.getElem?_cons_zero, List.getElem?_cons_succ]; exact rfl) (by kernel_rfl) (by kernel_rfl) (by kernel_rfl) (by exact fun _ _ _ h => h) (Or.inl ⟨by rfl, ?_⟩) hHeld ?_
      rotate_left
      · intro w' hSw
        clear hSw
        go_simp
        try with_reducible rfl
      try simp only [Act.put, List.setIfInBounds_toArray, List.set_cons_zero, List.set_cons_succ]
      refine wpAnyH_take (i := 53) (v := ?_) (by simp only [List.getElem?_toArray, List.getElem?_cons_zero, List.getElem?_cons_succ]; exact rfl) (by kernel_rfl) (by kernel_rfl) (by kernel_rfl) (by exact fun _ _ _ h => h) (Or.inl ⟨by rfl, ?_⟩) hHeld ?_
      rotate_left
      · intro w' hSw
        obtain ⟨s0, s1, s2, _, _, _, _, _, _, _, _, _, _, _, _, _, _⟩ := hSw
        go_simp
        try with_reducible rfl
      try simp only [Act.put, List.setIfInBounds_toArray, List.set_cons_zero, List.set_cons_succ]
      refine wpAnyH_take (i := 55) (v := ?_) (by simp only [List.getElem?_toArray, List.getElem?_cons_zero, List.getElem?_cons_succ]; exact rfl) (by kernel_rfl) (by kernel_rfl) (by kernel_rfl) (by exact fun _ _ _ h => h) (Or.inl ⟨by rfl, ?_⟩) hHeld ?_
      rotate_left
      · intro w' hSw
        obtain ⟨s0, s1, s2, _, _, _, _, _, _, _, _, _, _, _, _, _, _⟩ := hSw
        go_simp
        try with_reducible rfl
      try simp only [Act.put, List.setIfInBounds_toArray, List.set_cons_zero, List.set_cons_succ]
      refine wpAnyH_ready (rs := [54]) (by kernel_rfl) (by simp) ?_
      refine (AllReadyH.cons (by simp only [List.getElem?_toArray, List.getElem?_cons_zero, List.getElem?_cons_succ]; exact rfl) (fun K hK => ?_) AllReadyH.nil)
      refine want_yes (by rfl) ?_
      go_wp2_with fail
      refine (KE.out _ KP).mono ?_
      rintro e w1 ⟨rfl, hb⟩
      replace T := Lib.hid (T.out.trans (hb.mono T.out.size))
      replace KP := Lib.hid (KP.out.below hb)
      clear hb
      go_wp2_with fail
      refine hK.out _ _ (SS.out _ KP) (fun hHeld => ?_)
      clear hK K
      try simp only [Act.put, List.setIfInBounds_toArray, List.set_cons_zero, List.set_cons_succ]
      refine wpAnyH_ready (rs := [56]) (by kernel_rfl) (by simp) ?_
      refine (AllReadyH.cons (by simp only [List.getElem?_toArray, List.getElem?_cons_zero, List.getElem?_cons_succ]; exact rfl) (fun K hK => ?_) AllReadyH.nil)
      refine want_yes (by rfl) ?_
      go_wp2_with fail
      refine (KF.out _ KP).mono ?_
      rintro e w1 ⟨rfl, hb⟩
      replace T := Lib.hid (T.out.trans (hb.mono T.out.size))
      replace KP := Lib.hid (KP.out.below hb)
      clear hb
      go_wp2_with fail
      refine hK.out _ _ (SS.out _ KP) (fun hHeld => ?_)
      clear hK K
      try simp only [Act.put, List.setIfInBounds_toArray, List.set_cons_zero, List.set_cons_succ]
      refine wpAnyH_take (i := 57) (v := ?_) (by simp only [List.getElem?_toArray, List.getElem?_cons_zero, List.getElem?_cons_succ]; exact rfl) (by kernel_rfl) (by kernel_rfl) (by kernel_rfl) (by exact fun _ _ _ h => h) (Or.inl ⟨by rfl, ?_⟩) hHeld ?_
      rotate_left
      · intro w' hSw
        clear hSw
        go_simp
        try with_reducible rfl
      try simp only [Act.put, List.setIfInBounds_toArray, List.set_cons_zero, List.set_cons_succ]
      refine wpAnyH_take (i := 58) (v := ?_) (by simp only [List.getElem?_toArray, List.getElem?_cons_zero, List.getElem?_cons_succ]; exact rfl) (by kernel_rfl) (by kernel_rfl) (by kernel_rfl) (by exact fun _ _ _ h => h) (Or.inl ⟨by rfl, ?_⟩) hHeld ?_
      rotate_left
      · intro w' hSw
        clear hSw
        go_simp
        try with_reducible rfl
      try simp only [Act.put, List.setIfInBounds_toArray, List.set_cons_zero, List.set_cons_succ]
      refine wpAnyH_take (i := 59) (v := ?_) (by simp only [List.getElem?_toArray, List.getElem?_cons_zero, List.getElem?_cons_succ]; exact rfl) (by kernel_rfl) (by kernel_rfl) (by kernel_rfl) (by exact fun _ _ _ h => h) (Or.inl ⟨by rfl, ?_⟩) hHeld ?_
      rotate_left
      · intro w' hSw
        clear hSw
        go_simp
        try with_reducible rfl
      try simp only [Act.put, List.setIfInBounds_toArray, List.set_cons_zero, List.set_cons_succ]
      refine wpAnyH_take (i := 60) (v := ?_) (by simp only [List.getElem?_toArray, List.getElem?_cons_zero, List.getElem?_cons_succ]; exact rfl) (by kernel_rfl) (by kernel_rfl) (by kernel_rfl) (by exact fun _ _ _ h => h) (Or.inl ⟨by rfl, ?_⟩) hHeld ?_
      rotate_left
      · intro w' hSw
        obtain ⟨_, _, _, _, _, _, _, _, _, _, s10, s11, s12, _, _, _, _⟩ := hSw
        go_simp
        try with_reducible rfl
      try simp only [Act.put, List.setIfInBounds_toArray, List.set_cons_zero, List.set_cons_succ]
      refine wpAnyH_take (i := 61) (v := ?_) (by simp only [List.getElem?_toArray, List.getElem?_cons_zero, List.getElem?_cons_succ]; exact rfl) (by kernel_rfl) (by kernel_rfl) (by kernel_rfl) (by exact fun _ _ _ h => h) (Or.inl ⟨by rfl, ?_⟩) hHeld ?_
      rotate_left
      · intro w' hSw
        obtain ⟨_, _, _, _, _, _, _, _, _, _, _, _, _, s13, s14, s15, _⟩ := hSw
        go_simp
        try with_reducible rfl
      try simp only [Act.put, List.setIfInBounds_toArray, List.set_cons_zero, List.set_cons_succ]
      refine wpAnyH_take (i := 63) (v := ?_) (by simp only [List.getElem?_toArray, List.getElem?_cons_zero, List.getElem?_cons_succ]; exact rfl) (by kernel_rfl) (by kernel_rfl) (by kernel_rfl) (by exact fun _ _ _ h => h) (Or.inl ⟨by rfl, ?_⟩) hHeld ?_
      rotate_left
      · intro w' hSw
        obtain ⟨_, _, _, _, _, _, _, _, _, _, s10, s11, s12, _, _, _, _⟩ := hSw
        go_simp
        try with_reducible rfl
      try simp only [Act.put, List.setIfInBounds_toArray, List.set_cons_zero, List.set_cons_succ]
      refine wpAnyH_take (i := 64) (v := ?_) (by simp only [List.getElem?_toArray, List.getElem?_cons_zero, List.getElem?_cons_succ]; exact rfl) (by kernel_rfl) (by kernel_rfl) (by kernel_rfl) (by exact fun _ _ _ h => h) (Or.inl ⟨by rfl, ?_⟩) hHeld ?_
      rotate_left
      · intro w' hSw
        obtain ⟨_, _, _, _, _, _, _, _, _, _, _, _, _, s13, s14, s15, _⟩ := hSw
        go_simp
        try with_reducible rfl
      try simp only [Act.put, List.setIfInBounds_toArray, List.set_cons_zero, List.set_cons_succ]
      refine wpAnyH_ready (rs := [62]) (by kernel_rfl) (by simp) ?_
      refine (AllReadyH.cons (by simp only [List.getElem?_toArray, List.getElem?_cons_zero, List.getElem?_cons_succ]; exact rfl) (fun K hK => ?_) AllReadyH.nil)
      refine want_yes (by rfl) ?_
      go_wp2_with fail
      refine (KG.out _ KP).mono ?_
      rintro e w1 ⟨rfl, hb⟩
      replace T := Lib.hid (T.out.trans (hb.mono T.out.size))
      replace KP := Lib.hid (KP.out.below hb)
      clear hb
      go_wp2_with fail
      refine hK.out _ _ (SS.out _ KP) (fun hHeld => ?_)
      clear hK K
      try simp only [Act.put, List.setIfInBounds_toArray, List.set_cons_zero, List.set_cons_succ]
      refine wpAnyH_ready (rs := [65]) (by kernel_rfl) (by simp) ?_
      refine (AllReadyH.cons (by simp only [List.getElem?_toArray, List.getElem?_cons_zero, List.getElem?_cons_succ]; exact rfl) (fun K hK => ?_) AllReadyH.nil)
      refine want_yes (by rfl) ?_
      go_wp2_with fail
      refine (KH.out _ KP).mono ?_
      rintro e w1 ⟨rfl, hb⟩
      replace T := Lib.hid (T.out.trans (hb.mono T.out.size))
      replace KP := Lib.hid (KP.out.below hb)
      clear hb
      go_wp2_with fail
      refine hK.out _ _ (SS.out _ KP) (fun hHeld => ?_)
      clear hK K
      try simp only [Act.put, List.setIfInBounds_toArray, List.set_cons_zero, List.set_cons_succ]
      refine wpAnyH_take (i := 66) (v := ?_) (by simp only [List.getElem?_toArray, List.getElem?_cons_zero, List.getElem?_cons_succ]; exact rfl) (by kernel_rfl) (by kernel_rfl) (by kernel_rfl) (by exact fun _ _ _ h => h) (Or.inl ⟨by rfl, ?_⟩) hHeld ?_
      rotate_left
      · intro w' hSw
        clear hSw
        go_simp
        try with_reducible rfl
      try simp only [Act.put, List.setIfInBounds_toArray, List.set_cons_zero, List.set_cons_succ]
      refine wpAnyH_take (i := 67) (v := ?_) (by simp only [List.getElem?_toArray, List.getElem?_cons_zero, List.getElem?_cons_succ]; exact rfl) (by kernel_rfl) (by kernel_rfl) (by kernel_rfl) (by exact fun _ _ _ h => h) (Or.inl ⟨by rfl, ?_⟩) hHeld ?_
      rotate_left
      · intro w' hSw
        clear hSw
        go_simp
        try with_reducible rfl
      try simp only [Act.put, List.setIfInBounds_toArray, List.set_cons_zero, List.set_cons_succ]
      refine wpAnyH_done (by kernel_rfl) ?_ _
      go_wp2_with fail
      go_meet
      exact ⟨rfl, T, KP⟩
  case rest =>
    as_aux_lemma =>
      obtain ⟨rfl, T, KP⟩ := hcut
      clear KA KB KC KE KF KG KH KI KJ
      have x6 := (Gb6.out _ KP).cell 0
      by_cases hb0 : cb = 0
      case neg =>
        have e1 : (cb != 0) = true := by simpa using hb0
        clear hb0
        go_wp2
        go_ret
        exact ⟨rfl, T.out⟩
      case pos =>
        subst hb0
        clear x6
        have hpc := HCB.out
        have hzb : zb = dgL pf pt df dt z1 := by have := HZB.out; unfold pdP at this; rw [if_pos hpc] at this; exact this.symm
        have hn2 : n2 = 8 + n1 := by rw [← (Ga2.out _ KP).length, hzb, dgL_len, H1.out]
        have hd552 : n1 ≤ 552 := by rw [← H1.out]; exact (dgC_parts (pdC_parts hpc).2.2).2.2
        have HS0 := Lib.hid (show dgSum pf pt 17 zb = 0 by rw [hzb]; exact dg_sum pf pt df dt z1)
        have KR := Lib.hid (show ∀ W, Hid (Kp bl rl W) → Calls Try.prog 13 #[.int .i64 pf, .int .i64 pt, .slice a2 n2 c2] W (RgRes W ⟨0, df, dt, z1⟩) from fun W h => by have := IR.out pf pt a2 n2 c2 zb W (Ga2.out W h); rw [hzb, rgAns_pack pf pt df dt z1 hpc] at this; exact this)
        have KM := Lib.hid (show ∀ W (a' : Option Addr) (n' c' : Nat), Hid (Kp bl rl W) → Rd W a' n' c' z1 → Calls Try.prog 19 #[.agg #[.int .i64 df, .int .i64 dt, .slice a' n' c'], .agg #[.int .i64 df, .int .i64 dt, .slice a1 n1 c1]] W (fun e w' => e = .returned (.bool true) ∧ Below W.heap.size W w') from fun W a' n' c' h h' => by have := IS.out df dt a' n' c' z1 df dt a1 n1 c1 z1 W h' (Ga1.out W h); rw [sameD_self] at this; exact this)
        have e2 : ((n2 : Int) != 8 + (n1 : Int)) = false := by simp; omega
        have e3 : IntKind.i64.wrap (8 + (n1 : Int)) = 8 + (n1 : Int) := IntWalk.i64_in _ (by omega)
        have HN2 := Lib.hid hn2
        have hn2b : 8 ≤ n2 ∧ n2 ≤ 560 := by omega
        clear hpc hzb hn2
        have x6 := (Gb6.out _ KP).cell 0
        go_upto_region 14 with (fail)
        clear x6
        go_cut [156] (fun v wx => v = .bool false ∧ Hid (Below w.heap.size w wx) ∧ Hid (Kp bl rl wx))
        case first =>
          as_aux_lemma =>
            have SS := Lib.hid (show ∀ W, Hid (Kp bl rl W) → W.cell? ⟨b5, 0, none⟩ = some (.int .i64 df) ∧ W.cell? ⟨b5, 1, none⟩ = some (.int .i64 dt) ∧ W.cell? ⟨b5, 2, none⟩ = some (.slice a1 n1 c1) ∧ W.cell? ⟨b6, 1, none⟩ = some (.slice a2 n2 c2) ∧ Hid (Kp bl rl W) from fun W h => ⟨(Gb5.out W h).cell 0, (Gb5.out W h).cell 1, (Gb5.out W h).cell 2, (Gb6.out W h).cell 1, h⟩)
            replace T := Lib.hid T.out.drew
            replace KP := Lib.hid KP.out.drew
            refine wp_region_held_drew (S := fun W => W.cell? ⟨b5, 0, none⟩ = some (.int .i64 df) ∧ W.cell? ⟨b5, 1, none⟩ = some (.int .i64 dt) ∧ W.cell? ⟨b5, 2, none⟩ = some (.slice a1 n1 c1) ∧ W.cell? ⟨b6, 1, none⟩ = some (.slice a2 n2 c2) ∧ Hid (Kp bl rl W)) (by kernel_rfl) (SS.out _ KP) (fun hHeld => ?_)
            refine wpAnyH_take (i := 0) (v := ?_) (by simp only [List.getElem?_toArray, List.getElem?_cons_zero]; exact rfl) (by kernel_rfl) (by kernel_rfl) (by kernel_rfl) (by exact fun _ _ _ h => h) (Or.inl ⟨by rfl, ?_⟩) hHeld ?_
            rotate_left
            · intro w' hSw
              clear hSw
              go_simp
              try with_reducible rfl
            try simp only [Act.put, List.setIfInBounds_toArray, List.set_cons_zero, List.set_cons_succ]
            refine wpAnyH_take (i := 1) (v := ?_) (by simp only [List.getElem?_toArray, List.getElem?_cons_zero, List.getElem?_cons_succ]; exact rfl) (by kernel_rfl) (by kernel_rfl) (by kernel_rfl) (by exact fun _ _ _ h => h) (Or.inl ⟨by rfl, ?_⟩) hHeld ?_
            rotate_left
            · intro w' hSw
              obtain ⟨_, _, _, s3, _⟩ := hSw
              go_simp
              try with_reducible rfl
            try simp only [Act.put, List.setIfInBounds_toArray, List.set_cons_zero, List.set_cons_succ]
            refine wpAnyH_take (i := 2) (v := ?_) (by simp only [List.getElem?_toArray, List.getElem?_cons_zero, List.getElem?_cons_succ]; exact rfl) (by kernel_rfl) (by kernel_rfl) (by kernel_rfl) (by exact fun _ _ _ h => h) (Or.inl ⟨by rfl, ?_⟩) hHeld ?_
            rotate_left
            · intro w' hSw
              clear hSw
              go_simp
              try with_reducible rfl
            try simp only [Act.put, List.setIfInBounds_toArray, List.set_cons_zero, List.set_cons_succ]
            refine wpAnyH_take (i := 3) (v := ?_) (by simp only [List.getElem?_toArray, List.getElem?_cons_zero, List.getElem?_cons_succ]; exact rfl) (by kernel_rfl) (by kernel_rfl) (by kernel_rfl) (by exact fun _ _ _ h => h) (Or.inl ⟨by rfl, ?_⟩) hHeld ?_
            rotate_left
            · intro w' hSw
              clear hSw
              go_simp
              try with_reducible rfl
            try simp only [Act.put, List.setIfInBounds_toArray, List.set_cons_zero, List.set_cons_succ]
            refine wpAnyH_take (i := 4) (v := ?_) (by simp only [List.getElem?_toArray, List.getElem?_cons_zero, List.getElem?_cons_succ]; exact rfl) (by kernel_rfl) (by kernel_rfl) (by kernel_rfl) (by exact fun _ _ _ h => h) (Or.inl ⟨by rfl, ?_⟩) hHeld ?_
            rotate_left
            · intro w' hSw
              obtain ⟨_, _, s2, _, _⟩ := hSw
              go_simp
              try with_reducible rfl
            try simp only [Act.put, List.setIfInBounds_toArray, List.set_cons_zero, List.set_cons_succ]
            refine wpAnyH_take (i := 5) (v := ?_) (by simp only [List.getElem?_toArray, List.getElem?_cons_zero, List.getElem?_cons_succ]; exact rfl) (by kernel_rfl) (by kernel_rfl) (by kernel_rfl) (by exact fun _ _ _ h => h) (Or.inl ⟨by rfl, ?_⟩) hHeld ?_
            rotate_left
            · intro w' hSw
              clear hSw
              go_simp
              try with_reducible rfl
            try simp only [Act.put, List.setIfInBounds_toArray, List.set_cons_zero, List.set_cons_succ]
            refine wpAnyH_take (i := 6) (v := ?_) (by simp only [List.getElem?_toArray, List.getElem?_cons_zero, List.getElem?_cons_succ]; exact rfl) (by kernel_rfl) (by kernel_rfl) (by kernel_rfl) (by exact fun _ _ _ h => h) (Or.inl ⟨by rfl, ?_⟩) hHeld ?_
            rotate_left
            · intro w' hSw
              clear hSw
              go_simp
              try with_reducible rfl
            try simp only [Act.put, List.setIfInBounds_toArray, List.set_cons_zero, List.set_cons_succ]
            refine wpAnyH_take (i := 7) (v := ?_) (by simp only [List.getElem?_toArray, List.getElem?_cons_zero, List.getElem?_cons_succ]; exact rfl) (by kernel_rfl) (by kernel_rfl) (by kernel_rfl) (by exact fun _ _ _ h => h) (Or.inl ⟨by rfl, ?_⟩) hHeld ?_
            rotate_left
            · intro w' hSw
              clear hSw
              go_simp
              try with_reducible rfl
            try simp only [Act.put, List.setIfInBounds_toArray, List.set_cons_zero, List.set_cons_succ]
            refine wpAnyH_take (i := 8) (v := ?_) (by simp only [List.getElem?_toArray, List.getElem?_cons_zero, List.getElem?_cons_succ]; exact rfl) (by kernel_rfl) (by kernel_rfl) (by kernel_rfl) (by exact fun _ _ _ h => h) (Or.inl ⟨by rfl, ?_⟩) hHeld ?_
            rotate_left
            · intro w' hSw
              clear hSw
              go_simp
              try with_reducible rfl
            try simp only [Act.put, List.setIfInBounds_toArray, List.set_cons_zero, List.set_cons_succ]
            refine wpAnyH_take (i := 9) (v := ?_) (by simp only [List.getElem?_toArray, List.getElem?_cons_zero, List.getElem?_cons_succ]; exact rfl) (by kernel_rfl) (by kernel_rfl) (by kernel_rfl) (by exact fun _ _ _ h => h) (Or.inl ⟨by rfl, ?_⟩) hHeld ?_
            rotate_left
            · intro w' hSw
              clear hSw
              go_simp
              try with_reducible rfl
            try simp only [Act.put, List.setIfInBounds_toArray, List.set_cons_zero, List.set_cons_succ]
            refine wpAnyH_take (i := 10) (v := ?_) (by simp only [List.getElem?_toArray, List.getElem?_cons_zero, List.getElem?_cons_succ]; exact rfl) (by kernel_rfl) (by kernel_rfl) (by kernel_rfl) (by exact fun _ _ _ h => h) (Or.inl ⟨by rfl, ?_⟩) hHeld ?_
            rotate_left
            · intro w' hSw
              clear hSw
              go_simp
              try with_reducible rfl
            try simp only [Act.put, List.setIfInBounds_toArray, List.set_cons_zero, List.set_cons_succ]
            refine wpAnyH_take (i := 11) (v := ?_) (by simp only [List.getElem?_toArray, List.getElem?_cons_zero, List.getElem?_cons_succ]; exact rfl) (by kernel_rfl) (by kernel_rfl) (by kernel_rfl) (by exact fun _ _ _ h => h) (Or.inl ⟨by rfl, ?_⟩) hHeld ?_
            rotate_left
            · intro w' hSw
              clear hSw
              go_simp
              try with_reducible rfl
            try simp only [Act.put, List.setIfInBounds_toArray, List.set_cons_zero, List.set_cons_succ]
            refine wpAnyH_take (i := 12) (v := ?_) (by simp only [List.getElem?_toArray, List.getElem?_cons_zero, List.getElem?_cons_succ]; exact rfl) (by kernel_rfl) (by kernel_rfl) (by kernel_rfl) (by exact fun _ _ _ h => h) (Or.inl ⟨by rfl, ?_⟩) hHeld ?_
            rotate_left
            · intro w' hSw
              obtain ⟨_, _, _, s3, _⟩ := hSw
              go_simp
              try with_reducible rfl
            try simp only [Act.put, List.setIfInBounds_toArray, List.set_cons_zero, List.set_cons_succ]
            refine wpAnyH_take (i := 15) (v := ?_) (by simp only [List.getElem?_toArray, List.getElem?_cons_zero, List.getElem?_cons_succ]; exact rfl) (by kernel_rfl) (by kernel_rfl) (by kernel_rfl) (by exact fun _ _ _ h => h) (Or.inl ⟨by rfl, ?_⟩) hHeld ?_
            rotate_left
            · intro w' hSw
              obtain ⟨s0, s1, s2, _, _⟩ := hSw
              go_simp
              try with_reducible rfl
            try simp only [Act.put, List.setIfInBounds_toArray, List.set_cons_zero, List.set_cons_succ]
            refine wpAnyH_ready (rs := [13]) (by kernel_rfl) (by simp) ?_
            refine (AllReadyH.cons (by simp only [List.getElem?_toArray, List.getElem?_cons_zero, List.getElem?_cons_succ]; exact rfl) (fun K hK => ?_) AllReadyH.nil)
            refine want_yes (by rfl) ?_
            go_wp2_with fail
            refine (KR.out _ KP).mono ?_
            rintro e w1 ⟨x1, y1, k1, rfl, o1, hb⟩
            replace T := Lib.hid (T.out.trans (hb.mono T.out.size))
            replace KP := Lib.hid (KP.out.below hb)
            have O1 := Lib.hid o1.rd
            clear o1
            clear hb
            go_wp2_with fail
            refine hK.out _ _ (SS.out _ KP) (fun hHeld => ?_)
            clear hK K
            try simp only [Act.put, List.setIfInBounds_toArray, List.set_cons_zero, List.set_cons_succ]
            refine wpAnyH_take (i := 14) (v := ?_) (by simp only [List.getElem?_toArray, List.getElem?_cons_zero, List.getElem?_cons_succ]; exact rfl) (by kernel_rfl) (by kernel_rfl) (by kernel_rfl) (by exact fun _ _ _ h => h) (Or.inl ⟨by rfl, ?_⟩) hHeld ?_
            rotate_left
            · intro w' hSw
              clear hSw
              go_simp
              try with_reducible rfl
            try simp only [Act.put, List.setIfInBounds_toArray, List.set_cons_zero, List.set_cons_succ]
            refine wpAnyH_ready (rs := [16]) (by kernel_rfl) (by simp) ?_
            refine (AllReadyH.cons (by simp only [List.getElem?_toArray, List.getElem?_cons_zero, List.getElem?_cons_succ]; exact rfl) (fun K hK => ?_) AllReadyH.nil)
            refine want_yes (by rfl) ?_
            go_wp2_with fail
            refine (KM.out _ _ _ _ KP O1.out).mono ?_
            rintro e w1 ⟨rfl, hb⟩
            replace T := Lib.hid (T.out.trans (hb.mono T.out.size))
            replace KP := Lib.hid (KP.out.below hb)
            clear O1
            clear hb
            go_wp2_with fail
            refine hK.out _ _ (SS.out _ KP) (fun hHeld => ?_)
            clear hK K
            try simp only [Act.put, List.setIfInBounds_toArray, List.set_cons_zero, List.set_cons_succ]
            refine wpAnyH_take (i := 17) (v := ?_) (by simp only [List.getElem?_toArray, List.getElem?_cons_zero, List.getElem?_cons_succ]; exact rfl) (by kernel_rfl) (by kernel_rfl) (by kernel_rfl) (by exact fun _ _ _ h => h) (Or.inl ⟨by rfl, ?_⟩) hHeld ?_
            rotate_left
            · intro w' hSw
              clear hSw
              go_simp
              try with_reducible rfl
            try simp only [Act.put, List.setIfInBounds_toArray, List.set_cons_zero, List.set_cons_succ]
            refine wpAnyH_take (i := 18) (v := ?_) (by simp only [List.getElem?_toArray, List.getElem?_cons_zero, List.getElem?_cons_succ]; exact rfl) (by kernel_rfl) (by kernel_rfl) (by kernel_rfl) (by exact fun _ _ _ h => h) (Or.inl ⟨by rfl, ?_⟩) hHeld ?_
            rotate_left
            · intro w' hSw
              clear hSw
              go_simp
              try with_reducible rfl
            try simp only [Act.put, List.setIfInBounds_toArray, List.set_cons_zero, List.set_cons_succ]
            refine wpAnyH_take (i := 19) (v := ?_) (by simp only [List.getElem?_toArray, List.getElem?_cons_zero, List.getElem?_cons_succ]; exact rfl) (by kernel_rfl) (by kernel_rfl) (by kernel_rfl) (by exact fun _ _ _ h => h) (Or.inl ⟨by rfl, ?_⟩) hHeld ?_
            rotate_left
            · intro w' hSw
              clear hSw
              go_simp
              try with_reducible rfl
            try simp only [Act.put, List.setIfInBounds_toArray, List.set_cons_zero, List.set_cons_succ]
            refine wpAnyH_take (i := 20) (v := ?_) (by simp only [List.getElem?_toArray, List.getElem?_cons_zero, List.getElem?_cons_succ]; exact rfl) (by kernel_rfl) (by kernel_rfl) (by kernel_rfl) (by exact fun _ _ _ h => h) (Or.inl ⟨by rfl, ?_⟩) hHeld ?_
            rotate_left
            · intro w' hSw
              clear hSw
              go_simp
              try with_reducible rfl
            try simp only [Act.put, List.setIfInBounds_toArray, List.set_cons_zero, List.set_cons_succ]
            refine wpAnyH_take (i := 21) (v := ?_) (by simp only [List.getElem?_toArray, List.getElem?_cons_zero, List.getElem?_cons_succ]; exact rfl) (by kernel_rfl) (by kernel_rfl) (by kernel_rfl) (by exact fun _ _ _ h => h) (Or.inl ⟨by rfl, ?_⟩) hHeld ?_
            rotate_left
            · intro w' hSw
              clear hSw
              go_simp
              try with_reducible rfl
            try simp only [Act.put, List.setIfInBounds_toArray, List.set_cons_zero, List.set_cons_succ]
            refine wpAnyH_take (i := 22) (v := ?_) (by simp only [List.getElem?_toArray, List.getElem?_cons_zero, List.getElem?_cons_succ]; exact rfl) (by kernel_rfl) (by kernel_rfl) (by kernel_rfl) (by exact fun _ _ _ h => h) (Or.inl ⟨by rfl, ?_⟩) hHeld ?_
            rotate_left
            · intro w' hSw
              clear hSw
              go_simp
              try with_reducible rfl
            try simp only [Act.put, List.setIfInBounds_toArray, List.set_cons_zero, List.set_cons_succ]
            refine wpAnyH_take (i := 23) (v := ?_) (by simp only [List.getElem?_toArray, List.getElem?_cons_zero, List.getElem?_cons_succ]; exact rfl) (by kernel_rfl) (by kernel_rfl) (by kernel_rfl) (by exact fun _ _ _ h => h) (Or.inl ⟨by rfl, ?_⟩) hHeld ?_
            rotate_left
            · intro w' hSw
              obtain ⟨_, _, _, s3, _⟩ := hSw
              go_simp
              try with_reducible rfl
            try simp only [Act.put, List.setIfInBounds_toArray, List.set_cons_zero, List.set_cons_succ]
            refine wpAnyH_ready (rs := [24]) (by kernel_rfl) (by simp) ?_
            refine (AllReadyH.cons (by simp only [List.getElem?_toArray, List.getElem?_cons_zero, List.getElem?_cons_succ]; exact rfl) (fun K hK => ?_) AllReadyH.nil)
            refine want_yes (by rfl) ?_
            go_wp2_with fail
            refine (KR.out _ KP).mono ?_
            rintro e w1 ⟨x2, y2, k2, rfl, _, hb⟩
            replace T := Lib.hid (T.out.trans (hb.mono T.out.size))
            replace KP := Lib.hid (KP.out.below hb)
            clear hb
            go_wp2_with fail
            refine hK.out _ _ (SS.out _ KP) (fun hHeld => ?_)
            clear hK K
            try simp only [Act.put, List.setIfInBounds_toArray, List.set_cons_zero, List.set_cons_succ]
            refine wpAnyH_take (i := 25) (v := ?_) (by simp only [List.getElem?_toArray, List.getElem?_cons_zero, List.getElem?_cons_succ]; exact rfl) (by kernel_rfl) (by kernel_rfl) (by kernel_rfl) (by exact fun _ _ _ h => h) (Or.inl ⟨by rfl, ?_⟩) hHeld ?_
            rotate_left
            · intro w' hSw
              clear hSw
              go_simp
              try with_reducible rfl
            try simp only [Act.put, List.setIfInBounds_toArray, List.set_cons_zero, List.set_cons_succ]
            refine wpAnyH_take (i := 26) (v := ?_) (by simp only [List.getElem?_toArray, List.getElem?_cons_zero, List.getElem?_cons_succ]; exact rfl) (by kernel_rfl) (by kernel_rfl) (by kernel_rfl) (by exact fun _ _ _ h => h) (Or.inl ⟨by rfl, ?_⟩) hHeld ?_
            rotate_left
            · intro w' hSw
              clear hSw
              go_simp
              try with_reducible rfl
            try simp only [Act.put, List.setIfInBounds_toArray, List.set_cons_zero, List.set_cons_succ]
            refine wpAnyH_take (i := 27) (v := ?_) (by simp only [List.getElem?_toArray, List.getElem?_cons_zero, List.getElem?_cons_succ]; exact rfl) (by kernel_rfl) (by kernel_rfl) (by kernel_rfl) (by exact fun _ _ _ h => h) (Or.inl ⟨by rfl, ?_⟩) hHeld ?_
            rotate_left
            · intro w' hSw
              clear hSw
              go_simp
              try with_reducible rfl
            try simp only [Act.put, List.setIfInBounds_toArray, List.set_cons_zero, List.set_cons_succ]
            refine wpAnyH_done (by kernel_rfl) ?_ _
            go_wp2_with fail
            go_meet
            exact ⟨rfl, T, KP⟩
        case rest =>
          as_aux_lemma =>
            obtain ⟨rfl, T, KP⟩ := hcut
            have zwc := Lib.hid T.out.size
            clear KR KM e2 e3
            have y4 : (wc.alloc (.cells #[] 5)).cell? ⟨b6, 1, none⟩ = some (.slice a2 n2 c2) := ((Gb6.out _ KP).alloc (.cells #[] 5)).cell 1
            have o0 := own_lit wc wc.heap.size (Nat.le_refl _)
            have r0 := (Ga2.out _ KP).alloc (.cells #[] 5)
            have H8B := Lib.hid (Ga2.out _ KP).b8
            have HZL := Lib.hid (Ga2.out _ KP).length
            go_wp2_with (at_builtin; refine append_bytes _ rfl (.tmp 157) (.tmp 159) rfl wc.heap.size _ _ _ [] rfl o0 a2 n2 c2 zb rfl r0 (by simp) (by omega) ?_; intro a14 c14 w9 o9 g9; simp only [List.nil_append, Nat.zero_add] at o9; have O9 := Lib.hid o9; have B9 := Lib.hid (((Below.refl wc.heap.size wc).alloc (Nat.le_refl _) (.cells #[] 5)).grown g9 (by simp) (fun k e => by simp [Value.ownBlock] at e; omega)); clear o9 g9)
            clear y4 o0 r0
            replace T := Lib.hid (T.out.trans (B9.out.mono T.out.size))
            have RA := Lib.hid (Ga.out _ (Lib.hid (KP.out.below B9.out)))
            rcases O9.out.shape with ⟨_, h0, _⟩ | ⟨g, rfl⟩
            · omega
            have gB := O9.out.lt _ rfl
            dsimp only at gB
            have KT := Lib.hid (fun W (hW : Rd W a len cap zs) => lwAt_all 2 n2 a len cap zs W hW (by omega) (by omega) (by omega) hl)
            have KU := Lib.hid (fun W (hW : Rd W a len cap zs) => lwAt_all 3 8 a len cap zs W hW (by omega) (by omega) (by omega) hl)
            have T := Lib.hid T.out.drew
            have RA := Lib.hid RA.out.drew
            have O9 := Lib.hid O9.out.drew
            clear B9 KP
            refine wp_region_held_drew (S := fun _ => True) (by kernel_rfl) trivial (fun hHeld => ?_)
            refine wpAnyH_take (i := 0) (v := ?_) (by simp only [List.getElem?_toArray, List.getElem?_cons_zero]; exact rfl) (by kernel_rfl) (by kernel_rfl) (by kernel_rfl) (by exact fun _ _ _ h => h) (Or.inl ⟨by rfl, ?_⟩) hHeld ?_
            rotate_left
            · intro w' hSw
              clear hSw
              go_simp
              try with_reducible rfl
            try simp only [Act.put, List.setIfInBounds_toArray, List.set_cons_zero, List.set_cons_succ]
            refine wpAnyH_take (i := 1) (v := ?_) (by simp only [List.getElem?_toArray, List.getElem?_cons_zero, List.getElem?_cons_succ]; exact rfl) (by kernel_rfl) (by kernel_rfl) (by kernel_rfl) (by exact fun _ _ _ h => h) (Or.inl ⟨by rfl, ?_⟩) hHeld ?_
            rotate_left
            · intro w' hSw
              clear hSw
              go_simp
              try with_reducible rfl
            try simp only [Act.put, List.setIfInBounds_toArray, List.set_cons_zero, List.set_cons_succ]
            refine wpAnyH_take (i := 2) (v := ?_) (by simp only [List.getElem?_toArray, List.getElem?_cons_zero, List.getElem?_cons_succ]; exact rfl) (by kernel_rfl) (by kernel_rfl) (by kernel_rfl) (by exact fun _ _ _ h => h) (Or.inl ⟨by rfl, ?_⟩) hHeld ?_
            rotate_left
            · intro w' hSw
              clear hSw
              go_simp
              try with_reducible rfl
            try simp only [Act.put, List.setIfInBounds_toArray, List.set_cons_zero, List.set_cons_succ]
            refine wpAnyH_take (i := 3) (v := ?_) (by simp only [List.getElem?_toArray, List.getElem?_cons_zero, List.getElem?_cons_succ]; exact rfl) (by kernel_rfl) (by kernel_rfl) (by kernel_rfl) (by exact fun _ _ _ h => h) (Or.inl ⟨by rfl, ?_⟩) hHeld ?_
            rotate_left
            · intro w' hSw
              clear hSw
              go_simp
              try with_reducible rfl
            try simp only [Act.put, List.setIfInBounds_toArray, List.set_cons_zero, List.set_cons_succ]
            refine wpAnyH_take (i := 7) (v := ?_) (by simp only [List.getElem?_toArray, List.getElem?_cons_zero, List.getElem?_cons_succ]; exact rfl) (by kernel_rfl) (by kernel_rfl) (by kernel_rfl) (by exact fun _ _ _ h => h) (Or.inl ⟨by rfl, ?_⟩) hHeld ?_
            rotate_left
            · intro w' hSw
              clear hSw
              go_simp
              try with_reducible rfl
            try simp only [Act.put, List.setIfInBounds_toArray, List.set_cons_zero, List.set_cons_succ]
            refine wpAnyH_ready (rs := [4]) (by kernel_rfl) (by simp) ?_
            refine (AllReadyH.cons (by simp only [List.getElem?_toArray, List.getElem?_cons_zero, List.getElem?_cons_succ]; exact rfl) (fun K hK => ?_) AllReadyH.nil)
            refine want_none (by exact rfl) ?_
            go_wp2_with fail
            refine (KT.out _ RA.out).mono ?_
            rintro e w10 ⟨i, rfl, hin, hb⟩
            have hii : (i : Int) < n2 := by omega
            replace T := Lib.hid (T.out.trans (hb.mono T.out.size))
            replace RA := Lib.hid (RA.out.below hb)
            replace O9 := Lib.hid (O9.out.below hb)
            clear hb
            go_wp2_with fail
            refine hK.out _ _ trivial (fun hHeld => ?_)
            clear hK K
            try simp only [Act.put, List.setIfInBounds_toArray, List.set_cons_zero, List.set_cons_succ]
            refine wpAnyH_take (i := 5) (v := ?_) (by simp only [List.getElem?_toArray, List.getElem?_cons_zero, List.getElem?_cons_succ]; exact rfl) (by kernel_rfl) (by kernel_rfl) (by kernel_rfl) (by exact fun _ _ _ h => h) (Or.inl ⟨by rfl, ?_⟩) hHeld ?_
            rotate_left
            · intro w' hSw
              clear hSw
              go_simp
              try with_reducible rfl
            try simp only [Act.put, List.setIfInBounds_toArray, List.set_cons_zero, List.set_cons_succ]
            refine wpAnyH_ready (rs := [6, 8]) (by kernel_rfl) (by simp) ?_
            refine (AllReadyH.cons (by simp only [List.getElem?_toArray, List.getElem?_cons_zero, List.getElem?_cons_succ]; exact rfl) (fun K hK => ?_) (AllReadyH.cons (by simp only [List.getElem?_toArray, List.getElem?_cons_zero, List.getElem?_cons_succ]; exact rfl) (fun K hK => ?_) AllReadyH.nil))
            · skip
              have ck := O9.out.cellAt i hin
              refine want_none (by exact rfl) ?_
              go_wp2_with fail
              refine hK.out _ _ trivial (fun hHeld => ?_)
              clear hK K ck
              try simp only [Act.put, List.setIfInBounds_toArray, List.set_cons_zero, List.set_cons_succ]
              refine wpAnyH_ready (rs := [8]) (by kernel_rfl) (by simp) ?_
              refine (AllReadyH.cons (by simp only [List.getElem?_toArray, List.getElem?_cons_zero, List.getElem?_cons_succ]; exact rfl) (fun K hK => ?_) AllReadyH.nil)
              refine want_none (by exact rfl) ?_
              go_wp2_with fail
              refine (KU.out _ RA.out).mono ?_
              rintro e w11 ⟨k, rfl, hk, hb⟩
              have hk8 : (k : Int) ≤ 8 := by omega
              have hk0 : (0 : Int) ≤ k := by omega
              have hku : IntKind.u64.wrap (k : Int) = k := by rw [IntKind.wrap_u64]; omega
              replace T := Lib.hid (T.out.trans (hb.mono T.out.size))
              replace O9 := Lib.hid (O9.out.below hb)
              clear hb
              go_wp2_with fail
              refine hK.out _ _ trivial (fun hHeld => ?_)
              clear hK K RA
              try simp only [Act.put, List.setIfInBounds_toArray, List.set_cons_zero, List.set_cons_succ]
              refine wpAnyH_take (i := 9) (v := ?_) (by simp only [List.getElem?_toArray, List.getElem?_cons_zero, List.getElem?_cons_succ]; exact rfl) (by kernel_rfl) (by kernel_rfl) (by kernel_rfl) (by exact fun _ _ _ h => h) (Or.inl ⟨by rfl, ?_⟩) hHeld ?_
              rotate_left
              · intro w' hSw
                clear hSw
                go_simp
                try with_reducible rfl
              try simp only [Act.put, List.setIfInBounds_toArray, List.set_cons_zero, List.set_cons_succ]
              refine wpAnyH_take (i := 10) (v := ?_) (by simp only [List.getElem?_toArray, List.getElem?_cons_zero, List.getElem?_cons_succ]; exact rfl) (by kernel_rfl) (by kernel_rfl) (by kernel_rfl) (by exact fun _ _ _ h => h) (Or.inl ⟨by rfl, ?_⟩) hHeld ?_
              rotate_left
              · intro w' hSw
                clear hSw
                go_simp
                try with_reducible rfl
              try simp only [Act.put, List.setIfInBounds_toArray, List.set_cons_zero, List.set_cons_succ]
              refine wpAnyH_take (i := 11) (v := ?_) (by simp only [List.getElem?_toArray, List.getElem?_cons_zero, List.getElem?_cons_succ]; exact rfl) (by kernel_rfl) (by kernel_rfl) (by kernel_rfl) (by exact fun _ _ _ h => h) (Or.inl ⟨by rfl, ?_⟩) hHeld ?_
              rotate_left
              · intro w' hSw
                clear hSw
                go_simp
                try with_reducible rfl
              try simp only [Act.put, List.setIfInBounds_toArray, List.set_cons_zero, List.set_cons_succ]
              refine wpAnyH_take (i := 12) (v := ?_) (by simp only [List.getElem?_toArray, List.getElem?_cons_zero, List.getElem?_cons_succ]; exact rfl) (by kernel_rfl) (by kernel_rfl) (by kernel_rfl) (by exact fun _ _ _ h => h) (Or.inl ⟨by rfl, ?_⟩) hHeld ?_
              rotate_left
              · intro w' hSw
                clear hSw
                go_simp
                try with_reducible rfl
              try simp only [Act.put, List.setIfInBounds_toArray, List.set_cons_zero, List.set_cons_succ]
              refine wpAnyH_ready (rs := [13]) (by kernel_rfl) (by simp) ?_
              refine (AllReadyH.cons (by simp only [List.getElem?_toArray, List.getElem?_cons_zero, List.getElem?_cons_succ]; exact rfl) (fun K hK => ?_) AllReadyH.nil)
              have ck := O9.out.cellAt i hin
              have fk := O9.out.frozenAt i
              refine want_none (by exact rfl) ?_
              go_wp2_with fail
              clear ck fk
              have OS := O9.out.set i (bits .xor .u8 (zb[i]?.getD 0) (2 ^ k % 256)) (bits_within .xor .u8 _ _)
              have HT := dg_told pf pt zb i k (by rw [HZL.out]; exact hin) hk H8B.out HS0.out (b8_set H8B.out _ _ (bits_within .xor .u8 _ _))
              rw [List.getD_eq_getElem?_getD, ← pow_mod k hk] at HT
              obtain ⟨bad, hbad⟩ : ∃ bad, bad = zb.set i (bits .xor .u8 (zb[i]?.getD 0) (2 ^ k % 256)) := ⟨_, rfl⟩
              have OB := OS.1
              rw [← hbad] at HT OB
              replace T := Lib.hid (T.out.setCell (p := ⟨g, i, none⟩) (by show w.heap.size ≤ g; have := zwc.out; omega) (.int .u8 (bits .xor .u8 (zb[i]?.getD 0) (2 ^ k % 256))))
              generalize w11.setCell ⟨g, i, none⟩ (.int .u8 (bits .xor .u8 (zb[i]?.getD 0) (2 ^ k % 256))) = w11b at *
              clear OS hbad
              have KV := Lib.hid (IR.out pf pt _ n2 c14 bad w11b OB.rd)
              have OC := Lib.hid OB
              clear OB
              refine hK.out _ _ trivial (fun hHeld => ?_)
              clear hK K
              try simp only [Act.put]
              refine wpAnyH_done (by kernel_rfl) ?_ _
              go_wp2_with fail
              refine KV.out.mono ?_
              rintro e w12 ⟨x12, y12, z12, rfl, _, hb⟩
              replace T := Lib.hid (T.out.trans (hb.mono T.out.size))
              have OD := Lib.hid (OC.out.below hb)
              clear hb KV OC
              have j6 : (6 : Int) < n2 := by omega
              have j7 : (7 : Int) < n2 := by omega
              generalize rgAns pf pt bad = ra at *
              rcases HT with h | ⟨h6, h7⟩
              · have e9 : (ra.c != 0) = true := by simpa using h
                clear h
                go_wp2
                go_ret
                exact ⟨rfl, T.out⟩
              · by_cases h : ra.c = 0
                · have e9 : (ra.c != 0) = false := by simpa using h
                  have c6 := OD.out.cellAt 6 (by omega)
                  have c7 := OD.out.cellAt 7 (by omega)
                  rw [h6] at c6
                  rw [h7] at c7
                  clear h h6 h7
                  go_wp2
                  go_ret
                  exact ⟨rfl, T.out⟩
                · have e9 : (ra.c != 0) = true := by simpa using h
                  clear h h6 h7
                  go_wp2
                  go_ret
                  exact ⟨rfl, T.out⟩
            · skip
              refine want_none (by exact rfl) ?_
              go_wp2_with fail
              refine (KU.out _ RA.out).mono ?_
              rintro e w11 ⟨k, rfl, hk, hb⟩
              have hk8 : (k : Int) ≤ 8 := by omega
              have hk0 : (0 : Int) ≤ k := by omega
              have hku : IntKind.u64.wrap (k : Int) = k := by rw [IntKind.wrap_u64]; omega
              replace T := Lib.hid (T.out.trans (hb.mono T.out.size))
              replace O9 := Lib.hid (O9.out.below hb)
              clear hb
              go_wp2_with fail
              refine hK.out _ _ trivial (fun hHeld => ?_)
              clear hK K RA
              try simp only [Act.put, List.setIfInBounds_toArray, List.set_cons_zero, List.set_cons_succ]
              refine wpAnyH_take (i := 9) (v := ?_) (by simp only [List.getElem?_toArray, List.getElem?_cons_zero, List.getElem?_cons_succ]; exact rfl) (by kernel_rfl) (by kernel_rfl) (by kernel_rfl) (by exact fun _ _ _ h => h) (Or.inl ⟨by rfl, ?_⟩) hHeld ?_
              rotate_left
              · intro w' hSw
                clear hSw
                go_simp
                try with_reducible rfl
              try simp only [Act.put, List.setIfInBounds_toArray, List.set_cons_zero, List.set_cons_succ]
              refine wpAnyH_take (i := 10) (v := ?_) (by simp only [List.getElem?_toArray, List.getElem?_cons_zero, List.getElem?_cons_succ]; exact rfl) (by kernel_rfl) (by kernel_rfl) (by kernel_rfl) (by exact fun _ _ _ h => h) (Or.inl ⟨by rfl, ?_⟩) hHeld ?_
              rotate_left
              · intro w' hSw
                clear hSw
                go_simp
                try with_reducible rfl
              try simp only [Act.put, List.setIfInBounds_toArray, List.set_cons_zero, List.set_cons_succ]
              refine wpAnyH_ready (rs := [6]) (by kernel_rfl) (by simp) ?_
              refine (AllReadyH.cons (by simp only [List.getElem?_toArray, List.getElem?_cons_zero, List.getElem?_cons_succ]; exact rfl) (fun K hK => ?_) AllReadyH.nil)
              have ck := O9.out.cellAt i hin
              refine want_none (by exact rfl) ?_
              go_wp2_with fail
              refine hK.out _ _ trivial (fun hHeld => ?_)
              clear hK K ck
              try simp only [Act.put, List.setIfInBounds_toArray, List.set_cons_zero, List.set_cons_succ]
              refine wpAnyH_take (i := 11) (v := ?_) (by simp only [List.getElem?_toArray, List.getElem?_cons_zero, List.getElem?_cons_succ]; exact rfl) (by kernel_rfl) (by kernel_rfl) (by kernel_rfl) (by exact fun _ _ _ h => h) (Or.inl ⟨by rfl, ?_⟩) hHeld ?_
              rotate_left
              · intro w' hSw
                clear hSw
                go_simp
                try with_reducible rfl
              try simp only [Act.put, List.setIfInBounds_toArray, List.set_cons_zero, List.set_cons_succ]
              refine wpAnyH_take (i := 12) (v := ?_) (by simp only [List.getElem?_toArray, List.getElem?_cons_zero, List.getElem?_cons_succ]; exact rfl) (by kernel_rfl) (by kernel_rfl) (by kernel_rfl) (by exact fun _ _ _ h => h) (Or.inl ⟨by rfl, ?_⟩) hHeld ?_
              rotate_left
              · intro w' hSw
                clear hSw
                go_simp
                try with_reducible rfl
              try simp only [Act.put, List.setIfInBounds_toArray, List.set_cons_zero, List.set_cons_succ]
              refine wpAnyH_ready (rs := [13]) (by kernel_rfl) (by simp) ?_
              refine (AllReadyH.cons (by simp only [List.getElem?_toArray, List.getElem?_cons_zero, List.getElem?_cons_succ]; exact rfl) (fun K hK => ?_) AllReadyH.nil)
              have ck := O9.out.cellAt i hin
              have fk := O9.out.frozenAt i
              refine want_none (by exact rfl) ?_
              go_wp2_with fail
              clear ck fk
              have OS := O9.out.set i (bits .xor .u8 (zb[i]?.getD 0) (2 ^ k % 256)) (bits_within .xor .u8 _ _)
              have HT := dg_told pf pt zb i k (by rw [HZL.out]; exact hin) hk H8B.out HS0.out (b8_set H8B.out _ _ (bits_within .xor .u8 _ _))
              rw [List.getD_eq_getElem?_getD, ← pow_mod k hk] at HT
              obtain ⟨bad, hbad⟩ : ∃ bad, bad = zb.set i (bits .xor .u8 (zb[i]?.getD 0) (2 ^ k % 256)) := ⟨_, rfl⟩
              have OB := OS.1
              rw [← hbad] at HT OB
              replace T := Lib.hid (T.out.setCell (p := ⟨g, i, none⟩) (by show w.heap.size ≤ g; have := zwc.out; omega) (.int .u8 (bits .xor .u8 (zb[i]?.getD 0) (2 ^ k % 256))))
              generalize w11.setCell ⟨g, i, none⟩ (.int .u8 (bits .xor .u8 (zb[i]?.getD 0) (2 ^ k % 256))) = w11b at *
              clear OS hbad
              have KV := Lib.hid (IR.out pf pt _ n2 c14 bad w11b OB.rd)
              have OC := Lib.hid OB
              clear OB
              refine hK.out _ _ trivial (fun hHeld => ?_)
              clear hK K
              try simp only [Act.put]
              refine wpAnyH_done (by kernel_rfl) ?_ _
              go_wp2_with fail
              refine KV.out.mono ?_
              rintro e w12 ⟨x12, y12, z12, rfl, _, hb⟩
              replace T := Lib.hid (T.out.trans (hb.mono T.out.size))
              have OD := Lib.hid (OC.out.below hb)
              clear hb KV OC
              have j6 : (6 : Int) < n2 := by omega
              have j7 : (7 : Int) < n2 := by omega
              generalize rgAns pf pt bad = ra at *
              rcases HT with h | ⟨h6, h7⟩
              · have e9 : (ra.c != 0) = true := by simpa using h
                clear h
                go_wp2
                go_ret
                exact ⟨rfl, T.out⟩
              · by_cases h : ra.c = 0
                · have e9 : (ra.c != 0) = false := by simpa using h
                  have c6 := OD.out.cellAt 6 (by omega)
                  have c7 := OD.out.cellAt 7 (by omega)
                  rw [h6] at c6
                  rw [h7] at c7
                  clear h h6 h7
                  go_wp2
                  go_ret
                  exact ⟨rfl, T.out⟩
                · have e9 : (ra.c != 0) = true := by simpa using h
                  clear h h6 h7
                  go_wp2
                  go_ret
                  exact ⟨rfl, T.out⟩
end Go.Proofs.Ytmcllaefjgdbeaa

namespace Go.Proofs.Ytmcllaefjgdbeaa
open Go.ChangeShapes Go.WideShapes Go.ChangeAt Go.RowKit

structure Bd where
  n : Int
  lo : Int
  hi : Int
def bdB (b : Bd) : Bool := inB b.n b.lo b.hi
/-- the bounds bs, one behind the other, in the block g -/
def Bds (w : World) (g : Nat) (bs : List Bd) : Prop := ∀ i b, bs[i]? = some b → w.cell? ⟨g, i * 3, none⟩ = some (.int .i64 b.n) ∧ w.cell? ⟨g, i * 3 + 1, none⟩ = some (.int .i64 b.lo) ∧ w.cell? ⟨g, i * 3 + 2, none⟩ = some (.int .i64 b.hi)

/-- a number is below its bounds, above them, or in them -/
theorem in_cases' (k a b : Int) : (inB k a b = false ∧ k < a) ∨ (inB k a b = false ∧ ¬ k < a ∧ b < k) ∨ (inB k a b = true ∧ ¬ k < a ∧ ¬ b < k) := by
  by_cases h1 : k < a
  · exact .inl ⟨in_f (by omega), h1⟩
  · by_cases h2 : b < k
    · exact .inr (.inl ⟨in_f (by omega), h1, h2⟩)
    · exact .inr (.inr ⟨in_t (by omega), h1, h2⟩)

theorem ipBound_any (n : Int) (w : World) : Calls Try.prog 43 #[.int .i64 n] w fun e w' => e = .returned (.agg #[.int .i64 n, .int .i64 0, .int .i64 4294967295]) ∧ Below w.heap.size w w' := by
  go_enter Try.func43, Try.ntmps43
  go_wp2
  exact bodyPost_ret (v := .agg #[.int .i64 n, .int .i64 0, .int .i64 4294967295]) (by simp [results, Try.results43, go_sem]) rfl ⟨rfl, (Below.refl _ _).alloc (Nat.le_refl _) _⟩

theorem portBound_any (n : Int) (w : World) : Calls Try.prog 67 #[.int .i64 n] w fun e w' => e = .returned (.agg #[.int .i64 n, .int .i64 1, .int .i64 65535]) ∧ Below w.heap.size w w' := by
  go_enter Try.func67, Try.ntmps67
  go_wp2
  exact bodyPost_ret (v := .agg #[.int .i64 n, .int .i64 1, .int .i64 65535]) (by simp [results, Try.results67, go_sem]) rfl ⟨rfl, (Below.refl _ _).alloc (Nat.le_refl _) _⟩

set_option maxHeartbeats 1000000 in
theorem areWithin_any (g : Nat) (bs : List Bd) (w : World) (h : Bds w g bs) (hn : bs.length ≤ 1000) :
    Calls Try.prog 42 #[.slice (some ⟨g, 0, none⟩) bs.length bs.length] w fun e w' => e = .returned (.bool (bs.all bdB)) ∧ Below w.heap.size w w' := by
  have HS := Lib.hid h
  obtain ⟨n, hN⟩ : ∃ n, n = bs.length := ⟨_, rfl⟩
  rw [← hN] at hn ⊢
  have HN := Lib.hid hN
  clear h hN
  go_enter Try.func42, Try.ntmps42
  go_wp2
  go_loopw [7] (fun i wr => ∃ (k : Nat), k ≤ n ∧ i = .int .i64 k ∧ Hid ((bs.take k).all bdB = true) ∧ Hid (Below w.heap.size w wr)) (fun i _ => n - (intOf i).toNat)
  case atStart => exact ⟨0, Nat.zero_le _, rfl, rfl, Below.refl _ _⟩
  case round =>
    obtain ⟨k, hk, rfl, hT, hB⟩ := hrel
    by_cases hlt : k < n
    · obtain ⟨b, hb⟩ : ∃ b, bs[k]? = some b := ⟨_, List.getElem?_eq_getElem (by rw [← HN.out]; exact hlt)⟩
      obtain ⟨c0, c1, c2⟩ := HS.out k b hb
      have d0 := keepB' hB.out c0
      have d1 := keepB' hB.out c1
      have d2 := keepB' hB.out c2
      clear c0 c1 c2
      have hT' : Hid ((bs.take (k + 1)).all bdB = bdB b) := by
        have e := hT.out
        have e2 : bs.take (k + 1) = bs.take k ++ [b] := by rw [List.take_add_one, hb]; rfl
        rw [e2]; simp only [Hid, List.all_append, e, List.all_cons, List.all_nil, Bool.true_and, Bool.and_true]
      have hF : Hid (bdB b = false → bs.all bdB = false) := fun hf => by
        rw [List.all_eq_false]
        exact ⟨b, List.mem_of_getElem? hb, by simp [hf]⟩
      have B1 := Lib.hid (hB.out.alloc hB.out.size (.cells #[.int .i64 b.n, .int .i64 b.lo, .int .i64 b.hi] 67))
      have hbd : Hid (bdB b = inB b.n b.lo b.hi) := rfl
      clear hb hT hB
      generalize b.n = x at *
      generalize b.lo = y at *
      generalize b.hi = z at *
      rcases in_cases' x y z with ⟨m, q⟩ | ⟨m, q, r⟩ | ⟨m, q, r⟩
      · have HF : Hid (bs.all bdB = false) := hF.out (hbd.out.trans m)
        clear m
        go_wp2
        go_ret
        exact ⟨ret_b HF.out.symm, B1.out⟩
      · have HF : Hid (bs.all bdB = false) := hF.out (hbd.out.trans m)
        clear m
        go_wp2
        go_ret
        exact ⟨ret_b HF.out.symm, B1.out⟩
      · have HF : Hid ((bs.take (k + 1)).all bdB = true) := hT'.out.trans (hbd.out.trans m)
        clear m
        go_wp2
        go_roundw
        case rel => exact ⟨k + 1, by omega, by go_num, HF.out, B1.out⟩
        case measure => simp [intOf]; omega
    · obtain rfl : k = n := by omega
      have HF : Hid (bs.all bdB = true) := by
        have e := hT.out
        rwa [List.take_of_length_le (by rw [← HN.out]; exact Nat.le_refl _)] at e
      go_wp2
      go_ret
      exact ⟨ret_b HF.out.symm, hB.out⟩
/-- two bounds in a block of their own -/
theorem bds2 {w : World} {g : Nat} {t : TypeId} (a b : Bd) (h : Box w g t #[.int .i64 a.n, .int .i64 a.lo, .int .i64 a.hi, .int .i64 b.n, .int .i64 b.lo, .int .i64 b.hi]) : Bds w g [a, b] := by
  intro i x hx
  match i with
  | 0 => simp at hx; subst hx; exact ⟨h.cell 0, h.cell 1, h.cell 2⟩
  | 1 => simp at hx; subst hx; exact ⟨h.cell 3, h.cell 4, h.cell 5⟩
  | k + 2 => simp at hx
theorem within2 (g : Nat) (t : TypeId) (x0 l0 h0 x1 l1 h1 : Int) (w : World) (h : Box w g t #[.int .i64 x0, .int .i64 l0, .int .i64 h0, .int .i64 x1, .int .i64 l1, .int .i64 h1]) :
    Calls Try.prog 42 #[.slice (some ⟨g, 0, none⟩) 2 2] w fun e w' => e = .returned (.bool (inB x0 l0 h0 && inB x1 l1 h1)) ∧ Below w.heap.size w w' := by
  have := areWithin_any g [⟨x0, l0, h0⟩, ⟨x1, l1, h1⟩] w (bds2 ⟨x0, l0, h0⟩ ⟨x1, l1, h1⟩ h) (by simp)
  simpa [bdB] using this
theorem within4 (g : Nat) (t : TypeId) (x0 l0 h0 x1 l1 h1 x2 l2 h2 x3 l3 h3 : Int) (w : World) (h : Box w g t #[.int .i64 x0, .int .i64 l0, .int .i64 h0, .int .i64 x1, .int .i64 l1, .int .i64 h1, .int .i64 x2, .int .i64 l2, .int .i64 h2, .int .i64 x3, .int .i64 l3, .int .i64 h3]) :
    Calls Try.prog 42 #[.slice (some ⟨g, 0, none⟩) 4 4] w fun e w' => e = .returned (.bool (inB x0 l0 h0 && inB x1 l1 h1 && inB x2 l2 h2 && inB x3 l3 h3)) ∧ Below w.heap.size w w' := by
  have := areWithin_any g [⟨x0, l0, h0⟩, ⟨x1, l1, h1⟩, ⟨x2, l2, h2⟩, ⟨x3, l3, h3⟩] w (by
    intro i x hx
    match i with
    | 0 => simp at hx; subst hx; exact ⟨h.cell 0, h.cell 1, h.cell 2⟩
    | 1 => simp at hx; subst hx; exact ⟨h.cell 3, h.cell 4, h.cell 5⟩
    | 2 => simp at hx; subst hx; exact ⟨h.cell 6, h.cell 7, h.cell 8⟩
    | 3 => simp at hx; subst hx; exact ⟨h.cell 9, h.cell 10, h.cell 11⟩
    | k + 4 => simp at hx) (by simp)
  simpa [bdB, Bool.and_assoc] using this
end Go.Proofs.Ytmcllaefjgdbeaa

namespace Go.Proofs.Ytmcllaefjgdbeaa
open Go.ChangeShapes Go.WideShapes Go.ChangeAt Go.RowKit

theorem equal_any (a : Option Addr) (len cap : Nat) (zs : List Int) (a' : Option Addr) (len' cap' : Nat) (zs' : List Int) (w : World) (hr : Rd w a len cap zs) (hr' : Rd w a' len' cap' zs') :
    Calls Try.prog 64 #[.slice a len cap, .slice a' len' cap'] w fun e w' => e = .returned (.bool (eqL zs zs')) ∧ w = w' := by
  have c1 := conv_rd hr
  have c2 := conv_rd hr'
  by_cases h3 : zs = zs'
  · subst h3
    have H : Hid (eqL zs zs = true) := by simp [Hid, eqL]
    clear hr hr'
    generalize strOfNums zs = s at *
    go_enter Try.func64, Try.ntmps64
    go_wp2
    go_ret
    exact ⟨ret_b H.out.symm, rfl⟩
  · have H : Hid (eqL zs zs' = false) := by simp [Hid, eqL, h3]
    have h5 := str_ne hr.b8 hr'.b8 h3
    clear hr hr' h3
    generalize strOfNums zs = s at *
    generalize strOfNums zs' = s' at *
    go_enter Try.func64, Try.ntmps64
    go_wp2
    go_ret
    exact ⟨ret_b H.out.symm, rfl⟩

end Go.Proofs.Ytmcllaefjgdbeaa

namespace Go.Proofs.Ytmcllaefjgdbeaa
open Go.ChangeShapes Go.WideShapes Go.ChangeAt Go.RowKit

/-- a row of n bounds, of these cells, in a block of its own -/
def BdV (W : World) (v : Value) (n : Nat) (cs : Array Value) : Prop := ∃ g, v = .slice (some ⟨g, 0, none⟩) n n ∧ Box W g 67 cs
theorem BdV.below {W W' : World} {n : Nat} {v : Value} {cs : Array Value} (hb : Below W.heap.size W W') (h : BdV W v n cs) : BdV W' v n cs := by
  obtain ⟨g, e, x⟩ := h
  exact ⟨g, e, x.below hb x.lt⟩
theorem BdV.new (W : World) (n : Nat) (cs : Array Value) : BdV (W.alloc (.cells cs 67)) (.slice (some ⟨W.heap.size, 0, none⟩) n n) n cs := ⟨_, rfl, Box.new _ _ _⟩

set_option maxRecDepth 20000 in
set_option maxHeartbeats 4000000 in
theorem implDatagramFault (df dt : Int) (a : Option Addr) (len cap : Nat) (w : World) :
    Calls Try.prog 22 #[.agg #[.int .i64 df, .int .i64 dt, .slice a len cap]] w fun e w' => e = .returned (.int .i64 (dgC df dt len)) ∧ Below w.heap.size w w' := by
  obtain ⟨c, hc⟩ : ∃ c, c = dgC df dt len := ⟨_, rfl⟩
  obtain ⟨q, hq⟩ : ∃ q, q = (inB df 1 65535 && inB dt 1 65535) := ⟨_, rfl⟩
  have HC : Hid ((q = true → len ≤ 552 → c = 0) ∧ (q = true → 552 < len → c = 2) ∧ (q = false → c = 3)) := by
    subst hc hq
    unfold dgC dgB
    refine ⟨fun h h' => ?_, fun h h' => ?_, fun h => ?_⟩
    · rw [if_pos h, if_pos h']
    · rw [if_pos h, if_neg (by omega)]
    · rw [h]; rfl
  have HQ := Lib.hid hq
  rw [← hc]
  clear hc hq
  have B0 := Lib.hid ((Below.refl w.heap.size w).alloc (Nat.le_refl _) (.cells #[.int .i64 df, .int .i64 dt, .slice a len cap] 25))
  have X0 := Lib.hid (Box.new w 25 #[.int .i64 df, .int .i64 dt, .slice a len cap])
  go_enter Try.func22, Try.ntmps22
  go_wp2_with fail
  obtain ⟨n0, hn0⟩ : ∃ n0, n0 = w.heap.size := ⟨_, rfl⟩
  generalize w.alloc (.cells #[.int .i64 df, .int .i64 dt, .slice a len cap] 25) = W0 at *
  have SS := Lib.hid (show ∀ W, Hid (Below W0.heap.size W0 W) → W.cell? ⟨w.heap.size, 0, none⟩ = some (.int .i64 df) ∧ W.cell? ⟨w.heap.size, 1, none⟩ = some (.int .i64 dt) ∧ Hid (Below W0.heap.size W0 W) from fun W h => by
    obtain ⟨_, x0, x1, _⟩ := (X0.out.below h.out X0.out.lt).three
    exact ⟨x0, x1, h⟩)
  have T1 := Lib.hid (Below.refl W0.heap.size W0)
  have hnn := Lib.hid hn0
  have hn0 : n0 ≤ W0.heap.size := by rw [hnn.out]; exact B0.out.size
  have TD := kDrew T1
  refine wp_region_held_drew (S := fun W => W.cell? ⟨w.heap.size, 0, none⟩ = some (.int .i64 df) ∧ W.cell? ⟨w.heap.size, 1, none⟩ = some (.int .i64 dt) ∧ Hid (Below W0.heap.size W0 W)) (by kernel_rfl) (SS.out _ TD) (fun hHeld => ?_)
  refine wpAnyH_take (i := 0) (v := ?_) (by simp only [List.getElem?_toArray, List.getElem?_cons_zero]; exact rfl) (by kernel_rfl) (by kernel_rfl) (by kernel_rfl) (by exact fun _ _ _ h => h) (Or.inl ⟨by rfl, ?_⟩) hHeld ?_
  rotate_left
  · intro w' hSw
    obtain ⟨s0, s1, _⟩ := hSw
    go_simp
    try with_reducible rfl
  try simp only [Act.put, List.setIfInBounds_toArray, List.set_cons_zero, List.set_cons_succ]
  refine wpAnyH_take (i := 1) (v := ?_) (by simp only [List.getElem?_toArray, List.getElem?_cons_zero, List.getElem?_cons_succ]; exact rfl) (by kernel_rfl) (by kernel_rfl) (by kernel_rfl) (by exact fun _ _ _ h => h) (Or.inl ⟨by rfl, ?_⟩) hHeld ?_
  rotate_left
  · intro w' hSw
    obtain ⟨s0, s1, _⟩ := hSw
    go_simp
    try with_reducible rfl
  try simp only [Act.put, List.setIfInBounds_toArray, List.set_cons_zero, List.set_cons_succ]
  refine wpAnyH_take (i := 3) (v := ?_) (by simp only [List.getElem?_toArray, List.getElem?_cons_zero, List.getElem?_cons_succ]; exact rfl) (by kernel_rfl) (by kernel_rfl) (by kernel_rfl) (by exact fun _ _ _ h => h) (Or.inl ⟨by rfl, ?_⟩) hHeld ?_
  rotate_left
  · intro w' hSw
    obtain ⟨s0, s1, _⟩ := hSw
    go_simp
    try with_reducible rfl
  try simp only [Act.put, List.setIfInBounds_toArray, List.set_cons_zero, List.set_cons_succ]
  refine wpAnyH_take (i := 4) (v := ?_) (by simp only [List.getElem?_toArray, List.getElem?_cons_zero, List.getElem?_cons_succ]; exact rfl) (by kernel_rfl) (by kernel_rfl) (by kernel_rfl) (by exact fun _ _ _ h => h) (Or.inl ⟨by rfl, ?_⟩) hHeld ?_
  rotate_left
  · intro w' hSw
    obtain ⟨s0, s1, _⟩ := hSw
    go_simp
    try with_reducible rfl
  try simp only [Act.put, List.setIfInBounds_toArray, List.set_cons_zero, List.set_cons_succ]
  refine flow_go (Inv := fun listed ac W => ∃ v5 v8 v9 v10 v11 : Value, ac = { tmps := #[.agg #[.int .i64 df, .int .i64 dt, .slice a len cap], .pointer (some ⟨w.heap.size, 0, none⟩), .int .i64 0, .pointer (some ⟨w.heap.size, 0, none⟩), .int .i64 df, v5, .pointer (some ⟨w.heap.size, 1, none⟩), .int .i64 dt, v8, v9, v10, v11, undef, undef, undef, undef], defers := [] } ∧ Hid (Below W0.heap.size W0 W) ∧ Fl listed 2 (EqV v5 (.agg #[.int .i64 df, .int .i64 1, .int .i64 65535])) ∧ Fl listed 5 (EqV v8 (.agg #[.int .i64 dt, .int .i64 1, .int .i64 65535])) ∧ Fl listed 6 (BdV W v9 2 #[.int .i64 df, .int .i64 1, .int .i64 65535, .int .i64 dt, .int .i64 1, .int .i64 65535]) ∧ Fl listed 7 (EqV v10 (.bool q)) ∧ Fl listed 8 (EqV v11 (.bool (!q)))) [2, 5, 6, 7, 8] (by kernel_rfl) (by kernel_rfl) ⟨_, _, _, _, _, rfl, TD, Fl.not (by kernel_rfl), Fl.not (by kernel_rfl), Fl.not (by kernel_rfl), Fl.not (by kernel_rfl), Fl.not (by kernel_rfl)⟩
    (FlowAll.cons [] (by simp only [List.getElem?_toArray, List.getElem?_cons_zero, List.getElem?_cons_succ]; exact rfl) (by kernel_rfl) (fun listed ac W hI hu hd K hK => ?_)
      (FlowAll.cons [] (by simp only [List.getElem?_toArray, List.getElem?_cons_zero, List.getElem?_cons_succ]; exact rfl) (by kernel_rfl) (fun listed ac W hI hu hd K hK => ?_)
      (FlowAll.cons [2, 5] (by simp only [List.getElem?_toArray, List.getElem?_cons_zero, List.getElem?_cons_succ]; exact rfl) (by kernel_rfl) (fun listed ac W hI hu hd K hK => ?_)
      (FlowAll.cons [6] (by simp only [List.getElem?_toArray, List.getElem?_cons_zero, List.getElem?_cons_succ]; exact rfl) (by kernel_rfl) (fun listed ac W hI hu hd K hK => ?_)
      (FlowAll.cons [7] (by simp only [List.getElem?_toArray, List.getElem?_cons_zero, List.getElem?_cons_succ]; exact rfl) (by kernel_rfl) (fun listed ac W hI hu hd K hK => ?_)
      FlowAll.nil)))))
    (fun listed ac W hI hall => ?_)
  · obtain ⟨v5, v8, v9, v10, v11, rfl, TB, f2, f5, f6, f7, f8⟩ := hI
    have hnW : n0 ≤ W.heap.size := Nat.le_trans hn0 (kSize TB)
    refine want_none (by exact rfl) ?_
    go_wp2_with fail
    refine (portBound_any df _).mono ?_
    rintro e w' ⟨rfl, hb0⟩
    go_wp2_with fail
    have hb : Below W.heap.size W _ := hb0
    have TB' := kCall hb (kSize TB) TB
    refine hK.out _ _ (SS.out _ TB') ?_
    exact ⟨_, _, _, _, _, rfl, TB', Fl.new (EqV.rfl _), f5.keep (by decide) (keepE hb), f6.keep (by decide) (BdV.below hb), f7.keep (by decide) (keepE hb), f8.keep (by decide) (keepE hb)⟩
  · obtain ⟨v5, v8, v9, v10, v11, rfl, TB, f2, f5, f6, f7, f8⟩ := hI
    have hnW : n0 ≤ W.heap.size := Nat.le_trans hn0 (kSize TB)
    refine want_none (by exact rfl) ?_
    go_wp2_with fail
    refine (portBound_any dt _).mono ?_
    rintro e w' ⟨rfl, hb0⟩
    go_wp2_with fail
    have hb : Below W.heap.size W _ := hb0
    have TB' := kCall hb (kSize TB) TB
    refine hK.out _ _ (SS.out _ TB') ?_
    exact ⟨_, _, _, _, _, rfl, TB', f2.keep (by decide) (keepE hb), Fl.new (EqV.rfl _), f6.keep (by decide) (BdV.below hb), f7.keep (by decide) (keepE hb), f8.keep (by decide) (keepE hb)⟩
  · obtain ⟨v5, v8, v9, v10, v11, rfl, TB, f2, f5, f6, f7, f8⟩ := hI
    have hnW : n0 ≤ W.heap.size := Nat.le_trans hn0 (kSize TB)
    obtain ⟨rfl⟩ := f2.get (hd 2 (by simp))
    obtain ⟨rfl⟩ := f5.get (hd 5 (by simp))
    refine want_none (by exact rfl) ?_
    go_wp2_with fail
    have hb : Below W.heap.size W _ := bAlloc W (.cells #[.int .i64 df, .int .i64 1, .int .i64 65535, .int .i64 dt, .int .i64 1, .int .i64 65535] 67)
    have TB' := kCall hb (kSize TB) TB
    refine hK.out _ _ (SS.out _ TB') ?_
    exact ⟨_, _, _, _, _, rfl, TB', f2.keep (by decide) (keepE hb), f5.keep (by decide) (keepE hb), Fl.new (BdV.new _ _ _), f7.keep (by decide) (keepE hb), f8.keep (by decide) (keepE hb)⟩
  · obtain ⟨v5, v8, v9, v10, v11, rfl, TB, f2, f5, f6, f7, f8⟩ := hI
    have hnW : n0 ≤ W.heap.size := Nat.le_trans hn0 (kSize TB)
    obtain ⟨g, rfl, xG⟩ := f6.get (hd 6 (by simp))
    refine want_none (by exact rfl) ?_
    go_wp2_with fail
    refine (within2 g _ df 1 65535 dt 1 65535 _ xG).mono ?_
    rintro e w' ⟨rfl, hb0⟩
    rw [← HQ.out]
    go_wp2_with fail
    have hb : Below W.heap.size W _ := hb0
    have TB' := kCall hb (kSize TB) TB
    refine hK.out _ _ (SS.out _ TB') ?_
    exact ⟨_, _, _, _, _, rfl, TB', f2.keep (by decide) (keepE hb), f5.keep (by decide) (keepE hb), f6.keep (by decide) (BdV.below hb), Fl.new (EqV.rfl _), f8.keep (by decide) (keepE hb)⟩
  · obtain ⟨v5, v8, v9, v10, v11, rfl, TB, f2, f5, f6, f7, f8⟩ := hI
    have hnW : n0 ≤ W.heap.size := Nat.le_trans hn0 (kSize TB)
    obtain ⟨rfl⟩ := f7.get (hd 7 (by simp))
    refine want_none (by exact rfl) ?_
    go_wp2_with fail
    refine hK.out _ _ (SS.out _ TB) ?_
    exact ⟨_, _, _, _, _, rfl, TB, f2.keep (by decide) id, f5.keep (by decide) id, f6.keep (by decide) id, f7.keep (by decide) id, Fl.new (EqV.rfl _)⟩
  · obtain ⟨v5, v8, v9, v10, v11, rfl, TB, f2, f5, f6, f7, f8⟩ := hI
    have hnW : n0 ≤ W.heap.size := Nat.le_trans hn0 (kSize TB)
    obtain ⟨rfl⟩ := f8.get (hall 8 (by decide))
    have B2 := Lib.hid (B0.out.trans (TB.out.mono B0.out.size))
    have X2 := Lib.hid (X0.out.below TB.out X0.out.lt)
    obtain ⟨_, x0, x1, x2⟩ := X2.out.three
    clear f2 f5 f6 f7 f8 TB hall
    cases q
    · go_wp2
      go_ret
      exact ⟨ret_i (HC.out.2.2 (by simp)).symm, B2.out⟩
    rcases Nat.lt_or_ge 552 len with hl | hl
    · have hl' : ¬ len ≤ 552 := Nat.not_le.2 hl
      go_wp2
      go_ret
      exact ⟨ret_i (HC.out.2.1 (by simp) hl).symm, B2.out⟩
    · have hl' : len ≤ 552 := hl
      go_wp2
      go_ret
      exact ⟨ret_i (HC.out.1 (by simp) hl).symm, B2.out⟩

theorem datagramFault_law (df dt : Int) (a : Option Addr) (len cap : Nat) (zs : List Int) (w : World) (hr : Rd w a len cap zs) :
    Calls Try.prog 5 #[.agg #[.int .i64 df, .int .i64 dt, .slice a len cap]] w fun e w' => e = .returned (.bool true) ∧ Below w.heap.size w w' :=
  exactDatagramFault df dt a len cap zs w hr (dgC df dt zs.length) (fun a' l' c' W h => by rw [h.length]; exact specDatagramFault df dt a' l' c' W) (fun a' l' c' W h => by rw [h.length]; exact implDatagramFault df dt a' l' c' W)

set_option maxHeartbeats 1000000 in
theorem implSameDatagrams (df dt : Int) (a : Option Addr) (len cap : Nat) (zs : List Int) (df' dt' : Int) (a' : Option Addr) (len' cap' : Nat) (zs' : List Int) (w : World) (hr : Rd w a len cap zs) (hr' : Rd w a' len' cap' zs') :
    Calls Try.prog 19 #[.agg #[.int .i64 df, .int .i64 dt, .slice a len cap], .agg #[.int .i64 df', .int .i64 dt', .slice a' len' cap']] w fun e w' => e = .returned (.bool (sameD df dt zs df' dt' zs')) ∧ Below w.heap.size w w' := by
  have B0 := Lib.hid (((Below.refl w.heap.size w).alloc (Nat.le_refl _) (.cells #[.int .i64 df, .int .i64 dt, .slice a len cap] 25)).alloc (by simp) (.cells #[.int .i64 df', .int .i64 dt', .slice a' len' cap'] 25))
  have K := Lib.hid (fun W (hW : Below w.heap.size w W) => equal_any a len cap zs a' len' cap' zs' W (hr.below hW) (hr'.below hW))
  have H : Hid (sameD df dt zs df' dt' zs' = ((df == df') && (dt == dt') && eqL zs zs')) := by simp [Hid, sameD, BEq.beq]
  clear hr hr'
  generalize sameD df dt zs df' dt' zs' = v at *
  generalize eqL zs zs' = q at *
  cases m0 : (df == df')
  case' true => cases m1 : (dt == dt')
  all_goals
    go_enter Try.func19, Try.ntmps19
    go_wp2_with (go_at_call 64; refine (K.out _ B0.out).mono ?_; rintro e w' ⟨rfl, rfl⟩)
    go_ret
    exact ⟨ret_b (by rw [H.out]; simp [*]), B0.out⟩

theorem sameDatagrams_law (df dt : Int) (a : Option Addr) (len cap : Nat) (zs : List Int) (df' dt' : Int) (a' : Option Addr) (len' cap' : Nat) (zs' : List Int) (w : World) (hr : Rd w a len cap zs) (hr' : Rd w a' len' cap' zs') :
    Calls Try.prog 8 #[.agg #[.int .i64 df, .int .i64 dt, .slice a len cap], .agg #[.int .i64 df', .int .i64 dt', .slice a' len' cap']] w fun e w' => e = .returned (.bool true) ∧ Below w.heap.size w w' :=
  exactSameDatagrams df dt a len cap zs df' dt' a' len' cap' zs' w hr hr' (sameD df dt zs df' dt' zs') (fun b l c b' l' c' W h h' => specSameDatagrams df dt b l c zs df' dt' b' l' c' zs' W h h') (fun b l c b' l' c' W h h' => implSameDatagrams df dt b l c zs df' dt' b' l' c' zs' W h h')
end Go.Proofs.Ytmcllaefjgdbeaa

namespace Go.Proofs.Ytmcllaefjgdbeaa
open Go.ChangeShapes Go.WideShapes Go.ChangeAt Go.RowKit

set_option maxHeartbeats 1000000 in
theorem exactPseudoHead (f t p n : Int) (w : World) (c : Int) (zs : List Int) (hz6 : zs.length ≤ 700) (h1 : ∀ W, Calls Try.prog 20 #[.int .i64 f, .int .i64 t, .int .i64 p, .int .i64 n] W (Packed W c zs)) (h2 : ∀ W, Calls Try.prog 15 #[.int .i64 f, .int .i64 t, .int .i64 p, .int .i64 n] W (Packed W c zs)) :
    Calls Try.prog 4 #[.int .i64 f, .int .i64 t, .int .i64 p, .int .i64 n] w fun e w' => e = .returned (.bool true) ∧ Below w.heap.size w w' := by
  have K1 := Lib.hid h1
  have K2 := Lib.hid h2
  clear h1 h2
  go_enter Try.func4, Try.ntmps4
  go_wp2_with fail
  refine (K1.out _).mono ?_
  rintro e w1 ⟨a1, l1, k1, rfl, o1, hb1⟩
  go_wp2_with fail
  refine (K2.out _).mono ?_
  rintro e w2 ⟨a2, l2, k2, rfl, o2, hb2⟩
  have hl2 : l2 ≤ 700 := by rw [← o2.length]; exact hz6
  have x1 := (Box.new w1 29 #[.int .i64 c, .slice a1 l1 k1]).below hb2 (by simp)
  obtain ⟨z1, c10, c11⟩ := x1.two
  have p1 := (o1.alloc (.cells #[.int .i64 c, .slice a1 l1 k1] 29)).below hb2
  have B2 : Hid (Below w.heap.size w w2) := hb1.trans (((Below.refl _ _).alloc hb1.size _).trans (hb2.mono (by have := hb1.size; simp; omega)))
  have s2 : w1.heap.size + 1 ≤ w2.heap.size := by have := hb2.size; simp at this; omega
  have s1 := hb1.size
  simp only [World.size_alloc] at o2
  clear hb2 hb1
  go_wp2_with fail
  refine (eqBytes_any _ _ _ _ _ _ _ _ zs zs _ (o2.alloc _).rd (p1.alloc _).rd rfl rfl).mono ?_
  rintro e w3 ⟨rfl, hb3⟩
  have x2 := (Box.new w2 29 #[.int .i64 c, .slice a2 l2 k2]).below hb3 (by simp)
  have x1 := (x1.alloc (.cells #[.int .i64 c, .slice a2 l2 k2] 29)).below hb3 (by simp; omega)
  have p1 := (p1.alloc (.cells #[.int .i64 c, .slice a2 l2 k2] 29)).below hb3
  have p2 := (o2.alloc (.cells #[.int .i64 c, .slice a2 l2 k2] 29)).below hb3
  have B3 : Hid (Below w.heap.size w w3) := (B2.out.alloc (by omega) _).trans (hb3.mono (by simp; omega))
  obtain ⟨z2, c20, c21⟩ := x2.two
  clear c10 c11 z1 hb3
  go_wp2_with fail
  refine (markBytes_any _ _ _ _ _ 1 _ _ p2 (by omega) (by omega)).mono ?_
  rintro e w4 ⟨rfl, q2, hg4⟩
  have x2 := x2.grown hg4 (ne_block o2 _ (.inr (Nat.le_refl _)))
  have x1 := x1.grown hg4 (ne_block o2 _ (.inl (by omega)))
  have p1 := p1.grown hg4 (ne_of_lt_own o1 o2 (by omega))
  have B4 : Hid (Below w.heap.size w w4) := B3.out.grown hg4 (by have := B3.out.size; omega) (fun k e => by
    cases a2 with
    | none => simp [Value.ownBlock] at e
    | some y => simp [Value.ownBlock] at e; have := o2.lt y rfl; omega)
  obtain ⟨z2', c20', c21'⟩ := x2.two
  clear c20 c21 z2 hg4 p2
  go_wp2_with fail
  refine (heldBytes_any _ _ _ _ 1 _ q2.rd (by omega) (by omega)).mono ?_
  rintro e w5 ⟨rfl, hb5⟩
  have x2 := x2.below hb5 x2.lt
  have x1 := x1.below hb5 x1.lt
  have p1 := p1.below hb5
  have q2 := q2.below hb5
  have B5 : Hid (Below w.heap.size w w5) := B4.out.trans (hb5.mono (by have := B4.out.size; omega))
  have s5 := hb5.size
  have hn : ¬ ((1 + l2 : Nat) : Int) < 0 := by omega
  have hne : (((1 + l2 : Nat) : Int) != ((1 + l2 : Nat) : Int)) = false := by simp
  clear c20' c21' z2' hb5
  go_wp2_with fail
  refine (K2.out _).mono ?_
  rintro e w6 ⟨a6, l6, k6, rfl, o6, hb6⟩
  have y2 := (x2.below hb6 x2.lt).alloc (.cells #[.int .i64 c, .slice a6 l6 k6] 29)
  have y1 := (x1.below hb6 x1.lt).alloc (.cells #[.int .i64 c, .slice a6 l6 k6] 29)
  have p1 := (p1.below hb6).alloc (.cells #[.int .i64 c, .slice a6 l6 k6] 29)
  have q2 := (q2.below hb6).alloc (.cells #[.int .i64 c, .slice a6 l6 k6] 29)
  have B6 : Hid (Below w.heap.size w (w6.alloc (.cells #[.int .i64 c, .slice a6 l6 k6] 29))) := (B5.out.trans (hb6.mono (by have := B5.out.size; omega))).alloc (by have := B5.out.size; have := hb6.size; omega) _
  obtain ⟨u1, d10, d11⟩ := (x1.below hb6 x1.lt).two
  have s6 := hb6.size
  clear hb6
  go_wp2_with fail
  refine (eqBytes_any _ _ _ _ _ _ _ _ zs zs _ (o6.alloc _).rd p1.rd rfl rfl).mono ?_
  rintro e w7 ⟨rfl, hb7⟩
  have y2 := y2.below hb7 y2.lt
  have q2 := q2.below hb7
  have B7 : Hid (Below w.heap.size w w7) := B6.out.trans (hb7.mono (by have := B6.out.size; omega))
  obtain ⟨v2, e20, e21⟩ := y2.two
  clear hb7 u1 d10 d11
  go_wp2_with fail
  refine (heldBytes_any _ _ _ _ 1 _ q2.rd (by omega) (by omega)).mono ?_
  rintro e w8 ⟨rfl, hb8⟩
  have B8 : Hid (Below w.heap.size w w8) := B7.out.trans (hb8.mono (by have := B7.out.size; omega))
  clear hb8
  go_wp2
  go_ret
  exact ⟨rfl, B8.out⟩
end Go.Proofs.Ytmcllaefjgdbeaa

namespace Go.Proofs.Ytmcllaefjgdbeaa
open Go.ChangeShapes Go.WideShapes Go.ChangeAt Go.RowKit

set_option maxRecDepth 20000 in
set_option maxHeartbeats 4000000 in
theorem implPseudoHead (f t p n : Int) (w : World) :
    Calls Try.prog 15 #[.int .i64 f, .int .i64 t, .int .i64 p, .int .i64 n] w (Packed w (phC f t p n) (phP f t p n)) := by
  obtain ⟨q, hq⟩ : ∃ q, q = (inB f 0 4294967295 && inB t 0 4294967295 && inB p 0 255 && inB n 0 65535) := ⟨_, rfl⟩
  obtain ⟨C, hC⟩ : ∃ C, C = phC f t p n := ⟨_, rfl⟩
  obtain ⟨L, hL⟩ : ∃ L, L = phP f t p n := ⟨_, rfl⟩
  rw [← hC, ← hL]
  have HP : Hid ((q = true → (0 ≤ f ∧ f < 4294967296) ∧ (0 ≤ t ∧ t < 4294967296) ∧ (0 ≤ p ∧ p ≤ 255) ∧ (0 ≤ n ∧ n < 65536) ∧ C = 0 ∧ L = pseudoL f t p n) ∧ (q = false → C = 3 ∧ L = [])) := by
    have e : phB f t p n = q := by rw [hq]; rfl
    refine ⟨fun h => ?_, fun h => ?_⟩
    · obtain ⟨h0, h1, h2, h3⟩ := phB_parts (e.trans h)
      exact ⟨h0, h1, h2, h3, by rw [hC, phC, if_pos (e.trans h)], by rw [hL, phP, if_pos (e.trans h)]⟩
    · have h' : ¬ phB f t p n = true := by rw [e, h]; simp
      exact ⟨by rw [hC, phC, if_neg h'], by rw [hL, phP, if_neg h']⟩
  have HQ := Lib.hid hq
  clear hq hC hL
  have B0 := Lib.hid ((((Below.refl w.heap.size w).alloc (Nat.le_refl _) (.cells #[.int .i64 0, .slice none 0 0] 29)).alloc (by simp) (.cells #[.int .i64 p, .int .i64 0, .int .i64 255] 67)).alloc (by simp; omega) (.cells #[.int .i64 n, .int .i64 0, .int .i64 65535] 67))
  have R0 := Lib.hid (((Box.new w 29 #[.int .i64 0, .slice none 0 0]).alloc (.cells #[.int .i64 p, .int .i64 0, .int .i64 255] 67)).alloc (.cells #[.int .i64 n, .int .i64 0, .int .i64 65535] 67))
  have X1 := Lib.hid ((Box.new (w.alloc (.cells #[.int .i64 0, .slice none 0 0] 29)) 67 #[.int .i64 p, .int .i64 0, .int .i64 255]).alloc (.cells #[.int .i64 n, .int .i64 0, .int .i64 65535] 67))
  have X2 := Lib.hid (Box.new ((w.alloc (.cells #[.int .i64 0, .slice none 0 0] 29)).alloc (.cells #[.int .i64 p, .int .i64 0, .int .i64 255] 67)) 67 #[.int .i64 n, .int .i64 0, .int .i64 65535])
  simp only [World.size_alloc] at X1 X2
  go_enter Try.func15, Try.ntmps15
  go_wp2_with fail
  obtain ⟨n0, hn0⟩ : ∃ n0, n0 = w.heap.size := ⟨_, rfl⟩
  generalize (((w.alloc (.cells #[.int .i64 0, .slice none 0 0] 29)).alloc (.cells #[.int .i64 p, .int .i64 0, .int .i64 255] 67)).alloc (.cells #[.int .i64 n, .int .i64 0, .int .i64 65535] 67)) = W0 at *
  have SS := Lib.hid (show ∀ W, Hid (Below W0.heap.size W0 W) → W.cell? ⟨w.heap.size + 1, 0, none⟩ = some (.int .i64 p) ∧ W.cell? ⟨w.heap.size + 1, 1, none⟩ = some (.int .i64 0) ∧ W.cell? ⟨w.heap.size + 1, 2, none⟩ = some (.int .i64 255) ∧ W.cell? ⟨w.heap.size + 1 + 1, 0, none⟩ = some (.int .i64 n) ∧ W.cell? ⟨w.heap.size + 1 + 1, 1, none⟩ = some (.int .i64 0) ∧ W.cell? ⟨w.heap.size + 1 + 1, 2, none⟩ = some (.int .i64 65535) ∧ Hid (Below W0.heap.size W0 W) from fun W h => by
    obtain ⟨_, x0, x1, x2⟩ := (X1.out.below h.out X1.out.lt).three
    obtain ⟨_, y0, y1, y2⟩ := (X2.out.below h.out X2.out.lt).three
    exact ⟨x0, x1, x2, y0, y1, y2, h⟩)
  have T1 := Lib.hid (Below.refl W0.heap.size W0)
  have hnn := Lib.hid hn0
  have hn0 : n0 ≤ W0.heap.size := by rw [hnn.out]; exact B0.out.size
  have TD := kDrew T1
  refine wp_region_held_drew (S := fun W => W.cell? ⟨w.heap.size + 1, 0, none⟩ = some (.int .i64 p) ∧ W.cell? ⟨w.heap.size + 1, 1, none⟩ = some (.int .i64 0) ∧ W.cell? ⟨w.heap.size + 1, 2, none⟩ = some (.int .i64 255) ∧ W.cell? ⟨w.heap.size + 1 + 1, 0, none⟩ = some (.int .i64 n) ∧ W.cell? ⟨w.heap.size + 1 + 1, 1, none⟩ = some (.int .i64 0) ∧ W.cell? ⟨w.heap.size + 1 + 1, 2, none⟩ = some (.int .i64 65535) ∧ Hid (Below W0.heap.size W0 W)) (by kernel_rfl) (SS.out _ TD) (fun hHeld => ?_)
  refine wpAnyH_take (i := 0) (v := ?_) (by simp only [List.getElem?_toArray, List.getElem?_cons_zero]; exact rfl) (by kernel_rfl) (by kernel_rfl) (by kernel_rfl) (by exact fun _ _ _ h => h) (Or.inl ⟨by rfl, ?_⟩) hHeld ?_
  rotate_left
  · intro w' hSw
    obtain ⟨s0, s1, s2, s3, s4, s5, _⟩ := hSw
    go_simp
    try with_reducible rfl
  try simp only [Act.put, List.setIfInBounds_toArray, List.set_cons_zero, List.set_cons_succ]
  refine wpAnyH_take (i := 2) (v := ?_) (by simp only [List.getElem?_toArray, List.getElem?_cons_zero, List.getElem?_cons_succ]; exact rfl) (by kernel_rfl) (by kernel_rfl) (by kernel_rfl) (by exact fun _ _ _ h => h) (Or.inl ⟨by rfl, ?_⟩) hHeld ?_
  rotate_left
  · intro w' hSw
    obtain ⟨s0, s1, s2, s3, s4, s5, _⟩ := hSw
    go_simp
    try with_reducible rfl
  try simp only [Act.put, List.setIfInBounds_toArray, List.set_cons_zero, List.set_cons_succ]
  refine wpAnyH_take (i := 4) (v := ?_) (by simp only [List.getElem?_toArray, List.getElem?_cons_zero, List.getElem?_cons_succ]; exact rfl) (by kernel_rfl) (by kernel_rfl) (by kernel_rfl) (by exact fun _ _ _ h => h) (Or.inl ⟨by rfl, ?_⟩) hHeld ?_
  rotate_left
  · intro w' hSw
    obtain ⟨s0, s1, s2, s3, s4, s5, _⟩ := hSw
    go_simp
    try with_reducible rfl
  try simp only [Act.put, List.setIfInBounds_toArray, List.set_cons_zero, List.set_cons_succ]
  refine wpAnyH_take (i := 5) (v := ?_) (by simp only [List.getElem?_toArray, List.getElem?_cons_zero, List.getElem?_cons_succ]; exact rfl) (by kernel_rfl) (by kernel_rfl) (by kernel_rfl) (by exact fun _ _ _ h => h) (Or.inl ⟨by rfl, ?_⟩) hHeld ?_
  rotate_left
  · intro w' hSw
    obtain ⟨s0, s1, s2, s3, s4, s5, _⟩ := hSw
    go_simp
    try with_reducible rfl
  try simp only [Act.put, List.setIfInBounds_toArray, List.set_cons_zero, List.set_cons_succ]
  refine flow_go (Inv := fun listed ac W => ∃ v16 v18 v21 v22 v23 : Value, ac = { tmps := #[.int .i64 f, .int .i64 t, .int .i64 p, .int .i64 n, undef, undef, undef, undef, .pointer (some ⟨w.heap.size, 0, none⟩), .pointer (some ⟨w.heap.size + 1, 0, none⟩), .pointer (some ⟨w.heap.size + 1 + 1, 0, none⟩), .int .i64 p, .agg #[.int .i64 p, .int .i64 0, .int .i64 255], .int .i64 n, .agg #[.int .i64 n, .int .i64 0, .int .i64 65535], .int .i64 f, v16, .int .i64 t, v18, .agg #[.int .i64 p, .int .i64 0, .int .i64 255], .agg #[.int .i64 n, .int .i64 0, .int .i64 65535], v21, v22, v23, undef, undef, undef, undef, undef, undef, undef, undef, undef, undef, undef, undef, undef, undef, undef, undef], defers := [] } ∧ Hid (Below W0.heap.size W0 W) ∧ Fl listed 1 (EqV v16 (.agg #[.int .i64 f, .int .i64 0, .int .i64 4294967295])) ∧ Fl listed 3 (EqV v18 (.agg #[.int .i64 t, .int .i64 0, .int .i64 4294967295])) ∧ Fl listed 6 (BdV W v21 4 #[.int .i64 f, .int .i64 0, .int .i64 4294967295, .int .i64 t, .int .i64 0, .int .i64 4294967295, .int .i64 p, .int .i64 0, .int .i64 255, .int .i64 n, .int .i64 0, .int .i64 65535]) ∧ Fl listed 7 (EqV v22 (.bool q)) ∧ Fl listed 8 (EqV v23 (.bool (!q)))) [1, 3, 6, 7, 8] (by kernel_rfl) (by kernel_rfl) ⟨_, _, _, _, _, rfl, TD, Fl.not (by kernel_rfl), Fl.not (by kernel_rfl), Fl.not (by kernel_rfl), Fl.not (by kernel_rfl), Fl.not (by kernel_rfl)⟩
    (FlowAll.cons [] (by simp only [List.getElem?_toArray, List.getElem?_cons_zero, List.getElem?_cons_succ]; exact rfl) (by kernel_rfl) (fun listed ac W hI hu hd K hK => ?_)
      (FlowAll.cons [] (by simp only [List.getElem?_toArray, List.getElem?_cons_zero, List.getElem?_cons_succ]; exact rfl) (by kernel_rfl) (fun listed ac W hI hu hd K hK => ?_)
      (FlowAll.cons [1, 3] (by simp only [List.getElem?_toArray, List.getElem?_cons_zero, List.getElem?_cons_succ]; exact rfl) (by kernel_rfl) (fun listed ac W hI hu hd K hK => ?_)
      (FlowAll.cons [6] (by simp only [List.getElem?_toArray, List.getElem?_cons_zero, List.getElem?_cons_succ]; exact rfl) (by kernel_rfl) (fun listed ac W hI hu hd K hK => ?_)
      (FlowAll.cons [7] (by simp only [List.getElem?_toArray, List.getElem?_cons_zero, List.getElem?_cons_succ]; exact rfl) (by kernel_rfl) (fun listed ac W hI hu hd K hK => ?_)
      FlowAll.nil)))))
    (fun listed ac W hI hall => ?_)
  · obtain ⟨v16, v18, v21, v22, v23, rfl, TB, f1, f3, f6, f7, f8⟩ := hI
    have hnW : n0 ≤ W.heap.size := Nat.le_trans hn0 (kSize TB)
    refine want_none (by exact rfl) ?_
    go_wp2_with fail
    refine (ipBound_any f _).mono ?_
    rintro e w' ⟨rfl, hb0⟩
    go_wp2_with fail
    have hb : Below W.heap.size W _ := hb0
    have TB' := kCall hb (kSize TB) TB
    refine hK.out _ _ (SS.out _ TB') ?_
    exact ⟨_, _, _, _, _, rfl, TB', Fl.new (EqV.rfl _), f3.keep (by decide) (keepE hb), f6.keep (by decide) (BdV.below hb), f7.keep (by decide) (keepE hb), f8.keep (by decide) (keepE hb)⟩
  · obtain ⟨v16, v18, v21, v22, v23, rfl, TB, f1, f3, f6, f7, f8⟩ := hI
    have hnW : n0 ≤ W.heap.size := Nat.le_trans hn0 (kSize TB)
    refine want_none (by exact rfl) ?_
    go_wp2_with fail
    refine (ipBound_any t _).mono ?_
    rintro e w' ⟨rfl, hb0⟩
    go_wp2_with fail
    have hb : Below W.heap.size W _ := hb0
    have TB' := kCall hb (kSize TB) TB
    refine hK.out _ _ (SS.out _ TB') ?_
    exact ⟨_, _, _, _, _, rfl, TB', f1.keep (by decide) (keepE hb), Fl.new (EqV.rfl _), f6.keep (by decide) (BdV.below hb), f7.keep (by decide) (keepE hb), f8.keep (by decide) (keepE hb)⟩
  · obtain ⟨v16, v18, v21, v22, v23, rfl, TB, f1, f3, f6, f7, f8⟩ := hI
    have hnW : n0 ≤ W.heap.size := Nat.le_trans hn0 (kSize TB)
    obtain ⟨rfl⟩ := f1.get (hd 1 (by simp))
    obtain ⟨rfl⟩ := f3.get (hd 3 (by simp))
    refine want_none (by exact rfl) ?_
    go_wp2_with fail
    have hb : Below W.heap.size W _ := bAlloc W (.cells #[.int .i64 f, .int .i64 0, .int .i64 4294967295, .int .i64 t, .int .i64 0, .int .i64 4294967295, .int .i64 p, .int .i64 0, .int .i64 255, .int .i64 n, .int .i64 0, .int .i64 65535] 67)
    have TB' := kCall hb (kSize TB) TB
    refine hK.out _ _ (SS.out _ TB') ?_
    exact ⟨_, _, _, _, _, rfl, TB', f1.keep (by decide) (keepE hb), f3.keep (by decide) (keepE hb), Fl.new (BdV.new _ _ _), f7.keep (by decide) (keepE hb), f8.keep (by decide) (keepE hb)⟩
  · obtain ⟨v16, v18, v21, v22, v23, rfl, TB, f1, f3, f6, f7, f8⟩ := hI
    have hnW : n0 ≤ W.heap.size := Nat.le_trans hn0 (kSize TB)
    obtain ⟨g, rfl, xG⟩ := f6.get (hd 6 (by simp))
    refine want_none (by exact rfl) ?_
    go_wp2_with fail
    refine (within4 g _ f 0 4294967295 t 0 4294967295 p 0 255 n 0 65535 _ xG).mono ?_
    rintro e w' ⟨rfl, hb0⟩
    rw [← HQ.out]
    go_wp2_with fail
    have hb : Below W.heap.size W _ := hb0
    have TB' := kCall hb (kSize TB) TB
    refine hK.out _ _ (SS.out _ TB') ?_
    exact ⟨_, _, _, _, _, rfl, TB', f1.keep (by decide) (keepE hb), f3.keep (by decide) (keepE hb), f6.keep (by decide) (BdV.below hb), Fl.new (EqV.rfl _), f8.keep (by decide) (keepE hb)⟩
  · obtain ⟨v16, v18, v21, v22, v23, rfl, TB, f1, f3, f6, f7, f8⟩ := hI
    have hnW : n0 ≤ W.heap.size := Nat.le_trans hn0 (kSize TB)
    obtain ⟨rfl⟩ := f7.get (hd 7 (by simp))
    refine want_none (by exact rfl) ?_
    go_wp2_with fail
    refine hK.out _ _ (SS.out _ TB) ?_
    exact ⟨_, _, _, _, _, rfl, TB, f1.keep (by decide) id, f3.keep (by decide) id, f6.keep (by decide) id, f7.keep (by decide) id, Fl.new (EqV.rfl _)⟩
  · obtain ⟨v16, v18, v21, v22, v23, rfl, TB, f1, f3, f6, f7, f8⟩ := hI
    have hnW : n0 ≤ W.heap.size := Nat.le_trans hn0 (kSize TB)
    obtain ⟨rfl⟩ := f8.get (hall 8 (by decide))
    have B2 := Lib.hid (B0.out.trans (TB.out.mono B0.out.size))
    have R2 := Lib.hid (R0.out.below TB.out R0.out.lt)
    clear f1 f3 f6 f7 f8 TB hall SS X1 X2 T1
    cases q
    · obtain ⟨_, r0, r1⟩ := R2.out.two
      have f0 := R2.out.frozen 0
      have f1 := R2.out.frozen 1
      obtain ⟨rfl, rfl⟩ := HP.out.2 rfl
      go_wp2
      exact bodyPost_ret (v := .agg #[.int .i64 3, .slice none 0 0]) (by simp [results, Try.results15, go_sem, r0, r1]) rfl ⟨none, 0, 0, rfl, Own.nil _ _, (B2.out.setCell (by simp) _).setCell (by simp) _⟩
    obtain ⟨h0, h1, h2, h3, rfl, e1⟩ := HP.out.1 rfl
    have HL := Lib.hid (show L = be f 4 ++ (be t 4 ++ ([0, p] ++ be n 2)) by rw [e1]; simp [pseudoL])
    have K0 := Lib.hid (show ∀ W, Calls Try.prog 47 #[.int .i64 f, .int .i64 4] W (Packed W 0 (be f 4)) from fun W => implPack_ok f 4 W h0.1 (by omega) (by simp only [Int.reducePow]; omega))
    have K1 := Lib.hid (show ∀ W, Calls Try.prog 47 #[.int .i64 t, .int .i64 4] W (Packed W 0 (be t 4)) from fun W => implPack_ok t 4 W h1.1 (by omega) (by simp only [Int.reducePow]; omega))
    have K2 := Lib.hid (show ∀ W, Calls Try.prog 47 #[.int .i64 n, .int .i64 2] W (Packed W 0 (be n 2)) from fun W => implPack_ok n 2 W h3.1 (by omega) (by simp only [Int.reducePow]; omega))
    have u1 := u8_in p h2
    have hfb := fld_br
    have h8 : Hid (B8 [0, p]) := by intro m hm; simp at hm; omega
    clear e1 h0 h1 h2 h3 HP HQ
    go_wp2_with fail
    refine (K0.out _).mono ?_
    rintro e w3 ⟨a3, l3, c3, rfl, o3, b3⟩
    obtain rfl : l3 = 4 := o3.length.symm.trans (be_len 4 _)
    have R3 := Lib.hid (R2.out.below b3 R2.out.lt)
    have B3 := Lib.hid (B2.out.trans (b3.mono B2.out.size))
    have O3 := Lib.hid o3.rd
    clear b3 o3 R2 B2
    go_wp2_with fail
    refine (K1.out _).mono ?_
    rintro e w4 ⟨a4, l4, c4, rfl, o4, b4⟩
    obtain rfl : l4 = 4 := o4.length.symm.trans (be_len 4 _)
    have R4 := Lib.hid (R3.out.below b4 R3.out.lt)
    have B4 := Lib.hid (B3.out.trans (b4.mono B3.out.size))
    replace O3 := Lib.hid (O3.out.below b4)
    have O4 := Lib.hid o4.rd
    clear b4 o4 R3 B3
    go_wp2_with fail
    have R4' := Lib.hid (R4.out.alloc (.cells #[.int .u8 0, .int .u8 p] 5))
    have B4' := Lib.hid (B4.out.alloc B4.out.size (.cells #[.int .u8 0, .int .u8 p] 5))
    replace O3 := Lib.hid (O3.out.alloc (.cells #[.int .u8 0, .int .u8 p] 5))
    replace O4 := Lib.hid (O4.out.alloc (.cells #[.int .u8 0, .int .u8 p] 5))
    have O5 : Hid (Rd _ _ 2 2 [0, p]) := Rd.of_box (off := 0) (Box.new w4 5 #[.int .u8 0, .int .u8 p]) rfl (by unfold maxLen; omega) h8.out (fun i hi => by match i, hi with | 0, _ => rfl | 1, _ => rfl)
    generalize hW4 : w4.alloc (.cells #[.int .u8 0, .int .u8 p] 5) = W4 at *
    clear R4 B4 hW4
    refine (K2.out _).mono ?_
    rintro e w6 ⟨a6, l6, c6, rfl, o6, b6⟩
    obtain rfl : l6 = 2 := o6.length.symm.trans (be_len 2 _)
    have R6 := Lib.hid (R4'.out.below b6 R4'.out.lt)
    have B6 := Lib.hid (B4'.out.trans (b6.mono B4'.out.size))
    replace O3 := Lib.hid (O3.out.below b6)
    replace O4 := Lib.hid (O4.out.below b6)
    replace O5 := Lib.hid (O5.out.below b6)
    have O6 := Lib.hid o6.rd
    clear b6 o6 R4' B4'
    go_wp2_with fail
    refine (concat4 _ _ _ _ _ _ _ _ _ _ _ _ _ _ _ _ _ _ _ (Box.new _ _ _) (O3.out.alloc _) (O4.out.alloc _) (O5.out.alloc _) (O6.out.alloc _) (by omega)).mono ?_
    rintro e w7 ⟨a7, l7, c7, rfl, o7, b7⟩
    have R7 := (R6.out.alloc _).below b7 (R6.out.alloc _).lt
    obtain ⟨r0, r1, r2⟩ := R7.two
    have f0 := R7.frozen 0
    have f1 := R7.frozen 1
    have hs6 := B6.out.size
    have hr6 := R6.out.lt
    have B7 := Lib.hid ((B6.out.alloc hs6 (.cells _ 22)).trans (b7.mono (by simp; omega)))
    have hn : Hid (∀ x, a7 = some x → ¬ x.block = w.heap.size) := fun x hx e => by
      have := (o7.lt x hx).1
      simp at this
      omega
    have O7 : Hid (Own w7 w.heap.size a7 l7 c7 L) := by rw [HL.out]; exact o7.rebase (by simp; omega)
    clear o7 b7 O3 O4 O5 O6 R6 B6 R7 hs6 hr6
    go_wp2
    refine bodyPost_ret (v := .agg #[.int .i64 0, .slice a7 l7 c7]) (by simp [results, Try.results15, go_sem, r1, r2]) rfl ⟨_, _, _, rfl, ?_, (B7.out.setCell (by simp) _).setCell (by simp) _⟩
    exact (O7.out.setOther _ _ hn.out).setOther _ _ hn.out

theorem pseudoHead_law (f t p n : Int) (w : World) : Calls Try.prog 4 #[.int .i64 f, .int .i64 t, .int .i64 p, .int .i64 n] w fun e w' => e = .returned (.bool true) ∧ Below w.heap.size w w' :=
  exactPseudoHead f t p n w (phC f t p n) (phP f t p n) (by unfold phP; split; (rw [pseudoL_len]; omega); simp) (fun W => specPseudoHead f t p n W) (fun W => implPseudoHead f t p n W)
end Go.Proofs.Ytmcllaefjgdbeaa
