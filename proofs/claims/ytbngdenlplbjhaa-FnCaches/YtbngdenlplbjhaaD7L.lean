/-
  The law FnCaches.
-/
import Derived.Test.YtbngdenlplbjhaaZCaches
import Derived.Test.YtbngdenlplbjhaaC7W
import Derived.Test.YtbngdenlplbjhaaE7S
import Derived.Deep.RegionHeld3
import Derived.Laws.StructEq
namespace Go.Proofs.Ytbngdenlplbjhaa
open Go.ChangeShapes Go.WideShapes Go.ChangeAt Go.RowKit

theorem lwBig9_t (a : Option Addr) (len cap : Nat) (w : World) (h : ¬ len ≤ 1048576) : Calls Try.prog 5 #[.slice a len cap] w fun e w' => e = .returned (.bool true) ∧ w = w' := by
  have hb : (1048576 : Int) < (len : Int) := by omega
  go_enter Try.func5, Try.ntmps5
  go_wp2
  go_ret
  exact ⟨rfl, rfl⟩
theorem lwBig9_f (a : Option Addr) (len cap : Nat) (w : World) (h : len ≤ 1048576) : Calls Try.prog 5 #[.slice a len cap] w fun e w' => e = .returned (.bool false) ∧ w = w' := by
  have hb : ¬ (1048576 : Int) < (len : Int) := by omega
  go_enter Try.func5, Try.ntmps5
  go_wp2
  go_ret
  exact ⟨rfl, rfl⟩
theorem field_ca0 (w : World) (c : Int) (a : Option Addr) (l k : Nat) : (Instr.field 28 (.agg #[.int .i64 c, .slice a l k]) 0).run Try.prog w = .ok (.int .i64 c) w := by
  simp [Instr.field, asAgg, go_sem]
theorem field_ca1 (w : World) (c : Int) (a : Option Addr) (l k : Nat) : (Instr.field 28 (.agg #[.int .i64 c, .slice a l k]) 1).run Try.prog w = .ok (.slice a l k) w := by
  simp [Instr.field, asAgg, go_sem]
theorem field_ir0 (w : World) (c v : Int) : (Instr.field 33 (.agg #[.int .i64 c, .int .i64 v]) 0).run Try.prog w = .ok (.int .i64 c) w := by
  simp [Instr.field, asAgg, go_sem]
theorem impl_learn (a : Option Addr) (n c : Nat) (es : List En) (x m t : Int) (w : World) (h : Le w a n c es) : Calls Try.prog 7 #[.slice a n c, .int .i64 x, .int .i64 m, .int .i64 t] w (CaOut w (lnC es x m t) (lnV es x m t)) := implLearnEntry (inOrder_any colC) (entries_any (inOrder_any colC)) a n c es x m t w h
theorem impl_age (a : Option Addr) (n c : Nat) (es : List En) (t : Int) (w : World) (h : Le w a n c es) : Calls Try.prog 11 #[.slice a n c, .int .i64 t] w (CaOut w (agC es t) (agV es t)) := implAgeCache (entries_any (inOrder_any colC)) a n c es t w h
theorem impl_find (a : Option Addr) (n c : Nat) (es : List En) (x t : Int) (w : World) (h : Le w a n c es) : Calls Try.prog 9 #[.slice a n c, .int .i64 x, .int .i64 t] w fun e w' => e = .returned (.agg #[.int .i64 (faC es x t), .int .i64 (faV es x t)]) ∧ Below w.heap.size w w' := by
  refine (implFindEntry a n c es x t w h).mono ?_
  rintro e w' ⟨c, v, rfl, hf, hb⟩
  obtain ⟨rfl, rfl⟩ := FA_fa hf
  exact ⟨rfl, hb⟩
theorem spec_find (a : Option Addr) (n c : Nat) (es : List En) (x t : Int) (w : World) (h : Le w a n c es) : Calls Try.prog 14 #[.slice a n c, .int .i64 x, .int .i64 t] w fun e w' => e = .returned (.agg #[.int .i64 (faC es x t), .int .i64 (faV es x t)]) ∧ Below w.heap.size w w' := by
  refine (specFindEntry a n c es x t w h).mono ?_
  rintro e w' ⟨c, v, rfl, hf, hb⟩
  obtain ⟨rfl, rfl⟩ := FA_fa hf
  exact ⟨rfl, hb⟩
theorem want_none9 {o : Oper} {y : Nat → Option Bool} {A B : Prop} (h : o.guard = none) (hA : A) : if Region.wanted o y = true then A else B := by
  rw [if_pos (by simp [Region.wanted, h])]
  exact hA
theorem want_true9 {o : Oper} {y : Nat → Option Bool} {A B : Prop} (h : Region.wanted o y = true) (hA : A) : if Region.wanted o y = true then A else B := by
  rw [if_pos h]
  exact hA

set_option maxRecDepth 20000 in
set_option maxHeartbeats 20000000 in
theorem caches_law (a : Option Addr) (len cap : Nat) (zs : List Int) (w : World) (hr : Rd w a len cap zs) :
    Calls Try.prog 3 #[.slice a len cap] w fun e w' => e = .returned (.bool true) ∧ Below w.heap.size w w' := by
  by_cases hl : len ≤ 1048576
  case neg =>
    go_enter Try.func3, Try.ntmps3
    go_wp2_with fail
    refine (lwBig9_t a len cap w hl).mono ?_
    rintro e w1 ⟨rfl, rfl⟩
    go_wp2
    go_ret
    exact ⟨rfl, Below.refl _ _⟩
  have KB := Lib.hid (lwBig9_f a len cap w hl)
  have HR := Lib.hid hr
  clear hr
  have f0 := fun W c a l k => field_ca0 W c a l k
  have f1 := fun W c a l k => field_ca1 W c a l k
  have fi := fun W c v => field_ir0 W c v
  go_enter Try.func3, Try.ntmps3
  go_wp2_with fail
  refine KB.out.mono ?_
  rintro e w1 ⟨rfl, rfl⟩
  clear KB
  go_wp2_with fail
  refine (drawLearnEntry a len cap zs _ HR.out hl).mono ?_
  rintro e w1 ⟨a0, n0, c0, es, x, m, t, rfl, p0, hn0, ht, b1⟩
  have P0 := Lib.hid p0
  have B1 := Lib.hid b1
  clear p0 b1
  go_wp2_with fail
  refine (impl_learn a0 n0 c0 es x m t w1 P0.out).mono ?_
  rintro e w2 ⟨al, nl, kl, rfl, q2, b2⟩
  have PL := Lib.hid (q2.le.alloc (.cells #[.int .i64 (lnC es x m t), .slice al nl kl] 28))
  have bA := b2.alloc b2.size (.cells #[.int .i64 (lnC es x m t), .slice al nl kl] 28)
  have B2 := Lib.hid (B1.out.trans (bA.mono B1.out.size))
  have P2 := Lib.hid (P0.out.below bA)
  have X2 := Lib.hid (Box.new w2 28 #[.int .i64 (lnC es x m t), .slice al nl kl])
  clear q2 b2 bA P0 B1
  go_wp2_with fail
  generalize hgl : w2.heap.size = gl at *
  generalize w2.alloc (.cells #[.int .i64 (lnC es x m t), .slice al nl kl] 28) = W2 at *
  clear hgl
  refine (drawFindEntry a len cap zs _ (HR.out.below B2.out) hl).mono ?_
  rintro e w4 ⟨am, nm, cm, fs, y, u, rfl, qm, hnm, b4⟩
  have PF := Lib.hid qm
  have B4 := Lib.hid (B2.out.trans (b4.mono B2.out.size))
  have P4 := Lib.hid (P2.out.below b4)
  have PL4 := Lib.hid (PL.out.below b4)
  have X4 := Lib.hid (X2.out.below b4 X2.out.lt)
  clear qm b4 B2 P2 PL X2
  go_wp2_with fail
  refine (impl_find am nm cm fs y u w4 PF.out).mono ?_
  rintro e w5 ⟨rfl, b5⟩
  have bA := b5.alloc b5.size (.cells #[.int .i64 (faC fs y u), .int .i64 (faV fs y u)] 33)
  have B5 := Lib.hid (B4.out.trans (bA.mono B4.out.size))
  have P5 := Lib.hid (P4.out.below bA)
  have PL5 := Lib.hid (PL4.out.below bA)
  have PF5 := Lib.hid (PF.out.below bA)
  have X5 := Lib.hid (X4.out.below bA X4.out.lt)
  have Y5 := Lib.hid (Box.new w5 33 #[.int .i64 (faC fs y u), .int .i64 (faV fs y u)])
  clear b5 bA P4 PL4 PF X4 B4
  go_wp2_with fail
  generalize hgf : w5.heap.size = gf at *
  generalize w5.alloc (.cells #[.int .i64 (faC fs y u), .int .i64 (faV fs y u)] 33) = W5 at *
  clear hgf
  refine (drawAgeCache a len cap zs _ (HR.out.below B5.out) hl).mono ?_
  rintro e w6 ⟨ao, no', co, gs, v, rfl, qo, hno, b6⟩
  have PO := Lib.hid qo
  have B6 := Lib.hid (B5.out.trans (b6.mono B5.out.size))
  have P6 := Lib.hid (P5.out.below b6)
  have PL6 := Lib.hid (PL5.out.below b6)
  have PF6 := Lib.hid (PF5.out.below b6)
  have X6 := Lib.hid (X5.out.below b6 X5.out.lt)
  have Y6 := Lib.hid (Y5.out.below b6 Y5.out.lt)
  clear qo b6 B5 P5 PL5 PF5 X5 Y5
  go_wp2_with fail
  refine (impl_age ao no' co gs v w6 PO.out).mono ?_
  rintro e w7 ⟨aa, na, ka, rfl, q7, b7⟩
  have PA := Lib.hid (q7.le.alloc (.cells #[.int .i64 (agC gs v), .slice aa na ka] 28))
  have bA := b7.alloc b7.size (.cells #[.int .i64 (agC gs v), .slice aa na ka] 28)
  have B7 := Lib.hid (B6.out.trans (bA.mono B6.out.size))
  have P7 := Lib.hid (P6.out.below bA)
  have PL7 := Lib.hid (PL6.out.below bA)
  have PF7 := Lib.hid (PF6.out.below bA)
  have PO7 := Lib.hid (PO.out.below bA)
  have X7 := Lib.hid (X6.out.below bA X6.out.lt)
  have Y7 := Lib.hid (Y6.out.below bA Y6.out.lt)
  have Z7 := Lib.hid (Box.new w7 28 #[.int .i64 (agC gs v), .slice aa na ka])
  clear q7 b7 bA P6 PL6 PF6 PO X6 Y6 B6
  go_wp2_with fail
  generalize hga : w7.heap.size = ga at *
  generalize w7.alloc (.cells #[.int .i64 (agC gs v), .slice aa na ka] 28) = W7 at *
  clear hga
  refine (drawSameCaches a len cap zs _ (HR.out.below B7.out) hl).mono ?_
  rintro e W0 ⟨au, av, nu, cu, nv, cv, us, vs, rfl, qu, qv, b8⟩
  have PU := Lib.hid qu
  have PV := Lib.hid qv
  have B0 := Lib.hid (B7.out.trans (b8.mono B7.out.size))
  have P0 := Lib.hid (P7.out.below b8)
  have PL := Lib.hid (PL7.out.below b8)
  have PF := Lib.hid (PF7.out.below b8)
  have PO := Lib.hid (PO7.out.below b8)
  have PA := Lib.hid (PA.out.below b8)
  have X0 := Lib.hid (X7.out.below b8 X7.out.lt)
  have Y0 := Lib.hid (Y7.out.below b8 Y7.out.lt)
  have Z0 := Lib.hid (Z7.out.below b8 Z7.out.lt)
  clear qu qv b8 P7 PL7 PF7 PO7 X7 Y7 Z7 B7 HR
  have hon : gs.length = no' := PO.out.length
  have HON := Lib.hid hon
  have hom : no' ≤ 8 := hno
  clear hon
  obtain ⟨C, hC⟩ : ∃ C, C = lnC es x m t := ⟨_, rfl⟩
  obtain ⟨Fc, hFc⟩ : ∃ C, C = faC fs y u := ⟨_, rfl⟩
  obtain ⟨Fv, hFv⟩ : ∃ C, C = faV fs y u := ⟨_, rfl⟩
  obtain ⟨Ac, hAc⟩ : ∃ C, C = agC gs v := ⟨_, rfl⟩
  rw [← hC] at X0
  rw [← hFc, ← hFv] at Y0
  rw [← hAc] at Z0
  have KL := Lib.hid (show ∀ W, Below W0.heap.size W0 W → Calls Try.prog 13 #[.slice a0 n0 c0, .int .i64 x, .int .i64 m, .int .i64 t] W (CaOut W C (lnV es x m t)) from fun W h => by rw [hC]; exact specLearnEntry a0 n0 c0 es x m t W (P0.out.below h))
  have KF := Lib.hid (show ∀ W, Below W0.heap.size W0 W → Calls Try.prog 14 #[.slice am nm cm, .int .i64 y, .int .i64 u] W fun e w' => e = .returned (.agg #[.int .i64 Fc, .int .i64 Fv]) ∧ Below W.heap.size W w' from fun W h => by rw [hFc, hFv]; exact spec_find am nm cm fs y u W (PF.out.below h))
  have KA := Lib.hid (show ∀ W, Below W0.heap.size W0 W → Calls Try.prog 15 #[.slice ao no' co, .int .i64 v] W (CaOut W Ac (agV gs v)) from fun W h => by rw [hAc]; exact specAgeCache ao no' co gs v W (PO.out.below h) (by omega))
  have KC1 := Lib.hid (show ∀ W, Below W0.heap.size W0 W → Calls Try.prog 16 #[.slice a0 n0 c0] W fun e w' => e = .returned (.int .i64 (cfC es)) ∧ Below W.heap.size W w' from fun W h => implCacheFault a0 n0 c0 es W (P0.out.below h))
  have KC2 := Lib.hid (show ∀ W, Below W0.heap.size W0 W → Calls Try.prog 17 #[.slice a0 n0 c0] W fun e w' => e = .returned (.int .i64 (cfC es)) ∧ Below W.heap.size W w' from fun W h => (specCacheFault a0 n0 c0 es W (P0.out.below h)).mono (by rintro e w' ⟨rfl, rfl⟩; exact ⟨rfl, Below.refl _ _⟩))
  have KU1 := Lib.hid (show ∀ W, Below W0.heap.size W0 W → Calls Try.prog 18 #[.slice au nu cu, .slice av nv cv] W fun e w' => e = .returned (.bool (eqE us vs)) ∧ Below W.heap.size W w' from fun W h => implSameCaches au av nu cu nv cv us vs W (PU.out.below h) (PV.out.below h))
  have KU2 := Lib.hid (show ∀ W, Below W0.heap.size W0 W → Calls Try.prog 19 #[.slice au nu cu, .slice av nv cv] W fun e w' => e = .returned (.bool (eqE us vs)) ∧ Below W.heap.size W w' from fun W h => specSameCaches au av nu cu nv cv us vs W (PU.out.below h) (PV.out.below h))
  have SS := Lib.hid (show ∀ W, Hid (Below W0.heap.size W0 W) → (W.cell? ⟨gl, 0, none⟩ = some (.int .i64 C) ∧ W.cell? ⟨gl, 1, none⟩ = some (.slice al nl kl) ∧ W.cell? ⟨gf, 0, none⟩ = some (.int .i64 Fc) ∧ W.cell? ⟨gf, 1, none⟩ = some (.int .i64 Fv) ∧ W.cell? ⟨ga, 0, none⟩ = some (.int .i64 Ac) ∧ W.cell? ⟨ga, 1, none⟩ = some (.slice aa na ka) ∧ Hid (Below W0.heap.size W0 W)) from fun W hW => by
    obtain ⟨_, x0, x1⟩ := (X0.out.below hW.out X0.out.lt).two
    obtain ⟨_, y0, y1⟩ := (Y0.out.below hW.out Y0.out.lt).two
    obtain ⟨_, z0, z1⟩ := (Z0.out.below hW.out Z0.out.lt).two
    exact ⟨x0, x1, y0, y1, z0, z1, hW⟩)
  have HC := Lib.hid hC
  have HA := Lib.hid hAc
  clear hC hFc hFv hAc
  obtain ⟨F, hF⟩ : ∃ F, F = cfC es := ⟨_, rfl⟩
  obtain ⟨Q, hQ⟩ : ∃ Q, Q = eqE us vs := ⟨_, rfl⟩
  rw [← hF] at KC1 KC2
  rw [← hQ] at KU1 KU2
  clear hF hQ
  have e1 : (C != C) = false := by simp
  have e2 : (Ac != Ac) = false := by simp
  have e3 : (F != F) = false := by simp
  have e4 : (Fc == Fc) = true := by simp
  have e5 : (Q != Q) = false := by simp
  have e6 : (Fv == Fv) = true := by simp
  obtain ⟨x0, x1, y0, y1, z0, z1, _⟩ := SS.out W0 (Below.refl _ _)
  have uI0 : Hid (Below W0.heap.size W0 W0.drew) := (Below.refl _ W0).drew
  go_wp2_with fail
  go_region_held3 (fun W => W.cell? ⟨gl, 0, none⟩ = some (.int .i64 C) ∧ W.cell? ⟨gl, 1, none⟩ = some (.slice al nl kl) ∧ W.cell? ⟨gf, 0, none⟩ = some (.int .i64 Fc) ∧ W.cell? ⟨gf, 1, none⟩ = some (.int .i64 Fv) ∧ W.cell? ⟨ga, 0, none⟩ = some (.int .i64 Ac) ∧ W.cell? ⟨ga, 1, none⟩ = some (.slice aa na ka) ∧ Hid (Below W0.heap.size W0 W))
    (first
      | (go_split_ands; refine SS.out _ ?_; (with_reducible assumption))
      | (go_split_ands; refine SS.out _ ?_; (with_reducible refine kDrew ?_); (with_reducible assumption)))
    (first
      | (have q := uM6; clear q; go_at_call 19; refine (KU2.out _ uI6.out).mono ?_; rintro e u7 ⟨rfl, hb⟩; have uM7 : Hid True := trivial; have uI7 : Hid (Below W0.heap.size W0 u7) := uI6.out.trans (hb.mono uI6.out.size))
      | (have q := uM5; clear q; go_at_call 18; refine (KU1.out _ uI5.out).mono ?_; rintro e u6 ⟨rfl, hb⟩; have uM6 : Hid True := trivial; have uI6 : Hid (Below W0.heap.size W0 u6) := uI5.out.trans (hb.mono uI5.out.size))
      | (have q := uM4; clear q; go_at_call 17; refine (KC2.out _ uI4.out).mono ?_; rintro e u5 ⟨rfl, hb⟩; have uM5 : Hid True := trivial; have uI5 : Hid (Below W0.heap.size W0 u5) := uI4.out.trans (hb.mono uI4.out.size))
      | (have q := uM3; clear q; go_at_call 16; refine (KC1.out _ uI3.out).mono ?_; rintro e u4 ⟨rfl, hb⟩; have uM4 : Hid True := trivial; have uI4 : Hid (Below W0.heap.size W0 u4) := uI3.out.trans (hb.mono uI3.out.size))
      | (have q := uM2; clear q; go_at_call 15; refine (KA.out _ uI2.out).mono ?_; rintro e u3 ⟨_, _, _, rfl, _, hb⟩; have uM3 : Hid True := trivial; have uI3 : Hid (Below W0.heap.size W0 u3) := uI2.out.trans (hb.mono uI2.out.size))
      | (have q := uM1; clear q; go_at_call 14; refine (KF.out _ uI1.out).mono ?_; rintro e u2 ⟨rfl, hb⟩; have uM2 : Hid True := trivial; have uI2 : Hid (Below W0.heap.size W0 u2) := uI1.out.trans (hb.mono uI1.out.size))
      | (go_at_call 13; refine (KL.out _ uI0.out).mono ?_; rintro e u1 ⟨_, _, _, rfl, _, hb⟩; have uM1 : Hid True := trivial; have uI1 : Hid (Below W0.heap.size W0 u1) := uI0.out.trans (hb.mono uI0.out.size)))
  clear x0 x1 y0 y1 z0 z1
  rcases Decidable.em (Ac = 0) with rfl | hac
  case inr =>
    have han : (Ac == 0) = false := by simpa using hac
    rcases Decidable.em (C = 0) with rfl | hc
    case inr =>
      have hcn : (C != 0) = true := by simpa using hc
      obtain ⟨x0, x1, y0, y1, z0, z1, _⟩ := SS.out u7 uI7
      go_wp2_with fail
      go_ret
      exact ⟨rfl, B0.out.trans (uI7.out.mono B0.out.size)⟩
    have hcn : ((0 : Int) != 0) = false := rfl
    obtain ⟨hcl, hx, hm, ht0, ht1⟩ := ln_zero HC.out.symm
    obtain ⟨lv, lc⟩ := ln_cf HC.out.symm
    rw [lv] at PL KL
    have KCL := Lib.hid (show ∀ W, Below W0.heap.size W0 W → Calls Try.prog 16 #[.slice al nl kl] W fun e w' => e = .returned (.int .i64 0) ∧ Below W.heap.size W w' from fun W h => by have q := implCacheFault al nl kl _ W (PL.out.below h); rw [lc] at q; exact q)
    have KF0 := fun (t' : Int) (h1 : 0 ≤ t') (h2 : t' ≤ min (t + 60000) 100000000) => Lib.hid (show ∀ W, Below W0.heap.size W0 W → Calls Try.prog 9 #[.slice al nl kl, .int .i64 x, .int .i64 t'] W fun e w' => e = .returned (.agg #[.int .i64 0, .int .i64 m]) ∧ Below W.heap.size W w' from fun W h => by have q := impl_find al nl kl _ x t' W (PL.out.below h); rw [(ln_found HC.out.symm h1 h2).1, (ln_found HC.out.symm h1 h2).2] at q; exact q)
    have KF1 := KF0 t (by omega) (by omega)
    have KSL := Lib.hid (show ∀ W b n k, Below W0.heap.size W0 W → Le W b n k (lnE x m t es) → Calls Try.prog 18 #[.slice al nl kl, .slice b n k] W fun e w' => e = .returned (.bool true) ∧ Below W.heap.size W w' from fun W b n k h hp => by have q := implSameCaches al b nl kl n k _ _ W (PL.out.below h) hp; rw [eqE_refl] at q; exact q)
    have g1 : IntKind.i64.wrap (t + 60000) = t + 60000 := IntWalk.i64_in _ (by omega)
    have em : (m == m) = true := by simp
    by_cases hb : 100000000 < t + 60000
    · have KF2 := KF0 100000000 (by omega) (by omega)
      clear KF0 lv lc hcl hx hm
      obtain ⟨x0, x1, y0, y1, z0, z1, _⟩ := SS.out u7 uI7
      go_wp2_with fail
      clear x0 x1 y0 y1 z0 z1
      have pI0 : Hid (Below W0.heap.size W0 u7.drew) := uI7.out.drew
      refine wp_region_held_drew (S := (fun W => W.cell? ⟨gl, 0, none⟩ = some (.int .i64 0) ∧ W.cell? ⟨gl, 1, none⟩ = some (.slice al nl kl) ∧ W.cell? ⟨gf, 0, none⟩ = some (.int .i64 Fc) ∧ W.cell? ⟨gf, 1, none⟩ = some (.int .i64 Fv) ∧ W.cell? ⟨ga, 0, none⟩ = some (.int .i64 Ac) ∧ W.cell? ⟨ga, 1, none⟩ = some (.slice aa na ka) ∧ Hid (Below W0.heap.size W0 W))) (by kernel_rfl) (SS.out _ pI0) (fun hHeld => ?_)
      refine wpAnyH_take (i := 0) (v := ?_) (by simp only [List.getElem?_toArray, List.getElem?_cons_zero]; exact rfl) (by kernel_rfl) (by kernel_rfl) (by kernel_rfl) (by exact fun _ _ _ h => h) (Or.inl ⟨by rfl, ?_⟩) hHeld ?_
      rotate_left
      · intro w' hSw
        obtain ⟨hS0, hS1, hS2, hS3, hS4, hS5, hS6⟩ := hSw
        go_simp
        try with_reducible rfl
      try simp only [Act.put, List.setIfInBounds_toArray, List.set_cons_zero, List.set_cons_succ]
      refine wpAnyH_take (i := 1) (v := ?_) (by simp only [List.getElem?_toArray, List.getElem?_cons_zero, List.getElem?_cons_succ]; exact rfl) (by kernel_rfl) (by kernel_rfl) (by kernel_rfl) (by exact fun _ _ _ h => h) (Or.inl ⟨by rfl, ?_⟩) hHeld ?_
      rotate_left
      · intro w' hSw
        obtain ⟨hS0, hS1, hS2, hS3, hS4, hS5, hS6⟩ := hSw
        go_simp
        try with_reducible rfl
      try simp only [Act.put, List.setIfInBounds_toArray, List.set_cons_zero, List.set_cons_succ]
      refine wpAnyH_ready (rs := [2]) (by kernel_rfl) (by simp) ?_
      refine AllReadyH.cons (by simp only [List.getElem?_toArray, List.getElem?_cons_zero, List.getElem?_cons_succ]; exact rfl) (fun K hK => ?_) AllReadyH.nil
      refine want_none9 (by exact rfl) ?_
      go_wp2_with fail
      refine (KCL.out _ pI0.out).mono ?_
      rintro e p1 ⟨rfl, hb⟩
      have pI1 : Hid (Below W0.heap.size W0 p1) := pI0.out.trans (hb.mono pI0.out.size)
      skip
      go_wp2_with fail
      refine hK.out _ _ (SS.out _ pI1) (fun hHeld => ?_)
      clear hK K hb
      try simp only [Act.put, List.setIfInBounds_toArray, List.set_cons_zero, List.set_cons_succ]
      refine wpAnyH_take (i := 3) (v := ?_) (by simp only [List.getElem?_toArray, List.getElem?_cons_zero, List.getElem?_cons_succ]; exact rfl) (by kernel_rfl) (by kernel_rfl) (by kernel_rfl) (by exact fun _ _ _ h => h) (Or.inl ⟨by rfl, ?_⟩) hHeld ?_
      rotate_left
      · intro w' hSw
        obtain ⟨hS0, hS1, hS2, hS3, hS4, hS5, hS6⟩ := hSw
        go_simp
        try with_reducible rfl
      try simp only [Act.put, List.setIfInBounds_toArray, List.set_cons_zero, List.set_cons_succ]
      refine wpAnyH_take (i := 4) (v := ?_) (by simp only [List.getElem?_toArray, List.getElem?_cons_zero, List.getElem?_cons_succ]; exact rfl) (by kernel_rfl) (by kernel_rfl) (by kernel_rfl) (by exact fun _ _ _ h => h) (Or.inl ⟨by rfl, ?_⟩) hHeld ?_
      rotate_left
      · intro w' hSw
        obtain ⟨hS0, hS1, hS2, hS3, hS4, hS5, hS6⟩ := hSw
        go_simp
        try with_reducible rfl
      try simp only [Act.put, List.setIfInBounds_toArray, List.set_cons_zero, List.set_cons_succ]
      refine wpAnyH_take (i := 5) (v := ?_) (by simp only [List.getElem?_toArray, List.getElem?_cons_zero, List.getElem?_cons_succ]; exact rfl) (by kernel_rfl) (by kernel_rfl) (by kernel_rfl) (by exact fun _ _ _ h => h) (Or.inl ⟨by rfl, ?_⟩) hHeld ?_
      rotate_left
      · intro w' hSw
        obtain ⟨hS0, hS1, hS2, hS3, hS4, hS5, hS6⟩ := hSw
        go_simp
        try with_reducible rfl
      try simp only [Act.put, List.setIfInBounds_toArray, List.set_cons_zero, List.set_cons_succ]
      refine wpAnyH_take (i := 6) (v := ?_) (by simp only [List.getElem?_toArray, List.getElem?_cons_zero, List.getElem?_cons_succ]; exact rfl) (by kernel_rfl) (by kernel_rfl) (by kernel_rfl) (by exact fun _ _ _ h => h) (Or.inl ⟨by rfl, ?_⟩) hHeld ?_
      rotate_left
      · intro w' hSw
        obtain ⟨hS0, hS1, hS2, hS3, hS4, hS5, hS6⟩ := hSw
        go_simp
        try with_reducible rfl
      try simp only [Act.put, List.setIfInBounds_toArray, List.set_cons_zero, List.set_cons_succ]
      refine wpAnyH_take (i := 7) (v := ?_) (by simp only [List.getElem?_toArray, List.getElem?_cons_zero, List.getElem?_cons_succ]; exact rfl) (by kernel_rfl) (by kernel_rfl) (by kernel_rfl) (by exact fun _ _ _ h => h) (Or.inl ⟨by rfl, ?_⟩) hHeld ?_
      rotate_left
      · intro w' hSw
        obtain ⟨hS0, hS1, hS2, hS3, hS4, hS5, hS6⟩ := hSw
        go_simp
        try with_reducible rfl
      try simp only [Act.put, List.setIfInBounds_toArray, List.set_cons_zero, List.set_cons_succ]
      refine wpAnyH_take (i := 8) (v := ?_) (by simp only [List.getElem?_toArray, List.getElem?_cons_zero, List.getElem?_cons_succ]; exact rfl) (by kernel_rfl) (by kernel_rfl) (by kernel_rfl) (by exact fun _ _ _ h => h) (Or.inl ⟨by rfl, ?_⟩) hHeld ?_
      rotate_left
      · intro w' hSw
        obtain ⟨hS0, hS1, hS2, hS3, hS4, hS5, hS6⟩ := hSw
        go_simp
        try with_reducible rfl
      try simp only [Act.put, List.setIfInBounds_toArray, List.set_cons_zero, List.set_cons_succ]
      refine wpAnyH_take (i := 10) (v := ?_) (by simp only [List.getElem?_toArray, List.getElem?_cons_zero, List.getElem?_cons_succ]; exact rfl) (by kernel_rfl) (by kernel_rfl) (by kernel_rfl) (by exact fun _ _ _ h => h) (Or.inl ⟨by rfl, ?_⟩) hHeld ?_
      rotate_left
      · intro w' hSw
        obtain ⟨hS0, hS1, hS2, hS3, hS4, hS5, hS6⟩ := hSw
        go_simp
        try with_reducible rfl
      try simp only [Act.put, List.setIfInBounds_toArray, List.set_cons_zero, List.set_cons_succ]
      refine wpAnyH_take (i := 11) (v := ?_) (by simp only [List.getElem?_toArray, List.getElem?_cons_zero, List.getElem?_cons_succ]; exact rfl) (by kernel_rfl) (by kernel_rfl) (by kernel_rfl) (by exact fun _ _ _ h => h) (Or.inl ⟨by rfl, ?_⟩) hHeld ?_
      rotate_left
      · intro w' hSw
        obtain ⟨hS0, hS1, hS2, hS3, hS4, hS5, hS6⟩ := hSw
        go_simp
        try with_reducible rfl
      try simp only [Act.put, List.setIfInBounds_toArray, List.set_cons_zero, List.set_cons_succ]
      refine wpAnyH_ready (rs := [9]) (by kernel_rfl) (by simp) ?_
      refine AllReadyH.cons (by simp only [List.getElem?_toArray, List.getElem?_cons_zero, List.getElem?_cons_succ]; exact rfl) (fun K hK => ?_) AllReadyH.nil
      refine want_true9 (by rfl) ?_
      go_wp2_with fail
      refine (KF1.out _ pI1.out).mono ?_
      rintro e p2 ⟨rfl, hb⟩
      have pI2 : Hid (Below W0.heap.size W0 p2) := pI1.out.trans (hb.mono pI1.out.size)
      skip
      go_wp2_with fail
      refine hK.out _ _ (SS.out _ pI2) (fun hHeld => ?_)
      clear hK K hb
      try simp only [Act.put, List.setIfInBounds_toArray, List.set_cons_zero, List.set_cons_succ]
      refine wpAnyH_take (i := 12) (v := ?_) (by simp only [List.getElem?_toArray, List.getElem?_cons_zero, List.getElem?_cons_succ]; exact rfl) (by kernel_rfl) (by kernel_rfl) (by kernel_rfl) (by exact fun _ _ _ h => h) (Or.inl ⟨by rfl, ?_⟩) hHeld ?_
      rotate_left
      · intro w' hSw
        obtain ⟨hS0, hS1, hS2, hS3, hS4, hS5, hS6⟩ := hSw
        go_simp
        try with_reducible rfl
      try simp only [Act.put, List.setIfInBounds_toArray, List.set_cons_zero, List.set_cons_succ]
      refine wpAnyH_take (i := 13) (v := ?_) (by simp only [List.getElem?_toArray, List.getElem?_cons_zero, List.getElem?_cons_succ]; exact rfl) (by kernel_rfl) (by kernel_rfl) (by kernel_rfl) (by exact fun _ _ _ h => h) (Or.inl ⟨by rfl, ?_⟩) hHeld ?_
      rotate_left
      · intro w' hSw
        obtain ⟨hS0, hS1, hS2, hS3, hS4, hS5, hS6⟩ := hSw
        go_simp
        try with_reducible rfl
      try simp only [Act.put, List.setIfInBounds_toArray, List.set_cons_zero, List.set_cons_succ]
      refine wpAnyH_take (i := 14) (v := ?_) (by simp only [List.getElem?_toArray, List.getElem?_cons_zero, List.getElem?_cons_succ]; exact rfl) (by kernel_rfl) (by kernel_rfl) (by kernel_rfl) (by exact fun _ _ _ h => h) (Or.inl ⟨by rfl, ?_⟩) hHeld ?_
      rotate_left
      · intro w' hSw
        obtain ⟨hS0, hS1, hS2, hS3, hS4, hS5, hS6⟩ := hSw
        go_simp
        try with_reducible rfl
      try simp only [Act.put, List.setIfInBounds_toArray, List.set_cons_zero, List.set_cons_succ]
      refine wpAnyH_take (i := 15) (v := ?_) (by simp only [List.getElem?_toArray, List.getElem?_cons_zero, List.getElem?_cons_succ]; exact rfl) (by kernel_rfl) (by kernel_rfl) (by kernel_rfl) (by exact fun _ _ _ h => h) (Or.inl ⟨by rfl, ?_⟩) hHeld ?_
      rotate_left
      · intro w' hSw
        obtain ⟨hS0, hS1, hS2, hS3, hS4, hS5, hS6⟩ := hSw
        go_simp
        try with_reducible rfl
      try simp only [Act.put, List.setIfInBounds_toArray, List.set_cons_zero, List.set_cons_succ]
      refine wpAnyH_take (i := 16) (v := ?_) (by simp only [List.getElem?_toArray, List.getElem?_cons_zero, List.getElem?_cons_succ]; exact rfl) (by kernel_rfl) (by kernel_rfl) (by kernel_rfl) (by exact fun _ _ _ h => h) (Or.inl ⟨by rfl, ?_⟩) hHeld ?_
      rotate_left
      · intro w' hSw
        obtain ⟨hS0, hS1, hS2, hS3, hS4, hS5, hS6⟩ := hSw
        go_simp
        try with_reducible rfl
      try simp only [Act.put, List.setIfInBounds_toArray, List.set_cons_zero, List.set_cons_succ]
      refine wpAnyH_take (i := 17) (v := ?_) (by simp only [List.getElem?_toArray, List.getElem?_cons_zero, List.getElem?_cons_succ]; exact rfl) (by kernel_rfl) (by kernel_rfl) (by kernel_rfl) (by exact fun _ _ _ h => h) (Or.inl ⟨by rfl, ?_⟩) hHeld ?_
      rotate_left
      · intro w' hSw
        obtain ⟨hS0, hS1, hS2, hS3, hS4, hS5, hS6⟩ := hSw
        go_simp
        try with_reducible rfl
      try simp only [Act.put, List.setIfInBounds_toArray, List.set_cons_zero, List.set_cons_succ]
      refine wpAnyH_take (i := 18) (v := ?_) (by simp only [List.getElem?_toArray, List.getElem?_cons_zero, List.getElem?_cons_succ]; exact rfl) (by kernel_rfl) (by kernel_rfl) (by kernel_rfl) (by exact fun _ _ _ h => h) (Or.inl ⟨by rfl, ?_⟩) hHeld ?_
      rotate_left
      · intro w' hSw
        obtain ⟨hS0, hS1, hS2, hS3, hS4, hS5, hS6⟩ := hSw
        go_simp
        try with_reducible rfl
      try simp only [Act.put, List.setIfInBounds_toArray, List.set_cons_zero, List.set_cons_succ]
      refine wpAnyH_take (i := 20) (v := ?_) (by simp only [List.getElem?_toArray, List.getElem?_cons_zero, List.getElem?_cons_succ]; exact rfl) (by kernel_rfl) (by kernel_rfl) (by kernel_rfl) (by exact fun _ _ _ h => h) (Or.inl ⟨by rfl, ?_⟩) hHeld ?_
      rotate_left
      · intro w' hSw
        obtain ⟨hS0, hS1, hS2, hS3, hS4, hS5, hS6⟩ := hSw
        go_simp
        try with_reducible rfl
      try simp only [Act.put, List.setIfInBounds_toArray, List.set_cons_zero, List.set_cons_succ]
      refine wpAnyH_take (i := 21) (v := ?_) (by simp only [List.getElem?_toArray, List.getElem?_cons_zero, List.getElem?_cons_succ]; exact rfl) (by kernel_rfl) (by kernel_rfl) (by kernel_rfl) (by exact fun _ _ _ h => h) (Or.inl ⟨by rfl, ?_⟩) hHeld ?_
      rotate_left
      · intro w' hSw
        obtain ⟨hS0, hS1, hS2, hS3, hS4, hS5, hS6⟩ := hSw
        go_simp
        try with_reducible rfl
      try simp only [Act.put, List.setIfInBounds_toArray, List.set_cons_zero, List.set_cons_succ]
      refine wpAnyH_ready (rs := [19]) (by kernel_rfl) (by simp) ?_
      refine AllReadyH.cons (by simp only [List.getElem?_toArray, List.getElem?_cons_zero, List.getElem?_cons_succ]; exact rfl) (fun K hK => ?_) AllReadyH.nil
      refine want_true9 (by rfl) ?_
      go_wp2_with fail
      refine (KF2.out _ pI2.out).mono ?_
      rintro e p3 ⟨rfl, hb⟩
      have pI3 : Hid (Below W0.heap.size W0 p3) := pI2.out.trans (hb.mono pI2.out.size)
      skip
      go_wp2_with fail
      refine hK.out _ _ (SS.out _ pI3) (fun hHeld => ?_)
      clear hK K hb
      try simp only [Act.put, List.setIfInBounds_toArray, List.set_cons_zero, List.set_cons_succ]
      refine wpAnyH_take (i := 22) (v := ?_) (by simp only [List.getElem?_toArray, List.getElem?_cons_zero, List.getElem?_cons_succ]; exact rfl) (by kernel_rfl) (by kernel_rfl) (by kernel_rfl) (by exact fun _ _ _ h => h) (Or.inl ⟨by rfl, ?_⟩) hHeld ?_
      rotate_left
      · intro w' hSw
        obtain ⟨hS0, hS1, hS2, hS3, hS4, hS5, hS6⟩ := hSw
        go_simp
        try with_reducible rfl
      try simp only [Act.put, List.setIfInBounds_toArray, List.set_cons_zero, List.set_cons_succ]
      refine wpAnyH_take (i := 23) (v := ?_) (by simp only [List.getElem?_toArray, List.getElem?_cons_zero, List.getElem?_cons_succ]; exact rfl) (by kernel_rfl) (by kernel_rfl) (by kernel_rfl) (by exact fun _ _ _ h => h) (Or.inl ⟨by rfl, ?_⟩) hHeld ?_
      rotate_left
      · intro w' hSw
        obtain ⟨hS0, hS1, hS2, hS3, hS4, hS5, hS6⟩ := hSw
        go_simp
        try with_reducible rfl
      try simp only [Act.put, List.setIfInBounds_toArray, List.set_cons_zero, List.set_cons_succ]
      refine wpAnyH_take (i := 24) (v := ?_) (by simp only [List.getElem?_toArray, List.getElem?_cons_zero, List.getElem?_cons_succ]; exact rfl) (by kernel_rfl) (by kernel_rfl) (by kernel_rfl) (by exact fun _ _ _ h => h) (Or.inl ⟨by rfl, ?_⟩) hHeld ?_
      rotate_left
      · intro w' hSw
        obtain ⟨hS0, hS1, hS2, hS3, hS4, hS5, hS6⟩ := hSw
        go_simp
        try with_reducible rfl
      try simp only [Act.put, List.setIfInBounds_toArray, List.set_cons_zero, List.set_cons_succ]
      refine wpAnyH_take (i := 25) (v := ?_) (by simp only [List.getElem?_toArray, List.getElem?_cons_zero, List.getElem?_cons_succ]; exact rfl) (by kernel_rfl) (by kernel_rfl) (by kernel_rfl) (by exact fun _ _ _ h => h) (Or.inl ⟨by rfl, ?_⟩) hHeld ?_
      rotate_left
      · intro w' hSw
        obtain ⟨hS0, hS1, hS2, hS3, hS4, hS5, hS6⟩ := hSw
        go_simp
        try with_reducible rfl
      try simp only [Act.put, List.setIfInBounds_toArray, List.set_cons_zero, List.set_cons_succ]
      refine wpAnyH_take (i := 26) (v := ?_) (by simp only [List.getElem?_toArray, List.getElem?_cons_zero, List.getElem?_cons_succ]; exact rfl) (by kernel_rfl) (by kernel_rfl) (by kernel_rfl) (by exact fun _ _ _ h => h) (Or.inl ⟨by rfl, ?_⟩) hHeld ?_
      rotate_left
      · intro w' hSw
        obtain ⟨hS0, hS1, hS2, hS3, hS4, hS5, hS6⟩ := hSw
        go_simp
        try with_reducible rfl
      try simp only [Act.put, List.setIfInBounds_toArray, List.set_cons_zero, List.set_cons_succ]
      refine wpAnyH_take (i := 27) (v := ?_) (by simp only [List.getElem?_toArray, List.getElem?_cons_zero, List.getElem?_cons_succ]; exact rfl) (by kernel_rfl) (by kernel_rfl) (by kernel_rfl) (by exact fun _ _ _ h => h) (Or.inl ⟨by rfl, ?_⟩) hHeld ?_
      rotate_left
      · intro w' hSw
        obtain ⟨hS0, hS1, hS2, hS3, hS4, hS5, hS6⟩ := hSw
        go_simp
        try with_reducible rfl
      try simp only [Act.put, List.setIfInBounds_toArray, List.set_cons_zero, List.set_cons_succ]
      refine wpAnyH_take (i := 28) (v := undef) (by simp only [List.getElem?_toArray, List.getElem?_cons_zero, List.getElem?_cons_succ]; exact rfl) (by kernel_rfl) (by kernel_rfl) (by kernel_rfl) (by exact fun _ _ _ h => h) (Or.inr ⟨by rfl, rfl⟩) hHeld ?_
      try simp only [Act.put, List.setIfInBounds_toArray, List.set_cons_zero, List.set_cons_succ]
      refine wpAnyH_take (i := 29) (v := undef) (by simp only [List.getElem?_toArray, List.getElem?_cons_zero, List.getElem?_cons_succ]; exact rfl) (by kernel_rfl) (by kernel_rfl) (by kernel_rfl) (by exact fun _ _ _ h => h) (Or.inr ⟨by rfl, rfl⟩) hHeld ?_
      try simp only [Act.put, List.setIfInBounds_toArray, List.set_cons_zero, List.set_cons_succ]
      refine wpAnyH_take (i := 30) (v := undef) (by simp only [List.getElem?_toArray, List.getElem?_cons_zero, List.getElem?_cons_succ]; exact rfl) (by kernel_rfl) (by kernel_rfl) (by kernel_rfl) (by exact fun _ _ _ h => h) (Or.inr ⟨by rfl, rfl⟩) hHeld ?_
      try simp only [Act.put, List.setIfInBounds_toArray, List.set_cons_zero, List.set_cons_succ]
      refine wpAnyH_take (i := 31) (v := undef) (by simp only [List.getElem?_toArray, List.getElem?_cons_zero, List.getElem?_cons_succ]; exact rfl) (by kernel_rfl) (by kernel_rfl) (by kernel_rfl) (by exact fun _ _ _ h => h) (Or.inr ⟨by rfl, rfl⟩) hHeld ?_
      try simp only [Act.put, List.setIfInBounds_toArray, List.set_cons_zero, List.set_cons_succ]
      refine wpAnyH_take (i := 32) (v := undef) (by simp only [List.getElem?_toArray, List.getElem?_cons_zero, List.getElem?_cons_succ]; exact rfl) (by kernel_rfl) (by kernel_rfl) (by kernel_rfl) (by exact fun _ _ _ h => h) (Or.inr ⟨by rfl, rfl⟩) hHeld ?_
      try simp only [Act.put, List.setIfInBounds_toArray, List.set_cons_zero, List.set_cons_succ]
      refine wpAnyH_take (i := 33) (v := undef) (by simp only [List.getElem?_toArray, List.getElem?_cons_zero, List.getElem?_cons_succ]; exact rfl) (by kernel_rfl) (by kernel_rfl) (by kernel_rfl) (by exact fun _ _ _ h => h) (Or.inr ⟨by rfl, rfl⟩) hHeld ?_
      try simp only [Act.put, List.setIfInBounds_toArray, List.set_cons_zero, List.set_cons_succ]
      refine wpAnyH_take (i := 34) (v := undef) (by simp only [List.getElem?_toArray, List.getElem?_cons_zero, List.getElem?_cons_succ]; exact rfl) (by kernel_rfl) (by kernel_rfl) (by kernel_rfl) (by exact fun _ _ _ h => h) (Or.inr ⟨by rfl, rfl⟩) hHeld ?_
      try simp only [Act.put, List.setIfInBounds_toArray, List.set_cons_zero, List.set_cons_succ]
      refine wpAnyH_take (i := 35) (v := undef) (by simp only [List.getElem?_toArray, List.getElem?_cons_zero, List.getElem?_cons_succ]; exact rfl) (by kernel_rfl) (by kernel_rfl) (by kernel_rfl) (by exact fun _ _ _ h => h) (Or.inr ⟨by rfl, rfl⟩) hHeld ?_
      try simp only [Act.put, List.setIfInBounds_toArray, List.set_cons_zero, List.set_cons_succ]
      refine wpAnyH_take (i := 36) (v := ?_) (by simp only [List.getElem?_toArray, List.getElem?_cons_zero, List.getElem?_cons_succ]; exact rfl) (by kernel_rfl) (by kernel_rfl) (by kernel_rfl) (by exact fun _ _ _ h => h) (Or.inl ⟨by rfl, ?_⟩) hHeld ?_
      rotate_left
      · intro w' hSw
        obtain ⟨hS0, hS1, hS2, hS3, hS4, hS5, hS6⟩ := hSw
        go_simp
        try with_reducible rfl
      try simp only [Act.put, List.setIfInBounds_toArray, List.set_cons_zero, List.set_cons_succ]
      refine wpAnyH_take (i := 37) (v := ?_) (by simp only [List.getElem?_toArray, List.getElem?_cons_zero, List.getElem?_cons_succ]; exact rfl) (by kernel_rfl) (by kernel_rfl) (by kernel_rfl) (by exact fun _ _ _ h => h) (Or.inl ⟨by rfl, ?_⟩) hHeld ?_
      rotate_left
      · intro w' hSw
        obtain ⟨hS0, hS1, hS2, hS3, hS4, hS5, hS6⟩ := hSw
        go_simp
        try with_reducible rfl
      try simp only [Act.put, List.setIfInBounds_toArray, List.set_cons_zero, List.set_cons_succ]
      refine wpAnyH_take (i := 38) (v := ?_) (by simp only [List.getElem?_toArray, List.getElem?_cons_zero, List.getElem?_cons_succ]; exact rfl) (by kernel_rfl) (by kernel_rfl) (by kernel_rfl) (by exact fun _ _ _ h => h) (Or.inl ⟨by rfl, ?_⟩) hHeld ?_
      rotate_left
      · intro w' hSw
        obtain ⟨hS0, hS1, hS2, hS3, hS4, hS5, hS6⟩ := hSw
        go_simp
        try with_reducible rfl
      try simp only [Act.put, List.setIfInBounds_toArray, List.set_cons_zero, List.set_cons_succ]
      refine wpAnyH_take (i := 39) (v := ?_) (by simp only [List.getElem?_toArray, List.getElem?_cons_zero, List.getElem?_cons_succ]; exact rfl) (by kernel_rfl) (by kernel_rfl) (by kernel_rfl) (by exact fun _ _ _ h => h) (Or.inl ⟨by rfl, ?_⟩) hHeld ?_
      rotate_left
      · intro w' hSw
        obtain ⟨hS0, hS1, hS2, hS3, hS4, hS5, hS6⟩ := hSw
        go_simp
        try with_reducible rfl
      try simp only [Act.put, List.setIfInBounds_toArray, List.set_cons_zero, List.set_cons_succ]
      refine wpAnyH_take (i := 40) (v := ?_) (by simp only [List.getElem?_toArray, List.getElem?_cons_zero, List.getElem?_cons_succ]; exact rfl) (by kernel_rfl) (by kernel_rfl) (by kernel_rfl) (by exact fun _ _ _ h => h) (Or.inl ⟨by rfl, ?_⟩) hHeld ?_
      rotate_left
      · intro w' hSw
        obtain ⟨hS0, hS1, hS2, hS3, hS4, hS5, hS6⟩ := hSw
        go_simp
        try with_reducible rfl
      try simp only [Act.put, List.setIfInBounds_toArray, List.set_cons_zero, List.set_cons_succ]
      refine wpAnyH_take (i := 41) (v := ?_) (by simp only [List.getElem?_toArray, List.getElem?_cons_zero, List.getElem?_cons_succ]; exact rfl) (by kernel_rfl) (by kernel_rfl) (by kernel_rfl) (by exact fun _ _ _ h => h) (Or.inl ⟨by rfl, ?_⟩) hHeld ?_
      rotate_left
      · intro w' hSw
        obtain ⟨hS0, hS1, hS2, hS3, hS4, hS5, hS6⟩ := hSw
        go_simp
        try with_reducible rfl
      try simp only [Act.put, List.setIfInBounds_toArray, List.set_cons_zero, List.set_cons_succ]
      refine wpAnyH_take (i := 42) (v := ?_) (by simp only [List.getElem?_toArray, List.getElem?_cons_zero, List.getElem?_cons_succ]; exact rfl) (by kernel_rfl) (by kernel_rfl) (by kernel_rfl) (by exact fun _ _ _ h => h) (Or.inl ⟨by rfl, ?_⟩) hHeld ?_
      rotate_left
      · intro w' hSw
        obtain ⟨hS0, hS1, hS2, hS3, hS4, hS5, hS6⟩ := hSw
        go_simp
        try with_reducible rfl
      try simp only [Act.put, List.setIfInBounds_toArray, List.set_cons_zero, List.set_cons_succ]
      refine wpAnyH_take (i := 43) (v := ?_) (by simp only [List.getElem?_toArray, List.getElem?_cons_zero, List.getElem?_cons_succ]; exact rfl) (by kernel_rfl) (by kernel_rfl) (by kernel_rfl) (by exact fun _ _ _ h => h) (Or.inl ⟨by rfl, ?_⟩) hHeld ?_
      rotate_left
      · intro w' hSw
        obtain ⟨hS0, hS1, hS2, hS3, hS4, hS5, hS6⟩ := hSw
        go_simp
        try with_reducible rfl
      try simp only [Act.put, List.setIfInBounds_toArray, List.set_cons_zero, List.set_cons_succ]
      refine wpAnyH_take (i := 44) (v := ?_) (by simp only [List.getElem?_toArray, List.getElem?_cons_zero, List.getElem?_cons_succ]; exact rfl) (by kernel_rfl) (by kernel_rfl) (by kernel_rfl) (by exact fun _ _ _ h => h) (Or.inl ⟨by rfl, ?_⟩) hHeld ?_
      rotate_left
      · intro w' hSw
        obtain ⟨hS0, hS1, hS2, hS3, hS4, hS5, hS6⟩ := hSw
        go_simp
        try with_reducible rfl
      try simp only [Act.put, List.setIfInBounds_toArray, List.set_cons_zero, List.set_cons_succ]
      refine wpAnyH_ready (rs := [45]) (by kernel_rfl) (by simp) ?_
      refine AllReadyH.cons (by simp only [List.getElem?_toArray, List.getElem?_cons_zero, List.getElem?_cons_succ]; exact rfl) (fun K hK => ?_) AllReadyH.nil
      refine want_true9 (by rfl) ?_
      go_wp2_with fail
      refine (KL.out _ pI3.out).mono ?_
      rintro e p4 ⟨a9, n9, c9, rfl, p9, hb⟩
      have pI4 : Hid (Below W0.heap.size W0 p4) := pI3.out.trans (hb.mono pI3.out.size)
      have K9 := Lib.hid (KSL.out _ a9 n9 c9 pI4.out p9.le)
      go_wp2_with fail
      refine hK.out _ _ (SS.out _ pI4) (fun hHeld => ?_)
      clear hK K hb
      try simp only [Act.put, List.setIfInBounds_toArray, List.set_cons_zero, List.set_cons_succ]
      refine wpAnyH_take (i := 46) (v := ?_) (by simp only [List.getElem?_toArray, List.getElem?_cons_zero, List.getElem?_cons_succ]; exact rfl) (by kernel_rfl) (by kernel_rfl) (by kernel_rfl) (by exact fun _ _ _ h => h) (Or.inl ⟨by rfl, ?_⟩) hHeld ?_
      rotate_left
      · intro w' hSw
        obtain ⟨hS0, hS1, hS2, hS3, hS4, hS5, hS6⟩ := hSw
        go_simp
        try with_reducible rfl
      try simp only [Act.put, List.setIfInBounds_toArray, List.set_cons_zero, List.set_cons_succ]
      refine wpAnyH_ready (rs := [47]) (by kernel_rfl) (by simp) ?_
      refine AllReadyH.cons (by simp only [List.getElem?_toArray, List.getElem?_cons_zero, List.getElem?_cons_succ]; exact rfl) (fun K hK => ?_) AllReadyH.nil
      refine want_true9 (by rfl) ?_
      go_wp2_with fail
      refine (K9.out).mono ?_
      rintro e p5 ⟨rfl, hb⟩
      have pI5 : Hid (Below W0.heap.size W0 p5) := pI4.out.trans (hb.mono pI4.out.size)
      skip
      go_wp2_with fail
      refine hK.out _ _ (SS.out _ pI5) (fun hHeld => ?_)
      clear hK K hb
      try simp only [Act.put, List.setIfInBounds_toArray, List.set_cons_zero, List.set_cons_succ]
      refine wpAnyH_take (i := 48) (v := ?_) (by simp only [List.getElem?_toArray, List.getElem?_cons_zero, List.getElem?_cons_succ]; exact rfl) (by kernel_rfl) (by kernel_rfl) (by kernel_rfl) (by exact fun _ _ _ h => h) (Or.inl ⟨by rfl, ?_⟩) hHeld ?_
      rotate_left
      · intro w' hSw
        obtain ⟨hS0, hS1, hS2, hS3, hS4, hS5, hS6⟩ := hSw
        go_simp
        try with_reducible rfl
      try simp only [Act.put, List.setIfInBounds_toArray, List.set_cons_zero, List.set_cons_succ]
      refine wpAnyH_take (i := 49) (v := ?_) (by simp only [List.getElem?_toArray, List.getElem?_cons_zero, List.getElem?_cons_succ]; exact rfl) (by kernel_rfl) (by kernel_rfl) (by kernel_rfl) (by exact fun _ _ _ h => h) (Or.inl ⟨by rfl, ?_⟩) hHeld ?_
      rotate_left
      · intro w' hSw
        obtain ⟨hS0, hS1, hS2, hS3, hS4, hS5, hS6⟩ := hSw
        go_simp
        try with_reducible rfl
      try simp only [Act.put, List.setIfInBounds_toArray, List.set_cons_zero, List.set_cons_succ]
      refine wpAnyH_done (by kernel_rfl) ?_ _
      go_wp2
      go_ret
      exact ⟨rfl, B0.out.trans (pI5.out.mono B0.out.size)⟩
    · by_cases he : t = 99940000
      · subst he
        have KF2 := KF0 100000000 (by omega) (by omega)
        clear KF0 lv lc hcl hx hm
        obtain ⟨x0, x1, y0, y1, z0, z1, _⟩ := SS.out u7 uI7
        go_wp2_with fail
        clear x0 x1 y0 y1 z0 z1
        have pI0 : Hid (Below W0.heap.size W0 u7.drew) := uI7.out.drew
        refine wp_region_held_drew (S := (fun W => W.cell? ⟨gl, 0, none⟩ = some (.int .i64 0) ∧ W.cell? ⟨gl, 1, none⟩ = some (.slice al nl kl) ∧ W.cell? ⟨gf, 0, none⟩ = some (.int .i64 Fc) ∧ W.cell? ⟨gf, 1, none⟩ = some (.int .i64 Fv) ∧ W.cell? ⟨ga, 0, none⟩ = some (.int .i64 Ac) ∧ W.cell? ⟨ga, 1, none⟩ = some (.slice aa na ka) ∧ Hid (Below W0.heap.size W0 W))) (by kernel_rfl) (SS.out _ pI0) (fun hHeld => ?_)
        refine wpAnyH_take (i := 0) (v := ?_) (by simp only [List.getElem?_toArray, List.getElem?_cons_zero]; exact rfl) (by kernel_rfl) (by kernel_rfl) (by kernel_rfl) (by exact fun _ _ _ h => h) (Or.inl ⟨by rfl, ?_⟩) hHeld ?_
        rotate_left
        · intro w' hSw
          obtain ⟨hS0, hS1, hS2, hS3, hS4, hS5, hS6⟩ := hSw
          go_simp
          try with_reducible rfl
        try simp only [Act.put, List.setIfInBounds_toArray, List.set_cons_zero, List.set_cons_succ]
        refine wpAnyH_take (i := 1) (v := ?_) (by simp only [List.getElem?_toArray, List.getElem?_cons_zero, List.getElem?_cons_succ]; exact rfl) (by kernel_rfl) (by kernel_rfl) (by kernel_rfl) (by exact fun _ _ _ h => h) (Or.inl ⟨by rfl, ?_⟩) hHeld ?_
        rotate_left
        · intro w' hSw
          obtain ⟨hS0, hS1, hS2, hS3, hS4, hS5, hS6⟩ := hSw
          go_simp
          try with_reducible rfl
        try simp only [Act.put, List.setIfInBounds_toArray, List.set_cons_zero, List.set_cons_succ]
        refine wpAnyH_ready (rs := [2]) (by kernel_rfl) (by simp) ?_
        refine AllReadyH.cons (by simp only [List.getElem?_toArray, List.getElem?_cons_zero, List.getElem?_cons_succ]; exact rfl) (fun K hK => ?_) AllReadyH.nil
        refine want_none9 (by exact rfl) ?_
        go_wp2_with fail
        refine (KCL.out _ pI0.out).mono ?_
        rintro e p1 ⟨rfl, hb⟩
        have pI1 : Hid (Below W0.heap.size W0 p1) := pI0.out.trans (hb.mono pI0.out.size)
        skip
        go_wp2_with fail
        refine hK.out _ _ (SS.out _ pI1) (fun hHeld => ?_)
        clear hK K hb
        try simp only [Act.put, List.setIfInBounds_toArray, List.set_cons_zero, List.set_cons_succ]
        refine wpAnyH_take (i := 3) (v := ?_) (by simp only [List.getElem?_toArray, List.getElem?_cons_zero, List.getElem?_cons_succ]; exact rfl) (by kernel_rfl) (by kernel_rfl) (by kernel_rfl) (by exact fun _ _ _ h => h) (Or.inl ⟨by rfl, ?_⟩) hHeld ?_
        rotate_left
        · intro w' hSw
          obtain ⟨hS0, hS1, hS2, hS3, hS4, hS5, hS6⟩ := hSw
          go_simp
          try with_reducible rfl
        try simp only [Act.put, List.setIfInBounds_toArray, List.set_cons_zero, List.set_cons_succ]
        refine wpAnyH_take (i := 4) (v := ?_) (by simp only [List.getElem?_toArray, List.getElem?_cons_zero, List.getElem?_cons_succ]; exact rfl) (by kernel_rfl) (by kernel_rfl) (by kernel_rfl) (by exact fun _ _ _ h => h) (Or.inl ⟨by rfl, ?_⟩) hHeld ?_
        rotate_left
        · intro w' hSw
          obtain ⟨hS0, hS1, hS2, hS3, hS4, hS5, hS6⟩ := hSw
          go_simp
          try with_reducible rfl
        try simp only [Act.put, List.setIfInBounds_toArray, List.set_cons_zero, List.set_cons_succ]
        refine wpAnyH_take (i := 5) (v := ?_) (by simp only [List.getElem?_toArray, List.getElem?_cons_zero, List.getElem?_cons_succ]; exact rfl) (by kernel_rfl) (by kernel_rfl) (by kernel_rfl) (by exact fun _ _ _ h => h) (Or.inl ⟨by rfl, ?_⟩) hHeld ?_
        rotate_left
        · intro w' hSw
          obtain ⟨hS0, hS1, hS2, hS3, hS4, hS5, hS6⟩ := hSw
          go_simp
          try with_reducible rfl
        try simp only [Act.put, List.setIfInBounds_toArray, List.set_cons_zero, List.set_cons_succ]
        refine wpAnyH_take (i := 6) (v := ?_) (by simp only [List.getElem?_toArray, List.getElem?_cons_zero, List.getElem?_cons_succ]; exact rfl) (by kernel_rfl) (by kernel_rfl) (by kernel_rfl) (by exact fun _ _ _ h => h) (Or.inl ⟨by rfl, ?_⟩) hHeld ?_
        rotate_left
        · intro w' hSw
          obtain ⟨hS0, hS1, hS2, hS3, hS4, hS5, hS6⟩ := hSw
          go_simp
          try with_reducible rfl
        try simp only [Act.put, List.setIfInBounds_toArray, List.set_cons_zero, List.set_cons_succ]
        refine wpAnyH_take (i := 7) (v := ?_) (by simp only [List.getElem?_toArray, List.getElem?_cons_zero, List.getElem?_cons_succ]; exact rfl) (by kernel_rfl) (by kernel_rfl) (by kernel_rfl) (by exact fun _ _ _ h => h) (Or.inl ⟨by rfl, ?_⟩) hHeld ?_
        rotate_left
        · intro w' hSw
          obtain ⟨hS0, hS1, hS2, hS3, hS4, hS5, hS6⟩ := hSw
          go_simp
          try with_reducible rfl
        try simp only [Act.put, List.setIfInBounds_toArray, List.set_cons_zero, List.set_cons_succ]
        refine wpAnyH_take (i := 8) (v := ?_) (by simp only [List.getElem?_toArray, List.getElem?_cons_zero, List.getElem?_cons_succ]; exact rfl) (by kernel_rfl) (by kernel_rfl) (by kernel_rfl) (by exact fun _ _ _ h => h) (Or.inl ⟨by rfl, ?_⟩) hHeld ?_
        rotate_left
        · intro w' hSw
          obtain ⟨hS0, hS1, hS2, hS3, hS4, hS5, hS6⟩ := hSw
          go_simp
          try with_reducible rfl
        try simp only [Act.put, List.setIfInBounds_toArray, List.set_cons_zero, List.set_cons_succ]
        refine wpAnyH_take (i := 10) (v := ?_) (by simp only [List.getElem?_toArray, List.getElem?_cons_zero, List.getElem?_cons_succ]; exact rfl) (by kernel_rfl) (by kernel_rfl) (by kernel_rfl) (by exact fun _ _ _ h => h) (Or.inl ⟨by rfl, ?_⟩) hHeld ?_
        rotate_left
        · intro w' hSw
          obtain ⟨hS0, hS1, hS2, hS3, hS4, hS5, hS6⟩ := hSw
          go_simp
          try with_reducible rfl
        try simp only [Act.put, List.setIfInBounds_toArray, List.set_cons_zero, List.set_cons_succ]
        refine wpAnyH_take (i := 11) (v := ?_) (by simp only [List.getElem?_toArray, List.getElem?_cons_zero, List.getElem?_cons_succ]; exact rfl) (by kernel_rfl) (by kernel_rfl) (by kernel_rfl) (by exact fun _ _ _ h => h) (Or.inl ⟨by rfl, ?_⟩) hHeld ?_
        rotate_left
        · intro w' hSw
          obtain ⟨hS0, hS1, hS2, hS3, hS4, hS5, hS6⟩ := hSw
          go_simp
          try with_reducible rfl
        try simp only [Act.put, List.setIfInBounds_toArray, List.set_cons_zero, List.set_cons_succ]
        refine wpAnyH_ready (rs := [9]) (by kernel_rfl) (by simp) ?_
        refine AllReadyH.cons (by simp only [List.getElem?_toArray, List.getElem?_cons_zero, List.getElem?_cons_succ]; exact rfl) (fun K hK => ?_) AllReadyH.nil
        refine want_true9 (by rfl) ?_
        go_wp2_with fail
        refine (KF1.out _ pI1.out).mono ?_
        rintro e p2 ⟨rfl, hb⟩
        have pI2 : Hid (Below W0.heap.size W0 p2) := pI1.out.trans (hb.mono pI1.out.size)
        skip
        go_wp2_with fail
        refine hK.out _ _ (SS.out _ pI2) (fun hHeld => ?_)
        clear hK K hb
        try simp only [Act.put, List.setIfInBounds_toArray, List.set_cons_zero, List.set_cons_succ]
        refine wpAnyH_take (i := 12) (v := ?_) (by simp only [List.getElem?_toArray, List.getElem?_cons_zero, List.getElem?_cons_succ]; exact rfl) (by kernel_rfl) (by kernel_rfl) (by kernel_rfl) (by exact fun _ _ _ h => h) (Or.inl ⟨by rfl, ?_⟩) hHeld ?_
        rotate_left
        · intro w' hSw
          obtain ⟨hS0, hS1, hS2, hS3, hS4, hS5, hS6⟩ := hSw
          go_simp
          try with_reducible rfl
        try simp only [Act.put, List.setIfInBounds_toArray, List.set_cons_zero, List.set_cons_succ]
        refine wpAnyH_take (i := 13) (v := ?_) (by simp only [List.getElem?_toArray, List.getElem?_cons_zero, List.getElem?_cons_succ]; exact rfl) (by kernel_rfl) (by kernel_rfl) (by kernel_rfl) (by exact fun _ _ _ h => h) (Or.inl ⟨by rfl, ?_⟩) hHeld ?_
        rotate_left
        · intro w' hSw
          obtain ⟨hS0, hS1, hS2, hS3, hS4, hS5, hS6⟩ := hSw
          go_simp
          try with_reducible rfl
        try simp only [Act.put, List.setIfInBounds_toArray, List.set_cons_zero, List.set_cons_succ]
        refine wpAnyH_take (i := 14) (v := ?_) (by simp only [List.getElem?_toArray, List.getElem?_cons_zero, List.getElem?_cons_succ]; exact rfl) (by kernel_rfl) (by kernel_rfl) (by kernel_rfl) (by exact fun _ _ _ h => h) (Or.inl ⟨by rfl, ?_⟩) hHeld ?_
        rotate_left
        · intro w' hSw
          obtain ⟨hS0, hS1, hS2, hS3, hS4, hS5, hS6⟩ := hSw
          go_simp
          try with_reducible rfl
        try simp only [Act.put, List.setIfInBounds_toArray, List.set_cons_zero, List.set_cons_succ]
        refine wpAnyH_take (i := 15) (v := ?_) (by simp only [List.getElem?_toArray, List.getElem?_cons_zero, List.getElem?_cons_succ]; exact rfl) (by kernel_rfl) (by kernel_rfl) (by kernel_rfl) (by exact fun _ _ _ h => h) (Or.inl ⟨by rfl, ?_⟩) hHeld ?_
        rotate_left
        · intro w' hSw
          obtain ⟨hS0, hS1, hS2, hS3, hS4, hS5, hS6⟩ := hSw
          go_simp
          try with_reducible rfl
        try simp only [Act.put, List.setIfInBounds_toArray, List.set_cons_zero, List.set_cons_succ]
        refine wpAnyH_take (i := 16) (v := ?_) (by simp only [List.getElem?_toArray, List.getElem?_cons_zero, List.getElem?_cons_succ]; exact rfl) (by kernel_rfl) (by kernel_rfl) (by kernel_rfl) (by exact fun _ _ _ h => h) (Or.inl ⟨by rfl, ?_⟩) hHeld ?_
        rotate_left
        · intro w' hSw
          obtain ⟨hS0, hS1, hS2, hS3, hS4, hS5, hS6⟩ := hSw
          go_simp
          try with_reducible rfl
        try simp only [Act.put, List.setIfInBounds_toArray, List.set_cons_zero, List.set_cons_succ]
        refine wpAnyH_take (i := 17) (v := ?_) (by simp only [List.getElem?_toArray, List.getElem?_cons_zero, List.getElem?_cons_succ]; exact rfl) (by kernel_rfl) (by kernel_rfl) (by kernel_rfl) (by exact fun _ _ _ h => h) (Or.inl ⟨by rfl, ?_⟩) hHeld ?_
        rotate_left
        · intro w' hSw
          obtain ⟨hS0, hS1, hS2, hS3, hS4, hS5, hS6⟩ := hSw
          go_simp
          try with_reducible rfl
        try simp only [Act.put, List.setIfInBounds_toArray, List.set_cons_zero, List.set_cons_succ]
        refine wpAnyH_take (i := 18) (v := ?_) (by simp only [List.getElem?_toArray, List.getElem?_cons_zero, List.getElem?_cons_succ]; exact rfl) (by kernel_rfl) (by kernel_rfl) (by kernel_rfl) (by exact fun _ _ _ h => h) (Or.inl ⟨by rfl, ?_⟩) hHeld ?_
        rotate_left
        · intro w' hSw
          obtain ⟨hS0, hS1, hS2, hS3, hS4, hS5, hS6⟩ := hSw
          go_simp
          try with_reducible rfl
        try simp only [Act.put, List.setIfInBounds_toArray, List.set_cons_zero, List.set_cons_succ]
        refine wpAnyH_take (i := 20) (v := ?_) (by simp only [List.getElem?_toArray, List.getElem?_cons_zero, List.getElem?_cons_succ]; exact rfl) (by kernel_rfl) (by kernel_rfl) (by kernel_rfl) (by exact fun _ _ _ h => h) (Or.inl ⟨by rfl, ?_⟩) hHeld ?_
        rotate_left
        · intro w' hSw
          obtain ⟨hS0, hS1, hS2, hS3, hS4, hS5, hS6⟩ := hSw
          go_simp
          try with_reducible rfl
        try simp only [Act.put, List.setIfInBounds_toArray, List.set_cons_zero, List.set_cons_succ]
        refine wpAnyH_take (i := 21) (v := ?_) (by simp only [List.getElem?_toArray, List.getElem?_cons_zero, List.getElem?_cons_succ]; exact rfl) (by kernel_rfl) (by kernel_rfl) (by kernel_rfl) (by exact fun _ _ _ h => h) (Or.inl ⟨by rfl, ?_⟩) hHeld ?_
        rotate_left
        · intro w' hSw
          obtain ⟨hS0, hS1, hS2, hS3, hS4, hS5, hS6⟩ := hSw
          go_simp
          try with_reducible rfl
        try simp only [Act.put, List.setIfInBounds_toArray, List.set_cons_zero, List.set_cons_succ]
        refine wpAnyH_ready (rs := [19]) (by kernel_rfl) (by simp) ?_
        refine AllReadyH.cons (by simp only [List.getElem?_toArray, List.getElem?_cons_zero, List.getElem?_cons_succ]; exact rfl) (fun K hK => ?_) AllReadyH.nil
        refine want_true9 (by rfl) ?_
        go_wp2_with fail
        refine (KF2.out _ pI2.out).mono ?_
        rintro e p3 ⟨rfl, hb⟩
        have pI3 : Hid (Below W0.heap.size W0 p3) := pI2.out.trans (hb.mono pI2.out.size)
        skip
        go_wp2_with fail
        refine hK.out _ _ (SS.out _ pI3) (fun hHeld => ?_)
        clear hK K hb
        try simp only [Act.put, List.setIfInBounds_toArray, List.set_cons_zero, List.set_cons_succ]
        refine wpAnyH_take (i := 22) (v := ?_) (by simp only [List.getElem?_toArray, List.getElem?_cons_zero, List.getElem?_cons_succ]; exact rfl) (by kernel_rfl) (by kernel_rfl) (by kernel_rfl) (by exact fun _ _ _ h => h) (Or.inl ⟨by rfl, ?_⟩) hHeld ?_
        rotate_left
        · intro w' hSw
          obtain ⟨hS0, hS1, hS2, hS3, hS4, hS5, hS6⟩ := hSw
          go_simp
          try with_reducible rfl
        try simp only [Act.put, List.setIfInBounds_toArray, List.set_cons_zero, List.set_cons_succ]
        refine wpAnyH_take (i := 23) (v := ?_) (by simp only [List.getElem?_toArray, List.getElem?_cons_zero, List.getElem?_cons_succ]; exact rfl) (by kernel_rfl) (by kernel_rfl) (by kernel_rfl) (by exact fun _ _ _ h => h) (Or.inl ⟨by rfl, ?_⟩) hHeld ?_
        rotate_left
        · intro w' hSw
          obtain ⟨hS0, hS1, hS2, hS3, hS4, hS5, hS6⟩ := hSw
          go_simp
          try with_reducible rfl
        try simp only [Act.put, List.setIfInBounds_toArray, List.set_cons_zero, List.set_cons_succ]
        refine wpAnyH_take (i := 24) (v := ?_) (by simp only [List.getElem?_toArray, List.getElem?_cons_zero, List.getElem?_cons_succ]; exact rfl) (by kernel_rfl) (by kernel_rfl) (by kernel_rfl) (by exact fun _ _ _ h => h) (Or.inl ⟨by rfl, ?_⟩) hHeld ?_
        rotate_left
        · intro w' hSw
          obtain ⟨hS0, hS1, hS2, hS3, hS4, hS5, hS6⟩ := hSw
          go_simp
          try with_reducible rfl
        try simp only [Act.put, List.setIfInBounds_toArray, List.set_cons_zero, List.set_cons_succ]
        refine wpAnyH_take (i := 25) (v := ?_) (by simp only [List.getElem?_toArray, List.getElem?_cons_zero, List.getElem?_cons_succ]; exact rfl) (by kernel_rfl) (by kernel_rfl) (by kernel_rfl) (by exact fun _ _ _ h => h) (Or.inl ⟨by rfl, ?_⟩) hHeld ?_
        rotate_left
        · intro w' hSw
          obtain ⟨hS0, hS1, hS2, hS3, hS4, hS5, hS6⟩ := hSw
          go_simp
          try with_reducible rfl
        try simp only [Act.put, List.setIfInBounds_toArray, List.set_cons_zero, List.set_cons_succ]
        refine wpAnyH_take (i := 26) (v := ?_) (by simp only [List.getElem?_toArray, List.getElem?_cons_zero, List.getElem?_cons_succ]; exact rfl) (by kernel_rfl) (by kernel_rfl) (by kernel_rfl) (by exact fun _ _ _ h => h) (Or.inl ⟨by rfl, ?_⟩) hHeld ?_
        rotate_left
        · intro w' hSw
          obtain ⟨hS0, hS1, hS2, hS3, hS4, hS5, hS6⟩ := hSw
          go_simp
          try with_reducible rfl
        try simp only [Act.put, List.setIfInBounds_toArray, List.set_cons_zero, List.set_cons_succ]
        refine wpAnyH_take (i := 27) (v := ?_) (by simp only [List.getElem?_toArray, List.getElem?_cons_zero, List.getElem?_cons_succ]; exact rfl) (by kernel_rfl) (by kernel_rfl) (by kernel_rfl) (by exact fun _ _ _ h => h) (Or.inl ⟨by rfl, ?_⟩) hHeld ?_
        rotate_left
        · intro w' hSw
          obtain ⟨hS0, hS1, hS2, hS3, hS4, hS5, hS6⟩ := hSw
          go_simp
          try with_reducible rfl
        try simp only [Act.put, List.setIfInBounds_toArray, List.set_cons_zero, List.set_cons_succ]
        refine wpAnyH_take (i := 28) (v := undef) (by simp only [List.getElem?_toArray, List.getElem?_cons_zero, List.getElem?_cons_succ]; exact rfl) (by kernel_rfl) (by kernel_rfl) (by kernel_rfl) (by exact fun _ _ _ h => h) (Or.inr ⟨by rfl, rfl⟩) hHeld ?_
        try simp only [Act.put, List.setIfInBounds_toArray, List.set_cons_zero, List.set_cons_succ]
        refine wpAnyH_take (i := 29) (v := undef) (by simp only [List.getElem?_toArray, List.getElem?_cons_zero, List.getElem?_cons_succ]; exact rfl) (by kernel_rfl) (by kernel_rfl) (by kernel_rfl) (by exact fun _ _ _ h => h) (Or.inr ⟨by rfl, rfl⟩) hHeld ?_
        try simp only [Act.put, List.setIfInBounds_toArray, List.set_cons_zero, List.set_cons_succ]
        refine wpAnyH_take (i := 30) (v := undef) (by simp only [List.getElem?_toArray, List.getElem?_cons_zero, List.getElem?_cons_succ]; exact rfl) (by kernel_rfl) (by kernel_rfl) (by kernel_rfl) (by exact fun _ _ _ h => h) (Or.inr ⟨by rfl, rfl⟩) hHeld ?_
        try simp only [Act.put, List.setIfInBounds_toArray, List.set_cons_zero, List.set_cons_succ]
        refine wpAnyH_take (i := 31) (v := undef) (by simp only [List.getElem?_toArray, List.getElem?_cons_zero, List.getElem?_cons_succ]; exact rfl) (by kernel_rfl) (by kernel_rfl) (by kernel_rfl) (by exact fun _ _ _ h => h) (Or.inr ⟨by rfl, rfl⟩) hHeld ?_
        try simp only [Act.put, List.setIfInBounds_toArray, List.set_cons_zero, List.set_cons_succ]
        refine wpAnyH_take (i := 32) (v := undef) (by simp only [List.getElem?_toArray, List.getElem?_cons_zero, List.getElem?_cons_succ]; exact rfl) (by kernel_rfl) (by kernel_rfl) (by kernel_rfl) (by exact fun _ _ _ h => h) (Or.inr ⟨by rfl, rfl⟩) hHeld ?_
        try simp only [Act.put, List.setIfInBounds_toArray, List.set_cons_zero, List.set_cons_succ]
        refine wpAnyH_take (i := 33) (v := undef) (by simp only [List.getElem?_toArray, List.getElem?_cons_zero, List.getElem?_cons_succ]; exact rfl) (by kernel_rfl) (by kernel_rfl) (by kernel_rfl) (by exact fun _ _ _ h => h) (Or.inr ⟨by rfl, rfl⟩) hHeld ?_
        try simp only [Act.put, List.setIfInBounds_toArray, List.set_cons_zero, List.set_cons_succ]
        refine wpAnyH_take (i := 34) (v := undef) (by simp only [List.getElem?_toArray, List.getElem?_cons_zero, List.getElem?_cons_succ]; exact rfl) (by kernel_rfl) (by kernel_rfl) (by kernel_rfl) (by exact fun _ _ _ h => h) (Or.inr ⟨by rfl, rfl⟩) hHeld ?_
        try simp only [Act.put, List.setIfInBounds_toArray, List.set_cons_zero, List.set_cons_succ]
        refine wpAnyH_take (i := 35) (v := undef) (by simp only [List.getElem?_toArray, List.getElem?_cons_zero, List.getElem?_cons_succ]; exact rfl) (by kernel_rfl) (by kernel_rfl) (by kernel_rfl) (by exact fun _ _ _ h => h) (Or.inr ⟨by rfl, rfl⟩) hHeld ?_
        try simp only [Act.put, List.setIfInBounds_toArray, List.set_cons_zero, List.set_cons_succ]
        refine wpAnyH_take (i := 36) (v := ?_) (by simp only [List.getElem?_toArray, List.getElem?_cons_zero, List.getElem?_cons_succ]; exact rfl) (by kernel_rfl) (by kernel_rfl) (by kernel_rfl) (by exact fun _ _ _ h => h) (Or.inl ⟨by rfl, ?_⟩) hHeld ?_
        rotate_left
        · intro w' hSw
          obtain ⟨hS0, hS1, hS2, hS3, hS4, hS5, hS6⟩ := hSw
          go_simp
          try with_reducible rfl
        try simp only [Act.put, List.setIfInBounds_toArray, List.set_cons_zero, List.set_cons_succ]
        refine wpAnyH_take (i := 37) (v := ?_) (by simp only [List.getElem?_toArray, List.getElem?_cons_zero, List.getElem?_cons_succ]; exact rfl) (by kernel_rfl) (by kernel_rfl) (by kernel_rfl) (by exact fun _ _ _ h => h) (Or.inl ⟨by rfl, ?_⟩) hHeld ?_
        rotate_left
        · intro w' hSw
          obtain ⟨hS0, hS1, hS2, hS3, hS4, hS5, hS6⟩ := hSw
          go_simp
          try with_reducible rfl
        try simp only [Act.put, List.setIfInBounds_toArray, List.set_cons_zero, List.set_cons_succ]
        refine wpAnyH_take (i := 38) (v := ?_) (by simp only [List.getElem?_toArray, List.getElem?_cons_zero, List.getElem?_cons_succ]; exact rfl) (by kernel_rfl) (by kernel_rfl) (by kernel_rfl) (by exact fun _ _ _ h => h) (Or.inl ⟨by rfl, ?_⟩) hHeld ?_
        rotate_left
        · intro w' hSw
          obtain ⟨hS0, hS1, hS2, hS3, hS4, hS5, hS6⟩ := hSw
          go_simp
          try with_reducible rfl
        try simp only [Act.put, List.setIfInBounds_toArray, List.set_cons_zero, List.set_cons_succ]
        refine wpAnyH_take (i := 39) (v := ?_) (by simp only [List.getElem?_toArray, List.getElem?_cons_zero, List.getElem?_cons_succ]; exact rfl) (by kernel_rfl) (by kernel_rfl) (by kernel_rfl) (by exact fun _ _ _ h => h) (Or.inl ⟨by rfl, ?_⟩) hHeld ?_
        rotate_left
        · intro w' hSw
          obtain ⟨hS0, hS1, hS2, hS3, hS4, hS5, hS6⟩ := hSw
          go_simp
          try with_reducible rfl
        try simp only [Act.put, List.setIfInBounds_toArray, List.set_cons_zero, List.set_cons_succ]
        refine wpAnyH_take (i := 40) (v := ?_) (by simp only [List.getElem?_toArray, List.getElem?_cons_zero, List.getElem?_cons_succ]; exact rfl) (by kernel_rfl) (by kernel_rfl) (by kernel_rfl) (by exact fun _ _ _ h => h) (Or.inl ⟨by rfl, ?_⟩) hHeld ?_
        rotate_left
        · intro w' hSw
          obtain ⟨hS0, hS1, hS2, hS3, hS4, hS5, hS6⟩ := hSw
          go_simp
          try with_reducible rfl
        try simp only [Act.put, List.setIfInBounds_toArray, List.set_cons_zero, List.set_cons_succ]
        refine wpAnyH_take (i := 41) (v := ?_) (by simp only [List.getElem?_toArray, List.getElem?_cons_zero, List.getElem?_cons_succ]; exact rfl) (by kernel_rfl) (by kernel_rfl) (by kernel_rfl) (by exact fun _ _ _ h => h) (Or.inl ⟨by rfl, ?_⟩) hHeld ?_
        rotate_left
        · intro w' hSw
          obtain ⟨hS0, hS1, hS2, hS3, hS4, hS5, hS6⟩ := hSw
          go_simp
          try with_reducible rfl
        try simp only [Act.put, List.setIfInBounds_toArray, List.set_cons_zero, List.set_cons_succ]
        refine wpAnyH_take (i := 42) (v := ?_) (by simp only [List.getElem?_toArray, List.getElem?_cons_zero, List.getElem?_cons_succ]; exact rfl) (by kernel_rfl) (by kernel_rfl) (by kernel_rfl) (by exact fun _ _ _ h => h) (Or.inl ⟨by rfl, ?_⟩) hHeld ?_
        rotate_left
        · intro w' hSw
          obtain ⟨hS0, hS1, hS2, hS3, hS4, hS5, hS6⟩ := hSw
          go_simp
          try with_reducible rfl
        try simp only [Act.put, List.setIfInBounds_toArray, List.set_cons_zero, List.set_cons_succ]
        refine wpAnyH_take (i := 43) (v := ?_) (by simp only [List.getElem?_toArray, List.getElem?_cons_zero, List.getElem?_cons_succ]; exact rfl) (by kernel_rfl) (by kernel_rfl) (by kernel_rfl) (by exact fun _ _ _ h => h) (Or.inl ⟨by rfl, ?_⟩) hHeld ?_
        rotate_left
        · intro w' hSw
          obtain ⟨hS0, hS1, hS2, hS3, hS4, hS5, hS6⟩ := hSw
          go_simp
          try with_reducible rfl
        try simp only [Act.put, List.setIfInBounds_toArray, List.set_cons_zero, List.set_cons_succ]
        refine wpAnyH_take (i := 44) (v := ?_) (by simp only [List.getElem?_toArray, List.getElem?_cons_zero, List.getElem?_cons_succ]; exact rfl) (by kernel_rfl) (by kernel_rfl) (by kernel_rfl) (by exact fun _ _ _ h => h) (Or.inl ⟨by rfl, ?_⟩) hHeld ?_
        rotate_left
        · intro w' hSw
          obtain ⟨hS0, hS1, hS2, hS3, hS4, hS5, hS6⟩ := hSw
          go_simp
          try with_reducible rfl
        try simp only [Act.put, List.setIfInBounds_toArray, List.set_cons_zero, List.set_cons_succ]
        refine wpAnyH_ready (rs := [45]) (by kernel_rfl) (by simp) ?_
        refine AllReadyH.cons (by simp only [List.getElem?_toArray, List.getElem?_cons_zero, List.getElem?_cons_succ]; exact rfl) (fun K hK => ?_) AllReadyH.nil
        refine want_true9 (by rfl) ?_
        go_wp2_with fail
        refine (KL.out _ pI3.out).mono ?_
        rintro e p4 ⟨a9, n9, c9, rfl, p9, hb⟩
        have pI4 : Hid (Below W0.heap.size W0 p4) := pI3.out.trans (hb.mono pI3.out.size)
        have K9 := Lib.hid (KSL.out _ a9 n9 c9 pI4.out p9.le)
        go_wp2_with fail
        refine hK.out _ _ (SS.out _ pI4) (fun hHeld => ?_)
        clear hK K hb
        try simp only [Act.put, List.setIfInBounds_toArray, List.set_cons_zero, List.set_cons_succ]
        refine wpAnyH_take (i := 46) (v := ?_) (by simp only [List.getElem?_toArray, List.getElem?_cons_zero, List.getElem?_cons_succ]; exact rfl) (by kernel_rfl) (by kernel_rfl) (by kernel_rfl) (by exact fun _ _ _ h => h) (Or.inl ⟨by rfl, ?_⟩) hHeld ?_
        rotate_left
        · intro w' hSw
          obtain ⟨hS0, hS1, hS2, hS3, hS4, hS5, hS6⟩ := hSw
          go_simp
          try with_reducible rfl
        try simp only [Act.put, List.setIfInBounds_toArray, List.set_cons_zero, List.set_cons_succ]
        refine wpAnyH_ready (rs := [47]) (by kernel_rfl) (by simp) ?_
        refine AllReadyH.cons (by simp only [List.getElem?_toArray, List.getElem?_cons_zero, List.getElem?_cons_succ]; exact rfl) (fun K hK => ?_) AllReadyH.nil
        refine want_true9 (by rfl) ?_
        go_wp2_with fail
        refine (K9.out).mono ?_
        rintro e p5 ⟨rfl, hb⟩
        have pI5 : Hid (Below W0.heap.size W0 p5) := pI4.out.trans (hb.mono pI4.out.size)
        skip
        go_wp2_with fail
        refine hK.out _ _ (SS.out _ pI5) (fun hHeld => ?_)
        clear hK K hb
        try simp only [Act.put, List.setIfInBounds_toArray, List.set_cons_zero, List.set_cons_succ]
        refine wpAnyH_take (i := 48) (v := ?_) (by simp only [List.getElem?_toArray, List.getElem?_cons_zero, List.getElem?_cons_succ]; exact rfl) (by kernel_rfl) (by kernel_rfl) (by kernel_rfl) (by exact fun _ _ _ h => h) (Or.inl ⟨by rfl, ?_⟩) hHeld ?_
        rotate_left
        · intro w' hSw
          obtain ⟨hS0, hS1, hS2, hS3, hS4, hS5, hS6⟩ := hSw
          go_simp
          try with_reducible rfl
        try simp only [Act.put, List.setIfInBounds_toArray, List.set_cons_zero, List.set_cons_succ]
        refine wpAnyH_take (i := 49) (v := ?_) (by simp only [List.getElem?_toArray, List.getElem?_cons_zero, List.getElem?_cons_succ]; exact rfl) (by kernel_rfl) (by kernel_rfl) (by kernel_rfl) (by exact fun _ _ _ h => h) (Or.inl ⟨by rfl, ?_⟩) hHeld ?_
        rotate_left
        · intro w' hSw
          obtain ⟨hS0, hS1, hS2, hS3, hS4, hS5, hS6⟩ := hSw
          go_simp
          try with_reducible rfl
        try simp only [Act.put, List.setIfInBounds_toArray, List.set_cons_zero, List.set_cons_succ]
        refine wpAnyH_done (by kernel_rfl) ?_ _
        go_wp2
        go_ret
        exact ⟨rfl, B0.out.trans (pI5.out.mono B0.out.size)⟩
      · have KF2 := KF0 (t + 60000) (by omega) (by omega)
        have KF3 := Lib.hid (show ∀ W, Below W0.heap.size W0 W → Calls Try.prog 9 #[.slice al nl kl, .int .i64 x, .int .i64 (t + 60000 + 1)] W fun e w' => e = .returned (.agg #[.int .i64 4, .int .i64 (faV (lnE x m t es) x (t + 60000 + 1))]) ∧ Below W.heap.size W w' from fun W h => by have q := impl_find al nl kl _ x (t + 60000 + 1) W (PL.out.below h); rw [ln_gone HC.out.symm (by omega)] at q; exact q)
        have g2 : IntKind.i64.wrap (t + 60000 + 1) = t + 60000 + 1 := IntWalk.i64_in _ (by omega)
        have g3 : (t + 60000 == 100000000) = false := by simp; omega
        generalize faV (lnE x m t es) x (t + 60000 + 1) = fv at *
        clear KF0 lv lc hcl hx hm
        obtain ⟨x0, x1, y0, y1, z0, z1, _⟩ := SS.out u7 uI7
        go_wp2_with fail
        clear x0 x1 y0 y1 z0 z1
        obtain ⟨x0, x1, y0, y1, z0, z1, _⟩ := SS.out u7 uI7
        have pI0 : Hid (Below W0.heap.size W0 u7.drew) := uI7.out.drew
        go_region_held3 (fun W => W.cell? ⟨gl, 0, none⟩ = some (.int .i64 0) ∧ W.cell? ⟨gl, 1, none⟩ = some (.slice al nl kl) ∧ W.cell? ⟨gf, 0, none⟩ = some (.int .i64 Fc) ∧ W.cell? ⟨gf, 1, none⟩ = some (.int .i64 Fv) ∧ W.cell? ⟨ga, 0, none⟩ = some (.int .i64 Ac) ∧ W.cell? ⟨ga, 1, none⟩ = some (.slice aa na ka) ∧ Hid (Below W0.heap.size W0 W))
          (first
            | (go_split_ands; refine SS.out _ ?_; (with_reducible assumption))
            | (go_split_ands; refine SS.out _ ?_; (with_reducible refine kDrew ?_); (with_reducible assumption)))
          (first
            | (have q := pM5; clear q; go_at_call 18; refine (K9.out).mono ?_; rintro e p6 ⟨rfl, hb⟩; have pM6 : Hid True := trivial; have pI6 : Hid (Below W0.heap.size W0 p6) := pI5.out.trans (hb.mono pI5.out.size))
            | (have q := pM4; clear q; go_at_call 13; refine (KL.out _ pI4.out).mono ?_; rintro e p5 ⟨a9, n9, c9, rfl, p9, hb⟩; have pM5 : Hid True := trivial; have pI5 : Hid (Below W0.heap.size W0 p5) := pI4.out.trans (hb.mono pI4.out.size); have K9 := Lib.hid (KSL.out _ a9 n9 c9 pI5.out p9.le))
            | (have q := pM3; clear q; go_at_call 9; refine (KF3.out _ pI3.out).mono ?_; rintro e p4 ⟨rfl, hb⟩; have pM4 : Hid True := trivial; have pI4 : Hid (Below W0.heap.size W0 p4) := pI3.out.trans (hb.mono pI3.out.size))
            | (have q := pM2; clear q; go_at_call 9; refine (KF2.out _ pI2.out).mono ?_; rintro e p3 ⟨rfl, hb⟩; have pM3 : Hid True := trivial; have pI3 : Hid (Below W0.heap.size W0 p3) := pI2.out.trans (hb.mono pI2.out.size))
            | (have q := pM1; clear q; go_at_call 9; refine (KF1.out _ pI1.out).mono ?_; rintro e p2 ⟨rfl, hb⟩; have pM2 : Hid True := trivial; have pI2 : Hid (Below W0.heap.size W0 p2) := pI1.out.trans (hb.mono pI1.out.size))
            | (go_at_call 16; refine (KCL.out _ pI0.out).mono ?_; rintro e p1 ⟨rfl, hb⟩; have pM1 : Hid True := trivial; have pI1 : Hid (Below W0.heap.size W0 p1) := pI0.out.trans (hb.mono pI0.out.size)))
        go_wp2
        go_ret
        exact ⟨rfl, B0.out.trans (pI6.out.mono B0.out.size)⟩
  have han : ((0 : Int) == 0) = true := rfl
  have ag := fun z => age_find (es := gs) (t := v) z HA.out.symm
  have AG := Lib.hid ag
  have agv := (ag 0).1
  have agc := (ag 0).2.2.1
  clear ag
  rw [agv] at PA KA
  have KCA := Lib.hid (show ∀ W, Below W0.heap.size W0 W → Calls Try.prog 16 #[.slice aa na ka] W fun e w' => e = .returned (.int .i64 0) ∧ Below W.heap.size W w' from fun W h => by have q := implCacheFault aa na ka _ W (PA.out.below h); rw [agc] at q; exact q)
  have KSA := Lib.hid (show ∀ W b n k, Below W0.heap.size W0 W → Le W b n k (agE v gs) → Calls Try.prog 18 #[.slice aa na ka, .slice b n k] W fun e w' => e = .returned (.bool true) ∧ Below W.heap.size W w' from fun W b n k h hp => by have q := implSameCaches aa b na ka n k _ _ W (PA.out.below h) hp; rw [eqE_refl] at q; exact q)
  have e00 : ((0 : Int) != 0) = false := rfl
  obtain ⟨x0, x1, y0, y1, z0, z1, _⟩ := SS.out u7 uI7
  go_wp2_with fail
  have vI0 : Hid (Below W0.heap.size W0 u7.drew) := uI7.out.drew
  go_region_held3 (fun W => W.cell? ⟨gl, 0, none⟩ = some (.int .i64 C) ∧ W.cell? ⟨gl, 1, none⟩ = some (.slice al nl kl) ∧ W.cell? ⟨gf, 0, none⟩ = some (.int .i64 Fc) ∧ W.cell? ⟨gf, 1, none⟩ = some (.int .i64 Fv) ∧ W.cell? ⟨ga, 0, none⟩ = some (.int .i64 0) ∧ W.cell? ⟨ga, 1, none⟩ = some (.slice aa na ka) ∧ Hid (Below W0.heap.size W0 W))
    (first
      | (go_split_ands; refine SS.out _ ?_; (with_reducible assumption))
      | (go_split_ands; refine SS.out _ ?_; (with_reducible refine kDrew ?_); (with_reducible assumption)))
    (first
      | (have q := vM2; clear q; go_at_call 16; refine (KCA.out _ vI2.out).mono ?_; rintro e v3 ⟨rfl, hb⟩; have vM3 : Hid True := trivial; have vI3 : Hid (Below W0.heap.size W0 v3) := vI2.out.trans (hb.mono vI2.out.size))
      | (have q := vM1; clear q; go_at_call 18; refine (K5.out).mono ?_; rintro e v2 ⟨rfl, hb⟩; have vM2 : Hid True := trivial; have vI2 : Hid (Below W0.heap.size W0 v2) := vI1.out.trans (hb.mono vI1.out.size))
      | (go_at_call 15; refine (KA.out _ vI0.out).mono ?_; rintro e v1 ⟨a5, n5, c5, rfl, p5, hb⟩; have vM1 : Hid True := trivial; have vI1 : Hid (Below W0.heap.size W0 v1) := vI0.out.trans (hb.mono vI0.out.size); have K5 := Lib.hid (KSA.out _ a5 n5 c5 vI1.out p5.le)))
  clear x0 x1 y0 y1 z0 z1
  go_wp2
  go_loopw [17] (fun i wr => ∃ k : Nat, k ≤ no' ∧ i = .int .i64 k ∧ Hid (Below W0.heap.size W0 wr)) (fun i _ => no' - (intOf i).toNat)
  case atStart => exact ⟨0, Nat.zero_le _, rfl, vI3.out⟩
  case round =>
    obtain ⟨k, hk, rfl, hB⟩ := hrel
    by_cases hlt : k < no'
    · obtain ⟨b1, o1, ge, eb, hge, q0, _, _⟩ := (PO.out.below hB.out).at hlt
      have HPO := Lib.hid PO.out
      subst eb
      obtain ⟨Pc, hPc⟩ : ∃ P, P = faC gs ge.i v := ⟨_, rfl⟩
      obtain ⟨Pv, hPv⟩ : ∃ P, P = faV gs ge.i v := ⟨_, rfl⟩
      have KX1 := Lib.hid (show ∀ W, Below W0.heap.size W0 W → Calls Try.prog 9 #[.slice aa na ka, .int .i64 ge.i, .int .i64 v] W fun e w' => e = .returned (.agg #[.int .i64 Pc, .int .i64 Pv]) ∧ Below W.heap.size W w' from fun W h => by have q := impl_find aa na ka _ ge.i v W (PA.out.below h); rw [(AG.out ge.i).2.2.2.1, (AG.out ge.i).2.2.2.2, ← hPc, ← hPv] at q; exact q)
      have KX2 := Lib.hid (show ∀ W, Below W0.heap.size W0 W → Calls Try.prog 9 #[.slice (some ⟨b1, o1, none⟩) no' co, .int .i64 ge.i, .int .i64 v] W fun e w' => e = .returned (.agg #[.int .i64 Pc, .int .i64 Pv]) ∧ Below W.heap.size W w' from fun W h => by rw [hPc, hPv]; exact impl_find _ no' co gs ge.i v W (PO.out.below h))
      have p1 : (Pc == Pc) = true := by simp
      have p2 : (Pv == Pv) = true := by simp
      have hI0 : (0 : Int) ≤ (k : Int) := by omega
      have hI1 : (k : Int) < (no' : Int) := by omega
      obtain ⟨gi, hgi⟩ : ∃ g, g = ge.i := ⟨_, rfl⟩
      rw [← hgi] at q0 KX1 KX2
      have hcell := World.block_lt_of_cell? wr ⟨b1, o1 + k * 3, none⟩ q0
      have SX := Lib.hid (show ∀ W, Hid (Below W0.heap.size W0 W) → (W.cell? ⟨gl, 0, none⟩ = some (.int .i64 C) ∧ W.cell? ⟨gl, 1, none⟩ = some (.slice al nl kl) ∧ W.cell? ⟨gf, 0, none⟩ = some (.int .i64 Fc) ∧ W.cell? ⟨gf, 1, none⟩ = some (.int .i64 Fv) ∧ W.cell? ⟨ga, 0, none⟩ = some (.int .i64 0) ∧ W.cell? ⟨ga, 1, none⟩ = some (.slice aa na ka) ∧ W.cell? ⟨b1, o1 + k * 3, none⟩ = some (.int .i64 gi) ∧ Hid (Below W0.heap.size W0 W)) from fun W hW => by
        obtain ⟨x0, x1, y0, y1, z0, z1, h⟩ := SS.out W hW
        obtain ⟨_, _, ge', eb', hge', q0', _, _⟩ := (PO.out.below hW.out).at hlt
        cases eb'
        rw [hge] at hge'
        cases hge'
        rw [← hgi] at q0'
        exact ⟨x0, x1, y0, y1, z0, z1, q0', h⟩)
      clear hPc hPv hge hgi hcell
      obtain ⟨x0, x1, y0, y1, z0, z1, _⟩ := SS.out wr hB
      go_wp2_with fail
      have yI0 : Hid (Below W0.heap.size W0 wr.drew) := hB.out.drew
      go_region_held3 (fun W => W.cell? ⟨gl, 0, none⟩ = some (.int .i64 C) ∧ W.cell? ⟨gl, 1, none⟩ = some (.slice al nl kl) ∧ W.cell? ⟨gf, 0, none⟩ = some (.int .i64 Fc) ∧ W.cell? ⟨gf, 1, none⟩ = some (.int .i64 Fv) ∧ W.cell? ⟨ga, 0, none⟩ = some (.int .i64 0) ∧ W.cell? ⟨ga, 1, none⟩ = some (.slice aa na ka) ∧ W.cell? ⟨b1, o1 + k * 3, none⟩ = some (.int .i64 gi) ∧ Hid (Below W0.heap.size W0 W))
        (first
          | (go_split_ands; refine SX.out _ ?_; (with_reducible assumption))
          | (go_split_ands; refine SX.out _ ?_; (with_reducible refine kDrew ?_); (with_reducible assumption)))
        (first
          | (have q := yM1; clear q; go_at_call 9; refine (KX2.out _ yI1.out).mono ?_; rintro e y2 ⟨rfl, hb⟩; have yM2 : Hid True := trivial; have yI2 : Hid (Below W0.heap.size W0 y2) := yI1.out.trans (hb.mono yI1.out.size))
          | (go_at_call 9; refine (KX1.out _ yI0.out).mono ?_; rintro e y1 ⟨rfl, hb⟩; have yM1 : Hid True := trivial; have yI1 : Hid (Below W0.heap.size W0 y1) := yI0.out.trans (hb.mono yI0.out.size)))
      go_wp2
      go_roundw
      case rel => exact ⟨k + 1, by omega, by go_num, yI2.out⟩
      case measure => simp [intOf]; omega
    · obtain rfl : k = no' := by omega
      rcases Decidable.em (C = 0) with rfl | hc
      case inr =>
        have hcn : (C != 0) = true := by simpa using hc
        obtain ⟨x0, x1, y0, y1, z0, z1, _⟩ := SS.out wr hB
        go_wp2_with fail
        go_ret
        exact ⟨rfl, B0.out.trans (hB.out.mono B0.out.size)⟩
      have hcn : ((0 : Int) != 0) = false := rfl
      obtain ⟨hcl, hx, hm, ht0, ht1⟩ := ln_zero HC.out.symm
      obtain ⟨lv, lc⟩ := ln_cf HC.out.symm
      rw [lv] at PL KL
      have KCL := Lib.hid (show ∀ W, Below W0.heap.size W0 W → Calls Try.prog 16 #[.slice al nl kl] W fun e w' => e = .returned (.int .i64 0) ∧ Below W.heap.size W w' from fun W h => by have q := implCacheFault al nl kl _ W (PL.out.below h); rw [lc] at q; exact q)
      have KF0 := fun (t' : Int) (h1 : 0 ≤ t') (h2 : t' ≤ min (t + 60000) 100000000) => Lib.hid (show ∀ W, Below W0.heap.size W0 W → Calls Try.prog 9 #[.slice al nl kl, .int .i64 x, .int .i64 t'] W fun e w' => e = .returned (.agg #[.int .i64 0, .int .i64 m]) ∧ Below W.heap.size W w' from fun W h => by have q := impl_find al nl kl _ x t' W (PL.out.below h); rw [(ln_found HC.out.symm h1 h2).1, (ln_found HC.out.symm h1 h2).2] at q; exact q)
      have KF1 := KF0 t (by omega) (by omega)
      have KSL := Lib.hid (show ∀ W b n k, Below W0.heap.size W0 W → Le W b n k (lnE x m t es) → Calls Try.prog 18 #[.slice al nl kl, .slice b n k] W fun e w' => e = .returned (.bool true) ∧ Below W.heap.size W w' from fun W b n k h hp => by have q := implSameCaches al b nl kl n k _ _ W (PL.out.below h) hp; rw [eqE_refl] at q; exact q)
      have g1 : IntKind.i64.wrap (t + 60000) = t + 60000 := IntWalk.i64_in _ (by omega)
      have em : (m == m) = true := by simp
      by_cases hb : 100000000 < t + 60000
      · have KF2 := KF0 100000000 (by omega) (by omega)
        clear KF0 lv lc hcl hx hm
        obtain ⟨x0, x1, y0, y1, z0, z1, _⟩ := SS.out wr hB
        go_wp2_with fail
        clear x0 x1 y0 y1 z0 z1
        have pI0 : Hid (Below W0.heap.size W0 wr.drew) := hB.out.drew
        refine wp_region_held_drew (S := (fun W => W.cell? ⟨gl, 0, none⟩ = some (.int .i64 0) ∧ W.cell? ⟨gl, 1, none⟩ = some (.slice al nl kl) ∧ W.cell? ⟨gf, 0, none⟩ = some (.int .i64 Fc) ∧ W.cell? ⟨gf, 1, none⟩ = some (.int .i64 Fv) ∧ W.cell? ⟨ga, 0, none⟩ = some (.int .i64 0) ∧ W.cell? ⟨ga, 1, none⟩ = some (.slice aa na ka) ∧ Hid (Below W0.heap.size W0 W))) (by kernel_rfl) (SS.out _ pI0) (fun hHeld => ?_)
        refine wpAnyH_take (i := 0) (v := ?_) (by simp only [List.getElem?_toArray, List.getElem?_cons_zero]; exact rfl) (by kernel_rfl) (by kernel_rfl) (by kernel_rfl) (by exact fun _ _ _ h => h) (Or.inl ⟨by rfl, ?_⟩) hHeld ?_
        rotate_left
        · intro w' hSw
          obtain ⟨hS0, hS1, hS2, hS3, hS4, hS5, hS6⟩ := hSw
          go_simp
          try with_reducible rfl
        try simp only [Act.put, List.setIfInBounds_toArray, List.set_cons_zero, List.set_cons_succ]
        refine wpAnyH_take (i := 1) (v := ?_) (by simp only [List.getElem?_toArray, List.getElem?_cons_zero, List.getElem?_cons_succ]; exact rfl) (by kernel_rfl) (by kernel_rfl) (by kernel_rfl) (by exact fun _ _ _ h => h) (Or.inl ⟨by rfl, ?_⟩) hHeld ?_
        rotate_left
        · intro w' hSw
          obtain ⟨hS0, hS1, hS2, hS3, hS4, hS5, hS6⟩ := hSw
          go_simp
          try with_reducible rfl
        try simp only [Act.put, List.setIfInBounds_toArray, List.set_cons_zero, List.set_cons_succ]
        refine wpAnyH_ready (rs := [2]) (by kernel_rfl) (by simp) ?_
        refine AllReadyH.cons (by simp only [List.getElem?_toArray, List.getElem?_cons_zero, List.getElem?_cons_succ]; exact rfl) (fun K hK => ?_) AllReadyH.nil
        refine want_none9 (by exact rfl) ?_
        go_wp2_with fail
        refine (KCL.out _ pI0.out).mono ?_
        rintro e p1 ⟨rfl, hb⟩
        have pI1 : Hid (Below W0.heap.size W0 p1) := pI0.out.trans (hb.mono pI0.out.size)
        skip
        go_wp2_with fail
        refine hK.out _ _ (SS.out _ pI1) (fun hHeld => ?_)
        clear hK K hb
        try simp only [Act.put, List.setIfInBounds_toArray, List.set_cons_zero, List.set_cons_succ]
        refine wpAnyH_take (i := 3) (v := ?_) (by simp only [List.getElem?_toArray, List.getElem?_cons_zero, List.getElem?_cons_succ]; exact rfl) (by kernel_rfl) (by kernel_rfl) (by kernel_rfl) (by exact fun _ _ _ h => h) (Or.inl ⟨by rfl, ?_⟩) hHeld ?_
        rotate_left
        · intro w' hSw
          obtain ⟨hS0, hS1, hS2, hS3, hS4, hS5, hS6⟩ := hSw
          go_simp
          try with_reducible rfl
        try simp only [Act.put, List.setIfInBounds_toArray, List.set_cons_zero, List.set_cons_succ]
        refine wpAnyH_take (i := 4) (v := ?_) (by simp only [List.getElem?_toArray, List.getElem?_cons_zero, List.getElem?_cons_succ]; exact rfl) (by kernel_rfl) (by kernel_rfl) (by kernel_rfl) (by exact fun _ _ _ h => h) (Or.inl ⟨by rfl, ?_⟩) hHeld ?_
        rotate_left
        · intro w' hSw
          obtain ⟨hS0, hS1, hS2, hS3, hS4, hS5, hS6⟩ := hSw
          go_simp
          try with_reducible rfl
        try simp only [Act.put, List.setIfInBounds_toArray, List.set_cons_zero, List.set_cons_succ]
        refine wpAnyH_take (i := 5) (v := ?_) (by simp only [List.getElem?_toArray, List.getElem?_cons_zero, List.getElem?_cons_succ]; exact rfl) (by kernel_rfl) (by kernel_rfl) (by kernel_rfl) (by exact fun _ _ _ h => h) (Or.inl ⟨by rfl, ?_⟩) hHeld ?_
        rotate_left
        · intro w' hSw
          obtain ⟨hS0, hS1, hS2, hS3, hS4, hS5, hS6⟩ := hSw
          go_simp
          try with_reducible rfl
        try simp only [Act.put, List.setIfInBounds_toArray, List.set_cons_zero, List.set_cons_succ]
        refine wpAnyH_take (i := 6) (v := ?_) (by simp only [List.getElem?_toArray, List.getElem?_cons_zero, List.getElem?_cons_succ]; exact rfl) (by kernel_rfl) (by kernel_rfl) (by kernel_rfl) (by exact fun _ _ _ h => h) (Or.inl ⟨by rfl, ?_⟩) hHeld ?_
        rotate_left
        · intro w' hSw
          obtain ⟨hS0, hS1, hS2, hS3, hS4, hS5, hS6⟩ := hSw
          go_simp
          try with_reducible rfl
        try simp only [Act.put, List.setIfInBounds_toArray, List.set_cons_zero, List.set_cons_succ]
        refine wpAnyH_take (i := 7) (v := ?_) (by simp only [List.getElem?_toArray, List.getElem?_cons_zero, List.getElem?_cons_succ]; exact rfl) (by kernel_rfl) (by kernel_rfl) (by kernel_rfl) (by exact fun _ _ _ h => h) (Or.inl ⟨by rfl, ?_⟩) hHeld ?_
        rotate_left
        · intro w' hSw
          obtain ⟨hS0, hS1, hS2, hS3, hS4, hS5, hS6⟩ := hSw
          go_simp
          try with_reducible rfl
        try simp only [Act.put, List.setIfInBounds_toArray, List.set_cons_zero, List.set_cons_succ]
        refine wpAnyH_take (i := 8) (v := ?_) (by simp only [List.getElem?_toArray, List.getElem?_cons_zero, List.getElem?_cons_succ]; exact rfl) (by kernel_rfl) (by kernel_rfl) (by kernel_rfl) (by exact fun _ _ _ h => h) (Or.inl ⟨by rfl, ?_⟩) hHeld ?_
        rotate_left
        · intro w' hSw
          obtain ⟨hS0, hS1, hS2, hS3, hS4, hS5, hS6⟩ := hSw
          go_simp
          try with_reducible rfl
        try simp only [Act.put, List.setIfInBounds_toArray, List.set_cons_zero, List.set_cons_succ]
        refine wpAnyH_take (i := 10) (v := ?_) (by simp only [List.getElem?_toArray, List.getElem?_cons_zero, List.getElem?_cons_succ]; exact rfl) (by kernel_rfl) (by kernel_rfl) (by kernel_rfl) (by exact fun _ _ _ h => h) (Or.inl ⟨by rfl, ?_⟩) hHeld ?_
        rotate_left
        · intro w' hSw
          obtain ⟨hS0, hS1, hS2, hS3, hS4, hS5, hS6⟩ := hSw
          go_simp
          try with_reducible rfl
        try simp only [Act.put, List.setIfInBounds_toArray, List.set_cons_zero, List.set_cons_succ]
        refine wpAnyH_take (i := 11) (v := ?_) (by simp only [List.getElem?_toArray, List.getElem?_cons_zero, List.getElem?_cons_succ]; exact rfl) (by kernel_rfl) (by kernel_rfl) (by kernel_rfl) (by exact fun _ _ _ h => h) (Or.inl ⟨by rfl, ?_⟩) hHeld ?_
        rotate_left
        · intro w' hSw
          obtain ⟨hS0, hS1, hS2, hS3, hS4, hS5, hS6⟩ := hSw
          go_simp
          try with_reducible rfl
        try simp only [Act.put, List.setIfInBounds_toArray, List.set_cons_zero, List.set_cons_succ]
        refine wpAnyH_ready (rs := [9]) (by kernel_rfl) (by simp) ?_
        refine AllReadyH.cons (by simp only [List.getElem?_toArray, List.getElem?_cons_zero, List.getElem?_cons_succ]; exact rfl) (fun K hK => ?_) AllReadyH.nil
        refine want_true9 (by rfl) ?_
        go_wp2_with fail
        refine (KF1.out _ pI1.out).mono ?_
        rintro e p2 ⟨rfl, hb⟩
        have pI2 : Hid (Below W0.heap.size W0 p2) := pI1.out.trans (hb.mono pI1.out.size)
        skip
        go_wp2_with fail
        refine hK.out _ _ (SS.out _ pI2) (fun hHeld => ?_)
        clear hK K hb
        try simp only [Act.put, List.setIfInBounds_toArray, List.set_cons_zero, List.set_cons_succ]
        refine wpAnyH_take (i := 12) (v := ?_) (by simp only [List.getElem?_toArray, List.getElem?_cons_zero, List.getElem?_cons_succ]; exact rfl) (by kernel_rfl) (by kernel_rfl) (by kernel_rfl) (by exact fun _ _ _ h => h) (Or.inl ⟨by rfl, ?_⟩) hHeld ?_
        rotate_left
        · intro w' hSw
          obtain ⟨hS0, hS1, hS2, hS3, hS4, hS5, hS6⟩ := hSw
          go_simp
          try with_reducible rfl
        try simp only [Act.put, List.setIfInBounds_toArray, List.set_cons_zero, List.set_cons_succ]
        refine wpAnyH_take (i := 13) (v := ?_) (by simp only [List.getElem?_toArray, List.getElem?_cons_zero, List.getElem?_cons_succ]; exact rfl) (by kernel_rfl) (by kernel_rfl) (by kernel_rfl) (by exact fun _ _ _ h => h) (Or.inl ⟨by rfl, ?_⟩) hHeld ?_
        rotate_left
        · intro w' hSw
          obtain ⟨hS0, hS1, hS2, hS3, hS4, hS5, hS6⟩ := hSw
          go_simp
          try with_reducible rfl
        try simp only [Act.put, List.setIfInBounds_toArray, List.set_cons_zero, List.set_cons_succ]
        refine wpAnyH_take (i := 14) (v := ?_) (by simp only [List.getElem?_toArray, List.getElem?_cons_zero, List.getElem?_cons_succ]; exact rfl) (by kernel_rfl) (by kernel_rfl) (by kernel_rfl) (by exact fun _ _ _ h => h) (Or.inl ⟨by rfl, ?_⟩) hHeld ?_
        rotate_left
        · intro w' hSw
          obtain ⟨hS0, hS1, hS2, hS3, hS4, hS5, hS6⟩ := hSw
          go_simp
          try with_reducible rfl
        try simp only [Act.put, List.setIfInBounds_toArray, List.set_cons_zero, List.set_cons_succ]
        refine wpAnyH_take (i := 15) (v := ?_) (by simp only [List.getElem?_toArray, List.getElem?_cons_zero, List.getElem?_cons_succ]; exact rfl) (by kernel_rfl) (by kernel_rfl) (by kernel_rfl) (by exact fun _ _ _ h => h) (Or.inl ⟨by rfl, ?_⟩) hHeld ?_
        rotate_left
        · intro w' hSw
          obtain ⟨hS0, hS1, hS2, hS3, hS4, hS5, hS6⟩ := hSw
          go_simp
          try with_reducible rfl
        try simp only [Act.put, List.setIfInBounds_toArray, List.set_cons_zero, List.set_cons_succ]
        refine wpAnyH_take (i := 16) (v := ?_) (by simp only [List.getElem?_toArray, List.getElem?_cons_zero, List.getElem?_cons_succ]; exact rfl) (by kernel_rfl) (by kernel_rfl) (by kernel_rfl) (by exact fun _ _ _ h => h) (Or.inl ⟨by rfl, ?_⟩) hHeld ?_
        rotate_left
        · intro w' hSw
          obtain ⟨hS0, hS1, hS2, hS3, hS4, hS5, hS6⟩ := hSw
          go_simp
          try with_reducible rfl
        try simp only [Act.put, List.setIfInBounds_toArray, List.set_cons_zero, List.set_cons_succ]
        refine wpAnyH_take (i := 17) (v := ?_) (by simp only [List.getElem?_toArray, List.getElem?_cons_zero, List.getElem?_cons_succ]; exact rfl) (by kernel_rfl) (by kernel_rfl) (by kernel_rfl) (by exact fun _ _ _ h => h) (Or.inl ⟨by rfl, ?_⟩) hHeld ?_
        rotate_left
        · intro w' hSw
          obtain ⟨hS0, hS1, hS2, hS3, hS4, hS5, hS6⟩ := hSw
          go_simp
          try with_reducible rfl
        try simp only [Act.put, List.setIfInBounds_toArray, List.set_cons_zero, List.set_cons_succ]
        refine wpAnyH_take (i := 18) (v := ?_) (by simp only [List.getElem?_toArray, List.getElem?_cons_zero, List.getElem?_cons_succ]; exact rfl) (by kernel_rfl) (by kernel_rfl) (by kernel_rfl) (by exact fun _ _ _ h => h) (Or.inl ⟨by rfl, ?_⟩) hHeld ?_
        rotate_left
        · intro w' hSw
          obtain ⟨hS0, hS1, hS2, hS3, hS4, hS5, hS6⟩ := hSw
          go_simp
          try with_reducible rfl
        try simp only [Act.put, List.setIfInBounds_toArray, List.set_cons_zero, List.set_cons_succ]
        refine wpAnyH_take (i := 20) (v := ?_) (by simp only [List.getElem?_toArray, List.getElem?_cons_zero, List.getElem?_cons_succ]; exact rfl) (by kernel_rfl) (by kernel_rfl) (by kernel_rfl) (by exact fun _ _ _ h => h) (Or.inl ⟨by rfl, ?_⟩) hHeld ?_
        rotate_left
        · intro w' hSw
          obtain ⟨hS0, hS1, hS2, hS3, hS4, hS5, hS6⟩ := hSw
          go_simp
          try with_reducible rfl
        try simp only [Act.put, List.setIfInBounds_toArray, List.set_cons_zero, List.set_cons_succ]
        refine wpAnyH_take (i := 21) (v := ?_) (by simp only [List.getElem?_toArray, List.getElem?_cons_zero, List.getElem?_cons_succ]; exact rfl) (by kernel_rfl) (by kernel_rfl) (by kernel_rfl) (by exact fun _ _ _ h => h) (Or.inl ⟨by rfl, ?_⟩) hHeld ?_
        rotate_left
        · intro w' hSw
          obtain ⟨hS0, hS1, hS2, hS3, hS4, hS5, hS6⟩ := hSw
          go_simp
          try with_reducible rfl
        try simp only [Act.put, List.setIfInBounds_toArray, List.set_cons_zero, List.set_cons_succ]
        refine wpAnyH_ready (rs := [19]) (by kernel_rfl) (by simp) ?_
        refine AllReadyH.cons (by simp only [List.getElem?_toArray, List.getElem?_cons_zero, List.getElem?_cons_succ]; exact rfl) (fun K hK => ?_) AllReadyH.nil
        refine want_true9 (by rfl) ?_
        go_wp2_with fail
        refine (KF2.out _ pI2.out).mono ?_
        rintro e p3 ⟨rfl, hb⟩
        have pI3 : Hid (Below W0.heap.size W0 p3) := pI2.out.trans (hb.mono pI2.out.size)
        skip
        go_wp2_with fail
        refine hK.out _ _ (SS.out _ pI3) (fun hHeld => ?_)
        clear hK K hb
        try simp only [Act.put, List.setIfInBounds_toArray, List.set_cons_zero, List.set_cons_succ]
        refine wpAnyH_take (i := 22) (v := ?_) (by simp only [List.getElem?_toArray, List.getElem?_cons_zero, List.getElem?_cons_succ]; exact rfl) (by kernel_rfl) (by kernel_rfl) (by kernel_rfl) (by exact fun _ _ _ h => h) (Or.inl ⟨by rfl, ?_⟩) hHeld ?_
        rotate_left
        · intro w' hSw
          obtain ⟨hS0, hS1, hS2, hS3, hS4, hS5, hS6⟩ := hSw
          go_simp
          try with_reducible rfl
        try simp only [Act.put, List.setIfInBounds_toArray, List.set_cons_zero, List.set_cons_succ]
        refine wpAnyH_take (i := 23) (v := ?_) (by simp only [List.getElem?_toArray, List.getElem?_cons_zero, List.getElem?_cons_succ]; exact rfl) (by kernel_rfl) (by kernel_rfl) (by kernel_rfl) (by exact fun _ _ _ h => h) (Or.inl ⟨by rfl, ?_⟩) hHeld ?_
        rotate_left
        · intro w' hSw
          obtain ⟨hS0, hS1, hS2, hS3, hS4, hS5, hS6⟩ := hSw
          go_simp
          try with_reducible rfl
        try simp only [Act.put, List.setIfInBounds_toArray, List.set_cons_zero, List.set_cons_succ]
        refine wpAnyH_take (i := 24) (v := ?_) (by simp only [List.getElem?_toArray, List.getElem?_cons_zero, List.getElem?_cons_succ]; exact rfl) (by kernel_rfl) (by kernel_rfl) (by kernel_rfl) (by exact fun _ _ _ h => h) (Or.inl ⟨by rfl, ?_⟩) hHeld ?_
        rotate_left
        · intro w' hSw
          obtain ⟨hS0, hS1, hS2, hS3, hS4, hS5, hS6⟩ := hSw
          go_simp
          try with_reducible rfl
        try simp only [Act.put, List.setIfInBounds_toArray, List.set_cons_zero, List.set_cons_succ]
        refine wpAnyH_take (i := 25) (v := ?_) (by simp only [List.getElem?_toArray, List.getElem?_cons_zero, List.getElem?_cons_succ]; exact rfl) (by kernel_rfl) (by kernel_rfl) (by kernel_rfl) (by exact fun _ _ _ h => h) (Or.inl ⟨by rfl, ?_⟩) hHeld ?_
        rotate_left
        · intro w' hSw
          obtain ⟨hS0, hS1, hS2, hS3, hS4, hS5, hS6⟩ := hSw
          go_simp
          try with_reducible rfl
        try simp only [Act.put, List.setIfInBounds_toArray, List.set_cons_zero, List.set_cons_succ]
        refine wpAnyH_take (i := 26) (v := ?_) (by simp only [List.getElem?_toArray, List.getElem?_cons_zero, List.getElem?_cons_succ]; exact rfl) (by kernel_rfl) (by kernel_rfl) (by kernel_rfl) (by exact fun _ _ _ h => h) (Or.inl ⟨by rfl, ?_⟩) hHeld ?_
        rotate_left
        · intro w' hSw
          obtain ⟨hS0, hS1, hS2, hS3, hS4, hS5, hS6⟩ := hSw
          go_simp
          try with_reducible rfl
        try simp only [Act.put, List.setIfInBounds_toArray, List.set_cons_zero, List.set_cons_succ]
        refine wpAnyH_take (i := 27) (v := ?_) (by simp only [List.getElem?_toArray, List.getElem?_cons_zero, List.getElem?_cons_succ]; exact rfl) (by kernel_rfl) (by kernel_rfl) (by kernel_rfl) (by exact fun _ _ _ h => h) (Or.inl ⟨by rfl, ?_⟩) hHeld ?_
        rotate_left
        · intro w' hSw
          obtain ⟨hS0, hS1, hS2, hS3, hS4, hS5, hS6⟩ := hSw
          go_simp
          try with_reducible rfl
        try simp only [Act.put, List.setIfInBounds_toArray, List.set_cons_zero, List.set_cons_succ]
        refine wpAnyH_take (i := 28) (v := undef) (by simp only [List.getElem?_toArray, List.getElem?_cons_zero, List.getElem?_cons_succ]; exact rfl) (by kernel_rfl) (by kernel_rfl) (by kernel_rfl) (by exact fun _ _ _ h => h) (Or.inr ⟨by rfl, rfl⟩) hHeld ?_
        try simp only [Act.put, List.setIfInBounds_toArray, List.set_cons_zero, List.set_cons_succ]
        refine wpAnyH_take (i := 29) (v := undef) (by simp only [List.getElem?_toArray, List.getElem?_cons_zero, List.getElem?_cons_succ]; exact rfl) (by kernel_rfl) (by kernel_rfl) (by kernel_rfl) (by exact fun _ _ _ h => h) (Or.inr ⟨by rfl, rfl⟩) hHeld ?_
        try simp only [Act.put, List.setIfInBounds_toArray, List.set_cons_zero, List.set_cons_succ]
        refine wpAnyH_take (i := 30) (v := undef) (by simp only [List.getElem?_toArray, List.getElem?_cons_zero, List.getElem?_cons_succ]; exact rfl) (by kernel_rfl) (by kernel_rfl) (by kernel_rfl) (by exact fun _ _ _ h => h) (Or.inr ⟨by rfl, rfl⟩) hHeld ?_
        try simp only [Act.put, List.setIfInBounds_toArray, List.set_cons_zero, List.set_cons_succ]
        refine wpAnyH_take (i := 31) (v := undef) (by simp only [List.getElem?_toArray, List.getElem?_cons_zero, List.getElem?_cons_succ]; exact rfl) (by kernel_rfl) (by kernel_rfl) (by kernel_rfl) (by exact fun _ _ _ h => h) (Or.inr ⟨by rfl, rfl⟩) hHeld ?_
        try simp only [Act.put, List.setIfInBounds_toArray, List.set_cons_zero, List.set_cons_succ]
        refine wpAnyH_take (i := 32) (v := undef) (by simp only [List.getElem?_toArray, List.getElem?_cons_zero, List.getElem?_cons_succ]; exact rfl) (by kernel_rfl) (by kernel_rfl) (by kernel_rfl) (by exact fun _ _ _ h => h) (Or.inr ⟨by rfl, rfl⟩) hHeld ?_
        try simp only [Act.put, List.setIfInBounds_toArray, List.set_cons_zero, List.set_cons_succ]
        refine wpAnyH_take (i := 33) (v := undef) (by simp only [List.getElem?_toArray, List.getElem?_cons_zero, List.getElem?_cons_succ]; exact rfl) (by kernel_rfl) (by kernel_rfl) (by kernel_rfl) (by exact fun _ _ _ h => h) (Or.inr ⟨by rfl, rfl⟩) hHeld ?_
        try simp only [Act.put, List.setIfInBounds_toArray, List.set_cons_zero, List.set_cons_succ]
        refine wpAnyH_take (i := 34) (v := undef) (by simp only [List.getElem?_toArray, List.getElem?_cons_zero, List.getElem?_cons_succ]; exact rfl) (by kernel_rfl) (by kernel_rfl) (by kernel_rfl) (by exact fun _ _ _ h => h) (Or.inr ⟨by rfl, rfl⟩) hHeld ?_
        try simp only [Act.put, List.setIfInBounds_toArray, List.set_cons_zero, List.set_cons_succ]
        refine wpAnyH_take (i := 35) (v := undef) (by simp only [List.getElem?_toArray, List.getElem?_cons_zero, List.getElem?_cons_succ]; exact rfl) (by kernel_rfl) (by kernel_rfl) (by kernel_rfl) (by exact fun _ _ _ h => h) (Or.inr ⟨by rfl, rfl⟩) hHeld ?_
        try simp only [Act.put, List.setIfInBounds_toArray, List.set_cons_zero, List.set_cons_succ]
        refine wpAnyH_take (i := 36) (v := ?_) (by simp only [List.getElem?_toArray, List.getElem?_cons_zero, List.getElem?_cons_succ]; exact rfl) (by kernel_rfl) (by kernel_rfl) (by kernel_rfl) (by exact fun _ _ _ h => h) (Or.inl ⟨by rfl, ?_⟩) hHeld ?_
        rotate_left
        · intro w' hSw
          obtain ⟨hS0, hS1, hS2, hS3, hS4, hS5, hS6⟩ := hSw
          go_simp
          try with_reducible rfl
        try simp only [Act.put, List.setIfInBounds_toArray, List.set_cons_zero, List.set_cons_succ]
        refine wpAnyH_take (i := 37) (v := ?_) (by simp only [List.getElem?_toArray, List.getElem?_cons_zero, List.getElem?_cons_succ]; exact rfl) (by kernel_rfl) (by kernel_rfl) (by kernel_rfl) (by exact fun _ _ _ h => h) (Or.inl ⟨by rfl, ?_⟩) hHeld ?_
        rotate_left
        · intro w' hSw
          obtain ⟨hS0, hS1, hS2, hS3, hS4, hS5, hS6⟩ := hSw
          go_simp
          try with_reducible rfl
        try simp only [Act.put, List.setIfInBounds_toArray, List.set_cons_zero, List.set_cons_succ]
        refine wpAnyH_take (i := 38) (v := ?_) (by simp only [List.getElem?_toArray, List.getElem?_cons_zero, List.getElem?_cons_succ]; exact rfl) (by kernel_rfl) (by kernel_rfl) (by kernel_rfl) (by exact fun _ _ _ h => h) (Or.inl ⟨by rfl, ?_⟩) hHeld ?_
        rotate_left
        · intro w' hSw
          obtain ⟨hS0, hS1, hS2, hS3, hS4, hS5, hS6⟩ := hSw
          go_simp
          try with_reducible rfl
        try simp only [Act.put, List.setIfInBounds_toArray, List.set_cons_zero, List.set_cons_succ]
        refine wpAnyH_take (i := 39) (v := ?_) (by simp only [List.getElem?_toArray, List.getElem?_cons_zero, List.getElem?_cons_succ]; exact rfl) (by kernel_rfl) (by kernel_rfl) (by kernel_rfl) (by exact fun _ _ _ h => h) (Or.inl ⟨by rfl, ?_⟩) hHeld ?_
        rotate_left
        · intro w' hSw
          obtain ⟨hS0, hS1, hS2, hS3, hS4, hS5, hS6⟩ := hSw
          go_simp
          try with_reducible rfl
        try simp only [Act.put, List.setIfInBounds_toArray, List.set_cons_zero, List.set_cons_succ]
        refine wpAnyH_take (i := 40) (v := ?_) (by simp only [List.getElem?_toArray, List.getElem?_cons_zero, List.getElem?_cons_succ]; exact rfl) (by kernel_rfl) (by kernel_rfl) (by kernel_rfl) (by exact fun _ _ _ h => h) (Or.inl ⟨by rfl, ?_⟩) hHeld ?_
        rotate_left
        · intro w' hSw
          obtain ⟨hS0, hS1, hS2, hS3, hS4, hS5, hS6⟩ := hSw
          go_simp
          try with_reducible rfl
        try simp only [Act.put, List.setIfInBounds_toArray, List.set_cons_zero, List.set_cons_succ]
        refine wpAnyH_take (i := 41) (v := ?_) (by simp only [List.getElem?_toArray, List.getElem?_cons_zero, List.getElem?_cons_succ]; exact rfl) (by kernel_rfl) (by kernel_rfl) (by kernel_rfl) (by exact fun _ _ _ h => h) (Or.inl ⟨by rfl, ?_⟩) hHeld ?_
        rotate_left
        · intro w' hSw
          obtain ⟨hS0, hS1, hS2, hS3, hS4, hS5, hS6⟩ := hSw
          go_simp
          try with_reducible rfl
        try simp only [Act.put, List.setIfInBounds_toArray, List.set_cons_zero, List.set_cons_succ]
        refine wpAnyH_take (i := 42) (v := ?_) (by simp only [List.getElem?_toArray, List.getElem?_cons_zero, List.getElem?_cons_succ]; exact rfl) (by kernel_rfl) (by kernel_rfl) (by kernel_rfl) (by exact fun _ _ _ h => h) (Or.inl ⟨by rfl, ?_⟩) hHeld ?_
        rotate_left
        · intro w' hSw
          obtain ⟨hS0, hS1, hS2, hS3, hS4, hS5, hS6⟩ := hSw
          go_simp
          try with_reducible rfl
        try simp only [Act.put, List.setIfInBounds_toArray, List.set_cons_zero, List.set_cons_succ]
        refine wpAnyH_take (i := 43) (v := ?_) (by simp only [List.getElem?_toArray, List.getElem?_cons_zero, List.getElem?_cons_succ]; exact rfl) (by kernel_rfl) (by kernel_rfl) (by kernel_rfl) (by exact fun _ _ _ h => h) (Or.inl ⟨by rfl, ?_⟩) hHeld ?_
        rotate_left
        · intro w' hSw
          obtain ⟨hS0, hS1, hS2, hS3, hS4, hS5, hS6⟩ := hSw
          go_simp
          try with_reducible rfl
        try simp only [Act.put, List.setIfInBounds_toArray, List.set_cons_zero, List.set_cons_succ]
        refine wpAnyH_take (i := 44) (v := ?_) (by simp only [List.getElem?_toArray, List.getElem?_cons_zero, List.getElem?_cons_succ]; exact rfl) (by kernel_rfl) (by kernel_rfl) (by kernel_rfl) (by exact fun _ _ _ h => h) (Or.inl ⟨by rfl, ?_⟩) hHeld ?_
        rotate_left
        · intro w' hSw
          obtain ⟨hS0, hS1, hS2, hS3, hS4, hS5, hS6⟩ := hSw
          go_simp
          try with_reducible rfl
        try simp only [Act.put, List.setIfInBounds_toArray, List.set_cons_zero, List.set_cons_succ]
        refine wpAnyH_ready (rs := [45]) (by kernel_rfl) (by simp) ?_
        refine AllReadyH.cons (by simp only [List.getElem?_toArray, List.getElem?_cons_zero, List.getElem?_cons_succ]; exact rfl) (fun K hK => ?_) AllReadyH.nil
        refine want_true9 (by rfl) ?_
        go_wp2_with fail
        refine (KL.out _ pI3.out).mono ?_
        rintro e p4 ⟨a9, n9, c9, rfl, p9, hb⟩
        have pI4 : Hid (Below W0.heap.size W0 p4) := pI3.out.trans (hb.mono pI3.out.size)
        have K9 := Lib.hid (KSL.out _ a9 n9 c9 pI4.out p9.le)
        go_wp2_with fail
        refine hK.out _ _ (SS.out _ pI4) (fun hHeld => ?_)
        clear hK K hb
        try simp only [Act.put, List.setIfInBounds_toArray, List.set_cons_zero, List.set_cons_succ]
        refine wpAnyH_take (i := 46) (v := ?_) (by simp only [List.getElem?_toArray, List.getElem?_cons_zero, List.getElem?_cons_succ]; exact rfl) (by kernel_rfl) (by kernel_rfl) (by kernel_rfl) (by exact fun _ _ _ h => h) (Or.inl ⟨by rfl, ?_⟩) hHeld ?_
        rotate_left
        · intro w' hSw
          obtain ⟨hS0, hS1, hS2, hS3, hS4, hS5, hS6⟩ := hSw
          go_simp
          try with_reducible rfl
        try simp only [Act.put, List.setIfInBounds_toArray, List.set_cons_zero, List.set_cons_succ]
        refine wpAnyH_ready (rs := [47]) (by kernel_rfl) (by simp) ?_
        refine AllReadyH.cons (by simp only [List.getElem?_toArray, List.getElem?_cons_zero, List.getElem?_cons_succ]; exact rfl) (fun K hK => ?_) AllReadyH.nil
        refine want_true9 (by rfl) ?_
        go_wp2_with fail
        refine (K9.out).mono ?_
        rintro e p5 ⟨rfl, hb⟩
        have pI5 : Hid (Below W0.heap.size W0 p5) := pI4.out.trans (hb.mono pI4.out.size)
        skip
        go_wp2_with fail
        refine hK.out _ _ (SS.out _ pI5) (fun hHeld => ?_)
        clear hK K hb
        try simp only [Act.put, List.setIfInBounds_toArray, List.set_cons_zero, List.set_cons_succ]
        refine wpAnyH_take (i := 48) (v := ?_) (by simp only [List.getElem?_toArray, List.getElem?_cons_zero, List.getElem?_cons_succ]; exact rfl) (by kernel_rfl) (by kernel_rfl) (by kernel_rfl) (by exact fun _ _ _ h => h) (Or.inl ⟨by rfl, ?_⟩) hHeld ?_
        rotate_left
        · intro w' hSw
          obtain ⟨hS0, hS1, hS2, hS3, hS4, hS5, hS6⟩ := hSw
          go_simp
          try with_reducible rfl
        try simp only [Act.put, List.setIfInBounds_toArray, List.set_cons_zero, List.set_cons_succ]
        refine wpAnyH_take (i := 49) (v := ?_) (by simp only [List.getElem?_toArray, List.getElem?_cons_zero, List.getElem?_cons_succ]; exact rfl) (by kernel_rfl) (by kernel_rfl) (by kernel_rfl) (by exact fun _ _ _ h => h) (Or.inl ⟨by rfl, ?_⟩) hHeld ?_
        rotate_left
        · intro w' hSw
          obtain ⟨hS0, hS1, hS2, hS3, hS4, hS5, hS6⟩ := hSw
          go_simp
          try with_reducible rfl
        try simp only [Act.put, List.setIfInBounds_toArray, List.set_cons_zero, List.set_cons_succ]
        refine wpAnyH_done (by kernel_rfl) ?_ _
        go_wp2
        go_ret
        exact ⟨rfl, B0.out.trans (pI5.out.mono B0.out.size)⟩
      · by_cases he : t = 99940000
        · subst he
          have KF2 := KF0 100000000 (by omega) (by omega)
          clear KF0 lv lc hcl hx hm
          obtain ⟨x0, x1, y0, y1, z0, z1, _⟩ := SS.out wr hB
          go_wp2_with fail
          clear x0 x1 y0 y1 z0 z1
          have pI0 : Hid (Below W0.heap.size W0 wr.drew) := hB.out.drew
          refine wp_region_held_drew (S := (fun W => W.cell? ⟨gl, 0, none⟩ = some (.int .i64 0) ∧ W.cell? ⟨gl, 1, none⟩ = some (.slice al nl kl) ∧ W.cell? ⟨gf, 0, none⟩ = some (.int .i64 Fc) ∧ W.cell? ⟨gf, 1, none⟩ = some (.int .i64 Fv) ∧ W.cell? ⟨ga, 0, none⟩ = some (.int .i64 0) ∧ W.cell? ⟨ga, 1, none⟩ = some (.slice aa na ka) ∧ Hid (Below W0.heap.size W0 W))) (by kernel_rfl) (SS.out _ pI0) (fun hHeld => ?_)
          refine wpAnyH_take (i := 0) (v := ?_) (by simp only [List.getElem?_toArray, List.getElem?_cons_zero]; exact rfl) (by kernel_rfl) (by kernel_rfl) (by kernel_rfl) (by exact fun _ _ _ h => h) (Or.inl ⟨by rfl, ?_⟩) hHeld ?_
          rotate_left
          · intro w' hSw
            obtain ⟨hS0, hS1, hS2, hS3, hS4, hS5, hS6⟩ := hSw
            go_simp
            try with_reducible rfl
          try simp only [Act.put, List.setIfInBounds_toArray, List.set_cons_zero, List.set_cons_succ]
          refine wpAnyH_take (i := 1) (v := ?_) (by simp only [List.getElem?_toArray, List.getElem?_cons_zero, List.getElem?_cons_succ]; exact rfl) (by kernel_rfl) (by kernel_rfl) (by kernel_rfl) (by exact fun _ _ _ h => h) (Or.inl ⟨by rfl, ?_⟩) hHeld ?_
          rotate_left
          · intro w' hSw
            obtain ⟨hS0, hS1, hS2, hS3, hS4, hS5, hS6⟩ := hSw
            go_simp
            try with_reducible rfl
          try simp only [Act.put, List.setIfInBounds_toArray, List.set_cons_zero, List.set_cons_succ]
          refine wpAnyH_ready (rs := [2]) (by kernel_rfl) (by simp) ?_
          refine AllReadyH.cons (by simp only [List.getElem?_toArray, List.getElem?_cons_zero, List.getElem?_cons_succ]; exact rfl) (fun K hK => ?_) AllReadyH.nil
          refine want_none9 (by exact rfl) ?_
          go_wp2_with fail
          refine (KCL.out _ pI0.out).mono ?_
          rintro e p1 ⟨rfl, hb⟩
          have pI1 : Hid (Below W0.heap.size W0 p1) := pI0.out.trans (hb.mono pI0.out.size)
          skip
          go_wp2_with fail
          refine hK.out _ _ (SS.out _ pI1) (fun hHeld => ?_)
          clear hK K hb
          try simp only [Act.put, List.setIfInBounds_toArray, List.set_cons_zero, List.set_cons_succ]
          refine wpAnyH_take (i := 3) (v := ?_) (by simp only [List.getElem?_toArray, List.getElem?_cons_zero, List.getElem?_cons_succ]; exact rfl) (by kernel_rfl) (by kernel_rfl) (by kernel_rfl) (by exact fun _ _ _ h => h) (Or.inl ⟨by rfl, ?_⟩) hHeld ?_
          rotate_left
          · intro w' hSw
            obtain ⟨hS0, hS1, hS2, hS3, hS4, hS5, hS6⟩ := hSw
            go_simp
            try with_reducible rfl
          try simp only [Act.put, List.setIfInBounds_toArray, List.set_cons_zero, List.set_cons_succ]
          refine wpAnyH_take (i := 4) (v := ?_) (by simp only [List.getElem?_toArray, List.getElem?_cons_zero, List.getElem?_cons_succ]; exact rfl) (by kernel_rfl) (by kernel_rfl) (by kernel_rfl) (by exact fun _ _ _ h => h) (Or.inl ⟨by rfl, ?_⟩) hHeld ?_
          rotate_left
          · intro w' hSw
            obtain ⟨hS0, hS1, hS2, hS3, hS4, hS5, hS6⟩ := hSw
            go_simp
            try with_reducible rfl
          try simp only [Act.put, List.setIfInBounds_toArray, List.set_cons_zero, List.set_cons_succ]
          refine wpAnyH_take (i := 5) (v := ?_) (by simp only [List.getElem?_toArray, List.getElem?_cons_zero, List.getElem?_cons_succ]; exact rfl) (by kernel_rfl) (by kernel_rfl) (by kernel_rfl) (by exact fun _ _ _ h => h) (Or.inl ⟨by rfl, ?_⟩) hHeld ?_
          rotate_left
          · intro w' hSw
            obtain ⟨hS0, hS1, hS2, hS3, hS4, hS5, hS6⟩ := hSw
            go_simp
            try with_reducible rfl
          try simp only [Act.put, List.setIfInBounds_toArray, List.set_cons_zero, List.set_cons_succ]
          refine wpAnyH_take (i := 6) (v := ?_) (by simp only [List.getElem?_toArray, List.getElem?_cons_zero, List.getElem?_cons_succ]; exact rfl) (by kernel_rfl) (by kernel_rfl) (by kernel_rfl) (by exact fun _ _ _ h => h) (Or.inl ⟨by rfl, ?_⟩) hHeld ?_
          rotate_left
          · intro w' hSw
            obtain ⟨hS0, hS1, hS2, hS3, hS4, hS5, hS6⟩ := hSw
            go_simp
            try with_reducible rfl
          try simp only [Act.put, List.setIfInBounds_toArray, List.set_cons_zero, List.set_cons_succ]
          refine wpAnyH_take (i := 7) (v := ?_) (by simp only [List.getElem?_toArray, List.getElem?_cons_zero, List.getElem?_cons_succ]; exact rfl) (by kernel_rfl) (by kernel_rfl) (by kernel_rfl) (by exact fun _ _ _ h => h) (Or.inl ⟨by rfl, ?_⟩) hHeld ?_
          rotate_left
          · intro w' hSw
            obtain ⟨hS0, hS1, hS2, hS3, hS4, hS5, hS6⟩ := hSw
            go_simp
            try with_reducible rfl
          try simp only [Act.put, List.setIfInBounds_toArray, List.set_cons_zero, List.set_cons_succ]
          refine wpAnyH_take (i := 8) (v := ?_) (by simp only [List.getElem?_toArray, List.getElem?_cons_zero, List.getElem?_cons_succ]; exact rfl) (by kernel_rfl) (by kernel_rfl) (by kernel_rfl) (by exact fun _ _ _ h => h) (Or.inl ⟨by rfl, ?_⟩) hHeld ?_
          rotate_left
          · intro w' hSw
            obtain ⟨hS0, hS1, hS2, hS3, hS4, hS5, hS6⟩ := hSw
            go_simp
            try with_reducible rfl
          try simp only [Act.put, List.setIfInBounds_toArray, List.set_cons_zero, List.set_cons_succ]
          refine wpAnyH_take (i := 10) (v := ?_) (by simp only [List.getElem?_toArray, List.getElem?_cons_zero, List.getElem?_cons_succ]; exact rfl) (by kernel_rfl) (by kernel_rfl) (by kernel_rfl) (by exact fun _ _ _ h => h) (Or.inl ⟨by rfl, ?_⟩) hHeld ?_
          rotate_left
          · intro w' hSw
            obtain ⟨hS0, hS1, hS2, hS3, hS4, hS5, hS6⟩ := hSw
            go_simp
            try with_reducible rfl
          try simp only [Act.put, List.setIfInBounds_toArray, List.set_cons_zero, List.set_cons_succ]
          refine wpAnyH_take (i := 11) (v := ?_) (by simp only [List.getElem?_toArray, List.getElem?_cons_zero, List.getElem?_cons_succ]; exact rfl) (by kernel_rfl) (by kernel_rfl) (by kernel_rfl) (by exact fun _ _ _ h => h) (Or.inl ⟨by rfl, ?_⟩) hHeld ?_
          rotate_left
          · intro w' hSw
            obtain ⟨hS0, hS1, hS2, hS3, hS4, hS5, hS6⟩ := hSw
            go_simp
            try with_reducible rfl
          try simp only [Act.put, List.setIfInBounds_toArray, List.set_cons_zero, List.set_cons_succ]
          refine wpAnyH_ready (rs := [9]) (by kernel_rfl) (by simp) ?_
          refine AllReadyH.cons (by simp only [List.getElem?_toArray, List.getElem?_cons_zero, List.getElem?_cons_succ]; exact rfl) (fun K hK => ?_) AllReadyH.nil
          refine want_true9 (by rfl) ?_
          go_wp2_with fail
          refine (KF1.out _ pI1.out).mono ?_
          rintro e p2 ⟨rfl, hb⟩
          have pI2 : Hid (Below W0.heap.size W0 p2) := pI1.out.trans (hb.mono pI1.out.size)
          skip
          go_wp2_with fail
          refine hK.out _ _ (SS.out _ pI2) (fun hHeld => ?_)
          clear hK K hb
          try simp only [Act.put, List.setIfInBounds_toArray, List.set_cons_zero, List.set_cons_succ]
          refine wpAnyH_take (i := 12) (v := ?_) (by simp only [List.getElem?_toArray, List.getElem?_cons_zero, List.getElem?_cons_succ]; exact rfl) (by kernel_rfl) (by kernel_rfl) (by kernel_rfl) (by exact fun _ _ _ h => h) (Or.inl ⟨by rfl, ?_⟩) hHeld ?_
          rotate_left
          · intro w' hSw
            obtain ⟨hS0, hS1, hS2, hS3, hS4, hS5, hS6⟩ := hSw
            go_simp
            try with_reducible rfl
          try simp only [Act.put, List.setIfInBounds_toArray, List.set_cons_zero, List.set_cons_succ]
          refine wpAnyH_take (i := 13) (v := ?_) (by simp only [List.getElem?_toArray, List.getElem?_cons_zero, List.getElem?_cons_succ]; exact rfl) (by kernel_rfl) (by kernel_rfl) (by kernel_rfl) (by exact fun _ _ _ h => h) (Or.inl ⟨by rfl, ?_⟩) hHeld ?_
          rotate_left
          · intro w' hSw
            obtain ⟨hS0, hS1, hS2, hS3, hS4, hS5, hS6⟩ := hSw
            go_simp
            try with_reducible rfl
          try simp only [Act.put, List.setIfInBounds_toArray, List.set_cons_zero, List.set_cons_succ]
          refine wpAnyH_take (i := 14) (v := ?_) (by simp only [List.getElem?_toArray, List.getElem?_cons_zero, List.getElem?_cons_succ]; exact rfl) (by kernel_rfl) (by kernel_rfl) (by kernel_rfl) (by exact fun _ _ _ h => h) (Or.inl ⟨by rfl, ?_⟩) hHeld ?_
          rotate_left
          · intro w' hSw
            obtain ⟨hS0, hS1, hS2, hS3, hS4, hS5, hS6⟩ := hSw
            go_simp
            try with_reducible rfl
          try simp only [Act.put, List.setIfInBounds_toArray, List.set_cons_zero, List.set_cons_succ]
          refine wpAnyH_take (i := 15) (v := ?_) (by simp only [List.getElem?_toArray, List.getElem?_cons_zero, List.getElem?_cons_succ]; exact rfl) (by kernel_rfl) (by kernel_rfl) (by kernel_rfl) (by exact fun _ _ _ h => h) (Or.inl ⟨by rfl, ?_⟩) hHeld ?_
          rotate_left
          · intro w' hSw
            obtain ⟨hS0, hS1, hS2, hS3, hS4, hS5, hS6⟩ := hSw
            go_simp
            try with_reducible rfl
          try simp only [Act.put, List.setIfInBounds_toArray, List.set_cons_zero, List.set_cons_succ]
          refine wpAnyH_take (i := 16) (v := ?_) (by simp only [List.getElem?_toArray, List.getElem?_cons_zero, List.getElem?_cons_succ]; exact rfl) (by kernel_rfl) (by kernel_rfl) (by kernel_rfl) (by exact fun _ _ _ h => h) (Or.inl ⟨by rfl, ?_⟩) hHeld ?_
          rotate_left
          · intro w' hSw
            obtain ⟨hS0, hS1, hS2, hS3, hS4, hS5, hS6⟩ := hSw
            go_simp
            try with_reducible rfl
          try simp only [Act.put, List.setIfInBounds_toArray, List.set_cons_zero, List.set_cons_succ]
          refine wpAnyH_take (i := 17) (v := ?_) (by simp only [List.getElem?_toArray, List.getElem?_cons_zero, List.getElem?_cons_succ]; exact rfl) (by kernel_rfl) (by kernel_rfl) (by kernel_rfl) (by exact fun _ _ _ h => h) (Or.inl ⟨by rfl, ?_⟩) hHeld ?_
          rotate_left
          · intro w' hSw
            obtain ⟨hS0, hS1, hS2, hS3, hS4, hS5, hS6⟩ := hSw
            go_simp
            try with_reducible rfl
          try simp only [Act.put, List.setIfInBounds_toArray, List.set_cons_zero, List.set_cons_succ]
          refine wpAnyH_take (i := 18) (v := ?_) (by simp only [List.getElem?_toArray, List.getElem?_cons_zero, List.getElem?_cons_succ]; exact rfl) (by kernel_rfl) (by kernel_rfl) (by kernel_rfl) (by exact fun _ _ _ h => h) (Or.inl ⟨by rfl, ?_⟩) hHeld ?_
          rotate_left
          · intro w' hSw
            obtain ⟨hS0, hS1, hS2, hS3, hS4, hS5, hS6⟩ := hSw
            go_simp
            try with_reducible rfl
          try simp only [Act.put, List.setIfInBounds_toArray, List.set_cons_zero, List.set_cons_succ]
          refine wpAnyH_take (i := 20) (v := ?_) (by simp only [List.getElem?_toArray, List.getElem?_cons_zero, List.getElem?_cons_succ]; exact rfl) (by kernel_rfl) (by kernel_rfl) (by kernel_rfl) (by exact fun _ _ _ h => h) (Or.inl ⟨by rfl, ?_⟩) hHeld ?_
          rotate_left
          · intro w' hSw
            obtain ⟨hS0, hS1, hS2, hS3, hS4, hS5, hS6⟩ := hSw
            go_simp
            try with_reducible rfl
          try simp only [Act.put, List.setIfInBounds_toArray, List.set_cons_zero, List.set_cons_succ]
          refine wpAnyH_take (i := 21) (v := ?_) (by simp only [List.getElem?_toArray, List.getElem?_cons_zero, List.getElem?_cons_succ]; exact rfl) (by kernel_rfl) (by kernel_rfl) (by kernel_rfl) (by exact fun _ _ _ h => h) (Or.inl ⟨by rfl, ?_⟩) hHeld ?_
          rotate_left
          · intro w' hSw
            obtain ⟨hS0, hS1, hS2, hS3, hS4, hS5, hS6⟩ := hSw
            go_simp
            try with_reducible rfl
          try simp only [Act.put, List.setIfInBounds_toArray, List.set_cons_zero, List.set_cons_succ]
          refine wpAnyH_ready (rs := [19]) (by kernel_rfl) (by simp) ?_
          refine AllReadyH.cons (by simp only [List.getElem?_toArray, List.getElem?_cons_zero, List.getElem?_cons_succ]; exact rfl) (fun K hK => ?_) AllReadyH.nil
          refine want_true9 (by rfl) ?_
          go_wp2_with fail
          refine (KF2.out _ pI2.out).mono ?_
          rintro e p3 ⟨rfl, hb⟩
          have pI3 : Hid (Below W0.heap.size W0 p3) := pI2.out.trans (hb.mono pI2.out.size)
          skip
          go_wp2_with fail
          refine hK.out _ _ (SS.out _ pI3) (fun hHeld => ?_)
          clear hK K hb
          try simp only [Act.put, List.setIfInBounds_toArray, List.set_cons_zero, List.set_cons_succ]
          refine wpAnyH_take (i := 22) (v := ?_) (by simp only [List.getElem?_toArray, List.getElem?_cons_zero, List.getElem?_cons_succ]; exact rfl) (by kernel_rfl) (by kernel_rfl) (by kernel_rfl) (by exact fun _ _ _ h => h) (Or.inl ⟨by rfl, ?_⟩) hHeld ?_
          rotate_left
          · intro w' hSw
            obtain ⟨hS0, hS1, hS2, hS3, hS4, hS5, hS6⟩ := hSw
            go_simp
            try with_reducible rfl
          try simp only [Act.put, List.setIfInBounds_toArray, List.set_cons_zero, List.set_cons_succ]
          refine wpAnyH_take (i := 23) (v := ?_) (by simp only [List.getElem?_toArray, List.getElem?_cons_zero, List.getElem?_cons_succ]; exact rfl) (by kernel_rfl) (by kernel_rfl) (by kernel_rfl) (by exact fun _ _ _ h => h) (Or.inl ⟨by rfl, ?_⟩) hHeld ?_
          rotate_left
          · intro w' hSw
            obtain ⟨hS0, hS1, hS2, hS3, hS4, hS5, hS6⟩ := hSw
            go_simp
            try with_reducible rfl
          try simp only [Act.put, List.setIfInBounds_toArray, List.set_cons_zero, List.set_cons_succ]
          refine wpAnyH_take (i := 24) (v := ?_) (by simp only [List.getElem?_toArray, List.getElem?_cons_zero, List.getElem?_cons_succ]; exact rfl) (by kernel_rfl) (by kernel_rfl) (by kernel_rfl) (by exact fun _ _ _ h => h) (Or.inl ⟨by rfl, ?_⟩) hHeld ?_
          rotate_left
          · intro w' hSw
            obtain ⟨hS0, hS1, hS2, hS3, hS4, hS5, hS6⟩ := hSw
            go_simp
            try with_reducible rfl
          try simp only [Act.put, List.setIfInBounds_toArray, List.set_cons_zero, List.set_cons_succ]
          refine wpAnyH_take (i := 25) (v := ?_) (by simp only [List.getElem?_toArray, List.getElem?_cons_zero, List.getElem?_cons_succ]; exact rfl) (by kernel_rfl) (by kernel_rfl) (by kernel_rfl) (by exact fun _ _ _ h => h) (Or.inl ⟨by rfl, ?_⟩) hHeld ?_
          rotate_left
          · intro w' hSw
            obtain ⟨hS0, hS1, hS2, hS3, hS4, hS5, hS6⟩ := hSw
            go_simp
            try with_reducible rfl
          try simp only [Act.put, List.setIfInBounds_toArray, List.set_cons_zero, List.set_cons_succ]
          refine wpAnyH_take (i := 26) (v := ?_) (by simp only [List.getElem?_toArray, List.getElem?_cons_zero, List.getElem?_cons_succ]; exact rfl) (by kernel_rfl) (by kernel_rfl) (by kernel_rfl) (by exact fun _ _ _ h => h) (Or.inl ⟨by rfl, ?_⟩) hHeld ?_
          rotate_left
          · intro w' hSw
            obtain ⟨hS0, hS1, hS2, hS3, hS4, hS5, hS6⟩ := hSw
            go_simp
            try with_reducible rfl
          try simp only [Act.put, List.setIfInBounds_toArray, List.set_cons_zero, List.set_cons_succ]
          refine wpAnyH_take (i := 27) (v := ?_) (by simp only [List.getElem?_toArray, List.getElem?_cons_zero, List.getElem?_cons_succ]; exact rfl) (by kernel_rfl) (by kernel_rfl) (by kernel_rfl) (by exact fun _ _ _ h => h) (Or.inl ⟨by rfl, ?_⟩) hHeld ?_
          rotate_left
          · intro w' hSw
            obtain ⟨hS0, hS1, hS2, hS3, hS4, hS5, hS6⟩ := hSw
            go_simp
            try with_reducible rfl
          try simp only [Act.put, List.setIfInBounds_toArray, List.set_cons_zero, List.set_cons_succ]
          refine wpAnyH_take (i := 28) (v := undef) (by simp only [List.getElem?_toArray, List.getElem?_cons_zero, List.getElem?_cons_succ]; exact rfl) (by kernel_rfl) (by kernel_rfl) (by kernel_rfl) (by exact fun _ _ _ h => h) (Or.inr ⟨by rfl, rfl⟩) hHeld ?_
          try simp only [Act.put, List.setIfInBounds_toArray, List.set_cons_zero, List.set_cons_succ]
          refine wpAnyH_take (i := 29) (v := undef) (by simp only [List.getElem?_toArray, List.getElem?_cons_zero, List.getElem?_cons_succ]; exact rfl) (by kernel_rfl) (by kernel_rfl) (by kernel_rfl) (by exact fun _ _ _ h => h) (Or.inr ⟨by rfl, rfl⟩) hHeld ?_
          try simp only [Act.put, List.setIfInBounds_toArray, List.set_cons_zero, List.set_cons_succ]
          refine wpAnyH_take (i := 30) (v := undef) (by simp only [List.getElem?_toArray, List.getElem?_cons_zero, List.getElem?_cons_succ]; exact rfl) (by kernel_rfl) (by kernel_rfl) (by kernel_rfl) (by exact fun _ _ _ h => h) (Or.inr ⟨by rfl, rfl⟩) hHeld ?_
          try simp only [Act.put, List.setIfInBounds_toArray, List.set_cons_zero, List.set_cons_succ]
          refine wpAnyH_take (i := 31) (v := undef) (by simp only [List.getElem?_toArray, List.getElem?_cons_zero, List.getElem?_cons_succ]; exact rfl) (by kernel_rfl) (by kernel_rfl) (by kernel_rfl) (by exact fun _ _ _ h => h) (Or.inr ⟨by rfl, rfl⟩) hHeld ?_
          try simp only [Act.put, List.setIfInBounds_toArray, List.set_cons_zero, List.set_cons_succ]
          refine wpAnyH_take (i := 32) (v := undef) (by simp only [List.getElem?_toArray, List.getElem?_cons_zero, List.getElem?_cons_succ]; exact rfl) (by kernel_rfl) (by kernel_rfl) (by kernel_rfl) (by exact fun _ _ _ h => h) (Or.inr ⟨by rfl, rfl⟩) hHeld ?_
          try simp only [Act.put, List.setIfInBounds_toArray, List.set_cons_zero, List.set_cons_succ]
          refine wpAnyH_take (i := 33) (v := undef) (by simp only [List.getElem?_toArray, List.getElem?_cons_zero, List.getElem?_cons_succ]; exact rfl) (by kernel_rfl) (by kernel_rfl) (by kernel_rfl) (by exact fun _ _ _ h => h) (Or.inr ⟨by rfl, rfl⟩) hHeld ?_
          try simp only [Act.put, List.setIfInBounds_toArray, List.set_cons_zero, List.set_cons_succ]
          refine wpAnyH_take (i := 34) (v := undef) (by simp only [List.getElem?_toArray, List.getElem?_cons_zero, List.getElem?_cons_succ]; exact rfl) (by kernel_rfl) (by kernel_rfl) (by kernel_rfl) (by exact fun _ _ _ h => h) (Or.inr ⟨by rfl, rfl⟩) hHeld ?_
          try simp only [Act.put, List.setIfInBounds_toArray, List.set_cons_zero, List.set_cons_succ]
          refine wpAnyH_take (i := 35) (v := undef) (by simp only [List.getElem?_toArray, List.getElem?_cons_zero, List.getElem?_cons_succ]; exact rfl) (by kernel_rfl) (by kernel_rfl) (by kernel_rfl) (by exact fun _ _ _ h => h) (Or.inr ⟨by rfl, rfl⟩) hHeld ?_
          try simp only [Act.put, List.setIfInBounds_toArray, List.set_cons_zero, List.set_cons_succ]
          refine wpAnyH_take (i := 36) (v := ?_) (by simp only [List.getElem?_toArray, List.getElem?_cons_zero, List.getElem?_cons_succ]; exact rfl) (by kernel_rfl) (by kernel_rfl) (by kernel_rfl) (by exact fun _ _ _ h => h) (Or.inl ⟨by rfl, ?_⟩) hHeld ?_
          rotate_left
          · intro w' hSw
            obtain ⟨hS0, hS1, hS2, hS3, hS4, hS5, hS6⟩ := hSw
            go_simp
            try with_reducible rfl
          try simp only [Act.put, List.setIfInBounds_toArray, List.set_cons_zero, List.set_cons_succ]
          refine wpAnyH_take (i := 37) (v := ?_) (by simp only [List.getElem?_toArray, List.getElem?_cons_zero, List.getElem?_cons_succ]; exact rfl) (by kernel_rfl) (by kernel_rfl) (by kernel_rfl) (by exact fun _ _ _ h => h) (Or.inl ⟨by rfl, ?_⟩) hHeld ?_
          rotate_left
          · intro w' hSw
            obtain ⟨hS0, hS1, hS2, hS3, hS4, hS5, hS6⟩ := hSw
            go_simp
            try with_reducible rfl
          try simp only [Act.put, List.setIfInBounds_toArray, List.set_cons_zero, List.set_cons_succ]
          refine wpAnyH_take (i := 38) (v := ?_) (by simp only [List.getElem?_toArray, List.getElem?_cons_zero, List.getElem?_cons_succ]; exact rfl) (by kernel_rfl) (by kernel_rfl) (by kernel_rfl) (by exact fun _ _ _ h => h) (Or.inl ⟨by rfl, ?_⟩) hHeld ?_
          rotate_left
          · intro w' hSw
            obtain ⟨hS0, hS1, hS2, hS3, hS4, hS5, hS6⟩ := hSw
            go_simp
            try with_reducible rfl
          try simp only [Act.put, List.setIfInBounds_toArray, List.set_cons_zero, List.set_cons_succ]
          refine wpAnyH_take (i := 39) (v := ?_) (by simp only [List.getElem?_toArray, List.getElem?_cons_zero, List.getElem?_cons_succ]; exact rfl) (by kernel_rfl) (by kernel_rfl) (by kernel_rfl) (by exact fun _ _ _ h => h) (Or.inl ⟨by rfl, ?_⟩) hHeld ?_
          rotate_left
          · intro w' hSw
            obtain ⟨hS0, hS1, hS2, hS3, hS4, hS5, hS6⟩ := hSw
            go_simp
            try with_reducible rfl
          try simp only [Act.put, List.setIfInBounds_toArray, List.set_cons_zero, List.set_cons_succ]
          refine wpAnyH_take (i := 40) (v := ?_) (by simp only [List.getElem?_toArray, List.getElem?_cons_zero, List.getElem?_cons_succ]; exact rfl) (by kernel_rfl) (by kernel_rfl) (by kernel_rfl) (by exact fun _ _ _ h => h) (Or.inl ⟨by rfl, ?_⟩) hHeld ?_
          rotate_left
          · intro w' hSw
            obtain ⟨hS0, hS1, hS2, hS3, hS4, hS5, hS6⟩ := hSw
            go_simp
            try with_reducible rfl
          try simp only [Act.put, List.setIfInBounds_toArray, List.set_cons_zero, List.set_cons_succ]
          refine wpAnyH_take (i := 41) (v := ?_) (by simp only [List.getElem?_toArray, List.getElem?_cons_zero, List.getElem?_cons_succ]; exact rfl) (by kernel_rfl) (by kernel_rfl) (by kernel_rfl) (by exact fun _ _ _ h => h) (Or.inl ⟨by rfl, ?_⟩) hHeld ?_
          rotate_left
          · intro w' hSw
            obtain ⟨hS0, hS1, hS2, hS3, hS4, hS5, hS6⟩ := hSw
            go_simp
            try with_reducible rfl
          try simp only [Act.put, List.setIfInBounds_toArray, List.set_cons_zero, List.set_cons_succ]
          refine wpAnyH_take (i := 42) (v := ?_) (by simp only [List.getElem?_toArray, List.getElem?_cons_zero, List.getElem?_cons_succ]; exact rfl) (by kernel_rfl) (by kernel_rfl) (by kernel_rfl) (by exact fun _ _ _ h => h) (Or.inl ⟨by rfl, ?_⟩) hHeld ?_
          rotate_left
          · intro w' hSw
            obtain ⟨hS0, hS1, hS2, hS3, hS4, hS5, hS6⟩ := hSw
            go_simp
            try with_reducible rfl
          try simp only [Act.put, List.setIfInBounds_toArray, List.set_cons_zero, List.set_cons_succ]
          refine wpAnyH_take (i := 43) (v := ?_) (by simp only [List.getElem?_toArray, List.getElem?_cons_zero, List.getElem?_cons_succ]; exact rfl) (by kernel_rfl) (by kernel_rfl) (by kernel_rfl) (by exact fun _ _ _ h => h) (Or.inl ⟨by rfl, ?_⟩) hHeld ?_
          rotate_left
          · intro w' hSw
            obtain ⟨hS0, hS1, hS2, hS3, hS4, hS5, hS6⟩ := hSw
            go_simp
            try with_reducible rfl
          try simp only [Act.put, List.setIfInBounds_toArray, List.set_cons_zero, List.set_cons_succ]
          refine wpAnyH_take (i := 44) (v := ?_) (by simp only [List.getElem?_toArray, List.getElem?_cons_zero, List.getElem?_cons_succ]; exact rfl) (by kernel_rfl) (by kernel_rfl) (by kernel_rfl) (by exact fun _ _ _ h => h) (Or.inl ⟨by rfl, ?_⟩) hHeld ?_
          rotate_left
          · intro w' hSw
            obtain ⟨hS0, hS1, hS2, hS3, hS4, hS5, hS6⟩ := hSw
            go_simp
            try with_reducible rfl
          try simp only [Act.put, List.setIfInBounds_toArray, List.set_cons_zero, List.set_cons_succ]
          refine wpAnyH_ready (rs := [45]) (by kernel_rfl) (by simp) ?_
          refine AllReadyH.cons (by simp only [List.getElem?_toArray, List.getElem?_cons_zero, List.getElem?_cons_succ]; exact rfl) (fun K hK => ?_) AllReadyH.nil
          refine want_true9 (by rfl) ?_
          go_wp2_with fail
          refine (KL.out _ pI3.out).mono ?_
          rintro e p4 ⟨a9, n9, c9, rfl, p9, hb⟩
          have pI4 : Hid (Below W0.heap.size W0 p4) := pI3.out.trans (hb.mono pI3.out.size)
          have K9 := Lib.hid (KSL.out _ a9 n9 c9 pI4.out p9.le)
          go_wp2_with fail
          refine hK.out _ _ (SS.out _ pI4) (fun hHeld => ?_)
          clear hK K hb
          try simp only [Act.put, List.setIfInBounds_toArray, List.set_cons_zero, List.set_cons_succ]
          refine wpAnyH_take (i := 46) (v := ?_) (by simp only [List.getElem?_toArray, List.getElem?_cons_zero, List.getElem?_cons_succ]; exact rfl) (by kernel_rfl) (by kernel_rfl) (by kernel_rfl) (by exact fun _ _ _ h => h) (Or.inl ⟨by rfl, ?_⟩) hHeld ?_
          rotate_left
          · intro w' hSw
            obtain ⟨hS0, hS1, hS2, hS3, hS4, hS5, hS6⟩ := hSw
            go_simp
            try with_reducible rfl
          try simp only [Act.put, List.setIfInBounds_toArray, List.set_cons_zero, List.set_cons_succ]
          refine wpAnyH_ready (rs := [47]) (by kernel_rfl) (by simp) ?_
          refine AllReadyH.cons (by simp only [List.getElem?_toArray, List.getElem?_cons_zero, List.getElem?_cons_succ]; exact rfl) (fun K hK => ?_) AllReadyH.nil
          refine want_true9 (by rfl) ?_
          go_wp2_with fail
          refine (K9.out).mono ?_
          rintro e p5 ⟨rfl, hb⟩
          have pI5 : Hid (Below W0.heap.size W0 p5) := pI4.out.trans (hb.mono pI4.out.size)
          skip
          go_wp2_with fail
          refine hK.out _ _ (SS.out _ pI5) (fun hHeld => ?_)
          clear hK K hb
          try simp only [Act.put, List.setIfInBounds_toArray, List.set_cons_zero, List.set_cons_succ]
          refine wpAnyH_take (i := 48) (v := ?_) (by simp only [List.getElem?_toArray, List.getElem?_cons_zero, List.getElem?_cons_succ]; exact rfl) (by kernel_rfl) (by kernel_rfl) (by kernel_rfl) (by exact fun _ _ _ h => h) (Or.inl ⟨by rfl, ?_⟩) hHeld ?_
          rotate_left
          · intro w' hSw
            obtain ⟨hS0, hS1, hS2, hS3, hS4, hS5, hS6⟩ := hSw
            go_simp
            try with_reducible rfl
          try simp only [Act.put, List.setIfInBounds_toArray, List.set_cons_zero, List.set_cons_succ]
          refine wpAnyH_take (i := 49) (v := ?_) (by simp only [List.getElem?_toArray, List.getElem?_cons_zero, List.getElem?_cons_succ]; exact rfl) (by kernel_rfl) (by kernel_rfl) (by kernel_rfl) (by exact fun _ _ _ h => h) (Or.inl ⟨by rfl, ?_⟩) hHeld ?_
          rotate_left
          · intro w' hSw
            obtain ⟨hS0, hS1, hS2, hS3, hS4, hS5, hS6⟩ := hSw
            go_simp
            try with_reducible rfl
          try simp only [Act.put, List.setIfInBounds_toArray, List.set_cons_zero, List.set_cons_succ]
          refine wpAnyH_done (by kernel_rfl) ?_ _
          go_wp2
          go_ret
          exact ⟨rfl, B0.out.trans (pI5.out.mono B0.out.size)⟩
        · have KF2 := KF0 (t + 60000) (by omega) (by omega)
          have KF3 := Lib.hid (show ∀ W, Below W0.heap.size W0 W → Calls Try.prog 9 #[.slice al nl kl, .int .i64 x, .int .i64 (t + 60000 + 1)] W fun e w' => e = .returned (.agg #[.int .i64 4, .int .i64 (faV (lnE x m t es) x (t + 60000 + 1))]) ∧ Below W.heap.size W w' from fun W h => by have q := impl_find al nl kl _ x (t + 60000 + 1) W (PL.out.below h); rw [ln_gone HC.out.symm (by omega)] at q; exact q)
          have g2 : IntKind.i64.wrap (t + 60000 + 1) = t + 60000 + 1 := IntWalk.i64_in _ (by omega)
          have g3 : (t + 60000 == 100000000) = false := by simp; omega
          generalize faV (lnE x m t es) x (t + 60000 + 1) = fv at *
          clear KF0 lv lc hcl hx hm
          obtain ⟨x0, x1, y0, y1, z0, z1, _⟩ := SS.out wr hB
          go_wp2_with fail
          clear x0 x1 y0 y1 z0 z1
          obtain ⟨x0, x1, y0, y1, z0, z1, _⟩ := SS.out wr hB
          have pI0 : Hid (Below W0.heap.size W0 wr.drew) := hB.out.drew
          go_region_held3 (fun W => W.cell? ⟨gl, 0, none⟩ = some (.int .i64 0) ∧ W.cell? ⟨gl, 1, none⟩ = some (.slice al nl kl) ∧ W.cell? ⟨gf, 0, none⟩ = some (.int .i64 Fc) ∧ W.cell? ⟨gf, 1, none⟩ = some (.int .i64 Fv) ∧ W.cell? ⟨ga, 0, none⟩ = some (.int .i64 0) ∧ W.cell? ⟨ga, 1, none⟩ = some (.slice aa na ka) ∧ Hid (Below W0.heap.size W0 W))
            (first
              | (go_split_ands; refine SS.out _ ?_; (with_reducible assumption))
              | (go_split_ands; refine SS.out _ ?_; (with_reducible refine kDrew ?_); (with_reducible assumption)))
            (first
              | (have q := pM5; clear q; go_at_call 18; refine (K9.out).mono ?_; rintro e p6 ⟨rfl, hb⟩; have pM6 : Hid True := trivial; have pI6 : Hid (Below W0.heap.size W0 p6) := pI5.out.trans (hb.mono pI5.out.size))
              | (have q := pM4; clear q; go_at_call 13; refine (KL.out _ pI4.out).mono ?_; rintro e p5 ⟨a9, n9, c9, rfl, p9, hb⟩; have pM5 : Hid True := trivial; have pI5 : Hid (Below W0.heap.size W0 p5) := pI4.out.trans (hb.mono pI4.out.size); have K9 := Lib.hid (KSL.out _ a9 n9 c9 pI5.out p9.le))
              | (have q := pM3; clear q; go_at_call 9; refine (KF3.out _ pI3.out).mono ?_; rintro e p4 ⟨rfl, hb⟩; have pM4 : Hid True := trivial; have pI4 : Hid (Below W0.heap.size W0 p4) := pI3.out.trans (hb.mono pI3.out.size))
              | (have q := pM2; clear q; go_at_call 9; refine (KF2.out _ pI2.out).mono ?_; rintro e p3 ⟨rfl, hb⟩; have pM3 : Hid True := trivial; have pI3 : Hid (Below W0.heap.size W0 p3) := pI2.out.trans (hb.mono pI2.out.size))
              | (have q := pM1; clear q; go_at_call 9; refine (KF1.out _ pI1.out).mono ?_; rintro e p2 ⟨rfl, hb⟩; have pM2 : Hid True := trivial; have pI2 : Hid (Below W0.heap.size W0 p2) := pI1.out.trans (hb.mono pI1.out.size))
              | (go_at_call 16; refine (KCL.out _ pI0.out).mono ?_; rintro e p1 ⟨rfl, hb⟩; have pM1 : Hid True := trivial; have pI1 : Hid (Below W0.heap.size W0 p1) := pI0.out.trans (hb.mono pI0.out.size)))
          go_wp2
          go_ret
          exact ⟨rfl, B0.out.trans (pI6.out.mono B0.out.size)⟩
end Go.Proofs.Ytbngdenlplbjhaa
