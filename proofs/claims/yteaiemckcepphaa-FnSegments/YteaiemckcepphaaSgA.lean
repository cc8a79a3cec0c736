/-
  ReadSegment of the model, in one form.
-/
import Derived.Test.YteaiemckcepphaaSgR
namespace Go.Proofs.Yteaiemckcepphaa
open Go.ChangeShapes Go.WideShapes Go.ChangeAt Go.RowKit

/-- what ReadSegment answers -/
structure RsA where
  c : Int
  x : Sg
  rs : List Int
def rsNo (c : Int) : RsA := ⟨c, ⟨0, 0, 0, 0, 0, 0, 0⟩, []⟩
/-- how many bytes the head has, as it is told -/
def hdN (zs : List Int) : Nat := (zs.getD 12 0 / 16 * 4).toNat
def slnB (n : Nat) : Bool := decide (20 ≤ n ∧ n ≤ 560)
def opts (zs : List Int) : List Int := (zs.drop 20).take (hdN zs - 20)
def rsX (zs : List Int) : Sg := rsG zs (optV (opts zs))
def rsAns (f t : Int) (zs : List Int) : RsA :=
  if (ipB f && ipB t) = false then rsNo 3
  else if slnB zs.length = false then rsNo 2
  else if ¬ (20 ≤ hdN zs ∧ hdN zs ≤ zs.length) then rsNo 1
  else if ¬ dgSum f t 6 zs = 0 then rsNo 6
  else if optK (opts zs) = false then rsNo 1
  else if ¬ sgC (rsX zs) (zs.length - hdN zs) = 0 then rsNo (sgC (rsX zs) (zs.length - hdN zs))
  else ⟨0, rsX zs, zs.drop (hdN zs)⟩
def RsRes (w : World) (r : RsA) (e : Ending) (w' : World) : Prop := SegmentRes w r.c r.x.f r.x.t r.x.s r.x.a r.x.g r.x.w r.x.m r.rs e w'
theorem rs_ip {f t : Int} {zs : List Int} (h0 : (ipB f && ipB t) = false) : rsAns f t zs = rsNo 3 := by unfold rsAns; rw [if_pos h0]
theorem rs_len {f t : Int} {zs : List Int} (h0 : (ipB f && ipB t) = true) (h1 : slnB zs.length = false) : rsAns f t zs = rsNo 2 := by unfold rsAns; rw [if_neg (by rw [h0]; simp), if_pos h1]
theorem rs_form {f t : Int} {zs : List Int} (h0 : (ipB f && ipB t) = true) (h1 : slnB zs.length = true) (h2 : ¬ (20 ≤ hdN zs ∧ hdN zs ≤ zs.length)) : rsAns f t zs = rsNo 1 := by unfold rsAns; rw [if_neg (by rw [h0]; simp), if_neg (by rw [h1]; simp), if_pos h2]
theorem rs_sum {f t : Int} {zs : List Int} (h0 : (ipB f && ipB t) = true) (h1 : slnB zs.length = true) (h2 : 20 ≤ hdN zs ∧ hdN zs ≤ zs.length) (h3 : ¬ dgSum f t 6 zs = 0) : rsAns f t zs = rsNo 6 := by unfold rsAns; rw [if_neg (by rw [h0]; simp), if_neg (by rw [h1]; simp), if_neg (by simpa using h2), if_pos h3]
theorem rs_opt {f t : Int} {zs : List Int} (h0 : (ipB f && ipB t) = true) (h1 : slnB zs.length = true) (h2 : 20 ≤ hdN zs ∧ hdN zs ≤ zs.length) (h3 : dgSum f t 6 zs = 0) (h4 : optK (opts zs) = false) : rsAns f t zs = rsNo 1 := by unfold rsAns; rw [if_neg (by rw [h0]; simp), if_neg (by rw [h1]; simp), if_neg (by simpa using h2), if_neg (by simpa using h3), if_pos h4]
theorem rs_fin {f t : Int} {zs : List Int} (h0 : (ipB f && ipB t) = true) (h1 : slnB zs.length = true) (h2 : 20 ≤ hdN zs ∧ hdN zs ≤ zs.length) (h3 : dgSum f t 6 zs = 0) (h4 : optK (opts zs) = true) : rsAns f t zs = if ¬ sgC (rsX zs) (zs.length - hdN zs) = 0 then rsNo (sgC (rsX zs) (zs.length - hdN zs)) else ⟨0, rsX zs, zs.drop (hdN zs)⟩ := by unfold rsAns; rw [if_neg (by rw [h0]; simp), if_neg (by rw [h1]; simp), if_neg (by simpa using h2), if_neg (by simpa using h3), if_neg (by rw [h4]; simp)]
theorem rsAns_len (f t : Int) (zs : List Int) : (rsAns f t zs).rs.length ≤ 700 := by
  cases h0 : (ipB f && ipB t)
  · rw [rs_ip h0]; exact Nat.zero_le _
  cases h1 : slnB zs.length
  · rw [rs_len h0 h1]; exact Nat.zero_le _
  by_cases h2 : 20 ≤ hdN zs ∧ hdN zs ≤ zs.length
  case neg => rw [rs_form h0 h1 h2]; exact Nat.zero_le _
  by_cases h3 : dgSum f t 6 zs = 0
  case neg => rw [rs_sum h0 h1 h2 h3]; exact Nat.zero_le _
  cases h4 : optK (opts zs)
  · rw [rs_opt h0 h1 h2 h3 h4]; exact Nat.zero_le _
  rw [rs_fin h0 h1 h2 h3 h4]
  split
  · exact Nat.zero_le _
  · have := of_decide_eq_true h1
    simp only [List.length_drop]
    omega

set_option maxRecDepth 20000 in
set_option maxHeartbeats 4000000 in
theorem specReadSegment (f t : Int) (a : Option Addr) (len cap : Nat) (zs : List Int) (w : World) (hr : Rd w a len cap zs) :
    Calls Try.prog 19 #[.int .i64 f, .int .i64 t, .slice a len cap] w (RsRes w (rsAns f t zs)) := by
  obtain ⟨A, hA⟩ : ∃ A, A = rsAns f t zs := ⟨_, rfl⟩
  rw [← hA]
  have hl := hr.length
  have HA := Lib.hid hA
  have HR := Lib.hid hr
  have hml : len ≤ maxLen := Nat.le_trans hr.le hr.max
  unfold maxLen at hml
  clear hA
  cases m0 : ipB f
  · obtain rfl : A = rsNo 3 := HA.out.trans (rs_ip (by rw [m0]; rfl))
    clear HA HR hr
    go_enter Try.func19, Try.ntmps19
    go_wp2_with (go_at_call 60; refine (l2Ip_any _ _).mono ?_; rintro e w' ⟨rfl, rfl⟩)
    exact bodyPost_ret (v := .agg #[.int .i64 3, .int .i64 0, .int .i64 0, .int .i64 0, .int .i64 0, .int .i64 0, .int .i64 0, .int .i64 0, .slice none 0 0]) (by simp [results, Try.results19, go_sem]) rfl ⟨none, 0, 0, rfl, Own.nil _ _, (Below.refl _ _).alloc (Nat.le_refl _) _⟩
  cases m1 : ipB t
  · obtain rfl : A = rsNo 3 := HA.out.trans (rs_ip (by rw [m0, m1]; rfl))
    clear HA HR hr
    go_enter Try.func19, Try.ntmps19
    go_wp2_with (go_at_call 60; refine (l2Ip_any _ _).mono ?_; rintro e w' ⟨rfl, rfl⟩)
    exact bodyPost_ret (v := .agg #[.int .i64 3, .int .i64 0, .int .i64 0, .int .i64 0, .int .i64 0, .int .i64 0, .int .i64 0, .int .i64 0, .slice none 0 0]) (by simp [results, Try.results19, go_sem]) rfl ⟨none, 0, 0, rfl, Own.nil _ _, (Below.refl _ _).alloc (Nat.le_refl _) _⟩
  have HIP := Lib.hid (show (ipB f && ipB t) = true by rw [m0, m1]; rfl)
  by_cases h1 : 20 ≤ len
  case neg =>
    obtain rfl : A = rsNo 2 := HA.out.trans (rs_len HIP.out (by unfold slnB; exact decide_eq_false (by omega)))
    have e1 : decide ((len : Int) < 20) = true := decide_eq_true (by omega)
    clear HA HR hr HIP
    go_enter Try.func19, Try.ntmps19
    go_wp2_with (go_at_call 60; refine (l2Ip_any _ _).mono ?_; rintro e w' ⟨rfl, rfl⟩)
    exact bodyPost_ret (v := .agg #[.int .i64 2, .int .i64 0, .int .i64 0, .int .i64 0, .int .i64 0, .int .i64 0, .int .i64 0, .int .i64 0, .slice none 0 0]) (by simp [results, Try.results19, go_sem]) rfl ⟨none, 0, 0, rfl, Own.nil _ _, (Below.refl _ _).alloc (Nat.le_refl _) _⟩
  have e1 : decide ((len : Int) < 20) = false := decide_eq_false (by omega)
  by_cases h2 : len ≤ 560
  case neg =>
    obtain rfl : A = rsNo 2 := HA.out.trans (rs_len HIP.out (by unfold slnB; exact decide_eq_false (by omega)))
    have e2 : decide ((560 : Int) < len) = true := decide_eq_true (by omega)
    clear HA HR hr HIP
    go_enter Try.func19, Try.ntmps19
    go_wp2_with (go_at_call 60; refine (l2Ip_any _ _).mono ?_; rintro e w' ⟨rfl, rfl⟩)
    exact bodyPost_ret (v := .agg #[.int .i64 2, .int .i64 0, .int .i64 0, .int .i64 0, .int .i64 0, .int .i64 0, .int .i64 0, .int .i64 0, .slice none 0 0]) (by simp [results, Try.results19, go_sem]) rfl ⟨none, 0, 0, rfl, Own.nil _ _, (Below.refl _ _).alloc (Nat.le_refl _) _⟩
  have e2 : decide ((560 : Int) < len) = false := decide_eq_false (by omega)
  have HSL := Lib.hid (show slnB zs.length = true by unfold slnB; exact decide_eq_true (by omega))
  rcases hr.cells with h0 | ⟨ba, off, rfl, hc⟩
  · omega
  have hyb := hr.getD_bd 12
  obtain ⟨y, hy⟩ : ∃ y, zs.getD 12 0 = y := ⟨_, rfl⟩
  have c12 : w.cell? ⟨ba, off + 12, none⟩ = some (.int .u8 y) := by rw [← hy]; exact hc 12 (by omega)
  have hb12 : ba < w.heap.size := World.block_lt_of_cell? _ _ c12
  rw [hy] at hyb
  obtain ⟨h, hh⟩ : ∃ h, hdN zs = h := ⟨_, rfl⟩
  have hhy : (y / 16 * 4) = (h : Int) := by rw [← hh, hdN, hy]; omega
  have i12 : (12 : Int) < len := by omega
  have yw : IntKind.i64.wrap y = y := IntWalk.i64_in _ (by omega)
  have yq : y.tdiv 16 = y / 16 := Int.tdiv_eq_ediv_of_nonneg hyb.1
  have yqw : IntKind.i64.wrap (y / 16) = y / 16 := IntWalk.i64_in _ (by omega)
  have ym : IntKind.i64.wrap (y / 16 * 4) = (h : Int) := by rw [IntWalk.i64_in _ (by omega), hhy]
  have HH := Lib.hid hh
  have HR' := Lib.hid (fun W (hW : Below w.heap.size w W) => hr.below hW)
  have B0 := Lib.hid ((Below.refl w.heap.size w).alloc (Nat.le_refl _) (.cells #[.int .i64 0, .int .i64 0, .int .i64 0, .int .i64 0, .int .i64 0, .int .i64 0, .int .i64 0, .int .i64 0, .slice none 0 0] 34))
  have R0 := Lib.hid (Box.new w 34 #[.int .i64 0, .int .i64 0, .int .i64 0, .int .i64 0, .int .i64 0, .int .i64 0, .int .i64 0, .int .i64 0, .slice none 0 0])
  have k0 := Lib.hid (ipB_bd m0)
  have k1 := Lib.hid (ipB_bd m1)
  clear hr hc hh hy hhy hyb
  by_cases hh1 : 20 ≤ h
  case neg =>
    obtain rfl : A = rsNo 1 := HA.out.trans (rs_form HIP.out HSL.out (by rw [HH.out]; omega))
    have d1 : decide ((h : Int) < 20) = true := decide_eq_true (by omega)
    clear HA HR HIP HSL HH HR' k0 k1
    go_enter Try.func19, Try.ntmps19
    go_wp2_with (go_at_call 60; refine (l2Ip_any _ _).mono ?_; rintro e w' ⟨rfl, rfl⟩)
    exact bodyPost_ret (v := .agg #[.int .i64 1, .int .i64 0, .int .i64 0, .int .i64 0, .int .i64 0, .int .i64 0, .int .i64 0, .int .i64 0, .slice none 0 0]) (by simp [results, Try.results19, go_sem]) rfl ⟨none, 0, 0, rfl, Own.nil _ _, (Below.refl _ _).alloc (Nat.le_refl _) _⟩
  have d1 : decide ((h : Int) < 20) = false := decide_eq_false (by omega)
  by_cases hh2 : h ≤ len
  case neg =>
    obtain rfl : A = rsNo 1 := HA.out.trans (rs_form HIP.out HSL.out (by rw [HH.out]; omega))
    have d2 : decide ((len : Int) < h) = true := decide_eq_true (by omega)
    clear HA HR HIP HSL HH HR' k0 k1
    go_enter Try.func19, Try.ntmps19
    go_wp2_with (go_at_call 60; refine (l2Ip_any _ _).mono ?_; rintro e w' ⟨rfl, rfl⟩)
    exact bodyPost_ret (v := .agg #[.int .i64 1, .int .i64 0, .int .i64 0, .int .i64 0, .int .i64 0, .int .i64 0, .int .i64 0, .int .i64 0, .slice none 0 0]) (by simp [results, Try.results19, go_sem]) rfl ⟨none, 0, 0, rfl, Own.nil _ _, (Below.refl _ _).alloc (Nat.le_refl _) _⟩
  have d2 : decide ((len : Int) < h) = false := decide_eq_false (by omega)
  have HB := Lib.hid (show 20 ≤ hdN zs ∧ hdN zs ≤ zs.length by rw [HH.out, hl]; exact ⟨hh1, hh2⟩)
  obtain ⟨s, hs⟩ : ∃ s, dgSum f t 6 zs = s := ⟨_, rfl⟩
  have HS := Lib.hid hs
  have KS := Lib.hid (fun W (hW : Below w.heap.size w W) => l4Sum_any f t 6 _ len cap zs W (HR'.out W hW) (by have := k0.out; omega) (by have := k1.out; omega) (by omega) (by omega))
  rw [hs] at KS
  clear hs k0 k1
  go_enter Try.func19, Try.ntmps19
  go_wp2_with (go_at_call 60; refine (l2Ip_any _ _).mono ?_; rintro e w' ⟨rfl, rfl⟩)
  refine (KS.out _ B0.out).mono ?_
  rintro e w1 ⟨rfl, b1⟩
  have R1 := Lib.hid (R0.out.below b1 R0.out.lt)
  have B1 := Lib.hid (B0.out.trans (b1.mono B0.out.size))
  clear b1 R0 B0 KS
  by_cases hs0 : s = 0
  case neg =>
    obtain rfl : A = rsNo 6 := HA.out.trans (rs_sum HIP.out HSL.out HB.out (by rw [HS.out]; exact hs0))
    have hne : (s != 0) = true := by simpa using hs0
    clear HA HR HIP HSL HH HR' HB HS hs0
    obtain ⟨_, r0, r1, r2, r3, r4, r5, r6, r7, r8⟩ := R1.out.nine
    have f0 := R1.out.frozen 0
    have f1 := R1.out.frozen 1
    have f2 := R1.out.frozen 2
    have f3 := R1.out.frozen 3
    have f4 := R1.out.frozen 4
    have f5 := R1.out.frozen 5
    have f6 := R1.out.frozen 6
    have f7 := R1.out.frozen 7
    have f8 := R1.out.frozen 8
    go_wp2
    exact bodyPost_ret (v := .agg #[.int .i64 6, .int .i64 0, .int .i64 0, .int .i64 0, .int .i64 0, .int .i64 0, .int .i64 0, .int .i64 0, .slice none 0 0]) (by simp [results, Try.results19, go_sem, r0, r1, r2, r3, r4, r5, r6, r7, r8]) rfl ⟨none, 0, 0, rfl, Own.nil _ _, (((((((((B1.out.setCell (by simp) _).setCell (by simp) _).setCell (by simp) _).setCell (by simp) _).setCell (by simp) _).setCell (by simp) _).setCell (by simp) _).setCell (by simp) _).setCell (by simp) _)⟩
  subst hs0
  have HO : Hid (opts zs = (zs.drop 20).take (h - 20)) := by unfold opts; rw [HH.out]; rfl
  cases hk : optK (opts zs)
  · obtain rfl : A = rsNo 1 := HA.out.trans (rs_opt HIP.out HSL.out HB.out HS.out hk)
    have KL := Lib.hid (l5Read_no _ len cap h zs w1 (HR'.out _ B1.out) hh1 hh2 h2 (by rw [← HO.out]; exact hk))
    clear HA HR HIP HSL HH HR' HB HS HO hk
    go_wp2_with fail
    refine KL.out.mono ?_
    rintro e w2' ⟨rfl, b2⟩
    have R2 := Lib.hid ((R1.out.below b2 R1.out.lt).alloc (.cells #[.int .i64 0, .int .i64 0, .int .i64 0, .int .i64 0, .int .i64 0, .int .i64 0, .int .i64 0, .slice none 0 0] 25))
    have B2' := B1.out.trans (b2.mono B1.out.size)
    have B2 := Lib.hid (B2'.alloc B2'.size (.cells #[.int .i64 0, .int .i64 0, .int .i64 0, .int .i64 0, .int .i64 0, .int .i64 0, .int .i64 0, .slice none 0 0] 25))
    have hz2 := Lib.hid (show w.heap.size < w2'.heap.size from Nat.lt_of_lt_of_le R1.out.lt b2.size)
    clear b2 R1 B1 B2' KL
    have X2 := Lib.hid (Box.new w2' 25 #[.int .i64 0, .int .i64 0, .int .i64 0, .int .i64 0, .int .i64 0, .int .i64 0, .int .i64 0, .slice none 0 0])
    generalize hW : w2'.alloc (.cells #[.int .i64 0, .int .i64 0, .int .i64 0, .int .i64 0, .int .i64 0, .int .i64 0, .int .i64 0, .slice none 0 0] 25) = w2 at *
    go_wp2_with ((with_reducible change wpList _ _ _ (Oper.mk none (Op.store _ _ _) _ _ _ _ :: _) _ _); refine storeBox_list _ rfl 25 (.tmp 8) (.tmp 53) rfl w2'.heap.size 25 _ #[.int .i64 0, .int .i64 0, .int .i64 0, .int .i64 0, .int .i64 0, .int .i64 0, .int .i64 0, .slice none 0 0] X2.out (by exact rfl) (by exact rfl) (by kernel_rfl) (by exact rfl) (by simp [Value.oneCell']) ?_; intro w3 x3 g3; have R3 := Lib.hid (R2.out.grown g3 (by have := hz2.out; simp only [ne_eq, Option.some.injEq]; omega)); have B3 := Lib.hid (B2.out.grown g3 B2.out.size (fun k e => by have := hz2.out; cases e; omega)); clear x3 g3; clear hW; obtain ⟨_, r0, r1, r2, r3, r4, r5, r6, r7, r8⟩ := R3.out.nine; have f0 := R3.out.frozen 0; have f1 := R3.out.frozen 1; have f2 := R3.out.frozen 2; have f3 := R3.out.frozen 3; have f4 := R3.out.frozen 4; have f5 := R3.out.frozen 5; have f6 := R3.out.frozen 6; have f7 := R3.out.frozen 7; have f8 := R3.out.frozen 8)
    exact bodyPost_ret (v := .agg #[.int .i64 1, .int .i64 0, .int .i64 0, .int .i64 0, .int .i64 0, .int .i64 0, .int .i64 0, .int .i64 0, .slice none 0 0]) (by simp [results, Try.results19, go_sem, r0, r1, r2, r3, r4, r5, r6, r7, r8]) rfl ⟨none, 0, 0, rfl, Own.nil _ _, (((((((((B3.out.setCell (by simp) _).setCell (by simp) _).setCell (by simp) _).setCell (by simp) _).setCell (by simp) _).setCell (by simp) _).setCell (by simp) _).setCell (by simp) _).setCell (by simp) _)⟩
  have HF := Lib.hid (HA.out.trans (rs_fin HIP.out HSL.out HB.out HS.out hk))
  rw [HH.out, hl] at HF
  have KL := Lib.hid (l5Read_ok _ len cap h zs w1 (HR'.out _ B1.out) hh1 hh2 h2 (by rw [← HO.out]; exact hk))
  have HXX : Hid (rsG zs (optV ((zs.drop 20).take (h - 20))) = rsX zs) := by unfold rsX; rw [HO.out]; rfl
  rw [HXX.out] at KL
  have HYL := Lib.hid (show (zs.drop h).length = len - h by rw [List.length_drop, hl])
  clear HA HR HIP HSL HH HR' HB HS HO hk HXX
  generalize rsX zs = x at *
  generalize zs.drop h = ys at *
  obtain ⟨C, hC⟩ : ∃ C, C = sgC x (len - h) := ⟨_, rfl⟩
  rw [← hC] at HF
  have HC : Hid (sgC x ys.length = C) := by rw [HYL.out, hC]; rfl
  clear hC
  go_wp2_with fail
  refine KL.out.mono ?_
  rintro e w2' ⟨a2, l2, c2, rfl, o2, b2⟩
  rw [HC.out]
  have R2 := Lib.hid ((R1.out.below b2 R1.out.lt).alloc (.cells #[.int .i64 x.f, .int .i64 x.t, .int .i64 x.s, .int .i64 x.a, .int .i64 x.g, .int .i64 x.w, .int .i64 x.m, .slice a2 l2 c2] 25))
  have B2' := B1.out.trans (b2.mono B1.out.size)
  have B2 := Lib.hid (B2'.alloc B2'.size (.cells #[.int .i64 x.f, .int .i64 x.t, .int .i64 x.s, .int .i64 x.a, .int .i64 x.g, .int .i64 x.w, .int .i64 x.m, .slice a2 l2 c2] 25))
  have X2 := Lib.hid (Box.new w2' 25 #[.int .i64 x.f, .int .i64 x.t, .int .i64 x.s, .int .i64 x.a, .int .i64 x.g, .int .i64 x.w, .int .i64 x.m, .slice a2 l2 c2])
  have hr1 := R1.out.lt
  have hne2 : Hid (∀ u, a2 = some u → ¬ u.block = w.heap.size) := fun u hu e => by
    have := (o2.lt u hu).1
    omega
  have O2 := Lib.hid ((o2.rebase B1.out.size).alloc (.cells #[.int .i64 x.f, .int .i64 x.t, .int .i64 x.s, .int .i64 x.a, .int .i64 x.g, .int .i64 x.w, .int .i64 x.m, .slice a2 l2 c2] 25))
  clear b2 R1 B1 B2' KL o2 hr1
  generalize hW : w2'.alloc (.cells #[.int .i64 x.f, .int .i64 x.t, .int .i64 x.s, .int .i64 x.a, .int .i64 x.g, .int .i64 x.w, .int .i64 x.m, .slice a2 l2 c2] 25) = w2 at *
  by_cases hc0 : C = 0
  case neg =>
    obtain rfl : A = rsNo C := by rw [HF.out, if_pos hc0]
    have hne : (C != 0) = true := by simpa using hc0
    clear HF HC hc0 X2 O2
    obtain ⟨_, r0, r1, r2, r3, r4, r5, r6, r7, r8⟩ := R2.out.nine
    have f0 := R2.out.frozen 0
    have f1 := R2.out.frozen 1
    have f2 := R2.out.frozen 2
    have f3 := R2.out.frozen 3
    have f4 := R2.out.frozen 4
    have f5 := R2.out.frozen 5
    have f6 := R2.out.frozen 6
    have f7 := R2.out.frozen 7
    have f8 := R2.out.frozen 8
    go_wp2
    exact bodyPost_ret (v := .agg #[.int .i64 C, .int .i64 0, .int .i64 0, .int .i64 0, .int .i64 0, .int .i64 0, .int .i64 0, .int .i64 0, .slice none 0 0]) (by simp [results, Try.results19, go_sem, r0, r1, r2, r3, r4, r5, r6, r7, r8]) rfl ⟨none, 0, 0, rfl, Own.nil _ _, (((((((((B2.out.setCell (by simp) _).setCell (by simp) _).setCell (by simp) _).setCell (by simp) _).setCell (by simp) _).setCell (by simp) _).setCell (by simp) _).setCell (by simp) _).setCell (by simp) _)⟩
  subst hc0
  obtain rfl : A = ⟨0, x, ys⟩ := by rw [HF.out, if_neg (by simp)]
  clear HF HC
  obtain ⟨_, x0, x1, x2, x3, x4, x5, x6, x7⟩ := X2.out.eight
  obtain ⟨_, r0, r1, r2, r3, r4, r5, r6, r7, r8⟩ := R2.out.nine
  have f0 := R2.out.frozen 0
  have f1 := R2.out.frozen 1
  have f2 := R2.out.frozen 2
  have f3 := R2.out.frozen 3
  have f4 := R2.out.frozen 4
  have f5 := R2.out.frozen 5
  have f6 := R2.out.frozen 6
  have f7 := R2.out.frozen 7
  have f8 := R2.out.frozen 8
  go_wp2
  refine bodyPost_ret (v := .agg #[.int .i64 0, .int .i64 x.f, .int .i64 x.t, .int .i64 x.s, .int .i64 x.a, .int .i64 x.g, .int .i64 x.w, .int .i64 x.m, .slice a2 l2 c2]) (by simp [results, Try.results19, go_sem, r0, r1, r2, r3, r4, r5, r6, r7, r8]) rfl ⟨_, _, _, rfl, ?_, (((((((((B2.out.setCell (by simp) _).setCell (by simp) _).setCell (by simp) _).setCell (by simp) _).setCell (by simp) _).setCell (by simp) _).setCell (by simp) _).setCell (by simp) _).setCell (by simp) _)⟩
  exact (((((((((O2.out.setOther _ _ hne2.out).setOther _ _ hne2.out).setOther _ _ hne2.out).setOther _ _ hne2.out).setOther _ _ hne2.out).setOther _ _ hne2.out).setOther _ _ hne2.out).setOther _ _ hne2.out).setOther _ _ hne2.out)
end Go.Proofs.Yteaiemckcepphaa
