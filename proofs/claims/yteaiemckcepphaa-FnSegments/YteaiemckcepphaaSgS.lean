/-
  The model of segments: flags, faults, sizes, sameness, in closed form.
-/
import Derived.Test.YteaiemckcepphaaStSegment
import Derived.Test.YteaiemckcepphaaMB
namespace Go.Proofs.Yteaiemckcepphaa
open Go.ChangeShapes Go.WideShapes Go.ChangeAt Go.RowKit

/-- the numbers of a segment -/
structure Sg where
  f : Int
  t : Int
  s : Int
  a : Int
  g : Int
  w : Int
  m : Int
/-- flags g have the flag k -/
def flB (g k : Int) : Bool := decide (g / k % 2 = 1)
def sgN (x : Sg) : Bool := inB x.f 1 65535 && inB x.t 1 65535 && sqB x.s && sqB x.a && inB x.g 0 31 && inB x.w 0 65535 && inB x.m 0 65535
def sgC (x : Sg) (n : Nat) : Int := if sgN x then (if ((x.a != 0) && !flB x.g 16) || ((x.m != 0) && !flB x.g 2) then 1 else if n ≤ 520 then 0 else 2) else 3
theorem sgN_parts {x : Sg} (h : sgN x = true) : (1 ≤ x.f ∧ x.f ≤ 65535) ∧ (1 ≤ x.t ∧ x.t ≤ 65535) ∧ (0 ≤ x.s ∧ x.s < 4294967296) ∧ (0 ≤ x.a ∧ x.a < 4294967296) ∧ (0 ≤ x.g ∧ x.g ≤ 31) ∧ (0 ≤ x.w ∧ x.w ≤ 65535) ∧ (0 ≤ x.m ∧ x.m ≤ 65535) := by
  simp only [sgN, inB, sqB, Bool.and_eq_true, decide_eq_true_eq] at h
  omega
theorem sgC_parts {x : Sg} {n : Nat} (h : sgC x n = 0) : sgN x = true ∧ (flB x.g 16 = false → x.a = 0) ∧ (flB x.g 2 = false → x.m = 0) ∧ n ≤ 520 := by
  unfold sgC at h
  by_cases h1 : sgN x = true
  · rw [if_pos h1] at h
    by_cases h2 : (((x.a != 0) && !flB x.g 16) || ((x.m != 0) && !flB x.g 2)) = true
    · rw [if_pos h2] at h; omega
    · rw [if_neg h2] at h
      by_cases h3 : n ≤ 520
      · simp only [Bool.or_eq_true, Bool.and_eq_true, bne_iff_ne, ne_eq, Bool.not_eq_true', not_or, not_and, Bool.not_eq_false] at h2
        refine ⟨h1, fun k => ?_, fun k => ?_, h3⟩
        · by_cases q : x.a = 0
          · exact q
          · have := h2.1 q; rw [k] at this; cases this
        · by_cases q : x.m = 0
          · exact q
          · have := h2.2 q; rw [k] at this; cases this
      · rw [if_neg h3] at h; omega
  · rw [if_neg h1] at h; omega
/-- how much a segment counts -/
def sgZ (g : Int) (n : Nat) : Int := n + (if flB g 2 then 1 else 0) + (if flB g 1 then 1 else 0)

theorem l5Flag_any (b : Nat) (x : Sg) (a : Option Addr) (len cap : Nat) (k : Int) (w : World) (hx : Box w b 25 #[.int .i64 x.f, .int .i64 x.t, .int .i64 x.s, .int .i64 x.a, .int .i64 x.g, .int .i64 x.w, .int .i64 x.m, .slice a len cap]) (hg : 0 ≤ x.g ∧ x.g ≤ 31) (hk : 1 ≤ k ∧ k ≤ 16) :
    Calls Try.prog 82 #[.pointer (some ⟨b, 0, none⟩), .int .i64 k] w fun e w' => e = .returned (.bool (flB x.g k)) ∧ w = w' := by
  have c4 := hx.cell 4
  simp at c4
  have hq : x.g.tdiv k = x.g / k := Int.tdiv_eq_ediv_of_nonneg hg.1
  have hq0 : 0 ≤ x.g / k := Int.ediv_nonneg hg.1 (by omega)
  have hq1 : x.g / k ≤ x.g := Int.ediv_le_self _ hg.1
  have hw : IntKind.i64.wrap (x.g / k) = x.g / k := IntWalk.i64_in _ (by omega)
  have hr : (x.g / k).tmod 2 = x.g / k % 2 := Int.tmod_eq_emod_of_nonneg hq0
  have H : Hid (flB x.g k = (x.g / k % 2 == 1)) := rfl
  have hk0 : ¬ k = 0 := by omega
  have hk1 : ¬ k = -1 := by omega
  generalize x.g = g at *
  generalize flB g k = v at *
  go_enter Try.func82, Try.ntmps82
  go_wp2
  go_ret
  exact ⟨ret_b (by rw [H.out]), rfl⟩
set_option maxHeartbeats 2000000 in
theorem l5Numbers_any (b : Nat) (x : Sg) (a : Option Addr) (len cap : Nat) (w : World) (hx : Box w b 25 #[.int .i64 x.f, .int .i64 x.t, .int .i64 x.s, .int .i64 x.a, .int .i64 x.g, .int .i64 x.w, .int .i64 x.m, .slice a len cap]) :
    Calls Try.prog 81 #[.pointer (some ⟨b, 0, none⟩)] w fun e w' => e = .returned (.bool (sgN x)) ∧ w = w' := by
  obtain ⟨_, c0, c1, c2, c3, c4, c5, c6, c7⟩ := hx.eight
  have H : Hid (sgN x = (inB x.f 1 65535 && inB x.t 1 65535 && sqB x.s && sqB x.a && inB x.g 0 31 && inB x.w 0 65535 && inB x.m 0 65535)) := rfl
  clear hx
  generalize sgN x = v at *
  cases m0 : inB x.f 1 65535
  case' true => cases m1 : inB x.t 1 65535
  case' true.true => cases m2 : sqB x.s
  case' true.true.true => cases m3 : sqB x.a
  case' true.true.true.true => cases m4 : inB x.g 0 31
  case' true.true.true.true.true => cases m5 : inB x.w 0 65535
  case' true.true.true.true.true.true => cases m6 : inB x.m 0 65535
  all_goals
    go_enter Try.func81, Try.ntmps81
    go_wp2_with (first | (go_at_call 107; refine (l4Port_any _ _).mono ?_; rintro e w' ⟨rfl, rfl⟩) | (go_at_call 108; refine (l1Seq_any _ _).mono ?_; rintro e w' ⟨rfl, rfl⟩) | (go_at_call 87; refine (l1In_any _ _ _ _).mono ?_; rintro e w' ⟨rfl, rfl⟩))
    go_ret
    exact ⟨ret_b (by rw [H.out]; simp [*]), rfl⟩
set_option maxRecDepth 20000 in
set_option maxHeartbeats 4000000 in
theorem specSegmentFault (x : Sg) (a : Option Addr) (len cap : Nat) (w : World) :
    Calls Try.prog 22 #[.agg #[.int .i64 x.f, .int .i64 x.t, .int .i64 x.s, .int .i64 x.a, .int .i64 x.g, .int .i64 x.w, .int .i64 x.m, .slice a len cap]] w fun e w' => e = .returned (.int .i64 (sgC x len)) ∧ Below w.heap.size w w' := by
  have H : Hid (sgC x len = if sgN x then (if ((x.a != 0) && !flB x.g 16) || ((x.m != 0) && !flB x.g 2) then 1 else if len ≤ 520 then 0 else 2) else 3) := rfl
  have X0 := Lib.hid (Box.new w 25 #[.int .i64 x.f, .int .i64 x.t, .int .i64 x.s, .int .i64 x.a, .int .i64 x.g, .int .i64 x.w, .int .i64 x.m, .slice a len cap])
  have KN := Lib.hid (l5Numbers_any w.heap.size x a len cap (w.alloc (.cells #[.int .i64 x.f, .int .i64 x.t, .int .i64 x.s, .int .i64 x.a, .int .i64 x.g, .int .i64 x.w, .int .i64 x.m, .slice a len cap] 25)) X0.out)
  have KF := Lib.hid (fun (h : sgN x = true) (k : Int) (hk : 1 ≤ k ∧ k ≤ 16) => l5Flag_any w.heap.size x a len cap k (w.alloc (.cells #[.int .i64 x.f, .int .i64 x.t, .int .i64 x.s, .int .i64 x.a, .int .i64 x.g, .int .i64 x.w, .int .i64 x.m, .slice a len cap] 25)) X0.out (sgN_parts h).2.2.2.2.1 hk)
  generalize sgC x len = c at *
  cases m0 : sgN x
  · go_enter Try.func22, Try.ntmps22
    go_wp2_with fail
    refine KN.out.mono ?_
    rintro e w' ⟨rfl, rfl⟩
    rw [m0]
    go_wp2
    go_ret
    exact ⟨ret_i (by rw [H.out]; simp [m0]), (Below.refl _ _).alloc (Nat.le_refl _) _⟩
  · have K1 := Lib.hid (KF.out m0)
    cases m1 : (x.a != 0)
    case' true => cases m16 : flB x.g 16
    all_goals
      cases m2 : (x.m != 0)
    case' false.true => cases m12 : flB x.g 2
    case' true.true.true => cases m12 : flB x.g 2
    case' true.false.true => cases m12 : flB x.g 2
    all_goals
      rcases Nat.lt_or_ge 520 len with hl | hl
    all_goals
      first | (have hl' : len ≤ 520 := by omega) | (have hl' : ¬ len ≤ 520 := by omega)
      go_enter Try.func22, Try.ntmps22
      go_wp2_with fail
      refine KN.out.mono ?_
      rintro e w' ⟨rfl, rfl⟩
      rw [m0]
      go_wp2_with (go_at_call 82; refine (K1.out _ (by omega)).mono ?_; rintro e w' ⟨rfl, rfl⟩)
      go_ret
      exact ⟨ret_i (by rw [H.out]; simp [*]), (Below.refl _ _).alloc (Nat.le_refl _) _⟩
set_option maxRecDepth 20000 in
set_option maxHeartbeats 1000000 in
theorem l5Size_any (b : Nat) (x : Sg) (a : Option Addr) (len cap : Nat) (w : World) (hx : Box w b 25 #[.int .i64 x.f, .int .i64 x.t, .int .i64 x.s, .int .i64 x.a, .int .i64 x.g, .int .i64 x.w, .int .i64 x.m, .slice a len cap]) (hg : 0 ≤ x.g ∧ x.g ≤ 31) (hl : len ≤ 1000000) :
    Calls Try.prog 85 #[.pointer (some ⟨b, 0, none⟩)] w fun e w' => e = .returned (.int .i64 (sgZ x.g len)) ∧ w = w' := by
  have c7 := hx.cell 7
  simp at c7
  have K1 := Lib.hid (fun (k : Int) (hk : 1 ≤ k ∧ k ≤ 16) => l5Flag_any b x a len cap k w hx hg hk)
  have H : Hid (sgZ x.g len = len + (if flB x.g 2 then 1 else 0) + (if flB x.g 1 then 1 else 0)) := rfl
  clear hx
  generalize sgZ x.g len = v at *
  cases m1 : flB x.g 1 <;> cases m2 : flB x.g 2
  all_goals
    go_enter Try.func85, Try.ntmps85
    go_wp2_with (go_at_call 82; refine (K1.out _ (by omega)).mono ?_; rintro e w' ⟨rfl, rfl⟩)
    go_ret
    exact ⟨ret_i (by rw [H.out]; simp [m1, m2] <;> omega), rfl⟩
set_option maxRecDepth 20000 in
set_option maxHeartbeats 1000000 in
theorem specSegmentSize (x : Sg) (a : Option Addr) (len cap : Nat) (w : World) :
    Calls Try.prog 31 #[.agg #[.int .i64 x.f, .int .i64 x.t, .int .i64 x.s, .int .i64 x.a, .int .i64 x.g, .int .i64 x.w, .int .i64 x.m, .slice a len cap]] w fun e w' => e = .returned (.agg #[.int .i64 (sgC x len), .int .i64 (if sgC x len = 0 then sgZ x.g len else 0)]) ∧ Below w.heap.size w w' := by
  have KF := Lib.hid (fun W => specSegmentFault x a len cap W)
  have B0 := Lib.hid (((Below.refl w.heap.size w).alloc (Nat.le_refl _) (.cells #[.int .i64 x.f, .int .i64 x.t, .int .i64 x.s, .int .i64 x.a, .int .i64 x.g, .int .i64 x.w, .int .i64 x.m, .slice a len cap] 25)).alloc (by simp) (.cells #[.int .i64 0, .int .i64 0] 46))
  have X0 := Lib.hid ((Box.new w 25 #[.int .i64 x.f, .int .i64 x.t, .int .i64 x.s, .int .i64 x.a, .int .i64 x.g, .int .i64 x.w, .int .i64 x.m, .slice a len cap]).alloc (.cells #[.int .i64 0, .int .i64 0] 46))
  have R0 := Lib.hid (Box.new (w.alloc (.cells #[.int .i64 x.f, .int .i64 x.t, .int .i64 x.s, .int .i64 x.a, .int .i64 x.g, .int .i64 x.w, .int .i64 x.m, .slice a len cap] 25)) 46 #[.int .i64 0, .int .i64 0])
  simp only [World.size_alloc] at R0
  have HP := Lib.hid (fun h : sgC x len = 0 => sgC_parts h)
  obtain ⟨c, hc⟩ : ∃ c, c = sgC x len := ⟨_, rfl⟩
  obtain ⟨z, hz⟩ : ∃ z, z = sgZ x.g len := ⟨_, rfl⟩
  rw [← hc] at KF HP
  rw [← hc, ← hz]
  have HZ := Lib.hid hz
  clear hc hz
  go_enter Try.func31, Try.ntmps31
  go_wp2_with fail
  refine (KF.out _).mono ?_
  rintro e w1 ⟨rfl, b1⟩
  have X1 := Lib.hid (X0.out.below b1 X0.out.lt)
  have R1 := Lib.hid (R0.out.below b1 R0.out.lt)
  have B1 := Lib.hid (B0.out.trans (b1.mono B0.out.size))
  clear b1 X0 R0 B0 KF
  obtain ⟨_, r0, r1⟩ := R1.out.two
  have f0 := R1.out.frozen 0
  have f1 := R1.out.frozen 1
  by_cases h0 : c = 0
  · subst h0
    obtain ⟨hn, _, _, hl⟩ := HP.out rfl
    have KZ := Lib.hid (l5Size_any w.heap.size x a len cap w1 X1.out (sgN_parts hn).2.2.2.2.1 (by omega))
    rw [← HZ.out] at KZ
    clear HP hn
    go_wp2_with fail
    refine KZ.out.mono ?_
    rintro e w' ⟨rfl, rfl⟩
    go_wp2
    exact bodyPost_ret (v := .agg #[.int .i64 0, .int .i64 z]) (by simp [results, Try.results31, go_sem, r0, r1]) rfl ⟨by simp, (B1.out.setCell (by simp) _).setCell (by simp) _⟩
  · have hne : (c != 0) = true := by simpa using h0
    go_wp2
    exact bodyPost_ret (v := .agg #[.int .i64 c, .int .i64 0]) (by simp [results, Try.results31, go_sem, r0, r1]) rfl ⟨by simp, (B1.out.setCell (by simp) _).setCell (by simp) _⟩
def hfB (g k : Int) : Bool := inB g 0 31 && ((k == 1) || (k == 2) || (k == 4) || (k == 8) || (k == 16)) && flB g k
set_option maxRecDepth 20000 in
set_option maxHeartbeats 1000000 in
theorem specHasFlag (x : Sg) (a : Option Addr) (len cap : Nat) (k : Int) (w : World) :
    Calls Try.prog 33 #[.agg #[.int .i64 x.f, .int .i64 x.t, .int .i64 x.s, .int .i64 x.a, .int .i64 x.g, .int .i64 x.w, .int .i64 x.m, .slice a len cap], .int .i64 k] w fun e w' => e = .returned (.bool (hfB x.g k)) ∧ Below w.heap.size w w' := by
  have X0 := Lib.hid (Box.new w 25 #[.int .i64 x.f, .int .i64 x.t, .int .i64 x.s, .int .i64 x.a, .int .i64 x.g, .int .i64 x.w, .int .i64 x.m, .slice a len cap])
  have KF := Lib.hid (fun (h : 0 ≤ x.g ∧ x.g ≤ 31) (hk : 1 ≤ k ∧ k ≤ 16) => l5Flag_any w.heap.size x a len cap k (w.alloc (.cells #[.int .i64 x.f, .int .i64 x.t, .int .i64 x.s, .int .i64 x.a, .int .i64 x.g, .int .i64 x.w, .int .i64 x.m, .slice a len cap] 25)) X0.out h hk)
  have H : Hid (hfB x.g k = (inB x.g 0 31 && ((k == 1) || (k == 2) || (k == 4) || (k == 8) || (k == 16)) && flB x.g k)) := rfl
  generalize hfB x.g k = v at *
  cases m0 : inB x.g 0 31
  case' true =>
    have hg := Lib.hid (show 0 ≤ x.g ∧ x.g ≤ 31 from of_decide_eq_true m0)
    generalize flB x.g k = q at *
    cases k1 : (k == 1)
  case' true.false => cases k2 : (k == 2)
  case' true.false.false => cases k4 : (k == 4)
  case' true.false.false.false => cases k8 : (k == 8)
  case' true.false.false.false.false => cases k16 : (k == 16)
  all_goals
    go_enter Try.func33, Try.ntmps33
    go_wp2_with (first | (go_at_call 87; refine (l1In_any _ _ _ _).mono ?_; rintro e w' ⟨rfl, rfl⟩) | (go_at_call 82; refine (KF.out hg.out (by simp only [beq_iff_eq] at *; omega)).mono ?_; rintro e w' ⟨rfl, rfl⟩))
    go_ret
    exact ⟨ret_b (by rw [H.out]; simp [*]), (Below.refl _ _).alloc (Nat.le_refl _) _⟩
def sameG (x : Sg) (zs : List Int) (y : Sg) (zs' : List Int) : Bool := (x.f == y.f) && (x.t == y.t) && (x.s == y.s) && (x.a == y.a) && (x.g == y.g) && (x.w == y.w) && (x.m == y.m) && eqL zs zs'
set_option maxRecDepth 20000 in
set_option maxHeartbeats 1000000 in
theorem specSameSegments (x : Sg) (a : Option Addr) (len cap : Nat) (zs : List Int) (y : Sg) (a' : Option Addr) (len' cap' : Nat) (zs' : List Int) (w : World) (hr : Rd w a len cap zs) (hr' : Rd w a' len' cap' zs') :
    Calls Try.prog 23 #[.agg #[.int .i64 x.f, .int .i64 x.t, .int .i64 x.s, .int .i64 x.a, .int .i64 x.g, .int .i64 x.w, .int .i64 x.m, .slice a len cap], .agg #[.int .i64 y.f, .int .i64 y.t, .int .i64 y.s, .int .i64 y.a, .int .i64 y.g, .int .i64 y.w, .int .i64 y.m, .slice a' len' cap']] w fun e w' => e = .returned (.bool (sameG x zs y zs')) ∧ Below w.heap.size w w' := by
  have B0 := Lib.hid (((Below.refl w.heap.size w).alloc (Nat.le_refl _) (.cells #[.int .i64 x.f, .int .i64 x.t, .int .i64 x.s, .int .i64 x.a, .int .i64 x.g, .int .i64 x.w, .int .i64 x.m, .slice a len cap] 25)).alloc (by simp) (.cells #[.int .i64 y.f, .int .i64 y.t, .int .i64 y.s, .int .i64 y.a, .int .i64 y.g, .int .i64 y.w, .int .i64 y.m, .slice a' len' cap'] 25))
  have c1 := conv_rd (hr.below B0.out)
  have c2 := conv_rd (hr'.below B0.out)
  have H : Hid (sameG x zs y zs' = ((x.f == y.f) && (x.t == y.t) && (x.s == y.s) && (x.a == y.a) && (x.g == y.g) && (x.w == y.w) && (x.m == y.m) && eqL zs zs')) := rfl
  have hs : ((strOfNums zs).toList == (strOfNums zs').toList) = eqL zs zs' := by
    unfold eqL
    by_cases h3 : zs = zs'
    · subst h3; simp
    · rw [str_ne hr.b8 hr'.b8 h3]; simp [h3]
  clear hr hr'
  generalize sameG x zs y zs' = v at *
  generalize strOfNums zs = s at *
  generalize strOfNums zs' = s' at *
  generalize eqL zs zs' = q at *
  cases m0 : (x.f == y.f)
  case' true => cases m1 : (x.t == y.t)
  case' true.true => cases m2 : (x.s == y.s)
  case' true.true.true => cases m3 : (x.a == y.a)
  case' true.true.true.true => cases m4 : (x.g == y.g)
  case' true.true.true.true.true => cases m5 : (x.w == y.w)
  case' true.true.true.true.true.true => cases m6 : (x.m == y.m)
  all_goals
    go_enter Try.func23, Try.ntmps23
    go_wp2
    go_ret
    exact ⟨ret_b (by rw [H.out]; simp [*]), B0.out⟩
end Go.Proofs.Yteaiemckcepphaa
