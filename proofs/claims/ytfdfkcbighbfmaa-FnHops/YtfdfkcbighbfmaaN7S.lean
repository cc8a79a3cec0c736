/-
  NextHop of the model.
-/
import Derived.Test.YtfdfkcbighbfmaaN7
namespace Go.Proofs.Ytfdfkcbighbfmaa
open Go.ChangeShapes Go.WideShapes Go.ChangeAt Go.RowKit

theorem net_bd {x : Int} (h : 0 ≤ x ∧ x ≤ 4294967295) (bits : Int) : 0 ≤ netN x bits ∧ netN x bits ≤ 4294967295 := by
  have hp : (0 : Int) < 2 ^ (32 - bits).toNat := Int.pow_pos (by omega)
  unfold netN
  exact ⟨Int.ediv_nonneg h.1 (by omega), Int.le_trans (Int.ediv_le_self _ h.1) h.2⟩

theorem pow_bd {k : Nat} (h : k ≤ 24) : 1 ≤ 2 ^ k ∧ 2 ^ k ≤ 16777216 := ⟨Nat.one_le_two_pow, by have := Nat.pow_le_pow_right (show 0 < 2 by omega) h; simpa using this⟩
set_option maxHeartbeats 1000000 in
theorem l7Near_any (b : Nat) (r bits gw ip : Int) (w : World) (hx : Box w b 59 #[.int .i64 r, .int .i64 bits, .int .i64 gw]) (h1 : 8 ≤ bits) (h2 : bits ≤ 30) (hr : 0 ≤ r ∧ r ≤ 4294967295) (hi : 0 ≤ ip ∧ ip ≤ 4294967295) :
    Calls Try.prog 136 #[.pointer (some ⟨b, 0, none⟩), .int .i64 ip] w fun e w' => e = .returned (.bool (nearB r bits ip)) ∧ Below w.heap.size w w' := by
  obtain ⟨_, x0, x1, x2⟩ := hx.r3
  have HR := Lib.hid hr
  have HI := Lib.hid hi
  have HN : Hid (nearB r bits ip = (netN ip bits == netN r bits)) := rfl
  go_enter Try.func136, Try.ntmps136
  go_wp2
  go_loopw [5, 6] (fun s i wr => ∃ (k : Nat) (m : Int), k ≤ (32 - bits).toNat ∧ i = .int .i64 (bits + k) ∧ s = .int .i64 m ∧ 1 ≤ m ∧ m ≤ 16777216 ∧ Hid (m = (2 ^ k : Nat)) ∧ w = wr) (fun _ i _ => 32 - (intOf i).toNat)
  case atStart => exact ⟨0, 1, Nat.zero_le _, by go_num, rfl, by omega, by omega, rfl, rfl⟩
  case round =>
    obtain ⟨k, m, hk, rfl, rfl, hm1, hm2, hM, rfl⟩ := hrel
    by_cases hlt : k < (32 - bits).toNat
    · have hM' : Hid (m * 2 = (2 ^ (k + 1) : Nat)) := by simp only [Hid]; rw [hM.out, Nat.pow_succ]; omega
      have hb : m * 2 ≤ 16777216 := by have := (pow_bd (k := k + 1) (by omega)).2; have := hM'.out; omega
      have hl : bits + (k : Int) < 32 := by omega
      clear hM
      go_wp2
      go_roundw
      case rel => exact ⟨k + 1, m * 2, by omega, by go_num, by go_num, by omega, hb, hM'.out, trivial⟩
      case measure => simp [intOf]; omega
    · obtain rfl : k = (32 - bits).toNat := by omega
      have hl : ¬ bits + ((32 - bits).toNat : Int) < 32 := by omega
      have q1 : Hid (ip / m = netN ip bits) := by simp only [Hid]; rw [hM.out]; rfl
      have q2 : Hid (r / m = netN r bits) := by simp only [Hid]; rw [hM.out]; rfl
      have hz : ¬ m = 0 := by omega
      clear hM
      generalize (32 - bits).toNat = kk at *
      go_wp2
      go_quiet (fail)
      go_wp2
      go_ret
      exact ⟨ret_b (by rw [HN.out, ← q1.out, ← q2.out]), belowN (Below.refl _ _) _⟩

set_option maxHeartbeats 1000000 in
theorem l7Hop_any (b : Nat) (r bits gw ip : Int) (w : World) (hx : Box w b 59 #[.int .i64 r, .int .i64 bits, .int .i64 gw]) (h1 : 8 ≤ bits) (h2 : bits ≤ 30) (hr : 0 ≤ r ∧ r ≤ 4294967295) (hi : 0 ≤ ip ∧ ip ≤ 4294967295) :
    Calls Try.prog 112 #[.pointer (some ⟨b, 0, none⟩), .int .i64 ip] w fun e w' => e = .returned (.tuple #[.int .i64 (if nearB r bits ip then ip else gw), .bool (nearB r bits ip || (gw != 0))]) ∧ Below w.heap.size w w' := by
  have K := Lib.hid (l7Near_any b r bits gw ip w hx h1 h2 hr hi)
  have X := Lib.hid hx
  clear hx h1 h2 hr hi
  cases m : nearB r bits ip
  all_goals
    rw [m] at K
    go_enter Try.func112, Try.ntmps112
    go_wp2_with fail
    refine K.out.mono ?_
    rintro e w1 ⟨rfl, b1⟩
    have X1 := X.out.below b1 X.out.lt
    obtain ⟨_, x0, x1, x2⟩ := X1.r3
    have B1 := Lib.hid b1
    clear b1 K X X1
    go_wp2
  · go_quiet (fail)
    go_wp2
    exact bodyPost_ret (v := .tuple #[.int .i64 gw, .bool (gw != 0)]) (by simp [results, Try.results112, go_sem]) rfl ⟨by simp, belowN B1.out _⟩
  · exact bodyPost_ret (v := .tuple #[.int .i64 ip, .bool true]) (by simp [results, Try.results112, go_sem]) rfl ⟨by simp, B1.out⟩

set_option maxHeartbeats 1000000 in
theorem specNextHop (r bits gw ip : Int) (w : World) :
    Calls Try.prog 45 #[.agg #[.int .i64 r, .int .i64 bits, .int .i64 gw], .int .i64 ip] w fun e w' => e = .returned (.agg #[.int .i64 (hopC r bits gw ip), .int .i64 (hopV r bits gw ip)]) ∧ Below w.heap.size w w' := by
  have B0 := Lib.hid (((Below.refl w.heap.size w).alloc (Nat.le_refl _) (.cells #[.int .i64 r, .int .i64 bits, .int .i64 gw] 59)).alloc (by simp) (.cells #[.int .i64 0, .int .i64 0] 37))
  have X0 := Lib.hid ((Box.new w 59 #[.int .i64 r, .int .i64 bits, .int .i64 gw]).alloc (.cells #[.int .i64 0, .int .i64 0] 37))
  have Y0 := Lib.hid (Box.new (w.alloc (.cells #[.int .i64 r, .int .i64 bits, .int .i64 gw] 59)) 37 #[.int .i64 0, .int .i64 0])
  have K := Lib.hid (fun W => specRouteFault r bits gw W)
  have HC : Hid (hopC r bits gw ip = if rtB r bits gw then (if ipB ip then (if nearB r bits ip then 0 else if gw = 0 then 4 else 0) else 3) else 3) := rfl
  have HV : Hid (hopV r bits gw ip = if rtB r bits gw then (if ipB ip then (if nearB r bits ip then ip else gw) else 0) else 0) := rfl
  have HB : Hid (rtB r bits gw = true → (0 ≤ r ∧ r ≤ 4294967295) ∧ 8 ≤ bits ∧ bits ≤ 30) := by
    intro h
    unfold rtB at h
    simp only [Bool.and_eq_true, inB, decide_eq_true_eq] at h
    exact h.1
  generalize hopC r bits gw ip = c at *
  generalize hopV r bits gw ip = v at *
  unfold rtC at K
  simp only [World.size_alloc] at Y0
  cases m0 : rtB r bits gw with
  | false =>
    rw [m0] at K HC HV
    clear HB
    go_enter Try.func45, Try.ntmps45
    go_wp2_with fail
    refine (K.out _).mono ?_
    rintro e w1 ⟨rfl, b1⟩
    have Y1 := Y0.out.below b1 Y0.out.lt
    obtain ⟨_, y0, y1⟩ := Y1.two
    have f0 := Y1.frozen 0
    have f1 := Y1.frozen 1
    have B1 := Lib.hid (B0.out.trans (b1.mono B0.out.size))
    clear b1 K B0 X0 Y0 Y1
    go_wp2
    refine bodyPost_ret (v := .agg #[.int .i64 3, .int .i64 0]) (by simp [results, Try.results45, go_sem, y0, y1]) rfl ⟨by rw [HC.out, HV.out]; rfl, (B1.out.setCell (by simp) _).setCell (by simp) _⟩
  | true =>
    rw [m0] at K HC HV
    have hb := Lib.hid (HB.out m0)
    have KI := Lib.hid (fun W => l2Ip_any ip W)
    clear HB
    cases m1 : ipB ip with
    | false =>
      rw [m1] at KI HC HV
      go_enter Try.func45, Try.ntmps45
      go_wp2_with fail
      refine (K.out _).mono ?_
      rintro e w1 ⟨rfl, b1⟩
      have Y1 := Y0.out.below b1 Y0.out.lt
      obtain ⟨_, y0, y1⟩ := Y1.two
      have f0 := Y1.frozen 0
      have f1 := Y1.frozen 1
      have B1 := Lib.hid (B0.out.trans (b1.mono B0.out.size))
      clear b1 K B0 X0 Y0 Y1
      go_wp2_with (go_at_call 100; refine (KI.out _).mono ?_; rintro e w' ⟨rfl, rfl⟩)
      refine bodyPost_ret (v := .agg #[.int .i64 3, .int .i64 0]) (by simp [results, Try.results45, go_sem, y0, y1]) rfl ⟨by rw [HC.out, HV.out]; rfl, (B1.out.setCell (by simp) _).setCell (by simp) _⟩
    | true =>
      rw [m1] at KI HC HV
      have hip := Lib.hid (show 0 ≤ ip ∧ ip ≤ 4294967295 by simpa [ipB, inB] using m1)
      have KH := Lib.hid (fun W (hx : Box W w.heap.size 59 #[.int .i64 r, .int .i64 bits, .int .i64 gw]) => l7Hop_any w.heap.size r bits gw ip W hx hb.out.2.1 hb.out.2.2 hb.out.1 hip.out)
      clear hb hip
      cases m2 : nearB r bits ip
      case' false => rcases Decidable.em (gw = 0) with rfl | m3
      all_goals
        try have m4 : (gw != 0) = true := by simpa using m3
        rw [m2] at KH HC HV
        go_enter Try.func45, Try.ntmps45
        go_wp2_with fail
        refine (K.out _).mono ?_
        rintro e w1 ⟨rfl, b1⟩
        have Y1 := Lib.hid (Y0.out.below b1 Y0.out.lt)
        have KX := Lib.hid (KH.out _ (X0.out.below b1 X0.out.lt))
        have B1 := Lib.hid (B0.out.trans (b1.mono B0.out.size))
        clear b1 K B0 X0 Y0 KH
        go_wp2_with (go_at_call 100; refine (KI.out _).mono ?_; rintro e w' ⟨rfl, rfl⟩)
        refine KX.out.mono ?_
        rintro e w2 ⟨rfl, b2⟩
        have Y2 := Y1.out.below b2 Y1.out.lt
        obtain ⟨_, y0, y1⟩ := Y2.two
        have f0 := Y2.frozen 0
        have f1 := Y2.frozen 1
        have B2 := Lib.hid (B1.out.trans (b2.mono B1.out.size))
        clear b2 B1 Y1 Y2 KX
        go_wp2
      · refine bodyPost_ret (v := .agg #[.int .i64 4, .int .i64 0]) (by simp [results, Try.results45, go_sem, y0, y1]) rfl ⟨by rw [HC.out, HV.out]; simp [*], (B2.out.setCell (by simp) _).setCell (by simp) _⟩
      · refine bodyPost_ret (v := .agg #[.int .i64 0, .int .i64 gw]) (by simp [results, Try.results45, go_sem, y0, y1]) rfl ⟨by rw [HC.out, HV.out]; simp [*], (B2.out.setCell (by simp) _).setCell (by simp) _⟩
      · refine bodyPost_ret (v := .agg #[.int .i64 0, .int .i64 ip]) (by simp [results, Try.results45, go_sem, y0, y1]) rfl ⟨by rw [HC.out, HV.out]; simp [*], (B2.out.setCell (by simp) _).setCell (by simp) _⟩
end Go.Proofs.Ytfdfkcbighbfmaa
