/-
  NextHop of the program and of the model.
-/
import Derived.Test.YtfdfkcbighbfmaaR7
import Derived.Deep.QuietTactic
import Derived.BigQuiet
namespace Go.Proofs.Ytfdfkcbighbfmaa
open Go.ChangeShapes Go.WideShapes Go.ChangeAt Go.RowKit

theorem isIp7_any (n : Int) (w : World) : Calls Try.prog 110 #[.int .i64 n] w fun e w' => e = .returned (.bool (ipB n)) ∧ w = w' := by
  by_cases h1 : 0 ≤ n
  · by_cases h2 : n ≤ 4294967295
    · have H : Hid (ipB n = true) := in_t ⟨h1, h2⟩
      go_enter Try.func110, Try.ntmps110
      go_wp2
      go_ret
      exact ⟨ret_b H.out.symm, rfl⟩
    · have H : Hid (ipB n = false) := in_f (by omega)
      go_enter Try.func110, Try.ntmps110
      go_wp2
      go_ret
      exact ⟨ret_b H.out.symm, rfl⟩
  · have H : Hid (ipB n = false) := in_f (by omega)
    go_enter Try.func110, Try.ntmps110
    go_wp2
    go_ret
    exact ⟨ret_b H.out.symm, rfl⟩

/-- the number of the net of an ip -/
def netN (ip bits : Int) : Int := ip / 2 ^ (32 - bits).toNat
def nearB (r bits ip : Int) : Bool := decide (netN ip bits = netN r bits)
def hopC (r bits gw ip : Int) : Int := if rtB r bits gw then (if ipB ip then (if nearB r bits ip then 0 else if gw = 0 then 4 else 0) else 3) else 3
def hopV (r bits gw ip : Int) : Int := if rtB r bits gw then (if ipB ip then (if nearB r bits ip then ip else gw) else 0) else 0

theorem netOf_any (ip bits : Int) (w : World) (h1 : 8 ≤ bits) (h2 : bits ≤ 30) : Calls Try.prog 111 #[.int .i64 ip, .int .i64 bits] w fun e w' => e = .returned (.int .i64 (netN ip bits)) ∧ w = w' := by
  go_enter Try.func111, Try.ntmps111
  go_wp2
  go_ret
  exact ⟨rfl, rfl⟩

set_option maxHeartbeats 1000000 in
theorem implNextHop (r bits gw ip : Int) (w : World) :
    Calls Try.prog 44 #[.agg #[.int .i64 r, .int .i64 bits, .int .i64 gw], .int .i64 ip] w fun e w' => e = .returned (.agg #[.int .i64 (hopC r bits gw ip), .int .i64 (hopV r bits gw ip)]) ∧ Below w.heap.size w w' := by
  have B0 := Lib.hid (((Below.refl w.heap.size w).alloc (Nat.le_refl _) (.cells #[.int .i64 r, .int .i64 bits, .int .i64 gw] 59)).alloc (by simp) (.cells #[.int .i64 0, .int .i64 0] 37))
  have X0 := Lib.hid ((Box.new w 59 #[.int .i64 r, .int .i64 bits, .int .i64 gw]).alloc (.cells #[.int .i64 0, .int .i64 0] 37))
  have Y0 := Lib.hid (Box.new (w.alloc (.cells #[.int .i64 r, .int .i64 bits, .int .i64 gw] 59)) 37 #[.int .i64 0, .int .i64 0])
  have K := Lib.hid (fun W => implRouteFault r bits gw W)
  have HC : Hid (hopC r bits gw ip = if rtB r bits gw then (if ipB ip then (if nearB r bits ip then 0 else if gw = 0 then 4 else 0) else 3) else 3) := rfl
  have HV : Hid (hopV r bits gw ip = if rtB r bits gw then (if ipB ip then (if nearB r bits ip then ip else gw) else 0) else 0) := rfl
  have HN : Hid (nearB r bits ip = decide (netN ip bits = netN r bits)) := rfl
  have HB : Hid (rtB r bits gw = true → 8 ≤ bits ∧ bits ≤ 30) := by
    intro h
    unfold rtB at h
    simp only [Bool.and_eq_true, inB, decide_eq_true_eq] at h
    exact h.1.2
  generalize hopC r bits gw ip = c at *
  generalize hopV r bits gw ip = v at *
  unfold rtC at K
  simp only [World.size_alloc] at Y0
  cases m0 : rtB r bits gw with
  | false =>
    rw [m0] at K HC HV
    clear HN HB
    go_enter Try.func44, Try.ntmps44
    go_wp2_with fail
    refine (K.out _).mono ?_
    rintro e w1 ⟨rfl, b1⟩
    have Y1 := Y0.out.below b1 Y0.out.lt
    obtain ⟨_, y0, y1⟩ := Y1.two
    have f0 := Y1.frozen 0
    have f1 := Y1.frozen 1
    have B1 := Lib.hid (B0.out.trans (b1.mono B0.out.size))
    clear b1 K B0 X0 Y0 Y1
    go_wp2
    refine bodyPost_ret (v := .agg #[.int .i64 3, .int .i64 0]) (by simp [results, Try.results44, go_sem, y0, y1]) rfl ⟨by rw [HC.out, HV.out]; rfl, (B1.out.setCell (by simp) _).setCell (by simp) _⟩
  | true =>
    rw [m0] at K HC HV
    obtain ⟨hb1, hb2⟩ := HB.out m0
    have KN := Lib.hid (fun i W => netOf_any i bits W hb1 hb2)
    have KI := Lib.hid (fun W => isIp7_any ip W)
    clear HB
    cases m1 : ipB ip
    case false =>
      rw [m1] at KI HC HV
      clear HN
      go_enter Try.func44, Try.ntmps44
      go_wp2_with fail
      refine (K.out _).mono ?_
      rintro e w1 ⟨rfl, b1⟩
      have Y1 := Y0.out.below b1 Y0.out.lt
      obtain ⟨_, y0, y1⟩ := Y1.two
      have f0 := Y1.frozen 0
      have f1 := Y1.frozen 1
      have B1 := Lib.hid (B0.out.trans (b1.mono B0.out.size))
      clear b1 K B0 X0 Y0 Y1
      go_wp2_with (go_at_call 110; refine (KI.out _).mono ?_; rintro e w' ⟨rfl, rfl⟩)
      refine bodyPost_ret (v := .agg #[.int .i64 3, .int .i64 0]) (by simp [results, Try.results44, go_sem, y0, y1]) rfl ⟨by rw [HC.out, HV.out]; rfl, (B1.out.setCell (by simp) _).setCell (by simp) _⟩
    have HE : Hid (nearB r bits ip = (netN ip bits == netN r bits)) := by rw [HN.out]; rfl
    have KA := Lib.hid (KN.out ip)
    have KR := Lib.hid (KN.out r)
    rw [m1] at KI HC HV
    clear KN HN
    generalize netN ip bits = A at *
    generalize netN r bits = R at *
    cases m2 : nearB r bits ip
    case' false => rcases Decidable.em (gw = 0) with rfl | m3
    all_goals
      rw [m2] at HE HC HV
      have hE := HE.out.symm
      go_enter Try.func44, Try.ntmps44
      go_wp2_with fail
      refine (K.out _).mono ?_
      rintro e w1 ⟨rfl, b1⟩
      have Y1 := Y0.out.below b1 Y0.out.lt
      have X1 := X0.out.below b1 X0.out.lt
      obtain ⟨_, x0, x1, x2⟩ := X1.r3
      obtain ⟨_, y0, y1⟩ := Y1.two
      have f0 := Y1.frozen 0
      have f1 := Y1.frozen 1
      have B1 := Lib.hid (B0.out.trans (b1.mono B0.out.size))
      clear b1 K B0 X0 Y0 Y1 X1
      go_wp2_with (go_at_call 110; refine (KI.out _).mono ?_; rintro e w' ⟨rfl, rfl⟩)
      go_quiet (first | (go_at_call_of 111 (Value.int IntKind.i64 ip); exact Calls.quiet_of_same ((KA.out _).mono fun _ _ h => ⟨h.1, h.2.symm⟩)) | (go_at_call_of 111 (Value.int IntKind.i64 r); exact Calls.quiet_of_same ((KR.out _).mono fun _ _ h => ⟨h.1, h.2.symm⟩)))
      go_wp2
    · refine bodyPost_ret (v := .agg #[.int .i64 4, .int .i64 0]) (by simp [results, Try.results44, go_sem, y0, y1]) rfl ⟨by rw [HC.out, HV.out]; simp [*], ((belowN B1.out _).setCell (by simp) _).setCell (by simp) _⟩
    · refine bodyPost_ret (v := .agg #[.int .i64 0, .int .i64 gw]) (by simp [results, Try.results44, go_sem, y0, y1]) rfl ⟨by rw [HC.out, HV.out]; simp [*], ((belowN B1.out _).setCell (by simp) _).setCell (by simp) _⟩
    · refine bodyPost_ret (v := .agg #[.int .i64 0, .int .i64 ip]) (by simp [results, Try.results44, go_sem, y0, y1]) rfl ⟨by rw [HC.out, HV.out]; simp [*], ((belowN B1.out _).setCell (by simp) _).setCell (by simp) _⟩
end Go.Proofs.Ytfdfkcbighbfmaa
