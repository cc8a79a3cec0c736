/-
  packetIn of the program: what is refused, and with which code.
-/
import Derived.Test.YtgjkbaplfbiomaaP3RdK
namespace Go.Proofs.Ytgjkbaplfbiomaa
open Go.ChangeShapes Go.WideShapes Go.ChangeAt Go.RowKit

theorem packetIn_len (a : Option Addr) (len cap : Nat) (w : World) (h : rpLen len = false) : Calls Try.prog 67 #[.slice a len cap] w (Refused w 2) := by
  simp only [rpLen, decide_eq_false_iff_not] at h
  have B0 := Lib.hid ((Below.refl w.heap.size w).alloc (Nat.le_refl _) (.cells #[.int .i64 0, .int .i64 0, .int .i64 0, .int .i64 0, .slice none 0 0] 25))
  by_cases h1 : 20 ≤ len
  · have h2 : ¬ len ≤ 600 := fun h2 => h ⟨h1, h2⟩
    have e1 : decide ((len : Int) < 20) = false := decide_eq_false (by omega)
    have e2 : decide ((600 : Int) < len) = true := decide_eq_true (by omega)
    clear h h1 h2
    go_enter Try.func67, Try.ntmps67
    go_wp2_with fail
    refine (refuse_yes _ _).mono ?_
    rintro e w' ⟨rfl, rfl⟩
    go_wp2
    exact ⟨rfl, rfl, B0.out⟩
  · have e1 : decide ((len : Int) < 20) = true := decide_eq_true (by omega)
    clear h h1
    go_enter Try.func67, Try.ntmps67
    go_wp2_with fail
    refine (refuse_yes _ _).mono ?_
    rintro e w' ⟨rfl, rfl⟩
    go_wp2
    exact ⟨rfl, rfl, B0.out⟩

set_option maxRecDepth 20000 in
set_option maxHeartbeats 2000000 in
theorem packetIn_form0 (a : Option Addr) (len cap : Nat) (zs : List Int) (w : World) (hr : Rd w a len cap zs) (h1 : 20 ≤ len) (h2 : len ≤ 600) (b0 n ct : Int) (q0 : zs.getD 0 0 = b0) (qn : rdTo zs 2 2 = n) (qc : rdTo zs 6 2 = ct) (hf : (b0 != 69) = true) : Calls Try.prog 67 #[.slice a len cap] w (Refused w 1) := by
  have hle := hr.le
  have hmx := hr.max
  rcases hr.cells with h0 | ⟨ba, off, rfl, hc⟩
  · omega
  have d1 : decide ((len : Int) < 20) = false := decide_eq_false (by omega)
  have d2 : decide ((600 : Int) < len) = false := decide_eq_false (by omega)
  have i0 : (0 : Int) < len := by omega
  have i0n : 0 < len := by omega
  have i8 : (8 : Int) < len := by omega
  have i9 : (9 : Int) < len := by omega
  have i20 : (20 : Int) ≤ cap := by omega
  have i20l : (20 : Int) ≤ len := by omega
  have i20n : 20 ≤ cap := by omega
  have hfi := fld_ir
  have HR := Lib.hid (fun W (hW : Below w.heap.size w W) => hr.below hW)
  have K1 := Lib.hid (fun W (hW : Below w.heap.size w W) => readWord_lit _ len cap 2 2 2 2 n zs W (hr.below hW) rfl rfl (by omega) (by omega) (by omega) qn)
  have KL := Lib.hid (fun W => packetLength_any n (some ⟨ba, off, none⟩) len cap W)
  have KC := Lib.hid (fun W (hW : Below w.heap.size w W) => isCut_any _ len cap zs ct W (hr.below hW) (by omega) qc)
  have CC := Lib.hid (fun W (hW : Below w.heap.size w W) (i : Nat) (hi : i < len) => (hW.cell (World.block_lt_of_cell? _ _ (hc i hi))).trans (hc i hi))
  have B0 := Lib.hid ((Below.refl w.heap.size w).alloc (Nat.le_refl _) (.cells #[.int .i64 0, .int .i64 0, .int .i64 0, .int .i64 0, .slice none 0 0] 25))
  have X0 := Lib.hid (Box.new w 25 #[.int .i64 0, .int .i64 0, .int .i64 0, .int .i64 0, .slice none 0 0])
  have Q0 := Lib.hid q0
  clear hr hc q0 qn qc
  go_enter Try.func67, Try.ntmps67
  go_wp2_with fail
  refine (refuse_no _ _).mono ?_
  rintro e w' ⟨rfl, rfl⟩
  go_wp2_with fail
  refine (K1.out _ B0.out).mono ?_
  rintro e w1 ⟨rfl, b1⟩
  have B1 := Lib.hid (B0.out.trans (b1.mono B0.out.size))
  have X1 := Lib.hid (X0.out.below b1 X0.out.lt)
  clear b1 X0 B0
  have c0 := CC.out _ B1.out 0 i0n
  rw [Q0.out] at c0
  simp only [Nat.add_zero] at c0
  go_wp2_with fail
  refine (refuse_yes _ _).mono ?_
  rintro e w' ⟨rfl, rfl⟩
  go_wp2
  exact ⟨rfl, rfl, B1.out⟩

set_option maxRecDepth 20000 in
set_option maxHeartbeats 2000000 in
theorem packetIn_form1 (a : Option Addr) (len cap : Nat) (zs : List Int) (w : World) (hr : Rd w a len cap zs) (h1 : 20 ≤ len) (h2 : len ≤ 600) (b0 n ct : Int) (q0 : zs.getD 0 0 = b0) (qn : rdTo zs 2 2 = n) (qc : rdTo zs 6 2 = ct) (f0 : (b0 != 69) = false) (f1 : plB n len = false) : Calls Try.prog 67 #[.slice a len cap] w (Refused w 1) := by
  have hle := hr.le
  have hmx := hr.max
  rcases hr.cells with h0 | ⟨ba, off, rfl, hc⟩
  · omega
  have d1 : decide ((len : Int) < 20) = false := decide_eq_false (by omega)
  have d2 : decide ((600 : Int) < len) = false := decide_eq_false (by omega)
  have i0 : (0 : Int) < len := by omega
  have i0n : 0 < len := by omega
  have i8 : (8 : Int) < len := by omega
  have i9 : (9 : Int) < len := by omega
  have i20 : (20 : Int) ≤ cap := by omega
  have i20l : (20 : Int) ≤ len := by omega
  have i20n : 20 ≤ cap := by omega
  have hfi := fld_ir
  have HR := Lib.hid (fun W (hW : Below w.heap.size w W) => hr.below hW)
  have K1 := Lib.hid (fun W (hW : Below w.heap.size w W) => readWord_lit _ len cap 2 2 2 2 n zs W (hr.below hW) rfl rfl (by omega) (by omega) (by omega) qn)
  have KL := Lib.hid (fun W => packetLength_any n (some ⟨ba, off, none⟩) len cap W)
  have KC := Lib.hid (fun W (hW : Below w.heap.size w W) => isCut_any _ len cap zs ct W (hr.below hW) (by omega) qc)
  have CC := Lib.hid (fun W (hW : Below w.heap.size w W) (i : Nat) (hi : i < len) => (hW.cell (World.block_lt_of_cell? _ _ (hc i hi))).trans (hc i hi))
  have B0 := Lib.hid ((Below.refl w.heap.size w).alloc (Nat.le_refl _) (.cells #[.int .i64 0, .int .i64 0, .int .i64 0, .int .i64 0, .slice none 0 0] 25))
  have X0 := Lib.hid (Box.new w 25 #[.int .i64 0, .int .i64 0, .int .i64 0, .int .i64 0, .slice none 0 0])
  have Q0 := Lib.hid q0
  rw [f1] at KL
  clear hr hc q0 qn qc
  go_enter Try.func67, Try.ntmps67
  go_wp2_with fail
  refine (refuse_no _ _).mono ?_
  rintro e w' ⟨rfl, rfl⟩
  go_wp2_with fail
  refine (K1.out _ B0.out).mono ?_
  rintro e w1 ⟨rfl, b1⟩
  have B1 := Lib.hid (B0.out.trans (b1.mono B0.out.size))
  have X1 := Lib.hid (X0.out.below b1 X0.out.lt)
  clear b1 X0 B0
  have c0 := CC.out _ B1.out 0 i0n
  rw [Q0.out] at c0
  simp only [Nat.add_zero] at c0
  go_wp2_with fail
  refine (KL.out _).mono ?_
  rintro e w' ⟨rfl, rfl⟩
  go_wp2_with fail
  refine (refuse_yes _ _).mono ?_
  rintro e w' ⟨rfl, rfl⟩
  go_wp2
  exact ⟨rfl, rfl, B1.out⟩

set_option maxRecDepth 20000 in
set_option maxHeartbeats 2000000 in
theorem packetIn_form2 (a : Option Addr) (len cap : Nat) (zs : List Int) (w : World) (hr : Rd w a len cap zs) (h1 : 20 ≤ len) (h2 : len ≤ 600) (b0 n ct : Int) (q0 : zs.getD 0 0 = b0) (qn : rdTo zs 2 2 = n) (qc : rdTo zs 6 2 = ct) (f0 : (b0 != 69) = false) (f1 : plB n len = true) (f2 : cutB ct = true) : Calls Try.prog 67 #[.slice a len cap] w (Refused w 1) := by
  have hle := hr.le
  have hmx := hr.max
  rcases hr.cells with h0 | ⟨ba, off, rfl, hc⟩
  · omega
  have d1 : decide ((len : Int) < 20) = false := decide_eq_false (by omega)
  have d2 : decide ((600 : Int) < len) = false := decide_eq_false (by omega)
  have i0 : (0 : Int) < len := by omega
  have i0n : 0 < len := by omega
  have i8 : (8 : Int) < len := by omega
  have i9 : (9 : Int) < len := by omega
  have i20 : (20 : Int) ≤ cap := by omega
  have i20l : (20 : Int) ≤ len := by omega
  have i20n : 20 ≤ cap := by omega
  have hfi := fld_ir
  have HR := Lib.hid (fun W (hW : Below w.heap.size w W) => hr.below hW)
  have K1 := Lib.hid (fun W (hW : Below w.heap.size w W) => readWord_lit _ len cap 2 2 2 2 n zs W (hr.below hW) rfl rfl (by omega) (by omega) (by omega) qn)
  have KL := Lib.hid (fun W => packetLength_any n (some ⟨ba, off, none⟩) len cap W)
  have KC := Lib.hid (fun W (hW : Below w.heap.size w W) => isCut_any _ len cap zs ct W (hr.below hW) (by omega) qc)
  have CC := Lib.hid (fun W (hW : Below w.heap.size w W) (i : Nat) (hi : i < len) => (hW.cell (World.block_lt_of_cell? _ _ (hc i hi))).trans (hc i hi))
  have B0 := Lib.hid ((Below.refl w.heap.size w).alloc (Nat.le_refl _) (.cells #[.int .i64 0, .int .i64 0, .int .i64 0, .int .i64 0, .slice none 0 0] 25))
  have X0 := Lib.hid (Box.new w 25 #[.int .i64 0, .int .i64 0, .int .i64 0, .int .i64 0, .slice none 0 0])
  have Q0 := Lib.hid q0
  rw [f1] at KL
  rw [f2] at KC
  clear hr hc q0 qn qc
  go_enter Try.func67, Try.ntmps67
  go_wp2_with fail
  refine (refuse_no _ _).mono ?_
  rintro e w' ⟨rfl, rfl⟩
  go_wp2_with fail
  refine (K1.out _ B0.out).mono ?_
  rintro e w1 ⟨rfl, b1⟩
  have B1 := Lib.hid (B0.out.trans (b1.mono B0.out.size))
  have X1 := Lib.hid (X0.out.below b1 X0.out.lt)
  clear b1 X0 B0
  have c0 := CC.out _ B1.out 0 i0n
  rw [Q0.out] at c0
  simp only [Nat.add_zero] at c0
  go_wp2_with fail
  refine (KL.out _).mono ?_
  rintro e w' ⟨rfl, rfl⟩
  go_wp2_with fail
  refine (KC.out _ B1.out).mono ?_
  rintro e w2 ⟨rfl, b2⟩
  have B2 := Lib.hid (B1.out.trans (b2.mono B1.out.size))
  have X2 := Lib.hid (X1.out.below b2 X1.out.lt)
  clear b2 X1 B1 c0
  go_wp2_with fail
  refine (refuse_yes _ _).mono ?_
  rintro e w' ⟨rfl, rfl⟩
  go_wp2
  exact ⟨rfl, rfl, B2.out⟩

set_option maxRecDepth 20000 in
set_option maxHeartbeats 2000000 in
theorem packetIn_sum (a : Option Addr) (len cap : Nat) (zs : List Int) (w : World) (hr : Rd w a len cap zs) (h1 : 20 ≤ len) (h2 : len ≤ 600) (b0 n ct : Int) (q0 : zs.getD 0 0 = b0) (qn : rdTo zs 2 2 = n) (qc : rdTo zs 6 2 = ct) (f0 : (b0 != 69) = false) (f1 : plB n len = true) (f2 : cutB ct = false) (hs : decide (sumV (zs.take 20) = 0) = false) : Calls Try.prog 67 #[.slice a len cap] w (Refused w 6) := by
  have hle := hr.le
  have hmx := hr.max
  rcases hr.cells with h0 | ⟨ba, off, rfl, hc⟩
  · omega
  have d1 : decide ((len : Int) < 20) = false := decide_eq_false (by omega)
  have d2 : decide ((600 : Int) < len) = false := decide_eq_false (by omega)
  have i0 : (0 : Int) < len := by omega
  have i0n : 0 < len := by omega
  have i8 : (8 : Int) < len := by omega
  have i9 : (9 : Int) < len := by omega
  have i20 : (20 : Int) ≤ cap := by omega
  have i20l : (20 : Int) ≤ len := by omega
  have i20n : 20 ≤ cap := by omega
  have hfi := fld_ir
  have HR := Lib.hid (fun W (hW : Below w.heap.size w W) => hr.below hW)
  have K1 := Lib.hid (fun W (hW : Below w.heap.size w W) => readWord_lit _ len cap 2 2 2 2 n zs W (hr.below hW) rfl rfl (by omega) (by omega) (by omega) qn)
  have KL := Lib.hid (fun W => packetLength_any n (some ⟨ba, off, none⟩) len cap W)
  have KC := Lib.hid (fun W (hW : Below w.heap.size w W) => isCut_any _ len cap zs ct W (hr.below hW) (by omega) qc)
  have CC := Lib.hid (fun W (hW : Below w.heap.size w W) (i : Nat) (hi : i < len) => (hW.cell (World.block_lt_of_cell? _ _ (hc i hi))).trans (hc i hi))
  have B0 := Lib.hid ((Below.refl w.heap.size w).alloc (Nat.le_refl _) (.cells #[.int .i64 0, .int .i64 0, .int .i64 0, .int .i64 0, .slice none 0 0] 25))
  have X0 := Lib.hid (Box.new w 25 #[.int .i64 0, .int .i64 0, .int .i64 0, .int .i64 0, .slice none 0 0])
  have Q0 := Lib.hid q0
  rw [f1] at KL
  rw [f2] at KC
  have KS := Lib.hid (fun W (hW : Below w.heap.size w W) => isSummed_is _ 20 cap (zs.take 20) false W ((hr.below hW).upto 20 (by omega)) (by omega) hs)
  clear hr hc q0 qn qc
  clear hs
  go_enter Try.func67, Try.ntmps67
  go_wp2_with fail
  refine (refuse_no _ _).mono ?_
  rintro e w' ⟨rfl, rfl⟩
  go_wp2_with fail
  refine (K1.out _ B0.out).mono ?_
  rintro e w1 ⟨rfl, b1⟩
  have B1 := Lib.hid (B0.out.trans (b1.mono B0.out.size))
  have X1 := Lib.hid (X0.out.below b1 X0.out.lt)
  clear b1 X0 B0
  have c0 := CC.out _ B1.out 0 i0n
  rw [Q0.out] at c0
  simp only [Nat.add_zero] at c0
  go_wp2_with fail
  refine (KL.out _).mono ?_
  rintro e w' ⟨rfl, rfl⟩
  go_wp2_with fail
  refine (KC.out _ B1.out).mono ?_
  rintro e w2 ⟨rfl, b2⟩
  have B2 := Lib.hid (B1.out.trans (b2.mono B1.out.size))
  have X2 := Lib.hid (X1.out.below b2 X1.out.lt)
  clear b2 X1 B1 c0
  go_wp2_with fail
  refine (refuse_no _ _).mono ?_
  rintro e w' ⟨rfl, rfl⟩
  go_wp2_with fail
  refine (KS.out _ B2.out).mono ?_
  rintro e w3 ⟨rfl, b3⟩
  have B3 := Lib.hid (B2.out.trans (b3.mono B2.out.size))
  have X3 := Lib.hid (X2.out.below b3 X2.out.lt)
  clear b3 X2 B2
  go_wp2_with fail
  refine (refuse_yes _ _).mono ?_
  rintro e w' ⟨rfl, rfl⟩
  go_wp2
  exact ⟨rfl, rfl, B3.out⟩

set_option maxRecDepth 20000 in
set_option maxHeartbeats 2000000 in
theorem packetIn_ttl (a : Option Addr) (len cap : Nat) (zs : List Int) (w : World) (hr : Rd w a len cap zs) (h1 : 20 ≤ len) (h2 : len ≤ 600) (b0 n ct : Int) (q0 : zs.getD 0 0 = b0) (qn : rdTo zs 2 2 = n) (qc : rdTo zs 6 2 = ct) (f0 : (b0 != 69) = false) (f1 : plB n len = true) (f2 : cutB ct = false) (hs : decide (sumV (zs.take 20) = 0) = true) (ht : zs.getD 8 0 = 0) : Calls Try.prog 67 #[.slice a len cap] w (Refused w 3) := by
  have hle := hr.le
  have hmx := hr.max
  rcases hr.cells with h0 | ⟨ba, off, rfl, hc⟩
  · omega
  have d1 : decide ((len : Int) < 20) = false := decide_eq_false (by omega)
  have d2 : decide ((600 : Int) < len) = false := decide_eq_false (by omega)
  have i0 : (0 : Int) < len := by omega
  have i0n : 0 < len := by omega
  have i8 : (8 : Int) < len := by omega
  have i9 : (9 : Int) < len := by omega
  have i20 : (20 : Int) ≤ cap := by omega
  have i20l : (20 : Int) ≤ len := by omega
  have i20n : 20 ≤ cap := by omega
  have hfi := fld_ir
  have HR := Lib.hid (fun W (hW : Below w.heap.size w W) => hr.below hW)
  have K1 := Lib.hid (fun W (hW : Below w.heap.size w W) => readWord_lit _ len cap 2 2 2 2 n zs W (hr.below hW) rfl rfl (by omega) (by omega) (by omega) qn)
  have KL := Lib.hid (fun W => packetLength_any n (some ⟨ba, off, none⟩) len cap W)
  have KC := Lib.hid (fun W (hW : Below w.heap.size w W) => isCut_any _ len cap zs ct W (hr.below hW) (by omega) qc)
  have CC := Lib.hid (fun W (hW : Below w.heap.size w W) (i : Nat) (hi : i < len) => (hW.cell (World.block_lt_of_cell? _ _ (hc i hi))).trans (hc i hi))
  have B0 := Lib.hid ((Below.refl w.heap.size w).alloc (Nat.le_refl _) (.cells #[.int .i64 0, .int .i64 0, .int .i64 0, .int .i64 0, .slice none 0 0] 25))
  have X0 := Lib.hid (Box.new w 25 #[.int .i64 0, .int .i64 0, .int .i64 0, .int .i64 0, .slice none 0 0])
  have Q0 := Lib.hid q0
  rw [f1] at KL
  rw [f2] at KC
  have KS := Lib.hid (fun W (hW : Below w.heap.size w W) => isSummed_is _ 20 cap (zs.take 20) true W ((hr.below hW).upto 20 (by omega)) (by omega) hs)
  clear hr hc q0 qn qc
  have HT := Lib.hid ht
  clear hs ht
  go_enter Try.func67, Try.ntmps67
  go_wp2_with fail
  refine (refuse_no _ _).mono ?_
  rintro e w' ⟨rfl, rfl⟩
  go_wp2_with fail
  refine (K1.out _ B0.out).mono ?_
  rintro e w1 ⟨rfl, b1⟩
  have B1 := Lib.hid (B0.out.trans (b1.mono B0.out.size))
  have X1 := Lib.hid (X0.out.below b1 X0.out.lt)
  clear b1 X0 B0
  have c0 := CC.out _ B1.out 0 i0n
  rw [Q0.out] at c0
  simp only [Nat.add_zero] at c0
  go_wp2_with fail
  refine (KL.out _).mono ?_
  rintro e w' ⟨rfl, rfl⟩
  go_wp2_with fail
  refine (KC.out _ B1.out).mono ?_
  rintro e w2 ⟨rfl, b2⟩
  have B2 := Lib.hid (B1.out.trans (b2.mono B1.out.size))
  have X2 := Lib.hid (X1.out.below b2 X1.out.lt)
  clear b2 X1 B1 c0
  go_wp2_with fail
  refine (refuse_no _ _).mono ?_
  rintro e w' ⟨rfl, rfl⟩
  go_wp2_with fail
  refine (KS.out _ B2.out).mono ?_
  rintro e w3 ⟨rfl, b3⟩
  have B3 := Lib.hid (B2.out.trans (b3.mono B2.out.size))
  have X3 := Lib.hid (X2.out.below b3 X2.out.lt)
  clear b3 X2 B2
  go_wp2_with fail
  refine (refuse_no _ _).mono ?_
  rintro e w' ⟨rfl, rfl⟩
  have c8 := CC.out _ B3.out 8 (by omega)
  rw [HT.out] at c8
  go_wp2_with fail
  refine (refuse_yes _ _).mono ?_
  rintro e w' ⟨rfl, rfl⟩
  go_wp2
  exact ⟨rfl, rfl, B3.out⟩
end Go.Proofs.Ytgjkbaplfbiomaa
