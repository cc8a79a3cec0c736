/-
  ReadPacket of the model.
-/
import Derived.Test.YtgjkbaplfbiomaaPkP
import Derived.Test.YtgjkbaplfbiomaaStPacket
import Derived.Test.YtgjkbaplfbiomaaImPkK
namespace Go.Proofs.Ytgjkbaplfbiomaa
open Go.ChangeShapes Go.WideShapes Go.ChangeAt Go.RowKit

def rpLen (n : Nat) : Bool := decide (20 ≤ n ∧ n ≤ 600)

set_option maxHeartbeats 1000000 in
theorem specReadPacket_len (a : Option Addr) (len cap : Nat) (w : World) (h : rpLen len = false) :
    Calls Try.prog 22 #[.slice a len cap] w (PacketRes w 2 0 0 0 0 []) := by
  simp only [rpLen, decide_eq_false_iff_not] at h
  by_cases h1 : 20 ≤ len
  · have h2 : ¬ len ≤ 600 := fun h2 => h ⟨h1, h2⟩
    have e1 : decide ((len : Int) < 20) = false := decide_eq_false (by omega)
    have e2 : decide ((600 : Int) < len) = true := decide_eq_true (by omega)
    clear h h1 h2
    go_enter Try.func22, Try.ntmps22
    go_wp2
    exact bodyPost_ret (v := .agg #[.int .i64 2, .int .i64 0, .int .i64 0, .int .i64 0, .int .i64 0, .slice none 0 0]) (by simp [results, Try.results22, go_sem]) rfl ⟨none, 0, 0, rfl, Own.nil _ _, (Below.refl _ _).alloc (Nat.le_refl _) _⟩
  · have e1 : decide ((len : Int) < 20) = true := decide_eq_true (by omega)
    clear h h1
    go_enter Try.func22, Try.ntmps22
    go_wp2
    exact bodyPost_ret (v := .agg #[.int .i64 2, .int .i64 0, .int .i64 0, .int .i64 0, .int .i64 0, .slice none 0 0]) (by simp [results, Try.results22, go_sem]) rfl ⟨none, 0, 0, rfl, Own.nil _ _, (Below.refl _ _).alloc (Nat.le_refl _) _⟩

set_option maxHeartbeats 2000000 in
theorem specReadPacket_form (a : Option Addr) (len cap : Nat) (zs : List Int) (w : World) (hr : Rd w a len cap zs) (h1 : 20 ≤ len) (h2 : len ≤ 600) (b0 n ct : Int) (q0 : zs.getD 0 0 = b0) (qn : rdTo zs 2 2 = n) (qc : rdTo zs 6 2 = ct)
    (hf : (b0 != 69) = true ∨ (b0 != 69) = false ∧ (decide (n < 20) = true ∨ decide (n < 20) = false ∧ (decide ((len : Int) < n) = true ∨ decide ((len : Int) < n) = false ∧ (decide (580 < n) = true ∨ decide (580 < n) = false ∧ (ct != 0) = true ∧ (ct != 16384) = true)))) :
    Calls Try.prog 22 #[.slice a len cap] w (PacketRes w 1 0 0 0 0 []) := by
  have hle := hr.le
  have hmx := hr.max
  rcases hr.cells with h0 | ⟨ba, off, rfl, hc⟩
  · omega
  have d1 : decide ((len : Int) < 20) = false := decide_eq_false (by omega)
  have d2 : decide ((600 : Int) < len) = false := decide_eq_false (by omega)
  have i0 : (0 : Int) < len := by omega
  have i0n : 0 < len := by omega
  have i8 : (8 : Int) < len := by omega
  have i9 : (9 : Int) < len := by omega
  have i20 : (20 : Int) ≤ cap := by omega
  have i20l : (20 : Int) ≤ len := by omega
  have i20n : 20 ≤ cap := by omega
  have HR := Lib.hid hr
  have K1 := Lib.hid (show ∀ W, Rd W (some ⟨ba, off, none⟩) len cap zs → Calls Try.prog 77 #[.slice (some ⟨ba, off, none⟩) len cap, .int .i64 2, .int .i64 2] W fun e w' => e = .returned (.int .i64 n) ∧ W = w' from fun W hW => by rw [← qn]; exact l1Read_lit _ len cap 2 2 2 2 zs W hW rfl rfl (by omega) (by omega))
  have K2 := Lib.hid (show ∀ W, Rd W (some ⟨ba, off, none⟩) len cap zs → Calls Try.prog 77 #[.slice (some ⟨ba, off, none⟩) len cap, .int .i64 6, .int .i64 2] W fun e w' => e = .returned (.int .i64 ct) ∧ W = w' from fun W hW => by rw [← qc]; exact l1Read_lit _ len cap 6 2 6 2 zs W hW rfl rfl (by omega) (by omega))
  have c0 : (w.alloc (.cells #[.int .i64 0, .int .i64 0, .int .i64 0, .int .i64 0, .int .i64 0, .slice none 0 0] 32)).cell? ⟨ba, off, none⟩ = some (.int .u8 (zs.getD 0 0)) := (((Below.refl w.heap.size w).alloc (Nat.le_refl _) _).cell (World.block_lt_of_cell? _ _ (hc 0 (by omega)))).trans (hc 0 (by omega))
  rw [q0] at c0
  clear hr hc q0 qn qc
  rcases hf with f1 | ⟨f1, f2 | ⟨f2, f3 | ⟨f3, f4 | ⟨f4, f5, f6⟩⟩⟩⟩
  all_goals
    go_enter Try.func22, Try.ntmps22
    go_wp2_with fail
    refine (K1.out _ (HR.out.alloc _)).mono ?_
    rintro e w' ⟨rfl, rfl⟩
    go_wp2_with fail
    refine (K2.out _ (HR.out.alloc _)).mono ?_
    rintro e w' ⟨rfl, rfl⟩
    go_wp2
    exact bodyPost_ret (v := .agg #[.int .i64 1, .int .i64 0, .int .i64 0, .int .i64 0, .int .i64 0, .slice none 0 0]) (by simp [results, Try.results22, go_sem]) rfl ⟨none, 0, 0, rfl, Own.nil _ _, (Below.refl _ _).alloc (Nat.le_refl _) _⟩

set_option maxHeartbeats 2000000 in
theorem specReadPacket_sum (a : Option Addr) (len cap : Nat) (zs : List Int) (w : World) (hr : Rd w a len cap zs) (h1 : 20 ≤ len) (h2 : len ≤ 600) (b0 n ct : Int) (q0 : zs.getD 0 0 = b0) (qn : rdTo zs 2 2 = n) (qc : rdTo zs 6 2 = ct) (hf : (b0 != 69) = false ∧ decide (n < 20) = false ∧ decide ((len : Int) < n) = false ∧ decide (580 < n) = false ∧ ((ct != 0) = false ∨ (ct != 0) = true ∧ (ct != 16384) = false)) (hs : ¬ sumV (zs.take 20) = 0) :
    Calls Try.prog 22 #[.slice a len cap] w (PacketRes w 6 0 0 0 0 []) := by
  have hle := hr.le
  have hmx := hr.max
  rcases hr.cells with h0 | ⟨ba, off, rfl, hc⟩
  · omega
  have d1 : decide ((len : Int) < 20) = false := decide_eq_false (by omega)
  have d2 : decide ((600 : Int) < len) = false := decide_eq_false (by omega)
  have i0 : (0 : Int) < len := by omega
  have i0n : 0 < len := by omega
  have i8 : (8 : Int) < len := by omega
  have i9 : (9 : Int) < len := by omega
  have i20 : (20 : Int) ≤ cap := by omega
  have i20l : (20 : Int) ≤ len := by omega
  have i20n : 20 ≤ cap := by omega
  have HR := Lib.hid hr
  have K1 := Lib.hid (show ∀ W, Rd W (some ⟨ba, off, none⟩) len cap zs → Calls Try.prog 77 #[.slice (some ⟨ba, off, none⟩) len cap, .int .i64 2, .int .i64 2] W fun e w' => e = .returned (.int .i64 n) ∧ W = w' from fun W hW => by rw [← qn]; exact l1Read_lit _ len cap 2 2 2 2 zs W hW rfl rfl (by omega) (by omega))
  have K2 := Lib.hid (show ∀ W, Rd W (some ⟨ba, off, none⟩) len cap zs → Calls Try.prog 77 #[.slice (some ⟨ba, off, none⟩) len cap, .int .i64 6, .int .i64 2] W fun e w' => e = .returned (.int .i64 ct) ∧ W = w' from fun W hW => by rw [← qc]; exact l1Read_lit _ len cap 6 2 6 2 zs W hW rfl rfl (by omega) (by omega))
  have c0 : (w.alloc (.cells #[.int .i64 0, .int .i64 0, .int .i64 0, .int .i64 0, .int .i64 0, .slice none 0 0] 32)).cell? ⟨ba, off, none⟩ = some (.int .u8 (zs.getD 0 0)) := (((Below.refl w.heap.size w).alloc (Nat.le_refl _) _).cell (World.block_lt_of_cell? _ _ (hc 0 (by omega)))).trans (hc 0 (by omega))
  rw [q0] at c0
  have KS := Lib.hid (show ∀ W, Rd W (some ⟨ba, off, none⟩) len cap zs → Calls Try.prog 78 #[.slice (some ⟨ba, off, none⟩) 20 cap] W fun e w' => e = .returned (.int .i64 (sumV (zs.take 20))) ∧ W = w' from fun W hW => by have := l1Sum_any _ 20 cap (zs.take 20) W (hW.upto 20 (by omega)) (by omega);  exact this)
  have f1 : (b0 != 69) = false := hf.1
  have f2 : decide (n < 20) = false := hf.2.1
  have f3 : decide ((len : Int) < n) = false := hf.2.2.1
  have f4 : decide (580 < n) = false := hf.2.2.2.1
  have hf5 : (ct != 0) = false ∨ (ct != 0) = true ∧ (ct != 16384) = false := hf.2.2.2.2
  have hn : (sumV (zs.take 20) != 0) = true := by simpa using hs
  clear hr hc q0 qn qc hf hs
  generalize sumV (zs.take 20) = v at *
  rcases hf5 with f5 | ⟨f5, f6⟩
  all_goals
    go_enter Try.func22, Try.ntmps22
    go_wp2_with fail
    refine (K1.out _ (HR.out.alloc _)).mono ?_
    rintro e w' ⟨rfl, rfl⟩
    go_wp2_with fail
    refine (K2.out _ (HR.out.alloc _)).mono ?_
    rintro e w' ⟨rfl, rfl⟩
    go_wp2_with fail
    refine (KS.out _ (HR.out.alloc _)).mono ?_
    rintro e w' ⟨rfl, rfl⟩
    go_wp2
    exact bodyPost_ret (v := .agg #[.int .i64 6, .int .i64 0, .int .i64 0, .int .i64 0, .int .i64 0, .slice none 0 0]) (by simp [results, Try.results22, go_sem]) rfl ⟨none, 0, 0, rfl, Own.nil _ _, (Below.refl _ _).alloc (Nat.le_refl _) _⟩

set_option maxHeartbeats 2000000 in
theorem specReadPacket_ttl (a : Option Addr) (len cap : Nat) (zs : List Int) (w : World) (hr : Rd w a len cap zs) (h1 : 20 ≤ len) (h2 : len ≤ 600) (b0 n ct : Int) (q0 : zs.getD 0 0 = b0) (qn : rdTo zs 2 2 = n) (qc : rdTo zs 6 2 = ct) (hf : (b0 != 69) = false ∧ decide (n < 20) = false ∧ decide ((len : Int) < n) = false ∧ decide (580 < n) = false ∧ ((ct != 0) = false ∨ (ct != 0) = true ∧ (ct != 16384) = false)) (hs : sumV (zs.take 20) = 0) (ht : zs.getD 8 0 = 0) :
    Calls Try.prog 22 #[.slice a len cap] w (PacketRes w 3 0 0 0 0 []) := by
  have hle := hr.le
  have hmx := hr.max
  rcases hr.cells with h0 | ⟨ba, off, rfl, hc⟩
  · omega
  have d1 : decide ((len : Int) < 20) = false := decide_eq_false (by omega)
  have d2 : decide ((600 : Int) < len) = false := decide_eq_false (by omega)
  have i0 : (0 : Int) < len := by omega
  have i0n : 0 < len := by omega
  have i8 : (8 : Int) < len := by omega
  have i9 : (9 : Int) < len := by omega
  have i20 : (20 : Int) ≤ cap := by omega
  have i20l : (20 : Int) ≤ len := by omega
  have i20n : 20 ≤ cap := by omega
  have HR := Lib.hid hr
  have K1 := Lib.hid (show ∀ W, Rd W (some ⟨ba, off, none⟩) len cap zs → Calls Try.prog 77 #[.slice (some ⟨ba, off, none⟩) len cap, .int .i64 2, .int .i64 2] W fun e w' => e = .returned (.int .i64 n) ∧ W = w' from fun W hW => by rw [← qn]; exact l1Read_lit _ len cap 2 2 2 2 zs W hW rfl rfl (by omega) (by omega))
  have K2 := Lib.hid (show ∀ W, Rd W (some ⟨ba, off, none⟩) len cap zs → Calls Try.prog 77 #[.slice (some ⟨ba, off, none⟩) len cap, .int .i64 6, .int .i64 2] W fun e w' => e = .returned (.int .i64 ct) ∧ W = w' from fun W hW => by rw [← qc]; exact l1Read_lit _ len cap 6 2 6 2 zs W hW rfl rfl (by omega) (by omega))
  have c0 : (w.alloc (.cells #[.int .i64 0, .int .i64 0, .int .i64 0, .int .i64 0, .int .i64 0, .slice none 0 0] 32)).cell? ⟨ba, off, none⟩ = some (.int .u8 (zs.getD 0 0)) := (((Below.refl w.heap.size w).alloc (Nat.le_refl _) _).cell (World.block_lt_of_cell? _ _ (hc 0 (by omega)))).trans (hc 0 (by omega))
  rw [q0] at c0
  have c8 : (w.alloc (.cells #[.int .i64 0, .int .i64 0, .int .i64 0, .int .i64 0, .int .i64 0, .slice none 0 0] 32)).cell? ⟨ba, off + 8, none⟩ = some (.int .u8 (zs.getD 8 0)) := (((Below.refl w.heap.size w).alloc (Nat.le_refl _) _).cell (World.block_lt_of_cell? _ _ (hc 8 (by omega)))).trans (hc 8 (by omega))
  rw [ht] at c8
  have KS := Lib.hid (show ∀ W, Rd W (some ⟨ba, off, none⟩) len cap zs → Calls Try.prog 78 #[.slice (some ⟨ba, off, none⟩) 20 cap] W fun e w' => e = .returned (.int .i64 0) ∧ W = w' from fun W hW => by have := l1Sum_any _ 20 cap (zs.take 20) W (hW.upto 20 (by omega)) (by omega); rw [hs] at this; exact this)
  have f1 : (b0 != 69) = false := hf.1
  have f2 : decide (n < 20) = false := hf.2.1
  have f3 : decide ((len : Int) < n) = false := hf.2.2.1
  have f4 : decide (580 < n) = false := hf.2.2.2.1
  have hf5 : (ct != 0) = false ∨ (ct != 0) = true ∧ (ct != 16384) = false := hf.2.2.2.2
  clear hr hc q0 qn qc hf hs ht
  rcases hf5 with f5 | ⟨f5, f6⟩
  all_goals
    go_enter Try.func22, Try.ntmps22
    go_wp2_with fail
    refine (K1.out _ (HR.out.alloc _)).mono ?_
    rintro e w' ⟨rfl, rfl⟩
    go_wp2_with fail
    refine (K2.out _ (HR.out.alloc _)).mono ?_
    rintro e w' ⟨rfl, rfl⟩
    go_wp2_with fail
    refine (KS.out _ (HR.out.alloc _)).mono ?_
    rintro e w' ⟨rfl, rfl⟩
    go_wp2
    exact bodyPost_ret (v := .agg #[.int .i64 3, .int .i64 0, .int .i64 0, .int .i64 0, .int .i64 0, .slice none 0 0]) (by simp [results, Try.results22, go_sem]) rfl ⟨none, 0, 0, rfl, Own.nil _ _, (Below.refl _ _).alloc (Nat.le_refl _) _⟩

set_option maxRecDepth 20000 in
set_option maxHeartbeats 4000000 in
theorem specReadPacket_ok1 (a : Option Addr) (len cap : Nat) (zs : List Int) (w : World) (hr : Rd w a len cap zs) (h1 : 20 ≤ len) (h2 : len ≤ 600) (b0 ct : Int) (N : Nat) (q0 : zs.getD 0 0 = b0) (qn : rdTo zs 2 2 = (N : Int)) (qc : rdTo zs 6 2 = ct) (hcap : ¬ cap = 20) (hf : (b0 != 69) = false ∧ decide ((N : Int) < 20) = false ∧ decide ((len : Int) < (N : Int)) = false ∧ decide (580 < (N : Int)) = false ∧ ((ct != 0) = false ∨ (ct != 0) = true ∧ (ct != 16384) = false)) (hs : sumV (zs.take 20) = 0) (kp kl : Int) (ht : zs.getD 8 0 = kl) (hp : zs.getD 9 0 = kp) (hz : (kl == 0) = false) :
    Calls Try.prog 22 #[.slice a len cap] w (PacketRes w 0 (rdTo zs 12 4) (rdTo zs 16 4) kp kl ((zs.take N).drop 20)) := by
  have hle := hr.le
  have hmx := hr.max
  rcases hr.cells with h0 | ⟨ba, off, rfl, hc⟩
  · omega
  have d1 : decide ((len : Int) < 20) = false := decide_eq_false (by omega)
  have d2 : decide ((600 : Int) < len) = false := decide_eq_false (by omega)
  have i0 : (0 : Int) < len := by omega
  have i0n : 0 < len := by omega
  have i8 : (8 : Int) < len := by omega
  have i9 : (9 : Int) < len := by omega
  have i20 : (20 : Int) ≤ cap := by omega
  have i20l : (20 : Int) ≤ len := by omega
  have i20n : 20 ≤ cap := by omega
  have HR := Lib.hid hr
  have K1 := Lib.hid (show ∀ W, Rd W (some ⟨ba, off, none⟩) len cap zs → Calls Try.prog 77 #[.slice (some ⟨ba, off, none⟩) len cap, .int .i64 2, .int .i64 2] W fun e w' => e = .returned (.int .i64 (N : Int)) ∧ W = w' from fun W hW => by rw [← qn]; exact l1Read_lit _ len cap 2 2 2 2 zs W hW rfl rfl (by omega) (by omega))
  have K2 := Lib.hid (show ∀ W, Rd W (some ⟨ba, off, none⟩) len cap zs → Calls Try.prog 77 #[.slice (some ⟨ba, off, none⟩) len cap, .int .i64 6, .int .i64 2] W fun e w' => e = .returned (.int .i64 ct) ∧ W = w' from fun W hW => by rw [← qc]; exact l1Read_lit _ len cap 6 2 6 2 zs W hW rfl rfl (by omega) (by omega))
  have c0 : (w.alloc (.cells #[.int .i64 0, .int .i64 0, .int .i64 0, .int .i64 0, .int .i64 0, .slice none 0 0] 32)).cell? ⟨ba, off, none⟩ = some (.int .u8 (zs.getD 0 0)) := (((Below.refl w.heap.size w).alloc (Nat.le_refl _) _).cell (World.block_lt_of_cell? _ _ (hc 0 (by omega)))).trans (hc 0 (by omega))
  rw [q0] at c0
  have c8 : (w.alloc (.cells #[.int .i64 0, .int .i64 0, .int .i64 0, .int .i64 0, .int .i64 0, .slice none 0 0] 32)).cell? ⟨ba, off + 8, none⟩ = some (.int .u8 (zs.getD 8 0)) := (((Below.refl w.heap.size w).alloc (Nat.le_refl _) _).cell (World.block_lt_of_cell? _ _ (hc 8 (by omega)))).trans (hc 8 (by omega))
  rw [ht] at c8
  have KS := Lib.hid (show ∀ W, Rd W (some ⟨ba, off, none⟩) len cap zs → Calls Try.prog 78 #[.slice (some ⟨ba, off, none⟩) 20 cap] W fun e w' => e = .returned (.int .i64 0) ∧ W = w' from fun W hW => by have := l1Sum_any _ 20 cap (zs.take 20) W (hW.upto 20 (by omega)) (by omega); rw [hs] at this; exact this)
  have f1 : (b0 != 69) = false := hf.1
  have f2 : decide ((N : Int) < 20) = false := hf.2.1
  have f3 : decide ((len : Int) < (N : Int)) = false := hf.2.2.1
  have f4 : decide (580 < (N : Int)) = false := hf.2.2.2.1
  have hf5 : (ct != 0) = false ∨ (ct != 0) = true ∧ (ct != 16384) = false := hf.2.2.2.2
  have n1 : 20 ≤ N := by have := of_decide_eq_false f2; omega
  have n2 : N ≤ len := by have := of_decide_eq_false f3; omega
  have n3 : N ≤ 580 := by have := of_decide_eq_false f4; omega
  have j1 : (20 : Int) ≤ N := by omega
  have j2 : (N : Int) ≤ cap := by omega
  have j3 : N ≤ cap := by omega
  have v8 : IntKind.i64.wrap kl = kl := IntWalk.i64_in _ (by have := b8_getD hr.b8 8; omega)
  have v9 : IntKind.i64.wrap kp = kp := IntWalk.i64_in _ (by have := b8_getD hr.b8 9; omega)
  have K3 := Lib.hid (fun W (hW : Rd W (some ⟨ba, off, none⟩) len cap zs) => l1Read_lit _ len cap 12 4 12 4 zs W hW rfl rfl (by omega) (by omega))
  have K4 := Lib.hid (fun W (hW : Rd W (some ⟨ba, off, none⟩) len cap zs) => l1Read_lit _ len cap 16 4 16 4 zs W hW rfl rfl (by omega) (by omega))
  have R0 := Lib.hid (Box.new w 32 #[.int .i64 0, .int .i64 0, .int .i64 0, .int .i64 0, .int .i64 0, .slice none 0 0])
  have B0 := Lib.hid ((Below.refl w.heap.size w).alloc (Nat.le_refl _) (.cells #[.int .i64 0, .int .i64 0, .int .i64 0, .int .i64 0, .int .i64 0, .slice none 0 0] 32))
  have SS := Lib.hid (show ∀ W, Hid (Below w.heap.size w W) → W.cell? ⟨ba, off + 8, none⟩ = some (.int .u8 kl) ∧ W.cell? ⟨ba, off + 9, none⟩ = some (.int .u8 kp) ∧ Hid (Below w.heap.size w W) from fun W h => by
    refine ⟨?_, ?_, h⟩
    · rw [← ht]; exact (h.out.cell (World.block_lt_of_cell? _ _ (hc 8 (by omega)))).trans (hc 8 (by omega))
    · rw [← hp]; exact (h.out.cell (World.block_lt_of_cell? _ _ (hc 9 (by omega)))).trans (hc 9 (by omega)))
  have HD := Lib.hid (show ∀ W, Hid (Below w.heap.size w W) → Rd W (some ⟨ba, off + 20, none⟩) (N - 20) (cap - 20) ((zs.take N).drop 20) from fun W h => ((HR.out.below h.out).upto N (by omega)).from 20 _ _ _ (by omega) rfl rfl rfl)
  have HW := Lib.hid (show ∀ W, Hid (Below w.heap.size w W) → Rd W (some ⟨ba, off, none⟩) len cap zs from fun W h => HR.out.below h.out)
  clear hr hc hs hf q0 qn qc ht hp
  generalize ((zs.take N).drop 20) = ys at *
  generalize rdTo zs 12 4 = m1 at *
  generalize rdTo zs 16 4 = m2 at *
  rcases hf5 with f5 | ⟨f5, f6⟩
  all_goals
    go_enter Try.func22, Try.ntmps22
    go_wp2_with fail
    refine (K1.out _ (HR.out.alloc _)).mono ?_
    rintro e w' ⟨rfl, rfl⟩
    go_wp2_with fail
    refine (K2.out _ (HR.out.alloc _)).mono ?_
    rintro e w' ⟨rfl, rfl⟩
    go_wp2_with fail
    refine (KS.out _ (HR.out.alloc _)).mono ?_
    rintro e w' ⟨rfl, rfl⟩
    go_wp2_with fail
    generalize w.alloc (.cells #[.int .i64 0, .int .i64 0, .int .i64 0, .int .i64 0, .int .i64 0, .slice none 0 0] 32) = W0 at *
    have T0 : Hid (Below w.heap.size w W0) := B0.out
    have TD := kDrew T0
    go_region_held3 (fun W => W.cell? ⟨ba, off + 8, none⟩ = some (.int .u8 kl) ∧ W.cell? ⟨ba, off + 9, none⟩ = some (.int .u8 kp) ∧ Hid (Below w.heap.size w W))
      (first
        | (go_split_ands; refine SS.out _ ?_; (with_reducible assumption))
        | (go_split_ands; refine SS.out _ ?_; (with_reducible refine kDrew ?_); (with_reducible assumption))
        | (go_split_ands; refine SS.out _ ?_; iterate 6 (with_reducible refine kSet (Nat.le_refl _) ?_)
           (with_reducible assumption)))
      (first
        | (have q := M1; clear q; go_at_call 76; refine (l1Copy_any _ _ _ ys _ (HD.out _ TD) (by omega)).mono ?_; rintro e w4 ⟨a4, c4, rfl, o4, b4⟩; have T4 := kCall b4 (kSize TD) TD; have R4 := (show Box W0.drew _ _ _ from R0.out).below b4 R0.out.lt; obtain ⟨_, r0, r1, r2, r3, r4, r5⟩ := R4.six; have g0 := R4.frozen 0; have g1 := R4.frozen 1; have g2 := R4.frozen 2; have g3 := R4.frozen 3; have g4 := R4.frozen 4; have g5 := R4.frozen 5)
        | (have q := M0; clear q; go_at_call 77; refine (K4.out _ (HW.out _ TD)).mono ?_; rintro e w3 ⟨rfl, rfl⟩; have M1 := Lib.hid trivial)
        | (go_at_call 77; refine (K3.out _ (HW.out _ TD)).mono ?_; rintro e w2 ⟨rfl, rfl⟩; have M0 := Lib.hid trivial))
    have hz0 := R0.out.lt
    have hn : Hid (∀ x, a4 = some x → ¬ x.block = w.heap.size) := fun x hx e => by
      have h3 : W0.heap.size ≤ x.block := (o4.lt x hx).1
      omega
    have O4 : Hid (Own w4 w.heap.size a4 (N - 20) c4 ys) := o4.rebase B0.out.size
    clear o4 b4 R4 SS TD T0 HD HW
    go_wp2
    refine bodyPost_ret (v := .agg #[.int .i64 0, .int .i64 m1, .int .i64 m2, .int .i64 kp, .int .i64 kl, .slice a4 (N - 20) c4]) (by simp [results, Try.results22, go_sem, r0, r1, r2, r3, r4, r5]) rfl ⟨_, _, _, rfl, ?_, ?_⟩
    · exact (((((O4.out.setOther _ _ hn.out).setOther _ _ hn.out).setOther _ _ hn.out).setOther _ _ hn.out).setOther _ _ hn.out).setOther _ _ hn.out
    · exact (((((T4.out.setCell (Nat.le_refl _) _).setCell (Nat.le_refl _) _).setCell (Nat.le_refl _) _).setCell (Nat.le_refl _) _).setCell (Nat.le_refl _) _).setCell (Nat.le_refl _) _

set_option maxRecDepth 20000 in
set_option maxHeartbeats 4000000 in
theorem specReadPacket_ok2 (a : Option Addr) (zs : List Int) (w : World) (hr : Rd w a 20 20 zs) (b0 ct : Int) (q0 : zs.getD 0 0 = b0) (qn : rdTo zs 2 2 = 20) (qc : rdTo zs 6 2 = ct) (hf : (b0 != 69) = false ∧ ((ct != 0) = false ∨ (ct != 0) = true ∧ (ct != 16384) = false)) (hs : sumV (zs.take 20) = 0) (kp kl : Int) (ht : zs.getD 8 0 = kl) (hp : zs.getD 9 0 = kp) (hz : (kl == 0) = false) :
    Calls Try.prog 22 #[.slice a 20 20] w (PacketRes w 0 (rdTo zs 12 4) (rdTo zs 16 4) kp kl (zs.drop 20)) := by
  have hle := hr.le
  have hmx := hr.max
  rcases hr.cells with h0 | ⟨ba, off, rfl, hc⟩
  · omega
  have HR := Lib.hid hr
  have K1 := Lib.hid (show ∀ W, Rd W (some ⟨ba, off, none⟩) 20 20 zs → Calls Try.prog 77 #[.slice (some ⟨ba, off, none⟩) 20 20, .int .i64 2, .int .i64 2] W fun e w' => e = .returned (.int .i64 20) ∧ W = w' from fun W hW => by rw [← qn]; exact l1Read_lit _ 20 20 2 2 2 2 zs W hW rfl rfl (by omega) (by omega))
  have K2 := Lib.hid (show ∀ W, Rd W (some ⟨ba, off, none⟩) 20 20 zs → Calls Try.prog 77 #[.slice (some ⟨ba, off, none⟩) 20 20, .int .i64 6, .int .i64 2] W fun e w' => e = .returned (.int .i64 ct) ∧ W = w' from fun W hW => by rw [← qc]; exact l1Read_lit _ 20 20 6 2 6 2 zs W hW rfl rfl (by omega) (by omega))
  have c0 : (w.alloc (.cells #[.int .i64 0, .int .i64 0, .int .i64 0, .int .i64 0, .int .i64 0, .slice none 0 0] 32)).cell? ⟨ba, off, none⟩ = some (.int .u8 (zs.getD 0 0)) := (((Below.refl w.heap.size w).alloc (Nat.le_refl _) _).cell (World.block_lt_of_cell? _ _ (hc 0 (by omega)))).trans (hc 0 (by omega))
  rw [q0] at c0
  have c8 : (w.alloc (.cells #[.int .i64 0, .int .i64 0, .int .i64 0, .int .i64 0, .int .i64 0, .slice none 0 0] 32)).cell? ⟨ba, off + 8, none⟩ = some (.int .u8 (zs.getD 8 0)) := (((Below.refl w.heap.size w).alloc (Nat.le_refl _) _).cell (World.block_lt_of_cell? _ _ (hc 8 (by omega)))).trans (hc 8 (by omega))
  rw [ht] at c8
  have KS := Lib.hid (show ∀ W, Rd W (some ⟨ba, off, none⟩) 20 20 zs → Calls Try.prog 78 #[.slice (some ⟨ba, off, none⟩) 20 20] W fun e w' => e = .returned (.int .i64 0) ∧ W = w' from fun W hW => by have := l1Sum_any _ 20 20 (zs.take 20) W (hW.upto 20 (by omega)) (by omega); rw [hs] at this; exact this)
  have f1 : (b0 != 69) = false := hf.1
  have hf5 : (ct != 0) = false ∨ (ct != 0) = true ∧ (ct != 16384) = false := hf.2
  have v8 : IntKind.i64.wrap kl = kl := IntWalk.i64_in _ (by have := b8_getD hr.b8 8; omega)
  have v9 : IntKind.i64.wrap kp = kp := IntWalk.i64_in _ (by have := b8_getD hr.b8 9; omega)
  have K3 := Lib.hid (fun W (hW : Rd W (some ⟨ba, off, none⟩) 20 20 zs) => l1Read_lit _ 20 20 12 4 12 4 zs W hW rfl rfl (by omega) (by omega))
  have K4 := Lib.hid (fun W (hW : Rd W (some ⟨ba, off, none⟩) 20 20 zs) => l1Read_lit _ 20 20 16 4 16 4 zs W hW rfl rfl (by omega) (by omega))
  have R0 := Lib.hid (Box.new w 32 #[.int .i64 0, .int .i64 0, .int .i64 0, .int .i64 0, .int .i64 0, .slice none 0 0])
  have B0 := Lib.hid ((Below.refl w.heap.size w).alloc (Nat.le_refl _) (.cells #[.int .i64 0, .int .i64 0, .int .i64 0, .int .i64 0, .int .i64 0, .slice none 0 0] 32))
  have SS := Lib.hid (show ∀ W, Hid (Below w.heap.size w W) → W.cell? ⟨ba, off + 8, none⟩ = some (.int .u8 kl) ∧ W.cell? ⟨ba, off + 9, none⟩ = some (.int .u8 kp) ∧ Hid (Below w.heap.size w W) from fun W h => by
    refine ⟨?_, ?_, h⟩
    · rw [← ht]; exact (h.out.cell (World.block_lt_of_cell? _ _ (hc 8 (by omega)))).trans (hc 8 (by omega))
    · rw [← hp]; exact (h.out.cell (World.block_lt_of_cell? _ _ (hc 9 (by omega)))).trans (hc 9 (by omega)))
  have HD := Lib.hid (show ∀ W, Hid (Below w.heap.size w W) → Rd W (some ⟨ba, off, none⟩) 0 0 (zs.drop 20) from fun W h => ⟨by have := HR.out.length; simp; omega, Nat.le_refl _, Nat.zero_le _, b8_drop HR.out.b8 20, by simp, .inl rfl⟩)
  have HW := Lib.hid (show ∀ W, Hid (Below w.heap.size w W) → Rd W (some ⟨ba, off, none⟩) 20 20 zs from fun W h => HR.out.below h.out)
  clear hr hc hs hf q0 qn qc ht hp
  generalize (zs.drop 20) = ys at *
  generalize rdTo zs 12 4 = m1 at *
  generalize rdTo zs 16 4 = m2 at *
  rcases hf5 with f5 | ⟨f5, f6⟩
  all_goals
    go_enter Try.func22, Try.ntmps22
    go_wp2_with fail
    refine (K1.out _ (HR.out.alloc _)).mono ?_
    rintro e w' ⟨rfl, rfl⟩
    go_wp2_with fail
    refine (K2.out _ (HR.out.alloc _)).mono ?_
    rintro e w' ⟨rfl, rfl⟩
    go_wp2_with fail
    refine (KS.out _ (HR.out.alloc _)).mono ?_
    rintro e w' ⟨rfl, rfl⟩
    go_wp2_with fail
    generalize w.alloc (.cells #[.int .i64 0, .int .i64 0, .int .i64 0, .int .i64 0, .int .i64 0, .slice none 0 0] 32) = W0 at *
    have T0 : Hid (Below w.heap.size w W0) := B0.out
    have TD := kDrew T0
    go_region_held3 (fun W => W.cell? ⟨ba, off + 8, none⟩ = some (.int .u8 kl) ∧ W.cell? ⟨ba, off + 9, none⟩ = some (.int .u8 kp) ∧ Hid (Below w.heap.size w W))
      (first
        | (go_split_ands; refine SS.out _ ?_; (with_reducible assumption))
        | (go_split_ands; refine SS.out _ ?_; (with_reducible refine kDrew ?_); (with_reducible assumption))
        | (go_split_ands; refine SS.out _ ?_; iterate 6 (with_reducible refine kSet (Nat.le_refl _) ?_)
           (with_reducible assumption)))
      (first
        | (have q := M1; clear q; go_at_call 76; refine (l1Copy_any _ _ _ ys _ (HD.out _ TD) (by omega)).mono ?_; rintro e w4 ⟨a4, c4, rfl, o4, b4⟩; have T4 := kCall b4 (kSize TD) TD; have R4 := (show Box W0.drew _ _ _ from R0.out).below b4 R0.out.lt; obtain ⟨_, r0, r1, r2, r3, r4, r5⟩ := R4.six; have g0 := R4.frozen 0; have g1 := R4.frozen 1; have g2 := R4.frozen 2; have g3 := R4.frozen 3; have g4 := R4.frozen 4; have g5 := R4.frozen 5)
        | (have q := M0; clear q; go_at_call 77; refine (K4.out _ (HW.out _ TD)).mono ?_; rintro e w3 ⟨rfl, rfl⟩; have M1 := Lib.hid trivial)
        | (go_at_call 77; refine (K3.out _ (HW.out _ TD)).mono ?_; rintro e w2 ⟨rfl, rfl⟩; have M0 := Lib.hid trivial))
    have hz0 := R0.out.lt
    have hn : Hid (∀ x, a4 = some x → ¬ x.block = w.heap.size) := fun x hx e => by
      have h3 : W0.heap.size ≤ x.block := (o4.lt x hx).1
      omega
    have O4 : Hid (Own w4 w.heap.size a4 0 c4 ys) := o4.rebase B0.out.size
    clear o4 b4 R4 SS TD T0 HD HW
    go_wp2
    refine bodyPost_ret (v := .agg #[.int .i64 0, .int .i64 m1, .int .i64 m2, .int .i64 kp, .int .i64 kl, .slice a4 0 c4]) (by simp [results, Try.results22, go_sem, r0, r1, r2, r3, r4, r5]) rfl ⟨_, _, _, rfl, ?_, ?_⟩
    · exact (((((O4.out.setOther _ _ hn.out).setOther _ _ hn.out).setOther _ _ hn.out).setOther _ _ hn.out).setOther _ _ hn.out).setOther _ _ hn.out
    · exact (((((T4.out.setCell (Nat.le_refl _) _).setCell (Nat.le_refl _) _).setCell (Nat.le_refl _) _).setCell (Nat.le_refl _) _).setCell (Nat.le_refl _) _).setCell (Nat.le_refl _) _
end Go.Proofs.Ytgjkbaplfbiomaa
