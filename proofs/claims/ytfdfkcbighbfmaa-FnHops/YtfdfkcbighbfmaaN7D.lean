/-
  The draws of routes: l7Ip, l7Route, DrawRouteFault, DrawNextHop.
-/
import Derived.Test.YtfdfkcbighbfmaaDr6
import Derived.Test.YtfdfkcbighbfmaaN7E
namespace Go.Proofs.Ytfdfkcbighbfmaa
open Go.ChangeShapes Go.WideShapes Go.ChangeAt Go.RowKit

theorem DU.under {w W W' : World} {b t : Nat} {a : Option Addr} {len cap : Nat} {zs : List Int} (h : DU w W b t a len cap zs) (hb : Below W.heap.size W W') : DU w W' b t a len cap zs :=
  ⟨⟨h.src.box.below hb h.src.box.lt, h.src.rd.below hb, h.src.lt⟩, h.bel.trans (hb.mono h.bel.size), h.lo, h.rd⟩
theorem DU.put {w W : World} {b t : Nat} {a : Option Addr} {len cap : Nat} {zs : List Int} (h : DU w W b t a len cap zs) (g i : Nat) (v : Value) (hg : w.heap.size ≤ g) (hne : b ≠ g) : DU w (W.setCell ⟨g, i, none⟩ v) b t a len cap zs :=
  ⟨⟨h.src.box.grown (grown_setCell W ⟨g, i, none⟩ v) (by simpa using hne), h.rd.below (h.bel.setCell hg _), h.src.lt⟩, h.bel.setCell hg _, h.lo, h.rd⟩
theorem l1Later7_any (n : Nat) (a : Option Addr) (len cap : Nat) (zs : List Int) (w : World) (h : Rd w a len cap zs) (hn : n ≤ 1000) :
    Calls Try.prog 108 #[.slice a len cap, .int .i64 n] w fun e w' => e = .returned (.pointer (some ⟨w.heap.size, 0, none⟩)) ∧ Src w' w.heap.size (5 + 7 * n) a len cap zs ∧ Below w.heap.size w w' := by
  have hb := Lib.hid (Box.new w 148 #[.slice a len cap, .int .i64 ((5 + 7 * n : Nat) : Int)])
  simp only [Int.natCast_add, Int.natCast_mul, Int.cast_ofNat_Int] at hb
  have H := Lib.hid h
  clear h
  go_enter Try.func108, Try.ntmps108
  go_wp2
  go_ret
  refine ⟨rfl, ⟨by simpa using hb.out, H.out.alloc _, ?_⟩, (Below.refl _ _).alloc (Nat.le_refl _) _⟩
  intro hp x hx
  rcases H.out.cells with h0 | ⟨b, off, e, hc⟩
  · omega
  · rw [e] at hx; cases hx; exact World.block_lt_of_cell? _ _ (hc 0 hp)

set_option maxHeartbeats 1000000 in
theorem l7Ip_any {w W : World} {b t : Nat} {a : Option Addr} {len cap : Nat} {zs : List Int} (h : DU w W b t a len cap zs) (ht : t ≤ 1000000) (hl : len ≤ 1048576) :
    Calls Try.prog 90 #[.pointer (some ⟨b, 0, none⟩)] W fun e w' => ∃ r : Int, e = .returned (.int .i64 r) ∧ 0 ≤ r ∧ r ≤ 4294967295 ∧ DU w w' b (t + 1) a len cap zs ∧ W.grownBy w' (some b) := by
  have D := Lib.hid h
  clear h
  go_enter Try.func90, Try.ntmps90
  go_wp2_with fail
  refine (D.out.pick [167772161, 167772162, 167772163, 167772200, 3232235777, 7] 7 3232235777 rfl rfl (by simp) (by decide) (by decide) (by omega) hl).mono ?_
  rintro e w1 ⟨r, rfl, r0, r1, d1, g1⟩
  have D1 := Lib.hid d1
  have G1 := Lib.hid g1
  clear d1 g1 D
  go_wp2
  go_ret
  exact ⟨r, rfl, by omega, by omega, D1.out, G1.out⟩

set_option maxHeartbeats 1000000 in
theorem l7Route_any {w W : World} {b t : Nat} {a : Option Addr} {len cap : Nat} {zs : List Int} (h : DU w W b t a len cap zs) (ht : t ≤ 999000) (hl : len ≤ 1048576) :
    Calls Try.prog 135 #[.pointer (some ⟨b, 0, none⟩)] W fun e w' => ∃ r bits gw : Int, e = .returned (.agg #[.int .i64 r, .int .i64 bits, .int .i64 gw]) ∧ DU w w' b (t + 3) a len cap zs := by
  have X0 := Lib.hid (Box.new W 59 #[.int .i64 0, .int .i64 0, .int .i64 0])
  have D := Lib.hid (h.alloc (.cells #[.int .i64 0, .int .i64 0, .int .i64 0] 59))
  have hb0 := Lib.hid (show b ≠ W.heap.size by have := h.src.box.lt; omega)
  have hw0 := Lib.hid h.bel.size
  clear h
  go_enter Try.func135, Try.ntmps135
  go_wp2_with fail
  rw [show W.heap.size + 1 = (W.alloc (.cells #[.int .i64 0, .int .i64 0, .int .i64 0] 59)).heap.size by simp]
  generalize W.alloc (.cells #[.int .i64 0, .int .i64 0, .int .i64 0] 59) = W1 at *
  refine (D.out.pick [167772161, 3232235777, 5] 5 3232235777 rfl rfl (by simp) (by decide) (by decide) (by omega) hl).mono ?_
  rintro e w1 ⟨r, rfl, r0, r1, d1, g1⟩
  have D1 := Lib.hid d1
  have X1 := Lib.hid (X0.out.grown g1 (by have := hb0.out; simp; omega))
  clear d1 g1 D X0
  go_wp2_with fail
  refine (D1.out.pick [24, 8, 30] 8 30 rfl rfl (by simp) (by decide) (by decide) (by omega) hl).mono ?_
  rintro e w2 ⟨bits, rfl, q0, q1, d2, g2⟩
  have D2 := Lib.hid d2
  have X2 := Lib.hid (X1.out.grown g2 (by have := hb0.out; simp; omega))
  clear d2 g2 D1 X1
  go_wp2_with fail
  refine (D2.out.pick [0, 167772254] 0 167772254 rfl rfl (by simp) (by decide) (by decide) (by omega) hl).mono ?_
  rintro e w3 ⟨gw, rfl, k0, k1, d3, g3⟩
  have D3 := Lib.hid d3
  have X3 := X2.out.grown g3 (by have := hb0.out; simp; omega)
  obtain ⟨_, x0, x1, x2⟩ := X3.r3
  have f0 := X3.frozen 0
  have f1 := X3.frozen 1
  have f2 := X3.frozen 2
  clear d3 g3 D2 X2 X3
  go_wp2
  refine bodyPost_ret (v := .agg #[.int .i64 r, .int .i64 bits, .int .i64 gw]) (by simp [results, Try.results135, go_sem, x0, x1, x2]) rfl ⟨r, bits, gw, rfl, ?_⟩
  exact ((D3.out.put _ _ _ hw0.out hb0.out).put _ _ _ hw0.out hb0.out).put _ _ _ hw0.out hb0.out

set_option maxHeartbeats 2000000 in
theorem drawRouteFault (a : Option Addr) (len cap : Nat) (zs : List Int) (w : World) (hr : Rd w a len cap zs) (hl : len ≤ 1048576) :
    Calls Try.prog 109 #[.slice a len cap] w fun e w' => ∃ r bits gw : Int, e = .returned (.agg #[.int .i64 r, .int .i64 bits, .int .i64 gw]) ∧ Below w.heap.size w w' := by
  have BA := Lib.hid ((Below.refl w.heap.size w).alloc (Nat.le_refl _) (.cells #[.int .i64 0, .int .i64 0, .int .i64 0] 59))
  have XA := Lib.hid (Box.new w 59 #[.int .i64 0, .int .i64 0, .int .i64 0])
  have HR := Lib.hid (hr.alloc (.cells #[.int .i64 0, .int .i64 0, .int .i64 0] 59))
  clear hr
  go_enter Try.func109, Try.ntmps109
  go_wp2_with fail
  generalize w.alloc (.cells #[.int .i64 0, .int .i64 0, .int .i64 0] 59) = W1 at *
  refine (l1Source_any a len cap zs _ HR.out).mono ?_
  rintro e w1 ⟨rfl, s1, b1⟩
  have D1 := Lib.hid (show DU W1 w1 W1.heap.size 0 a len cap zs from ⟨s1, b1, Nat.le_refl _, HR.out⟩)
  clear s1 b1
  go_wp2_with fail
  refine (l7Route_any D1.out (by omega) hl).mono ?_
  rintro e w2 ⟨r, bits, gw, rfl, d2⟩
  have X2 := Lib.hid (Box.new w2 59 #[.int .i64 r, .int .i64 bits, .int .i64 gw])
  have D2 := Lib.hid (d2.alloc (.cells #[.int .i64 r, .int .i64 bits, .int .i64 gw] 59))
  have hx2 := Lib.hid (show W1.heap.size ≠ w2.heap.size ∧ W1.heap.size ≤ w2.heap.size by have := d2.src.box.lt; omega)
  clear d2 D1
  go_wp2_with fail
  generalize w2.alloc (.cells #[.int .i64 r, .int .i64 bits, .int .i64 gw] 59) = W2 at *
  refine (D2.out.next 6 (by omega) hl (by omega)).mono ?_
  rintro e w3 ⟨k, rfl, k0, k1, d3, g3⟩
  have D3 := Lib.hid d3
  have X3 := Lib.hid (X2.out.grown g3 (by have := hx2.out; simp; omega))
  clear d3 g3 D2 X2 k1
  have hlt2 : w.heap.size < w2.heap.size := by have := XA.out.lt; have := hx2.out.2; omega
  have hne : ¬ w.heap.size = w2.heap.size := by omega
  have hne' : ¬ w2.heap.size = w.heap.size := by omega
  by_cases hk0 : k = 0
  · subst hk0
    go_wp2_with fail
    refine (D3.out.pick [7, 31] 7 31 rfl rfl (by simp) (by decide) (by decide) (by omega) hl).mono ?_
    rintro e w4 ⟨y, rfl, y0, y1, d4, g4⟩
    have X4 := X3.out.grown g4 (by have := hx2.out; simp; omega)
    have D4 := Lib.hid d4
    have hx4 := X4.lt
    clear d4 g4
    obtain ⟨_, x0, x1, x2⟩ := X4.r3
    have f0 := X4.frozen 0
    have f1 := X4.frozen 1
    have XA4 := Lib.hid (XA.out.below D4.out.bel XA.out.lt)
    obtain ⟨_, p0, p1, p2⟩ := XA4.out.r3
    have q0 := XA4.out.frozen 0
    have q1 := XA4.out.frozen 1
    have q2 := XA4.out.frozen 2
    have B4 := Lib.hid (BA.out.trans (D4.out.bel.mono BA.out.size))
    clear D3 X3 X4 XA4 D4
    go_wp2
    refine bodyPost_ret (v := .agg #[.int .i64 r, .int .i64 y, .int .i64 gw]) (by simp [results, Try.results109, go_sem, p0, p1, p2]) rfl ⟨_, _, _, rfl, ?_⟩
    exact ((((B4.out.setCell (Nat.le_of_lt hlt2) _)).setCell (Nat.le_refl _) _).setCell (Nat.le_refl _) _).setCell (Nat.le_refl _) _
  · by_cases hk1 : k = 1
    · subst hk1
      go_wp2_with fail
      refine (D3.out.pick [-1, 4294967296] (-1) 4294967296 rfl rfl (by simp) (by decide) (by decide) (by omega) hl).mono ?_
      rintro e w4 ⟨y, rfl, y0, y1, d4, g4⟩
      have X4 := X3.out.grown g4 (by have := hx2.out; simp; omega)
      have D4 := Lib.hid d4
      have hx4 := X4.lt
      clear d4 g4
      obtain ⟨_, x0, x1, x2⟩ := X4.r3
      have f0 := X4.frozen 0
      have f1 := X4.frozen 1
      have XA4 := Lib.hid (XA.out.below D4.out.bel XA.out.lt)
      obtain ⟨_, p0, p1, p2⟩ := XA4.out.r3
      have q0 := XA4.out.frozen 0
      have q1 := XA4.out.frozen 1
      have q2 := XA4.out.frozen 2
      have B4 := Lib.hid (BA.out.trans (D4.out.bel.mono BA.out.size))
      clear D3 X3 X4 XA4 D4
      go_wp2
      refine bodyPost_ret (v := .agg #[.int .i64 y, .int .i64 bits, .int .i64 gw]) (by simp [results, Try.results109, go_sem, p0, p1, p2]) rfl ⟨_, _, _, rfl, ?_⟩
      exact ((((B4.out.setCell (Nat.le_of_lt hlt2) _)).setCell (Nat.le_refl _) _).setCell (Nat.le_refl _) _).setCell (Nat.le_refl _) _
    · have D4 := Lib.hid D3.out
      have X4 := X3.out
      have hx4 := X4.lt
      obtain ⟨_, x0, x1, x2⟩ := X4.r3
      have f0 := X4.frozen 0
      have f1 := X4.frozen 1
      have XA4 := Lib.hid (XA.out.below D4.out.bel XA.out.lt)
      obtain ⟨_, p0, p1, p2⟩ := XA4.out.r3
      have q0 := XA4.out.frozen 0
      have q1 := XA4.out.frozen 1
      have q2 := XA4.out.frozen 2
      have B4 := Lib.hid (BA.out.trans (D4.out.bel.mono BA.out.size))
      clear D3 X3 X4 XA4 D4
      go_wp2
      refine bodyPost_ret (v := .agg #[.int .i64 r, .int .i64 bits, .int .i64 gw]) (by simp [results, Try.results109, go_sem, p0, p1, p2]) rfl ⟨_, _, _, rfl, ?_⟩
      exact (((B4.out).setCell (Nat.le_refl _) _).setCell (Nat.le_refl _) _).setCell (Nat.le_refl _) _

set_option maxHeartbeats 2000000 in
theorem drawNextHop (a : Option Addr) (len cap : Nat) (zs : List Int) (w : World) (hr : Rd w a len cap zs) (hl : len ≤ 1048576) :
    Calls Try.prog 43 #[.slice a len cap] w fun e w' => ∃ r bits gw ip : Int, e = .returned (.tuple #[.agg #[.int .i64 r, .int .i64 bits, .int .i64 gw], .int .i64 ip]) ∧ Below w.heap.size w w' := by
  have BA := Lib.hid ((Below.refl w.heap.size w).alloc (Nat.le_refl _) (.cells #[.int .i64 0, .int .i64 0, .int .i64 0] 59))
  have XA := Lib.hid (Box.new w 59 #[.int .i64 0, .int .i64 0, .int .i64 0])
  have HR := Lib.hid (hr.alloc (.cells #[.int .i64 0, .int .i64 0, .int .i64 0] 59))
  clear hr
  go_enter Try.func43, Try.ntmps43
  go_wp2_with fail
  generalize w.alloc (.cells #[.int .i64 0, .int .i64 0, .int .i64 0] 59) = W1 at *
  refine (l1Later7_any 2 a len cap zs _ HR.out (by omega)).mono ?_
  rintro e w1 ⟨rfl, s1, b1⟩
  have D1 := Lib.hid (show DU W1 w1 W1.heap.size 19 a len cap zs from ⟨s1, b1, Nat.le_refl _, HR.out⟩)
  have R1 := Lib.hid (HR.out.below b1)
  clear s1 b1
  go_wp2_with fail
  refine (drawRouteFault a len cap zs _ R1.out hl).mono ?_
  rintro e w2 ⟨r, bits, gw, rfl, b2⟩
  have D2 := Lib.hid (D1.out.under b2)
  clear b2 D1 R1
  go_wp2_with fail
  refine (l7Ip_any D2.out (by omega) hl).mono ?_
  rintro e w3 ⟨i1, rfl, p0, p1, d3, _⟩
  have D3 := Lib.hid d3
  clear d3 D2
  go_wp2_with fail
  refine (l7Ip_any D3.out (by omega) hl).mono ?_
  rintro e w4 ⟨i2, rfl, q0, q1, d4, _⟩
  have D4 := Lib.hid d4
  clear d4 D3
  go_wp2_with fail
  refine (D4.out.pick (n := 5) [i1, i2, 0, 4294967295, 4294967296] 0 4294967296 rfl rfl (by simp; omega) (by omega) (by omega) (by omega) hl).mono ?_
  rintro e w5 ⟨ip, rfl, _, _, d5, _⟩
  have D5 := Lib.hid d5
  have XA5 := Lib.hid (XA.out.below D5.out.bel XA.out.lt)
  obtain ⟨_, x0, x1, x2⟩ := XA5.out.r3
  have f0 := XA5.out.frozen 0
  have f1 := XA5.out.frozen 1
  have f2 := XA5.out.frozen 2
  have B5 := Lib.hid (BA.out.trans (D5.out.bel.mono BA.out.size))
  clear d5 D4 D5 XA5
  go_wp2
  refine bodyPost_ret (v := .tuple #[.agg #[.int .i64 r, .int .i64 bits, .int .i64 gw], .int .i64 ip]) (by simp [results, Try.results43, go_sem, x0, x1, x2]) rfl ⟨_, _, _, _, rfl, ?_⟩
  exact (((B5.out).setCell (Nat.le_refl _) _).setCell (Nat.le_refl _) _).setCell (Nat.le_refl _) _
end Go.Proofs.Ytfdfkcbighbfmaa
