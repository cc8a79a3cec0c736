/-
  DrawPutPiece, DrawTakeReady, DrawSamePieces.
-/
import Derived.Test.YtimlobhlcmghfaaD6W
namespace Go.Proofs.Ytimlobhlcmghfaa
open Go.ChangeShapes Go.WideShapes Go.ChangeAt Go.RowKit

theorem Pl.offB {W W' : World} {B b n c : Nat} {a : Option Addr} {ps : List Pm} (h : Pl W a n c ps) (h1 : ∀ x, a = some x → B ≤ x.block ∧ x.block < W.heap.size) (h2 : ∀ p ∈ ps, ∀ x, p.a = some x → B ≤ x.block ∧ x.block < W.heap.size) (hg : W.grownBy W' (some b)) (hb : b < B) :
    Pl W' a n c ps ∧ (∀ x, a = some x → B ≤ x.block ∧ x.block < W'.heap.size) ∧ (∀ p ∈ ps, ∀ x, p.a = some x → B ≤ x.block ∧ x.block < W'.heap.size) := by
  have hs := hg.size
  refine ⟨⟨h.lb.same fun x hx => hg.block _ (h1 x hx).2 (by have := (h1 x hx).1; simp; omega), fun p hp => (h.data p hp).same fun x hx => hg.block _ (h2 p hp x hx).2 (by have := (h2 p hp x hx).1; simp; omega)⟩, fun x hx => ?_, fun p hp x hx => ?_⟩
  · have := h1 x hx; omega
  · have := h2 p hp x hx; omega

/-- a list was drawn -/
def ListGot (w : World) (e : Ending) (w' : World) : Prop :=
  ∃ (a : Option Addr) (n c : Nat) (ps : List Pm), e = .returned (.slice a n c) ∧ Pl w' a n c ps ∧ n ≤ 5 ∧ (∀ p ∈ ps, p.l ≤ 2000) ∧ Below w.heap.size w w'
set_option maxHeartbeats 1000000 in
theorem drawTakeReady (a : Option Addr) (len cap : Nat) (zs : List Int) (w : World) (hr : Rd w a len cap zs) (hl : len ≤ 1048576) :
    Calls Try.prog 17 #[.slice a len cap] w (ListGot w) := by
  have HR := Lib.hid hr
  clear hr
  go_enter Try.func17, Try.ntmps17
  go_wp2_with fail
  refine (l1Source_any a len cap zs _ HR.out).mono ?_
  rintro e w1 ⟨rfl, s1, b1⟩
  have D1 := Lib.hid (show DU w w1 w.heap.size 0 a len cap zs from ⟨s1, b1, Nat.le_refl _, HR.out⟩)
  clear s1 b1
  go_wp2_with fail
  refine (l6Bent_any D1.out (by omega) hl).mono ?_
  rintro e w2 ⟨a2, n2, c2, ps, t2, rfl, p2, _, _, hn, hp, d2, _, _⟩
  have P2 := Lib.hid p2
  have H2 := Lib.hid hp
  have B2 := Lib.hid d2.bel
  clear p2 hp d2 D1
  go_wp2
  go_ret
  exact ⟨_, _, _, ps, rfl, P2.out, hn, H2.out, B2.out⟩

/-- a list, a place, bytes -/
def PutDrawn (w : World) (e : Ending) (w' : World) : Prop :=
  ∃ (a : Option Addr) (n c : Nat) (ps : List Pm) (x : Int) (a' : Option Addr) (l c' : Nat) (ys : List Int), e = .returned (.tuple #[.slice a n c, .int .i64 x, .slice a' l c']) ∧ Pl w' a n c ps ∧ n ≤ 5 ∧ (∀ p ∈ ps, p.l ≤ 2000) ∧ Rd w' a' l c' ys ∧ l ≤ 7 ∧ Below w.heap.size w w'
set_option maxHeartbeats 2000000 in
theorem drawPutPiece (a : Option Addr) (len cap : Nat) (zs : List Int) (w : World) (hr : Rd w a len cap zs) (hl : len ≤ 1048576) :
    Calls Try.prog 15 #[.slice a len cap] w (PutDrawn w) := by
  have HR := Lib.hid hr
  clear hr
  go_enter Try.func15, Try.ntmps15
  go_wp2_with fail
  refine (l1Source_any a len cap zs _ HR.out).mono ?_
  rintro e w1 ⟨rfl, s1, b1⟩
  have hb := s1.box.lt
  have D1 := Lib.hid (show DU w w1 w.heap.size 0 a len cap zs from ⟨s1, b1, Nat.le_refl _, HR.out⟩)
  clear s1 b1
  go_wp2_with fail
  refine (l6Bent_any D1.out (by omega) hl).mono ?_
  rintro e w2 ⟨a2, n2, c2, ps, t2, rfl, p2, h1, h2, hn, hp, d2, ht2, _⟩
  have P2 := Lib.hid (And.intro p2 (And.intro h1 h2))
  have H2 := Lib.hid hp
  have D2 := Lib.hid d2
  clear p2 h1 h2 hp d2 D1
  go_wp2_with fail
  refine (D2.out.next 30 (by omega) hl (by omega)).mono ?_
  rintro e w3 ⟨x, rfl, x0, x1, d3, g3⟩
  have D3 := Lib.hid d3
  have P3 := Lib.hid (P2.out.1.offB P2.out.2.1 P2.out.2.2 g3 hb)
  have hx := x1 (by omega)
  clear d3 g3 D2 P2 x1
  go_wp2_with fail
  refine (D3.out.next 30 (by omega) hl (by omega)).mono ?_
  rintro e w4 ⟨y, rfl, y0, y1, d4, g4⟩
  have D4 := Lib.hid d4
  have P4 := Lib.hid (P3.out.1.offB P3.out.2.1 P3.out.2.2 g4 hb)
  have hy := y1 (by omega)
  clear d4 g4 D3 P3 y1
  go_wp2_with fail
  refine (D4.out.pick (n := 8) [x, y, 0, 40, 1998, 2000, -1, 2001] (-1) 2001 rfl rfl (by simp; omega) (by omega) (by omega) (by omega) hl).mono ?_
  rintro e w5 ⟨z, rfl, z0, z1, d5, g5⟩
  have D5 := Lib.hid d5
  have P5 := Lib.hid (P4.out.1.offB P4.out.2.1 P4.out.2.2 g5 hb)
  clear d5 g5 D4 P4
  go_wp2_with fail
  refine (D5.out.next 7 (by omega) hl (by omega)).mono ?_
  rintro e w6 ⟨k, rfl, k0, k1, d6, g6⟩
  have D6 := Lib.hid d6
  have P6 := Lib.hid (P5.out.1.offB P5.out.2.1 P5.out.2.2 g6 hb)
  have hk := k1 (by omega)
  obtain ⟨K, rfl⟩ : ∃ K : Nat, k = K := ⟨k.toNat, by omega⟩
  clear d6 g6 D5 P5 k1
  go_wp2_with fail
  refine (D6.out.bytes K (by omega) hl).mono ?_
  rintro e w7 ⟨a7, c7, ys, rfl, o7, d7, g7⟩
  have P7 := Lib.hid (P6.out.1.offB P6.out.2.1 P6.out.2.2 g7 hb).1
  have R7 := Lib.hid o7.rd
  have B7 := Lib.hid d7.bel
  clear d7 g7 D6 P6 o7
  go_wp2
  exact bodyPost_ret (v := .tuple #[.slice a2 n2 c2, .int .i64 z, .slice a7 K c7]) (by simp [results, Try.results15, go_sem]) rfl ⟨_, _, _, ps, _, _, _, _, ys, rfl, P7.out, hn, H2.out, R7.out, by omega, B7.out⟩

/-- two lists -/
def TwoDrawn (w : World) (e : Ending) (w' : World) : Prop :=
  ∃ (a : Option Addr) (n c : Nat) (ps : List Pm) (a' : Option Addr) (n' c' : Nat) (qs : List Pm), e = .returned (.tuple #[.slice a n c, .slice a' n' c']) ∧ Pl w' a n c ps ∧ Pl w' a' n' c' qs ∧ n ≤ 5 ∧ n' ≤ 5 ∧ (∀ p ∈ ps, p.l ≤ 2000) ∧ (∀ p ∈ qs, p.l ≤ 2000) ∧ Below w.heap.size w w'
set_option maxHeartbeats 2000000 in
theorem drawSamePieces (a : Option Addr) (len cap : Nat) (zs : List Int) (w : World) (hr : Rd w a len cap zs) (hl : len ≤ 1048576) :
    Calls Try.prog 19 #[.slice a len cap] w (TwoDrawn w) := by
  have HR := Lib.hid hr
  clear hr
  go_enter Try.func19, Try.ntmps19
  go_wp2_with fail
  refine (l1Source_any a len cap zs _ HR.out).mono ?_
  rintro e w1 ⟨rfl, s1, b1⟩
  have hb := s1.box.lt
  have D1 := Lib.hid (show DU w w1 w.heap.size 0 a len cap zs from ⟨s1, b1, Nat.le_refl _, HR.out⟩)
  clear s1 b1
  go_wp2_with fail
  refine (l6Draw_any D1.out (by omega) hl).mono ?_
  rintro e w2 ⟨a2, n2, c2, ps, t2, rfl, l2, p2, d2, ht2, _⟩
  have L2 := Lib.hid l2
  have D2 := Lib.hid d2
  have hop := ok_parts l2.pl p2
  have hn2 := hop.1
  have HP : Hid (∀ p ∈ ps, p.l ≤ 2000) := fun p hp => by have := hop.2 p hp; omega
  have hlen : ps.length = n2 := l2.row.length
  clear l2 d2 D1 hop p2
  go_wp2_with fail
  refine (D2.out.chance 2 (by omega) hl (by omega)).mono ?_
  rintro e w3 ⟨q, rfl, d3, g3⟩
  have D3 := Lib.hid d3
  have L3 := Lib.hid (L2.out.off g3 hb)
  clear d3 g3 D2 L2
  cases q with
  | true =>
    have K := Lib.hid (l6Copy_any a2 n2 c2 ps w3 L3.out.pl (by omega) (fun p hp => by have := HP.out p hp; omega))
    go_wp2_with fail
    refine K.out.mono ?_
    rintro e w4 ⟨a4, c4, qs, rfl, l4, d4, v4, b4⟩
    have P4 := Lib.hid (L3.out.pl.below b4)
    have Q4 := Lib.hid (show Pl w4 a4 n2 c4 qs from ⟨l4.lb, fun p hp => (d4.own p hp).1.rd⟩)
    have HQ : Hid (∀ p ∈ qs, p.l ≤ 2000) := len_of_vals L3.out.pl Q4.out v4 HP.out
    have B4 := Lib.hid (D3.out.bel.trans (b4.mono D3.out.bel.size))
    clear b4 l4 d4 v4 L3 D3 K
    go_wp2
    exact bodyPost_ret (v := .tuple #[.slice a2 n2 c2, .slice a4 n2 c4]) (by simp [results, Try.results19, go_sem]) rfl ⟨_, _, _, ps, _, _, _, qs, rfl, P4.out, Q4.out, by omega, by omega, HP.out, HQ.out, B4.out⟩
  | false =>
    have R3 := Lib.hid (HR.out.below D3.out.bel)
    go_wp2_with fail
    refine (l1Source_any a len cap zs _ R3.out).mono ?_
    rintro e w4 ⟨rfl, s4, b4⟩
    have D4 := Lib.hid (show DU w3 w4 w3.heap.size 0 a len cap zs from ⟨s4, b4, Nat.le_refl _, R3.out⟩)
    clear s4 b4
    go_wp2_with fail
    refine (l6Bent_any D4.out (by omega) hl).mono ?_
    rintro e w5 ⟨a5, n5, c5, qs, t5, rfl, p5, _, _, hn5, hp5, d5, _, _⟩
    have Q5 := Lib.hid p5
    have HQ := Lib.hid hp5
    have P5 := Lib.hid (L3.out.pl.below d5.bel)
    have B5 := Lib.hid (D3.out.bel.trans (d5.bel.mono D3.out.bel.size))
    clear p5 hp5 d5 D4 R3 L3 D3
    go_wp2
    exact bodyPost_ret (v := .tuple #[.slice a2 n2 c2, .slice a5 n5 c5]) (by simp [results, Try.results19, go_sem]) rfl ⟨_, _, _, ps, _, _, _, qs, rfl, P5.out, Q5.out, by omega, by omega, HP.out, HQ.out, B5.out⟩
end Go.Proofs.Ytimlobhlcmghfaa
