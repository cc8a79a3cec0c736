/-
  The helpers of the laws over Segment, and the exact laws of its functions, where model and program answer the same.
-/
import Derived.Test.YteaiemckcepphaaMA
namespace Go.Proofs.Yteaiemckcepphaa
open Go.ChangeShapes Go.WideShapes Go.ChangeAt Go.RowKit

theorem Box.eight {w : World} {b : Nat} {t : TypeId} {x0 x1 x2 x3 x4 x5 x6 x7 : Value} (h : Box w b t #[x0, x1, x2, x3, x4, x5, x6, x7]) : b < w.heap.size ∧ w.cell? ⟨b, 0, none⟩ = some x0 ∧ w.cell? ⟨b, 1, none⟩ = some x1 ∧ w.cell? ⟨b, 2, none⟩ = some x2 ∧ w.cell? ⟨b, 3, none⟩ = some x3 ∧ w.cell? ⟨b, 4, none⟩ = some x4 ∧ w.cell? ⟨b, 5, none⟩ = some x5 ∧ w.cell? ⟨b, 6, none⟩ = some x6 ∧ w.cell? ⟨b, 7, none⟩ = some x7 := ⟨h.lt, h.cell 0, h.cell 1, h.cell 2, h.cell 3, h.cell 4, h.cell 5, h.cell 6, h.cell 7⟩
theorem Box.nine {w : World} {b : Nat} {t : TypeId} {x0 x1 x2 x3 x4 x5 x6 x7 x8 : Value} (h : Box w b t #[x0, x1, x2, x3, x4, x5, x6, x7, x8]) : b < w.heap.size ∧ w.cell? ⟨b, 0, none⟩ = some x0 ∧ w.cell? ⟨b, 1, none⟩ = some x1 ∧ w.cell? ⟨b, 2, none⟩ = some x2 ∧ w.cell? ⟨b, 3, none⟩ = some x3 ∧ w.cell? ⟨b, 4, none⟩ = some x4 ∧ w.cell? ⟨b, 5, none⟩ = some x5 ∧ w.cell? ⟨b, 6, none⟩ = some x6 ∧ w.cell? ⟨b, 7, none⟩ = some x7 ∧ w.cell? ⟨b, 8, none⟩ = some x8 := ⟨h.lt, h.cell 0, h.cell 1, h.cell 2, h.cell 3, h.cell 4, h.cell 5, h.cell 6, h.cell 7, h.cell 8⟩
theorem szSegment_t (jf jt js ja jg jw jm : Int) (a : Option Addr) (len cap : Nat) (l : Int) (w : World) (h : (len : Int) ≤ l) (hl : l ≤ 1048576) :
    Calls Try.prog 35 #[.agg #[.int .i64 jf, .int .i64 jt, .int .i64 js, .int .i64 ja, .int .i64 jg, .int .i64 jw, .int .i64 jm, .slice a len cap], .int .i64 l] w fun e w' => e = .returned (.int .i64 (l - len)) ∧ Below w.heap.size w w' := by
  have K := Lib.hid (fun W => szByteS_t a len cap l W h hl)
  have e1 : decide (l - len < 0) = false := decide_eq_false (by omega)
  go_enter Try.func35, Try.ntmps35
  go_wp2_with fail
  refine (K.out _).mono ?_
  rintro e w1 ⟨rfl, rfl⟩
  go_wp2
  go_ret
  exact ⟨rfl, (Below.refl _ _).alloc (Nat.le_refl _) _⟩

theorem szSegment_f (jf jt js ja jg jw jm : Int) (a : Option Addr) (len cap : Nat) (l : Int) (w : World) (h : ¬ (len : Int) ≤ l) (h0 : 0 ≤ l) (hl : l ≤ 1048576) (hm : len ≤ maxLen) :
    Calls Try.prog 35 #[.agg #[.int .i64 jf, .int .i64 jt, .int .i64 js, .int .i64 ja, .int .i64 jg, .int .i64 jw, .int .i64 jm, .slice a len cap], .int .i64 l] w fun e w' => e = .returned (.int .i64 (-1)) ∧ Below w.heap.size w w' := by
  have K := Lib.hid (fun W => szByteS_f a len cap l W h h0 hl hm)
  go_enter Try.func35, Try.ntmps35
  go_wp2_with fail
  refine (K.out _).mono ?_
  rintro e w1 ⟨rfl, rfl⟩
  go_wp2
  go_ret
  exact ⟨rfl, (Below.refl _ _).alloc (Nat.le_refl _) _⟩

/-- a frame of these numbers and bytes whose body is of this call's own -/
def SegmentOut (w : World) (jf jt js ja jg jw jm : Int) (zs : List Int) (e : Ending) (w' : World) : Prop :=
  ∃ a' l' c', e = .returned (.agg #[.int .i64 jf, .int .i64 jt, .int .i64 js, .int .i64 ja, .int .i64 jg, .int .i64 jw, .int .i64 jm, .slice a' l' c']) ∧ Own w' w.heap.size a' l' c' zs ∧ Below w.heap.size w w'

set_option maxHeartbeats 1000000 in
theorem toSegment_any (jf jt js ja jg jw jm : Int) (a : Option Addr) (len cap : Nat) (zs : List Int) (w : World) (h : Rd w a len cap zs) (hl : len ≤ 1048576) :
    Calls Try.prog 36 #[.agg #[.int .i64 jf, .int .i64 jt, .int .i64 js, .int .i64 ja, .int .i64 jg, .int .i64 jw, .int .i64 jm, .slice a len cap]] w (SegmentOut w jf jt js ja jg jw jm zs) := by
  have T := Lib.hid (fun W (hW : Below w.heap.size w W) => toByteS_any a len cap zs W (h.below hW) hl)
  clear h
  have B0 := Lib.hid ((((Below.refl w.heap.size w).alloc (Nat.le_refl _) (.cells #[.int .i64 jf, .int .i64 jt, .int .i64 js, .int .i64 ja, .int .i64 jg, .int .i64 jw, .int .i64 jm, .slice a len cap] 52)).alloc (by simp) (.cells #[.int .i64 0, .int .i64 0, .int .i64 0, .int .i64 0, .int .i64 0, .int .i64 0, .int .i64 0, .slice none 0 0] 25)).alloc (by simp; omega) (.cells #[.int .i64 jf, .int .i64 jt, .int .i64 js, .int .i64 ja, .int .i64 jg, .int .i64 jw, .int .i64 jm, .slice none 0 0] 25))
  have R0 := Lib.hid ((Box.new (w.alloc (.cells #[.int .i64 jf, .int .i64 jt, .int .i64 js, .int .i64 ja, .int .i64 jg, .int .i64 jw, .int .i64 jm, .slice a len cap] 52)) 25 #[.int .i64 0, .int .i64 0, .int .i64 0, .int .i64 0, .int .i64 0, .int .i64 0, .int .i64 0, .slice none 0 0]).alloc (.cells #[.int .i64 jf, .int .i64 jt, .int .i64 js, .int .i64 ja, .int .i64 jg, .int .i64 jw, .int .i64 jm, .slice none 0 0] 25))
  have U0 := Lib.hid (Box.new ((w.alloc (.cells #[.int .i64 jf, .int .i64 jt, .int .i64 js, .int .i64 ja, .int .i64 jg, .int .i64 jw, .int .i64 jm, .slice a len cap] 52)).alloc (.cells #[.int .i64 0, .int .i64 0, .int .i64 0, .int .i64 0, .int .i64 0, .int .i64 0, .int .i64 0, .slice none 0 0] 25)) 25 #[.int .i64 jf, .int .i64 jt, .int .i64 js, .int .i64 ja, .int .i64 jg, .int .i64 jw, .int .i64 jm, .slice none 0 0])
  go_enter Try.func36, Try.ntmps36
  go_wp2_with fail
  refine (T.out _ B0.out).mono ?_
  rintro e w1 ⟨rfl, o1, b1⟩
  have R1 := R0.out.below b1 R0.out.lt
  have U1 := U0.out.below b1 U0.out.lt
  simp only [World.size_alloc] at R1 U1 o1
  have B1 := Lib.hid (B0.out.trans (b1.mono B0.out.size))
  obtain ⟨zr, r0, r1, r2, r3, r4, r5, r6, r7⟩ := R1.eight
  obtain ⟨zu, u0, u1, u2, u3, u4, u5, u6, u7⟩ := U1.eight
  have fr0 := R1.frozen 0
  have fr1 := R1.frozen 1
  have fr2 := R1.frozen 2
  have fr3 := R1.frozen 3
  have fr4 := R1.frozen 4
  have fr5 := R1.frozen 5
  have fr6 := R1.frozen 6
  have fr7 := R1.frozen 7
  have fu7 := U1.frozen 7
  have O1 := Lib.hid o1
  simp only [World.size_alloc]
  clear b1 o1 B0 R0 U0 R1 U1
  go_wp2
  refine bodyPost_ret (v := .agg #[.int .i64 jf, .int .i64 jt, .int .i64 js, .int .i64 ja, .int .i64 jg, .int .i64 jw, .int .i64 jm, .slice (some ⟨w.heap.size + 1 + 1 + 1, 0, none⟩) len len]) (by simp [results, Try.results36, go_sem, r0, r1, r2, r3, r4, r5, r6, r7]) rfl ⟨_, _, _, rfl, ?_, ((((((((B1.out.setCell (by simp; omega) _).setCell (by simp) _).setCell (by simp) _).setCell (by simp) _).setCell (by simp) _).setCell (by simp) _).setCell (by simp) _).setCell (by simp) _).setCell (by simp) _⟩
  exact (((((((((O1.out.setOther _ _ (by rintro x hx; cases hx; dsimp only; omega)).setOther _ _ (by rintro x hx; cases hx; dsimp only; omega)).setOther _ _ (by rintro x hx; cases hx; dsimp only; omega)).setOther _ _ (by rintro x hx; cases hx; dsimp only; omega)).setOther _ _ (by rintro x hx; cases hx; dsimp only; omega)).setOther _ _ (by rintro x hx; cases hx; dsimp only; omega)).setOther _ _ (by rintro x hx; cases hx; dsimp only; omega)).setOther _ _ (by rintro x hx; cases hx; dsimp only; omega)).setOther _ _ (by rintro x hx; cases hx; dsimp only; omega)).rebase (by omega)

theorem eqSegment_t (jf jt js ja jg jw jm : Int) (a b : Option Addr) (la ca lb cb : Nat) (zs : List Int) (w : World) (ha : Rd w a la ca zs) (hb : Rd w b lb cb zs) :
    Calls Try.prog 37 #[.agg #[.int .i64 jf, .int .i64 jt, .int .i64 js, .int .i64 ja, .int .i64 jg, .int .i64 jw, .int .i64 jm, .slice a la ca], .agg #[.int .i64 jf, .int .i64 jt, .int .i64 js, .int .i64 ja, .int .i64 jg, .int .i64 jw, .int .i64 jm, .slice b lb cb]] w fun e w' => e = .returned (.bool true) ∧ Below w.heap.size w w' := by
  have hq : eqL zs zs = true := decide_eq_true rfl
  have K := Lib.hid (fun W (hW : Below w.heap.size w W) => eqByteS_any a b la ca lb cb zs zs W (ha.below hW) (hb.below hW))
  rw [hq] at K
  go_enter Try.func37, Try.ntmps37
  go_wp2_with fail
  refine (K.out _ (((Below.refl _ _).alloc (Nat.le_refl _) _).alloc (by simp) _)).mono ?_
  rintro e w1 ⟨rfl, hb1⟩
  go_wp2
  go_ret
  exact ⟨rfl, (((Below.refl _ _).alloc (Nat.le_refl _) _).alloc (by simp) _).trans (hb1.mono (by simp; omega))⟩

set_option maxHeartbeats 1000000 in
theorem exactSegmentFault (jf jt js ja jg jw jm : Int) (a : Option Addr) (len cap : Nat) (zs : List Int) (w : World) (hr : Rd w a len cap zs)
    (c : Int) (hS : ∀ (a' : Option Addr) (l' c' : Nat) (W : World), Rd W a' l' c' zs → Calls Try.prog 22 #[.agg #[.int .i64 jf, .int .i64 jt, .int .i64 js, .int .i64 ja, .int .i64 jg, .int .i64 jw, .int .i64 jm, .slice a' l' c']] W fun e w' => e = .returned (.int .i64 c) ∧ Below W.heap.size W w')
    (h : ∀ (a' : Option Addr) (l' c' : Nat) (W : World), Rd W a' l' c' zs → Calls Try.prog 21 #[.agg #[.int .i64 jf, .int .i64 jt, .int .i64 js, .int .i64 ja, .int .i64 jg, .int .i64 jw, .int .i64 jm, .slice a' l' c']] W fun e w' => e = .returned (.int .i64 c) ∧ Below W.heap.size W w') :
    Calls Try.prog 5 #[.agg #[.int .i64 jf, .int .i64 jt, .int .i64 js, .int .i64 ja, .int .i64 jg, .int .i64 jw, .int .i64 jm, .slice a len cap]] w fun e w' => e = .returned (.bool true) ∧ Below w.heap.size w w' := by
  have hm : len ≤ maxLen := Nat.le_trans hr.le hr.max
  have B0 := Lib.hid ((Below.refl w.heap.size w).alloc (Nat.le_refl _) (.cells #[.int .i64 jf, .int .i64 jt, .int .i64 js, .int .i64 ja, .int .i64 jg, .int .i64 jw, .int .i64 jm, .slice a len cap] 52))
  have A0 := Lib.hid (Box.new w 52 #[.int .i64 jf, .int .i64 jt, .int .i64 js, .int .i64 ja, .int .i64 jg, .int .i64 jw, .int .i64 jm, .slice a len cap])
  by_cases hbig : (len : Int) ≤ 1048576
  · have K := Lib.hid h
    have S := Lib.hid hS
    have T := Lib.hid (fun W (hW : Below w.heap.size w W) => toSegment_any jf jt js ja jg jw jm a len cap zs W (hr.below hW) (by omega))
    have Z := Lib.hid (fun W => szSegment_t jf jt js ja jg jw jm a len cap 1048576 W hbig (by omega))
    have hn : decide ((1048576 : Int) - len < 0) = false := decide_eq_false (by omega)
    have hne : (c != c) = false := by simp
    clear h hS hr
    go_enter Try.func5, Try.ntmps5
    go_wp2_with fail
    refine (Z.out _).mono ?_
    rintro e w1 ⟨rfl, b1⟩
    have B1 := Lib.hid (B0.out.trans (b1.mono B0.out.size))
    have A1 := Lib.hid (A0.out.below b1 A0.out.lt)
    clear b1 B0 A0
    obtain ⟨zA, p0, p1, p2, p3, p4, p5, p6, p7⟩ := A1.out.eight
    go_wp2_with fail
    refine (T.out _ B1.out).mono ?_
    rintro e w2 ⟨a2, l2, c2, rfl, o2, b2⟩
    have B2 := Lib.hid (B1.out.trans (b2.mono B1.out.size))
    have A2 := Lib.hid (A1.out.below b2 A1.out.lt)
    clear b2 B1 A1 zA p0 p1 p2 p3 p4 p5 p6 p7
    go_wp2_with fail
    refine (S.out _ _ _ _ o2.rd).mono ?_
    rintro e w3 ⟨rfl, b3⟩
    have B3 := Lib.hid (B2.out.trans (b3.mono B2.out.size))
    have A3 := Lib.hid (A2.out.below b3 A2.out.lt)
    clear b3 B2 A2 o2
    obtain ⟨zA, p0, p1, p2, p3, p4, p5, p6, p7⟩ := A3.out.eight
    go_wp2_with fail
    refine (T.out _ B3.out).mono ?_
    rintro e w4 ⟨a4, l4, c4, rfl, o4, b4⟩
    have B4 := Lib.hid ((B3.out.trans (b4.mono B3.out.size)).alloc (Nat.le_trans B3.out.size b4.size) (.cells #[.int .i64 jf, .int .i64 jt, .int .i64 js, .int .i64 ja, .int .i64 jg, .int .i64 jw, .int .i64 jm, .slice a4 l4 c4] 25))
    have A4 := Lib.hid ((A3.out.below b4 A3.out.lt).alloc (.cells #[.int .i64 jf, .int .i64 jt, .int .i64 js, .int .i64 ja, .int .i64 jg, .int .i64 jw, .int .i64 jm, .slice a4 l4 c4] 25))
    have X4 := Lib.hid (Box.new w4 25 #[.int .i64 jf, .int .i64 jt, .int .i64 js, .int .i64 ja, .int .i64 jg, .int .i64 jw, .int .i64 jm, .slice a4 l4 c4])
    have O4 := Lib.hid (o4.alloc (.cells #[.int .i64 jf, .int .i64 jt, .int .i64 js, .int .i64 ja, .int .i64 jg, .int .i64 jw, .int .i64 jm, .slice a4 l4 c4] 25))
    clear b4 B3 A3 o4 zA p0 p1 p2 p3 p4 p5 p6 p7
    generalize hW4 : w4.alloc (.cells #[.int .i64 jf, .int .i64 jt, .int .i64 js, .int .i64 ja, .int .i64 jg, .int .i64 jw, .int .i64 jm, .slice a4 l4 c4] 25) = W4 at *
    obtain ⟨zX, x0, x1, x2, x3, x4, x5, x6, x7⟩ := X4.out.eight
    go_wp2_with fail
    clear hW4
    refine (K.out _ _ _ _ O4.out.rd).mono ?_
    rintro e w5 ⟨rfl, b5⟩
    have B5 := Lib.hid (B4.out.trans (b5.mono B4.out.size))
    have A5 := Lib.hid (A4.out.below b5 A4.out.lt)
    have X5 := Lib.hid (X4.out.below b5 X4.out.lt)
    have O5 := Lib.hid (O4.out.below b5)
    clear b5 B4 A4 X4 O4 zX x0 x1 x2 x3 x4 x5 x6 x7
    obtain ⟨zA, p0, p1, p2, p3, p4, p5, p6, p7⟩ := A5.out.eight
    obtain ⟨zX, x0, x1, x2, x3, x4, x5, x6, x7⟩ := X5.out.eight
    go_wp2_with fail
    go_region_held3 (fun W => W.cell? ⟨w.heap.size, 0, none⟩ = some (.int .i64 jf) ∧ W.cell? ⟨w.heap.size, 1, none⟩ = some (.int .i64 jt) ∧ W.cell? ⟨w.heap.size, 2, none⟩ = some (.int .i64 js) ∧ W.cell? ⟨w.heap.size, 3, none⟩ = some (.int .i64 ja) ∧ W.cell? ⟨w.heap.size, 4, none⟩ = some (.int .i64 jg) ∧ W.cell? ⟨w.heap.size, 5, none⟩ = some (.int .i64 jw) ∧ W.cell? ⟨w.heap.size, 6, none⟩ = some (.int .i64 jm) ∧ W.cell? ⟨w.heap.size, 7, none⟩ = some (.slice a len cap) ∧ W.cell? ⟨w4.heap.size, 0, none⟩ = some (.int .i64 jf) ∧ W.cell? ⟨w4.heap.size, 1, none⟩ = some (.int .i64 jt) ∧ W.cell? ⟨w4.heap.size, 2, none⟩ = some (.int .i64 js) ∧ W.cell? ⟨w4.heap.size, 3, none⟩ = some (.int .i64 ja) ∧ W.cell? ⟨w4.heap.size, 4, none⟩ = some (.int .i64 jg) ∧ W.cell? ⟨w4.heap.size, 5, none⟩ = some (.int .i64 jw) ∧ W.cell? ⟨w4.heap.size, 6, none⟩ = some (.int .i64 jm) ∧ W.cell? ⟨w4.heap.size, 7, none⟩ = some (.slice a4 l4 c4))
      (first | go_keep | (go_split_ands; exact ⟨keepK hb (by assumption), keepK hb (by assumption), keepK hb (by assumption), keepK hb (by assumption), keepK hb (by assumption), keepK hb (by assumption), keepK hb (by assumption), keepK hb (by assumption), keepK hb (by assumption), keepK hb (by assumption), keepK hb (by assumption), keepK hb (by assumption), keepK hb (by assumption), keepK hb (by assumption), keepK hb (by assumption), keepK hb (by assumption)⟩))
      (first
        | (go_at_call 36; refine (T.out _ B5.out.drew).mono ?_; rintro e w6 ⟨a6, l6, c6, rfl, o6, b6⟩; have hb := b6)
        | (go_at_call 37; refine (eqSegment_t _ _ _ _ _ _ _ _ _ _ _ _ _ zs _ (O5.out.drew.below b6).rd o6.rd).mono ?_; rintro e w7 ⟨rfl, b7⟩; have hb := b7))
    go_wp2
    go_ret
    exact ⟨rfl, (B5.out.drew.trans (b6.mono B5.out.drew.size)).trans (b7.mono (Nat.le_trans B5.out.drew.size b6.size))⟩
  · have Z := Lib.hid (fun W => szSegment_f jf jt js ja jg jw jm a len cap 1048576 W hbig (by omega) (by omega) hm)
    clear h hS hr
    go_enter Try.func5, Try.ntmps5
    go_wp2_with fail
    refine (Z.out _).mono ?_
    rintro e w1 ⟨rfl, b1⟩
    have B1 := Lib.hid (B0.out.trans (b1.mono B0.out.size))
    clear b1 B0 A0
    go_wp2
    go_ret
    exact ⟨rfl, B1.out⟩

theorem markSegment_any (jf jt js ja jg jw jm : Int) (a : Option Addr) (len cap base k0 : Nat) (zs : List Int) (w : World) (h : Own w base a len cap zs) (hl : len ≤ 2097152) (hk0 : k0 ≤ 1000000000) :
    Calls Try.prog 40 #[.agg #[.int .i64 jf, .int .i64 jt, .int .i64 js, .int .i64 ja, .int .i64 jg, .int .i64 jw, .int .i64 jm, .slice a len cap], .int .i64 k0] w fun e w' => e = .returned (.int .i64 (k0 + len : Nat)) ∧ Own w' base a len cap (marks k0 len) ∧ w.grownBy w' ((Value.slice a len cap).ownBlock) := by
  have K := Lib.hid (fun o => markByteS_any a len cap base k0 zs (w.alloc o) (h.alloc o) hl hk0)
  go_enter Try.func40, Try.ntmps40
  go_wp2_with fail
  refine (K.out _).mono ?_
  rintro e w1 ⟨rfl, ho, hg⟩
  go_wp2
  go_ret
  exact ⟨rfl, ho, grown_trans (grown_alloc _ _) hg⟩

set_option maxHeartbeats 4000000 in
theorem exactPackSegment (pf pt : Int) (jf jt js ja jg jw jm : Int) (a : Option Addr) (len cap : Nat) (zs : List Int) (w : World) (hr : Rd w a len cap zs)
    (c : Int) (ys : List Int) (hyl : ys.length ≤ 700) (hS : ∀ (a' : Option Addr) (l' c' : Nat) (W : World), Rd W a' l' c' zs → Calls Try.prog 18 #[.int .i64 pf, .int .i64 pt, .agg #[.int .i64 jf, .int .i64 jt, .int .i64 js, .int .i64 ja, .int .i64 jg, .int .i64 jw, .int .i64 jm, .slice a' l' c']] W (Packed W c ys))
    (h : ∀ (a' : Option Addr) (l' c' : Nat) (W : World), Rd W a' l' c' zs → Calls Try.prog 14 #[.int .i64 pf, .int .i64 pt, .agg #[.int .i64 jf, .int .i64 jt, .int .i64 js, .int .i64 ja, .int .i64 jg, .int .i64 jw, .int .i64 jm, .slice a' l' c']] W (Packed W c ys)) :
    Calls Try.prog 8 #[.int .i64 pf, .int .i64 pt, .agg #[.int .i64 jf, .int .i64 jt, .int .i64 js, .int .i64 ja, .int .i64 jg, .int .i64 jw, .int .i64 jm, .slice a len cap]] w fun e w' => e = .returned (.bool true) ∧ Below w.heap.size w w' := by
  have hm : len ≤ maxLen := Nat.le_trans hr.le hr.max
  have B0 := Lib.hid ((Below.refl w.heap.size w).alloc (Nat.le_refl _) (.cells #[.int .i64 jf, .int .i64 jt, .int .i64 js, .int .i64 ja, .int .i64 jg, .int .i64 jw, .int .i64 jm, .slice a len cap] 52))
  have A0 := Lib.hid (Box.new w 52 #[.int .i64 jf, .int .i64 jt, .int .i64 js, .int .i64 ja, .int .i64 jg, .int .i64 jw, .int .i64 jm, .slice a len cap])
  by_cases hbig : (len : Int) ≤ 1048576
  · have K := Lib.hid h
    have S := Lib.hid hS
    have T := Lib.hid (fun W (hW : Below w.heap.size w W) => toSegment_any jf jt js ja jg jw jm a len cap zs W (hr.below hW) (by omega))
    have Z := Lib.hid (fun W => szSegment_t jf jt js ja jg jw jm a len cap 1048576 W hbig (by omega))
    have hn : decide ((1048576 : Int) - len < 0) = false := decide_eq_false (by omega)
    have HZ := Lib.hid hr.length
    clear h hS hr
    go_enter Try.func8, Try.ntmps8
    go_wp2_with fail
    refine (Z.out _).mono ?_
    rintro e w1 ⟨rfl, b1⟩
    have A1 := Lib.hid (A0.out.below b1 A0.out.lt)
    have B1 := Lib.hid (B0.out.trans (b1.mono B0.out.size))
    clear b1 A0 B0
    obtain ⟨pz, p0, p1, p2, p3, p4, p5, p6, p7⟩ := A1.out.eight
    go_wp2_with fail
    refine (T.out _ B1.out).mono ?_
    rintro e w2 ⟨a2, l2, c2, rfl, o2, b2⟩
    clear pz p0 p1 p2 p3 p4 p5 p6 p7
    have A2 := Lib.hid (A1.out.below b2 A1.out.lt)
    have B2 := Lib.hid (B1.out.trans (b2.mono B1.out.size))
    clear b2 A1 B1
    go_wp2_with fail
    refine (S.out _ _ _ _ o2.rd).mono ?_
    rintro e w3 ⟨a3, l3, c3, rfl, o3, b3⟩
    have A3 := Lib.hid ((A2.out.below b3 A2.out.lt).alloc (.cells #[.int .i64 c, .slice a3 l3 c3] 29))
    have B3 := Lib.hid ((B2.out.trans (b3.mono B2.out.size)).alloc (Nat.le_trans B2.out.size b3.size) (.cells #[.int .i64 c, .slice a3 l3 c3] 29))
    have X3 := Lib.hid (Box.new w3 29 #[.int .i64 c, .slice a3 l3 c3])
    have O3 := Lib.hid (o3.alloc (.cells #[.int .i64 c, .slice a3 l3 c3] 29))
    clear b3 o2 o3 A2 B2
    generalize hW : w3.alloc (.cells #[.int .i64 c, .slice a3 l3 c3] 29) = W3 at *
    obtain ⟨pz, p0, p1, p2, p3, p4, p5, p6, p7⟩ := A3.out.eight
    go_wp2_with fail
    clear hW
    refine (T.out _ B3.out).mono ?_
    rintro e w4 ⟨a4, l4, c4, rfl, o4, b4⟩
    have hl4 : l4 ≤ 1048576 := by have := o4.length; have := HZ.out; omega
    clear pz p0 p1 p2 p3 p4 p5 p6 p7
    have NA := Lib.hid (ne_block o4 w.heap.size (.inl A3.out.lt))
    have NX := Lib.hid (ne_block o4 w3.heap.size (.inl X3.out.lt))
    have NO := Lib.hid (ne_of_lt_own O3.out o4 (Nat.le_refl _))
    have NY := Lib.hid (ne_block o4 w4.heap.size (.inr (Nat.le_refl _)))
    have NB := Lib.hid (own_rows o4 w.heap.size B3.out.size)
    have N4 := Lib.hid o4
    have A4 := Lib.hid ((A3.out.below b4 A3.out.lt).alloc (.cells #[.int .i64 jf, .int .i64 jt, .int .i64 js, .int .i64 ja, .int .i64 jg, .int .i64 jw, .int .i64 jm, .slice a4 l4 c4] 25))
    have B4 := Lib.hid ((B3.out.trans (b4.mono B3.out.size)).alloc (Nat.le_trans B3.out.size b4.size) (.cells #[.int .i64 jf, .int .i64 jt, .int .i64 js, .int .i64 ja, .int .i64 jg, .int .i64 jw, .int .i64 jm, .slice a4 l4 c4] 25))
    have X4 := Lib.hid ((X3.out.below b4 X3.out.lt).alloc (.cells #[.int .i64 jf, .int .i64 jt, .int .i64 js, .int .i64 ja, .int .i64 jg, .int .i64 jw, .int .i64 jm, .slice a4 l4 c4] 25))
    have O4 := Lib.hid ((O3.out.below b4).alloc (.cells #[.int .i64 jf, .int .i64 jt, .int .i64 js, .int .i64 ja, .int .i64 jg, .int .i64 jw, .int .i64 jm, .slice a4 l4 c4] 25))
    have Y4 := Lib.hid (Box.new w4 25 #[.int .i64 jf, .int .i64 jt, .int .i64 js, .int .i64 ja, .int .i64 jg, .int .i64 jw, .int .i64 jm, .slice a4 l4 c4])
    have Q4 := Lib.hid (o4.alloc (.cells #[.int .i64 jf, .int .i64 jt, .int .i64 js, .int .i64 ja, .int .i64 jg, .int .i64 jw, .int .i64 jm, .slice a4 l4 c4] 25))
    have s4 : w4.heap.size ≤ (w4.alloc (.cells #[.int .i64 jf, .int .i64 jt, .int .i64 js, .int .i64 ja, .int .i64 jg, .int .i64 jw, .int .i64 jm, .slice a4 l4 c4] 25)).heap.size := by simp
    clear b4 o4 A3 B3 X3 O3
    generalize hW : w4.alloc (.cells #[.int .i64 jf, .int .i64 jt, .int .i64 js, .int .i64 ja, .int .i64 jg, .int .i64 jw, .int .i64 jm, .slice a4 l4 c4] 25) = W4 at *
    obtain ⟨xz, x0, x1, x2, x3, x4, x5, x6, x7⟩ := Y4.out.eight
    go_wp2_with fail
    clear hW
    refine (K.out _ _ _ _ Q4.out.rd).mono ?_
    rintro e w5 ⟨a5, l5, c5, rfl, o5, b5⟩
    have hl5 : l5 ≤ 700 := by rw [← o5.length]; exact hyl
    clear xz x0 x1 x2 x3 x4 x5 x6 x7
    have MA := Lib.hid (ne_block o5 w.heap.size (.inl A4.out.lt))
    have MX := Lib.hid (ne_block o5 w3.heap.size (.inl X4.out.lt))
    have MO := Lib.hid (ne_of_lt_own O4.out o5 (Nat.le_refl _))
    have MY := Lib.hid (ne_block o5 w4.heap.size (.inl Y4.out.lt))
    have MQ := Lib.hid (ne_of_lt_own Q4.out o5 (Nat.le_refl _))
    have MG := Lib.hid (ne_block o5 w5.heap.size (.inr (Nat.le_refl _)))
    have MB := Lib.hid (own_rows o5 w.heap.size B4.out.size)
    have NP := Lib.hid (ne_of_gt_own o5 N4.out s4)
    have NG := Lib.hid (ne_block N4.out w5.heap.size (.inr (Nat.le_trans s4 b5.size)))
    have A5 := Lib.hid ((A4.out.below b5 A4.out.lt).alloc (.cells #[.int .i64 c, .slice a5 l5 c5] 29))
    have B5 := Lib.hid ((B4.out.trans (b5.mono B4.out.size)).alloc (Nat.le_trans B4.out.size b5.size) (.cells #[.int .i64 c, .slice a5 l5 c5] 29))
    have X5 := Lib.hid ((X4.out.below b5 X4.out.lt).alloc (.cells #[.int .i64 c, .slice a5 l5 c5] 29))
    have O5 := Lib.hid ((O4.out.below b5).alloc (.cells #[.int .i64 c, .slice a5 l5 c5] 29))
    have Y5 := Lib.hid ((Y4.out.below b5 Y4.out.lt).alloc (.cells #[.int .i64 c, .slice a5 l5 c5] 29))
    have Q5 := Lib.hid ((Q4.out.below b5).alloc (.cells #[.int .i64 c, .slice a5 l5 c5] 29))
    have G5 := Lib.hid (Box.new w5 29 #[.int .i64 c, .slice a5 l5 c5])
    have P5 := Lib.hid (o5.alloc (.cells #[.int .i64 c, .slice a5 l5 c5] 29))
    clear b5 o5 N4 s4 A4 B4 X4 O4 Y4 Q4
    generalize hW : w5.alloc (.cells #[.int .i64 c, .slice a5 l5 c5] 29) = W5 at *
    obtain ⟨gz, g0, g1⟩ := G5.out.two
    obtain ⟨xz, x0, x1⟩ := X5.out.two
    go_wp2_with fail
    clear hW
    refine (eqBytes_any _ _ _ _ _ _ _ _ ys ys _ P5.out.rd O5.out.rd rfl rfl).mono ?_
    rintro e w6 ⟨rfl, b6⟩
    clear gz g0 g1 xz x0 x1
    have A6 := Lib.hid (A5.out.below b6 A5.out.lt)
    have B6 := Lib.hid (B5.out.trans (b6.mono B5.out.size))
    have X6 := Lib.hid (X5.out.below b6 X5.out.lt)
    have O6 := Lib.hid (O5.out.below b6)
    have Y6 := Lib.hid (Y5.out.below b6 Y5.out.lt)
    have Q6 := Lib.hid (Q5.out.below b6)
    have G6 := Lib.hid (G5.out.below b6 G5.out.lt)
    have P6 := Lib.hid (P5.out.below b6)
    clear b6 A5 B5 X5 O5 Y5 Q5 G5 P5
    obtain ⟨pz, p0, p1, p2, p3, p4, p5, p6, p7⟩ := A6.out.eight
    obtain ⟨xz, x0, x1, x2, x3, x4, x5, x6, x7⟩ := Y6.out.eight
    go_wp2_with fail
    go_region_held3 (fun W => W.cell? ⟨w.heap.size, 0, none⟩ = some (.int .i64 jf) ∧ W.cell? ⟨w.heap.size, 1, none⟩ = some (.int .i64 jt) ∧ W.cell? ⟨w.heap.size, 2, none⟩ = some (.int .i64 js) ∧ W.cell? ⟨w.heap.size, 3, none⟩ = some (.int .i64 ja) ∧ W.cell? ⟨w.heap.size, 4, none⟩ = some (.int .i64 jg) ∧ W.cell? ⟨w.heap.size, 5, none⟩ = some (.int .i64 jw) ∧ W.cell? ⟨w.heap.size, 6, none⟩ = some (.int .i64 jm) ∧ W.cell? ⟨w.heap.size, 7, none⟩ = some (.slice a len cap) ∧ W.cell? ⟨w4.heap.size, 0, none⟩ = some (.int .i64 jf) ∧ W.cell? ⟨w4.heap.size, 1, none⟩ = some (.int .i64 jt) ∧ W.cell? ⟨w4.heap.size, 2, none⟩ = some (.int .i64 js) ∧ W.cell? ⟨w4.heap.size, 3, none⟩ = some (.int .i64 ja) ∧ W.cell? ⟨w4.heap.size, 4, none⟩ = some (.int .i64 jg) ∧ W.cell? ⟨w4.heap.size, 5, none⟩ = some (.int .i64 jw) ∧ W.cell? ⟨w4.heap.size, 6, none⟩ = some (.int .i64 jm) ∧ W.cell? ⟨w4.heap.size, 7, none⟩ = some (.slice a4 l4 c4))
      (first | go_keep | (go_split_ands; exact ⟨keepK hb (by assumption), keepK hb (by assumption), keepK hb (by assumption), keepK hb (by assumption), keepK hb (by assumption), keepK hb (by assumption), keepK hb (by assumption), keepK hb (by assumption), keepK hb (by assumption), keepK hb (by assumption), keepK hb (by assumption), keepK hb (by assumption), keepK hb (by assumption), keepK hb (by assumption), keepK hb (by assumption), keepK hb (by assumption)⟩))
      (first
        | (go_at_call 36; refine (T.out _ B6.out.drew).mono ?_; rintro e w7 ⟨a7, l7, c7, rfl, o7, b7⟩; have hb := b7)
        | (go_at_call 37; refine (eqSegment_t _ _ _ _ _ _ _ _ _ _ _ _ _ zs _ (Q6.out.drew.below b7).rd o7.rd).mono ?_; rintro e w8 ⟨rfl, b8⟩; have hb := b8))
    have b68 : Below w6.drew.heap.size w6.drew w8 := b7.trans (b8.mono b7.size)
    clear hb o7 b7 b8 pz p0 p1 p2 p3 p4 p5 p6 p7 xz x0 x1 x2 x3 x4 x5 x6 x7
    have A8 := Lib.hid ((A6.out.drewB).below b68 A6.out.drewB.lt)
    have B8 := Lib.hid (B6.out.drew.trans (b68.mono B6.out.drew.size))
    have X8 := Lib.hid ((X6.out.drewB).below b68 X6.out.drewB.lt)
    have O8 := Lib.hid (O6.out.drew.below b68)
    have Y8 := Lib.hid ((Y6.out.drewB).below b68 Y6.out.drewB.lt)
    have Q8 := Lib.hid (Q6.out.drew.below b68)
    have G8 := Lib.hid ((G6.out.drewB).below b68 G6.out.drewB.lt)
    have P8 := Lib.hid (P6.out.drew.below b68)
    clear b68 A6 B6 X6 O6 Y6 Q6 G6 P6
    obtain ⟨xz, x0, x1, x2, x3, x4, x5, x6, x7⟩ := Y8.out.eight
    go_wp2_with fail
    refine (markSegment_any _ _ _ _ _ _ _ _ _ _ _ 1 _ _ Q8.out (by omega) (by omega)).mono ?_
    rintro e w9 ⟨rfl, q9, g9⟩
    clear xz x0 x1 x2 x3 x4 x5 x6 x7
    have A9 := Lib.hid (A8.out.grown g9 NA.out)
    have B9 := Lib.hid (B8.out.grown g9 B8.out.size NB.out)
    have X9 := Lib.hid (X8.out.grown g9 NX.out)
    have O9 := Lib.hid (O8.out.grown g9 NO.out)
    have Y9 := Lib.hid (Y8.out.grown g9 NY.out)
    have Q9 := Lib.hid q9
    have G9 := Lib.hid (G8.out.grown g9 NG.out)
    have P9 := Lib.hid (P8.out.grown g9 NP.out)
    clear g9 q9 NA NX NO NY NG NP NB A8 B8 X8 O8 Y8 Q8 G8 P8
    have hk4 : ¬ ((1 + l4 : Nat) : Int) < 0 := by omega
    have hk4d : decide (((1 + l4 : Nat) : Int) < 0) = false := decide_eq_false hk4
    obtain ⟨gz, g0, g1⟩ := G9.out.two
    obtain ⟨xz, x0, x1⟩ := X9.out.two
    go_wp2_with fail
    refine (eqBytes_any _ _ _ _ _ _ _ _ ys ys _ P9.out.rd O9.out.rd rfl rfl).mono ?_
    rintro e w10 ⟨rfl, b10⟩
    clear gz g0 g1 xz x0 x1 Q9 Y9
    have A10 := Lib.hid (A9.out.below b10 A9.out.lt)
    have B10 := Lib.hid (B9.out.trans (b10.mono B9.out.size))
    have X10 := Lib.hid (X9.out.below b10 X9.out.lt)
    have O10 := Lib.hid (O9.out.below b10)
    have G10 := Lib.hid (G9.out.below b10 G9.out.lt)
    have P10 := Lib.hid (P9.out.below b10)
    clear b10 A9 B9 X9 O9 G9 P9
    obtain ⟨gz, g0, g1⟩ := G10.out.two
    go_wp2_with fail
    refine (markBytes_any _ _ _ _ _ 1 _ _ P10.out (by omega) (by omega)).mono ?_
    rintro e w11 ⟨rfl, q11, g11⟩
    clear gz g0 g1
    have A11 := Lib.hid (A10.out.grown g11 MA.out)
    have B11 := Lib.hid (B10.out.grown g11 B10.out.size MB.out)
    have X11 := Lib.hid (X10.out.grown g11 MX.out)
    have O11 := Lib.hid (O10.out.grown g11 MO.out)
    have G11 := Lib.hid (G10.out.grown g11 MG.out)
    have P11 := Lib.hid q11
    clear g11 q11 MA MX MO MY MQ MG MB A10 B10 X10 O10 G10 P10
    obtain ⟨gz, g0, g1⟩ := G11.out.two
    go_wp2_with fail
    refine (heldBytes_any _ _ _ _ 1 _ P11.out.rd (by omega) (by omega)).mono ?_
    rintro e w12 ⟨rfl, b12⟩
    clear gz g0 g1
    have A12 := Lib.hid (A11.out.below b12 A11.out.lt)
    have B12 := Lib.hid (B11.out.trans (b12.mono B11.out.size))
    have X12 := Lib.hid (X11.out.below b12 X11.out.lt)
    have O12 := Lib.hid (O11.out.below b12)
    have G12 := Lib.hid (G11.out.below b12 G11.out.lt)
    have P12 := Lib.hid (P11.out.below b12)
    clear b12 A11 B11 X11 O11 G11 P11
    have hn5 : ¬ ((1 + l5 : Nat) : Int) < 0 := by omega
    have hne5 : (((1 + l5 : Nat) : Int) != ((1 + l5 : Nat) : Int)) = false := by simp
    obtain ⟨pz, p0, p1, p2, p3, p4, p5, p6, p7⟩ := A12.out.eight
    go_wp2_with fail
    refine (T.out _ B12.out).mono ?_
    rintro e w13 ⟨a13, l13, c13, rfl, o13, b13⟩
    clear pz p0 p1 p2 p3 p4 p5 p6 p7 A12
    have B13 := Lib.hid (B12.out.trans (b13.mono B12.out.size))
    have X13 := Lib.hid (X12.out.below b13 X12.out.lt)
    have O13 := Lib.hid (O12.out.below b13)
    have G13 := Lib.hid (G12.out.below b13 G12.out.lt)
    have P13 := Lib.hid (P12.out.below b13)
    clear b13 B12 X12 O12 G12 P12
    go_wp2_with fail
    refine (K.out _ _ _ _ o13.rd).mono ?_
    rintro e w14 ⟨a14, l14, c14, rfl, o14, b14⟩
    have B14 := Lib.hid ((B13.out.trans (b14.mono B13.out.size)).alloc (Nat.le_trans B13.out.size b14.size) (.cells #[.int .i64 c, .slice a14 l14 c14] 29))
    have X14 := Lib.hid ((X13.out.below b14 X13.out.lt).alloc (.cells #[.int .i64 c, .slice a14 l14 c14] 29))
    have O14 := Lib.hid ((O13.out.below b14).alloc (.cells #[.int .i64 c, .slice a14 l14 c14] 29))
    have G14 := Lib.hid ((G13.out.below b14 G13.out.lt).alloc (.cells #[.int .i64 c, .slice a14 l14 c14] 29))
    have P14 := Lib.hid ((P13.out.below b14).alloc (.cells #[.int .i64 c, .slice a14 l14 c14] 29))
    have H14 := Lib.hid (Box.new w14 29 #[.int .i64 c, .slice a14 l14 c14])
    have R14 := Lib.hid (o14.alloc (.cells #[.int .i64 c, .slice a14 l14 c14] 29))
    clear b14 o13 o14 B13 X13 O13 G13 P13
    generalize hW : w14.alloc (.cells #[.int .i64 c, .slice a14 l14 c14] 29) = W14 at *
    obtain ⟨gz, g0, g1⟩ := H14.out.two
    obtain ⟨xz, x0, x1⟩ := X14.out.two
    go_wp2_with fail
    clear hW
    refine (eqBytes_any _ _ _ _ _ _ _ _ ys ys _ R14.out.rd O14.out.rd rfl rfl).mono ?_
    rintro e w15 ⟨rfl, b15⟩
    clear gz g0 g1 xz x0 x1 H14 R14 X14 O14
    have B15 := Lib.hid (B14.out.trans (b15.mono B14.out.size))
    have G15 := Lib.hid (G14.out.below b15 G14.out.lt)
    have P15 := Lib.hid (P14.out.below b15)
    clear b15 B14 G14 P14
    obtain ⟨gz, g0, g1⟩ := G15.out.two
    go_wp2_with fail
    refine (heldBytes_any _ _ _ _ 1 _ P15.out.rd (by omega) (by omega)).mono ?_
    rintro e w16 ⟨rfl, b16⟩
    clear gz g0 g1 P15 G15
    have B16 := Lib.hid (B15.out.trans (b16.mono B15.out.size))
    clear b16 B15
    go_wp2
    go_ret
    exact ⟨rfl, B16.out⟩
  · have Z := Lib.hid (fun W => szSegment_f jf jt js ja jg jw jm a len cap 1048576 W hbig (by omega) (by omega) hm)
    clear h hS hr
    go_enter Try.func8, Try.ntmps8
    go_wp2_with fail
    refine (Z.out _).mono ?_
    rintro e w1 ⟨rfl, b1⟩
    have B1 := Lib.hid (B0.out.trans (b1.mono B0.out.size))
    clear b1 B0 A0
    go_wp2
    go_ret
    exact ⟨rfl, B1.out⟩

set_option maxHeartbeats 4000000 in
theorem exactSameSegments (jf jt js ja jg jw jm : Int) (a : Option Addr) (len cap : Nat) (zs : List Int) (jf' jt' js' ja' jg' jw' jm' : Int) (a' : Option Addr) (len' cap' : Nat) (zs' : List Int) (w : World) (hr : Rd w a len cap zs) (hr' : Rd w a' len' cap' zs')
    (v : Bool) (hS : ∀ (b : Option Addr) (l c : Nat) (b' : Option Addr) (l' c' : Nat) (W : World), Rd W b l c zs → Rd W b' l' c' zs' → Calls Try.prog 23 #[.agg #[.int .i64 jf, .int .i64 jt, .int .i64 js, .int .i64 ja, .int .i64 jg, .int .i64 jw, .int .i64 jm, .slice b l c], .agg #[.int .i64 jf', .int .i64 jt', .int .i64 js', .int .i64 ja', .int .i64 jg', .int .i64 jw', .int .i64 jm', .slice b' l' c']] W fun e w' => e = .returned (.bool v) ∧ Below W.heap.size W w')
    (h : ∀ (b : Option Addr) (l c : Nat) (b' : Option Addr) (l' c' : Nat) (W : World), Rd W b l c zs → Rd W b' l' c' zs' → Calls Try.prog 20 #[.agg #[.int .i64 jf, .int .i64 jt, .int .i64 js, .int .i64 ja, .int .i64 jg, .int .i64 jw, .int .i64 jm, .slice b l c], .agg #[.int .i64 jf', .int .i64 jt', .int .i64 js', .int .i64 ja', .int .i64 jg', .int .i64 jw', .int .i64 jm', .slice b' l' c']] W fun e w' => e = .returned (.bool v) ∧ Below W.heap.size W w') :
    Calls Try.prog 11 #[.agg #[.int .i64 jf, .int .i64 jt, .int .i64 js, .int .i64 ja, .int .i64 jg, .int .i64 jw, .int .i64 jm, .slice a len cap], .agg #[.int .i64 jf', .int .i64 jt', .int .i64 js', .int .i64 ja', .int .i64 jg', .int .i64 jw', .int .i64 jm', .slice a' len' cap']] w fun e w' => e = .returned (.bool true) ∧ Below w.heap.size w w' := by
  have hm : len ≤ maxLen := Nat.le_trans hr.le hr.max
  have hm' : len' ≤ maxLen := Nat.le_trans hr'.le hr'.max
  have B0 := Lib.hid (((Below.refl w.heap.size w).alloc (Nat.le_refl _) (.cells #[.int .i64 jf, .int .i64 jt, .int .i64 js, .int .i64 ja, .int .i64 jg, .int .i64 jw, .int .i64 jm, .slice a len cap] 52)).alloc (by simp) (.cells #[.int .i64 jf', .int .i64 jt', .int .i64 js', .int .i64 ja', .int .i64 jg', .int .i64 jw', .int .i64 jm', .slice a' len' cap'] 52))
  have A0 := Lib.hid ((Box.new w 52 #[.int .i64 jf, .int .i64 jt, .int .i64 js, .int .i64 ja, .int .i64 jg, .int .i64 jw, .int .i64 jm, .slice a len cap]).alloc (.cells #[.int .i64 jf', .int .i64 jt', .int .i64 js', .int .i64 ja', .int .i64 jg', .int .i64 jw', .int .i64 jm', .slice a' len' cap'] 52))
  have D0 : Hid (Box ((w.alloc (.cells #[.int .i64 jf, .int .i64 jt, .int .i64 js, .int .i64 ja, .int .i64 jg, .int .i64 jw, .int .i64 jm, .slice a len cap] 52)).alloc (.cells #[.int .i64 jf', .int .i64 jt', .int .i64 js', .int .i64 ja', .int .i64 jg', .int .i64 jw', .int .i64 jm', .slice a' len' cap'] 52)) (w.heap.size + 1) 52 #[.int .i64 jf', .int .i64 jt', .int .i64 js', .int .i64 ja', .int .i64 jg', .int .i64 jw', .int .i64 jm', .slice a' len' cap']) := by
    have := Box.new (w.alloc (.cells #[.int .i64 jf, .int .i64 jt, .int .i64 js, .int .i64 ja, .int .i64 jg, .int .i64 jw, .int .i64 jm, .slice a len cap] 52)) 52 #[.int .i64 jf', .int .i64 jt', .int .i64 js', .int .i64 ja', .int .i64 jg', .int .i64 jw', .int .i64 jm', .slice a' len' cap']
    simp only [World.size_alloc] at this
    exact this
  by_cases hbig : (len : Int) ≤ 1048576
  · have Z := Lib.hid (fun W => szSegment_t jf jt js ja jg jw jm a len cap 1048576 W hbig (by omega))
    have hn : decide ((1048576 : Int) - len < 0) = false := decide_eq_false (by omega)
    by_cases hbig' : (len' : Int) ≤ 1048576 - len
    · have Z' := Lib.hid (fun W => szSegment_t jf' jt' js' ja' jg' jw' jm' a' len' cap' (1048576 - len) W hbig' (by omega))
      have hn' : decide ((1048576 : Int) - len - len' < 0) = false := decide_eq_false (by omega)
      have K := Lib.hid h
      have S := Lib.hid hS
      have T := Lib.hid (fun W (hW : Below w.heap.size w W) => toSegment_any jf jt js ja jg jw jm a len cap zs W (hr.below hW) (by omega))
      have T' := Lib.hid (fun W (hW : Below w.heap.size w W) => toSegment_any jf' jt' js' ja' jg' jw' jm' a' len' cap' zs' W (hr'.below hW) (by omega))
      have hne : (v != v) = false := by cases v <;> rfl
      clear h hS hr hr'
      go_enter Try.func11, Try.ntmps11
      go_wp2_with fail
      refine (Z.out _).mono ?_
      rintro e w1 ⟨rfl, b1⟩
      have A1 := Lib.hid (A0.out.below b1 A0.out.lt)
      have D1 := Lib.hid (D0.out.below b1 D0.out.lt)
      have B1 := Lib.hid (B0.out.trans (b1.mono B0.out.size))
      clear b1 A0 D0 B0
      obtain ⟨qz, q0, q1, q2, q3, q4, q5, q6, q7⟩ := D1.out.eight
      go_wp2_with fail
      refine (Z'.out _).mono ?_
      rintro e w2 ⟨rfl, b2⟩
      clear qz q0 q1 q2 q3 q4 q5 q6 q7
      have A2 := Lib.hid (A1.out.below b2 A1.out.lt)
      have D2 := Lib.hid (D1.out.below b2 D1.out.lt)
      have B2 := Lib.hid (B1.out.trans (b2.mono B1.out.size))
      clear b2 A1 D1 B1
      obtain ⟨pz, p0, p1, p2, p3, p4, p5, p6, p7⟩ := A2.out.eight
      obtain ⟨qz, q0, q1, q2, q3, q4, q5, q6, q7⟩ := D2.out.eight
      go_wp2_with fail
      go_region_held3 (fun W => W.cell? ⟨w.heap.size, 0, none⟩ = some (.int .i64 jf) ∧ W.cell? ⟨w.heap.size, 1, none⟩ = some (.int .i64 jt) ∧ W.cell? ⟨w.heap.size, 2, none⟩ = some (.int .i64 js) ∧ W.cell? ⟨w.heap.size, 3, none⟩ = some (.int .i64 ja) ∧ W.cell? ⟨w.heap.size, 4, none⟩ = some (.int .i64 jg) ∧ W.cell? ⟨w.heap.size, 5, none⟩ = some (.int .i64 jw) ∧ W.cell? ⟨w.heap.size, 6, none⟩ = some (.int .i64 jm) ∧ W.cell? ⟨w.heap.size, 7, none⟩ = some (.slice a len cap) ∧ W.cell? ⟨w.heap.size + 1, 0, none⟩ = some (.int .i64 jf') ∧ W.cell? ⟨w.heap.size + 1, 1, none⟩ = some (.int .i64 jt') ∧ W.cell? ⟨w.heap.size + 1, 2, none⟩ = some (.int .i64 js') ∧ W.cell? ⟨w.heap.size + 1, 3, none⟩ = some (.int .i64 ja') ∧ W.cell? ⟨w.heap.size + 1, 4, none⟩ = some (.int .i64 jg') ∧ W.cell? ⟨w.heap.size + 1, 5, none⟩ = some (.int .i64 jw') ∧ W.cell? ⟨w.heap.size + 1, 6, none⟩ = some (.int .i64 jm') ∧ W.cell? ⟨w.heap.size + 1, 7, none⟩ = some (.slice a' len' cap'))
        (first | go_keep | (go_split_ands; exact ⟨keepK hb (by assumption), keepK hb (by assumption), keepK hb (by assumption), keepK hb (by assumption), keepK hb (by assumption), keepK hb (by assumption), keepK hb (by assumption), keepK hb (by assumption), keepK hb (by assumption), keepK hb (by assumption), keepK hb (by assumption), keepK hb (by assumption), keepK hb (by assumption), keepK hb (by assumption), keepK hb (by assumption), keepK hb (by assumption)⟩))
        (first
          | (have q := R4; clear q; go_at_call 23; refine (S.out _ _ _ _ _ _ _ (o3.below b4).rd o4.rd).mono ?_; rintro e w5 ⟨rfl, b5⟩; have hb := b5)
          | (have q := R3; clear q; go_at_call 36; refine (T'.out _ (B2.out.drew.trans (b3.mono B2.out.drew.size))).mono ?_; rintro e w4 ⟨a4, l4, c4, rfl, o4, b4⟩; have hb := b4; have R4 : Hid True := trivial)
          | (go_at_call 36; refine (T.out _ B2.out.drew).mono ?_; rintro e w3 ⟨a3, l3, c3, rfl, o3, b3⟩; have hb := b3; have R3 : Hid True := trivial))
      have b25 : Below w2.drew.heap.size w2.drew w5 := (b3.trans (b4.mono b3.size)).trans (b5.mono (Nat.le_trans b3.size b4.size))
      clear hb o3 b3 o4 b4 b5 R3 R4 pz p0 p1 p2 p3 p4 p5 p6 p7 qz q0 q1 q2 q3 q4 q5 q6 q7
      have A5 := Lib.hid ((A2.out.drewB).below b25 A2.out.drewB.lt)
      have D5 := Lib.hid ((D2.out.drewB).below b25 D2.out.drewB.lt)
      have B5 := Lib.hid (B2.out.drew.trans (b25.mono B2.out.drew.size))
      clear b25 A2 D2 B2
      obtain ⟨pz, p0, p1, p2, p3, p4, p5, p6, p7⟩ := A5.out.eight
      go_wp2_with fail
      refine (T.out _ B5.out).mono ?_
      rintro e w6 ⟨a6, l6, c6, rfl, o6, b6⟩
      clear pz p0 p1 p2 p3 p4 p5 p6 p7
      have A6 := Lib.hid ((A5.out.below b6 A5.out.lt).alloc (.cells #[.int .i64 jf, .int .i64 jt, .int .i64 js, .int .i64 ja, .int .i64 jg, .int .i64 jw, .int .i64 jm, .slice a6 l6 c6] 25))
      have D6 := Lib.hid ((D5.out.below b6 D5.out.lt).alloc (.cells #[.int .i64 jf, .int .i64 jt, .int .i64 js, .int .i64 ja, .int .i64 jg, .int .i64 jw, .int .i64 jm, .slice a6 l6 c6] 25))
      have B6 := Lib.hid ((B5.out.trans (b6.mono B5.out.size)).alloc (Nat.le_trans B5.out.size b6.size) (.cells #[.int .i64 jf, .int .i64 jt, .int .i64 js, .int .i64 ja, .int .i64 jg, .int .i64 jw, .int .i64 jm, .slice a6 l6 c6] 25))
      have X6 := Lib.hid (Box.new w6 25 #[.int .i64 jf, .int .i64 jt, .int .i64 js, .int .i64 ja, .int .i64 jg, .int .i64 jw, .int .i64 jm, .slice a6 l6 c6])
      have O6 := Lib.hid (o6.alloc (.cells #[.int .i64 jf, .int .i64 jt, .int .i64 js, .int .i64 ja, .int .i64 jg, .int .i64 jw, .int .i64 jm, .slice a6 l6 c6] 25))
      clear b6 o6 A5 D5 B5
      generalize hW : w6.alloc (.cells #[.int .i64 jf, .int .i64 jt, .int .i64 js, .int .i64 ja, .int .i64 jg, .int .i64 jw, .int .i64 jm, .slice a6 l6 c6] 25) = W6 at *
      obtain ⟨qz, q0, q1, q2, q3, q4, q5, q6, q7⟩ := D6.out.eight
      go_wp2_with fail
      clear hW
      refine (T'.out _ B6.out).mono ?_
      rintro e w7 ⟨a7, l7, c7, rfl, o7, b7⟩
      clear qz q0 q1 q2 q3 q4 q5 q6 q7
      have A7 := Lib.hid ((A6.out.below b7 A6.out.lt).alloc (.cells #[.int .i64 jf', .int .i64 jt', .int .i64 js', .int .i64 ja', .int .i64 jg', .int .i64 jw', .int .i64 jm', .slice a7 l7 c7] 25))
      have D7 := Lib.hid ((D6.out.below b7 D6.out.lt).alloc (.cells #[.int .i64 jf', .int .i64 jt', .int .i64 js', .int .i64 ja', .int .i64 jg', .int .i64 jw', .int .i64 jm', .slice a7 l7 c7] 25))
      have B7 := Lib.hid ((B6.out.trans (b7.mono B6.out.size)).alloc (Nat.le_trans B6.out.size b7.size) (.cells #[.int .i64 jf', .int .i64 jt', .int .i64 js', .int .i64 ja', .int .i64 jg', .int .i64 jw', .int .i64 jm', .slice a7 l7 c7] 25))
      have X7 := Lib.hid ((X6.out.below b7 X6.out.lt).alloc (.cells #[.int .i64 jf', .int .i64 jt', .int .i64 js', .int .i64 ja', .int .i64 jg', .int .i64 jw', .int .i64 jm', .slice a7 l7 c7] 25))
      have O7 := Lib.hid ((O6.out.below b7).alloc (.cells #[.int .i64 jf', .int .i64 jt', .int .i64 js', .int .i64 ja', .int .i64 jg', .int .i64 jw', .int .i64 jm', .slice a7 l7 c7] 25))
      have Y7 := Lib.hid (Box.new w7 25 #[.int .i64 jf', .int .i64 jt', .int .i64 js', .int .i64 ja', .int .i64 jg', .int .i64 jw', .int .i64 jm', .slice a7 l7 c7])
      have P7 := Lib.hid (o7.alloc (.cells #[.int .i64 jf', .int .i64 jt', .int .i64 js', .int .i64 ja', .int .i64 jg', .int .i64 jw', .int .i64 jm', .slice a7 l7 c7] 25))
      clear b7 o7 A6 D6 B6 X6 O6
      generalize hW : w7.alloc (.cells #[.int .i64 jf', .int .i64 jt', .int .i64 js', .int .i64 ja', .int .i64 jg', .int .i64 jw', .int .i64 jm', .slice a7 l7 c7] 25) = W7 at *
      obtain ⟨pz, p0, p1, p2, p3, p4, p5, p6, p7⟩ := X7.out.eight
      obtain ⟨qz, q0, q1, q2, q3, q4, q5, q6, q7⟩ := Y7.out.eight
      go_wp2_with fail
      clear hW
      refine (K.out _ _ _ _ _ _ _ O7.out.rd P7.out.rd).mono ?_
      rintro e w8 ⟨rfl, b8⟩
      clear pz p0 p1 p2 p3 p4 p5 p6 p7 qz q0 q1 q2 q3 q4 q5 q6 q7
      have A8 := Lib.hid (A7.out.below b8 A7.out.lt)
      have D8 := Lib.hid (D7.out.below b8 D7.out.lt)
      have B8 := Lib.hid (B7.out.trans (b8.mono B7.out.size))
      have X8 := Lib.hid (X7.out.below b8 X7.out.lt)
      have O8 := Lib.hid (O7.out.below b8)
      have Y8 := Lib.hid (Y7.out.below b8 Y7.out.lt)
      have P8 := Lib.hid (P7.out.below b8)
      clear b8 A7 D7 B7 X7 O7 Y7 P7
      obtain ⟨pz, p0, p1, p2, p3, p4, p5, p6, p7⟩ := A8.out.eight
      obtain ⟨qz, q0, q1, q2, q3, q4, q5, q6, q7⟩ := X8.out.eight
      go_wp2_with fail
      go_region_held3 (fun W => W.cell? ⟨w.heap.size, 0, none⟩ = some (.int .i64 jf) ∧ W.cell? ⟨w.heap.size, 1, none⟩ = some (.int .i64 jt) ∧ W.cell? ⟨w.heap.size, 2, none⟩ = some (.int .i64 js) ∧ W.cell? ⟨w.heap.size, 3, none⟩ = some (.int .i64 ja) ∧ W.cell? ⟨w.heap.size, 4, none⟩ = some (.int .i64 jg) ∧ W.cell? ⟨w.heap.size, 5, none⟩ = some (.int .i64 jw) ∧ W.cell? ⟨w.heap.size, 6, none⟩ = some (.int .i64 jm) ∧ W.cell? ⟨w.heap.size, 7, none⟩ = some (.slice a len cap) ∧ W.cell? ⟨w6.heap.size, 0, none⟩ = some (.int .i64 jf) ∧ W.cell? ⟨w6.heap.size, 1, none⟩ = some (.int .i64 jt) ∧ W.cell? ⟨w6.heap.size, 2, none⟩ = some (.int .i64 js) ∧ W.cell? ⟨w6.heap.size, 3, none⟩ = some (.int .i64 ja) ∧ W.cell? ⟨w6.heap.size, 4, none⟩ = some (.int .i64 jg) ∧ W.cell? ⟨w6.heap.size, 5, none⟩ = some (.int .i64 jw) ∧ W.cell? ⟨w6.heap.size, 6, none⟩ = some (.int .i64 jm) ∧ W.cell? ⟨w6.heap.size, 7, none⟩ = some (.slice a6 l6 c6))
        (first | go_keep | (go_split_ands; exact ⟨keepK hb (by assumption), keepK hb (by assumption), keepK hb (by assumption), keepK hb (by assumption), keepK hb (by assumption), keepK hb (by assumption), keepK hb (by assumption), keepK hb (by assumption), keepK hb (by assumption), keepK hb (by assumption), keepK hb (by assumption), keepK hb (by assumption), keepK hb (by assumption), keepK hb (by assumption), keepK hb (by assumption), keepK hb (by assumption)⟩))
        (first
          | (have q := R9; clear q; go_at_call 37; refine (eqSegment_t _ _ _ _ _ _ _ _ _ _ _ _ _ zs _ (O8.out.drew.below b9).rd o9.rd).mono ?_; rintro e w10 ⟨rfl, b10⟩; have hb := b10)
          | (go_at_call 36; refine (T.out _ B8.out.drew).mono ?_; rintro e w9 ⟨a9, l9, c9, rfl, o9, b9⟩; have hb := b9; have R9 : Hid True := trivial))
      have b81 : Below w8.drew.heap.size w8.drew w10 := b9.trans (b10.mono b9.size)
      clear hb o9 b9 b10 R9 pz p0 p1 p2 p3 p4 p5 p6 p7 qz q0 q1 q2 q3 q4 q5 q6 q7 X8 O8 A8
      have D10 := Lib.hid ((D8.out.drewB).below b81 D8.out.drewB.lt)
      have B10 := Lib.hid (B8.out.drew.trans (b81.mono B8.out.drew.size))
      have Y10 := Lib.hid ((Y8.out.drewB).below b81 Y8.out.drewB.lt)
      have P10 := Lib.hid (P8.out.drew.below b81)
      clear b81 D8 B8 Y8 P8
      obtain ⟨pz, p0, p1, p2, p3, p4, p5, p6, p7⟩ := D10.out.eight
      obtain ⟨qz, q0, q1, q2, q3, q4, q5, q6, q7⟩ := Y10.out.eight
      go_wp2_with fail
      go_region_held3 (fun W => W.cell? ⟨w.heap.size + 1, 0, none⟩ = some (.int .i64 jf') ∧ W.cell? ⟨w.heap.size + 1, 1, none⟩ = some (.int .i64 jt') ∧ W.cell? ⟨w.heap.size + 1, 2, none⟩ = some (.int .i64 js') ∧ W.cell? ⟨w.heap.size + 1, 3, none⟩ = some (.int .i64 ja') ∧ W.cell? ⟨w.heap.size + 1, 4, none⟩ = some (.int .i64 jg') ∧ W.cell? ⟨w.heap.size + 1, 5, none⟩ = some (.int .i64 jw') ∧ W.cell? ⟨w.heap.size + 1, 6, none⟩ = some (.int .i64 jm') ∧ W.cell? ⟨w.heap.size + 1, 7, none⟩ = some (.slice a' len' cap') ∧ W.cell? ⟨w7.heap.size, 0, none⟩ = some (.int .i64 jf') ∧ W.cell? ⟨w7.heap.size, 1, none⟩ = some (.int .i64 jt') ∧ W.cell? ⟨w7.heap.size, 2, none⟩ = some (.int .i64 js') ∧ W.cell? ⟨w7.heap.size, 3, none⟩ = some (.int .i64 ja') ∧ W.cell? ⟨w7.heap.size, 4, none⟩ = some (.int .i64 jg') ∧ W.cell? ⟨w7.heap.size, 5, none⟩ = some (.int .i64 jw') ∧ W.cell? ⟨w7.heap.size, 6, none⟩ = some (.int .i64 jm') ∧ W.cell? ⟨w7.heap.size, 7, none⟩ = some (.slice a7 l7 c7))
        (first | go_keep | (go_split_ands; exact ⟨keepK hb (by assumption), keepK hb (by assumption), keepK hb (by assumption), keepK hb (by assumption), keepK hb (by assumption), keepK hb (by assumption), keepK hb (by assumption), keepK hb (by assumption), keepK hb (by assumption), keepK hb (by assumption), keepK hb (by assumption), keepK hb (by assumption), keepK hb (by assumption), keepK hb (by assumption), keepK hb (by assumption), keepK hb (by assumption)⟩))
        (first
          | (have q := R11; clear q; go_at_call 37; refine (eqSegment_t _ _ _ _ _ _ _ _ _ _ _ _ _ zs' _ (P10.out.drew.below b11).rd o11.rd).mono ?_; rintro e w12 ⟨rfl, b12⟩; have hb := b12)
          | (go_at_call 36; refine (T'.out _ B10.out.drew).mono ?_; rintro e w11 ⟨a11, l11, c11, rfl, o11, b11⟩; have hb := b11; have R11 : Hid True := trivial))
      have B12 := Lib.hid ((B10.out.drew.trans (b11.mono B10.out.drew.size)).trans (b12.mono (Nat.le_trans B10.out.drew.size b11.size)))
      clear hb o11 b11 b12 R11 pz p0 p1 p2 p3 p4 p5 p6 p7 qz q0 q1 q2 q3 q4 q5 q6 q7 B10 D10 Y10 P10
      go_wp2
      go_ret
      exact ⟨rfl, B12.out⟩
    · have Z' := Lib.hid (fun W => szSegment_f jf' jt' js' ja' jg' jw' jm' a' len' cap' (1048576 - len) W hbig' (by omega) (by omega) hm')
      clear h hS hr hr'
      go_enter Try.func11, Try.ntmps11
      go_wp2_with fail
      refine (Z.out _).mono ?_
      rintro e w1 ⟨rfl, b1⟩
      have B1 := Lib.hid (B0.out.trans (b1.mono B0.out.size))
      have D1 := Lib.hid (D0.out.below b1 D0.out.lt)
      clear b1 B0 A0 D0
      obtain ⟨qz, q0, q1, q2, q3, q4, q5, q6, q7⟩ := D1.out.eight
      go_wp2_with fail
      refine (Z'.out _).mono ?_
      rintro e w2 ⟨rfl, b2⟩
      have B2 := Lib.hid (B1.out.trans (b2.mono B1.out.size))
      clear b2 B1 D1 qz q0 q1 q2 q3 q4 q5 q6 q7
      go_wp2
      go_ret
      exact ⟨rfl, B2.out⟩
  · have Z := Lib.hid (fun W => szSegment_f jf jt js ja jg jw jm a len cap 1048576 W hbig (by omega) (by omega) hm)
    clear h hS hr hr'
    go_enter Try.func11, Try.ntmps11
    go_wp2_with fail
    refine (Z.out _).mono ?_
    rintro e w1 ⟨rfl, b1⟩
    have B1 := Lib.hid (B0.out.trans (b1.mono B0.out.size))
    clear b1 B0 A0 D0
    go_wp2
    go_ret
    exact ⟨rfl, B1.out⟩

/-- a frame's result: the code, the numbers, the body of its own -/
def SegmentRes (w : World) (c : Int) (jf jt js ja jg jw jm : Int) (zs : List Int) (e : Ending) (w' : World) : Prop :=
  ∃ a' l' c', e = .returned (.agg #[.int .i64 c, .int .i64 jf, .int .i64 jt, .int .i64 js, .int .i64 ja, .int .i64 jg, .int .i64 jw, .int .i64 jm, .slice a' l' c']) ∧ Own w' w.heap.size a' l' c' zs ∧ Below w.heap.size w w'

theorem heldSegment_any (jf jt js ja jg jw jm : Int) (a : Option Addr) (len cap k0 : Nat) (w : World) (h : Rd w a len cap (marks k0 len)) (hl : len ≤ 2097152) (hk0 : k0 ≤ 1000000000) :
    Calls Try.prog 91 #[.agg #[.int .i64 jf, .int .i64 jt, .int .i64 js, .int .i64 ja, .int .i64 jg, .int .i64 jw, .int .i64 jm, .slice a len cap], .int .i64 k0] w fun e w' => e = .returned (.int .i64 (k0 + len : Nat)) ∧ Below w.heap.size w w' := by
  have K := Lib.hid (fun o => heldByteS_any a len cap k0 (w.alloc o) (h.alloc o) hl hk0)
  go_enter Try.func91, Try.ntmps91
  go_wp2_with fail
  refine (K.out _).mono ?_
  rintro e w1 ⟨rfl, rfl⟩
  have hn : ¬ ((k0 + len : Nat) : Int) < 0 := by omega
  go_wp2
  go_ret
  exact ⟨rfl, (Below.refl _ _).alloc (Nat.le_refl _) _⟩

theorem heldSegmentR_any (c : Int) (jf jt js ja jg jw jm : Int) (a : Option Addr) (len cap k0 : Nat) (w : World) (h : Rd w a len cap (marks k0 len)) (hl : len ≤ 2097152) (hk0 : k0 ≤ 1000000000) :
    Calls Try.prog 48 #[.agg #[.int .i64 c, .int .i64 jf, .int .i64 jt, .int .i64 js, .int .i64 ja, .int .i64 jg, .int .i64 jw, .int .i64 jm, .slice a len cap], .int .i64 k0] w fun e w' => e = .returned (.int .i64 (k0 + len : Nat)) ∧ Below w.heap.size w w' := by
  have K := Lib.hid (fun o => heldSegment_any jf jt js ja jg jw jm a len cap k0 (w.alloc o) (h.alloc o) hl hk0)
  go_enter Try.func48, Try.ntmps48
  go_wp2_with fail
  refine (K.out _).mono ?_
  rintro e w1 ⟨rfl, b1⟩
  have hn : ¬ ((k0 + len : Nat) : Int) < 0 := by omega
  go_wp2
  go_ret
  exact ⟨rfl, ((Below.refl _ _).alloc (Nat.le_refl _) _).trans (b1.mono (by simp))⟩

theorem markSegmentR_any (c : Int) (jf jt js ja jg jw jm : Int) (a : Option Addr) (len cap base k0 : Nat) (zs : List Int) (w : World) (h : Own w base a len cap zs) (hl : len ≤ 2097152) (hk0 : k0 ≤ 1000000000) :
    Calls Try.prog 47 #[.agg #[.int .i64 c, .int .i64 jf, .int .i64 jt, .int .i64 js, .int .i64 ja, .int .i64 jg, .int .i64 jw, .int .i64 jm, .slice a len cap], .int .i64 k0] w fun e w' => e = .returned (.int .i64 (k0 + len : Nat)) ∧ Own w' base a len cap (marks k0 len) ∧ w.grownBy w' ((Value.slice a len cap).ownBlock) := by
  have K := Lib.hid (fun o => markSegment_any jf jt js ja jg jw jm a len cap base k0 zs (w.alloc o) (h.alloc o) hl hk0)
  go_enter Try.func47, Try.ntmps47
  go_wp2_with fail
  refine (K.out _).mono ?_
  rintro e w1 ⟨rfl, ho, hg⟩
  go_wp2
  go_ret
  exact ⟨rfl, ho, grown_trans (grown_alloc _ _) hg⟩

theorem eqSegmentR_any (c : Int) (jf jt js ja jg jw jm : Int) (a b : Option Addr) (la ca lb cb : Nat) (zs : List Int) (w : World) (ha : Rd w a la ca zs) (hb : Rd w b lb cb zs) :
    Calls Try.prog 44 #[.agg #[.int .i64 c, .int .i64 jf, .int .i64 jt, .int .i64 js, .int .i64 ja, .int .i64 jg, .int .i64 jw, .int .i64 jm, .slice a la ca], .agg #[.int .i64 c, .int .i64 jf, .int .i64 jt, .int .i64 js, .int .i64 ja, .int .i64 jg, .int .i64 jw, .int .i64 jm, .slice b lb cb]] w fun e w' => e = .returned (.bool true) ∧ Below w.heap.size w w' := by
  have K := Lib.hid (fun W (hW : Below w.heap.size w W) => eqSegment_t jf jt js ja jg jw jm a b la ca lb cb zs W (ha.below hW) (hb.below hW))
  go_enter Try.func44, Try.ntmps44
  go_wp2_with fail
  refine (K.out _ (((Below.refl _ _).alloc (Nat.le_refl _) _).alloc (by simp) _)).mono ?_
  rintro e w1 ⟨rfl, hb1⟩
  go_wp2
  go_ret
  exact ⟨rfl, (((Below.refl _ _).alloc (Nat.le_refl _) _).alloc (by simp) _).trans (hb1.mono (by simp; omega))⟩

set_option maxHeartbeats 4000000 in
theorem exactReadSegment (pf pt : Int) (a : Option Addr) (len cap : Nat) (zs : List Int) (c : Int) (jf jt js ja jg jw jm : Int) (rs : List Int) (w : World) (h : Rd w a len cap zs)
    (hS : ∀ (a' : Option Addr) (l' c' : Nat) (W : World), Rd W a' l' c' zs → Calls Try.prog 19 #[.int .i64 pf, .int .i64 pt, .slice a' l' c'] W (SegmentRes W c jf jt js ja jg jw jm rs))
    (hI : ∀ (a' : Option Addr) (l' c' : Nat) (W : World), Rd W a' l' c' zs → Calls Try.prog 16 #[.int .i64 pf, .int .i64 pt, .slice a' l' c'] W (SegmentRes W c jf jt js ja jg jw jm rs)) (hB : rs.length ≤ 700) :
    Calls Try.prog 9 #[.int .i64 pf, .int .i64 pt, .slice a len cap] w fun e w' => e = .returned (.bool true) ∧ Below w.heap.size w w' := by
  by_cases hbig : len ≤ 1048576
  · have K1 := Lib.hid hS
    have K2 := Lib.hid hI
    have hrs : rs.length ≤ 700 := hB
    have T := Lib.hid (fun W (hW : Below w.heap.size w W) => toByteS_any a len cap zs W (h.below hW) hbig)
    have hq : eqL zs zs = true := decide_eq_true rfl
    clear hS hI hB h
    go_enter Try.func9, Try.ntmps9
    go_wp2_with fail
    refine (T.out _ (Below.refl _ _)).mono ?_
    rintro e w1 ⟨rfl, o1, b1⟩
    have B1 := Lib.hid b1
    clear b1
    go_wp2_with fail
    refine (K1.out _ _ _ _ o1.rd).mono ?_
    rintro e w2 ⟨a2, l2, k2, rfl, o2, b2⟩
    have B2 : Hid (Below w.heap.size w (w2.alloc (.cells #[.int .i64 c, .int .i64 jf, .int .i64 jt, .int .i64 js, .int .i64 ja, .int .i64 jg, .int .i64 jw, .int .i64 jm, .slice a2 l2 k2] 34))) := (B1.out.trans (b2.mono B1.out.size)).alloc (Nat.le_trans B1.out.size b2.size) _
    have x2 := Box.new w2 34 #[.int .i64 c, .int .i64 jf, .int .i64 jt, .int .i64 js, .int .i64 ja, .int .i64 jg, .int .i64 jw, .int .i64 jm, .slice a2 l2 k2]
    have p2 := o2.alloc (.cells #[.int .i64 c, .int .i64 jf, .int .i64 jt, .int .i64 js, .int .i64 ja, .int .i64 jg, .int .i64 jw, .int .i64 jm, .slice a2 l2 k2] 34)
    have s2 := Nat.le_trans B1.out.size b2.size
    have sW2 : (w2.alloc (.cells #[.int .i64 c, .int .i64 jf, .int .i64 jt, .int .i64 js, .int .i64 ja, .int .i64 jg, .int .i64 jw, .int .i64 jm, .slice a2 l2 k2] 34)).heap.size = w2.heap.size + 1 := World.size_alloc _ _
    have SW2 := Lib.hid sW2
    clear b2 o1 sW2
    generalize hW2 : w2.alloc (.cells #[.int .i64 c, .int .i64 jf, .int .i64 jt, .int .i64 js, .int .i64 ja, .int .i64 jg, .int .i64 jw, .int .i64 jm, .slice a2 l2 k2] 34) = W2 at *
    go_wp2_with fail
    refine (T.out _ B2.out).mono ?_
    rintro e w3 ⟨rfl, o3, b3⟩
    rw [SW2.out] at o3
    have B3 : Hid (Below w.heap.size w w3) := B2.out.trans (b3.mono B2.out.size)
    have x3 := x2.below b3 x2.lt
    have p3 := p2.below b3
    have s3 := (o3.lt _ rfl).2
    dsimp only at s3
    clear b3 x2 p2 hW2
    rw [SW2.out]
    go_wp2_with fail
    refine (K2.out _ _ _ _ o3.rd).mono ?_
    rintro e w4 ⟨a4, l4, k4, rfl, o4, b4⟩
    have hl4 : l4 ≤ 700 := by rw [← o4.length]; exact hrs
    have B4 : Hid (Below w.heap.size w (w4.alloc (.cells #[.int .i64 c, .int .i64 jf, .int .i64 jt, .int .i64 js, .int .i64 ja, .int .i64 jg, .int .i64 jw, .int .i64 jm, .slice a4 l4 k4] 34))) := (B3.out.trans (b4.mono B3.out.size)).alloc (Nat.le_trans B3.out.size b4.size) _
    have x4 := (x3.below b4 x3.lt).alloc (.cells #[.int .i64 c, .int .i64 jf, .int .i64 jt, .int .i64 js, .int .i64 ja, .int .i64 jg, .int .i64 jw, .int .i64 jm, .slice a4 l4 k4] 34)
    have p4 := (p3.below b4).alloc (.cells #[.int .i64 c, .int .i64 jf, .int .i64 jt, .int .i64 js, .int .i64 ja, .int .i64 jg, .int .i64 jw, .int .i64 jm, .slice a4 l4 k4] 34)
    have q4 := (o3.below b4).alloc (.cells #[.int .i64 c, .int .i64 jf, .int .i64 jt, .int .i64 js, .int .i64 ja, .int .i64 jg, .int .i64 jw, .int .i64 jm, .slice a4 l4 k4] 34)
    have r4 := o4.alloc (.cells #[.int .i64 c, .int .i64 jf, .int .i64 jt, .int .i64 js, .int .i64 ja, .int .i64 jg, .int .i64 jw, .int .i64 jm, .slice a4 l4 k4] 34)
    have y4 := Box.new w4 34 #[.int .i64 c, .int .i64 jf, .int .i64 jt, .int .i64 js, .int .i64 ja, .int .i64 jg, .int .i64 jw, .int .i64 jm, .slice a4 l4 k4]
    obtain ⟨z4, c0, c1, c2, c3, c4, c5, c6, c7, c8⟩ := (x3.below b4 x3.lt).nine
    have s4 := b4.size
    clear b4 x3 p3
    go_wp2_with fail
    refine (eqSegmentR_any _ _ _ _ _ _ _ _ _ _ _ _ _ _ rs _ r4.rd p4.rd).mono ?_
    rintro e w5 ⟨rfl, b5⟩
    have B5 : Hid (Below w.heap.size w w5) := B4.out.trans (b5.mono B4.out.size)
    have x5 := x4.below b5 x4.lt
    have y5 := y4.below b5 y4.lt
    have p5 := p4.below b5
    have q5 := q4.below b5
    have r5 := r4.below b5
    clear b5 x4 y4 p4 q4 r4 z4 c0 c1 c2 c3 c4 c5 c6 c7 c8
    go_wp2_with fail
    refine (T.out _ B5.out).mono ?_
    rintro e w6 ⟨rfl, o6, b6⟩
    have B6 : Hid (Below w.heap.size w w6) := B5.out.trans (b6.mono B5.out.size)
    have x6 := x5.below b6 x5.lt
    have y6 := y5.below b6 y5.lt
    have p6 := p5.below b6
    have q6 := q5.below b6
    have r6 := r5.below b6
    clear b6 x5 y5 p5 q5 r5
    go_wp2_with fail
    refine (eqByteS_any _ _ _ _ _ _ zs zs _ q6.rd o6.rd).mono ?_
    rintro e w7 ⟨rfl, b7⟩
    have B7 : Hid (Below w.heap.size w w7) := B6.out.trans (b7.mono B6.out.size)
    have x7 := x6.below b7 x6.lt
    have y7 := y6.below b7 y6.lt
    have p7 := p6.below b7
    have q7 := q6.below b7
    have r7 := r6.below b7
    clear b7 x6 y6 p6 q6 r6 o6
    go_wp2_with fail
    refine (markByteS_any _ _ _ _ 1 _ _ q7 (by omega) (by omega)).mono ?_
    rintro e w8 ⟨rfl, q8, g8⟩
    have x8 := x7.grown g8 (by simp [Value.ownBlock])
    have y8 := y7.grown g8 (by simp [Value.ownBlock]; omega)
    have p8 := p7.grown g8 (fun x hx e => by have := o2.lt x hx; simp [Value.ownBlock] at e; omega)
    have r8 := r7.grown g8 (fun x hx e => by have := o4.lt x hx; simp [Value.ownBlock] at e; omega)
    have B8 : Hid (Below w.heap.size w w8) := B7.out.grown g8 (by have := B7.out.size; omega) (fun k e => by simp [Value.ownBlock] at e; omega)
    have hn : ¬ ((1 + len : Nat) : Int) < 0 := by omega
    obtain ⟨zx, cx0, cx1, cx2, cx3, cx4, cx5, cx6, cx7, cx8⟩ := x8.nine
    obtain ⟨zy, cy0, cy1, cy2, cy3, cy4, cy5, cy6, cy7, cy8⟩ := y8.nine
    clear g8 x7 y7 p7 q7 r7 q8
    go_wp2_with fail
    refine (eqSegmentR_any _ _ _ _ _ _ _ _ _ _ _ _ _ _ rs _ r8.rd p8.rd).mono ?_
    rintro e w9 ⟨rfl, b9⟩
    have B9 : Hid (Below w.heap.size w w9) := B8.out.trans (b9.mono B8.out.size)
    have x9 := x8.below b9 x8.lt
    have y9 := y8.below b9 y8.lt
    have p9 := p8.below b9
    have r9 := r8.below b9
    obtain ⟨zy', cy0', cy1', cy2', cy3', cy4', cy5', cy6', cy7', cy8'⟩ := y9.nine
    clear b9 x8 y8 p8 r8 zx cx0 cx1 cx2 cx3 cx4 cx5 cx6 cx7 cx8 zy cy0 cy1 cy2 cy3 cy4 cy5 cy6 cy7 cy8
    go_wp2_with fail
    refine (markSegmentR_any _ _ _ _ _ _ _ _ _ _ _ _ 1 _ _ r9 (by omega) (by omega)).mono ?_
    rintro e wa ⟨rfl, ra, ga⟩
    have ya := y9.grown ga (ne_block o4 _ (.inr (Nat.le_refl _)))
    have xa := x9.grown ga (ne_block o4 _ (.inl (by omega)))
    have pa := p9.grown ga (ne_of_lt_own o2 o4 (by omega))
    have Ba : Hid (Below w.heap.size w wa) := B9.out.grown ga (by have := B9.out.size; omega) (fun k e => by
      cases a4 with
      | none => simp [Value.ownBlock] at e
      | some y => simp [Value.ownBlock] at e; have := o4.lt y rfl; omega)
    obtain ⟨zya, cya0, cya1, cya2, cya3, cya4, cya5, cya6, cya7, cya8⟩ := ya.nine
    clear ga x9 y9 p9 r9 zy' cy0' cy1' cy2' cy3' cy4' cy5' cy6' cy7' cy8'
    go_wp2_with fail
    refine (heldSegmentR_any _ _ _ _ _ _ _ _ _ _ _ 1 _ ra.rd (by omega) (by omega)).mono ?_
    rintro e wb ⟨rfl, bb⟩
    have Bb : Hid (Below w.heap.size w wb) := Ba.out.trans (bb.mono Ba.out.size)
    have xb := xa.below bb xa.lt
    have yb := ya.below bb ya.lt
    have pb := pa.below bb
    have rb := ra.below bb
    have hn2 : ¬ ((1 + l4 : Nat) : Int) < 0 := by omega
    have hne : (((1 + l4 : Nat) : Int) != ((1 + l4 : Nat) : Int)) = false := by simp
    clear bb xa ya pa ra zya cya0 cya1 cya2 cya3 cya4 cya5 cya6 cya7 cya8
    go_wp2_with fail
    refine (T.out _ Bb.out).mono ?_
    rintro e wc ⟨rfl, oc, bc⟩
    have Bc : Hid (Below w.heap.size w wc) := Bb.out.trans (bc.mono Bb.out.size)
    have xc := xb.below bc xb.lt
    have yc := yb.below bc yb.lt
    have pc := pb.below bc
    have rc := rb.below bc
    clear bc xb yb pb rb
    go_wp2_with fail
    refine (K2.out _ _ _ _ oc.rd).mono ?_
    rintro e wd ⟨ad, ld, kd, rfl, od, bd⟩
    have Bd : Hid (Below w.heap.size w (wd.alloc (.cells #[.int .i64 c, .int .i64 jf, .int .i64 jt, .int .i64 js, .int .i64 ja, .int .i64 jg, .int .i64 jw, .int .i64 jm, .slice ad ld kd] 34))) := (Bc.out.trans (bd.mono Bc.out.size)).alloc (Nat.le_trans Bc.out.size bd.size) _
    have yd := (yc.below bd yc.lt).alloc (.cells #[.int .i64 c, .int .i64 jf, .int .i64 jt, .int .i64 js, .int .i64 ja, .int .i64 jg, .int .i64 jw, .int .i64 jm, .slice ad ld kd] 34)
    have pd := (pc.below bd).alloc (.cells #[.int .i64 c, .int .i64 jf, .int .i64 jt, .int .i64 js, .int .i64 ja, .int .i64 jg, .int .i64 jw, .int .i64 jm, .slice ad ld kd] 34)
    have rd := (rc.below bd).alloc (.cells #[.int .i64 c, .int .i64 jf, .int .i64 jt, .int .i64 js, .int .i64 ja, .int .i64 jg, .int .i64 jw, .int .i64 jm, .slice ad ld kd] 34)
    obtain ⟨zxd, cxd0, cxd1, cxd2, cxd3, cxd4, cxd5, cxd6, cxd7, cxd8⟩ := (xc.below bd xc.lt).nine
    clear bd xc yc pc rc oc
    go_wp2_with fail
    refine (eqSegmentR_any _ _ _ _ _ _ _ _ _ _ _ _ _ _ rs _ (od.alloc _).rd pd.rd).mono ?_
    rintro e we ⟨rfl, be'⟩
    have Be : Hid (Below w.heap.size w we) := Bd.out.trans (be'.mono Bd.out.size)
    have ye := yd.below be' yd.lt
    have re := rd.below be'
    obtain ⟨zye, cye0, cye1, cye2, cye3, cye4, cye5, cye6, cye7, cye8⟩ := ye.nine
    clear be' yd pd rd zxd cxd0 cxd1 cxd2 cxd3 cxd4 cxd5 cxd6 cxd7 cxd8
    go_wp2_with fail
    refine (heldSegmentR_any _ _ _ _ _ _ _ _ _ _ _ 1 _ re.rd (by omega) (by omega)).mono ?_
    rintro e wf ⟨rfl, bf⟩
    have Bf : Hid (Below w.heap.size w wf) := Be.out.trans (bf.mono Be.out.size)
    clear bf
    go_wp2
    go_ret
    exact ⟨rfl, Bf.out⟩
  · go_enter Try.func9, Try.ntmps9
    go_wp2
    go_ret
    exact ⟨rfl, Below.refl _ _⟩
end Go.Proofs.Yteaiemckcepphaa
