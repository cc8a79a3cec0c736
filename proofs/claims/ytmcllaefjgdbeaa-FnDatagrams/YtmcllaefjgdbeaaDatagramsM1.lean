/-
  The helpers of the laws over Datagram, and the exact laws of its functions, where model and program answer the same.
  PackDatagram of the model.
  How 'all below is as it was' is carried, hidden, over calls, allocations, draws and stores.
  A region that draws its order, by what each operation leaves: one proof an operation, whatever the order. And values that own their bytes.
  ReadDatagram of the model.
  Numbers alone: what has its sum is summed; numbers are read back from their bytes.
  ReadDatagram of the model in one closed form; what is packed is read back.
  Numbers alone: one bit that is turned in bytes that have their sum is told by the sum.
  Numbers alone: one bit of a byte turned by xor.
  Numbers alone: a datagram's bytes are read back; one bit that is turned in them is told, where the sum is asked.
-/
import Derived.Test.YtmcllaefjgdbeaaDatagramsM0
import Derived.Deep.RegionHeld3
import Derived.Deep.DeepCutAuto
import Derived.Laws.Closers25b
namespace Go.Proofs.Ytmcllaefjgdbeaa
open Go.ChangeShapes Go.WideShapes Go.ChangeAt Go.RowKit

theorem Box.three {w : World} {b : Nat} {t : TypeId} {x0 x1 x2 : Value} (h : Box w b t #[x0, x1, x2]) : b < w.heap.size ∧ w.cell? ⟨b, 0, none⟩ = some x0 ∧ w.cell? ⟨b, 1, none⟩ = some x1 ∧ w.cell? ⟨b, 2, none⟩ = some x2 := ⟨h.lt, h.cell 0, h.cell 1, h.cell 2⟩
theorem szDatagram_t (df dt : Int) (a : Option Addr) (len cap : Nat) (l : Int) (w : World) (h : (len : Int) ≤ l) (hl : l ≤ 1048576) :
    Calls Try.prog 29 #[.agg #[.int .i64 df, .int .i64 dt, .slice a len cap], .int .i64 l] w fun e w' => e = .returned (.int .i64 (l - len)) ∧ Below w.heap.size w w' := by
  have K := Lib.hid (fun W => szByteS_t a len cap l W h hl)
  have e1 : decide (l - len < 0) = false := decide_eq_false (by omega)
  go_enter Try.func29, Try.ntmps29
  go_wp2_with fail
  refine (K.out _).mono ?_
  rintro e w1 ⟨rfl, rfl⟩
  go_wp2
  go_ret
  exact ⟨rfl, (Below.refl _ _).alloc (Nat.le_refl _) _⟩

theorem szDatagram_f (df dt : Int) (a : Option Addr) (len cap : Nat) (l : Int) (w : World) (h : ¬ (len : Int) ≤ l) (h0 : 0 ≤ l) (hl : l ≤ 1048576) (hm : len ≤ maxLen) :
    Calls Try.prog 29 #[.agg #[.int .i64 df, .int .i64 dt, .slice a len cap], .int .i64 l] w fun e w' => e = .returned (.int .i64 (-1)) ∧ Below w.heap.size w w' := by
  have K := Lib.hid (fun W => szByteS_f a len cap l W h h0 hl hm)
  go_enter Try.func29, Try.ntmps29
  go_wp2_with fail
  refine (K.out _).mono ?_
  rintro e w1 ⟨rfl, rfl⟩
  go_wp2
  go_ret
  exact ⟨rfl, (Below.refl _ _).alloc (Nat.le_refl _) _⟩

/-- a frame of these numbers and bytes whose body is of this call's own -/
def DatagramOut (w : World) (df dt : Int) (zs : List Int) (e : Ending) (w' : World) : Prop :=
  ∃ a' l' c', e = .returned (.agg #[.int .i64 df, .int .i64 dt, .slice a' l' c']) ∧ Own w' w.heap.size a' l' c' zs ∧ Below w.heap.size w w'

set_option maxHeartbeats 1000000 in
theorem toDatagram_any (df dt : Int) (a : Option Addr) (len cap : Nat) (zs : List Int) (w : World) (h : Rd w a len cap zs) (hl : len ≤ 1048576) :
    Calls Try.prog 30 #[.agg #[.int .i64 df, .int .i64 dt, .slice a len cap]] w (DatagramOut w df dt zs) := by
  have T := Lib.hid (fun W (hW : Below w.heap.size w W) => toByteS_any a len cap zs W (h.below hW) hl)
  clear h
  have B0 := Lib.hid ((((Below.refl w.heap.size w).alloc (Nat.le_refl _) (.cells #[.int .i64 df, .int .i64 dt, .slice a len cap] 49)).alloc (by simp) (.cells #[.int .i64 0, .int .i64 0, .slice none 0 0] 25)).alloc (by simp; omega) (.cells #[.int .i64 df, .int .i64 dt, .slice none 0 0] 25))
  have R0 := Lib.hid ((Box.new (w.alloc (.cells #[.int .i64 df, .int .i64 dt, .slice a len cap] 49)) 25 #[.int .i64 0, .int .i64 0, .slice none 0 0]).alloc (.cells #[.int .i64 df, .int .i64 dt, .slice none 0 0] 25))
  have U0 := Lib.hid (Box.new ((w.alloc (.cells #[.int .i64 df, .int .i64 dt, .slice a len cap] 49)).alloc (.cells #[.int .i64 0, .int .i64 0, .slice none 0 0] 25)) 25 #[.int .i64 df, .int .i64 dt, .slice none 0 0])
  go_enter Try.func30, Try.ntmps30
  go_wp2_with fail
  refine (T.out _ B0.out).mono ?_
  rintro e w1 ⟨rfl, o1, b1⟩
  have R1 := R0.out.below b1 R0.out.lt
  have U1 := U0.out.below b1 U0.out.lt
  simp only [World.size_alloc] at R1 U1 o1
  have B1 := Lib.hid (B0.out.trans (b1.mono B0.out.size))
  obtain ⟨zr, r0, r1, r2⟩ := R1.three
  obtain ⟨zu, u0, u1, u2⟩ := U1.three
  have fr0 := R1.frozen 0
  have fr1 := R1.frozen 1
  have fr2 := R1.frozen 2
  have fu2 := U1.frozen 2
  have O1 := Lib.hid o1
  simp only [World.size_alloc]
  clear b1 o1 B0 R0 U0 R1 U1
  go_wp2
  refine bodyPost_ret (v := .agg #[.int .i64 df, .int .i64 dt, .slice (some ⟨w.heap.size + 1 + 1 + 1, 0, none⟩) len len]) (by simp [results, Try.results30, go_sem, r0, r1, r2]) rfl ⟨_, _, _, rfl, ?_, (((B1.out.setCell (by simp; omega) _).setCell (by simp) _).setCell (by simp) _).setCell (by simp) _⟩
  exact ((((O1.out.setOther _ _ (by rintro x hx; cases hx; dsimp only; omega)).setOther _ _ (by rintro x hx; cases hx; dsimp only; omega)).setOther _ _ (by rintro x hx; cases hx; dsimp only; omega)).setOther _ _ (by rintro x hx; cases hx; dsimp only; omega)).rebase (by omega)

theorem eqDatagram_t (df dt : Int) (a b : Option Addr) (la ca lb cb : Nat) (zs : List Int) (w : World) (ha : Rd w a la ca zs) (hb : Rd w b lb cb zs) :
    Calls Try.prog 31 #[.agg #[.int .i64 df, .int .i64 dt, .slice a la ca], .agg #[.int .i64 df, .int .i64 dt, .slice b lb cb]] w fun e w' => e = .returned (.bool true) ∧ Below w.heap.size w w' := by
  have hq : eqL zs zs = true := decide_eq_true rfl
  have K := Lib.hid (fun W (hW : Below w.heap.size w W) => eqByteS_any a b la ca lb cb zs zs W (ha.below hW) (hb.below hW))
  rw [hq] at K
  go_enter Try.func31, Try.ntmps31
  go_wp2_with fail
  refine (K.out _ (((Below.refl _ _).alloc (Nat.le_refl _) _).alloc (by simp) _)).mono ?_
  rintro e w1 ⟨rfl, hb1⟩
  go_wp2
  go_ret
  exact ⟨rfl, (((Below.refl _ _).alloc (Nat.le_refl _) _).alloc (by simp) _).trans (hb1.mono (by simp; omega))⟩

set_option maxHeartbeats 1000000 in
theorem exactDatagramFault (df dt : Int) (a : Option Addr) (len cap : Nat) (zs : List Int) (w : World) (hr : Rd w a len cap zs)
    (c : Int) (hS : ∀ (a' : Option Addr) (l' c' : Nat) (W : World), Rd W a' l' c' zs → Calls Try.prog 23 #[.agg #[.int .i64 df, .int .i64 dt, .slice a' l' c']] W fun e w' => e = .returned (.int .i64 c) ∧ Below W.heap.size W w')
    (h : ∀ (a' : Option Addr) (l' c' : Nat) (W : World), Rd W a' l' c' zs → Calls Try.prog 22 #[.agg #[.int .i64 df, .int .i64 dt, .slice a' l' c']] W fun e w' => e = .returned (.int .i64 c) ∧ Below W.heap.size W w') :
    Calls Try.prog 5 #[.agg #[.int .i64 df, .int .i64 dt, .slice a len cap]] w fun e w' => e = .returned (.bool true) ∧ Below w.heap.size w w' := by
  have hm : len ≤ maxLen := Nat.le_trans hr.le hr.max
  have B0 := Lib.hid ((Below.refl w.heap.size w).alloc (Nat.le_refl _) (.cells #[.int .i64 df, .int .i64 dt, .slice a len cap] 49))
  have A0 := Lib.hid (Box.new w 49 #[.int .i64 df, .int .i64 dt, .slice a len cap])
  by_cases hbig : (len : Int) ≤ 1048576
  · have K := Lib.hid h
    have S := Lib.hid hS
    have T := Lib.hid (fun W (hW : Below w.heap.size w W) => toDatagram_any df dt a len cap zs W (hr.below hW) (by omega))
    have Z := Lib.hid (fun W => szDatagram_t df dt a len cap 1048576 W hbig (by omega))
    have hn : decide ((1048576 : Int) - len < 0) = false := decide_eq_false (by omega)
    have hne : (c != c) = false := by simp
    clear h hS hr
    go_enter Try.func5, Try.ntmps5
    go_wp2_with fail
    refine (Z.out _).mono ?_
    rintro e w1 ⟨rfl, b1⟩
    have B1 := Lib.hid (B0.out.trans (b1.mono B0.out.size))
    have A1 := Lib.hid (A0.out.below b1 A0.out.lt)
    clear b1 B0 A0
    obtain ⟨zA, p0, p1, p2⟩ := A1.out.three
    go_wp2_with fail
    refine (T.out _ B1.out).mono ?_
    rintro e w2 ⟨a2, l2, c2, rfl, o2, b2⟩
    have B2 := Lib.hid (B1.out.trans (b2.mono B1.out.size))
    have A2 := Lib.hid (A1.out.below b2 A1.out.lt)
    clear b2 B1 A1 zA p0 p1 p2
    go_wp2_with fail
    refine (S.out _ _ _ _ o2.rd).mono ?_
    rintro e w3 ⟨rfl, b3⟩
    have B3 := Lib.hid (B2.out.trans (b3.mono B2.out.size))
    have A3 := Lib.hid (A2.out.below b3 A2.out.lt)
    clear b3 B2 A2 o2
    obtain ⟨zA, p0, p1, p2⟩ := A3.out.three
    go_wp2_with fail
    refine (T.out _ B3.out).mono ?_
    rintro e w4 ⟨a4, l4, c4, rfl, o4, b4⟩
    have B4 := Lib.hid ((B3.out.trans (b4.mono B3.out.size)).alloc (Nat.le_trans B3.out.size b4.size) (.cells #[.int .i64 df, .int .i64 dt, .slice a4 l4 c4] 25))
    have A4 := Lib.hid ((A3.out.below b4 A3.out.lt).alloc (.cells #[.int .i64 df, .int .i64 dt, .slice a4 l4 c4] 25))
    have X4 := Lib.hid (Box.new w4 25 #[.int .i64 df, .int .i64 dt, .slice a4 l4 c4])
    have O4 := Lib.hid (o4.alloc (.cells #[.int .i64 df, .int .i64 dt, .slice a4 l4 c4] 25))
    clear b4 B3 A3 o4 zA p0 p1 p2
    generalize hW4 : w4.alloc (.cells #[.int .i64 df, .int .i64 dt, .slice a4 l4 c4] 25) = W4 at *
    obtain ⟨zX, x0, x1, x2⟩ := X4.out.three
    go_wp2_with fail
    clear hW4
    refine (K.out _ _ _ _ O4.out.rd).mono ?_
    rintro e w5 ⟨rfl, b5⟩
    have B5 := Lib.hid (B4.out.trans (b5.mono B4.out.size))
    have A5 := Lib.hid (A4.out.below b5 A4.out.lt)
    have X5 := Lib.hid (X4.out.below b5 X4.out.lt)
    have O5 := Lib.hid (O4.out.below b5)
    clear b5 B4 A4 X4 O4 zX x0 x1 x2
    obtain ⟨zA, p0, p1, p2⟩ := A5.out.three
    obtain ⟨zX, x0, x1, x2⟩ := X5.out.three
    go_wp2_with fail
    go_region_held3 (fun W => W.cell? ⟨w.heap.size, 0, none⟩ = some (.int .i64 df) ∧ W.cell? ⟨w.heap.size, 1, none⟩ = some (.int .i64 dt) ∧ W.cell? ⟨w.heap.size, 2, none⟩ = some (.slice a len cap) ∧ W.cell? ⟨w4.heap.size, 0, none⟩ = some (.int .i64 df) ∧ W.cell? ⟨w4.heap.size, 1, none⟩ = some (.int .i64 dt) ∧ W.cell? ⟨w4.heap.size, 2, none⟩ = some (.slice a4 l4 c4))
      (first | go_keep | (go_split_ands; exact ⟨keepK hb (by assumption), keepK hb (by assumption), keepK hb (by assumption), keepK hb (by assumption), keepK hb (by assumption), keepK hb (by assumption)⟩))
      (first
        | (go_at_call 30; refine (T.out _ B5.out.drew).mono ?_; rintro e w6 ⟨a6, l6, c6, rfl, o6, b6⟩; have hb := b6)
        | (go_at_call 31; refine (eqDatagram_t _ _ _ _ _ _ _ _ zs _ (O5.out.drew.below b6).rd o6.rd).mono ?_; rintro e w7 ⟨rfl, b7⟩; have hb := b7))
    go_wp2
    go_ret
    exact ⟨rfl, (B5.out.drew.trans (b6.mono B5.out.drew.size)).trans (b7.mono (Nat.le_trans B5.out.drew.size b6.size))⟩
  · have Z := Lib.hid (fun W => szDatagram_f df dt a len cap 1048576 W hbig (by omega) (by omega) hm)
    clear h hS hr
    go_enter Try.func5, Try.ntmps5
    go_wp2_with fail
    refine (Z.out _).mono ?_
    rintro e w1 ⟨rfl, b1⟩
    have B1 := Lib.hid (B0.out.trans (b1.mono B0.out.size))
    clear b1 B0 A0
    go_wp2
    go_ret
    exact ⟨rfl, B1.out⟩

theorem markDatagram_any (df dt : Int) (a : Option Addr) (len cap base k0 : Nat) (zs : List Int) (w : World) (h : Own w base a len cap zs) (hl : len ≤ 2097152) (hk0 : k0 ≤ 1000000000) :
    Calls Try.prog 32 #[.agg #[.int .i64 df, .int .i64 dt, .slice a len cap], .int .i64 k0] w fun e w' => e = .returned (.int .i64 (k0 + len : Nat)) ∧ Own w' base a len cap (marks k0 len) ∧ w.grownBy w' ((Value.slice a len cap).ownBlock) := by
  have K := Lib.hid (fun o => markByteS_any a len cap base k0 zs (w.alloc o) (h.alloc o) hl hk0)
  go_enter Try.func32, Try.ntmps32
  go_wp2_with fail
  refine (K.out _).mono ?_
  rintro e w1 ⟨rfl, ho, hg⟩
  go_wp2
  go_ret
  exact ⟨rfl, ho, grown_trans (grown_alloc _ _) hg⟩

set_option maxHeartbeats 4000000 in
theorem exactPackDatagram (pf pt : Int) (df dt : Int) (a : Option Addr) (len cap : Nat) (zs : List Int) (w : World) (hr : Rd w a len cap zs)
    (c : Int) (ys : List Int) (hyl : ys.length ≤ 700) (hS : ∀ (a' : Option Addr) (l' c' : Nat) (W : World), Rd W a' l' c' zs → Calls Try.prog 17 #[.int .i64 pf, .int .i64 pt, .agg #[.int .i64 df, .int .i64 dt, .slice a' l' c']] W (Packed W c ys))
    (h : ∀ (a' : Option Addr) (l' c' : Nat) (W : World), Rd W a' l' c' zs → Calls Try.prog 11 #[.int .i64 pf, .int .i64 pt, .agg #[.int .i64 df, .int .i64 dt, .slice a' l' c']] W (Packed W c ys)) :
    Calls Try.prog 6 #[.int .i64 pf, .int .i64 pt, .agg #[.int .i64 df, .int .i64 dt, .slice a len cap]] w fun e w' => e = .returned (.bool true) ∧ Below w.heap.size w w' := by
  have hm : len ≤ maxLen := Nat.le_trans hr.le hr.max
  have B0 := Lib.hid ((Below.refl w.heap.size w).alloc (Nat.le_refl _) (.cells #[.int .i64 df, .int .i64 dt, .slice a len cap] 49))
  have A0 := Lib.hid (Box.new w 49 #[.int .i64 df, .int .i64 dt, .slice a len cap])
  by_cases hbig : (len : Int) ≤ 1048576
  · have K := Lib.hid h
    have S := Lib.hid hS
    have T := Lib.hid (fun W (hW : Below w.heap.size w W) => toDatagram_any df dt a len cap zs W (hr.below hW) (by omega))
    have Z := Lib.hid (fun W => szDatagram_t df dt a len cap 1048576 W hbig (by omega))
    have hn : decide ((1048576 : Int) - len < 0) = false := decide_eq_false (by omega)
    have HZ := Lib.hid hr.length
    clear h hS hr
    go_enter Try.func6, Try.ntmps6
    go_wp2_with fail
    refine (Z.out _).mono ?_
    rintro e w1 ⟨rfl, b1⟩
    have A1 := Lib.hid (A0.out.below b1 A0.out.lt)
    have B1 := Lib.hid (B0.out.trans (b1.mono B0.out.size))
    clear b1 A0 B0
    obtain ⟨pz, p0, p1, p2⟩ := A1.out.three
    go_wp2_with fail
    refine (T.out _ B1.out).mono ?_
    rintro e w2 ⟨a2, l2, c2, rfl, o2, b2⟩
    clear pz p0 p1 p2
    have A2 := Lib.hid (A1.out.below b2 A1.out.lt)
    have B2 := Lib.hid (B1.out.trans (b2.mono B1.out.size))
    clear b2 A1 B1
    go_wp2_with fail
    refine (S.out _ _ _ _ o2.rd).mono ?_
    rintro e w3 ⟨a3, l3, c3, rfl, o3, b3⟩
    have A3 := Lib.hid ((A2.out.below b3 A2.out.lt).alloc (.cells #[.int .i64 c, .slice a3 l3 c3] 29))
    have B3 := Lib.hid ((B2.out.trans (b3.mono B2.out.size)).alloc (Nat.le_trans B2.out.size b3.size) (.cells #[.int .i64 c, .slice a3 l3 c3] 29))
    have X3 := Lib.hid (Box.new w3 29 #[.int .i64 c, .slice a3 l3 c3])
    have O3 := Lib.hid (o3.alloc (.cells #[.int .i64 c, .slice a3 l3 c3] 29))
    clear b3 o2 o3 A2 B2
    generalize hW : w3.alloc (.cells #[.int .i64 c, .slice a3 l3 c3] 29) = W3 at *
    obtain ⟨pz, p0, p1, p2⟩ := A3.out.three
    go_wp2_with fail
    clear hW
    refine (T.out _ B3.out).mono ?_
    rintro e w4 ⟨a4, l4, c4, rfl, o4, b4⟩
    have hl4 : l4 ≤ 1048576 := by have := o4.length; have := HZ.out; omega
    clear pz p0 p1 p2
    have NA := Lib.hid (ne_block o4 w.heap.size (.inl A3.out.lt))
    have NX := Lib.hid (ne_block o4 w3.heap.size (.inl X3.out.lt))
    have NO := Lib.hid (ne_of_lt_own O3.out o4 (Nat.le_refl _))
    have NY := Lib.hid (ne_block o4 w4.heap.size (.inr (Nat.le_refl _)))
    have NB := Lib.hid (own_rows o4 w.heap.size B3.out.size)
    have N4 := Lib.hid o4
    have A4 := Lib.hid ((A3.out.below b4 A3.out.lt).alloc (.cells #[.int .i64 df, .int .i64 dt, .slice a4 l4 c4] 25))
    have B4 := Lib.hid ((B3.out.trans (b4.mono B3.out.size)).alloc (Nat.le_trans B3.out.size b4.size) (.cells #[.int .i64 df, .int .i64 dt, .slice a4 l4 c4] 25))
    have X4 := Lib.hid ((X3.out.below b4 X3.out.lt).alloc (.cells #[.int .i64 df, .int .i64 dt, .slice a4 l4 c4] 25))
    have O4 := Lib.hid ((O3.out.below b4).alloc (.cells #[.int .i64 df, .int .i64 dt, .slice a4 l4 c4] 25))
    have Y4 := Lib.hid (Box.new w4 25 #[.int .i64 df, .int .i64 dt, .slice a4 l4 c4])
    have Q4 := Lib.hid (o4.alloc (.cells #[.int .i64 df, .int .i64 dt, .slice a4 l4 c4] 25))
    have s4 : w4.heap.size ≤ (w4.alloc (.cells #[.int .i64 df, .int .i64 dt, .slice a4 l4 c4] 25)).heap.size := by simp
    clear b4 o4 A3 B3 X3 O3
    generalize hW : w4.alloc (.cells #[.int .i64 df, .int .i64 dt, .slice a4 l4 c4] 25) = W4 at *
    obtain ⟨xz, x0, x1, x2⟩ := Y4.out.three
    go_wp2_with fail
    clear hW
    refine (K.out _ _ _ _ Q4.out.rd).mono ?_
    rintro e w5 ⟨a5, l5, c5, rfl, o5, b5⟩
    have hl5 : l5 ≤ 700 := by rw [← o5.length]; exact hyl
    clear xz x0 x1 x2
    have MA := Lib.hid (ne_block o5 w.heap.size (.inl A4.out.lt))
    have MX := Lib.hid (ne_block o5 w3.heap.size (.inl X4.out.lt))
    have MO := Lib.hid (ne_of_lt_own O4.out o5 (Nat.le_refl _))
    have MY := Lib.hid (ne_block o5 w4.heap.size (.inl Y4.out.lt))
    have MQ := Lib.hid (ne_of_lt_own Q4.out o5 (Nat.le_refl _))
    have MG := Lib.hid (ne_block o5 w5.heap.size (.inr (Nat.le_refl _)))
    have MB := Lib.hid (own_rows o5 w.heap.size B4.out.size)
    have NP := Lib.hid (ne_of_gt_own o5 N4.out s4)
    have NG := Lib.hid (ne_block N4.out w5.heap.size (.inr (Nat.le_trans s4 b5.size)))
    have A5 := Lib.hid ((A4.out.below b5 A4.out.lt).alloc (.cells #[.int .i64 c, .slice a5 l5 c5] 29))
    have B5 := Lib.hid ((B4.out.trans (b5.mono B4.out.size)).alloc (Nat.le_trans B4.out.size b5.size) (.cells #[.int .i64 c, .slice a5 l5 c5] 29))
    have X5 := Lib.hid ((X4.out.below b5 X4.out.lt).alloc (.cells #[.int .i64 c, .slice a5 l5 c5] 29))
    have O5 := Lib.hid ((O4.out.below b5).alloc (.cells #[.int .i64 c, .slice a5 l5 c5] 29))
    have Y5 := Lib.hid ((Y4.out.below b5 Y4.out.lt).alloc (.cells #[.int .i64 c, .slice a5 l5 c5] 29))
    have Q5 := Lib.hid ((Q4.out.below b5).alloc (.cells #[.int .i64 c, .slice a5 l5 c5] 29))
    have G5 := Lib.hid (Box.new w5 29 #[.int .i64 c, .slice a5 l5 c5])
    have P5 := Lib.hid (o5.alloc (.cells #[.int .i64 c, .slice a5 l5 c5] 29))
    clear b5 o5 N4 s4 A4 B4 X4 O4 Y4 Q4
    generalize hW : w5.alloc (.cells #[.int .i64 c, .slice a5 l5 c5] 29) = W5 at *
    obtain ⟨gz, g0, g1⟩ := G5.out.two
    obtain ⟨xz, x0, x1⟩ := X5.out.two
    go_wp2_with fail
    clear hW
    refine (eqBytes_any _ _ _ _ _ _ _ _ ys ys _ P5.out.rd O5.out.rd rfl rfl).mono ?_
    rintro e w6 ⟨rfl, b6⟩
    clear gz g0 g1 xz x0 x1
    have A6 := Lib.hid (A5.out.below b6 A5.out.lt)
    have B6 := Lib.hid (B5.out.trans (b6.mono B5.out.size))
    have X6 := Lib.hid (X5.out.below b6 X5.out.lt)
    have O6 := Lib.hid (O5.out.below b6)
    have Y6 := Lib.hid (Y5.out.below b6 Y5.out.lt)
    have Q6 := Lib.hid (Q5.out.below b6)
    have G6 := Lib.hid (G5.out.below b6 G5.out.lt)
    have P6 := Lib.hid (P5.out.below b6)
    clear b6 A5 B5 X5 O5 Y5 Q5 G5 P5
    obtain ⟨pz, p0, p1, p2⟩ := A6.out.three
    obtain ⟨xz, x0, x1, x2⟩ := Y6.out.three
    go_wp2_with fail
    go_region_held3 (fun W => W.cell? ⟨w.heap.size, 0, none⟩ = some (.int .i64 df) ∧ W.cell? ⟨w.heap.size, 1, none⟩ = some (.int .i64 dt) ∧ W.cell? ⟨w.heap.size, 2, none⟩ = some (.slice a len cap) ∧ W.cell? ⟨w4.heap.size, 0, none⟩ = some (.int .i64 df) ∧ W.cell? ⟨w4.heap.size, 1, none⟩ = some (.int .i64 dt) ∧ W.cell? ⟨w4.heap.size, 2, none⟩ = some (.slice a4 l4 c4))
      (first | go_keep | (go_split_ands; exact ⟨keepK hb (by assumption), keepK hb (by assumption), keepK hb (by assumption), keepK hb (by assumption), keepK hb (by assumption), keepK hb (by assumption)⟩))
      (first
        | (go_at_call 30; refine (T.out _ B6.out.drew).mono ?_; rintro e w7 ⟨a7, l7, c7, rfl, o7, b7⟩; have hb := b7)
        | (go_at_call 31; refine (eqDatagram_t _ _ _ _ _ _ _ _ zs _ (Q6.out.drew.below b7).rd o7.rd).mono ?_; rintro e w8 ⟨rfl, b8⟩; have hb := b8))
    have b68 : Below w6.drew.heap.size w6.drew w8 := b7.trans (b8.mono b7.size)
    clear hb o7 b7 b8 pz p0 p1 p2 xz x0 x1 x2
    have A8 := Lib.hid ((A6.out.drewB).below b68 A6.out.drewB.lt)
    have B8 := Lib.hid (B6.out.drew.trans (b68.mono B6.out.drew.size))
    have X8 := Lib.hid ((X6.out.drewB).below b68 X6.out.drewB.lt)
    have O8 := Lib.hid (O6.out.drew.below b68)
    have Y8 := Lib.hid ((Y6.out.drewB).below b68 Y6.out.drewB.lt)
    have Q8 := Lib.hid (Q6.out.drew.below b68)
    have G8 := Lib.hid ((G6.out.drewB).below b68 G6.out.drewB.lt)
    have P8 := Lib.hid (P6.out.drew.below b68)
    clear b68 A6 B6 X6 O6 Y6 Q6 G6 P6
    obtain ⟨xz, x0, x1, x2⟩ := Y8.out.three
    go_wp2_with fail
    refine (markDatagram_any _ _ _ _ _ _ 1 _ _ Q8.out (by omega) (by omega)).mono ?_
    rintro e w9 ⟨rfl, q9, g9⟩
    clear xz x0 x1 x2
    have A9 := Lib.hid (A8.out.grown g9 NA.out)
    have B9 := Lib.hid (B8.out.grown g9 B8.out.size NB.out)
    have X9 := Lib.hid (X8.out.grown g9 NX.out)
    have O9 := Lib.hid (O8.out.grown g9 NO.out)
    have Y9 := Lib.hid (Y8.out.grown g9 NY.out)
    have Q9 := Lib.hid q9
    have G9 := Lib.hid (G8.out.grown g9 NG.out)
    have P9 := Lib.hid (P8.out.grown g9 NP.out)
    clear g9 q9 NA NX NO NY NG NP NB A8 B8 X8 O8 Y8 Q8 G8 P8
    have hk4 : ¬ ((1 + l4 : Nat) : Int) < 0 := by omega
    have hk4d : decide (((1 + l4 : Nat) : Int) < 0) = false := decide_eq_false hk4
    obtain ⟨gz, g0, g1⟩ := G9.out.two
    obtain ⟨xz, x0, x1⟩ := X9.out.two
    go_wp2_with fail
    refine (eqBytes_any _ _ _ _ _ _ _ _ ys ys _ P9.out.rd O9.out.rd rfl rfl).mono ?_
    rintro e w10 ⟨rfl, b10⟩
    clear gz g0 g1 xz x0 x1 Q9 Y9
    have A10 := Lib.hid (A9.out.below b10 A9.out.lt)
    have B10 := Lib.hid (B9.out.trans (b10.mono B9.out.size))
    have X10 := Lib.hid (X9.out.below b10 X9.out.lt)
    have O10 := Lib.hid (O9.out.below b10)
    have G10 := Lib.hid (G9.out.below b10 G9.out.lt)
    have P10 := Lib.hid (P9.out.below b10)
    clear b10 A9 B9 X9 O9 G9 P9
    obtain ⟨gz, g0, g1⟩ := G10.out.two
    go_wp2_with fail
    refine (markBytes_any _ _ _ _ _ 1 _ _ P10.out (by omega) (by omega)).mono ?_
    rintro e w11 ⟨rfl, q11, g11⟩
    clear gz g0 g1
    have A11 := Lib.hid (A10.out.grown g11 MA.out)
    have B11 := Lib.hid (B10.out.grown g11 B10.out.size MB.out)
    have X11 := Lib.hid (X10.out.grown g11 MX.out)
    have O11 := Lib.hid (O10.out.grown g11 MO.out)
    have G11 := Lib.hid (G10.out.grown g11 MG.out)
    have P11 := Lib.hid q11
    clear g11 q11 MA MX MO MY MQ MG MB A10 B10 X10 O10 G10 P10
    obtain ⟨gz, g0, g1⟩ := G11.out.two
    go_wp2_with fail
    refine (heldBytes_any _ _ _ _ 1 _ P11.out.rd (by omega) (by omega)).mono ?_
    rintro e w12 ⟨rfl, b12⟩
    clear gz g0 g1
    have A12 := Lib.hid (A11.out.below b12 A11.out.lt)
    have B12 := Lib.hid (B11.out.trans (b12.mono B11.out.size))
    have X12 := Lib.hid (X11.out.below b12 X11.out.lt)
    have O12 := Lib.hid (O11.out.below b12)
    have G12 := Lib.hid (G11.out.below b12 G11.out.lt)
    have P12 := Lib.hid (P11.out.below b12)
    clear b12 A11 B11 X11 O11 G11 P11
    have hn5 : ¬ ((1 + l5 : Nat) : Int) < 0 := by omega
    have hne5 : (((1 + l5 : Nat) : Int) != ((1 + l5 : Nat) : Int)) = false := by simp
    obtain ⟨pz, p0, p1, p2⟩ := A12.out.three
    go_wp2_with fail
    refine (T.out _ B12.out).mono ?_
    rintro e w13 ⟨a13, l13, c13, rfl, o13, b13⟩
    clear pz p0 p1 p2 A12
    have B13 := Lib.hid (B12.out.trans (b13.mono B12.out.size))
    have X13 := Lib.hid (X12.out.below b13 X12.out.lt)
    have O13 := Lib.hid (O12.out.below b13)
    have G13 := Lib.hid (G12.out.below b13 G12.out.lt)
    have P13 := Lib.hid (P12.out.below b13)
    clear b13 B12 X12 O12 G12 P12
    go_wp2_with fail
    refine (K.out _ _ _ _ o13.rd).mono ?_
    rintro e w14 ⟨a14, l14, c14, rfl, o14, b14⟩
    have B14 := Lib.hid ((B13.out.trans (b14.mono B13.out.size)).alloc (Nat.le_trans B13.out.size b14.size) (.cells #[.int .i64 c, .slice a14 l14 c14] 29))
    have X14 := Lib.hid ((X13.out.below b14 X13.out.lt).alloc (.cells #[.int .i64 c, .slice a14 l14 c14] 29))
    have O14 := Lib.hid ((O13.out.below b14).alloc (.cells #[.int .i64 c, .slice a14 l14 c14] 29))
    have G14 := Lib.hid ((G13.out.below b14 G13.out.lt).alloc (.cells #[.int .i64 c, .slice a14 l14 c14] 29))
    have P14 := Lib.hid ((P13.out.below b14).alloc (.cells #[.int .i64 c, .slice a14 l14 c14] 29))
    have H14 := Lib.hid (Box.new w14 29 #[.int .i64 c, .slice a14 l14 c14])
    have R14 := Lib.hid (o14.alloc (.cells #[.int .i64 c, .slice a14 l14 c14] 29))
    clear b14 o13 o14 B13 X13 O13 G13 P13
    generalize hW : w14.alloc (.cells #[.int .i64 c, .slice a14 l14 c14] 29) = W14 at *
    obtain ⟨gz, g0, g1⟩ := H14.out.two
    obtain ⟨xz, x0, x1⟩ := X14.out.two
    go_wp2_with fail
    clear hW
    refine (eqBytes_any _ _ _ _ _ _ _ _ ys ys _ R14.out.rd O14.out.rd rfl rfl).mono ?_
    rintro e w15 ⟨rfl, b15⟩
    clear gz g0 g1 xz x0 x1 H14 R14 X14 O14
    have B15 := Lib.hid (B14.out.trans (b15.mono B14.out.size))
    have G15 := Lib.hid (G14.out.below b15 G14.out.lt)
    have P15 := Lib.hid (P14.out.below b15)
    clear b15 B14 G14 P14
    obtain ⟨gz, g0, g1⟩ := G15.out.two
    go_wp2_with fail
    refine (heldBytes_any _ _ _ _ 1 _ P15.out.rd (by omega) (by omega)).mono ?_
    rintro e w16 ⟨rfl, b16⟩
    clear gz g0 g1 P15 G15
    have B16 := Lib.hid (B15.out.trans (b16.mono B15.out.size))
    clear b16 B15
    go_wp2
    go_ret
    exact ⟨rfl, B16.out⟩
  · have Z := Lib.hid (fun W => szDatagram_f df dt a len cap 1048576 W hbig (by omega) (by omega) hm)
    clear h hS hr
    go_enter Try.func6, Try.ntmps6
    go_wp2_with fail
    refine (Z.out _).mono ?_
    rintro e w1 ⟨rfl, b1⟩
    have B1 := Lib.hid (B0.out.trans (b1.mono B0.out.size))
    clear b1 B0 A0
    go_wp2
    go_ret
    exact ⟨rfl, B1.out⟩

set_option maxHeartbeats 4000000 in
theorem exactSameDatagrams (df dt : Int) (a : Option Addr) (len cap : Nat) (zs : List Int) (df' dt' : Int) (a' : Option Addr) (len' cap' : Nat) (zs' : List Int) (w : World) (hr : Rd w a len cap zs) (hr' : Rd w a' len' cap' zs')
    (v : Bool) (hS : ∀ (b : Option Addr) (l c : Nat) (b' : Option Addr) (l' c' : Nat) (W : World), Rd W b l c zs → Rd W b' l' c' zs' → Calls Try.prog 24 #[.agg #[.int .i64 df, .int .i64 dt, .slice b l c], .agg #[.int .i64 df', .int .i64 dt', .slice b' l' c']] W fun e w' => e = .returned (.bool v) ∧ Below W.heap.size W w')
    (h : ∀ (b : Option Addr) (l c : Nat) (b' : Option Addr) (l' c' : Nat) (W : World), Rd W b l c zs → Rd W b' l' c' zs' → Calls Try.prog 19 #[.agg #[.int .i64 df, .int .i64 dt, .slice b l c], .agg #[.int .i64 df', .int .i64 dt', .slice b' l' c']] W fun e w' => e = .returned (.bool v) ∧ Below W.heap.size W w') :
    Calls Try.prog 8 #[.agg #[.int .i64 df, .int .i64 dt, .slice a len cap], .agg #[.int .i64 df', .int .i64 dt', .slice a' len' cap']] w fun e w' => e = .returned (.bool true) ∧ Below w.heap.size w w' := by
  have hm : len ≤ maxLen := Nat.le_trans hr.le hr.max
  have hm' : len' ≤ maxLen := Nat.le_trans hr'.le hr'.max
  have B0 := Lib.hid (((Below.refl w.heap.size w).alloc (Nat.le_refl _) (.cells #[.int .i64 df, .int .i64 dt, .slice a len cap] 49)).alloc (by simp) (.cells #[.int .i64 df', .int .i64 dt', .slice a' len' cap'] 49))
  have A0 := Lib.hid ((Box.new w 49 #[.int .i64 df, .int .i64 dt, .slice a len cap]).alloc (.cells #[.int .i64 df', .int .i64 dt', .slice a' len' cap'] 49))
  have D0 : Hid (Box ((w.alloc (.cells #[.int .i64 df, .int .i64 dt, .slice a len cap] 49)).alloc (.cells #[.int .i64 df', .int .i64 dt', .slice a' len' cap'] 49)) (w.heap.size + 1) 49 #[.int .i64 df', .int .i64 dt', .slice a' len' cap']) := by
    have := Box.new (w.alloc (.cells #[.int .i64 df, .int .i64 dt, .slice a len cap] 49)) 49 #[.int .i64 df', .int .i64 dt', .slice a' len' cap']
    simp only [World.size_alloc] at this
    exact this
  by_cases hbig : (len : Int) ≤ 1048576
  · have Z := Lib.hid (fun W => szDatagram_t df dt a len cap 1048576 W hbig (by omega))
    have hn : decide ((1048576 : Int) - len < 0) = false := decide_eq_false (by omega)
    by_cases hbig' : (len' : Int) ≤ 1048576 - len
    · have Z' := Lib.hid (fun W => szDatagram_t df' dt' a' len' cap' (1048576 - len) W hbig' (by omega))
      have hn' : decide ((1048576 : Int) - len - len' < 0) = false := decide_eq_false (by omega)
      have K := Lib.hid h
      have S := Lib.hid hS
      have T := Lib.hid (fun W (hW : Below w.heap.size w W) => toDatagram_any df dt a len cap zs W (hr.below hW) (by omega))
      have T' := Lib.hid (fun W (hW : Below w.heap.size w W) => toDatagram_any df' dt' a' len' cap' zs' W (hr'.below hW) (by omega))
      have hne : (v != v) = false := by cases v <;> rfl
      clear h hS hr hr'
      go_enter Try.func8, Try.ntmps8
      go_wp2_with fail
      refine (Z.out _).mono ?_
      rintro e w1 ⟨rfl, b1⟩
      have A1 := Lib.hid (A0.out.below b1 A0.out.lt)
      have D1 := Lib.hid (D0.out.below b1 D0.out.lt)
      have B1 := Lib.hid (B0.out.trans (b1.mono B0.out.size))
      clear b1 A0 D0 B0
      obtain ⟨qz, q0, q1, q2⟩ := D1.out.three
      go_wp2_with fail
      refine (Z'.out _).mono ?_
      rintro e w2 ⟨rfl, b2⟩
      clear qz q0 q1 q2
      have A2 := Lib.hid (A1.out.below b2 A1.out.lt)
      have D2 := Lib.hid (D1.out.below b2 D1.out.lt)
      have B2 := Lib.hid (B1.out.trans (b2.mono B1.out.size))
      clear b2 A1 D1 B1
      obtain ⟨pz, p0, p1, p2⟩ := A2.out.three
      obtain ⟨qz, q0, q1, q2⟩ := D2.out.three
      go_wp2_with fail
      go_region_held3 (fun W => W.cell? ⟨w.heap.size, 0, none⟩ = some (.int .i64 df) ∧ W.cell? ⟨w.heap.size, 1, none⟩ = some (.int .i64 dt) ∧ W.cell? ⟨w.heap.size, 2, none⟩ = some (.slice a len cap) ∧ W.cell? ⟨w.heap.size + 1, 0, none⟩ = some (.int .i64 df') ∧ W.cell? ⟨w.heap.size + 1, 1, none⟩ = some (.int .i64 dt') ∧ W.cell? ⟨w.heap.size + 1, 2, none⟩ = some (.slice a' len' cap'))
        (first | go_keep | (go_split_ands; exact ⟨keepK hb (by assumption), keepK hb (by assumption), keepK hb (by assumption), keepK hb (by assumption), keepK hb (by assumption), keepK hb (by assumption)⟩))
        (first
          | (have q := R4; clear q; go_at_call 24; refine (S.out _ _ _ _ _ _ _ (o3.below b4).rd o4.rd).mono ?_; rintro e w5 ⟨rfl, b5⟩; have hb := b5)
          | (have q := R3; clear q; go_at_call 30; refine (T'.out _ (B2.out.drew.trans (b3.mono B2.out.drew.size))).mono ?_; rintro e w4 ⟨a4, l4, c4, rfl, o4, b4⟩; have hb := b4; have R4 : Hid True := trivial)
          | (go_at_call 30; refine (T.out _ B2.out.drew).mono ?_; rintro e w3 ⟨a3, l3, c3, rfl, o3, b3⟩; have hb := b3; have R3 : Hid True := trivial))
      have b25 : Below w2.drew.heap.size w2.drew w5 := (b3.trans (b4.mono b3.size)).trans (b5.mono (Nat.le_trans b3.size b4.size))
      clear hb o3 b3 o4 b4 b5 R3 R4 pz p0 p1 p2 qz q0 q1 q2
      have A5 := Lib.hid ((A2.out.drewB).below b25 A2.out.drewB.lt)
      have D5 := Lib.hid ((D2.out.drewB).below b25 D2.out.drewB.lt)
      have B5 := Lib.hid (B2.out.drew.trans (b25.mono B2.out.drew.size))
      clear b25 A2 D2 B2
      obtain ⟨pz, p0, p1, p2⟩ := A5.out.three
      go_wp2_with fail
      refine (T.out _ B5.out).mono ?_
      rintro e w6 ⟨a6, l6, c6, rfl, o6, b6⟩
      clear pz p0 p1 p2
      have A6 := Lib.hid ((A5.out.below b6 A5.out.lt).alloc (.cells #[.int .i64 df, .int .i64 dt, .slice a6 l6 c6] 25))
      have D6 := Lib.hid ((D5.out.below b6 D5.out.lt).alloc (.cells #[.int .i64 df, .int .i64 dt, .slice a6 l6 c6] 25))
      have B6 := Lib.hid ((B5.out.trans (b6.mono B5.out.size)).alloc (Nat.le_trans B5.out.size b6.size) (.cells #[.int .i64 df, .int .i64 dt, .slice a6 l6 c6] 25))
      have X6 := Lib.hid (Box.new w6 25 #[.int .i64 df, .int .i64 dt, .slice a6 l6 c6])
      have O6 := Lib.hid (o6.alloc (.cells #[.int .i64 df, .int .i64 dt, .slice a6 l6 c6] 25))
      clear b6 o6 A5 D5 B5
      generalize hW : w6.alloc (.cells #[.int .i64 df, .int .i64 dt, .slice a6 l6 c6] 25) = W6 at *
      obtain ⟨qz, q0, q1, q2⟩ := D6.out.three
      go_wp2_with fail
      clear hW
      refine (T'.out _ B6.out).mono ?_
      rintro e w7 ⟨a7, l7, c7, rfl, o7, b7⟩
      clear qz q0 q1 q2
      have A7 := Lib.hid ((A6.out.below b7 A6.out.lt).alloc (.cells #[.int .i64 df', .int .i64 dt', .slice a7 l7 c7] 25))
      have D7 := Lib.hid ((D6.out.below b7 D6.out.lt).alloc (.cells #[.int .i64 df', .int .i64 dt', .slice a7 l7 c7] 25))
      have B7 := Lib.hid ((B6.out.trans (b7.mono B6.out.size)).alloc (Nat.le_trans B6.out.size b7.size) (.cells #[.int .i64 df', .int .i64 dt', .slice a7 l7 c7] 25))
      have X7 := Lib.hid ((X6.out.below b7 X6.out.lt).alloc (.cells #[.int .i64 df', .int .i64 dt', .slice a7 l7 c7] 25))
      have O7 := Lib.hid ((O6.out.below b7).alloc (.cells #[.int .i64 df', .int .i64 dt', .slice a7 l7 c7] 25))
      have Y7 := Lib.hid (Box.new w7 25 #[.int .i64 df', .int .i64 dt', .slice a7 l7 c7])
      have P7 := Lib.hid (o7.alloc (.cells #[.int .i64 df', .int .i64 dt', .slice a7 l7 c7] 25))
      clear b7 o7 A6 D6 B6 X6 O6
      generalize hW : w7.alloc (.cells #[.int .i64 df', .int .i64 dt', .slice a7 l7 c7] 25) = W7 at *
      obtain ⟨pz, p0, p1, p2⟩ := X7.out.three
      obtain ⟨qz, q0, q1, q2⟩ := Y7.out.three
      go_wp2_with fail
      clear hW
      refine (K.out _ _ _ _ _ _ _ O7.out.rd P7.out.rd).mono ?_
      rintro e w8 ⟨rfl, b8⟩
      clear pz p0 p1 p2 qz q0 q1 q2
      have A8 := Lib.hid (A7.out.below b8 A7.out.lt)
      have D8 := Lib.hid (D7.out.below b8 D7.out.lt)
      have B8 := Lib.hid (B7.out.trans (b8.mono B7.out.size))
      have X8 := Lib.hid (X7.out.below b8 X7.out.lt)
      have O8 := Lib.hid (O7.out.below b8)
      have Y8 := Lib.hid (Y7.out.below b8 Y7.out.lt)
      have P8 := Lib.hid (P7.out.below b8)
      clear b8 A7 D7 B7 X7 O7 Y7 P7
      obtain ⟨pz, p0, p1, p2⟩ := A8.out.three
      obtain ⟨qz, q0, q1, q2⟩ := X8.out.three
      go_wp2_with fail
      go_region_held3 (fun W => W.cell? ⟨w.heap.size, 0, none⟩ = some (.int .i64 df) ∧ W.cell? ⟨w.heap.size, 1, none⟩ = some (.int .i64 dt) ∧ W.cell? ⟨w.heap.size, 2, none⟩ = some (.slice a len cap) ∧ W.cell? ⟨w6.heap.size, 0, none⟩ = some (.int .i64 df) ∧ W.cell? ⟨w6.heap.size, 1, none⟩ = some (.int .i64 dt) ∧ W.cell? ⟨w6.heap.size, 2, none⟩ = some (.slice a6 l6 c6))
        (first | go_keep | (go_split_ands; exact ⟨keepK hb (by assumption), keepK hb (by assumption), keepK hb (by assumption), keepK hb (by assumption), keepK hb (by assumption), keepK hb (by assumption)⟩))
        (first
          | (have q := R9; clear q; go_at_call 31; refine (eqDatagram_t _ _ _ _ _ _ _ _ zs _ (O8.out.drew.below b9).rd o9.rd).mono ?_; rintro e w10 ⟨rfl, b10⟩; have hb := b10)
          | (go_at_call 30; refine (T.out _ B8.out.drew).mono ?_; rintro e w9 ⟨a9, l9, c9, rfl, o9, b9⟩; have hb := b9; have R9 : Hid True := trivial))
      have b81 : Below w8.drew.heap.size w8.drew w10 := b9.trans (b10.mono b9.size)
      clear hb o9 b9 b10 R9 pz p0 p1 p2 qz q0 q1 q2 X8 O8 A8
      have D10 := Lib.hid ((D8.out.drewB).below b81 D8.out.drewB.lt)
      have B10 := Lib.hid (B8.out.drew.trans (b81.mono B8.out.drew.size))
      have Y10 := Lib.hid ((Y8.out.drewB).below b81 Y8.out.drewB.lt)
      have P10 := Lib.hid (P8.out.drew.below b81)
      clear b81 D8 B8 Y8 P8
      obtain ⟨pz, p0, p1, p2⟩ := D10.out.three
      obtain ⟨qz, q0, q1, q2⟩ := Y10.out.three
      go_wp2_with fail
      go_region_held3 (fun W => W.cell? ⟨w.heap.size + 1, 0, none⟩ = some (.int .i64 df') ∧ W.cell? ⟨w.heap.size + 1, 1, none⟩ = some (.int .i64 dt') ∧ W.cell? ⟨w.heap.size + 1, 2, none⟩ = some (.slice a' len' cap') ∧ W.cell? ⟨w7.heap.size, 0, none⟩ = some (.int .i64 df') ∧ W.cell? ⟨w7.heap.size, 1, none⟩ = some (.int .i64 dt') ∧ W.cell? ⟨w7.heap.size, 2, none⟩ = some (.slice a7 l7 c7))
        (first | go_keep | (go_split_ands; exact ⟨keepK hb (by assumption), keepK hb (by assumption), keepK hb (by assumption), keepK hb (by assumption), keepK hb (by assumption), keepK hb (by assumption)⟩))
        (first
          | (have q := R11; clear q; go_at_call 31; refine (eqDatagram_t _ _ _ _ _ _ _ _ zs' _ (P10.out.drew.below b11).rd o11.rd).mono ?_; rintro e w12 ⟨rfl, b12⟩; have hb := b12)
          | (go_at_call 30; refine (T'.out _ B10.out.drew).mono ?_; rintro e w11 ⟨a11, l11, c11, rfl, o11, b11⟩; have hb := b11; have R11 : Hid True := trivial))
      have B12 := Lib.hid ((B10.out.drew.trans (b11.mono B10.out.drew.size)).trans (b12.mono (Nat.le_trans B10.out.drew.size b11.size)))
      clear hb o11 b11 b12 R11 pz p0 p1 p2 qz q0 q1 q2 B10 D10 Y10 P10
      go_wp2
      go_ret
      exact ⟨rfl, B12.out⟩
    · have Z' := Lib.hid (fun W => szDatagram_f df' dt' a' len' cap' (1048576 - len) W hbig' (by omega) (by omega) hm')
      clear h hS hr hr'
      go_enter Try.func8, Try.ntmps8
      go_wp2_with fail
      refine (Z.out _).mono ?_
      rintro e w1 ⟨rfl, b1⟩
      have B1 := Lib.hid (B0.out.trans (b1.mono B0.out.size))
      have D1 := Lib.hid (D0.out.below b1 D0.out.lt)
      clear b1 B0 A0 D0
      obtain ⟨qz, q0, q1, q2⟩ := D1.out.three
      go_wp2_with fail
      refine (Z'.out _).mono ?_
      rintro e w2 ⟨rfl, b2⟩
      have B2 := Lib.hid (B1.out.trans (b2.mono B1.out.size))
      clear b2 B1 D1 qz q0 q1 q2
      go_wp2
      go_ret
      exact ⟨rfl, B2.out⟩
  · have Z := Lib.hid (fun W => szDatagram_f df dt a len cap 1048576 W hbig (by omega) (by omega) hm)
    clear h hS hr hr'
    go_enter Try.func8, Try.ntmps8
    go_wp2_with fail
    refine (Z.out _).mono ?_
    rintro e w1 ⟨rfl, b1⟩
    have B1 := Lib.hid (B0.out.trans (b1.mono B0.out.size))
    clear b1 B0 A0 D0
    go_wp2
    go_ret
    exact ⟨rfl, B1.out⟩

/-- a frame's result: the code, the numbers, the body of its own -/
def DatagramRes (w : World) (c : Int) (df dt : Int) (zs : List Int) (e : Ending) (w' : World) : Prop :=
  ∃ a' l' c', e = .returned (.agg #[.int .i64 c, .int .i64 df, .int .i64 dt, .slice a' l' c']) ∧ Own w' w.heap.size a' l' c' zs ∧ Below w.heap.size w w'

theorem heldDatagram_any (df dt : Int) (a : Option Addr) (len cap k0 : Nat) (w : World) (h : Rd w a len cap (marks k0 len)) (hl : len ≤ 2097152) (hk0 : k0 ≤ 1000000000) :
    Calls Try.prog 71 #[.agg #[.int .i64 df, .int .i64 dt, .slice a len cap], .int .i64 k0] w fun e w' => e = .returned (.int .i64 (k0 + len : Nat)) ∧ Below w.heap.size w w' := by
  have K := Lib.hid (fun o => heldByteS_any a len cap k0 (w.alloc o) (h.alloc o) hl hk0)
  go_enter Try.func71, Try.ntmps71
  go_wp2_with fail
  refine (K.out _).mono ?_
  rintro e w1 ⟨rfl, rfl⟩
  have hn : ¬ ((k0 + len : Nat) : Int) < 0 := by omega
  go_wp2
  go_ret
  exact ⟨rfl, (Below.refl _ _).alloc (Nat.le_refl _) _⟩

theorem heldDatagramR_any (c : Int) (df dt : Int) (a : Option Addr) (len cap k0 : Nat) (w : World) (h : Rd w a len cap (marks k0 len)) (hl : len ≤ 2097152) (hk0 : k0 ≤ 1000000000) :
    Calls Try.prog 38 #[.agg #[.int .i64 c, .int .i64 df, .int .i64 dt, .slice a len cap], .int .i64 k0] w fun e w' => e = .returned (.int .i64 (k0 + len : Nat)) ∧ Below w.heap.size w w' := by
  have K := Lib.hid (fun o => heldDatagram_any df dt a len cap k0 (w.alloc o) (h.alloc o) hl hk0)
  go_enter Try.func38, Try.ntmps38
  go_wp2_with fail
  refine (K.out _).mono ?_
  rintro e w1 ⟨rfl, b1⟩
  have hn : ¬ ((k0 + len : Nat) : Int) < 0 := by omega
  go_wp2
  go_ret
  exact ⟨rfl, ((Below.refl _ _).alloc (Nat.le_refl _) _).trans (b1.mono (by simp))⟩

theorem markDatagramR_any (c : Int) (df dt : Int) (a : Option Addr) (len cap base k0 : Nat) (zs : List Int) (w : World) (h : Own w base a len cap zs) (hl : len ≤ 2097152) (hk0 : k0 ≤ 1000000000) :
    Calls Try.prog 37 #[.agg #[.int .i64 c, .int .i64 df, .int .i64 dt, .slice a len cap], .int .i64 k0] w fun e w' => e = .returned (.int .i64 (k0 + len : Nat)) ∧ Own w' base a len cap (marks k0 len) ∧ w.grownBy w' ((Value.slice a len cap).ownBlock) := by
  have K := Lib.hid (fun o => markDatagram_any df dt a len cap base k0 zs (w.alloc o) (h.alloc o) hl hk0)
  go_enter Try.func37, Try.ntmps37
  go_wp2_with fail
  refine (K.out _).mono ?_
  rintro e w1 ⟨rfl, ho, hg⟩
  go_wp2
  go_ret
  exact ⟨rfl, ho, grown_trans (grown_alloc _ _) hg⟩

theorem eqDatagramR_any (c : Int) (df dt : Int) (a b : Option Addr) (la ca lb cb : Nat) (zs : List Int) (w : World) (ha : Rd w a la ca zs) (hb : Rd w b lb cb zs) :
    Calls Try.prog 34 #[.agg #[.int .i64 c, .int .i64 df, .int .i64 dt, .slice a la ca], .agg #[.int .i64 c, .int .i64 df, .int .i64 dt, .slice b lb cb]] w fun e w' => e = .returned (.bool true) ∧ Below w.heap.size w w' := by
  have K := Lib.hid (fun W (hW : Below w.heap.size w W) => eqDatagram_t df dt a b la ca lb cb zs W (ha.below hW) (hb.below hW))
  go_enter Try.func34, Try.ntmps34
  go_wp2_with fail
  refine (K.out _ (((Below.refl _ _).alloc (Nat.le_refl _) _).alloc (by simp) _)).mono ?_
  rintro e w1 ⟨rfl, hb1⟩
  go_wp2
  go_ret
  exact ⟨rfl, (((Below.refl _ _).alloc (Nat.le_refl _) _).alloc (by simp) _).trans (hb1.mono (by simp; omega))⟩

set_option maxHeartbeats 4000000 in
theorem exactReadDatagram (pf pt : Int) (a : Option Addr) (len cap : Nat) (zs : List Int) (c : Int) (df dt : Int) (rs : List Int) (w : World) (h : Rd w a len cap zs)
    (hS : ∀ (a' : Option Addr) (l' c' : Nat) (W : World), Rd W a' l' c' zs → Calls Try.prog 18 #[.int .i64 pf, .int .i64 pt, .slice a' l' c'] W (DatagramRes W c df dt rs))
    (hI : ∀ (a' : Option Addr) (l' c' : Nat) (W : World), Rd W a' l' c' zs → Calls Try.prog 13 #[.int .i64 pf, .int .i64 pt, .slice a' l' c'] W (DatagramRes W c df dt rs)) (hB : rs.length ≤ 700) :
    Calls Try.prog 7 #[.int .i64 pf, .int .i64 pt, .slice a len cap] w fun e w' => e = .returned (.bool true) ∧ Below w.heap.size w w' := by
  by_cases hbig : len ≤ 1048576
  · have K1 := Lib.hid hS
    have K2 := Lib.hid hI
    have hrs : rs.length ≤ 700 := hB
    have T := Lib.hid (fun W (hW : Below w.heap.size w W) => toByteS_any a len cap zs W (h.below hW) hbig)
    have hq : eqL zs zs = true := decide_eq_true rfl
    clear hS hI hB h
    go_enter Try.func7, Try.ntmps7
    go_wp2_with fail
    refine (T.out _ (Below.refl _ _)).mono ?_
    rintro e w1 ⟨rfl, o1, b1⟩
    have B1 := Lib.hid b1
    clear b1
    go_wp2_with fail
    refine (K1.out _ _ _ _ o1.rd).mono ?_
    rintro e w2 ⟨a2, l2, k2, rfl, o2, b2⟩
    have B2 : Hid (Below w.heap.size w (w2.alloc (.cells #[.int .i64 c, .int .i64 df, .int .i64 dt, .slice a2 l2 k2] 34))) := (B1.out.trans (b2.mono B1.out.size)).alloc (Nat.le_trans B1.out.size b2.size) _
    have x2 := Box.new w2 34 #[.int .i64 c, .int .i64 df, .int .i64 dt, .slice a2 l2 k2]
    have p2 := o2.alloc (.cells #[.int .i64 c, .int .i64 df, .int .i64 dt, .slice a2 l2 k2] 34)
    have s2 := Nat.le_trans B1.out.size b2.size
    have sW2 : (w2.alloc (.cells #[.int .i64 c, .int .i64 df, .int .i64 dt, .slice a2 l2 k2] 34)).heap.size = w2.heap.size + 1 := World.size_alloc _ _
    have SW2 := Lib.hid sW2
    clear b2 o1 sW2
    generalize hW2 : w2.alloc (.cells #[.int .i64 c, .int .i64 df, .int .i64 dt, .slice a2 l2 k2] 34) = W2 at *
    go_wp2_with fail
    refine (T.out _ B2.out).mono ?_
    rintro e w3 ⟨rfl, o3, b3⟩
    rw [SW2.out] at o3
    have B3 : Hid (Below w.heap.size w w3) := B2.out.trans (b3.mono B2.out.size)
    have x3 := x2.below b3 x2.lt
    have p3 := p2.below b3
    have s3 := (o3.lt _ rfl).2
    dsimp only at s3
    clear b3 x2 p2 hW2
    rw [SW2.out]
    go_wp2_with fail
    refine (K2.out _ _ _ _ o3.rd).mono ?_
    rintro e w4 ⟨a4, l4, k4, rfl, o4, b4⟩
    have hl4 : l4 ≤ 700 := by rw [← o4.length]; exact hrs
    have B4 : Hid (Below w.heap.size w (w4.alloc (.cells #[.int .i64 c, .int .i64 df, .int .i64 dt, .slice a4 l4 k4] 34))) := (B3.out.trans (b4.mono B3.out.size)).alloc (Nat.le_trans B3.out.size b4.size) _
    have x4 := (x3.below b4 x3.lt).alloc (.cells #[.int .i64 c, .int .i64 df, .int .i64 dt, .slice a4 l4 k4] 34)
    have p4 := (p3.below b4).alloc (.cells #[.int .i64 c, .int .i64 df, .int .i64 dt, .slice a4 l4 k4] 34)
    have q4 := (o3.below b4).alloc (.cells #[.int .i64 c, .int .i64 df, .int .i64 dt, .slice a4 l4 k4] 34)
    have r4 := o4.alloc (.cells #[.int .i64 c, .int .i64 df, .int .i64 dt, .slice a4 l4 k4] 34)
    have y4 := Box.new w4 34 #[.int .i64 c, .int .i64 df, .int .i64 dt, .slice a4 l4 k4]
    obtain ⟨z4, c0, c1, c2, c3⟩ := (x3.below b4 x3.lt).four
    have s4 := b4.size
    clear b4 x3 p3
    go_wp2_with fail
    refine (eqDatagramR_any _ _ _ _ _ _ _ _ _ rs _ r4.rd p4.rd).mono ?_
    rintro e w5 ⟨rfl, b5⟩
    have B5 : Hid (Below w.heap.size w w5) := B4.out.trans (b5.mono B4.out.size)
    have x5 := x4.below b5 x4.lt
    have y5 := y4.below b5 y4.lt
    have p5 := p4.below b5
    have q5 := q4.below b5
    have r5 := r4.below b5
    clear b5 x4 y4 p4 q4 r4 z4 c0 c1 c2
    go_wp2_with fail
    refine (T.out _ B5.out).mono ?_
    rintro e w6 ⟨rfl, o6, b6⟩
    have B6 : Hid (Below w.heap.size w w6) := B5.out.trans (b6.mono B5.out.size)
    have x6 := x5.below b6 x5.lt
    have y6 := y5.below b6 y5.lt
    have p6 := p5.below b6
    have q6 := q5.below b6
    have r6 := r5.below b6
    clear b6 x5 y5 p5 q5 r5
    go_wp2_with fail
    refine (eqByteS_any _ _ _ _ _ _ zs zs _ q6.rd o6.rd).mono ?_
    rintro e w7 ⟨rfl, b7⟩
    have B7 : Hid (Below w.heap.size w w7) := B6.out.trans (b7.mono B6.out.size)
    have x7 := x6.below b7 x6.lt
    have y7 := y6.below b7 y6.lt
    have p7 := p6.below b7
    have q7 := q6.below b7
    have r7 := r6.below b7
    clear b7 x6 y6 p6 q6 r6 o6
    go_wp2_with fail
    refine (markByteS_any _ _ _ _ 1 _ _ q7 (by omega) (by omega)).mono ?_
    rintro e w8 ⟨rfl, q8, g8⟩
    have x8 := x7.grown g8 (by simp [Value.ownBlock])
    have y8 := y7.grown g8 (by simp [Value.ownBlock]; omega)
    have p8 := p7.grown g8 (fun x hx e => by have := o2.lt x hx; simp [Value.ownBlock] at e; omega)
    have r8 := r7.grown g8 (fun x hx e => by have := o4.lt x hx; simp [Value.ownBlock] at e; omega)
    have B8 : Hid (Below w.heap.size w w8) := B7.out.grown g8 (by have := B7.out.size; omega) (fun k e => by simp [Value.ownBlock] at e; omega)
    have hn : ¬ ((1 + len : Nat) : Int) < 0 := by omega
    obtain ⟨zx, cx0, cx1, cx2, cx3⟩ := x8.four
    obtain ⟨zy, cy0, cy1, cy2, cy3⟩ := y8.four
    clear g8 x7 y7 p7 q7 r7 q8
    go_wp2_with fail
    refine (eqDatagramR_any _ _ _ _ _ _ _ _ _ rs _ r8.rd p8.rd).mono ?_
    rintro e w9 ⟨rfl, b9⟩
    have B9 : Hid (Below w.heap.size w w9) := B8.out.trans (b9.mono B8.out.size)
    have x9 := x8.below b9 x8.lt
    have y9 := y8.below b9 y8.lt
    have p9 := p8.below b9
    have r9 := r8.below b9
    obtain ⟨zy', cy0', cy1', cy2', cy3'⟩ := y9.four
    clear b9 x8 y8 p8 r8 zx cx0 cx1 cx2 cx3 zy cy0 cy1 cy2 cy3
    go_wp2_with fail
    refine (markDatagramR_any _ _ _ _ _ _ _ 1 _ _ r9 (by omega) (by omega)).mono ?_
    rintro e wa ⟨rfl, ra, ga⟩
    have ya := y9.grown ga (ne_block o4 _ (.inr (Nat.le_refl _)))
    have xa := x9.grown ga (ne_block o4 _ (.inl (by omega)))
    have pa := p9.grown ga (ne_of_lt_own o2 o4 (by omega))
    have Ba : Hid (Below w.heap.size w wa) := B9.out.grown ga (by have := B9.out.size; omega) (fun k e => by
      cases a4 with
      | none => simp [Value.ownBlock] at e
      | some y => simp [Value.ownBlock] at e; have := o4.lt y rfl; omega)
    obtain ⟨zya, cya0, cya1, cya2, cya3⟩ := ya.four
    clear ga x9 y9 p9 r9 zy' cy0' cy1' cy2' cy3'
    go_wp2_with fail
    refine (heldDatagramR_any _ _ _ _ _ _ 1 _ ra.rd (by omega) (by omega)).mono ?_
    rintro e wb ⟨rfl, bb⟩
    have Bb : Hid (Below w.heap.size w wb) := Ba.out.trans (bb.mono Ba.out.size)
    have xb := xa.below bb xa.lt
    have yb := ya.below bb ya.lt
    have pb := pa.below bb
    have rb := ra.below bb
    have hn2 : ¬ ((1 + l4 : Nat) : Int) < 0 := by omega
    have hne : (((1 + l4 : Nat) : Int) != ((1 + l4 : Nat) : Int)) = false := by simp
    clear bb xa ya pa ra zya cya0 cya1 cya2 cya3
    go_wp2_with fail
    refine (T.out _ Bb.out).mono ?_
    rintro e wc ⟨rfl, oc, bc⟩
    have Bc : Hid (Below w.heap.size w wc) := Bb.out.trans (bc.mono Bb.out.size)
    have xc := xb.below bc xb.lt
    have yc := yb.below bc yb.lt
    have pc := pb.below bc
    have rc := rb.below bc
    clear bc xb yb pb rb
    go_wp2_with fail
    refine (K2.out _ _ _ _ oc.rd).mono ?_
    rintro e wd ⟨ad, ld, kd, rfl, od, bd⟩
    have Bd : Hid (Below w.heap.size w (wd.alloc (.cells #[.int .i64 c, .int .i64 df, .int .i64 dt, .slice ad ld kd] 34))) := (Bc.out.trans (bd.mono Bc.out.size)).alloc (Nat.le_trans Bc.out.size bd.size) _
    have yd := (yc.below bd yc.lt).alloc (.cells #[.int .i64 c, .int .i64 df, .int .i64 dt, .slice ad ld kd] 34)
    have pd := (pc.below bd).alloc (.cells #[.int .i64 c, .int .i64 df, .int .i64 dt, .slice ad ld kd] 34)
    have rd := (rc.below bd).alloc (.cells #[.int .i64 c, .int .i64 df, .int .i64 dt, .slice ad ld kd] 34)
    obtain ⟨zxd, cxd0, cxd1, cxd2, cxd3⟩ := (xc.below bd xc.lt).four
    clear bd xc yc pc rc oc
    go_wp2_with fail
    refine (eqDatagramR_any _ _ _ _ _ _ _ _ _ rs _ (od.alloc _).rd pd.rd).mono ?_
    rintro e we ⟨rfl, be'⟩
    have Be : Hid (Below w.heap.size w we) := Bd.out.trans (be'.mono Bd.out.size)
    have ye := yd.below be' yd.lt
    have re := rd.below be'
    obtain ⟨zye, cye0, cye1, cye2, cye3⟩ := ye.four
    clear be' yd pd rd zxd cxd0 cxd1 cxd2 cxd3
    go_wp2_with fail
    refine (heldDatagramR_any _ _ _ _ _ _ 1 _ re.rd (by omega) (by omega)).mono ?_
    rintro e wf ⟨rfl, bf⟩
    have Bf : Hid (Below w.heap.size w wf) := Be.out.trans (bf.mono Be.out.size)
    clear bf
    go_wp2
    go_ret
    exact ⟨rfl, Bf.out⟩
  · go_enter Try.func7, Try.ntmps7
    go_wp2
    go_ret
    exact ⟨rfl, Below.refl _ _⟩
end Go.Proofs.Ytmcllaefjgdbeaa

namespace Go.Proofs.Ytmcllaefjgdbeaa
open Go.ChangeShapes Go.WideShapes Go.ChangeAt Go.RowKit

/-- a datagram's bytes, with a sum of 0 -/
def dgH (df dt : Int) (zs : List Int) : List Int := be df 2 ++ be dt 2 ++ be (8 + zs.length) 2 ++ [0, 0] ++ zs
theorem dgH_len (df dt : Int) (zs : List Int) : (dgH df dt zs).length = 8 + zs.length := by simp [dgH, be_len]; omega
/-- the sum that is told -/
def dgT (n : Int) : Int := if n = 0 then 65535 else n
theorem dgT_bd (n : Int) (h : 0 ≤ n ∧ n ≤ 65535) : 0 ≤ dgT n ∧ dgT n ≤ 65535 := by unfold dgT; split <;> omega
def dgL (f t df dt : Int) (zs : List Int) : List Int := ((dgH df dt zs).set 6 (dgT (dgSum f t 17 (dgH df dt zs)) / 256)).set 7 (dgT (dgSum f t 17 (dgH df dt zs)) % 256)
theorem dgL_len (f t df dt : Int) (zs : List Int) : (dgL f t df dt zs).length = 8 + zs.length := by simp [dgL, dgH_len]

set_option maxRecDepth 20000 in
set_option maxHeartbeats 2000000 in
theorem l4Pack_any (f t : Int) (b : Nat) (df dt : Int) (a : Option Addr) (len cap : Nat) (zs : List Int) (w : World) (hx : Box w b 25 #[.int .i64 df, .int .i64 dt, .slice a len cap]) (hr : Rd w a len cap zs)
    (h0 : 0 ≤ f ∧ f < 281474976710656) (h1 : 0 ≤ t ∧ t < 281474976710656) (h2 : 0 ≤ df ∧ df < 281474976710656) (h3 : 0 ≤ dt ∧ dt < 281474976710656) (hl : len ≤ 552) :
    Calls Try.prog 51 #[.int .i64 f, .int .i64 t, .pointer (some ⟨b, 0, none⟩)] w (FreshAny w (dgL f t df dt zs)) := by
  have K0 := Lib.hid (fun W => l1Pack_lit df 2 2 W rfl h2 (by omega))
  have K1 := Lib.hid (fun W => l1Pack_lit dt 2 2 W rfl h3 (by omega))
  have K2 := Lib.hid (fun W => l1Pack_lit (8 + len) 2 2 W rfl (by omega) (by omega))
  have X := Lib.hid hx
  have HR := Lib.hid hr
  have hlt := hx.lt
  obtain ⟨HH, hHH⟩ : ∃ HH, HH = dgH df dt zs := ⟨_, rfl⟩
  have HL : Hid (HH = be df 2 ++ be dt 2 ++ be (8 + len) 2 ++ [0, 0] ++ zs) := by rw [hHH, dgH, hr.length]; rfl
  have hhl : HH.length = 8 + len := by rw [hHH, dgH_len, hr.length]
  have KS := Lib.hid (fun (s : Option Addr) (l c : Nat) (W : World) (hR : Rd W s l c HH) => l4Sum_any f t 17 s l c HH W hR h0 h1 (by omega) (by have := hR.length; omega))
  have hsb := sumV_bd (pseudoL f t 17 HH.length ++ HH)
  obtain ⟨v, hv⟩ : ∃ v, v = dgSum f t 17 HH := ⟨_, rfl⟩
  have hvb : 0 ≤ v ∧ v ≤ 65535 := by rw [hv]; exact hsb
  have hE : dgL f t df dt zs = (HH.set 6 (dgT v / 256)).set 7 (dgT v % 256) := by rw [hv, hHH]; rfl
  rw [hE]
  rw [← hv] at KS
  have LB := Lib.hid (fun W => own_litB2 W W.heap.size 0 0 (by omega) (by omega) (Nat.le_refl _))
  clear h0 h1 h2 h3 hx hr hHH hE hsb hv
  have HHL := Lib.hid hhl
  clear hhl
  have hwr : IntKind.i64.wrap (8 + (len : Int)) = 8 + len := IntWalk.i64_in _ (by omega)
  obtain ⟨_, x0, x1, _⟩ := X.out.three
  go_enter Try.func51, Try.ntmps51
  go_wp2_with fail
  go_region_held3 (fun W => W.cell? ⟨b, 0, none⟩ = some (.int .i64 df) ∧ W.cell? ⟨b, 1, none⟩ = some (.int .i64 dt))
    (first | go_keep | (go_split_ands; exact ⟨keepB hb (by assumption) hlt, keepB hb (by assumption) hlt⟩))
    (first
      | (have q := P2; clear q; refine append_step _ rfl (.tmp 13) (.tmp 18) rfl w.heap.size _ _ _ _ rfl P2.out _ _ _ _ rfl r2.out B2.out.size (by omega) ?_; intro a3 c3 w3 o3 hb; have P3 := Lib.hid o3; have B3 := Lib.hid (B2.out.trans hb))
      | (have q := P1; clear q; go_at_call 76; refine (K1.out _).mono ?_; rintro e w2 ⟨rfl, o2, b2⟩; have P2 := Lib.hid (P1.out.below b2); have r2 := Lib.hid o2.rd; have hb := b2.mono B1.out.size; have B2 := Lib.hid (B1.out.trans hb))
      | (go_at_call 76; refine (K0.out _).mono ?_; rintro e w1 ⟨rfl, o1, b1⟩; have P1 := Lib.hid o1; have hb := b1; have B1 := Lib.hid ((Below.refl w.heap.size w).drew.trans hb)))
  clear o1 b1 o2 b2 hb P1 P2 r2 B1 B2 x0 x1 o3 K0 K1
  obtain ⟨_, _, _, x2⟩ := (X.out.below B3.out hlt).three
  go_wp2_with fail
  refine (K2.out _).mono ?_
  rintro e w4 ⟨rfl, o4, b4⟩
  have P4 := Lib.hid (P3.out.below b4)
  have r4 := Lib.hid o4.rd
  have B4 := Lib.hid (B3.out.trans (b4.mono B3.out.size))
  clear o4 b4 x2 P3 B3 K2
  go_wp2_with (first
    | (at_builtin; have q := P6; clear q; refine append_bytes _ rfl (.tmp 31) (.tmp 35) rfl w.heap.size _ _ _ _ rfl P6.out _ _ _ _ rfl (HR.out.below B6.out) B6.out.size (by omega) ?_; intro a7 c7 w7 o7 g7; have P7 := Lib.hid o7; have B7 := Lib.hid (B6.out.grown g7 B6.out.size (fun k e => own_blk P6.out k e)); clear o7 g7 P6 B6)
    | (at_builtin; have q := P5; clear q; refine append_bytes _ rfl (.tmp 28) (.tmp 29) rfl w.heap.size _ _ _ _ rfl P5.out _ _ _ _ rfl L5.out.rd B5.out.size (by omega) ?_; intro a6 c6 w6 o6 g6; have P6 := Lib.hid o6; have B6 := Lib.hid (B5.out.grown g6 B5.out.size (fun k e => own_blk P5.out k e)); have x2 : w6.cell? ⟨b, 2, none⟩ = some (.slice a len cap) := (X.out.below B6.out hlt).cell 2; clear o6 g6 P5 B5 L5)
    | (at_builtin; refine append_bytes _ rfl (.tmp 20) (.tmp 27) rfl w.heap.size _ _ _ _ rfl P4.out _ _ _ _ rfl r4.out B4.out.size (by omega) ?_; intro a5 c5 w5 o5 g5; have P5 := Lib.hid (o5.alloc (.cells #[.int .u8 0, .int .u8 0] 5)); have B5' := B4.out.grown g5 B4.out.size (fun k e => own_blk P4.out k e); have B5 := Lib.hid (B5'.alloc B5'.size (.cells #[.int .u8 0, .int .u8 0] 5)); have L5 := Lib.hid (LB.out w5); clear o5 g5 B5' P4 r4 B4))
  have O7 : Hid (Own w7 w.heap.size a7 (8 + len) c7 HH) := by rw [HL.out]; exact P7.out
  clear P7 x2
  refine (KS.out _ _ _ _ O7.out.rd).mono ?_
  rintro e w8 ⟨rfl, b8⟩
  have O8 := Lib.hid (O7.out.below b8)
  have B8 := Lib.hid (B7.out.trans (b8.mono B7.out.size))
  clear b8 O7 B7 KS
  rcases O8.out.shape with ⟨_, h0, _⟩ | ⟨g, rfl⟩
  · omega
  have gB := (O8.out.lt _ rfl).1
  dsimp only at gB
  obtain ⟨N, hN⟩ : ∃ N, N = 8 + len := ⟨_, rfl⟩
  rw [← hN] at O8 ⊢
  have i6 : (6 : Int) < N := by omega
  have i7 : (7 : Int) < N := by omega
  have j6 := O8.out.cellAt 6 (by omega)
  have f6 := O8.out.frozenAt 6
  clear hN
  by_cases hv0 : v = 0
  · subst hv0
    obtain ⟨o9, g9⟩ := O8.out.set 6 255 (by omega)
    have j7 := o9.cellAt 7 (by omega)
    have f7 := o9.frozenAt 7
    obtain ⟨o10, g10⟩ := o9.set 7 255 (by omega)
    have O10 : Hid (Own _ w.heap.size (some ⟨g, 0, none⟩) N c7 ((HH.set 6 (dgT 0 / 256)).set 7 (dgT 0 % 256))) := o10
    have B10 := Lib.hid (B8.out.grown (grown_trans g9 g10) B8.out.size (fun k e => by cases e; exact gB))
    clear o9 g9 o10 g10 O8 B8
    go_wp2
    go_ret
    exact ⟨_, _, _, rfl, O10.out, B10.out⟩
  · have e0 : (v == 0) = false := by simpa using hv0
    have hT : dgT v = v := by unfold dgT; rw [if_neg hv0]
    obtain ⟨o9, g9⟩ := O8.out.set 6 (v / 256) (by omega)
    have j7 := o9.cellAt 7 (by omega)
    have f7 := o9.frozenAt 7
    obtain ⟨o10, g10⟩ := o9.set 7 (v % 256) (by omega)
    have O10 : Hid (Own ((w8.setCell ⟨g, 6, none⟩ (.int .u8 (v / 256))).setCell ⟨g, 7, none⟩ (.int .u8 (v % 256))) w.heap.size (some ⟨g, 0, none⟩) N c7 ((HH.set 6 (dgT v / 256)).set 7 (dgT v % 256))) := by rw [hT]; exact o10
    have B10 := Lib.hid (B8.out.grown (grown_trans g9 g10) B8.out.size (fun k e => by cases e; exact gB))
    clear o9 g9 o10 g10 O8 B8 hT
    go_wp2
    go_ret
    exact ⟨_, _, _, rfl, O10.out, B10.out⟩

def pdC (f t df dt : Int) (n : Nat) : Int := if ipB f && ipB t then dgC df dt n else 3
def pdP (f t df dt : Int) (zs : List Int) : List Int := if pdC f t df dt zs.length = 0 then dgL f t df dt zs else []
theorem dgC_parts {df dt : Int} {n : Nat} (h : dgC df dt n = 0) : (1 ≤ df ∧ df ≤ 65535) ∧ (1 ≤ dt ∧ dt ≤ 65535) ∧ n ≤ 552 := by
  unfold dgC at h
  split at h
  · rename_i hk
    simp only [dgB, inB, Bool.and_eq_true, decide_eq_true_eq] at hk
    split at h
    · rename_i hn; exact ⟨hk.1, hk.2, hn⟩
    · omega
  · omega
theorem pdC_parts {f t df dt : Int} {n : Nat} (h : pdC f t df dt n = 0) : ipB f = true ∧ ipB t = true ∧ dgC df dt n = 0 := by
  unfold pdC at h
  split at h
  · rename_i hk
    simp only [Bool.and_eq_true] at hk
    exact ⟨hk.1, hk.2, h⟩
  · omega
theorem pdP_len (f t df dt : Int) (zs : List Int) : (pdP f t df dt zs).length ≤ 700 := by
  unfold pdP
  split
  · rename_i h
    obtain ⟨_, _, h'⟩ := pdC_parts h
    obtain ⟨_, _, hn⟩ := dgC_parts h'
    rw [dgL_len]; omega
  · exact Nat.zero_le _

set_option maxHeartbeats 2000000 in
theorem specPackDatagram (f t df dt : Int) (a : Option Addr) (len cap : Nat) (zs : List Int) (w : World) (hr : Rd w a len cap zs) :
    Calls Try.prog 17 #[.int .i64 f, .int .i64 t, .agg #[.int .i64 df, .int .i64 dt, .slice a len cap]] w (Packed w (pdC f t df dt zs.length) (pdP f t df dt zs)) := by
  have S := Lib.hid (fun W => specDatagramFault df dt a len cap W)
  have B0 := Lib.hid (((Below.refl w.heap.size w).alloc (Nat.le_refl _) (.cells #[.int .i64 df, .int .i64 dt, .slice a len cap] 25)).alloc (by simp) (.cells #[.int .i64 0, .slice none 0 0] 29))
  have X0 := Lib.hid ((Box.new w 25 #[.int .i64 df, .int .i64 dt, .slice a len cap]).alloc (.cells #[.int .i64 0, .slice none 0 0] 29))
  have R0 := Lib.hid (Box.new (w.alloc (.cells #[.int .i64 df, .int .i64 dt, .slice a len cap] 25)) 29 #[.int .i64 0, .slice none 0 0])
  simp only [World.size_alloc] at R0
  have hln := hr.length
  cases m0 : ipB f
  case' true => cases m1 : ipB t
  case' true.true => rcases Decidable.em (dgC df dt len = 0) with hk | hk
  case false =>
    have hc : pdC f t df dt zs.length = 3 := by simp [pdC, m0]
    have hp : pdP f t df dt zs = [] := by simp [pdP, hc]
    rw [hc, hp]
    clear hr hln hc hp S
    go_enter Try.func17, Try.ntmps17
    go_wp2_with (go_at_call 49; refine (l2Ip_any _ _).mono ?_; rintro e w' ⟨rfl, rfl⟩)
    exact bodyPost_ret (v := .agg #[.int .i64 3, .slice none 0 0]) (by simp [results, Try.results17, go_sem]) rfl ⟨none, 0, 0, rfl, Own.nil _ _, (((Below.refl _ _).alloc (Nat.le_refl _) _).alloc (by simp) _)⟩
  case true.false =>
    have hc : pdC f t df dt zs.length = 3 := by simp [pdC, m1]
    have hp : pdP f t df dt zs = [] := by simp [pdP, hc]
    rw [hc, hp]
    clear hr hln hc hp S
    go_enter Try.func17, Try.ntmps17
    go_wp2_with (go_at_call 49; refine (l2Ip_any _ _).mono ?_; rintro e w' ⟨rfl, rfl⟩)
    exact bodyPost_ret (v := .agg #[.int .i64 3, .slice none 0 0]) (by simp [results, Try.results17, go_sem]) rfl ⟨none, 0, 0, rfl, Own.nil _ _, (((Below.refl _ _).alloc (Nat.le_refl _) _).alloc (by simp) _)⟩
  case true.true.inr =>
    have hc : pdC f t df dt zs.length = dgC df dt len := by simp [pdC, m0, m1, hln]
    have hp : pdP f t df dt zs = [] := by unfold pdP; rw [hc, if_neg hk]
    have hne : (dgC df dt len != 0) = true := by simpa using hk
    rw [hc, hp]
    clear hr hln hc hp hk
    generalize dgC df dt len = c at *
    go_enter Try.func17, Try.ntmps17
    go_wp2_with (go_at_call 49; refine (l2Ip_any _ _).mono ?_; rintro e w' ⟨rfl, rfl⟩)
    refine (S.out _).mono ?_
    rintro e w1 ⟨rfl, b1⟩
    have R1 := R0.out.below b1 R0.out.lt
    obtain ⟨z2, r20, r21⟩ := R1.two
    have f0 := R1.frozen 0
    have f1 := R1.frozen 1
    have B1 := Lib.hid (B0.out.trans (b1.mono B0.out.size))
    clear b1 R0 B0 R1
    go_wp2
    exact bodyPost_ret (v := .agg #[.int .i64 c, .slice none 0 0]) (by simp [results, Try.results17, go_sem, r20, r21]) rfl ⟨none, 0, 0, rfl, Own.nil _ _, (B1.out.setCell (by simp) _).setCell (by simp) _⟩
  case true.true.inl =>
    have hc : pdC f t df dt zs.length = 0 := by simp [pdC, m0, m1, hln, hk]
    have hp : pdP f t df dt zs = dgL f t df dt zs := by unfold pdP; rw [if_pos hc]
    rw [hc, hp]
    rw [hk] at S
    obtain ⟨h2, h3, h4⟩ := dgC_parts hk
    have k0 := ipB_bd m0
    have k1 := ipB_bd m1
    have K := Lib.hid (fun W (hW : Below w.heap.size w W) (hX : Box W w.heap.size 25 #[.int .i64 df, .int .i64 dt, .slice a len cap]) => l4Pack_any f t w.heap.size df dt a len cap zs W hX (hr.below hW) (by omega) (by omega) (by omega) (by omega) h4)
    generalize dgL f t df dt zs = L at *
    clear hr hln hc hp hk h2 h3 h4 k0 k1
    go_enter Try.func17, Try.ntmps17
    go_wp2_with (go_at_call 49; refine (l2Ip_any _ _).mono ?_; rintro e w' ⟨rfl, rfl⟩)
    refine (S.out _).mono ?_
    rintro e w1 ⟨rfl, b1⟩
    have X1 := Lib.hid (X0.out.below b1 X0.out.lt)
    have R1 := Lib.hid (R0.out.below b1 R0.out.lt)
    have B1 := Lib.hid (B0.out.trans (b1.mono B0.out.size))
    clear b1 X0 R0 B0 S
    go_wp2_with fail
    refine (K.out _ B1.out X1.out).mono ?_
    rintro e w2 ⟨a2, l2, c2, rfl, o2, b2⟩
    have R2 := R1.out.below b2 R1.out.lt
    obtain ⟨z2, r20, r21⟩ := R2.two
    have f0 := R2.frozen 0
    have f1 := R2.frozen 1
    have B2 := Lib.hid (B1.out.trans (b2.mono B1.out.size))
    have O2 := Lib.hid (o2.rebase B1.out.size)
    have hx : Hid (∀ x, a2 = some x → ¬ x.block = w.heap.size + 1) := fun x hx e => by
      have := (o2.lt x hx).1
      have := R1.out.lt
      omega
    clear b2 o2 R2 R1 B1 X1 K
    go_wp2
    refine bodyPost_ret (v := .agg #[.int .i64 0, .slice a2 l2 c2]) (by simp [results, Try.results17, go_sem, r20, r21]) rfl ⟨_, _, _, rfl, ?_, (B2.out.setCell (by simp) _).setCell (by simp) _⟩
    exact (O2.out.setOther _ _ hx.out).setOther _ _ hx.out
end Go.Proofs.Ytmcllaefjgdbeaa

namespace Go.Proofs.Ytmcllaefjgdbeaa
open Go.ChangeShapes Go.WideShapes Go.ChangeAt Go.RowKit

theorem kCall {w0 W w' : World} {n : Nat} (hb : Below W.heap.size W w') (hn : n ≤ W.heap.size) (h : Hid (Below n w0 W)) : Hid (Below n w0 w') := h.out.trans (hb.mono hn)
theorem kAlloc {w0 W : World} {n : Nat} {o : Obj} (hn : n ≤ W.heap.size) (h : Hid (Below n w0 W)) : Hid (Below n w0 (W.alloc o)) := h.out.alloc hn o
theorem kDrew {w0 W : World} {n : Nat} (h : Hid (Below n w0 W)) : Hid (Below n w0 W.drew) := h.out.drew
theorem kSet {w0 W : World} {n : Nat} {p : Addr} {u : Value} (hp : n ≤ p.block) (h : Hid (Below n w0 W)) : Hid (Below n w0 (W.setCell p u)) := h.out.setCell hp u
theorem kGrown {w0 W w' : World} {b : Nat} (hg : W.grownBy w' (some b)) (h : Hid (Below w0.heap.size w0 W)) (hb : w0.heap.size ≤ b) : Hid (Below w0.heap.size w0 w') := h.out.grown hg h.out.size (fun k e => by cases e; exact hb)
theorem kSize {w0 W : World} (h : Hid (Below w0.heap.size w0 W)) : w0.heap.size ≤ W.heap.size := h.out.size

theorem want_none {o : Oper} {y : Nat → Option Bool} {A B : Prop} (h : o.guard = none) (hA : A) : if Region.wanted o y = true then A else B := by
  rw [if_pos (by simp [Region.wanted, h])]
  exact hA
end Go.Proofs.Ytmcllaefjgdbeaa

namespace Go.Proofs.Ytmcllaefjgdbeaa
open Go.ChangeShapes Go.WideShapes Go.ChangeAt Go.RowKit

section
variable {P : Program} {ops : Array Oper} {Q : Exit → Act → World → Prop} {md : Region.Mode} {S : World → Prop}

/-- every operation waits for earlier ones alone -/
def inOrder (ops : Array Oper) : Bool := (List.range ops.size).all fun i => match ops[i]? with
  | some o => o.after.all fun e => decide (e.on < i)
  | none => true

theorem all_listed (ho : inOrder ops = true) {listed : Array Bool} (hz : listed.size = ops.size) (hr : Region.ready md ops listed = []) : ∀ i, i < ops.size → listed.getD i false = true := by
  intro i
  induction i using Nat.strongRecOn with
  | ind i ih =>
    intro hi
    cases hl : listed.getD i false with
    | true => rfl
    | false =>
      exfalso
      have ho' := List.all_eq_true.1 ho i (List.mem_range.2 hi)
      rw [Array.getElem?_eq_getElem hi] at ho'
      have hm : i ∈ Region.ready md ops listed := by
        refine mem_ready.2 ⟨?_, ops[i], Array.getElem?_eq_getElem hi, fun e he _ => ?_⟩
        · rw [Array.getD_eq_getD_getElem?, Array.getElem?_eq_getElem (by omega)] at hl ⊢
          simpa using hl
        · have := Array.all_eq_true_iff_forall_mem.1 ho' e he
          have hlt := of_decide_eq_true this
          exact ih e.on hlt (by omega)
      rw [hr] at hm
      cases hm

theorem count_down {listed : Array Bool} {i : Nat} (h : listed.getD i true = false) : (listed.setIfInBounds i true).toList.count false + 1 = listed.toList.count false := by
  rw [Array.getD_eq_getD_getElem?] at h
  rcases Nat.lt_or_ge i listed.size with hi | hi
  · rw [Array.getElem?_eq_getElem hi] at h
    simp only [Option.getD_some] at h
    rw [Array.toList_setIfInBounds, List.count_set (by simpa using hi)]
    have e : listed.toList[i]'(by simpa using hi) = false := by simpa using h
    have hp : 0 < listed.toList.count false := List.count_pos_iff.2 (by rw [← e]; exact List.getElem_mem _)
    simp only [e, beq_self_eq_true, if_true]
    have : ((true : Bool) == false) = false := rfl
    simp only [this, Bool.false_eq_true, if_false]
    omega
  · rw [Array.getElem?_eq_none hi] at h
    cases h

theorem getD_unlisted {listed : Array Bool} {i : Nat} (h : listed.getD i true = false) : listed.getD i false = false := by
  rw [Array.getD_eq_getD_getElem?] at h ⊢
  cases hx : listed[i]? with
  | none => rfl
  | some b => rw [hx] at h; simpa using h
/-- what is asked of the operation number i: from what holds when it comes up, what holds behind it -/
def FlowAt (P : Program) (md : Region.Mode) (ops : Array Oper) (Q : Exit → Act → World → Prop) (S : World → Prop) (Inv : Array Bool → Act → World → Prop) (i : Nat) : Prop :=
  ∀ o, ops[i]? = some o → ∀ listed a w, Inv listed a w → listed.getD i true = false → (∀ e ∈ o.after, Region.binds md e = true → listed.getD e.on false = true) →
    ∀ K' : Act → World → Prop, Shut (∀ a w, S w → Inv (listed.setIfInBounds i true) a w → K' a w) → if Region.wanted o (yielded ops a.tmps) = true then Oper.wp P o a w K' Q else K' (a.put o.dst undef) w
def FlowAll (P : Program) (md : Region.Mode) (ops : Array Oper) (Q : Exit → Act → World → Prop) (S : World → Prop) (Inv : Array Bool → Act → World → Prop) (l : List Nat) : Prop := ∀ i ∈ l, FlowAt P md ops Q S Inv i
theorem FlowAll.nil {Inv : Array Bool → Act → World → Prop} : FlowAll P md ops Q S Inv [] := fun _ h => by cases h
theorem FlowAll.cons {Inv : Array Bool → Act → World → Prop} {i : Nat} {l : List Nat} {o : Oper} (D : List Nat) (ho : ops[i]? = some o) (hD : (D.all fun d => o.after.any fun e => Region.binds md e && e.on == d) = true)
    (h : ∀ listed a w, Inv listed a w → listed.getD i true = false → (∀ d ∈ D, listed.getD d false = true) → ∀ K' : Act → World → Prop, Shut (∀ a w, S w → Inv (listed.setIfInBounds i true) a w → K' a w) → if Region.wanted o (yielded ops a.tmps) = true then Oper.wp P o a w K' Q else K' (a.put o.dst undef) w)
    (hs : FlowAll P md ops Q S Inv l) : FlowAll P md ops Q S Inv (i :: l) := by
  intro j hj
  rcases List.mem_cons.1 hj with rfl | hj
  · intro o' ho' listed a w hI hu hd K' hK
    rw [ho] at ho'
    obtain rfl := Option.some.inj ho'
    refine h listed a w hI hu (fun d hdD => ?_) K' hK
    have h1 := List.all_eq_true.1 hD d hdD
    obtain ⟨k, hk, h2⟩ := Array.any_eq_true.1 h1
    obtain ⟨e, hee⟩ : ∃ e, e = o.after[k] := ⟨_, rfl⟩
    have he : e ∈ o.after := by rw [hee]; exact Array.getElem_mem _
    rw [← hee] at h2
    simp only [Bool.and_eq_true, beq_iff_eq] at h2
    have := hd e he h2.1
    rwa [h2.2] at this
  · exact hs j hj

theorem wpAnyH_flow {Inv : Array Bool → Act → World → Prop} (todo : List Nat) (hord : inOrder ops = true) (steps : FlowAll P md ops Q S Inv todo)
    (done : ∀ listed a w, Inv listed a w → (∀ i, i < ops.size → listed.getD i false = true) → Q .normal a w) :
    ∀ (fuel : Nat) (listed : Array Bool) (a : Act) (w : World), listed.size = ops.size → listed.toList.count false ≤ fuel → (∀ i, i < ops.size → listed.getD i false = true ∨ i ∈ todo) → Inv listed a w → wpAnyH P md ops Q S fuel listed a w := by
  intro fuel
  induction fuel with
  | zero =>
    intro listed a w hz hc ht hI
    have hr : Region.ready md ops listed = [] := by
      rw [List.eq_nil_iff_forall_not_mem]
      intro i hi
      have := count_down (mem_ready.1 hi).1
      omega
    exact ⟨hr, done listed a w hI (all_listed hord hz hr)⟩
  | succ fuel ih =>
    intro listed a w hz hc ht hI
    refine ⟨fun hr => done listed a w hI (all_listed hord hz hr), fun i hi => ?_⟩
    obtain ⟨hun, o, ho, hall⟩ := mem_ready.1 hi
    have hin : i ∈ todo := by
      rcases ht i (Array.getElem?_eq_some_iff.1 ho).1 with h | h
      · rw [Array.getD_eq_getD_getElem?] at h hun
        cases hx : listed[i]? with
        | none => rw [hx] at h; cases h
        | some b => rw [hx] at h hun; simp at h hun; rw [h] at hun; cases hun
      · exact h
    refine wpOp_step ho (fun K' hK => steps i hin o ho listed a w hI hun hall K' (fun a' w' hS hI' => hK a' w' ⟨hS, ih _ _ _ (by simpa using hz) ?_ (fun j hj => ?_) hI'⟩))
    · have := count_down hun
      omega
    · rcases ht j hj with h | h
      · exact .inl (getD_set_true h)
      · exact .inr h
theorem flow_go {Inv : Array Bool → Act → World → Prop} (todo : List Nat) (hord : inOrder ops = true) {fuel : Nat} {listed : Array Bool} {a : Act} {w : World}
    (hz : (decide (listed.size = ops.size) && decide (listed.toList.count false ≤ fuel) && (List.range ops.size).all fun i => listed.getD i false || todo.contains i) = true)
    (hI : Inv listed a w) (steps : FlowAll P md ops Q S Inv todo)
    (done : ∀ listed a w, Inv listed a w → (∀ i, i < ops.size → listed.getD i false = true) → Q .normal a w) : wpAnyH P md ops Q S fuel listed a w := by
  simp only [Bool.and_eq_true, decide_eq_true_eq, List.all_eq_true, List.mem_range, Bool.or_eq_true, List.contains_iff_mem] at hz
  exact wpAnyH_flow todo hord steps done fuel listed a w hz.1.1 hz.1.2 hz.2 hI
end

/-- it holds once the operation has come up -/
def Fl (listed : Array Bool) (j : Nat) (p : Prop) : Prop := listed.getD j false = true → p
theorem Fl.get {listed : Array Bool} {j : Nat} {p : Prop} (h : Fl listed j p) (hl : listed.getD j false = true) : p := h hl
theorem Fl.new {listed : Array Bool} {j : Nat} {p : Prop} (h : p) : Fl listed j p := fun _ => h
theorem Fl.keep {listed : Array Bool} {i j : Nat} {p q : Prop} (hij : i ≠ j) (hpq : p → q) (h : Fl listed j p) : Fl (listed.setIfInBounds i true) j q := fun hl => hpq (h (by rwa [getD_set_ne false hij] at hl))
/-- it holds till the operation comes up -/
def NFl (listed : Array Bool) (j : Nat) (p : Prop) : Prop := listed.getD j false = false → p
theorem NFl.get {listed : Array Bool} {j : Nat} {p : Prop} (h : NFl listed j p) (hl : listed.getD j true = false) : p := h (getD_unlisted hl)
theorem NFl.new {listed : Array Bool} {j : Nat} {p : Prop} (h : p) : NFl listed j p := fun _ => h
theorem NFl.keep {listed : Array Bool} {i j : Nat} {p q : Prop} (hij : i ≠ j) (hpq : p → q) (h : NFl listed j p) : NFl (listed.setIfInBounds i true) j q := fun hl => hpq (h (by rwa [getD_set_ne false hij] at hl))
theorem NFl.past {listed : Array Bool} {j : Nat} {p : Prop} (hu : listed.getD j true = false) : NFl (listed.setIfInBounds j true) j p := fun hl => by
  have hj : j < listed.size := by
    rw [Array.getD_eq_getD_getElem?] at hu
    cases hx : listed[j]? with
    | none => rw [hx] at hu; cases hu
    | some b => exact (Array.getElem?_eq_some_iff.1 hx).1
  rw [Array.getD_eq_getD_getElem?, Array.getElem?_setIfInBounds_self_of_lt hj] at hl
  cases hl
theorem Fl.not {listed : Array Bool} {j : Nat} {p : Prop} (h : listed.getD j false = false) : Fl listed j p := fun hl => by rw [h] at hl; cases hl

/-- a slice of L bytes zs in an array of its own -/
def SlV (W : World) (n0 : Nat) (v : Value) (L : Nat) (zs : List Int) : Prop := ∃ a c, v = .slice a L c ∧ Own W n0 a L c zs
/-- such a one, without a code -/
def BrV (W : World) (n0 : Nat) (v : Value) (L : Nat) (zs : List Int) : Prop := ∃ a c, v = .agg #[.int .i64 0, .slice a L c] ∧ Own W n0 a L c zs
theorem SlV.below {W W' : World} {n0 L : Nat} {v : Value} {zs : List Int} (hb : Below W.heap.size W W') (h : SlV W n0 v L zs) : SlV W' n0 v L zs := by
  obtain ⟨a, c, e, o⟩ := h
  exact ⟨a, c, e, o.below hb⟩
theorem BrV.below {W W' : World} {n0 L : Nat} {v : Value} {zs : List Int} (hb : Below W.heap.size W W') (h : BrV W n0 v L zs) : BrV W' n0 v L zs := by
  obtain ⟨a, c, e, o⟩ := h
  exact ⟨a, c, e, o.below hb⟩
theorem BrV.of_packed {W W' : World} {n0 L : Nat} {zs : List Int} {e : Ending} (h : Packed W 0 zs e W') (hL : zs.length = L) (hn : n0 ≤ W.heap.size) : ∃ v, e = .returned v ∧ BrV W' n0 v L zs ∧ Below W.heap.size W W' := by
  obtain ⟨a, l, c, rfl, o, b⟩ := h
  obtain rfl : l = L := o.length.symm.trans hL
  exact ⟨_, rfl, ⟨a, c, rfl, o.rebase hn⟩, b⟩
/-- slices of bytes, one behind the other, in one array: n of them, zs in all -/
def CatV (W : World) (v : Value) (n : Nat) (zs : List Int) : Prop := ∃ g ss, v = .slice (some ⟨g, 0, none⟩) n n ∧ ss.length = n ∧ Sls W g ss ∧ catZ ss = zs ∧ sumN ss ≤ 1048576
theorem Sls.below {W W' : World} {g : Nat} {ss : List Sl} (hb : Below W.heap.size W W') (h : Sls W g ss) : Sls W' g ss := fun i s hs => ⟨keepB' hb (h i s hs).1, (h i s hs).2.below hb⟩
theorem CatV.below {W W' : World} {n : Nat} {v : Value} {zs : List Int} (hb : Below W.heap.size W W') (h : CatV W v n zs) : CatV W' v n zs := by
  obtain ⟨g, ss, e, l, s, z, m⟩ := h
  exact ⟨g, ss, e, l, s.below hb, z, m⟩
theorem sls_box {W : World} {g : Nat} {t : TypeId} {ss : List Sl} (hx : Box W g t (ss.map fun s => Value.slice s.a s.len s.cap).toArray) (h : ∀ s ∈ ss, Rd W s.a s.len s.cap s.zs) : Sls W g ss := by
  intro i s hs
  refine ⟨(hx.cell i).trans ?_, h s (List.mem_of_getElem? hs)⟩
  simp [hs]
theorem Own.keepOff {W W' : World} {n0 r L c : Nat} {a : Option Addr} {zs : List Int} (hg : W.grownBy W' (some r)) (hrn : r < n0) (o : Own W n0 a L c zs) : Own W' n0 a L c zs :=
  o.grown hg (fun x hx e => by have := (o.lt x hx).1; simp only [Option.some.injEq] at e; omega)
theorem SlV.grown {W W' : World} {n0 r L : Nat} {v : Value} {zs : List Int} (hg : W.grownBy W' (some r)) (hrn : r < n0) (h : SlV W n0 v L zs) : SlV W' n0 v L zs := by
  obtain ⟨a, c, e, o⟩ := h
  exact ⟨a, c, e, o.keepOff hg hrn⟩
theorem BrV.grown {W W' : World} {n0 r L : Nat} {v : Value} {zs : List Int} (hg : W.grownBy W' (some r)) (hrn : r < n0) (h : BrV W n0 v L zs) : BrV W' n0 v L zs := by
  obtain ⟨a, c, e, o⟩ := h
  exact ⟨a, c, e, o.keepOff hg hrn⟩
/-- a slice of bytes zs in an array of its own, of whatever length -/
def AnyV (W : World) (n0 : Nat) (v : Value) (zs : List Int) : Prop := ∃ a l c, v = .slice a l c ∧ Own W n0 a l c zs
theorem AnyV.below {W W' : World} {n0 : Nat} {v : Value} {zs : List Int} (hb : Below W.heap.size W W') (h : AnyV W n0 v zs) : AnyV W' n0 v zs := by
  obtain ⟨a, l, c, e, o⟩ := h
  exact ⟨a, l, c, e, o.below hb⟩
theorem AnyV.grown {W W' : World} {n0 r : Nat} {v : Value} {zs : List Int} (hg : W.grownBy W' (some r)) (hrn : r < n0) (h : AnyV W n0 v zs) : AnyV W' n0 v zs := by
  obtain ⟨a, l, c, e, o⟩ := h
  exact ⟨a, l, c, e, o.keepOff hg hrn⟩
/-- a struct of these cells, behind them a slice of L bytes zs in an array of its own -/
def AgV (W : World) (n0 : Nat) (v : Value) (cs : Array Value) (L : Nat) (zs : List Int) : Prop := ∃ a c, v = .agg (cs ++ #[.slice a L c]) ∧ Own W n0 a L c zs
theorem AgV.below {W W' : World} {n0 L : Nat} {v : Value} {cs : Array Value} {zs : List Int} (hb : Below W.heap.size W W') (h : AgV W n0 v cs L zs) : AgV W' n0 v cs L zs := by
  obtain ⟨a, c, e, o⟩ := h
  exact ⟨a, c, e, o.below hb⟩
theorem AgV.grown {W W' : World} {n0 r L : Nat} {v : Value} {cs : Array Value} {zs : List Int} (hg : W.grownBy W' (some r)) (hrn : r < n0) (h : AgV W n0 v cs L zs) : AgV W' n0 v cs L zs := by
  obtain ⟨a, c, e, o⟩ := h
  exact ⟨a, c, e, o.keepOff hg hrn⟩
/-- such a struct in the block r -/
def BxV (W : World) (n0 r : Nat) (t : TypeId) (cs : Array Value) (L : Nat) (zs : List Int) : Prop := ∃ a c, Box W r t (cs ++ #[.slice a L c]) ∧ Own W n0 a L c zs
theorem BxV.below {W W' : World} {n0 r L : Nat} {t : TypeId} {cs : Array Value} {zs : List Int} (hb : Below W.heap.size W W') (h : BxV W n0 r t cs L zs) : BxV W' n0 r t cs L zs := by
  obtain ⟨a, c, x, o⟩ := h
  exact ⟨a, c, x.below hb x.lt, o.below hb⟩
/-- it is this value -/
structure EqV (v x : Value) : Prop where
  eq : v = x
theorem EqV.rfl (x : Value) : EqV x x := ⟨Eq.refl x⟩
theorem keepE {W W' : World} {p : Prop} (_ : Below W.heap.size W W') (h : p) : p := h
theorem kGrownB {w0 W w' : World} {b : Nat} (hg : W.grownBy w' (some b)) (h : Hid (Below w0.heap.size w0 W)) (hb : w0.heap.size ≤ b) : Hid (Below w0.heap.size w0 w') := kGrown hg h hb
theorem Own.ne_box {W : World} {base l c g : Nat} {x : Addr} {zs : List Int} {t : TypeId} {vs : Array Value} (h : Own W base (some x) l c zs) (hx : Box W g t vs) (ht : t ≠ 5) : x.block ≠ g := by
  rintro rfl
  rcases h.shape with ⟨e, _⟩ | ⟨k, e⟩
  · cases e
  · cases e
    obtain ⟨cur, hc, _⟩ := h.block
    rw [Box] at hx
    rw [hx] at hc
    simp only [Option.some.injEq, Obj.cells.injEq] at hc
    exact ht hc.2.1
/-- a block of its own, of k cells -/
def AlV (W : World) (base : Nat) (v : Value) (t : TypeId) (k : Nat) : Prop := ∃ g vs, v = .pointer (some ⟨g, 0, none⟩) ∧ base ≤ g ∧ Box W g t vs ∧ vs.size = k
theorem AlV.below {W W' : World} {base k : Nat} {v : Value} {t : TypeId} (hb : Below W.heap.size W W') (h : AlV W base v t k) : AlV W' base v t k := by
  obtain ⟨g, vs, e, hg, x, s⟩ := h
  exact ⟨g, vs, e, hg, x.below hb x.lt, s⟩
theorem AlV.new {W : World} {base k : Nat} {t : TypeId} {vs : Array Value} (hb : base ≤ W.heap.size) (hs : vs.size = k) : AlV (W.alloc (.cells vs t)) base (.pointer (some ⟨W.heap.size, 0, none⟩)) t k := ⟨_, vs, rfl, hb, Box.new W t vs, hs⟩
/-- that block holds these cells, and behind them a slice of L bytes zs in an array of its own -/
def StV (W : World) (n0 base : Nat) (v : Value) (t : TypeId) (cs : Array Value) (L : Nat) (zs : List Int) : Prop := ∃ g a c, v = .pointer (some ⟨g, 0, none⟩) ∧ base ≤ g ∧ Box W g t (cs ++ #[.slice a L c]) ∧ Own W n0 a L c zs
theorem StV.below {W W' : World} {n0 base L : Nat} {v : Value} {t : TypeId} {cs : Array Value} {zs : List Int} (hb : Below W.heap.size W W') (h : StV W n0 base v t cs L zs) : StV W' n0 base v t cs L zs := by
  obtain ⟨g, a, c, e, hg, x, o⟩ := h
  exact ⟨g, a, c, e, hg, x.below hb x.lt, o.below hb⟩
theorem Own.offBox {W W' : World} {n0 L c g : Nat} {a : Option Addr} {zs : List Int} {t : TypeId} {vs : Array Value} (hx : Box W g t vs) (ht : t ≠ 5) (hg : W.grownBy W' (some g)) (o : Own W n0 a L c zs) : Own W' n0 a L c zs :=
  o.grown hg (fun x hx' e => by subst hx'; simp only [Option.some.injEq] at e; exact o.ne_box hx ht e)
theorem SlV.off {W W' : World} {n0 g L : Nat} {v : Value} {zs : List Int} {t : TypeId} {vs : Array Value} (hx : Box W g t vs) (ht : t ≠ 5) (hg : W.grownBy W' (some g)) (h : SlV W n0 v L zs) : SlV W' n0 v L zs := by
  obtain ⟨a, c, e, o⟩ := h
  exact ⟨a, c, e, o.offBox hx ht hg⟩
theorem AgV.off {W W' : World} {n0 g L : Nat} {v : Value} {cs : Array Value} {zs : List Int} {t : TypeId} {vs : Array Value} (hx : Box W g t vs) (ht : t ≠ 5) (hg : W.grownBy W' (some g)) (h : AgV W n0 v cs L zs) : AgV W' n0 v cs L zs := by
  obtain ⟨a, c, e, o⟩ := h
  exact ⟨a, c, e, o.offBox hx ht hg⟩
theorem bAlloc (W : World) (o : Obj) : Below W.heap.size W (W.alloc o) := (Below.refl _ _).alloc (Nat.le_refl _) o
theorem SlV.lit {W : World} {n0 : Nat} {zs : List Int} (hn : n0 ≤ W.heap.size) (L : Nat) (hL : zs.length = L) (h8 : B8 zs) (hm : L ≤ maxLen) (xs : Array Value) (hx : xs = (zs.map (Value.int .u8)).toArray) : SlV (W.alloc (.cells xs 5)) n0 (.slice (some ⟨W.heap.size, 0, none⟩) L L) L zs := by
  subst hx
  refine ⟨_, _, rfl, ?_, h8⟩
  have h := World.ownsRow_lit (e := 5) (size := 1) W (zs.map (Value.int .u8)).toArray L hn hm (by simp [hL])
  simpa using h
theorem catV_call {W : World} {g n : Nat} {ss : List Sl} {zs : List Int} (hs : ss.length = n) (hS : Sls W g ss) (hZ : catZ ss = zs) (hT : sumN ss ≤ 1048576) (hn : n ≤ 1000 := by omega) :
    Calls Try.prog 59 #[.slice (some ⟨g, 0, none⟩) n n] W (FreshA W zs) := by
  subst hs hZ
  exact concat_any g ss W hS hn hT
end Go.Proofs.Ytmcllaefjgdbeaa

namespace Go.Proofs.Ytmcllaefjgdbeaa
open Go.ChangeShapes Go.WideShapes Go.ChangeAt Go.RowKit

def dlOk (n : Nat) : Bool := decide (8 ≤ n ∧ n ≤ 560)
theorem l1Read_lit' (a : Option Addr) (len cap A S : Nat) (x y : Int) (zs : List Int) (w : World) (h : Rd w a len cap zs) (hx : (A : Int) = x) (hy : (S : Int) = y) (hS2 : S ≤ 6) (hA : A + S ≤ len) :
    Calls Try.prog 62 #[.slice a len cap, .int .i64 x, .int .i64 y] w fun e w' => e = .returned (.int .i64 (rdTo zs A S)) ∧ w = w' := by
  subst hx hy
  exact l1Read_any a len cap A S zs w h hS2 hA
theorem specReadDatagram_ip (f t : Int) (a : Option Addr) (len cap : Nat) (w : World) (h : (ipB f && ipB t) = false) :
    Calls Try.prog 18 #[.int .i64 f, .int .i64 t, .slice a len cap] w (DatagramRes w 3 0 0 []) := by
  cases m0 : ipB f
  case' true => cases m1 : ipB t
  case' true.true => exact absurd h (by simp [m0, m1])
  all_goals
    clear h
    go_enter Try.func18, Try.ntmps18
    go_wp2_with (first | (go_at_call 49; refine (l2Ip_any _ _).mono ?_; rintro e w' ⟨rfl, rfl⟩))
    exact bodyPost_ret (v := .agg #[.int .i64 3, .int .i64 0, .int .i64 0, .slice none 0 0]) (by simp [results, Try.results18, go_sem]) rfl ⟨none, 0, 0, rfl, Own.nil _ _, (Below.refl _ _).alloc (Nat.le_refl _) _⟩
theorem specReadDatagram_len (f t : Int) (a : Option Addr) (len cap : Nat) (w : World) (m0 : ipB f = true) (m1 : ipB t = true) (h : dlOk len = false) :
    Calls Try.prog 18 #[.int .i64 f, .int .i64 t, .slice a len cap] w (DatagramRes w 2 0 0 []) := by
  simp only [dlOk, decide_eq_false_iff_not] at h
  by_cases h1 : 8 ≤ len
  · have h2 : ¬ len ≤ 560 := fun h2 => h ⟨h1, h2⟩
    have e1 : decide ((len : Int) < 8) = false := decide_eq_false (by omega)
    have e2 : decide ((560 : Int) < len) = true := decide_eq_true (by omega)
    clear h h1 h2
    go_enter Try.func18, Try.ntmps18
    go_wp2_with (first | (go_at_call 49; refine (l2Ip_any _ _).mono ?_; rintro e w' ⟨rfl, rfl⟩))
    exact bodyPost_ret (v := .agg #[.int .i64 2, .int .i64 0, .int .i64 0, .slice none 0 0]) (by simp [results, Try.results18, go_sem]) rfl ⟨none, 0, 0, rfl, Own.nil _ _, (Below.refl _ _).alloc (Nat.le_refl _) _⟩
  · have e1 : decide ((len : Int) < 8) = true := decide_eq_true (by omega)
    clear h h1
    go_enter Try.func18, Try.ntmps18
    go_wp2_with (first | (go_at_call 49; refine (l2Ip_any _ _).mono ?_; rintro e w' ⟨rfl, rfl⟩))
    exact bodyPost_ret (v := .agg #[.int .i64 2, .int .i64 0, .int .i64 0, .slice none 0 0]) (by simp [results, Try.results18, go_sem]) rfl ⟨none, 0, 0, rfl, Own.nil _ _, (Below.refl _ _).alloc (Nat.le_refl _) _⟩
set_option maxHeartbeats 2000000 in
theorem specReadDatagram_form (f t : Int) (a : Option Addr) (len cap : Nat) (zs : List Int) (w : World) (hr : Rd w a len cap zs) (m0 : ipB f = true) (m1 : ipB t = true) (h1 : 8 ≤ len) (h2 : len ≤ 560) (hf : (rdTo zs 4 2 != (len : Int)) = true) :
    Calls Try.prog 18 #[.int .i64 f, .int .i64 t, .slice a len cap] w (DatagramRes w 1 0 0 []) := by
  have hle := hr.le
  have hmx := hr.max
  rcases hr.cells with h0 | ⟨ba, off, rfl, hc⟩
  · omega
  have d1 : decide ((len : Int) < 8) = false := decide_eq_false (by omega)
  have d2 : decide ((560 : Int) < len) = false := decide_eq_false (by omega)
  have i8l : (8 : Int) ≤ len := by omega
  have k0 := ipB_bd m0
  have k1 := ipB_bd m1
  have K4 := Lib.hid (fun W (hW : Below w.heap.size w W) => l1Read_lit' _ len cap 4 2 4 2 zs W (hr.below hW) rfl rfl (by omega) (by omega))
  have K6 := Lib.hid (fun W (hW : Below w.heap.size w W) => l1Read_lit' _ len cap 6 2 6 2 zs W (hr.below hW) rfl rfl (by omega) (by omega))
  have KS := Lib.hid (fun W (hW : Below w.heap.size w W) => l4Sum_any f t 17 _ len cap zs W (hr.below hW) (by omega) (by omega) (by omega) (by omega))
  have B0 := Lib.hid ((Below.refl w.heap.size w).alloc (Nat.le_refl _) (.cells #[.int .i64 0, .int .i64 0, .int .i64 0, .slice none 0 0] 34))
  have X0 := Lib.hid (Box.new w 34 #[.int .i64 0, .int .i64 0, .int .i64 0, .slice none 0 0])
  obtain ⟨n, hn⟩ : ∃ n, rdTo zs 4 2 = n := ⟨_, rfl⟩
  obtain ⟨s, hs⟩ : ∃ s, rdTo zs 6 2 = s := ⟨_, rfl⟩
  obtain ⟨v, hv⟩ : ∃ v, dgSum f t 17 zs = v := ⟨_, rfl⟩
  rw [hn] at K4 hf
  clear hr hc k0 k1 hn hs hv
  go_enter Try.func18, Try.ntmps18
  go_wp2_with (first | (go_at_call 49; refine (l2Ip_any _ _).mono ?_; rintro e w' ⟨rfl, rfl⟩))
  refine (K4.out _ B0.out).mono ?_
  rintro e w' ⟨rfl, rfl⟩
  go_wp2
  exact bodyPost_ret (v := .agg #[.int .i64 1, .int .i64 0, .int .i64 0, .slice none 0 0]) (by simp [results, Try.results18, go_sem]) rfl ⟨none, 0, 0, rfl, Own.nil _ _, (Below.refl _ _).alloc (Nat.le_refl _) _⟩
set_option maxRecDepth 20000 in
set_option maxHeartbeats 2000000 in
theorem specReadDatagram_sum (f t : Int) (a : Option Addr) (len cap : Nat) (zs : List Int) (w : World) (hr : Rd w a len cap zs) (m0 : ipB f = true) (m1 : ipB t = true) (h1 : 8 ≤ len) (h2 : len ≤ 560) (hf : (rdTo zs 4 2 != (len : Int)) = false) (hz : (rdTo zs 6 2 != 0) = true) (hs' : (dgSum f t 17 zs != 0) = true) :
    Calls Try.prog 18 #[.int .i64 f, .int .i64 t, .slice a len cap] w (DatagramRes w 6 0 0 []) := by
  have hle := hr.le
  have hmx := hr.max
  rcases hr.cells with h0 | ⟨ba, off, rfl, hc⟩
  · omega
  have d1 : decide ((len : Int) < 8) = false := decide_eq_false (by omega)
  have d2 : decide ((560 : Int) < len) = false := decide_eq_false (by omega)
  have i8l : (8 : Int) ≤ len := by omega
  have k0 := ipB_bd m0
  have k1 := ipB_bd m1
  have K4 := Lib.hid (fun W (hW : Below w.heap.size w W) => l1Read_lit' _ len cap 4 2 4 2 zs W (hr.below hW) rfl rfl (by omega) (by omega))
  have K6 := Lib.hid (fun W (hW : Below w.heap.size w W) => l1Read_lit' _ len cap 6 2 6 2 zs W (hr.below hW) rfl rfl (by omega) (by omega))
  have KS := Lib.hid (fun W (hW : Below w.heap.size w W) => l4Sum_any f t 17 _ len cap zs W (hr.below hW) (by omega) (by omega) (by omega) (by omega))
  have B0 := Lib.hid ((Below.refl w.heap.size w).alloc (Nat.le_refl _) (.cells #[.int .i64 0, .int .i64 0, .int .i64 0, .slice none 0 0] 34))
  have X0 := Lib.hid (Box.new w 34 #[.int .i64 0, .int .i64 0, .int .i64 0, .slice none 0 0])
  obtain ⟨n, hn⟩ : ∃ n, rdTo zs 4 2 = n := ⟨_, rfl⟩
  obtain ⟨s, hs⟩ : ∃ s, rdTo zs 6 2 = s := ⟨_, rfl⟩
  obtain ⟨v, hv⟩ : ∃ v, dgSum f t 17 zs = v := ⟨_, rfl⟩
  rw [hn] at K4 hf
  rw [hs] at K6 hz
  rw [hv] at KS hs'
  clear hr hc k0 k1 hn hs hv
  go_enter Try.func18, Try.ntmps18
  go_wp2_with (first | (go_at_call 49; refine (l2Ip_any _ _).mono ?_; rintro e w' ⟨rfl, rfl⟩))
  refine (K4.out _ B0.out).mono ?_
  rintro e w' ⟨rfl, rfl⟩
  go_wp2_with fail
  refine (K6.out _ B0.out).mono ?_
  rintro e w' ⟨rfl, rfl⟩
  go_wp2_with fail
  refine (KS.out _ B0.out).mono ?_
  rintro e w1 ⟨rfl, b1⟩
  have R1 := X0.out.below b1 X0.out.lt
  obtain ⟨_, r0, r1, r2, r3⟩ := R1.four
  have f0 := R1.frozen 0
  have f1 := R1.frozen 1
  have f2 := R1.frozen 2
  have f3 := R1.frozen 3
  have B1 := Lib.hid (B0.out.trans (b1.mono B0.out.size))
  clear b1 R1 X0 B0
  go_wp2
  exact bodyPost_ret (v := .agg #[.int .i64 6, .int .i64 0, .int .i64 0, .slice none 0 0]) (by simp [results, Try.results18, go_sem, r0, r1, r2, r3]) rfl ⟨none, 0, 0, rfl, Own.nil _ _, (((B1.out.setCell (Nat.le_refl _) _).setCell (Nat.le_refl _) _).setCell (Nat.le_refl _) _).setCell (Nat.le_refl _) _⟩
/-- what is answered behind the fault of what was read -/
def RdOr (w : World) (c m1 m2 : Int) (ys : List Int) (e : Ending) (w' : World) : Prop := (c = 0 → DatagramRes w 0 m1 m2 ys e w') ∧ (c ≠ 0 → DatagramRes w 3 0 0 [] e w')
theorem rd_tail8' {W : World} {ba off : Nat} {zs : List Int} (h : Rd W (some ⟨ba, off, none⟩) 8 8 zs) : Rd W (some ⟨ba, off, none⟩) 0 0 (zs.drop 8) := by
  have := h.fromIf 8 (by omega)
  simpa using this

set_option maxRecDepth 20000 in
set_option maxHeartbeats 4000000 in
theorem specReadDatagram_ok1 (f t : Int) (a : Option Addr) (len cap : Nat) (zs : List Int) (w : World) (hr : Rd w a len cap zs) (m0 : ipB f = true) (m1 : ipB t = true) (h1 : 8 ≤ len) (h2 : len ≤ 560) (hcap : ¬ cap = 8) (hf : (rdTo zs 4 2 != (len : Int)) = false) (hq : (rdTo zs 6 2 != 0) = false ∨ (rdTo zs 6 2 != 0) = true ∧ (dgSum f t 17 zs != 0) = false) (c m1' m2' : Int) (ys : List Int) (hm1 : rdTo zs 0 2 = m1') (hm2 : rdTo zs 2 2 = m2') (hys : zs.drop 8 = ys) (hC : dgC m1' m2' (len - 8) = c) :
    Calls Try.prog 18 #[.int .i64 f, .int .i64 t, .slice a len cap] w (RdOr w c m1' m2' ys) := by
  have hle := hr.le
  have hmx := hr.max
  rcases hr.cells with h0 | ⟨ba, off, rfl, hc⟩
  · omega
  have d1 : decide ((len : Int) < 8) = false := decide_eq_false (by omega)
  have d2 : decide ((560 : Int) < len) = false := decide_eq_false (by omega)
  have i8l : (8 : Int) ≤ len := by omega
  have k0 := ipB_bd m0
  have k1 := ipB_bd m1
  have K4 := Lib.hid (fun W (hW : Below w.heap.size w W) => l1Read_lit' _ len cap 4 2 4 2 zs W (hr.below hW) rfl rfl (by omega) (by omega))
  have K6 := Lib.hid (fun W (hW : Below w.heap.size w W) => l1Read_lit' _ len cap 6 2 6 2 zs W (hr.below hW) rfl rfl (by omega) (by omega))
  have KS := Lib.hid (fun W (hW : Below w.heap.size w W) => l4Sum_any f t 17 _ len cap zs W (hr.below hW) (by omega) (by omega) (by omega) (by omega))
  have B0 := Lib.hid ((Below.refl w.heap.size w).alloc (Nat.le_refl _) (.cells #[.int .i64 0, .int .i64 0, .int .i64 0, .slice none 0 0] 34))
  have X0 := Lib.hid (Box.new w 34 #[.int .i64 0, .int .i64 0, .int .i64 0, .slice none 0 0])
  obtain ⟨n, hn⟩ : ∃ n, rdTo zs 4 2 = n := ⟨_, rfl⟩
  obtain ⟨s, hs⟩ : ∃ s, rdTo zs 6 2 = s := ⟨_, rfl⟩
  obtain ⟨v, hv⟩ : ∃ v, dgSum f t 17 zs = v := ⟨_, rfl⟩
  rw [hn] at K4 hf
  rw [hs] at K6 hq
  rw [hv] at KS hq
  have K0 := Lib.hid (show ∀ W, Below w.heap.size w W → Calls Try.prog 62 #[.slice (some ⟨ba, off, none⟩) len cap, .int .i64 0, .int .i64 2] W fun e w' => e = .returned (.int .i64 m1') ∧ W = w' from fun W hW => by rw [← hm1]; exact l1Read_lit' _ len cap 0 2 0 2 zs W (hr.below hW) rfl rfl (by omega) (by omega))
  have K2 := Lib.hid (show ∀ W, Below w.heap.size w W → Calls Try.prog 62 #[.slice (some ⟨ba, off, none⟩) len cap, .int .i64 2, .int .i64 2] W fun e w' => e = .returned (.int .i64 m2') ∧ W = w' from fun W hW => by rw [← hm2]; exact l1Read_lit' _ len cap 2 2 2 2 zs W (hr.below hW) rfl rfl (by omega) (by omega))
  have HD := Lib.hid (show ∀ W, Below w.heap.size w W → Rd W (some ⟨ba, off + 8, none⟩) (len - 8) (cap - 8) ys from fun W hW => by rw [← hys]; exact (hr.below hW).from 8 _ _ _ (by omega) rfl rfl rfl)
  have KD := Lib.hid (fun W (hW : Below w.heap.size w W) => l1Copy_any (some ⟨ba, off + 8, none⟩) (len - 8) (cap - 8) ys W (HD.out W hW) (by omega))
  have SS := Lib.hid (fun W (h : Hid (Below w.heap.size w W)) => h)
  have KF := Lib.hid (show ∀ (a9 : Option Addr) (c9 : Nat) W, Calls Try.prog 23 #[.agg #[.int .i64 m1', .int .i64 m2', .slice a9 (len - 8) c9]] W fun e w' => e = .returned (.int .i64 c) ∧ Below W.heap.size W w' from fun a9 c9 W => by rw [← hC]; exact specDatagramFault m1' m2' a9 (len - 8) c9 W)
  clear hr hc k0 k1 hn hs hv hm1 hm2 hys HD hC
  have htU : 25 ≠ 5 := by decide
  generalize hn0 : w.heap.size + 1 = n0
  have HN := Lib.hid hn0
  clear hn0
  rcases hq with q0 | ⟨q0, q1⟩
  case' inl =>
    go_enter Try.func18, Try.ntmps18
    go_wp2_with (first | (go_at_call 49; refine (l2Ip_any _ _).mono ?_; rintro e w' ⟨rfl, rfl⟩))
    refine (K4.out _ B0.out).mono ?_
    rintro e w' ⟨rfl, rfl⟩
    go_wp2_with fail
    refine (K6.out _ B0.out).mono ?_
    rintro e w' ⟨rfl, rfl⟩
    go_wp2_with fail
    generalize w.alloc (.cells #[.int .i64 0, .int .i64 0, .int .i64 0, .slice none 0 0] 34) = W1 at *
    have B1 := B0
    have X1 := X0
  case' inr =>
    go_enter Try.func18, Try.ntmps18
    go_wp2_with (first | (go_at_call 49; refine (l2Ip_any _ _).mono ?_; rintro e w' ⟨rfl, rfl⟩))
    refine (K4.out _ B0.out).mono ?_
    rintro e w' ⟨rfl, rfl⟩
    go_wp2_with fail
    refine (K6.out _ B0.out).mono ?_
    rintro e w' ⟨rfl, rfl⟩
    go_wp2_with fail
    refine (KS.out _ B0.out).mono ?_
    rintro e W1 ⟨rfl, b1⟩
    have B1 := Lib.hid (B0.out.trans (b1.mono B0.out.size))
    have X1 := Lib.hid (X0.out.below b1 X0.out.lt)
    clear b1
    go_wp2_with fail
  all_goals
    clear B0 X0 K4 K6 KS
    have B0 := B1
    have X0 := X1
    clear B1 X1
    go_cut [7] (fun v wx => ∃ (g9 : Nat) (a9 : Option Addr) (c9 : Nat), v = .pointer (some ⟨g9, 0, none⟩) ∧ Hid (Below w.heap.size w wx) ∧ Hid (∃ vs : Array Value, Box wx w.heap.size 34 vs ∧ vs.size = 4) ∧ Hid (Box wx g9 25 #[.int .i64 m1', .int .i64 m2', .slice a9 (len - 8) c9]) ∧ Hid (Own wx n0 a9 (len - 8) c9 ys) ∧ Hid (n0 ≤ g9))
    case first =>
      as_aux_lemma =>
        have hn0 := HN.out
        have TD := kDrew B0
        refine wp_region_held_drew (S := fun W => Hid (Below w.heap.size w W)) (by kernel_rfl) (SS.out _ TD) (fun hHeld => ?_)
        refine wpAnyH_take (i := 0) (v := ?_) (by simp only [List.getElem?_toArray, List.getElem?_cons_zero]; exact rfl) (by kernel_rfl) (by kernel_rfl) (by kernel_rfl) (by exact fun _ _ _ h => h) (Or.inl ⟨by rfl, ?_⟩) hHeld ?_
        rotate_left
        · intro w' hSw
          obtain _ := hSw
          go_simp
          try with_reducible rfl
        try simp only [Act.put, List.setIfInBounds_toArray, List.set_cons_zero, List.set_cons_succ]
        refine wpAnyH_take (i := 2) (v := ?_) (by simp only [List.getElem?_toArray, List.getElem?_cons_zero, List.getElem?_cons_succ]; exact rfl) (by kernel_rfl) (by kernel_rfl) (by kernel_rfl) (by exact fun _ _ _ h => h) (Or.inl ⟨by rfl, ?_⟩) hHeld ?_
        rotate_left
        · intro w' hSw
          obtain _ := hSw
          go_simp
          try with_reducible rfl
        try simp only [Act.put, List.setIfInBounds_toArray, List.set_cons_zero, List.set_cons_succ]
        refine wpAnyH_take (i := 4) (v := ?_) (by simp only [List.getElem?_toArray, List.getElem?_cons_zero, List.getElem?_cons_succ]; exact rfl) (by kernel_rfl) (by kernel_rfl) (by kernel_rfl) (by exact fun _ _ _ h => h) (Or.inl ⟨by rfl, ?_⟩) hHeld ?_
        rotate_left
        · intro w' hSw
          obtain _ := hSw
          go_simp
          try with_reducible rfl
        try simp only [Act.put, List.setIfInBounds_toArray, List.set_cons_zero, List.set_cons_succ]
        refine wpAnyH_take (i := 5) (v := ?_) (by simp only [List.getElem?_toArray, List.getElem?_cons_zero, List.getElem?_cons_succ]; exact rfl) (by kernel_rfl) (by kernel_rfl) (by kernel_rfl) (by exact fun _ _ _ h => h) (Or.inl ⟨by rfl, ?_⟩) hHeld ?_
        rotate_left
        · intro w' hSw
          obtain _ := hSw
          go_simp
          try with_reducible rfl
        try simp only [Act.put, List.setIfInBounds_toArray, List.set_cons_zero, List.set_cons_succ]
        refine flow_go (Inv := fun listed ac W => ∃ v7 v44 v46 v49 v50 : Value, ac = { tmps := #[.int .i64 f, .int .i64 t, .slice (some ⟨ba, off, none⟩) len cap, _, _, _, .pointer (some ⟨w.heap.size, 0, none⟩), v7, _, _, _, _, _, _, _, _, _, _, _, _, _, _, _, _, _, _, _, _, _, _, _, _, _, _, _, _, _, _, _, _, _, _, _, .slice (some ⟨ba, off, none⟩) len cap, v44, .slice (some ⟨ba, off, none⟩) len cap, v46, .slice (some ⟨ba, off, none⟩) len cap, .slice (some ⟨ba, off + 8, none⟩) (len - 8) (cap - 8), v49, v50, _, _, _, _, _, _], defers := [] } ∧ Hid (Below w.heap.size w W) ∧ Hid (∃ vs : Array Value, Box W w.heap.size 34 vs ∧ vs.size = 4) ∧ Fl listed 1 (EqV v44 (.int .i64 m1')) ∧ Fl listed 3 (EqV v46 (.int .i64 m2')) ∧ Fl listed 6 (SlV W n0 v49 (len - 8) ys) ∧ Fl listed 7 (AgV W n0 v50 #[.int .i64 m1', .int .i64 m2'] (len - 8) ys) ∧ Fl listed 8 (AlV W n0 v7 25 3) ∧ Fl listed 9 (StV W n0 n0 v7 25 #[.int .i64 m1', .int .i64 m2'] (len - 8) ys ∧ listed.getD 8 false = true)) [1, 3, 6, 7, 8, 9] (by kernel_rfl) (by kernel_rfl) ⟨_, _, _, _, _, rfl, TD, ⟨_, (show Box _ _ _ _ from X0.out), rfl⟩, Fl.not (by kernel_rfl), Fl.not (by kernel_rfl), Fl.not (by kernel_rfl), Fl.not (by kernel_rfl), Fl.not (by kernel_rfl), Fl.not (by kernel_rfl)⟩
          (FlowAll.cons [] (by simp only [List.getElem?_toArray, List.getElem?_cons_zero, List.getElem?_cons_succ]; exact rfl) (by kernel_rfl) (fun listed ac W hI hu hd K hK => ?_)
            (FlowAll.cons [] (by simp only [List.getElem?_toArray, List.getElem?_cons_zero, List.getElem?_cons_succ]; exact rfl) (by kernel_rfl) (fun listed ac W hI hu hd K hK => ?_)
            (FlowAll.cons [] (by simp only [List.getElem?_toArray, List.getElem?_cons_zero, List.getElem?_cons_succ]; exact rfl) (by kernel_rfl) (fun listed ac W hI hu hd K hK => ?_)
            (FlowAll.cons [1, 3, 6] (by simp only [List.getElem?_toArray, List.getElem?_cons_zero, List.getElem?_cons_succ]; exact rfl) (by kernel_rfl) (fun listed ac W hI hu hd K hK => ?_)
            (FlowAll.cons [] (by simp only [List.getElem?_toArray, List.getElem?_cons_zero, List.getElem?_cons_succ]; exact rfl) (by kernel_rfl) (fun listed ac W hI hu hd K hK => ?_)
            (FlowAll.cons [8, 7] (by simp only [List.getElem?_toArray, List.getElem?_cons_zero, List.getElem?_cons_succ]; exact rfl) (by kernel_rfl) (fun listed ac W hI hu hd K hK => ?_)
            FlowAll.nil))))))
          (fun listed ac W hI hall => ?_)
        · obtain ⟨v7, v44, v46, v49, v50, rfl, TB, XB, f1, f3, f6, f7, f8, f9⟩ := hI
          obtain ⟨vsR, xR, sR⟩ := XB.out
          have hnW : n0 ≤ W.heap.size := by have := xR.lt; omega
          refine want_none (by exact rfl) ?_
          go_wp2_with fail
          refine (K0.out _ TB.out).mono ?_
          rintro e w' ⟨rfl, rfl⟩
          go_wp2_with fail
          refine hK.out _ _ (SS.out _ TB) ?_
          exact ⟨_, _, _, _, _, rfl, TB, XB, Fl.new (EqV.rfl _), f3.keep (by decide) id, f6.keep (by decide) id, f7.keep (by decide) id, f8.keep (by decide) id, f9.keep (by decide) (fun h => ⟨h.1, getD_set_true h.2⟩)⟩
        · obtain ⟨v7, v44, v46, v49, v50, rfl, TB, XB, f1, f3, f6, f7, f8, f9⟩ := hI
          obtain ⟨vsR, xR, sR⟩ := XB.out
          have hnW : n0 ≤ W.heap.size := by have := xR.lt; omega
          refine want_none (by exact rfl) ?_
          go_wp2_with fail
          refine (K2.out _ TB.out).mono ?_
          rintro e w' ⟨rfl, rfl⟩
          go_wp2_with fail
          refine hK.out _ _ (SS.out _ TB) ?_
          exact ⟨_, _, _, _, _, rfl, TB, XB, f1.keep (by decide) id, Fl.new (EqV.rfl _), f6.keep (by decide) id, f7.keep (by decide) id, f8.keep (by decide) id, f9.keep (by decide) (fun h => ⟨h.1, getD_set_true h.2⟩)⟩
        · obtain ⟨v7, v44, v46, v49, v50, rfl, TB, XB, f1, f3, f6, f7, f8, f9⟩ := hI
          obtain ⟨vsR, xR, sR⟩ := XB.out
          have hnW : n0 ≤ W.heap.size := by have := xR.lt; omega
          refine want_none (by exact rfl) ?_
          go_wp2_with fail
          refine (KD.out _ TB.out).mono ?_
          rintro e w' ⟨a', c', rfl, o', hb0⟩
          go_wp2_with fail
          have hb : Below W.heap.size W _ := hb0
          have TB' := kCall hb (kSize TB) TB
          refine hK.out _ _ (SS.out _ TB') ?_
          exact ⟨_, _, _, _, _, rfl, TB', ⟨_, xR.below hb xR.lt, sR⟩, f1.keep (by decide) (keepE hb), f3.keep (by decide) (keepE hb), Fl.new (⟨_, _, rfl, o'.rebase hnW⟩), f7.keep (by decide) (AgV.below hb), f8.keep (by decide) (AlV.below hb), f9.keep (by decide) (fun h => ⟨StV.below hb h.1, getD_set_true h.2⟩)⟩
        · obtain ⟨v7, v44, v46, v49, v50, rfl, TB, XB, f1, f3, f6, f7, f8, f9⟩ := hI
          obtain ⟨vsR, xR, sR⟩ := XB.out
          have hnW : n0 ≤ W.heap.size := by have := xR.lt; omega
          obtain ⟨rfl⟩ := f1.get (hd 1 (by simp))
          obtain ⟨rfl⟩ := f3.get (hd 3 (by simp))
          obtain ⟨a49, c49, rfl, o49⟩ := f6.get (hd 6 (by simp))
          refine want_none (by exact rfl) ?_
          go_wp2_with fail
          refine hK.out _ _ (SS.out _ TB) ?_
          exact ⟨_, _, _, _, _, rfl, TB, XB, f1.keep (by decide) id, f3.keep (by decide) id, f6.keep (by decide) id, Fl.new (⟨_, _, rfl, o49⟩), f8.keep (by decide) id, f9.keep (by decide) (fun h => ⟨h.1, getD_set_true h.2⟩)⟩
        · obtain ⟨v7, v44, v46, v49, v50, rfl, TB, XB, f1, f3, f6, f7, f8, f9⟩ := hI
          obtain ⟨vsR, xR, sR⟩ := XB.out
          have hnW : n0 ≤ W.heap.size := by have := xR.lt; omega
          refine want_none (by exact rfl) ?_
          go_wp2_with fail
          have hb : Below W.heap.size W _ := bAlloc W (.cells #[.int .i64 0, .int .i64 0, .slice none 0 0] 25)
          have TB' := kCall hb (kSize TB) TB
          refine hK.out _ _ (SS.out _ TB') ?_
          exact ⟨_, _, _, _, _, rfl, TB', ⟨_, xR.below hb xR.lt, sR⟩, f1.keep (by decide) (keepE hb), f3.keep (by decide) (keepE hb), f6.keep (by decide) (SlV.below hb), f7.keep (by decide) (AgV.below hb), Fl.new (AlV.new hnW rfl), f9.keep (by decide) (fun h => absurd h.2 (by rw [getD_unlisted hu]; simp))⟩
        · obtain ⟨v7, v44, v46, v49, v50, rfl, TB, XB, f1, f3, f6, f7, f8, f9⟩ := hI
          obtain ⟨vsR, xR, sR⟩ := XB.out
          have hnW : n0 ≤ W.heap.size := by have := xR.lt; omega
          obtain ⟨gN, vsN, rfl, hgN, xN, sN⟩ := f8.get (hd 8 (by simp))
          obtain ⟨a50, c50, rfl, o50⟩ := f7.get (hd 7 (by simp))
          refine storeBox_step _ rfl 25 (.tmp 7) (.tmp 50) rfl gN 25 vsN (#[.int .i64 m1', .int .i64 m2'] ++ #[.slice a50 (len - 8) c50]) xN (by exact rfl) (by exact rfl) (by kernel_rfl) (sN.trans rfl) (by simp [Value.oneCell']) ?_
          intro wS xS gS
          try simp only [Act.put]
          have TB' := kGrownB gS TB (by omega)
          refine hK.out _ _ (SS.out _ TB') ?_
          exact ⟨_, _, _, _, _, rfl, TB', ⟨_, xR.grown gS (by simp only [ne_eq, Option.some.injEq]; omega), sR⟩, f1.keep (by decide) (id), f3.keep (by decide) (id), f6.keep (by decide) (SlV.off xN htU gS), f7.keep (by decide) (AgV.off xN htU gS), f8.keep (by decide) (fun _ => ⟨_, _, rfl, hgN, xS, rfl⟩), Fl.new (⟨⟨_, _, _, rfl, hgN, xS, o50.offBox xN htU gS⟩, getD_set_true (hd 8 (by simp))⟩)⟩
        · obtain ⟨v7, v44, v46, v49, v50, rfl, TB, XB, f1, f3, f6, f7, f8, f9⟩ := hI
          obtain ⟨vsR, xR, sR⟩ := XB.out
          have hnW : n0 ≤ W.heap.size := by have := xR.lt; omega
          obtain ⟨⟨g9, a9, c9, rfl, hg9, x9, o9⟩, _⟩ := f9.get (hall 9 (by decide))
          have X9 := Lib.hid x9
          have O9 := Lib.hid o9
          skip
          have T9 := TB
          go_wp2_with fail
          go_meet
          exact ⟨g9, a9, c9, rfl, T9, Lib.hid ⟨_, xR, sR⟩, X9, O9, Lib.hid hg9⟩
    case rest =>
      as_aux_lemma =>
        obtain ⟨g9, a9, c9, rfl, T9, XR, X9, O9, G9⟩ := hcut
        obtain ⟨vsR, xR, sR⟩ := XR.out
        have R9 := Lib.hid xR
        have SR := Lib.hid sR
        clear xR sR XR
        obtain ⟨_, x0, x1, x2⟩ := X9.out.three
        go_wp2_with fail
        clear x0 x1 x2
        refine (KF.out _ _ _).mono ?_
        rintro e w5 ⟨rfl, b5⟩
        have X5 := Lib.hid (X9.out.below b5 X9.out.lt)
        have R5 := Lib.hid (R9.out.below b5 R9.out.lt)
        have O5 := Lib.hid (O9.out.below b5)
        have T5 := Lib.hid (T9.out.trans (b5.mono T9.out.size))
        clear b5 X9 R9 O9 T9
        obtain ⟨_, x0, x1, x2⟩ := X5.out.three
        by_cases hc0 : c = 0
        · subst hc0
          go_wp2_with ((with_reducible change wpList _ _ _ (Oper.mk none (Op.store _ _ _) _ _ _ _ :: _) _ _); refine storeBox_list _ rfl 34 (.tmp 6) (.tmp 56) rfl w.heap.size 34 vsR (#[.int .i64 0, .int .i64 m1', .int .i64 m2', .slice a9 (len - 8) c9]) R5.out (by exact rfl) (by exact rfl) (by kernel_rfl) (SR.out.trans rfl) (by simp [Value.oneCell']) ?_; intro w6 x6 g6; have X6 := Lib.hid x6; have G6 := Lib.hid g6; clear x6 g6)
          refine bodyPost_ret (results_cell_row Try.results18 _ _ _ _ _ _ _ rfl X6.out Try.underlying34 rfl (by kernel_rfl)) rfl ⟨fun _ => ⟨_, _, _, rfl, ?_, ?_⟩, fun h => absurd rfl h⟩
          · exact (O5.out.grown G6.out (fun x hx e => by have := (O5.out.lt x hx).1; have := HN.out; simp only [Option.some.injEq] at e; omega)).rebase (by have := HN.out; omega)
          · exact T5.out.grown G6.out T5.out.size (fun k e => by cases e; exact Nat.le_refl _)
        · have e1 : (c != 0) = true := by simpa using hc0
          go_wp2_with ((with_reducible change wpList _ _ _ (Oper.mk none (Op.store _ _ _) _ _ _ _ :: _) _ _); refine storeBox_list _ rfl 34 (.tmp 6) (.tmp 54) rfl w.heap.size 34 vsR (#[.int .i64 3, .int .i64 0, .int .i64 0, .slice none 0 0]) R5.out (by exact rfl) (by exact rfl) (by kernel_rfl) (SR.out.trans rfl) (by simp [Value.oneCell']) ?_; intro w6 x6 g6; have X6 := Lib.hid x6; have G6 := Lib.hid g6; clear x6 g6)
          refine bodyPost_ret (results_cell_row Try.results18 _ _ _ _ _ _ _ rfl X6.out Try.underlying34 rfl (by kernel_rfl)) rfl ⟨fun h => absurd h hc0, fun _ => ⟨_, _, _, rfl, Own.nil _ _, ?_⟩⟩
          exact T5.out.grown G6.out T5.out.size (fun k e => by cases e; exact Nat.le_refl _)

set_option maxRecDepth 20000 in
set_option maxHeartbeats 4000000 in
theorem specReadDatagram_ok2 (f t : Int) (a : Option Addr) (zs : List Int) (w : World) (hr : Rd w a 8 8 zs) (m0 : ipB f = true) (m1 : ipB t = true) (hf : (rdTo zs 4 2 != (8 : Int)) = false) (hq : (rdTo zs 6 2 != 0) = false ∨ (rdTo zs 6 2 != 0) = true ∧ (dgSum f t 17 zs != 0) = false) (c m1' m2' : Int) (ys : List Int) (hm1 : rdTo zs 0 2 = m1') (hm2 : rdTo zs 2 2 = m2') (hys : zs.drop 8 = ys) (hC : dgC m1' m2' (0) = c) :
    Calls Try.prog 18 #[.int .i64 f, .int .i64 t, .slice a 8 8] w (RdOr w c m1' m2' ys) := by
  have hle := hr.le
  have hmx := hr.max
  rcases hr.cells with h0 | ⟨ba, off, rfl, hc⟩
  · omega
  have k0 := ipB_bd m0
  have k1 := ipB_bd m1
  have K4 := Lib.hid (fun W (hW : Below w.heap.size w W) => l1Read_lit' _ 8 8 4 2 4 2 zs W (hr.below hW) rfl rfl (by omega) (by omega))
  have K6 := Lib.hid (fun W (hW : Below w.heap.size w W) => l1Read_lit' _ 8 8 6 2 6 2 zs W (hr.below hW) rfl rfl (by omega) (by omega))
  have KS := Lib.hid (fun W (hW : Below w.heap.size w W) => l4Sum_any f t 17 _ 8 8 zs W (hr.below hW) (by omega) (by omega) (by omega) (by omega))
  have B0 := Lib.hid ((Below.refl w.heap.size w).alloc (Nat.le_refl _) (.cells #[.int .i64 0, .int .i64 0, .int .i64 0, .slice none 0 0] 34))
  have X0 := Lib.hid (Box.new w 34 #[.int .i64 0, .int .i64 0, .int .i64 0, .slice none 0 0])
  obtain ⟨n, hn⟩ : ∃ n, rdTo zs 4 2 = n := ⟨_, rfl⟩
  obtain ⟨s, hs⟩ : ∃ s, rdTo zs 6 2 = s := ⟨_, rfl⟩
  obtain ⟨v, hv⟩ : ∃ v, dgSum f t 17 zs = v := ⟨_, rfl⟩
  rw [hn] at K4 hf
  rw [hs] at K6 hq
  rw [hv] at KS hq
  have K0 := Lib.hid (show ∀ W, Below w.heap.size w W → Calls Try.prog 62 #[.slice (some ⟨ba, off, none⟩) 8 8, .int .i64 0, .int .i64 2] W fun e w' => e = .returned (.int .i64 m1') ∧ W = w' from fun W hW => by rw [← hm1]; exact l1Read_lit' _ 8 8 0 2 0 2 zs W (hr.below hW) rfl rfl (by omega) (by omega))
  have K2 := Lib.hid (show ∀ W, Below w.heap.size w W → Calls Try.prog 62 #[.slice (some ⟨ba, off, none⟩) 8 8, .int .i64 2, .int .i64 2] W fun e w' => e = .returned (.int .i64 m2') ∧ W = w' from fun W hW => by rw [← hm2]; exact l1Read_lit' _ 8 8 2 2 2 2 zs W (hr.below hW) rfl rfl (by omega) (by omega))
  have HD := Lib.hid (show ∀ W, Below w.heap.size w W → Rd W (some ⟨ba, off, none⟩) 0 0 ys from fun W hW => by rw [← hys]; exact rd_tail8' (hr.below hW))
  have KD := Lib.hid (fun W (hW : Below w.heap.size w W) => l1Copy_any (some ⟨ba, off, none⟩) 0 0 ys W (HD.out W hW) (by omega))
  have SS := Lib.hid (fun W (h : Hid (Below w.heap.size w W)) => h)
  have KF := Lib.hid (show ∀ (a9 : Option Addr) (c9 : Nat) W, Calls Try.prog 23 #[.agg #[.int .i64 m1', .int .i64 m2', .slice a9 (0) c9]] W fun e w' => e = .returned (.int .i64 c) ∧ Below W.heap.size W w' from fun a9 c9 W => by rw [← hC]; exact specDatagramFault m1' m2' a9 (0) c9 W)
  clear hr hc k0 k1 hn hs hv hm1 hm2 hys HD hC
  have htU : 25 ≠ 5 := by decide
  generalize hn0 : w.heap.size + 1 = n0
  have HN := Lib.hid hn0
  clear hn0
  rcases hq with q0 | ⟨q0, q1⟩
  case' inl =>
    go_enter Try.func18, Try.ntmps18
    go_wp2_with (first | (go_at_call 49; refine (l2Ip_any _ _).mono ?_; rintro e w' ⟨rfl, rfl⟩))
    refine (K4.out _ B0.out).mono ?_
    rintro e w' ⟨rfl, rfl⟩
    go_wp2_with fail
    refine (K6.out _ B0.out).mono ?_
    rintro e w' ⟨rfl, rfl⟩
    go_wp2_with fail
    generalize w.alloc (.cells #[.int .i64 0, .int .i64 0, .int .i64 0, .slice none 0 0] 34) = W1 at *
    have B1 := B0
    have X1 := X0
  case' inr =>
    go_enter Try.func18, Try.ntmps18
    go_wp2_with (first | (go_at_call 49; refine (l2Ip_any _ _).mono ?_; rintro e w' ⟨rfl, rfl⟩))
    refine (K4.out _ B0.out).mono ?_
    rintro e w' ⟨rfl, rfl⟩
    go_wp2_with fail
    refine (K6.out _ B0.out).mono ?_
    rintro e w' ⟨rfl, rfl⟩
    go_wp2_with fail
    refine (KS.out _ B0.out).mono ?_
    rintro e W1 ⟨rfl, b1⟩
    have B1 := Lib.hid (B0.out.trans (b1.mono B0.out.size))
    have X1 := Lib.hid (X0.out.below b1 X0.out.lt)
    clear b1
    go_wp2_with fail
  all_goals
    clear B0 X0 K4 K6 KS
    have B0 := B1
    have X0 := X1
    clear B1 X1
    go_cut [7] (fun v wx => ∃ (g9 : Nat) (a9 : Option Addr) (c9 : Nat), v = .pointer (some ⟨g9, 0, none⟩) ∧ Hid (Below w.heap.size w wx) ∧ Hid (∃ vs : Array Value, Box wx w.heap.size 34 vs ∧ vs.size = 4) ∧ Hid (Box wx g9 25 #[.int .i64 m1', .int .i64 m2', .slice a9 (0) c9]) ∧ Hid (Own wx n0 a9 (0) c9 ys) ∧ Hid (n0 ≤ g9))
    case first =>
      as_aux_lemma =>
        have hn0 := HN.out
        have TD := kDrew B0
        refine wp_region_held_drew (S := fun W => Hid (Below w.heap.size w W)) (by kernel_rfl) (SS.out _ TD) (fun hHeld => ?_)
        refine wpAnyH_take (i := 0) (v := ?_) (by simp only [List.getElem?_toArray, List.getElem?_cons_zero]; exact rfl) (by kernel_rfl) (by kernel_rfl) (by kernel_rfl) (by exact fun _ _ _ h => h) (Or.inl ⟨by rfl, ?_⟩) hHeld ?_
        rotate_left
        · intro w' hSw
          obtain _ := hSw
          go_simp
          try with_reducible rfl
        try simp only [Act.put, List.setIfInBounds_toArray, List.set_cons_zero, List.set_cons_succ]
        refine wpAnyH_take (i := 2) (v := ?_) (by simp only [List.getElem?_toArray, List.getElem?_cons_zero, List.getElem?_cons_succ]; exact rfl) (by kernel_rfl) (by kernel_rfl) (by kernel_rfl) (by exact fun _ _ _ h => h) (Or.inl ⟨by rfl, ?_⟩) hHeld ?_
        rotate_left
        · intro w' hSw
          obtain _ := hSw
          go_simp
          try with_reducible rfl
        try simp only [Act.put, List.setIfInBounds_toArray, List.set_cons_zero, List.set_cons_succ]
        refine wpAnyH_take (i := 4) (v := ?_) (by simp only [List.getElem?_toArray, List.getElem?_cons_zero, List.getElem?_cons_succ]; exact rfl) (by kernel_rfl) (by kernel_rfl) (by kernel_rfl) (by exact fun _ _ _ h => h) (Or.inl ⟨by rfl, ?_⟩) hHeld ?_
        rotate_left
        · intro w' hSw
          obtain _ := hSw
          go_simp
          try with_reducible rfl
        try simp only [Act.put, List.setIfInBounds_toArray, List.set_cons_zero, List.set_cons_succ]
        refine wpAnyH_take (i := 5) (v := ?_) (by simp only [List.getElem?_toArray, List.getElem?_cons_zero, List.getElem?_cons_succ]; exact rfl) (by kernel_rfl) (by kernel_rfl) (by kernel_rfl) (by exact fun _ _ _ h => h) (Or.inl ⟨by rfl, ?_⟩) hHeld ?_
        rotate_left
        · intro w' hSw
          obtain _ := hSw
          go_simp
          try with_reducible rfl
        try simp only [Act.put, List.setIfInBounds_toArray, List.set_cons_zero, List.set_cons_succ]
        refine flow_go (Inv := fun listed ac W => ∃ v7 v44 v46 v49 v50 : Value, ac = { tmps := #[.int .i64 f, .int .i64 t, .slice (some ⟨ba, off, none⟩) 8 8, _, _, _, .pointer (some ⟨w.heap.size, 0, none⟩), v7, _, _, _, _, _, _, _, _, _, _, _, _, _, _, _, _, _, _, _, _, _, _, _, _, _, _, _, _, _, _, _, _, _, _, _, .slice (some ⟨ba, off, none⟩) 8 8, v44, .slice (some ⟨ba, off, none⟩) 8 8, v46, .slice (some ⟨ba, off, none⟩) 8 8, .slice (some ⟨ba, off, none⟩) 0 0, v49, v50, _, _, _, _, _, _], defers := [] } ∧ Hid (Below w.heap.size w W) ∧ Hid (∃ vs : Array Value, Box W w.heap.size 34 vs ∧ vs.size = 4) ∧ Fl listed 1 (EqV v44 (.int .i64 m1')) ∧ Fl listed 3 (EqV v46 (.int .i64 m2')) ∧ Fl listed 6 (SlV W n0 v49 (0) ys) ∧ Fl listed 7 (AgV W n0 v50 #[.int .i64 m1', .int .i64 m2'] (0) ys) ∧ Fl listed 8 (AlV W n0 v7 25 3) ∧ Fl listed 9 (StV W n0 n0 v7 25 #[.int .i64 m1', .int .i64 m2'] (0) ys ∧ listed.getD 8 false = true)) [1, 3, 6, 7, 8, 9] (by kernel_rfl) (by kernel_rfl) ⟨_, _, _, _, _, rfl, TD, ⟨_, (show Box _ _ _ _ from X0.out), rfl⟩, Fl.not (by kernel_rfl), Fl.not (by kernel_rfl), Fl.not (by kernel_rfl), Fl.not (by kernel_rfl), Fl.not (by kernel_rfl), Fl.not (by kernel_rfl)⟩
          (FlowAll.cons [] (by simp only [List.getElem?_toArray, List.getElem?_cons_zero, List.getElem?_cons_succ]; exact rfl) (by kernel_rfl) (fun listed ac W hI hu hd K hK => ?_)
            (FlowAll.cons [] (by simp only [List.getElem?_toArray, List.getElem?_cons_zero, List.getElem?_cons_succ]; exact rfl) (by kernel_rfl) (fun listed ac W hI hu hd K hK => ?_)
            (FlowAll.cons [] (by simp only [List.getElem?_toArray, List.getElem?_cons_zero, List.getElem?_cons_succ]; exact rfl) (by kernel_rfl) (fun listed ac W hI hu hd K hK => ?_)
            (FlowAll.cons [1, 3, 6] (by simp only [List.getElem?_toArray, List.getElem?_cons_zero, List.getElem?_cons_succ]; exact rfl) (by kernel_rfl) (fun listed ac W hI hu hd K hK => ?_)
            (FlowAll.cons [] (by simp only [List.getElem?_toArray, List.getElem?_cons_zero, List.getElem?_cons_succ]; exact rfl) (by kernel_rfl) (fun listed ac W hI hu hd K hK => ?_)
            (FlowAll.cons [8, 7] (by simp only [List.getElem?_toArray, List.getElem?_cons_zero, List.getElem?_cons_succ]; exact rfl) (by kernel_rfl) (fun listed ac W hI hu hd K hK => ?_)
            FlowAll.nil))))))
          (fun listed ac W hI hall => ?_)
        · obtain ⟨v7, v44, v46, v49, v50, rfl, TB, XB, f1, f3, f6, f7, f8, f9⟩ := hI
          obtain ⟨vsR, xR, sR⟩ := XB.out
          have hnW : n0 ≤ W.heap.size := by have := xR.lt; omega
          refine want_none (by exact rfl) ?_
          go_wp2_with fail
          refine (K0.out _ TB.out).mono ?_
          rintro e w' ⟨rfl, rfl⟩
          go_wp2_with fail
          refine hK.out _ _ (SS.out _ TB) ?_
          exact ⟨_, _, _, _, _, rfl, TB, XB, Fl.new (EqV.rfl _), f3.keep (by decide) id, f6.keep (by decide) id, f7.keep (by decide) id, f8.keep (by decide) id, f9.keep (by decide) (fun h => ⟨h.1, getD_set_true h.2⟩)⟩
        · obtain ⟨v7, v44, v46, v49, v50, rfl, TB, XB, f1, f3, f6, f7, f8, f9⟩ := hI
          obtain ⟨vsR, xR, sR⟩ := XB.out
          have hnW : n0 ≤ W.heap.size := by have := xR.lt; omega
          refine want_none (by exact rfl) ?_
          go_wp2_with fail
          refine (K2.out _ TB.out).mono ?_
          rintro e w' ⟨rfl, rfl⟩
          go_wp2_with fail
          refine hK.out _ _ (SS.out _ TB) ?_
          exact ⟨_, _, _, _, _, rfl, TB, XB, f1.keep (by decide) id, Fl.new (EqV.rfl _), f6.keep (by decide) id, f7.keep (by decide) id, f8.keep (by decide) id, f9.keep (by decide) (fun h => ⟨h.1, getD_set_true h.2⟩)⟩
        · obtain ⟨v7, v44, v46, v49, v50, rfl, TB, XB, f1, f3, f6, f7, f8, f9⟩ := hI
          obtain ⟨vsR, xR, sR⟩ := XB.out
          have hnW : n0 ≤ W.heap.size := by have := xR.lt; omega
          refine want_none (by exact rfl) ?_
          go_wp2_with fail
          refine (KD.out _ TB.out).mono ?_
          rintro e w' ⟨a', c', rfl, o', hb0⟩
          go_wp2_with fail
          have hb : Below W.heap.size W _ := hb0
          have TB' := kCall hb (kSize TB) TB
          refine hK.out _ _ (SS.out _ TB') ?_
          exact ⟨_, _, _, _, _, rfl, TB', ⟨_, xR.below hb xR.lt, sR⟩, f1.keep (by decide) (keepE hb), f3.keep (by decide) (keepE hb), Fl.new (⟨_, _, rfl, o'.rebase hnW⟩), f7.keep (by decide) (AgV.below hb), f8.keep (by decide) (AlV.below hb), f9.keep (by decide) (fun h => ⟨StV.below hb h.1, getD_set_true h.2⟩)⟩
        · obtain ⟨v7, v44, v46, v49, v50, rfl, TB, XB, f1, f3, f6, f7, f8, f9⟩ := hI
          obtain ⟨vsR, xR, sR⟩ := XB.out
          have hnW : n0 ≤ W.heap.size := by have := xR.lt; omega
          obtain ⟨rfl⟩ := f1.get (hd 1 (by simp))
          obtain ⟨rfl⟩ := f3.get (hd 3 (by simp))
          obtain ⟨a49, c49, rfl, o49⟩ := f6.get (hd 6 (by simp))
          refine want_none (by exact rfl) ?_
          go_wp2_with fail
          refine hK.out _ _ (SS.out _ TB) ?_
          exact ⟨_, _, _, _, _, rfl, TB, XB, f1.keep (by decide) id, f3.keep (by decide) id, f6.keep (by decide) id, Fl.new (⟨_, _, rfl, o49⟩), f8.keep (by decide) id, f9.keep (by decide) (fun h => ⟨h.1, getD_set_true h.2⟩)⟩
        · obtain ⟨v7, v44, v46, v49, v50, rfl, TB, XB, f1, f3, f6, f7, f8, f9⟩ := hI
          obtain ⟨vsR, xR, sR⟩ := XB.out
          have hnW : n0 ≤ W.heap.size := by have := xR.lt; omega
          refine want_none (by exact rfl) ?_
          go_wp2_with fail
          have hb : Below W.heap.size W _ := bAlloc W (.cells #[.int .i64 0, .int .i64 0, .slice none 0 0] 25)
          have TB' := kCall hb (kSize TB) TB
          refine hK.out _ _ (SS.out _ TB') ?_
          exact ⟨_, _, _, _, _, rfl, TB', ⟨_, xR.below hb xR.lt, sR⟩, f1.keep (by decide) (keepE hb), f3.keep (by decide) (keepE hb), f6.keep (by decide) (SlV.below hb), f7.keep (by decide) (AgV.below hb), Fl.new (AlV.new hnW rfl), f9.keep (by decide) (fun h => absurd h.2 (by rw [getD_unlisted hu]; simp))⟩
        · obtain ⟨v7, v44, v46, v49, v50, rfl, TB, XB, f1, f3, f6, f7, f8, f9⟩ := hI
          obtain ⟨vsR, xR, sR⟩ := XB.out
          have hnW : n0 ≤ W.heap.size := by have := xR.lt; omega
          obtain ⟨gN, vsN, rfl, hgN, xN, sN⟩ := f8.get (hd 8 (by simp))
          obtain ⟨a50, c50, rfl, o50⟩ := f7.get (hd 7 (by simp))
          refine storeBox_step _ rfl 25 (.tmp 7) (.tmp 50) rfl gN 25 vsN (#[.int .i64 m1', .int .i64 m2'] ++ #[.slice a50 (0) c50]) xN (by exact rfl) (by exact rfl) (by kernel_rfl) (sN.trans rfl) (by simp [Value.oneCell']) ?_
          intro wS xS gS
          try simp only [Act.put]
          have TB' := kGrownB gS TB (by omega)
          refine hK.out _ _ (SS.out _ TB') ?_
          exact ⟨_, _, _, _, _, rfl, TB', ⟨_, xR.grown gS (by simp only [ne_eq, Option.some.injEq]; omega), sR⟩, f1.keep (by decide) (id), f3.keep (by decide) (id), f6.keep (by decide) (SlV.off xN htU gS), f7.keep (by decide) (AgV.off xN htU gS), f8.keep (by decide) (fun _ => ⟨_, _, rfl, hgN, xS, rfl⟩), Fl.new (⟨⟨_, _, _, rfl, hgN, xS, o50.offBox xN htU gS⟩, getD_set_true (hd 8 (by simp))⟩)⟩
        · obtain ⟨v7, v44, v46, v49, v50, rfl, TB, XB, f1, f3, f6, f7, f8, f9⟩ := hI
          obtain ⟨vsR, xR, sR⟩ := XB.out
          have hnW : n0 ≤ W.heap.size := by have := xR.lt; omega
          obtain ⟨⟨g9, a9, c9, rfl, hg9, x9, o9⟩, _⟩ := f9.get (hall 9 (by decide))
          have X9 := Lib.hid x9
          have O9 := Lib.hid o9
          skip
          have T9 := TB
          go_wp2_with fail
          go_meet
          exact ⟨g9, a9, c9, rfl, T9, Lib.hid ⟨_, xR, sR⟩, X9, O9, Lib.hid hg9⟩
    case rest =>
      as_aux_lemma =>
        obtain ⟨g9, a9, c9, rfl, T9, XR, X9, O9, G9⟩ := hcut
        obtain ⟨vsR, xR, sR⟩ := XR.out
        have R9 := Lib.hid xR
        have SR := Lib.hid sR
        clear xR sR XR
        obtain ⟨_, x0, x1, x2⟩ := X9.out.three
        go_wp2_with fail
        clear x0 x1 x2
        refine (KF.out _ _ _).mono ?_
        rintro e w5 ⟨rfl, b5⟩
        have X5 := Lib.hid (X9.out.below b5 X9.out.lt)
        have R5 := Lib.hid (R9.out.below b5 R9.out.lt)
        have O5 := Lib.hid (O9.out.below b5)
        have T5 := Lib.hid (T9.out.trans (b5.mono T9.out.size))
        clear b5 X9 R9 O9 T9
        obtain ⟨_, x0, x1, x2⟩ := X5.out.three
        by_cases hc0 : c = 0
        · subst hc0
          go_wp2_with ((with_reducible change wpList _ _ _ (Oper.mk none (Op.store _ _ _) _ _ _ _ :: _) _ _); refine storeBox_list _ rfl 34 (.tmp 6) (.tmp 56) rfl w.heap.size 34 vsR (#[.int .i64 0, .int .i64 m1', .int .i64 m2', .slice a9 (0) c9]) R5.out (by exact rfl) (by exact rfl) (by kernel_rfl) (SR.out.trans rfl) (by simp [Value.oneCell']) ?_; intro w6 x6 g6; have X6 := Lib.hid x6; have G6 := Lib.hid g6; clear x6 g6)
          refine bodyPost_ret (results_cell_row Try.results18 _ _ _ _ _ _ _ rfl X6.out Try.underlying34 rfl (by kernel_rfl)) rfl ⟨fun _ => ⟨_, _, _, rfl, ?_, ?_⟩, fun h => absurd rfl h⟩
          · exact (O5.out.grown G6.out (fun x hx e => by have := (O5.out.lt x hx).1; have := HN.out; simp only [Option.some.injEq] at e; omega)).rebase (by have := HN.out; omega)
          · exact T5.out.grown G6.out T5.out.size (fun k e => by cases e; exact Nat.le_refl _)
        · have e1 : (c != 0) = true := by simpa using hc0
          go_wp2_with ((with_reducible change wpList _ _ _ (Oper.mk none (Op.store _ _ _) _ _ _ _ :: _) _ _); refine storeBox_list _ rfl 34 (.tmp 6) (.tmp 54) rfl w.heap.size 34 vsR (#[.int .i64 3, .int .i64 0, .int .i64 0, .slice none 0 0]) R5.out (by exact rfl) (by exact rfl) (by kernel_rfl) (SR.out.trans rfl) (by simp [Value.oneCell']) ?_; intro w6 x6 g6; have X6 := Lib.hid x6; have G6 := Lib.hid g6; clear x6 g6)
          refine bodyPost_ret (results_cell_row Try.results18 _ _ _ _ _ _ _ rfl X6.out Try.underlying34 rfl (by kernel_rfl)) rfl ⟨fun h => absurd h hc0, fun _ => ⟨_, _, _, rfl, Own.nil _ _, ?_⟩⟩
          exact T5.out.grown G6.out T5.out.size (fun k e => by cases e; exact Nat.le_refl _)
end Go.Proofs.Ytmcllaefjgdbeaa

namespace Go.Proofs.Ytmcllaefjgdbeaa
open Go.ChangeShapes Go.WideShapes Go.ChangeAt Go.RowKit

theorem foldN_mod (n : Nat) : foldN n % 65535 = n % 65535 := by
  induction n using Nat.strongRecOn with
  | _ n ih =>
    by_cases h : n ≤ 65535
    · rw [foldN_le h]
    · rw [foldN_gt h, ih _ (by omega)]
      omega
theorem foldN_pos (n : Nat) (h : 0 < n) : 0 < foldN n := by
  induction n using Nat.strongRecOn with
  | _ n ih =>
    by_cases h' : n ≤ 65535
    · rw [foldN_le h']; exact h
    · rw [foldN_gt h']; exact ih _ (by omega) (by omega)
theorem foldN_seal (t : Nat) : foldN (t + (65535 - foldN t)) = 65535 := by
  have h1 := foldN_bd t
  have h2 := foldN_mod t
  have h3 := foldN_bd (t + (65535 - foldN t))
  have h4 := foldN_mod (t + (65535 - foldN t))
  have h5 : 0 < foldN (t + (65535 - foldN t)) := by
    refine foldN_pos _ ?_
    by_cases h : t = 0
    · subst h; rw [foldN_le (by omega)]; omega
    · omega
  omega
theorem sumTo_congr (l m : List Int) : ∀ k, (∀ i, i < k → l.getD i 0 = m.getD i 0) → sumTo l k = sumTo m k
  | 0, _ => rfl
  | k + 1, h => by simp only [sumTo]; rw [sumTo_congr l m k (fun i hi => h i (by omega)), h k (by omega)]
theorem getD_set (l : List Int) (i j : Nat) (x : Int) (h : i < l.length) : (l.set i x).getD j 0 = if i = j then x else l.getD j 0 := by
  rw [List.getD_eq_getElem?_getD, List.getElem?_set]
  split
  · first | rfl | (rename_i e; subst e; rw [if_pos h]; rfl)
  · rw [List.getD_eq_getElem?_getD]
/-- two bytes at an even place count as one number -/
theorem sumTo_two (l : List Int) (A : Nat) (hA : A % 2 = 0) (x y : Nat) : ∀ k, A + 2 + k ≤ l.length →
    sumTo ((l.set A (x : Int)).set (A + 1) (y : Int)) (A + 2 + k) = sumTo ((l.set A 0).set (A + 1) 0) (A + 2 + k) + 256 * x + y
  | 0, h => by
    have e := sumTo_congr ((l.set A (x : Int)).set (A + 1) (y : Int)) ((l.set A 0).set (A + 1) 0) A (fun i hi => by
      rw [getD_set _ _ _ _ (by simp; omega), getD_set _ _ _ _ (by omega), getD_set _ _ _ _ (by simp; omega), getD_set _ _ _ _ (by omega), if_neg (by omega), if_neg (by omega), if_neg (by omega), if_neg (by omega)])
    simp only [Nat.add_zero]
    rw [show A + 2 = (A + 1) + 1 by omega]
    simp only [sumTo]
    rw [e, if_pos hA, if_pos hA, if_neg (by omega), if_neg (by omega)]
    simp only [getD_set _ (A + 1) _ _ (show A + 1 < (l.set A (x : Int)).length by simp; omega), getD_set _ (A + 1) _ _ (show A + 1 < (l.set A 0).length by simp; omega), getD_set l A _ _ (show A < l.length by omega)]
    simp
  | k + 1, h => by
    have ih := sumTo_two l A hA x y k (by omega)
    rw [show A + 2 + (k + 1) = (A + 2 + k) + 1 by omega]
    simp only [sumTo]
    rw [ih, getD_set _ _ _ _ (by simp; omega), getD_set _ _ _ _ (by omega), getD_set _ _ _ _ (by simp; omega), getD_set _ _ _ _ (by omega), if_neg (show ¬ A + 1 = A + 2 + k by omega), if_neg (show ¬ A = A + 2 + k by omega), if_neg (show ¬ A + 1 = A + 2 + k by omega), if_neg (show ¬ A = A + 2 + k by omega)]
    omega
theorem seal0_set (zs : List Int) (A : Nat) (x y : Int) : seal0 ((zs.set A x).set (A + 1) y) A = seal0 zs A := by
  unfold seal0
  rw [List.set_comm _ _ (show A + 1 ≠ A by omega), List.set_set, List.set_set]
theorem seal0_seal0 (zs : List Int) (A : Nat) : seal0 (seal0 zs A) A = seal0 zs A := seal0_set zs A 0 0
theorem seal0_sealB (zs : List Int) (A : Nat) : seal0 (sealB zs A) A = seal0 zs A := by
  unfold sealB
  rw [seal0_set, seal0_seal0]
theorem sealB_sealB (zs : List Int) (A : Nat) : sealB (sealB zs A) A = sealB zs A := by
  have h := seal0_sealB zs A
  have e : sealB (sealB zs A) A = ((seal0 (sealB zs A) A).set A (sumV (seal0 (sealB zs A) A) / 256)).set (A + 1) (sumV (seal0 (sealB zs A) A) % 256) := rfl
  rw [e, h]
  rfl
theorem sum_sealB (zs : List Int) (A : Nat) (hA : A % 2 = 0) (h : A + 2 ≤ zs.length) : sumV (sealB zs A) = 0 := by
  have hb := sumV_bd (seal0 zs A)
  obtain ⟨v, hv⟩ := Int.eq_ofNat_of_zero_le hb.1
  have hl : (seal0 zs A).length = zs.length := by simp [seal0]
  obtain ⟨k, hk⟩ : ∃ k, zs.length = A + 2 + k := ⟨zs.length - (A + 2), by omega⟩
  have e := sumTo_two (seal0 zs A) A hA (v / 256) (v % 256) k (by omega)
  have e2 : ((seal0 zs A).set A 0).set (A + 1) 0 = seal0 zs A := seal0_seal0 zs A
  rw [e2] at e
  have e3 : sealB zs A = ((seal0 zs A).set A ((v / 256 : Nat) : Int)).set (A + 1) ((v % 256 : Nat) : Int) := by
    unfold sealB
    rw [hv]
    rfl
  have e4 : (v : Int) = 65535 - foldN (sumTo (seal0 zs A) (A + 2 + k)) := by
    rw [← hv]; unfold sumV; rw [hl, hk]
  have hf := foldN_seal (sumTo (seal0 zs A) (A + 2 + k))
  have hfb := foldN_bd (sumTo (seal0 zs A) (A + 2 + k))
  have hv2 : v = 65535 - foldN (sumTo (seal0 zs A) (A + 2 + k)) := by omega
  unfold sumV
  rw [sealB_len, hk, e3, e]
  have : sumTo (seal0 zs A) (A + 2 + k) + 256 * (v / 256) + v % 256 = sumTo (seal0 zs A) (A + 2 + k) + (65535 - foldN (sumTo (seal0 zs A) (A + 2 + k))) := by omega
  rw [this, hf]
  rfl
theorem rdTo_snoc (l : List Int) (x : Int) (k : Nat) (h : k ≤ l.length) : rdTo (l ++ [x]) 0 k = rdTo l 0 k := by
  induction k with
  | zero => rfl
  | succ k ih =>
    simp only [rdTo, Nat.zero_add]
    rw [ih (by omega), List.getD_eq_getElem?_getD, List.getD_eq_getElem?_getD, List.getElem?_append_left (by omega)]
theorem rd_be : ∀ (S : Nat) (n : Int), 0 ≤ n → n < 256 ^ S → rdTo (be n S) 0 S = n
  | 0, n, h0, h1 => by simp at h1; simp only [rdTo]; omega
  | S + 1, n, h0, h1 => by
    have hp : (0 : Int) < 256 ^ S := Int.pow_pos (by omega)
    rw [Int.pow_succ] at h1
    have ih := rd_be S (n / 256) (by omega) (by omega)
    simp only [be, rdTo, Nat.zero_add]
    rw [rdTo_snoc _ _ _ (by rw [be_len]; exact Nat.le_refl _), ih, List.getD_eq_getElem?_getD, List.getElem?_append_right (by rw [be_len]; exact Nat.le_refl _), be_len]
    simp
    omega
theorem be_rd (zs : List Int) (h8 : B8 zs) (A : Nat) : ∀ S, A + S ≤ zs.length → be (rdTo zs A S) S = (zs.drop A).take S
  | 0, _ => rfl
  | S + 1, h => by
    have hb := b8_getD h8 (A + S)
    have e1 : (rdTo zs A S * 256 + zs.getD (A + S) 0) / 256 = rdTo zs A S := by omega
    have e2 : (rdTo zs A S * 256 + zs.getD (A + S) 0) % 256 = zs.getD (A + S) 0 := by omega
    simp only [be, rdTo]
    rw [e1, e2, be_rd zs h8 A S (by omega)]
    have hl : S < (zs.drop A).length := by simp; omega
    rw [List.take_succ_eq_append_getElem hl, List.getElem_drop, List.getD_eq_getElem?_getD, List.getElem?_eq_getElem (by omega)]
    rfl
end Go.Proofs.Ytmcllaefjgdbeaa

namespace Go.Proofs.Ytmcllaefjgdbeaa
open Go.ChangeShapes Go.WideShapes Go.ChangeAt Go.RowKit

/-- what ReadDatagram answers -/
structure RgA where
  c : Int
  f : Int
  t : Int
  rs : List Int
def rgNo (c : Int) : RgA := ⟨c, 0, 0, []⟩
def rgAns (f t : Int) (zs : List Int) : RgA :=
  if (ipB f && ipB t) = false then rgNo 3
  else if dlOk zs.length = false then rgNo 2
  else if ¬ rdTo zs 4 2 = zs.length then rgNo 1
  else if ¬ rdTo zs 6 2 = 0 ∧ ¬ dgSum f t 17 zs = 0 then rgNo 6
  else if ¬ dgC (rdTo zs 0 2) (rdTo zs 2 2) (zs.length - 8) = 0 then rgNo 3
  else ⟨0, rdTo zs 0 2, rdTo zs 2 2, zs.drop 8⟩
def RgRes (w : World) (r : RgA) (e : Ending) (w' : World) : Prop := DatagramRes w r.c r.f r.t r.rs e w'
theorem dlOk_bd {n : Nat} (h : ¬ dlOk n = false) : 8 ≤ n ∧ n ≤ 560 := by
  have h' : dlOk n = true := by simpa using h
  exact of_decide_eq_true h'
theorem rgAns_len (f t : Int) (zs : List Int) : (rgAns f t zs).rs.length ≤ 700 := by
  unfold rgAns
  split
  · exact Nat.zero_le _
  split
  · exact Nat.zero_le _
  rename_i h1
  have := dlOk_bd h1
  split
  · exact Nat.zero_le _
  split
  · exact Nat.zero_le _
  split
  · exact Nat.zero_le _
  · simp only [List.length_drop]; omega
theorem ip_two {f t : Int} (h : ¬ (ipB f && ipB t) = false) : ipB f = true ∧ ipB t = true := by
  have h' : (ipB f && ipB t) = true := by simpa using h
  simpa [Bool.and_eq_true] using h'

theorem specReadDatagram (f t : Int) (a : Option Addr) (len cap : Nat) (zs : List Int) (w : World) (hr : Rd w a len cap zs) :
    Calls Try.prog 18 #[.int .i64 f, .int .i64 t, .slice a len cap] w (RgRes w (rgAns f t zs)) := by
  have hl := hr.length
  unfold RgRes rgAns
  split
  · rename_i h; exact specReadDatagram_ip f t a len cap w h
  rename_i h0
  obtain ⟨m0, m1⟩ := ip_two h0
  split
  · rename_i h; rw [hl] at h; exact specReadDatagram_len f t a len cap w m0 m1 h
  rename_i h1
  obtain ⟨g1, g2⟩ := dlOk_bd h1
  rw [hl] at g1 g2
  split
  · rename_i h; rw [hl] at h; exact specReadDatagram_form f t a len cap zs w hr m0 m1 g1 g2 (by simpa using h)
  rename_i h2
  have hf : (rdTo zs 4 2 != (len : Int)) = false := by rw [hl] at h2; simpa using h2
  split
  · rename_i h; exact specReadDatagram_sum f t a len cap zs w hr m0 m1 g1 g2 hf (by simpa using h.1) (by simpa using h.2)
  rename_i h3
  have hq : (rdTo zs 6 2 != 0) = false ∨ (rdTo zs 6 2 != 0) = true ∧ (dgSum f t 17 zs != 0) = false := by
    by_cases h : rdTo zs 6 2 = 0
    · exact .inl (by simpa using h)
    · exact .inr ⟨by simpa using h, by simpa using fun k => h3 ⟨h, k⟩⟩
  rw [hl]
  by_cases hcap : cap = 8
  · have hle := hr.le
    obtain rfl : len = 8 := by omega
    subst hcap
    refine (specReadDatagram_ok2 f t a zs w hr m0 m1 hf hq _ _ _ _ rfl rfl rfl rfl).mono fun e w' h => ?_
    split
    · rename_i hc; exact h.2 hc
    · rename_i hc; exact h.1 (Decidable.of_not_not hc)
  · refine (specReadDatagram_ok1 f t a len cap zs w hr m0 m1 g1 g2 hcap hf hq _ _ _ _ rfl rfl rfl rfl).mono fun e w' h => ?_
    split
    · rename_i hc; exact h.2 hc
    · rename_i hc; exact h.1 (Decidable.of_not_not hc)
end Go.Proofs.Ytmcllaefjgdbeaa

namespace Go.Proofs.Ytmcllaefjgdbeaa
open Go.ChangeShapes Go.WideShapes Go.ChangeAt Go.RowKit

/-- the sum where one byte is another one -/
theorem sumTo_set (l : List Int) (i : Nat) (y : Int) (hi : i < l.length) : ∀ k, i < k → sumTo (l.set i y) k + (if i % 2 = 0 then 256 else 1) * (l.getD i 0).toNat = sumTo l k + (if i % 2 = 0 then 256 else 1) * y.toNat
  | 0, h => absurd h (by omega)
  | k + 1, h => by
    by_cases hk : i < k
    · have ih := sumTo_set l i y hi k hk
      simp only [sumTo, getD_set l i k y hi, if_neg (show ¬ i = k by omega)]
      omega
    · obtain rfl : i = k := by omega
      have hc : sumTo (l.set i y) i = sumTo l i := sumTo_congr _ _ i (fun j hj => by rw [getD_set l i j y hi, if_neg (by omega)])
      simp only [sumTo, hc, getD_set l i i y hi, if_true]
      split <;> omega

theorem sum_zero_iff (l : List Int) : sumV l = 0 ↔ foldN (sumTo l l.length) = 65535 := by
  have := foldN_bd (sumTo l l.length)
  unfold sumV
  omega

/-- one bit turned: the byte is another one by a power of two below 256 -/
theorem sum_bit (l : List Int) (i : Nat) (y : Int) (d : Nat) (hi : i < l.length) (h8 : B8 l) (hy : 0 ≤ y) (hd : d = 1 ∨ d = 2 ∨ d = 4 ∨ d = 8 ∨ d = 16 ∨ d = 32 ∨ d = 64 ∨ d = 128) (hb : y = l.getD i 0 + d ∨ y + d = l.getD i 0) (hs : sumV l = 0) :
    ¬ sumV (l.set i y) = 0 := by
  rw [sum_zero_iff] at hs ⊢
  intro hs'
  rw [List.length_set] at hs'
  have hx := b8_getD h8 i
  have h1 := foldN_mod (sumTo l l.length)
  have h2 := foldN_mod (sumTo (l.set i y) l.length)
  rw [hs] at h1
  rw [hs'] at h2
  have h3 := sumTo_set l i y hi l.length hi
  generalize sumTo l l.length = s at *
  generalize sumTo (l.set i y) l.length = s' at *
  generalize l.getD i 0 = x at *
  obtain ⟨X, rfl⟩ := Int.eq_ofNat_of_zero_le hx.1
  obtain ⟨Y, rfl⟩ := Int.eq_ofNat_of_zero_le hy
  simp only [Int.toNat_natCast] at h3
  rcases hd with rfl | rfl | rfl | rfl | rfl | rfl | rfl | rfl <;> split at h3 <;> omega

theorem foldN_full (t : Nat) (h : foldN t = 65535) : foldN (t + 65535) = 65535 := by
  have h1 := foldN_mod t
  have h2 := foldN_mod (t + 65535)
  have h3 := foldN_pos (t + 65535) (by omega)
  have h4 := foldN_bd (t + 65535)
  omega
end Go.Proofs.Ytmcllaefjgdbeaa

namespace Go.Proofs.Ytmcllaefjgdbeaa
open Go.ChangeShapes Go.WideShapes Go.ChangeAt Go.RowKit

set_option maxRecDepth 20000 in
theorem xor_bit : ∀ x : Fin 256, ∀ k : Fin 8, bits .xor .u8 (x.val : Int) (2 ^ k.val) = (x.val : Int) + 2 ^ k.val ∨ bits .xor .u8 (x.val : Int) (2 ^ k.val) + 2 ^ k.val = (x.val : Int) := by decide +kernel

theorem xor_int (x : Int) (k : Nat) (hx : 0 ≤ x ∧ x ≤ 255) (hk : k < 8) : bits .xor .u8 x (2 ^ k) = x + 2 ^ k ∨ bits .xor .u8 x (2 ^ k) + 2 ^ k = x := by
  have := xor_bit ⟨x.toNat, by omega⟩ ⟨k, hk⟩
  simp only at this
  rwa [show ((x.toNat : Nat) : Int) = x by omega] at this
theorem pow_bits (k : Nat) (hk : k < 8) : (2 ^ k : Nat) = 1 ∨ (2 ^ k : Nat) = 2 ∨ (2 ^ k : Nat) = 4 ∨ (2 ^ k : Nat) = 8 ∨ (2 ^ k : Nat) = 16 ∨ (2 ^ k : Nat) = 32 ∨ (2 ^ k : Nat) = 64 ∨ (2 ^ k : Nat) = 128 := by
  obtain rfl | rfl | rfl | rfl | rfl | rfl | rfl | rfl : k = 0 ∨ k = 1 ∨ k = 2 ∨ k = 3 ∨ k = 4 ∨ k = 5 ∨ k = 6 ∨ k = 7 := by omega
  all_goals simp
/-- bytes that have their sum have it no more with one bit turned -/
theorem xor_sum (l : List Int) (i k : Nat) (hi : i < l.length) (hk : k < 8) (h8 : B8 l) (hs : sumV l = 0) : ¬ sumV (l.set i (bits .xor .u8 (l.getD i 0) (2 ^ k))) = 0 := by
  have hx := xor_int (l.getD i 0) k (b8_getD h8 i) hk
  exact sum_bit l i _ (2 ^ k) hi h8 (bits_within .xor .u8 (l.getD i 0) (2 ^ k)).1 (pow_bits k hk) (by simpa using hx) hs
end Go.Proofs.Ytmcllaefjgdbeaa

namespace Go.Proofs.Ytmcllaefjgdbeaa
open Go.ChangeShapes Go.WideShapes Go.ChangeAt Go.RowKit

theorem dg_form (f t df dt : Int) (zs : List Int) : ∃ p0 p1 q0 q1 l0 l1 s0 s1 : Int,
    dgL f t df dt zs = [p0, p1, q0, q1, l0, l1, s0, s1] ++ zs ∧ be df 2 = [p0, p1] ∧ be dt 2 = [q0, q1] ∧ be (8 + zs.length) 2 = [l0, l1] :=
  ⟨_, _, _, _, _, _, _, _, rfl, rfl, rfl, rfl⟩

theorem dg_sum (f t df dt : Int) (zs : List Int) : dgSum f t 17 (dgL f t df dt zs) = 0 := by
  obtain ⟨P, hP⟩ : ∃ P, P = pseudoL f t 17 ((8 + zs.length : Nat) : Int) := ⟨_, rfl⟩
  obtain ⟨H, hH⟩ : ∃ H, H = dgH df dt zs := ⟨_, rfl⟩
  have hl : H.length = 8 + zs.length := by rw [hH, dgH_len]
  have hp : P.length = 12 := by rw [hP, pseudoL_len]
  obtain ⟨v, hv⟩ : ∃ v, v = dgSum f t 17 H := ⟨_, rfl⟩
  have hv' : v = sumV (P ++ H) := by rw [hv, dgSum, hl, hP]
  have hvb : 0 ≤ v ∧ v ≤ 65535 := by rw [hv']; exact sumV_bd _
  have hT := dgT_bd v hvb
  have hL : dgL f t df dt zs = (H.set 6 (dgT v / 256)).set 7 (dgT v % 256) := by rw [hv, hH]; rfl
  have hPL : P ++ dgL f t df dt zs = ((P ++ H).set 18 (dgT v / 256)).set 19 (dgT v % 256) := by
    rw [hL, List.set_append_right _ _ (by omega), List.set_append_right _ _ (by omega), hp]
  have h0 : ((P ++ H).set 18 0).set 19 0 = P ++ H := by
    have e6 : (H.set 6 0).set 7 0 = H := by rw [hH]; rfl
    rw [List.set_append_right _ _ (by omega), List.set_append_right _ _ (by omega), hp, e6]
  obtain ⟨u, hu⟩ : ∃ u : Nat, dgT v = (u : Int) := ⟨(dgT v).toNat, by omega⟩
  obtain ⟨k, hk⟩ : ∃ k, (P ++ H).length = 18 + 2 + k := ⟨(P ++ H).length - 20, by simp; omega⟩
  have e := sumTo_two (P ++ H) 18 rfl (u / 256) (u % 256) k (by omega)
  rw [h0] at e
  have e3 : P ++ dgL f t df dt zs = ((P ++ H).set 18 ((u / 256 : Nat) : Int)).set (18 + 1) ((u % 256 : Nat) : Int) := by rw [hPL, hu]; rfl
  have hdl : (dgL f t df dt zs).length = 8 + zs.length := dgL_len f t df dt zs
  rw [dgSum, hdl, ← hP, sum_zero_iff]
  have hlen : (P ++ dgL f t df dt zs).length = 18 + 2 + k := by rw [← hk]; simp [hdl, hl]
  rw [hlen, e3, e]
  have hs : v = 65535 - foldN (sumTo (P ++ H) (18 + 2 + k)) := by rw [hv', sumV, hk]
  have hfb := foldN_bd (sumTo (P ++ H) (18 + 2 + k))
  have hseal := foldN_seal (sumTo (P ++ H) (18 + 2 + k))
  by_cases hz : v = 0
  · have hu2 : u = 65535 := by rw [dgT, if_pos hz] at hu; omega
    have hf : foldN (sumTo (P ++ H) (18 + 2 + k)) = 65535 := by omega
    have := foldN_full _ hf
    rw [hu2]
    simpa [Nat.add_assoc] using this
  · have hu2 : (u : Int) = v := by rw [← hu, dgT, if_neg hz]
    have : sumTo (P ++ H) (18 + 2 + k) + 256 * (u / 256) + u % 256 = sumTo (P ++ H) (18 + 2 + k) + (65535 - foldN (sumTo (P ++ H) (18 + 2 + k))) := by omega
    rw [this]
    exact hseal

theorem rgAns_pack (f t df dt : Int) (zs : List Int) (h : pdC f t df dt zs.length = 0) : rgAns f t (dgL f t df dt zs) = ⟨0, df, dt, zs⟩ := by
  obtain ⟨m0, m1, hd⟩ := pdC_parts h
  obtain ⟨h2, h3, h4⟩ := dgC_parts hd
  have hs := dg_sum f t df dt zs
  have hl := dgL_len f t df dt zs
  obtain ⟨p0, p1, q0, q1, l0, l1, s0, s1, hP, hp, hq, hll⟩ := dg_form f t df dt zs
  have e1 := rd_be 2 df (by omega) (by simp only [Int.reducePow]; omega)
  have e2 := rd_be 2 dt (by omega) (by simp only [Int.reducePow]; omega)
  have e3 := rd_be 2 (8 + zs.length) (by omega) (by simp only [Int.reducePow]; omega)
  rw [hp] at e1
  rw [hq] at e2
  rw [hll] at e3
  have r0 : rdTo (dgL f t df dt zs) 0 2 = df := by rw [hP]; exact e1
  have r2 : rdTo (dgL f t df dt zs) 2 2 = dt := by rw [hP]; exact e2
  have r4 : rdTo (dgL f t df dt zs) 4 2 = 8 + zs.length := by rw [hP]; exact e3
  have rd : (dgL f t df dt zs).drop 8 = zs := by rw [hP]; rfl
  unfold rgAns
  rw [if_neg (by simp [m0, m1]), if_neg (by rw [hl]; simp [dlOk]; omega), if_neg (by rw [hl, r4]; simp), if_neg (by simp [hs]), if_neg (by rw [r0, r2, hl]; simp [hd]), r0, r2, rd]

theorem rgAns_sum (f t : Int) (zs : List Int) (h : (rgAns f t zs).c = 0) : rdTo zs 6 2 = 0 ∨ dgSum f t 17 zs = 0 := by
  unfold rgAns at h
  split at h
  · simp [rgNo] at h
  split at h
  · simp [rgNo] at h
  split at h
  · simp [rgNo] at h
  split at h
  · simp [rgNo] at h
  rename_i h3
  by_cases k : rdTo zs 6 2 = 0
  · exact .inl k
  · exact .inr (Decidable.of_not_not fun k' => h3 ⟨k, k'⟩)
theorem rdTo_two (zs : List Int) (A : Nat) (h8 : B8 zs) : rdTo zs A 2 = 0 ↔ zs.getD A 0 = 0 ∧ zs.getD (A + 1) 0 = 0 := by
  have h0 := b8_getD h8 A
  have h1 := b8_getD h8 (A + 1)
  simp only [rdTo, Nat.add_zero]
  omega
theorem pseudo_b8 (f t p : Int) (n : Nat) (hp : 0 ≤ p ∧ p ≤ 255) : B8 (pseudoL f t p n) := by
  unfold pseudoL
  exact b8_app (b8_app (b8_app (b8_be 4 f) (b8_be 4 t)) (by intro m hm; simp at hm; omega)) (b8_be 2 _)
/-- one bit turned in bytes that have their sum between these addresses is told, but where the sum is 0 then -/
theorem dg_told (f t : Int) (L : List Int) (i k : Nat) (hi : i < L.length) (hk : k < 8) (h8 : B8 L) (hs : dgSum f t 17 L = 0) (h8' : B8 (L.set i (bits .xor .u8 (L.getD i 0) (2 ^ k)))) :
    ¬ (rgAns f t (L.set i (bits .xor .u8 (L.getD i 0) (2 ^ k)))).c = 0 ∨ (L.set i (bits .xor .u8 (L.getD i 0) (2 ^ k))).getD 6 0 = 0 ∧ (L.set i (bits .xor .u8 (L.getD i 0) (2 ^ k))).getD 7 0 = 0 := by
  by_cases hc : (rgAns f t (L.set i (bits .xor .u8 (L.getD i 0) (2 ^ k)))).c = 0
  · refine .inr ?_
    rcases rgAns_sum _ _ _ hc with h | h
    · exact (rdTo_two _ 6 h8').1 h
    · exfalso
      rw [dgSum, List.length_set] at h
      rw [dgSum] at hs
      have hp := pseudoL_len f t 17 L.length
      have hx := xor_sum (pseudoL f t 17 L.length ++ L) (12 + i) k (by simp; omega) hk (b8_app (pseudo_b8 f t 17 L.length (by omega)) h8) hs
      have hg : (pseudoL f t 17 L.length ++ L).getD (12 + i) 0 = L.getD i 0 := by
        rw [List.getD_eq_getElem?_getD, List.getD_eq_getElem?_getD, List.getElem?_append_right (by omega), hp]
        congr 2
        omega
      rw [hg, List.set_append_right _ _ (by omega), hp, show 12 + i - 12 = i by omega] at hx
      exact hx h
  · exact .inl hc
end Go.Proofs.Ytmcllaefjgdbeaa
