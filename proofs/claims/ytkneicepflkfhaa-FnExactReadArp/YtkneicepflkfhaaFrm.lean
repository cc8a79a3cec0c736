/-
  Contracts of the helpers of the laws over frames, and of the model's FrameFault; the law FnExactFrameFault where the program's FrameFault answers so.
-/
import Derived.Test.YtkneicepflkfhaaAppR
import Derived.Test.YtkneicepflkfhaaExPack
namespace Go.Proofs.Ytkneicepflkfhaa
open Go.ChangeShapes Go.WideShapes Go.ChangeAt Go.RowKit

theorem Box.four {w : World} {b : Nat} {t : TypeId} {x y z u : Value} (h : Box w b t #[x, y, z, u]) : b < w.heap.size ∧ w.cell? ⟨b, 0, none⟩ = some x ∧ w.cell? ⟨b, 1, none⟩ = some y ∧ w.cell? ⟨b, 2, none⟩ = some z ∧ w.cell? ⟨b, 3, none⟩ = some u := ⟨h.lt, h.cell 0, h.cell 1, h.cell 2, h.cell 3⟩

theorem szByteS_t (a : Option Addr) (len cap : Nat) (l : Int) (w : World) (h : (len : Int) ≤ l) (hl : l ≤ 1048576) :
    Calls Try.prog 39 #[.slice a len cap, .int .i64 l] w fun e w' => e = .returned (.int .i64 (l - len)) ∧ w = w' := by
  have e1 : decide (l - len < 0) = false := decide_eq_false (by omega)
  go_enter Try.func39, Try.ntmps39
  go_wp2
  go_ret
  exact ⟨rfl, rfl⟩
theorem szByteS_f (a : Option Addr) (len cap : Nat) (l : Int) (w : World) (h : ¬ (len : Int) ≤ l) (h0 : 0 ≤ l) (hl : l ≤ 1048576) (hm : len ≤ maxLen) :
    Calls Try.prog 39 #[.slice a len cap, .int .i64 l] w fun e w' => e = .returned (.int .i64 (-1)) ∧ w = w' := by
  unfold maxLen at hm
  have e1 : decide (l - len < 0) = true := decide_eq_true (by omega)
  go_enter Try.func39, Try.ntmps39
  go_wp2
  go_ret
  exact ⟨rfl, rfl⟩
theorem szFrame_t (to fr kd : Int) (a : Option Addr) (len cap : Nat) (l : Int) (w : World) (h : (len : Int) ≤ l) (hl : l ≤ 1048576) :
    Calls Try.prog 10 #[.agg #[.int .i64 to, .int .i64 fr, .int .i64 kd, .slice a len cap], .int .i64 l] w fun e w' => e = .returned (.int .i64 (l - len)) ∧ Below w.heap.size w w' := by
  have K := Lib.hid (fun W => szByteS_t a len cap l W h hl)
  have e1 : decide (l - len < 0) = false := decide_eq_false (by omega)
  go_enter Try.func10, Try.ntmps10
  go_wp2_with fail
  refine (K.out _).mono ?_
  rintro e w1 ⟨rfl, rfl⟩
  go_wp2
  go_ret
  exact ⟨rfl, (Below.refl _ _).alloc (Nat.le_refl _) _⟩
theorem szFrame_f (to fr kd : Int) (a : Option Addr) (len cap : Nat) (l : Int) (w : World) (h : ¬ (len : Int) ≤ l) (h0 : 0 ≤ l) (hl : l ≤ 1048576) (hm : len ≤ maxLen) :
    Calls Try.prog 10 #[.agg #[.int .i64 to, .int .i64 fr, .int .i64 kd, .slice a len cap], .int .i64 l] w fun e w' => e = .returned (.int .i64 (-1)) ∧ Below w.heap.size w w' := by
  have K := Lib.hid (fun W => szByteS_f a len cap l W h h0 hl hm)
  go_enter Try.func10, Try.ntmps10
  go_wp2_with fail
  refine (K.out _).mono ?_
  rintro e w1 ⟨rfl, rfl⟩
  go_wp2
  go_ret
  exact ⟨rfl, (Below.refl _ _).alloc (Nat.le_refl _) _⟩

/-- a frame of these numbers and bytes whose body is of this call's own -/
def FrameOut (w : World) (to fr kd : Int) (zs : List Int) (e : Ending) (w' : World) : Prop :=
  ∃ a' l' c', e = .returned (.agg #[.int .i64 to, .int .i64 fr, .int .i64 kd, .slice a' l' c']) ∧ Own w' w.heap.size a' l' c' zs ∧ Below w.heap.size w w'

set_option maxHeartbeats 1000000 in
theorem toFrame_any (to fr kd : Int) (a : Option Addr) (len cap : Nat) (zs : List Int) (w : World) (h : Rd w a len cap zs) (hl : len ≤ 1048576) :
    Calls Try.prog 12 #[.agg #[.int .i64 to, .int .i64 fr, .int .i64 kd, .slice a len cap]] w (FrameOut w to fr kd zs) := by
  have T := Lib.hid (fun W (hW : Below w.heap.size w W) => toByteS_any a len cap zs W (h.below hW) hl)
  clear h
  have B0 := Lib.hid ((((Below.refl w.heap.size w).alloc (Nat.le_refl _) (.cells #[.int .i64 to, .int .i64 fr, .int .i64 kd, .slice a len cap] 24)).alloc (by simp) (.cells #[.int .i64 0, .int .i64 0, .int .i64 0, .slice none 0 0] 27)).alloc (by simp; omega) (.cells #[.int .i64 to, .int .i64 fr, .int .i64 kd, .slice none 0 0] 27))
  have R0 := Lib.hid ((Box.new (w.alloc (.cells #[.int .i64 to, .int .i64 fr, .int .i64 kd, .slice a len cap] 24)) 27 #[.int .i64 0, .int .i64 0, .int .i64 0, .slice none 0 0]).alloc (.cells #[.int .i64 to, .int .i64 fr, .int .i64 kd, .slice none 0 0] 27))
  have U0 := Lib.hid (Box.new ((w.alloc (.cells #[.int .i64 to, .int .i64 fr, .int .i64 kd, .slice a len cap] 24)).alloc (.cells #[.int .i64 0, .int .i64 0, .int .i64 0, .slice none 0 0] 27)) 27 #[.int .i64 to, .int .i64 fr, .int .i64 kd, .slice none 0 0])
  go_enter Try.func12, Try.ntmps12
  go_wp2_with fail
  refine (T.out _ B0.out).mono ?_
  rintro e w1 ⟨rfl, o1, b1⟩
  have R1 := R0.out.below b1 R0.out.lt
  have U1 := U0.out.below b1 U0.out.lt
  simp only [World.size_alloc] at R1 U1 o1
  have B1 := Lib.hid (B0.out.trans (b1.mono B0.out.size))
  obtain ⟨zr, r0, r1, r2, r3⟩ := R1.four
  obtain ⟨zu, u0, u1, u2, u3⟩ := U1.four
  have fr0 := R1.frozen 0
  have fr1 := R1.frozen 1
  have fr2 := R1.frozen 2
  have fr3 := R1.frozen 3
  have fu3 := U1.frozen 3
  have O1 := Lib.hid o1
  simp only [World.size_alloc]
  clear b1 o1 B0 R0 U0 R1 U1
  go_wp2
  refine bodyPost_ret (v := .agg #[.int .i64 to, .int .i64 fr, .int .i64 kd, .slice (some ⟨w.heap.size + 1 + 1 + 1, 0, none⟩) len len]) (by simp [results, Try.results12, go_sem, r0, r1, r2, r3]) rfl ⟨_, _, _, rfl, ?_, ((((B1.out.setCell (by simp; omega) _).setCell (by simp) _).setCell (by simp) _).setCell (by simp) _).setCell (by simp) _⟩
  exact (((((O1.out.setOther _ _ (by rintro x hx; cases hx; dsimp only; omega)).setOther _ _ (by rintro x hx; cases hx; dsimp only; omega)).setOther _ _ (by rintro x hx; cases hx; dsimp only; omega)).setOther _ _ (by rintro x hx; cases hx; dsimp only; omega)).setOther _ _ (by rintro x hx; cases hx; dsimp only; omega)).rebase (by omega)

theorem eqFrame_t (to fr kd : Int) (a b : Option Addr) (la ca lb cb : Nat) (zs : List Int) (w : World) (ha : Rd w a la ca zs) (hb : Rd w b lb cb zs) :
    Calls Try.prog 14 #[.agg #[.int .i64 to, .int .i64 fr, .int .i64 kd, .slice a la ca], .agg #[.int .i64 to, .int .i64 fr, .int .i64 kd, .slice b lb cb]] w fun e w' => e = .returned (.bool true) ∧ Below w.heap.size w w' := by
  have hq : eqL zs zs = true := decide_eq_true rfl
  have K := Lib.hid (fun W (hW : Below w.heap.size w W) => eqByteS_any a b la ca lb cb zs zs W (ha.below hW) (hb.below hW))
  rw [hq] at K
  go_enter Try.func14, Try.ntmps14
  go_wp2_with fail
  refine (K.out _ (((Below.refl _ _).alloc (Nat.le_refl _) _).alloc (by simp) _)).mono ?_
  rintro e w1 ⟨rfl, hb1⟩
  go_wp2
  go_ret
  exact ⟨rfl, (((Below.refl _ _).alloc (Nat.le_refl _) _).alloc (by simp) _).trans (hb1.mono (by simp; omega))⟩

theorem keepK {W w1 : World} (hb : Below W.heap.size W w1) {p : Addr} {u : Value} (h : W.cell? p = some u) : w1.cell? p = some u := (hb.cell (World.block_lt_of_cell? _ _ h)).trans h

def frameB (to fr kd : Int) : Bool := macB to && macB fr && inB kd 0 65535
def frameC (to fr kd : Int) (n : Nat) : Int := if frameB to fr kd then (if n ≤ 600 then 0 else 2) else 3

set_option maxHeartbeats 1000000 in
theorem specFrameFault (to fr kd : Int) (a : Option Addr) (len cap : Nat) (w : World) :
    Calls Try.prog 11 #[.agg #[.int .i64 to, .int .i64 fr, .int .i64 kd, .slice a len cap]] w fun e w' => e = .returned (.int .i64 (frameC to fr kd len)) ∧ Below w.heap.size w w' := by
  have H : Hid (frameC to fr kd len = if macB to && macB fr && inB kd 0 65535 then (if len ≤ 600 then 0 else 2) else 3) := rfl
  generalize frameC to fr kd len = c at *
  have K0 := Lib.hid (fun W => l2Mac_any to W)
  have K1 := Lib.hid (fun W => l2Mac_any fr W)
  have K2 := Lib.hid (fun W => l1In_any kd 0 65535 W)
  generalize macB to = b0 at *
  generalize macB fr = b1 at *
  generalize inB kd 0 65535 = b2 at *
  by_cases hl : len ≤ 600
  all_goals
    cases b0
    case' true => cases b1
    case' true.true => cases b2
    all_goals
      go_enter Try.func11, Try.ntmps11
      go_wp2_with (first | (go_at_call 41; refine (K2.out _).mono ?_; rintro e w' ⟨rfl, rfl⟩) | (go_at_call 40; refine (K0.out _).mono ?_; rintro e w' ⟨rfl, rfl⟩) | (go_at_call 40; refine (K1.out _).mono ?_; rintro e w' ⟨rfl, rfl⟩))
      go_ret
      exact ⟨ret_i (by rw [H.out]; simp [hl]), (Below.refl _ _).alloc (Nat.le_refl _) _⟩
set_option maxHeartbeats 1000000 in
theorem exactFrameFault (to fr kd : Int) (a : Option Addr) (len cap : Nat) (zs : List Int) (w : World) (hr : Rd w a len cap zs)
    (h : ∀ (a' : Option Addr) (l' c' : Nat) (W : World), Rd W a' l' c' zs → Calls Try.prog 13 #[.agg #[.int .i64 to, .int .i64 fr, .int .i64 kd, .slice a' l' c']] W fun e w' => e = .returned (.int .i64 (frameC to fr kd zs.length)) ∧ Below W.heap.size W w') :
    Calls Try.prog 3 #[.agg #[.int .i64 to, .int .i64 fr, .int .i64 kd, .slice a len cap]] w fun e w' => e = .returned (.bool true) ∧ Below w.heap.size w w' := by
  have hm : len ≤ maxLen := Nat.le_trans hr.le hr.max
  have B0 := Lib.hid ((Below.refl w.heap.size w).alloc (Nat.le_refl _) (.cells #[.int .i64 to, .int .i64 fr, .int .i64 kd, .slice a len cap] 24))
  have A0 := Lib.hid (Box.new w 24 #[.int .i64 to, .int .i64 fr, .int .i64 kd, .slice a len cap])
  by_cases hbig : (len : Int) ≤ 1048576
  · have K := Lib.hid h
    have S := Lib.hid (fun (a' : Option Addr) (l' c' : Nat) (W : World) (hr' : Rd W a' l' c' zs) => show Calls Try.prog 11 #[.agg #[.int .i64 to, .int .i64 fr, .int .i64 kd, .slice a' l' c']] W fun e w' => e = .returned (.int .i64 (frameC to fr kd zs.length)) ∧ Below W.heap.size W w' by rw [hr'.length]; exact specFrameFault to fr kd a' l' c' W)
    have T := Lib.hid (fun W (hW : Below w.heap.size w W) => toFrame_any to fr kd a len cap zs W (hr.below hW) (by omega))
    have Z := Lib.hid (fun W => szFrame_t to fr kd a len cap 1048576 W hbig (by omega))
    have hn : decide ((1048576 : Int) - len < 0) = false := decide_eq_false (by omega)
    generalize frameC to fr kd zs.length = c at *
    have hne : (c != c) = false := by simp
    clear h hr
    go_enter Try.func3, Try.ntmps3
    go_wp2_with fail
    refine (Z.out _).mono ?_
    rintro e w1 ⟨rfl, b1⟩
    have B1 := Lib.hid (B0.out.trans (b1.mono B0.out.size))
    have A1 := Lib.hid (A0.out.below b1 A0.out.lt)
    clear b1 B0 A0
    obtain ⟨zA, p0, p1, p2, p3⟩ := A1.out.four
    go_wp2_with fail
    refine (T.out _ B1.out).mono ?_
    rintro e w2 ⟨a2, l2, c2, rfl, o2, b2⟩
    have B2 := Lib.hid (B1.out.trans (b2.mono B1.out.size))
    have A2 := Lib.hid (A1.out.below b2 A1.out.lt)
    clear b2 B1 A1 zA p0 p1 p2 p3
    go_wp2_with fail
    refine (S.out _ _ _ _ o2.rd).mono ?_
    rintro e w3 ⟨rfl, b3⟩
    have B3 := Lib.hid (B2.out.trans (b3.mono B2.out.size))
    have A3 := Lib.hid (A2.out.below b3 A2.out.lt)
    clear b3 B2 A2 o2
    obtain ⟨zA, p0, p1, p2, p3⟩ := A3.out.four
    go_wp2_with fail
    refine (T.out _ B3.out).mono ?_
    rintro e w4 ⟨a4, l4, c4, rfl, o4, b4⟩
    have B4 := Lib.hid ((B3.out.trans (b4.mono B3.out.size)).alloc (Nat.le_trans B3.out.size b4.size) (.cells #[.int .i64 to, .int .i64 fr, .int .i64 kd, .slice a4 l4 c4] 27))
    have A4 := Lib.hid ((A3.out.below b4 A3.out.lt).alloc (.cells #[.int .i64 to, .int .i64 fr, .int .i64 kd, .slice a4 l4 c4] 27))
    have X4 := Lib.hid (Box.new w4 27 #[.int .i64 to, .int .i64 fr, .int .i64 kd, .slice a4 l4 c4])
    have O4 := Lib.hid (o4.alloc (.cells #[.int .i64 to, .int .i64 fr, .int .i64 kd, .slice a4 l4 c4] 27))
    clear b4 B3 A3 o4 zA p0 p1 p2 p3
    generalize hW4 : w4.alloc (.cells #[.int .i64 to, .int .i64 fr, .int .i64 kd, .slice a4 l4 c4] 27) = W4 at *
    obtain ⟨zX, x0, x1, x2, x3⟩ := X4.out.four
    go_wp2_with fail
    clear hW4
    refine (K.out _ _ _ _ O4.out.rd).mono ?_
    rintro e w5 ⟨rfl, b5⟩
    have B5 := Lib.hid (B4.out.trans (b5.mono B4.out.size))
    have A5 := Lib.hid (A4.out.below b5 A4.out.lt)
    have X5 := Lib.hid (X4.out.below b5 X4.out.lt)
    have O5 := Lib.hid (O4.out.below b5)
    clear b5 B4 A4 X4 O4 zX x0 x1 x2 x3
    obtain ⟨zA, p0, p1, p2, p3⟩ := A5.out.four
    obtain ⟨zX, x0, x1, x2, x3⟩ := X5.out.four
    go_wp2_with fail
    go_region_held3 (fun W => W.cell? ⟨w.heap.size, 0, none⟩ = some (.int .i64 to) ∧ W.cell? ⟨w.heap.size, 1, none⟩ = some (.int .i64 fr) ∧ W.cell? ⟨w.heap.size, 2, none⟩ = some (.int .i64 kd) ∧ W.cell? ⟨w.heap.size, 3, none⟩ = some (.slice a len cap) ∧ W.cell? ⟨w4.heap.size, 0, none⟩ = some (.int .i64 to) ∧ W.cell? ⟨w4.heap.size, 1, none⟩ = some (.int .i64 fr) ∧ W.cell? ⟨w4.heap.size, 2, none⟩ = some (.int .i64 kd) ∧ W.cell? ⟨w4.heap.size, 3, none⟩ = some (.slice a4 l4 c4))
      (first | go_keep | (go_split_ands; exact ⟨keepK hb (by assumption), keepK hb (by assumption), keepK hb (by assumption), keepK hb (by assumption), keepK hb (by assumption), keepK hb (by assumption), keepK hb (by assumption), keepK hb (by assumption)⟩))
      (first
        | (go_at_call 12; refine (T.out _ B5.out.drew).mono ?_; rintro e w6 ⟨a6, l6, c6, rfl, o6, b6⟩; have hb := b6)
        | (go_at_call 14; refine (eqFrame_t _ _ _ _ _ _ _ _ _ zs _ (O5.out.drew.below b6).rd o6.rd).mono ?_; rintro e w7 ⟨rfl, b7⟩; have hb := b7))
    go_wp2
    go_ret
    exact ⟨rfl, (B5.out.drew.trans (b6.mono B5.out.drew.size)).trans (b7.mono (Nat.le_trans B5.out.drew.size b6.size))⟩
  · have Z := Lib.hid (fun W => szFrame_f to fr kd a len cap 1048576 W hbig (by omega) (by omega) hm)
    clear h hr
    go_enter Try.func3, Try.ntmps3
    go_wp2_with fail
    refine (Z.out _).mono ?_
    rintro e w1 ⟨rfl, b1⟩
    have B1 := Lib.hid (B0.out.trans (b1.mono B0.out.size))
    clear b1 B0 A0
    go_wp2
    go_ret
    exact ⟨rfl, B1.out⟩
end Go.Proofs.Ytkneicepflkfhaa
