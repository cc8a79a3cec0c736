/-
  EndFault of both sides, and its exact law.
-/
import Derived.Test.YtimlobhlcmghfaaD4Bd
import Derived.Test.YtimlobhlcmghfaaKG
import Derived.Test.YtimlobhlcmghfaaOpen
namespace Go.Proofs.Ytimlobhlcmghfaa
open Go.ChangeShapes Go.WideShapes Go.ChangeAt Go.RowKit

/-- EndFault: of a port, a first number, two caps, an mss -/
def efB (p f s r m : Int) : Bool := inB p 1 65535 && (inB f 0 4294967295 && (inB s 1 200 && (inB r 1 200 && inB m 1 520)))
def efC (p f s r m : Int) : Int := if efB p f s r m = true then 0 else 3
theorem port8_any (n : Int) (w : World) : Calls Try.prog 136 #[.int .i64 n] w fun e w' => e = .returned (.bool (inB n 1 65535)) ∧ w = w' := by
  go_enter Try.func136, Try.ntmps136
  go_wp2_with (first | (go_at_call 102; refine (l1In_any _ _ _ _).mono ?_; rintro e w' ⟨rfl, rfl⟩))
  go_ret
  exact ⟨rfl, rfl⟩
theorem seq8_any (n : Int) (w : World) : Calls Try.prog 137 #[.int .i64 n] w fun e w' => e = .returned (.bool (inB n 0 4294967295)) ∧ w = w' := by
  go_enter Try.func137, Try.ntmps137
  go_wp2_with (first | (go_at_call 102; refine (l1In_any _ _ _ _).mono ?_; rintro e w' ⟨rfl, rfl⟩))
  go_ret
  exact ⟨rfl, rfl⟩
set_option maxHeartbeats 2000000 in
theorem specEndFault (p f s r m : Int) (l : Bool) (w : World) :
    Calls Try.prog 60 #[.agg #[.int .i64 p, .int .i64 f, .int .i64 s, .int .i64 r, .int .i64 m, .bool l]] w fun e w' => e = .returned (.int .i64 (efC p f s r m)) ∧ Below w.heap.size w w' := by
  have B0 := Lib.hid ((Below.refl w.heap.size w).alloc (Nat.le_refl _) (.cells #[.int .i64 p, .int .i64 f, .int .i64 s, .int .i64 r, .int .i64 m, .bool l] 78))
  have H : Hid (efC p f s r m = if (inB p 1 65535 && (inB f 0 4294967295 && (inB s 1 200 && (inB r 1 200 && inB m 1 520)))) = true then 0 else 3) := rfl
  generalize efC p f s r m = C at *
  cases m0 : inB p 1 65535
  case' true => cases m1 : inB f 0 4294967295
  case' true.true => cases m2 : inB s 1 200
  case' true.true.true => cases m3 : inB r 1 200
  case' true.true.true.true => cases m4 : inB m 1 520
  all_goals
    go_enter Try.func60, Try.ntmps60
    go_wp2_with (first
      | (go_at_call 136; refine (port8_any _ _).mono ?_; rintro e w' ⟨rfl, rfl⟩)
      | (go_at_call 137; refine (seq8_any _ _).mono ?_; rintro e w' ⟨rfl, rfl⟩)
      | (go_at_call 102; refine (l1In_any _ _ _ _).mono ?_; rintro e w' ⟨rfl, rfl⟩))
    go_ret
    exact ⟨ret_i (by rw [H.out]; simp [*]), B0.out⟩

theorem seqBound8_any (n : Int) (w : World) : Calls Try.prog 139 #[.int .i64 n] w fun e w' => e = .returned (.agg #[.int .i64 n, .int .i64 0, .int .i64 4294967295]) ∧ Below w.heap.size w w' := by
  go_enter Try.func139, Try.ntmps139
  go_wp2
  exact bodyPost_ret (v := .agg #[.int .i64 n, .int .i64 0, .int .i64 4294967295]) (by simp [results, Try.results139, go_sem]) rfl ⟨rfl, (Below.refl _ _).alloc (Nat.le_refl _) _⟩
theorem capBound_any (n : Int) (w : World) : Calls Try.prog 140 #[.int .i64 n] w fun e w' => e = .returned (.agg #[.int .i64 n, .int .i64 1, .int .i64 200]) ∧ Below w.heap.size w w' := by
  go_enter Try.func140, Try.ntmps140
  go_wp2
  exact bodyPost_ret (v := .agg #[.int .i64 n, .int .i64 1, .int .i64 200]) (by simp [results, Try.results140, go_sem]) rfl ⟨rfl, (Below.refl _ _).alloc (Nat.le_refl _) _⟩
theorem within5 (g : Nat) (t : TypeId) (p f s r m : Int) (w : World) (h : Box w g t #[.int .i64 p, .int .i64 1, .int .i64 65535, .int .i64 f, .int .i64 0, .int .i64 4294967295, .int .i64 s, .int .i64 1, .int .i64 200, .int .i64 r, .int .i64 1, .int .i64 200, .int .i64 m, .int .i64 1, .int .i64 520]) :
    Calls Try.prog 111 #[.slice (some ⟨g, 0, none⟩) 5 5] w fun e w' => e = .returned (.bool (efB p f s r m)) ∧ Below w.heap.size w w' := by
  have := areWithin_any g [⟨p, 1, 65535⟩, ⟨f, 0, 4294967295⟩, ⟨s, 1, 200⟩, ⟨r, 1, 200⟩, ⟨m, 1, 520⟩] w (by
    intro i x hx
    match i with
    | 0 => simp at hx; subst hx; exact ⟨h.cell 0, h.cell 1, h.cell 2⟩
    | 1 => simp at hx; subst hx; exact ⟨h.cell 3, h.cell 4, h.cell 5⟩
    | 2 => simp at hx; subst hx; exact ⟨h.cell 6, h.cell 7, h.cell 8⟩
    | 3 => simp at hx; subst hx; exact ⟨h.cell 9, h.cell 10, h.cell 11⟩
    | 4 => simp at hx; subst hx; exact ⟨h.cell 12, h.cell 13, h.cell 14⟩
    | k + 5 => simp at hx) (by simp)
  simpa [bdB, efB] using this
set_option maxHeartbeats 4000000 in
theorem implEndFault (p f s r m : Int) (l : Bool) (w : World) :
    Calls Try.prog 62 #[.agg #[.int .i64 p, .int .i64 f, .int .i64 s, .int .i64 r, .int .i64 m, .bool l]] w fun e w' => e = .returned (.int .i64 (efC p f s r m)) ∧ Below w.heap.size w w' := by
  have B0 := Lib.hid (((Below.refl w.heap.size w).alloc (Nat.le_refl _) (.cells #[.int .i64 p, .int .i64 f, .int .i64 s, .int .i64 r, .int .i64 m, .bool l] 78)).alloc (by simp) (.cells #[.int .i64 m, .int .i64 1, .int .i64 520] 152))
  have X0 := (Box.new w 78 #[.int .i64 p, .int .i64 f, .int .i64 s, .int .i64 r, .int .i64 m, .bool l]).alloc (.cells #[.int .i64 m, .int .i64 1, .int .i64 520] 152)
  have Y0 := Box.new (w.alloc (.cells #[.int .i64 p, .int .i64 f, .int .i64 s, .int .i64 r, .int .i64 m, .bool l] 78)) 152 #[.int .i64 m, .int .i64 1, .int .i64 520]
  simp only [World.size_alloc] at Y0
  obtain ⟨W0, hW⟩ : ∃ W, W = (w.alloc (.cells #[.int .i64 p, .int .i64 f, .int .i64 s, .int .i64 r, .int .i64 m, .bool l] 78)).alloc (.cells #[.int .i64 m, .int .i64 1, .int .i64 520] 152) := ⟨_, rfl⟩
  rw [← hW] at B0 X0 Y0
  have HW := Lib.hid hW
  obtain ⟨Q, hQ⟩ : ∃ Q, Q = efB p f s r m := ⟨_, rfl⟩
  have H : Hid (efC p f s r m = if Q = true then 0 else 3) := by rw [hQ]; rfl
  have KW := Lib.hid (fun g t W h => by have z := within5 g t p f s r m W h; rw [← hQ] at z; exact z)
  generalize efC p f s r m = C at *
  have x0 : W0.cell? ⟨w.heap.size, 0, none⟩ = some (.int .i64 p) := X0.cell 0
  have x1 : W0.cell? ⟨w.heap.size, 1, none⟩ = some (.int .i64 f) := X0.cell 1
  have x2 : W0.cell? ⟨w.heap.size, 2, none⟩ = some (.int .i64 s) := X0.cell 2
  have x3 : W0.cell? ⟨w.heap.size, 3, none⟩ = some (.int .i64 r) := X0.cell 3
  have y0 : W0.cell? ⟨w.heap.size + 1, 0, none⟩ = some (.int .i64 m) := Y0.cell 0
  have y1 : W0.cell? ⟨w.heap.size + 1, 1, none⟩ = some (.int .i64 1) := Y0.cell 1
  have y2 : W0.cell? ⟨w.heap.size + 1, 2, none⟩ = some (.int .i64 520) := Y0.cell 2
  clear X0 Y0 hW hQ
  go_enter Try.func62, Try.ntmps62
  go_wp2_with fail
  rw [← HW.out]
  clear HW
  go_region_held3 (fun W => W.cell? ⟨w.heap.size, 0, none⟩ = some (.int .i64 p) ∧ W.cell? ⟨w.heap.size, 1, none⟩ = some (.int .i64 f) ∧ W.cell? ⟨w.heap.size, 2, none⟩ = some (.int .i64 s) ∧ W.cell? ⟨w.heap.size, 3, none⟩ = some (.int .i64 r) ∧ W.cell? ⟨w.heap.size + 1, 0, none⟩ = some (.int .i64 m) ∧ W.cell? ⟨w.heap.size + 1, 1, none⟩ = some (.int .i64 1) ∧ W.cell? ⟨w.heap.size + 1, 2, none⟩ = some (.int .i64 520))
    (first | (go_split_ands; exact ⟨keepK hb (by assumption), keepK hb (by assumption), keepK hb (by assumption), keepK hb (by assumption), keepK hb (by assumption), keepK hb (by assumption), keepK hb (by assumption)⟩) | go_keep)
    (first
      | (have z := M4; clear z; go_at_call 111; refine (KW.out _ _ _ (Box.new _ _ _)).mono ?_; rintro e w5 ⟨rfl, b5⟩; have hb := b5)
      | (have z := M3; clear z; go_at_call 140; refine (capBound_any r _).mono ?_; rintro e w4 ⟨rfl, b4⟩; have hb := b4; have M4 : Hid True := trivial)
      | (have z := M2; clear z; go_at_call 140; refine (capBound_any s _).mono ?_; rintro e w3 ⟨rfl, b3⟩; have hb := b3; have M3 : Hid True := trivial)
      | (have z := M1; clear z; go_at_call 139; refine (seqBound8_any f _).mono ?_; rintro e w2 ⟨rfl, b2⟩; have hb := b2; have M2 : Hid True := trivial)
      | (go_at_call 138; refine (portBound_any p _).mono ?_; rintro e w1 ⟨rfl, b1⟩; have hb := b1; have M1 : Hid True := trivial))
  have B5 := Lib.hid (B0.out.trans ((belowStep (belowStep (belowStep (belowStep (belowStep (belowStep (Below.refl W0.heap.size W0).drew b1) b2) b3) b4) ((Below.refl w4.heap.size w4).alloc (Nat.le_refl _) (.cells #[.int .i64 p, .int .i64 1, .int .i64 65535, .int .i64 f, .int .i64 0, .int .i64 4294967295, .int .i64 s, .int .i64 1, .int .i64 200, .int .i64 r, .int .i64 1, .int .i64 200, .int .i64 m, .int .i64 1, .int .i64 520] 152))) b5).mono B0.out.size))
  clear b1 b2 b3 b4 b5 hb M1 M2 M3 M4 x0 x1 x2 x3 y0 y1 y2 KW
  cases Q
  · go_wp2
    go_ret
    exact ⟨ret_i (by rw [H.out]; rfl), B5.out⟩
  · go_wp2
    go_ret
    exact ⟨ret_i (by rw [H.out]; rfl), B5.out⟩

theorem toEndConfig_any (p f s r m : Int) (l : Bool) (w : World) :
    Calls Try.prog 61 #[.agg #[.int .i64 p, .int .i64 f, .int .i64 s, .int .i64 r, .int .i64 m, .bool l]] w fun e w' => e = .returned (.agg #[.int .i64 p, .int .i64 f, .int .i64 s, .int .i64 r, .int .i64 m, .bool l]) ∧ Below w.heap.size w w' := by
  go_enter Try.func61, Try.ntmps61
  go_wp2
  refine bodyPost_ret (v := .agg #[.int .i64 p, .int .i64 f, .int .i64 s, .int .i64 r, .int .i64 m, .bool l]) (by simp [results, Try.results61, go_sem]) rfl ⟨rfl, ?_⟩
  exact (((Below.refl w.heap.size w).alloc (Nat.le_refl _) (.cells #[.int .i64 p, .int .i64 f, .int .i64 s, .int .i64 r, .int .i64 m, .bool l] 76)).alloc (by simp) (.cells #[.int .i64 p, .int .i64 f, .int .i64 s, .int .i64 r, .int .i64 m, .bool l] 78)).alloc (by simp; omega) (.cells #[.int .i64 p, .int .i64 f, .int .i64 s, .int .i64 r, .int .i64 m, .bool l] 78)
set_option maxHeartbeats 1000000 in
theorem endFault_law (p f s r m : Int) (l : Bool) (w : World) :
    Calls Try.prog 8 #[.agg #[.int .i64 p, .int .i64 f, .int .i64 s, .int .i64 r, .int .i64 m, .bool l]] w fun e w' => e = .returned (.bool true) ∧ Below w.heap.size w w' := by
  have B0 := Lib.hid ((Below.refl w.heap.size w).alloc (Nat.le_refl _) (.cells #[.int .i64 p, .int .i64 f, .int .i64 s, .int .i64 r, .int .i64 m, .bool l] 76))
  have X0 := Lib.hid (Box.new w 76 #[.int .i64 p, .int .i64 f, .int .i64 s, .int .i64 r, .int .i64 m, .bool l])
  have T := Lib.hid (fun W => toEndConfig_any p f s r m l W)
  have K1 := Lib.hid (fun W => specEndFault p f s r m l W)
  have K2 := Lib.hid (fun W => implEndFault p f s r m l W)
  generalize efC p f s r m = c at *
  have hne : (c != c) = false := by simp
  go_enter Try.func8, Try.ntmps8
  go_wp2_with fail
  refine (T.out _).mono ?_
  rintro e w1 ⟨rfl, b1⟩
  have X1 := Lib.hid (X0.out.below b1 X0.out.lt)
  have B1 := Lib.hid (B0.out.trans (b1.mono B0.out.size))
  clear b1 B0 X0
  go_wp2_with fail
  refine (K1.out _).mono ?_
  rintro e w2 ⟨rfl, b2⟩
  have X2 := X1.out.below b2 X1.out.lt
  have x0 := X2.cell 0
  have x1 := X2.cell 1
  have x2 := X2.cell 2
  have x3 := X2.cell 3
  have x4 := X2.cell 4
  have x5 := X2.cell 5
  have B2 := Lib.hid (B1.out.trans (b2.mono B1.out.size))
  clear b2 B1 X1 X2
  go_wp2_with fail
  refine (T.out _).mono ?_
  rintro e w3 ⟨rfl, b3⟩
  have B3 := Lib.hid (B2.out.trans (b3.mono B2.out.size))
  clear b3 B2 x0 x1 x2 x3 x4 x5
  go_wp2_with fail
  refine (K2.out _).mono ?_
  rintro e w4 ⟨rfl, b4⟩
  have B4 := Lib.hid (B3.out.trans (b4.mono B3.out.size))
  clear b4 B3
  go_wp2
  go_ret
  exact ⟨rfl, B4.out⟩
end Go.Proofs.Ytimlobhlcmghfaa
