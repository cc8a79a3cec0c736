/-
  EventFault of the program, and its exact law.
-/
import Derived.Test.YtimlobhlcmghfaaE8G
namespace Go.Proofs.Ytimlobhlcmghfaa
open Go.ChangeShapes Go.WideShapes Go.ChangeAt Go.RowKit

set_option maxHeartbeats 4000000 in
theorem implEventFault (q : EventR) (w : World) (h : EventR.ok w q) :
    Calls Try.prog 66 #[.agg (EventR.cells q).toArray] w fun e w' => e = .returned (.int .i64 (evC q.f0 q.f1 q.f2 q.f3.z.length)) ∧ Below w.heap.size w w' := by
  obtain ⟨k, s, n, a, l, c, zs⟩ := q
  have hl : zs.length = l := h.length
  have hlm : l ≤ maxLen := Nat.le_trans h.le h.max
  unfold maxLen at hlm
  show Calls Try.prog 66 #[.agg #[.int .i64 k, .int .i64 s, .int .i64 n, .slice a l c]] w fun e w' => e = .returned (.int .i64 (evC k s n zs.length)) ∧ Below w.heap.size w w'
  rw [hl, evC_nd]
  clear h hl
  have KN := Lib.hid (fun W => needOf_any k W)
  have KM := Lib.hid (fun W => hasMore_any (ndA k) (ndB k) (ndH k) k s n a l c W)
  have X0 := Lib.hid (Box.new w 85 #[.int .i64 k, .int .i64 s, .int .i64 n, .slice a l c])
  have B0 := Lib.hid ((Below.refl w.heap.size w).alloc (Nat.le_refl _) (.cells #[.int .i64 k, .int .i64 s, .int .i64 n, .slice a l c] 85))
  generalize ndA k = A at *
  generalize ndB k = B at *
  generalize ndH k = H at *
  generalize ndF k = F at *
  obtain ⟨M, hM⟩ : ∃ M, M = moB A B H s n l := ⟨_, rfl⟩
  rw [← hM] at KM
  obtain ⟨E, hE⟩ : ∃ E : Int, E = if (!F || moB A B H s n l) = true then 1 else if (inB s 0 1 && inB n 0 H) = true then (if 100 < l then 2 else 0) else 3 := ⟨_, rfl⟩
  rw [← hE]
  rw [← hM] at hE
  have HE := Lib.hid hE
  clear hE hM
  cases F
  · go_enter Try.func66, Try.ntmps66
    go_wp2_with fail
    refine (KN.out _).mono ?_
    rintro e w1 ⟨rfl, b1⟩
    have B1 := Lib.hid (B0.out.trans (b1.mono B0.out.size))
    clear b1 KN KM X0 B0
    go_wp2
    go_ret
    exact ⟨ret_i (by rw [HE.out]; rfl), B1.out.alloc B1.out.size _⟩
  · go_enter Try.func66, Try.ntmps66
    go_wp2_with fail
    refine (KN.out _).mono ?_
    rintro e w1 ⟨rfl, b1⟩
    have X1 := Lib.hid (X0.out.below b1 X0.out.lt)
    have B1 := Lib.hid (B0.out.trans (b1.mono B0.out.size))
    clear b1 KN X0 B0
    have N1 := Lib.hid (Box.new w1 179 #[.bool A, .bool B, .int .i64 H])
    have XX1 := Lib.hid (X1.out.alloc (.cells #[.bool A, .bool B, .int .i64 H] 179))
    have BB1 := Lib.hid (B1.out.alloc B1.out.size (.cells #[.bool A, .bool B, .int .i64 H] 179))
    have x0 : (w1.alloc (.cells #[.bool A, .bool B, .int .i64 H] 179)).cell? ⟨w.heap.size, 0, none⟩ = some (.int .i64 k) := XX1.out.cell 0
    have x1 : (w1.alloc (.cells #[.bool A, .bool B, .int .i64 H] 179)).cell? ⟨w.heap.size, 1, none⟩ = some (.int .i64 s) := XX1.out.cell 1
    have x2 : (w1.alloc (.cells #[.bool A, .bool B, .int .i64 H] 179)).cell? ⟨w.heap.size, 2, none⟩ = some (.int .i64 n) := XX1.out.cell 2
    have x3 : (w1.alloc (.cells #[.bool A, .bool B, .int .i64 H] 179)).cell? ⟨w.heap.size, 3, none⟩ = some (.slice a l c) := XX1.out.cell 3
    clear X1 B1
    go_wp2_with fail
    refine (KM.out _).mono ?_
    rintro e w2 ⟨rfl, b2⟩
    have X2 := Lib.hid (XX1.out.below b2 XX1.out.lt)
    have N2 := Lib.hid (N1.out.below b2 N1.out.lt)
    have B2 := Lib.hid (BB1.out.trans (b2.mono BB1.out.size))
    clear b2 KM N1 XX1 BB1 x0 x1 x2 x3
    cases M
    case true =>
      go_wp2
      go_ret
      exact ⟨ret_i (by rw [HE.out]; rfl), B2.out⟩
    case false =>
      obtain ⟨Q, hQ⟩ : ∃ Q, Q = (inB s 0 1 && inB n 0 H) := ⟨_, rfl⟩
      have HQ := Lib.hid hQ
      have KW := Lib.hid (fun g t W (h : Box W g t #[.int .i64 s, .int .i64 0, .int .i64 1, .int .i64 n, .int .i64 0, .int .i64 H]) => (show Calls Try.prog 111 #[.slice (some ⟨g, 0, none⟩) 2 2] W fun e w' => e = .returned (.bool Q) ∧ Below W.heap.size W w' from by have z := within2 g t s 0 1 n 0 H W h; rw [← hQ] at z; exact z))
      clear hQ
      have y1 : w2.cell? ⟨w.heap.size, 1, none⟩ = some (.int .i64 s) := X2.out.cell 1
      have y2 : w2.cell? ⟨w.heap.size, 2, none⟩ = some (.int .i64 n) := X2.out.cell 2
      have z2 : w2.cell? ⟨w1.heap.size, 2, none⟩ = some (.int .i64 H) := N2.out.cell 2
      go_wp2_with fail
      go_region_held3 (fun W => W.cell? ⟨w.heap.size, 1, none⟩ = some (.int .i64 s) ∧ W.cell? ⟨w.heap.size, 2, none⟩ = some (.int .i64 n) ∧ W.cell? ⟨w1.heap.size, 2, none⟩ = some (.int .i64 H))
        (first | (go_split_ands; exact ⟨keepK hb (by assumption), keepK hb (by assumption), keepK hb (by assumption)⟩) | go_keep)
        (first
          | (have z := M1; clear z; go_at_call 111; refine (KW.out _ _ _ (Box.new _ _ _)).mono ?_; rintro e w4 ⟨rfl, b4⟩; have hb := b4)
          | (go_at_call 145; refine (sideBound_any s _).mono ?_; rintro e w3 ⟨rfl, b3⟩; have hb := b3; have M1 : Hid True := trivial))
      have b5 : Below w2.heap.size w2 w4 := belowStep (belowStep (belowStep (Below.refl w2.heap.size w2).drew b3) ((Below.refl w3.heap.size w3).alloc (Nat.le_refl _) (.cells #[.int .i64 s, .int .i64 0, .int .i64 1, .int .i64 n, .int .i64 0, .int .i64 H] 152))) b4
      have X4 := Lib.hid (X2.out.below b5 X2.out.lt)
      have B4 := Lib.hid (B2.out.trans (b5.mono B2.out.size))
      have v3 : w4.cell? ⟨w.heap.size, 3, none⟩ = some (.slice a l c) := X4.out.cell 3
      clear KW b5 b4 b3 hb M1 y1 y2 z2 X2 N2 B2
      cases Q
      · go_wp2
        go_ret
        exact ⟨ret_i (by rw [HE.out, ← HQ.out]; rfl), B4.out⟩
      · by_cases h100 : 100 < l
        · have h100' : (100 : Int) < (l : Int) := by omega
          go_wp2
          go_ret
          exact ⟨ret_i (by rw [HE.out, ← HQ.out]; simp [h100]), B4.out⟩
        · have h100' : ¬ (100 : Int) < (l : Int) := by omega
          go_wp2
          go_ret
          exact ⟨ret_i (by rw [HE.out, ← HQ.out]; simp [h100]), B4.out⟩

theorem exactEventFault (p : EventR) (w : World) (h : EventR.ok w p) :
    Calls Try.prog 9 #[.agg (EventR.cells p).toArray] w fun e w' => e = .returned (.bool true) ∧ Below w.heap.size w w' :=
  exactEventFault_of p (evC p.f0 p.f1 p.f2 p.f3.z.length) w h
    (fun W q g hv => by
      have e0 : q.f0 = p.f0 := congrArg EventV.f0 hv
      have e1 : q.f1 = p.f1 := congrArg EventV.f1 hv
      have e2 : q.f2 = p.f2 := congrArg EventV.f2 hv
      have e3 : q.f3.z = p.f3.z := congrArg EventV.f3 hv
      rw [← e0, ← e1, ← e2, ← e3]
      exact specEventFault q W g)
    (fun W q g hv => by
      have e0 : q.f0 = p.f0 := congrArg EventV.f0 hv
      have e1 : q.f1 = p.f1 := congrArg EventV.f1 hv
      have e2 : q.f2 = p.f2 := congrArg EventV.f2 hv
      have e3 : q.f3.z = p.f3.z := congrArg EventV.f3 hv
      rw [← e0, ← e1, ← e2, ← e3]
      exact implEventFault q W g)
end Go.Proofs.Ytimlobhlcmghfaa
