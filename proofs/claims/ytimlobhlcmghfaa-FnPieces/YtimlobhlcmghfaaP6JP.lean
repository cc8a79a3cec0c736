/-
  joinPieces of the program.
-/
import Derived.Test.YtimlobhlcmghfaaP6W
import Derived.Test.YtimlobhlcmghfaaImPkK
import Derived.Deep.RegionHeld3
namespace Go.Proofs.Ytimlobhlcmghfaa
open Go.ChangeShapes Go.WideShapes Go.ChangeAt Go.RowKit

theorem cell_two {w : World} {n b i : Nat} {u v x : Value} (h : b ≠ n) (hx : w.cell? ⟨b, i, none⟩ = some x) : ((w.setCell ⟨n, 0, none⟩ u).setCell ⟨n, 1, none⟩ v).cell? ⟨b, i, none⟩ = some x :=
  (setc_other (fun e => h (Addr.mk.inj e).1.symm)).trans ((setc_other (fun e => h (Addr.mk.inj e).1.symm)).trans hx)
/-- behind the rest: what was there is there, the rest lies in the block n -/
structure Tl7 (W0 W : World) (n : Nat) (pk : Int) (a6 : Option Addr) (l6 c6 : Nat) : Prop where
  bel : Below W0.heap.size W0 W
  box : Box W n 133 #[.int .i64 pk, .slice a6 l6 c6]
theorem Tl7.set {W0 W : World} {n : Nat} (h : Below W0.heap.size W0 W) (hx : Box W n 133 #[.int .i64 0, .slice none 0 0]) (hn : W0.heap.size ≤ n) (pk : Int) (a6 : Option Addr) (l6 c6 : Nat) : Tl7 W0 ((W.setCell ⟨n, 0, none⟩ (.int .i64 pk)).setCell ⟨n, 1, none⟩ (.slice a6 l6 c6)) n pk a6 l6 c6 :=
  ⟨(h.setCell hn _).setCell hn _, heap_setCell_same _ n 1 _ _ _ (heap_setCell_same _ n 0 _ _ _ hx)⟩
theorem Tl7.new {W0 W : World} (h : Below W0.heap.size W0 W) (pk : Int) (a6 : Option Addr) (l6 c6 : Nat) : Tl7 W0 (W.alloc (.cells #[.int .i64 pk, .slice a6 l6 c6] 133)) W.heap.size pk a6 l6 c6 := ⟨h.alloc h.size _, Box.new _ _ _⟩

set_option maxHeartbeats 4000000 in
theorem joinPieces_any (k : Int) (a : Option Addr) (l c : Nat) (z : List Int) (k' : Int) (a' : Option Addr) (l' c' : Nat) (z' : List Int) (w : World) (h : Rd w a l c z) (h' : Rd w a' l' c' z') (hk : 0 ≤ k ∧ k + l ≤ 2000) (hk' : 0 ≤ k' ∧ k' + l' ≤ 2000) :
    Calls Try.prog 171 #[.agg #[.int .i64 k, .slice a l c], .agg #[.int .i64 k', .slice a' l' c']] w fun e w' => ∃ a'' l'' c'', e = .returned (.agg #[.int .i64 k, .slice a'' l'' c'']) ∧ Own w' w.heap.size a'' l'' c'' (z ++ (partV k' z' (k + l) (k' + l')).2) ∧ Below w.heap.size w w' := by
  obtain ⟨W0, hW0⟩ : ∃ W0, W0 = ((w.alloc (.cells #[.int .i64 k, .slice a l c] 133)).alloc (.cells #[.int .i64 k', .slice a' l' c'] 133)).alloc (.cells #[.int .i64 0, .slice none 0 0] 133) := ⟨_, rfl⟩
  have B0 : Hid (Below w.heap.size w W0) := by
    rw [hW0]
    exact (((Below.refl w.heap.size w).alloc (Nat.le_refl _) _).alloc (by simp) _).alloc (by simp; omega) _
  have X0 : Box W0 w.heap.size 133 #[.int .i64 k, .slice a l c] := by
    rw [hW0]; exact ((Box.new w 133 #[.int .i64 k, .slice a l c]).alloc _).alloc _
  have Y0 : Box W0 (w.heap.size + 1) 133 #[.int .i64 k', .slice a' l' c'] := by
    rw [hW0]
    have := (Box.new (w.alloc (.cells #[.int .i64 k, .slice a l c] 133)) 133 #[.int .i64 k', .slice a' l' c']).alloc (.cells #[.int .i64 0, .slice none 0 0] 133)
    simpa using this
  have Z0 : Box W0 (w.heap.size + 1 + 1) 133 #[.int .i64 0, .slice none 0 0] := by
    rw [hW0]
    have := Box.new ((w.alloc (.cells #[.int .i64 k, .slice a l c] 133)).alloc (.cells #[.int .i64 k', .slice a' l' c'] 133)) 133 #[.int .i64 0, .slice none 0 0]
    simpa using this
  have hn0 : W0.heap.size = w.heap.size + 1 + 1 + 1 := by rw [hW0]; simp
  have HN0 := Lib.hid hn0
  clear hn0
  have HW := Lib.hid hW0
  have X1 := Lib.hid X0
  have Y1 := Lib.hid Y0
  have Z1 := Lib.hid Z0
  have SS := Lib.hid (show ∀ W, Hid (Below W0.heap.size W0 W) → (W.cell? ⟨w.heap.size, 0, none⟩ = some (.int .i64 k) ∧ W.cell? ⟨w.heap.size, 1, none⟩ = some (.slice a l c) ∧ W.cell? ⟨w.heap.size + 1, 0, none⟩ = some (.int .i64 k') ∧ W.cell? ⟨w.heap.size + 1, 1, none⟩ = some (.slice a' l' c') ∧ Hid (Below W0.heap.size W0 W)) from fun W hW => by
    have x := X1.out.below hW.out X1.out.lt
    have y := Y1.out.below hW.out Y1.out.lt
    exact ⟨x.cell 0, x.cell 1, y.cell 0, y.cell 1, hW⟩)
  have K1 := Lib.hid (fun W => endOf_any k a l c W (by omega) (by omega) (by omega))
  have K2 := Lib.hid (fun W => endOf_any k' a' l' c' W (by omega) (by omega) (by omega))
  have KP := Lib.hid (fun W (hW : Below W0.heap.size W0 W) => partOf_any k' a' l' c' z' (k + l) (k' + l') W (h'.below (B0.out.trans (hW.mono B0.out.size))) (by omega) (by omega) (by omega) (by omega))
  have HR := Lib.hid h
  have HR' := Lib.hid h'
  have hpl : (partV k' z' (k + l) (k' + l')).2.length ≤ 2000 := by
    have := h'.length
    unfold partV
    split
    · simp
    · simp; omega
  generalize partV k' z' (k + l) (k' + l') = P at *
  obtain ⟨pk, pz⟩ := P
  simp only at hpl ⊢
  obtain ⟨x0, x1, y0, y1, _⟩ := SS.out W0 (Below.refl _ _)
  clear X0 Y0 Z0 h h' hW0
  go_enter Try.func171, Try.ntmps171
  go_wp2_with fail
  rw [← HW.out]
  clear HW
  have I0 : Hid (Below W0.heap.size W0 W0.drew) := (Below.refl _ W0).drew
  have S0 : W0.heap.size ≤ W0.drew.heap.size := Nat.le_refl _
  have KR : Hid (Below W0.heap.size W0 W0) := Below.refl _ _
  go_region_held3 (fun W => W.cell? ⟨w.heap.size, 0, none⟩ = some (.int .i64 k) ∧ W.cell? ⟨w.heap.size, 1, none⟩ = some (.slice a l c) ∧ W.cell? ⟨w.heap.size + 1, 0, none⟩ = some (.int .i64 k') ∧ W.cell? ⟨w.heap.size + 1, 1, none⟩ = some (.slice a' l' c') ∧ Hid (Below W0.heap.size W0 W))
    (first
      | (go_split_ands; refine SS.out _ ?_; (with_reducible assumption))
      | (go_split_ands; refine SS.out _ ?_; (with_reducible refine kDrew ?_); (with_reducible assumption))
      | (go_split_ands; refine SS.out _ ?_; (with_reducible refine kDrew ?_); (with_reducible refine kAlloc (Nat.le_refl _) ?_); exact KR)
      | (go_split_ands; refine SS.out _ ?_; (with_reducible refine kSet (by first | exact S6 | exact S5 | exact S4 | exact S0 | exact Nat.le_refl _) ?_); (with_reducible refine kSet (by first | exact S6 | exact S5 | exact S4 | exact S0 | exact Nat.le_refl _) ?_); (with_reducible assumption))
      | (go_split_ands; refine SS.out _ ?_; (with_reducible refine kAlloc (by first | exact S6 | exact S5 | exact S4 | exact S0) ?_); (with_reducible assumption))
      | (go_split_ands; refine SS.out _ ?_; (with_reducible refine kCall hb (by first | exact S0 | exact S4 | exact S5 | exact Nat.le_trans S0 (by simp) | exact Nat.le_trans S4 (by simp) | exact Nat.le_trans S5 (by simp)) ?_); (with_reducible assumption)))
    (first
      | (have q := M2; clear q; go_at_call 187; refine (KP.out _ (by first | exact I5.out | exact I5.out.alloc I5.out.size _)).mono ?_; rintro e w6 ⟨a6, l6, c6, rfl, r6, hb⟩; have I6 : Hid (Below W0.heap.size W0 w6) := (by first | exact I5.out.trans (hb.mono I5.out.size) | exact (I5.out.alloc I5.out.size _).trans (hb.mono (I5.out.alloc I5.out.size _).size)); have S6 : W0.heap.size ≤ w6.heap.size := I6.out.size; (first | (have NB6 := Lib.hid ((Box.new w5 133 #[.int .i64 0, .slice none 0 0]).below hb (by simp)); have z0 := NB6.out.cell 0; have z1 := NB6.out.cell 1; have g0 := NB6.out.frozen 0; have g1 := NB6.out.frozen 1; have zl := NB6.out.lt) | (have NB6 := Lib.hid (NB5.out.below hb NB5.out.lt); have z0 := NB6.out.cell 0; have z1 := NB6.out.cell 1; have g0 := NB6.out.frozen 0; have g1 := NB6.out.frozen 1; have zl := NB6.out.lt) | skip))
      | (have q := M1; clear q; go_at_call 173; refine (K2.out _).mono ?_; rintro e w5 ⟨rfl, hb⟩; have M2 : Hid True := trivial; have I5 : Hid (Below W0.heap.size W0 w5) := (by first | exact I4.out.trans (hb.mono I4.out.size) | exact (I4.out.alloc I4.out.size _).trans (hb.mono (I4.out.alloc I4.out.size _).size)); have S5 : W0.heap.size ≤ w5.heap.size := I5.out.size; (first | (have NB5 := Lib.hid ((Box.new w4 133 #[.int .i64 0, .slice none 0 0]).below hb (by simp))) | (have NB5 := Lib.hid (NB4.out.below hb NB4.out.lt)) | skip))
      | (go_at_call 173; refine (K1.out _).mono ?_; rintro e w4 ⟨rfl, hb⟩; have M1 : Hid True := trivial; have I4 : Hid (Below W0.heap.size W0 w4) := (by first | exact I0.out.trans (hb.mono I0.out.size) | exact (((Below.refl W0.heap.size W0).alloc (Nat.le_refl _) _).drew).trans (hb.mono (((Below.refl W0.heap.size W0).alloc (Nat.le_refl _) _).drew).size)); have S4 : W0.heap.size ≤ w4.heap.size := I4.out.size; (first | (have NB4 : Hid (Box w4 W0.heap.size 133 #[.int .i64 0, .slice none 0 0]) := (show Box (W0.alloc (.cells #[.int .i64 0, .slice none 0 0] 133)).drew W0.heap.size 133 #[.int .i64 0, .slice none 0 0] from Box.new W0 133 #[.int .i64 0, .slice none 0 0]).below hb (show W0.heap.size < (W0.alloc (.cells #[.int .i64 0, .slice none 0 0] 133)).heap.size by simp)) | (have NB4 := Lib.hid (NB0.out.below hb NB0.out.lt)) | skip)))
  · have F := Lib.hid (Tl7.new I6.out pk a6 l6 c6)
    generalize w6.alloc (.cells #[.int .i64 pk, .slice a6 l6 c6] 133) = W7 at *
    have r7 := Lib.hid (r6 W7 (HR'.out.below (B0.out.trans (F.out.bel.mono B0.out.size))))
    have e7 := Lib.hid (HR.out.below (B0.out.trans (F.out.bel.mono B0.out.size)))
    have z7 := Z1.out.below F.out.bel Z1.out.lt
    have q0 := (X1.out.below F.out.bel X1.out.lt).cell 0
    have q1 := (X1.out.below F.out.bel X1.out.lt).cell 1
    have q2 := F.out.box.cell 1
    have t0 := z7.cell 0
    have t1 := z7.cell 1
    have u0 := z7.frozen 0
    have u1 := z7.frozen 1
    have hz7 := z7.lt
    have B7 := Lib.hid (B0.out.trans (F.out.bel.mono B0.out.size))
    have hl6 := r7.out.length
    have hNe : ¬ w6.heap.size = w.heap.size + 1 + 1 := by have := HN0.out; have h5 : W0.heap.size ≤ w6.heap.size := S6; omega
    have h80 : Hid (w.heap.size ≠ w.heap.size + 1 + 1) := by simp only [Hid]; omega
    have h82 : Hid (w6.heap.size ≠ w.heap.size + 1 + 1) := hNe
    clear hNe
    have KC := Lib.hid (concat2 W7.heap.size 22 a a6 l c l6 c6 z pz (W7.alloc (.cells #[.slice a l c, .slice a6 l6 c6] 22)).drew (show Box (W7.alloc (.cells #[.slice a l c, .slice a6 l6 c6] 22)).drew W7.heap.size 22 #[.slice a l c, .slice a6 l6 c6] from Box.new W7 22 #[.slice a l c, .slice a6 l6 c6]) (e7.out.alloc _).drew (r7.out.alloc _).drew (by omega))
    have bA : Hid (Below W7.heap.size W7 (W7.alloc (.cells #[.slice a l c, .slice a6 l6 c6] 22)).drew) := ((Below.refl _ W7).alloc (Nat.le_refl _) _).drew
    have z8 := Lib.hid (z7.below bA.out z7.lt)
    have B8 := Lib.hid (B7.out.trans (bA.out.mono B7.out.size))
    clear z7 I6 I5 I4 S6 S5 S4 M1 M2 hb K1 K2 KP SS KR I0 S0
    go_wp2_with fail
    go_region_held3 (fun W => W.cell? ⟨w.heap.size, 0, none⟩ = some (.int .i64 k) ∧ W.cell? ⟨w.heap.size, 1, none⟩ = some (.slice a l c) ∧ W.cell? ⟨w6.heap.size, 1, none⟩ = some (.slice a6 l6 c6))
      (first | exact ⟨cell_two h80.out c80.out, cell_two h80.out c81.out, cell_two h82.out c82.out⟩ | (go_split_ands; exact ⟨keepK hb (by assumption), keepK hb (by assumption), keepK hb (by assumption)⟩) | go_keep)
      (first | (go_at_call 190; refine KC.out.mono ?_; rintro e w8 ⟨a8, l8, c8, rfl, o8, b8⟩; have hb := b8; have z9 := z8.out.below b8 z8.out.lt; have v0 := z9.cell 0; have v1 := z9.cell 1; have v2 := z9.frozen 0; have v3 := z9.frozen 1; have c80 := Lib.hid (keepK b8 (show (W7.alloc (.cells #[.slice a l c, .slice a6 l6 c6] 22)).drew.cell? _ = _ from keepK bA.out q0)); have c81 := Lib.hid (keepK b8 (show (W7.alloc (.cells #[.slice a l c, .slice a6 l6 c6] 22)).drew.cell? _ = _ from keepK bA.out q1)); have c82 := Lib.hid (keepK b8 (show (W7.alloc (.cells #[.slice a l c, .slice a6 l6 c6] 22)).drew.cell? _ = _ from keepK bA.out q2))))
    all_goals (
      have O8 := Lib.hid (o8.rebase (base' := w.heap.size) B8.out.size)
      have N8 : Hid (∀ x, a8 = some x → x.block ≠ w.heap.size + 1 + 1) := fun x hx e => by have h6 := (o8.lt x hx).1; have h7 := B8.out.size; have h8 : w.heap.size + 1 + 1 < (W7.alloc (.cells #[.slice a l c, .slice a6 l6 c6] 22)).drew.heap.size := z8.out.lt; omega
      have B9 := Lib.hid (B8.out.trans (b8.mono B8.out.size))
      clear o8 b8 hb
      go_wp2
      refine bodyPost_ret (v := .agg #[.int .i64 k, .slice a8 l8 c8]) (by simp [results, Try.results171, go_sem, v0, v1]) rfl ⟨_, _, _, rfl, (O8.out.setOther _ _ N8.out).setOther _ _ N8.out, (B9.out.setCell (by simp; omega) _).setCell (by simp; omega) _⟩)
  · have F := Lib.hid (Tl7.set I6.out NB6.out S5 pk a6 l6 c6)
    generalize (w6.setCell ⟨w5.heap.size, 0, none⟩ (.int .i64 pk)).setCell ⟨w5.heap.size, 1, none⟩ (.slice a6 l6 c6) = W7 at *
    have r7 := Lib.hid (r6 W7 (HR'.out.below (B0.out.trans (F.out.bel.mono B0.out.size))))
    have e7 := Lib.hid (HR.out.below (B0.out.trans (F.out.bel.mono B0.out.size)))
    have z7 := Z1.out.below F.out.bel Z1.out.lt
    have q0 := (X1.out.below F.out.bel X1.out.lt).cell 0
    have q1 := (X1.out.below F.out.bel X1.out.lt).cell 1
    have q2 := F.out.box.cell 1
    have t0 := z7.cell 0
    have t1 := z7.cell 1
    have u0 := z7.frozen 0
    have u1 := z7.frozen 1
    have hz7 := z7.lt
    have B7 := Lib.hid (B0.out.trans (F.out.bel.mono B0.out.size))
    have hl6 := r7.out.length
    have hNe : ¬ w5.heap.size = w.heap.size + 1 + 1 := by have := HN0.out; have h5 : W0.heap.size ≤ w5.heap.size := S5; omega
    have h80 : Hid (w.heap.size ≠ w.heap.size + 1 + 1) := by simp only [Hid]; omega
    have h82 : Hid (w5.heap.size ≠ w.heap.size + 1 + 1) := hNe
    clear hNe
    have KC := Lib.hid (concat2 W7.heap.size 22 a a6 l c l6 c6 z pz (W7.alloc (.cells #[.slice a l c, .slice a6 l6 c6] 22)).drew (show Box (W7.alloc (.cells #[.slice a l c, .slice a6 l6 c6] 22)).drew W7.heap.size 22 #[.slice a l c, .slice a6 l6 c6] from Box.new W7 22 #[.slice a l c, .slice a6 l6 c6]) (e7.out.alloc _).drew (r7.out.alloc _).drew (by omega))
    have bA : Hid (Below W7.heap.size W7 (W7.alloc (.cells #[.slice a l c, .slice a6 l6 c6] 22)).drew) := ((Below.refl _ W7).alloc (Nat.le_refl _) _).drew
    have z8 := Lib.hid (z7.below bA.out z7.lt)
    have B8 := Lib.hid (B7.out.trans (bA.out.mono B7.out.size))
    clear z7 I6 I5 I4 S6 S5 S4 M1 M2 hb K1 K2 KP SS KR I0 S0
    go_wp2_with fail
    go_region_held3 (fun W => W.cell? ⟨w.heap.size, 0, none⟩ = some (.int .i64 k) ∧ W.cell? ⟨w.heap.size, 1, none⟩ = some (.slice a l c) ∧ W.cell? ⟨w5.heap.size, 1, none⟩ = some (.slice a6 l6 c6))
      (first | exact ⟨cell_two h80.out c80.out, cell_two h80.out c81.out, cell_two h82.out c82.out⟩ | (go_split_ands; exact ⟨keepK hb (by assumption), keepK hb (by assumption), keepK hb (by assumption)⟩) | go_keep)
      (first | (go_at_call 190; refine KC.out.mono ?_; rintro e w8 ⟨a8, l8, c8, rfl, o8, b8⟩; have hb := b8; have z9 := z8.out.below b8 z8.out.lt; have v0 := z9.cell 0; have v1 := z9.cell 1; have v2 := z9.frozen 0; have v3 := z9.frozen 1; have c80 := Lib.hid (keepK b8 (show (W7.alloc (.cells #[.slice a l c, .slice a6 l6 c6] 22)).drew.cell? _ = _ from keepK bA.out q0)); have c81 := Lib.hid (keepK b8 (show (W7.alloc (.cells #[.slice a l c, .slice a6 l6 c6] 22)).drew.cell? _ = _ from keepK bA.out q1)); have c82 := Lib.hid (keepK b8 (show (W7.alloc (.cells #[.slice a l c, .slice a6 l6 c6] 22)).drew.cell? _ = _ from keepK bA.out q2))))
    all_goals (
      have O8 := Lib.hid (o8.rebase (base' := w.heap.size) B8.out.size)
      have N8 : Hid (∀ x, a8 = some x → x.block ≠ w.heap.size + 1 + 1) := fun x hx e => by have h6 := (o8.lt x hx).1; have h7 := B8.out.size; have h8 : w.heap.size + 1 + 1 < (W7.alloc (.cells #[.slice a l c, .slice a6 l6 c6] 22)).drew.heap.size := z8.out.lt; omega
      have B9 := Lib.hid (B8.out.trans (b8.mono B8.out.size))
      clear o8 b8 hb
      go_wp2
      refine bodyPost_ret (v := .agg #[.int .i64 k, .slice a8 l8 c8]) (by simp [results, Try.results171, go_sem, v0, v1]) rfl ⟨_, _, _, rfl, (O8.out.setOther _ _ N8.out).setOther _ _ N8.out, (B9.out.setCell (by simp; omega) _).setCell (by simp; omega) _⟩)
  · have F := Lib.hid (Tl7.set I6.out NB6.out S4 pk a6 l6 c6)
    generalize (w6.setCell ⟨w4.heap.size, 0, none⟩ (.int .i64 pk)).setCell ⟨w4.heap.size, 1, none⟩ (.slice a6 l6 c6) = W7 at *
    have r7 := Lib.hid (r6 W7 (HR'.out.below (B0.out.trans (F.out.bel.mono B0.out.size))))
    have e7 := Lib.hid (HR.out.below (B0.out.trans (F.out.bel.mono B0.out.size)))
    have z7 := Z1.out.below F.out.bel Z1.out.lt
    have q0 := (X1.out.below F.out.bel X1.out.lt).cell 0
    have q1 := (X1.out.below F.out.bel X1.out.lt).cell 1
    have q2 := F.out.box.cell 1
    have t0 := z7.cell 0
    have t1 := z7.cell 1
    have u0 := z7.frozen 0
    have u1 := z7.frozen 1
    have hz7 := z7.lt
    have B7 := Lib.hid (B0.out.trans (F.out.bel.mono B0.out.size))
    have hl6 := r7.out.length
    have hNe : ¬ w4.heap.size = w.heap.size + 1 + 1 := by have := HN0.out; have h5 : W0.heap.size ≤ w4.heap.size := S4; omega
    have h80 : Hid (w.heap.size ≠ w.heap.size + 1 + 1) := by simp only [Hid]; omega
    have h82 : Hid (w4.heap.size ≠ w.heap.size + 1 + 1) := hNe
    clear hNe
    have KC := Lib.hid (concat2 W7.heap.size 22 a a6 l c l6 c6 z pz (W7.alloc (.cells #[.slice a l c, .slice a6 l6 c6] 22)).drew (show Box (W7.alloc (.cells #[.slice a l c, .slice a6 l6 c6] 22)).drew W7.heap.size 22 #[.slice a l c, .slice a6 l6 c6] from Box.new W7 22 #[.slice a l c, .slice a6 l6 c6]) (e7.out.alloc _).drew (r7.out.alloc _).drew (by omega))
    have bA : Hid (Below W7.heap.size W7 (W7.alloc (.cells #[.slice a l c, .slice a6 l6 c6] 22)).drew) := ((Below.refl _ W7).alloc (Nat.le_refl _) _).drew
    have z8 := Lib.hid (z7.below bA.out z7.lt)
    have B8 := Lib.hid (B7.out.trans (bA.out.mono B7.out.size))
    clear z7 I6 I5 I4 S6 S5 S4 M1 M2 hb K1 K2 KP SS KR I0 S0
    go_wp2_with fail
    go_region_held3 (fun W => W.cell? ⟨w.heap.size, 0, none⟩ = some (.int .i64 k) ∧ W.cell? ⟨w.heap.size, 1, none⟩ = some (.slice a l c) ∧ W.cell? ⟨w4.heap.size, 1, none⟩ = some (.slice a6 l6 c6))
      (first | exact ⟨cell_two h80.out c80.out, cell_two h80.out c81.out, cell_two h82.out c82.out⟩ | (go_split_ands; exact ⟨keepK hb (by assumption), keepK hb (by assumption), keepK hb (by assumption)⟩) | go_keep)
      (first | (go_at_call 190; refine KC.out.mono ?_; rintro e w8 ⟨a8, l8, c8, rfl, o8, b8⟩; have hb := b8; have z9 := z8.out.below b8 z8.out.lt; have v0 := z9.cell 0; have v1 := z9.cell 1; have v2 := z9.frozen 0; have v3 := z9.frozen 1; have c80 := Lib.hid (keepK b8 (show (W7.alloc (.cells #[.slice a l c, .slice a6 l6 c6] 22)).drew.cell? _ = _ from keepK bA.out q0)); have c81 := Lib.hid (keepK b8 (show (W7.alloc (.cells #[.slice a l c, .slice a6 l6 c6] 22)).drew.cell? _ = _ from keepK bA.out q1)); have c82 := Lib.hid (keepK b8 (show (W7.alloc (.cells #[.slice a l c, .slice a6 l6 c6] 22)).drew.cell? _ = _ from keepK bA.out q2))))
    all_goals (
      have O8 := Lib.hid (o8.rebase (base' := w.heap.size) B8.out.size)
      have N8 : Hid (∀ x, a8 = some x → x.block ≠ w.heap.size + 1 + 1) := fun x hx e => by have h6 := (o8.lt x hx).1; have h7 := B8.out.size; have h8 : w.heap.size + 1 + 1 < (W7.alloc (.cells #[.slice a l c, .slice a6 l6 c6] 22)).drew.heap.size := z8.out.lt; omega
      have B9 := Lib.hid (B8.out.trans (b8.mono B8.out.size))
      clear o8 b8 hb
      go_wp2
      refine bodyPost_ret (v := .agg #[.int .i64 k, .slice a8 l8 c8]) (by simp [results, Try.results171, go_sem, v0, v1]) rfl ⟨_, _, _, rfl, (O8.out.setOther _ _ N8.out).setOther _ _ N8.out, (B9.out.setCell (by simp; omega) _).setCell (by simp; omega) _⟩)
  · have F := Lib.hid (Tl7.set I6.out NB6.out (Nat.le_refl _) pk a6 l6 c6)
    generalize (w6.setCell ⟨W0.heap.size, 0, none⟩ (.int .i64 pk)).setCell ⟨W0.heap.size, 1, none⟩ (.slice a6 l6 c6) = W7 at *
    have r7 := Lib.hid (r6 W7 (HR'.out.below (B0.out.trans (F.out.bel.mono B0.out.size))))
    have e7 := Lib.hid (HR.out.below (B0.out.trans (F.out.bel.mono B0.out.size)))
    have z7 := Z1.out.below F.out.bel Z1.out.lt
    have q0 := (X1.out.below F.out.bel X1.out.lt).cell 0
    have q1 := (X1.out.below F.out.bel X1.out.lt).cell 1
    have q2 := F.out.box.cell 1
    have t0 := z7.cell 0
    have t1 := z7.cell 1
    have u0 := z7.frozen 0
    have u1 := z7.frozen 1
    have hz7 := z7.lt
    have B7 := Lib.hid (B0.out.trans (F.out.bel.mono B0.out.size))
    have hl6 := r7.out.length
    have hNe : ¬ W0.heap.size = w.heap.size + 1 + 1 := by have := HN0.out; have h5 : W0.heap.size ≤ W0.heap.size := (Nat.le_refl _); omega
    have h80 : Hid (w.heap.size ≠ w.heap.size + 1 + 1) := by simp only [Hid]; omega
    have h82 : Hid (W0.heap.size ≠ w.heap.size + 1 + 1) := hNe
    clear hNe
    have KC := Lib.hid (concat2 W7.heap.size 22 a a6 l c l6 c6 z pz (W7.alloc (.cells #[.slice a l c, .slice a6 l6 c6] 22)).drew (show Box (W7.alloc (.cells #[.slice a l c, .slice a6 l6 c6] 22)).drew W7.heap.size 22 #[.slice a l c, .slice a6 l6 c6] from Box.new W7 22 #[.slice a l c, .slice a6 l6 c6]) (e7.out.alloc _).drew (r7.out.alloc _).drew (by omega))
    have bA : Hid (Below W7.heap.size W7 (W7.alloc (.cells #[.slice a l c, .slice a6 l6 c6] 22)).drew) := ((Below.refl _ W7).alloc (Nat.le_refl _) _).drew
    have z8 := Lib.hid (z7.below bA.out z7.lt)
    have B8 := Lib.hid (B7.out.trans (bA.out.mono B7.out.size))
    clear z7 I6 I5 I4 S6 S5 S4 M1 M2 hb K1 K2 KP SS KR I0 S0
    go_wp2_with fail
    go_region_held3 (fun W => W.cell? ⟨w.heap.size, 0, none⟩ = some (.int .i64 k) ∧ W.cell? ⟨w.heap.size, 1, none⟩ = some (.slice a l c) ∧ W.cell? ⟨W0.heap.size, 1, none⟩ = some (.slice a6 l6 c6))
      (first | exact ⟨cell_two h80.out c80.out, cell_two h80.out c81.out, cell_two h82.out c82.out⟩ | (go_split_ands; exact ⟨keepK hb (by assumption), keepK hb (by assumption), keepK hb (by assumption)⟩) | go_keep)
      (first | (go_at_call 190; refine KC.out.mono ?_; rintro e w8 ⟨a8, l8, c8, rfl, o8, b8⟩; have hb := b8; have z9 := z8.out.below b8 z8.out.lt; have v0 := z9.cell 0; have v1 := z9.cell 1; have v2 := z9.frozen 0; have v3 := z9.frozen 1; have c80 := Lib.hid (keepK b8 (show (W7.alloc (.cells #[.slice a l c, .slice a6 l6 c6] 22)).drew.cell? _ = _ from keepK bA.out q0)); have c81 := Lib.hid (keepK b8 (show (W7.alloc (.cells #[.slice a l c, .slice a6 l6 c6] 22)).drew.cell? _ = _ from keepK bA.out q1)); have c82 := Lib.hid (keepK b8 (show (W7.alloc (.cells #[.slice a l c, .slice a6 l6 c6] 22)).drew.cell? _ = _ from keepK bA.out q2))))
    all_goals (
      have O8 := Lib.hid (o8.rebase (base' := w.heap.size) B8.out.size)
      have N8 : Hid (∀ x, a8 = some x → x.block ≠ w.heap.size + 1 + 1) := fun x hx e => by have h6 := (o8.lt x hx).1; have h7 := B8.out.size; have h8 : w.heap.size + 1 + 1 < (W7.alloc (.cells #[.slice a l c, .slice a6 l6 c6] 22)).drew.heap.size := z8.out.lt; omega
      have B9 := Lib.hid (B8.out.trans (b8.mono B8.out.size))
      clear o8 b8 hb
      go_wp2
      refine bodyPost_ret (v := .agg #[.int .i64 k, .slice a8 l8 c8]) (by simp [results, Try.results171, go_sem, v0, v1]) rfl ⟨_, _, _, rfl, (O8.out.setOther _ _ N8.out).setOther _ _ N8.out, (B9.out.setCell (by simp; omega) _).setCell (by simp; omega) _⟩)
end Go.Proofs.Ytimlobhlcmghfaa
