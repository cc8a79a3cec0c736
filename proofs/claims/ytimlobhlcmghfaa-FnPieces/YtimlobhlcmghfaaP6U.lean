/-
  PutPiece of the model, and what a list without a fault is as mathematics.
-/
import Derived.Test.YtimlobhlcmghfaaP6B
import Derived.Test.YtimlobhlcmghfaaP6L
namespace Go.Proofs.Ytimlobhlcmghfaa
open Go.ChangeShapes Go.WideShapes Go.ChangeAt Go.RowKit

theorem pf2_right {vs : List (Int × List Int)} (h1 : pf1 vs = 0) (h2 : pf2 vs = 0) (lo : Nat) (hlo : ∀ v ∈ vs.head?, (lo : Int) ≤ v.1) (hb : lo ≤ 2001) : right6 lo (vs.map toPc) ∧ nxt6 lo (vs.map toPc) ≤ 2001 := by
  induction vs generalizing lo with
  | nil => exact ⟨trivial, hb⟩
  | cons v vs ih =>
    have hz := pf1_zero h1 v (List.mem_cons_self ..)
    have h1' : pf1 vs = 0 := by
      rw [pf1] at h1
      split at h1
      · split at h1
        · omega
        · exact h1
      · omega
    have hf : (toPc v).fin = v.1.toNat + v.2.length := rfl
    have hlv := hlo v rfl
    have key := ih h1' (by
      cases vs with
      | nil => rfl
      | cons u us =>
        rw [pf2] at h2
        split at h2
        · omega
        · exact h2) ((toPc v).fin + 1) (by
      intro u hu
      cases vs with
      | nil => cases hu
      | cons u' us =>
        cases hu
        rw [pf2] at h2
        split at h2
        · omega
        · rw [hf]; omega) (by rw [hf]; omega)
    refine ⟨⟨?_, ?_, key.1⟩, key.2⟩
    · show lo ≤ v.1.toNat
      omega
    · intro e
      have e' : v.2 = [] := e
      rw [e'] at hz
      exact hz.2.2 rfl
theorem pfV_right {vs : List (Int × List Int)} (h : pfV vs = 0) : right6 0 (vs.map toPc) ∧ nxt6 0 (vs.map toPc) ≤ 2001 := by
  have h1 := pfV_short h
  have h2 : pf2 vs = 0 := by rw [← pfV_two (by omega) h1.2]; exact h
  refine pf2_right h1.2 h2 0 (fun v hv => ?_) (by omega)
  have := pf1_zero h1.2 v (List.mem_of_mem_head? hv)
  omega
theorem pfV_of {vs : List (Int × List Int)} (h : pfV vs = 0) : (vs.map toPc).map ofPc = vs := map_of_to (fun v hv => (pf1_zero (pfV_short h).2 v hv).1)

/-- what is there when zs is put at x, without a fault -/
def putV (vs : List (Int × List Int)) (x : Int) (zs : List Int) : List (Int × List Int) := (putL (vs.map toPc) x.toNat zs).map ofPc
def puC (vs : List (Int × List Int)) (x : Int) (zs : List Int) : Int := if pfV vs = 0 then (if spanB x zs.length = true then (if (putV vs x zs).length ≤ 4 then 0 else 7) else 3) else pfV vs
def puL (vs : List (Int × List Int)) (x : Int) (zs : List Int) : List (Int × List Int) := if puC vs x zs = 0 then putV vs x zs else []
theorem putV_nil {vs : List (Int × List Int)} {x : Int} (h : pfV vs = 0) : putV vs x [] = vs := by
  unfold putV
  have hr := pfV_right h
  rw [putL_nil hr.1 hr.2, pfV_of h]
theorem sumV_of (ps : List Pc) : sumV (ps.map ofPc) = sumD ps := by
  induction ps with
  | nil => rfl
  | cons p ps ih => simp only [List.map_cons, sumV, sumD, ih]; rfl
theorem pu_bound (vs : List (Int × List Int)) (x : Int) (zs : List Int) (h : szV vs ≤ 1048576) (_ : zs.length ≤ 1048576) : szV (puL vs x zs) ≤ 2097152 ∧ ([] : List Int).length ≤ 2097152 := by
  refine ⟨?_, by simp⟩
  unfold puL
  split
  · rename_i hc
    unfold puC at hc
    split at hc
    · rename_i hp
      split at hc
      · rename_i hs
        split at hc
        · rename_i hl
          have hsp := of_decide_eq_true hs
          have hr := pfV_right hp
          have hh := (putL_held (k := x.toNat) (d := zs) hr.1 hr.2 (by omega)).2
          unfold szV
          have e1 : sumV (putV vs x zs) = sumD (putL (vs.map toPc) x.toNat zs) := sumV_of _
          have e2 : sumD (vs.map toPc) = sumV vs := by rw [← sumV_of, pfV_of hp]
          unfold szV at h
          omega
        · omega
      · omega
    · omega
  · simp [szV, sumV]

/-- l6Put, with bytes or none -/
theorem l6Put_all (a : Option Addr) (len cap : Nat) (ps : List Pm) (x : Int) (b : Option Addr) (lb cb : Nat) (zs : List Int) (w : World) (h : Pl w a len cap ps) (hr : Rd w b lb cb zs) (hf : pfV (vals ps) = 0) (hs : spanB x lb = true) :
    Calls Try.prog 103 #[.slice a len cap, .int .i64 x, .slice b lb cb] w (CloneOut w (putV (vals ps) x zs).length (putV (vals ps) x zs)) := by
  have hp := ok_parts h hf
  have hsp := of_decide_eq_true hs
  by_cases h0 : lb = 0
  · subst h0
    have hz : zs = [] := List.length_eq_zero_iff.1 hr.length
    have hd : ∀ p ∈ ps, p.l ≤ 1048576 := fun p hpp => by have := hp.2 p hpp; omega
    have K := Lib.hid (l6Copy_any a len cap ps w h (by omega) hd)
    have hl : len = (vals ps).length := by rw [vals_len, h.lb.length]
    rw [hz, putV_nil hf, ← hl]
    clear h hr hp hsp hd hf hs hl
    go_enter Try.func103, Try.ntmps103
    go_wp2_with fail
    refine K.out.mono ?_
    rintro e w1 ⟨a1, c1, qs, rfl, hh⟩
    have HH := Lib.hid hh
    clear hh K
    go_wp2
    go_ret
    exact ⟨_, _, qs, rfl, HH.out⟩
  · obtain ⟨X, rfl⟩ : ∃ X : Nat, x = X := ⟨x.toNat, by omega⟩
    have q := l6Put_any a len cap ps X b lb cb zs w h hr (by omega) (fun p hpp => by have := hp.2 p hpp; omega) (by omega) h0 (pfV_right hf).1
    have e : putV (vals ps) (X : Int) zs = (putL ((vals ps).map toPc) X zs).map ofPc := by unfold putV; rw [Int.toNat_natCast]
    rw [e, List.length_map]
    exact q

set_option maxHeartbeats 2000000 in
theorem specPutPiece (a : Option Addr) (len cap : Nat) (ps : List Pm) (x : Int) (b : Option Addr) (lb cb : Nat) (zs : List Int) (w : World) (h : Pl w a len cap ps) (hd : ∀ p ∈ ps, p.l ≤ 1048576) (hr : Rd w b lb cb zs) (hl : lb ≤ 1048576) :
    Calls Try.prog 20 #[.slice a len cap, .int .i64 x, .slice b lb cb] w (PrOut w (puC (vals ps) x zs) (puL (vals ps) x zs) []) := by
  have B0 := Lib.hid ((Below.refl w.heap.size w).alloc (Nat.le_refl _) (.cells #[.int .i64 0, .slice none 0 0, .slice none 0 0] 28))
  have X0 := Lib.hid (Box.new w 28 #[.int .i64 0, .slice none 0 0, .slice none 0 0])
  have K := Lib.hid (specPiecesFault a len cap ps _ (h.below B0.out) hd)
  have K1 := Lib.hid (fun W => l1In_any x 0 2000 W)
  have hz := hr.length
  by_cases hc : pfV (vals ps) = 0
  · by_cases hs : 0 ≤ x ∧ x + lb ≤ 2000
    · have hsp : spanB x zs.length = true := span_t (by rw [hz]; exact hs)
      have T := Lib.hid (fun W (hW : Below w.heap.size w W) => l6Put_all a len cap ps x b lb cb zs W (h.below hW) (hr.below hW) hc (span_t hs))
      have E0 : Hid ((putV (vals ps) x zs).length ≤ 4 → puC (vals ps) x zs = 0 ∧ puL (vals ps) x zs = putV (vals ps) x zs) := fun q => by
        have e : puC (vals ps) x zs = 0 := by unfold puC; rw [if_pos hc, if_pos hsp, if_pos q]
        exact ⟨e, if_pos e⟩
      have E1 : Hid (¬ (putV (vals ps) x zs).length ≤ 4 → puC (vals ps) x zs = 7 ∧ puL (vals ps) x zs = []) := fun q => by
        have e : puC (vals ps) x zs = 7 := by unfold puC; rw [if_pos hc, if_pos hsp, if_neg q]
        exact ⟨e, by unfold puL; rw [if_neg (by omega)]⟩
      rw [hc] at K
      rw [in_t ⟨hs.1, by omega⟩] at K1
      generalize puC (vals ps) x zs = C at *
      generalize puL (vals ps) x zs = L at *
      generalize putV (vals ps) x zs = V at *
      clear h hr hd hc hsp hz
      go_enter Try.func20, Try.ntmps20
      go_wp2_with fail
      refine K.out.mono ?_
      rintro e w1 ⟨rfl, b1⟩
      have X1 := Lib.hid (X0.out.below b1 X0.out.lt)
      have B1 := Lib.hid (B0.out.trans (b1.mono B0.out.size))
      clear b1 K B0 X0
      go_wp2_with fail
      refine (K1.out _).mono ?_
      rintro e w2 ⟨rfl, rfl⟩
      have hn1 : ¬ (2000 : Int) < x + (lb : Int) := by omega
      go_wp2_with fail
      refine (T.out _ B1.out).mono ?_
      rintro e w2 ⟨a2, c2, qs, rfl, l2, d2, v2, b2⟩
      have hx := X1.out.lt
      have X2 := Lib.hid (X1.out.below b2 X1.out.lt)
      have B2 := Lib.hid (B1.out.trans (b2.mono B1.out.size))
      have R2 := Lib.hid ((PrO.noReady (l2.plO d2 (Nat.le_refl _) (fun x hx => (l2.lt x hx).2))).mono (lo' := w.heap.size + 1) hx (Nat.le_refl _))
      have V2 := Lib.hid v2
      have hml := l2.max
      clear T b2 l2 d2 v2 X1 B1 K1 hx
      obtain ⟨zz, x0, x1, x2⟩ := X2.out.three
      have f0 := X2.out.frozen 0
      have f1 := X2.out.frozen 1
      have f2 := X2.out.frozen 2
      generalize hVl : V.length = m at *
      by_cases h4 : m ≤ 4
      · obtain ⟨rfl, rfl⟩ := E0.out h4
        have hn2 : ¬ (4 : Int) < (m : Int) := by omega
        clear E0 E1
        go_wp2
        exact bodyPost_ret (v := .agg #[.int .i64 0, .slice a2 m c2, .slice none 0 0]) (by simp [results, Try.results20, go_sem, x0, x1, x2]) rfl ⟨_, _, _, qs, _, _, _, rfl, (((R2.out.setOther _ _ (.inl (Nat.lt_succ_self _))).setOther _ _ (.inl (Nat.lt_succ_self _))).setOther _ _ (.inl (Nat.lt_succ_self _))).mono (Nat.le_succ _) (by simp), V2.out, ((B2.out.setCell (Nat.le_refl _) _).setCell (Nat.le_refl _) _).setCell (Nat.le_refl _) _⟩
      · obtain ⟨rfl, rfl⟩ := E1.out h4
        have hn2 : (4 : Int) < (m : Int) := by omega
        clear E0 E1
        go_wp2
        exact bodyPost_ret (v := .agg #[.int .i64 7, .slice none 0 0, .slice none 0 0]) (by simp [results, Try.results20, go_sem, x0, x1, x2]) rfl ⟨_, _, _, [], _, _, _, rfl, PrO.zero _ _ _, rfl, ((B2.out.setCell (Nat.le_refl _) _).setCell (Nat.le_refl _) _).setCell (Nat.le_refl _) _⟩
    · have hsp : spanB x zs.length = false := span_f (by rw [hz]; exact hs)
      have e : puC (vals ps) x zs = 3 := by unfold puC; rw [if_pos hc, if_neg (by rw [hsp]; simp)]
      have e' : puL (vals ps) x zs = [] := by unfold puL; rw [if_neg (by omega)]
      rw [hc] at K
      rw [e, e']
      clear h hr hd hc hsp hz e e'
      by_cases hx : 0 ≤ x ∧ x ≤ 2000
      · rw [in_t hx] at K1
        have hn1 : (2000 : Int) < x + (lb : Int) := by omega
        go_enter Try.func20, Try.ntmps20
        go_wp2_with fail
        refine K.out.mono ?_
        rintro e w1 ⟨rfl, b1⟩
        have X1 := X0.out.below b1 X0.out.lt
        have B1 := Lib.hid (B0.out.trans (b1.mono B0.out.size))
        obtain ⟨zz, x0, x1, x2⟩ := X1.three
        have f0 := X1.frozen 0
        have f1 := X1.frozen 1
        have f2 := X1.frozen 2
        clear b1 K B0 X0 X1
        go_wp2_with fail
        refine (K1.out _).mono ?_
        rintro e w2 ⟨rfl, rfl⟩
        go_wp2
        exact bodyPost_ret (v := .agg #[.int .i64 3, .slice none 0 0, .slice none 0 0]) (by simp [results, Try.results20, go_sem, x0, x1, x2]) rfl ⟨_, _, _, [], _, _, _, rfl, PrO.zero _ _ _, rfl, ((B1.out.setCell (Nat.le_refl _) _).setCell (Nat.le_refl _) _).setCell (Nat.le_refl _) _⟩
      · rw [in_f hx] at K1
        clear hx hs
        go_enter Try.func20, Try.ntmps20
        go_wp2_with fail
        refine K.out.mono ?_
        rintro e w1 ⟨rfl, b1⟩
        have X1 := X0.out.below b1 X0.out.lt
        have B1 := Lib.hid (B0.out.trans (b1.mono B0.out.size))
        obtain ⟨zz, x0, x1, x2⟩ := X1.three
        have f0 := X1.frozen 0
        have f1 := X1.frozen 1
        have f2 := X1.frozen 2
        clear b1 K B0 X0 X1
        go_wp2_with fail
        refine (K1.out _).mono ?_
        rintro e w2 ⟨rfl, rfl⟩
        go_wp2
        exact bodyPost_ret (v := .agg #[.int .i64 3, .slice none 0 0, .slice none 0 0]) (by simp [results, Try.results20, go_sem, x0, x1, x2]) rfl ⟨_, _, _, [], _, _, _, rfl, PrO.zero _ _ _, rfl, ((B1.out.setCell (Nat.le_refl _) _).setCell (Nat.le_refl _) _).setCell (Nat.le_refl _) _⟩
  · have e : puC (vals ps) x zs = pfV (vals ps) := if_neg hc
    have e' : puL (vals ps) x zs = [] := by unfold puL; rw [if_neg (by rw [e]; exact hc)]
    have hb := hid_bne hc
    rw [e, e']
    clear h hr hd hc hz e e'
    generalize pfV (vals ps) = c at *
    go_enter Try.func20, Try.ntmps20
    go_wp2_with fail
    refine K.out.mono ?_
    rintro e w1 ⟨rfl, b1⟩
    have X1 := X0.out.below b1 X0.out.lt
    obtain ⟨zz, x0, x1, x2⟩ := X1.three
    have f0 := X1.frozen 0
    have f1 := X1.frozen 1
    have f2 := X1.frozen 2
    have B1 := Lib.hid (B0.out.trans (b1.mono B0.out.size))
    clear b1 K B0 X0 X1
    go_wp2
    exact bodyPost_ret (v := .agg #[.int .i64 c, .slice none 0 0, .slice none 0 0]) (by simp [results, Try.results20, go_sem, x0, x1, x2]) rfl ⟨_, _, _, [], _, _, _, rfl, PrO.zero _ _ _, rfl, ((B1.out.setCell (Nat.le_refl _) _).setCell (Nat.le_refl _) _).setCell (Nat.le_refl _) _⟩
end Go.Proofs.Ytimlobhlcmghfaa
