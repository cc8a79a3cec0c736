/-
  TakeReady of the program.
-/
import Derived.Test.YtimlobhlcmghfaaP6K
import Derived.Test.YtimlobhlcmghfaaP6SR
namespace Go.Proofs.Ytimlobhlcmghfaa
open Go.ChangeShapes Go.WideShapes Go.ChangeAt Go.RowKit

set_option maxHeartbeats 4000000 in
theorem implTakeReady (a : Option Addr) (len cap : Nat) (ps : List Pm) (w : World) (h : Pl w a len cap ps) (hd : ∀ p ∈ ps, p.l ≤ 1048576) :
    Calls Try.prog 18 #[.slice a len cap] w (PrOut w (pfV (vals ps)) (trL (vals ps)) (trR (vals ps))) := by
  have B0 := Lib.hid ((Below.refl w.heap.size w).alloc (Nat.le_refl _) (.cells #[.int .i64 0, .slice none 0 0, .slice none 0 0] 28))
  have X0 := Lib.hid (Box.new w 28 #[.int .i64 0, .slice none 0 0, .slice none 0 0])
  have K := Lib.hid (implPiecesFault a len cap ps _ (h.below B0.out) hd)
  by_cases hc : pfV (vals ps) = 0
  · have e1 : trL (vals ps) = takeL (vals ps) := if_pos hc
    have e2 : trR (vals ps) = takeR (vals ps) := if_pos hc
    have hp := ok_parts h hc
    have hl := hp.1
    have T := Lib.hid (fun W (hW : Below w.heap.size w W) => clonePieces_any a len cap ps W (h.below hW) (by omega) hd)
    have HK : Hid (∀ v ∈ vals ps, 0 ≤ v.1 ∧ v.1 ≤ 2000) := by
      intro v hv
      obtain ⟨p, hpp, rfl⟩ := List.mem_map.1 hv
      exact ⟨(hp.2 p hpp).1, (hp.2 p hpp).2.1⟩
    have LV := Lib.hid (fun W a' c' (qs : List Pm) (h' : Pl W a' len c' qs) (hv : vals qs = vals ps) => len_of_vals h h' hv hd)
    rw [hc] at K ⊢
    rw [e1, e2]
    generalize hvs : vals ps = vs at *
    clear h hd hc e1 e2 hp hvs
    go_enter Try.func18, Try.ntmps18
    go_wp2_with fail
    refine K.out.mono ?_
    rintro e w1 ⟨rfl, b1⟩
    have X1 := Lib.hid (X0.out.below b1 X0.out.lt)
    have B1 := Lib.hid (B0.out.trans (b1.mono B0.out.size))
    clear b1 K B0 X0
    go_wp2_with fail
    refine (T.out _ B1.out).mono ?_
    rintro e w2 ⟨a2, c2, qs, rfl, l2, d2, v2, b2⟩
    subst v2
    have X2 := Lib.hid (X1.out.below b2 X1.out.lt)
    have hx1 := X1.out.lt
    have hx2 := X2.out.lt
    have LQ := Lib.hid (LV.out _ _ _ _ (l2.plO d2 (Nat.le_refl _) (fun x hx => (l2.lt x hx).2)).pl rfl)
    have KS := Lib.hid (splitReady_any w1.heap.size a2 len c2 qs w2 l2 d2 (fun q hq => HK.out _ (List.mem_map_of_mem hq)) LQ.out)
    have B2 := Lib.hid (B1.out.trans (b2.mono B1.out.size))
    have hs1 := b2.size
    clear b2 l2 d2 B1 X1 LV LQ HK T
    go_wp2_with fail
    refine KS.out.mono ?_
    rintro e w3 ⟨b, lb, cb, ra, rl, rc, rs, rfl, r3, v3, t3⟩
    have X3 : Box w3 w.heap.size 28 #[.int .i64 0, .slice none 0 0, .slice none 0 0] := (t3.block _ hx2 (.inl hx1)).trans X2.out
    have B3 := Lib.hid (B2.out.trans ((t3.mono (lo' := w.heap.size) (Nat.le_of_lt hx1) (Nat.le_refl _)).below B2.out.size))
    obtain ⟨zz, x0, x1, x2⟩ := X3.three
    have f0 := X3.frozen 0
    have f1 := X3.frozen 1
    have f2 := X3.frozen 2
    have R3 := Lib.hid r3
    have V3 := Lib.hid v3
    have hs3 := t3.size
    clear r3 v3 t3 X3 X2 B2 KS
    go_wp2
    refine bodyPost_ret (v := .agg #[.int .i64 0, .slice ra rl rc, .slice b lb cb]) (by simp [results, Try.results18, go_sem, x0, x1, x2]) rfl ⟨_, _, _, rs, _, _, _, rfl, ?_, V3.out, ((B3.out.setCell (Nat.le_refl _) _).setCell (Nat.le_refl _) _).setCell (Nat.le_refl _) _⟩
    exact (((R3.out.setOther _ _ (.inl hx1)).setOther _ _ (.inl hx1)).setOther _ _ (.inl hx1)).mono (Nat.le_of_lt hx1) (by simpa using hs3)
  · have e1 : trL (vals ps) = [] := if_neg hc
    have e2 : trR (vals ps) = [] := if_neg hc
    have hb := hid_bne hc
    rw [e1, e2]
    clear h hd hc e1 e2
    generalize pfV (vals ps) = c at *
    go_enter Try.func18, Try.ntmps18
    go_wp2_with fail
    refine K.out.mono ?_
    rintro e w1 ⟨rfl, b1⟩
    have X1 := X0.out.below b1 X0.out.lt
    obtain ⟨zz, x0, x1, x2⟩ := X1.three
    have f0 := X1.frozen 0
    have f1 := X1.frozen 1
    have f2 := X1.frozen 2
    have B1 := Lib.hid (B0.out.trans (b1.mono B0.out.size))
    clear b1 K B0 X0 X1
    go_wp2
    exact bodyPost_ret (v := .agg #[.int .i64 c, .slice none 0 0, .slice none 0 0]) (by simp [results, Try.results18, go_sem, x0, x1, x2]) rfl ⟨_, _, _, [], _, _, _, rfl, PrO.zero _ _ _, rfl, ((B1.out.setCell (Nat.le_refl _) _).setCell (Nat.le_refl _) _).setCell (Nat.le_refl _) _⟩

def szV (vs : List (Int × List Int)) : Nat := vs.length + sumV vs
theorem szP_vals {w : World} {a : Option Addr} {len cap : Nat} {ps : List Pm} (h : Pl w a len cap ps) : szP ps = szV (vals ps) := by
  have key : ∀ qs : List Pm, (∀ q ∈ qs, q.z.length = q.l) → sumL qs = sumV (vals qs) := by
    intro qs
    induction qs with
    | nil => intro _; rfl
    | cons q qs ih =>
      intro hq
      show q.l + sumL qs = q.z.length + sumV (vals qs)
      rw [ih (fun x hx => hq x (List.mem_cons_of_mem _ hx)), hq q (List.mem_cons_self ..)]
  unfold szP szV
  rw [vals_len, key ps (fun q hq => (h.data q hq).length)]
theorem sumV_shift (n : Nat) (vs : List (Int × List Int)) : sumV (shiftV n vs) = sumV vs := by
  induction vs with
  | nil => rfl
  | cons v vs ih => simp only [shiftV, List.map_cons, sumV] at ih ⊢; omega
theorem tr_bound (vs : List (Int × List Int)) (h : szV vs ≤ 1048576) : szV (trL vs) ≤ 2097152 ∧ (trR vs).length ≤ 2097152 := by
  unfold trL trR
  split
  · cases vs with
    | nil => exact ⟨by simp [takeL, szV, sumV], by simp [takeR]⟩
    | cons v vs =>
      unfold szV at h
      simp only [List.length_cons, sumV] at h
      simp only [takeL, takeR]
      split
      · unfold szV
        rw [sumV_shift]
        simp only [shiftV, List.length_map]
        omega
      · unfold szV
        simp only [List.length_cons, sumV, List.length_nil]
        omega
  · exact ⟨by simp [szV, sumV], by simp⟩
end Go.Proofs.Ytimlobhlcmghfaa
