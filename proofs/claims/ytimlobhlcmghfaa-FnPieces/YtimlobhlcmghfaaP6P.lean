/-
  PiecesFault, of the model and of the program: both are one closed form over the places and bytes.
-/
import Derived.Test.YtimlobhlcmghfaaP6H
import Derived.Test.YtimlobhlcmghfaaP6R
import Derived.Test.YtimlobhlcmghfaaD4Bd
namespace Go.Proofs.Ytimlobhlcmghfaa
open Go.ChangeShapes Go.WideShapes Go.ChangeAt Go.RowKit

/-- a place and its bytes are in the span -/
def spanB (k : Int) (n : Nat) : Bool := decide (0 ≤ k ∧ k + n ≤ 2000)
def pf1 : List (Int × List Int) → Int
  | [] => 0
  | v :: vs => if spanB v.1 v.2.length = true then (if v.2.length = 0 then 4 else pf1 vs) else 3
def pf2 : List (Int × List Int) → Int
  | [] => 0
  | [_] => 0
  | v :: u :: vs => if u.1 ≤ v.1 + v.2.length then 1 else pf2 (u :: vs)
def pfV (vs : List (Int × List Int)) : Int := if 4 < vs.length then 2 else if pf1 vs = 0 then pf2 vs else pf1 vs
theorem pf1_zero {vs : List (Int × List Int)} (h : pf1 vs = 0) : ∀ v ∈ vs, 0 ≤ v.1 ∧ v.1 + v.2.length ≤ 2000 ∧ v.2.length ≠ 0 := by
  induction vs with
  | nil => intro v hv; cases hv
  | cons u us ih =>
    intro v hv
    rw [pf1] at h
    by_cases c : spanB u.1 u.2.length = true
    · rw [if_pos c] at h
      by_cases c2 : u.2.length = 0
      · rw [if_pos c2] at h; omega
      · rw [if_neg c2] at h
        rcases List.mem_cons.1 hv with rfl | hv
        · have := of_decide_eq_true c; exact ⟨this.1, this.2, c2⟩
        · exact ih h v hv
    · rw [if_neg c] at h; omega
theorem span_t {k : Int} {n : Nat} (h : 0 ≤ k ∧ k + n ≤ 2000) : spanB k n = true := decide_eq_true h
theorem span_f {k : Int} {n : Nat} (h : ¬ (0 ≤ k ∧ k + n ≤ 2000)) : spanB k n = false := decide_eq_false h

theorem l6End_any (b o : Nat) (k : Int) (a : Option Addr) (l c : Nat) (w : World) (c0 : w.cell? ⟨b, o, none⟩ = some (.int .i64 k)) (c1 : w.cell? ⟨b, o + 1, none⟩ = some (.slice a l c)) (h1 : 0 ≤ k) (h2 : k ≤ 2000) (h3 : l ≤ 1048576) :
    Calls Try.prog 108 #[.pointer (some ⟨b, o, none⟩)] w fun e w' => e = .returned (.int .i64 (k + l)) ∧ Below w.heap.size w w' := by
  go_enter Try.func108, Try.ntmps108
  go_wp2
  go_quiet (fail)
  go_wp2
  go_ret
  exact ⟨rfl, belowN (Below.refl _ _) _⟩

theorem drop_cons {α : Type} {xs : List α} {k : Nat} {x : α} (h : xs[k]? = some x) : xs.drop k = x :: xs.drop (k + 1) := by
  have hlt := (List.getElem?_eq_some_iff.1 h).1
  rw [List.drop_eq_getElem_cons hlt, (List.getElem?_eq_some_iff.1 h).2]
theorem pf1_range {vs : List (Int × List Int)} {v : Int × List Int} {r : List (Int × List Int)} (h : pf1 vs = pf1 (v :: r)) (hs : spanB v.1 v.2.length = false) : pf1 vs = 3 := by
  rw [h, pf1, if_neg (by rw [hs]; simp)]
theorem pf1_none {vs : List (Int × List Int)} {v : Int × List Int} {r : List (Int × List Int)} (h : pf1 vs = pf1 (v :: r)) (hs : spanB v.1 v.2.length = true) (hn : v.2.length = 0) : pf1 vs = 4 := by
  rw [h, pf1, if_pos hs, if_pos hn]
theorem pf1_next {vs : List (Int × List Int)} {v : Int × List Int} {r : List (Int × List Int)} (h : pf1 vs = pf1 (v :: r)) (hs : spanB v.1 v.2.length = true) (hn : ¬ v.2.length = 0) : pf1 vs = pf1 r := by
  rw [h, pf1, if_pos hs, if_neg hn]
theorem pf2_form {vs : List (Int × List Int)} {v u : Int × List Int} {r : List (Int × List Int)} (h : pf2 vs = pf2 (v :: u :: r)) (hs : u.1 ≤ v.1 + v.2.length) : pf2 vs = 1 := by
  rw [h, pf2, if_pos hs]
theorem pf2_next {vs : List (Int × List Int)} {v u : Int × List Int} {r : List (Int × List Int)} (h : pf2 vs = pf2 (v :: u :: r)) (hs : ¬ u.1 ≤ v.1 + v.2.length) : pf2 vs = pf2 (u :: r) := by
  rw [h, pf2, if_neg hs]
theorem pfV_many {vs : List (Int × List Int)} (h : 4 < vs.length) : pfV vs = 2 := if_pos h
theorem pfV_one {vs : List (Int × List Int)} (h : ¬ 4 < vs.length) (k : Int) (hk : k ≠ 0) (h1 : pf1 vs = k) : pfV vs = k := by
  unfold pfV
  rw [if_neg h, if_neg (by omega)]; exact h1
theorem pfV_two {vs : List (Int × List Int)} (h : ¬ 4 < vs.length) (h1 : pf1 vs = 0) : pfV vs = pf2 vs := by
  unfold pfV
  rw [if_neg h, if_pos h1]

set_option maxHeartbeats 2000000 in
theorem specPiecesFault (a : Option Addr) (len cap : Nat) (ps : List Pm) (w : World) (h : Pl w a len cap ps) (hd : ∀ p ∈ ps, p.l ≤ 1048576) :
    Calls Try.prog 24 #[.slice a len cap] w fun e w' => e = .returned (.int .i64 (pfV (vals ps))) ∧ Below w.heap.size w w' := by
  have HP := Lib.hid h
  have HD := Lib.hid hd
  have HL : Hid ((vals ps).length = len) := by simp only [Hid, vals, List.length_map]; exact h.lb.length
  have hlm : len ≤ maxLen := Nat.le_trans h.lb.le h.lb.max
  unfold maxLen at hlm
  clear h hd
  by_cases h4 : 4 < len
  · have H : Hid (pfV (vals ps) = 2) := pfV_many (by rw [HL.out]; exact h4)
    go_enter Try.func24, Try.ntmps24
    go_wp2
    go_ret
    exact ⟨ret_i H.out.symm, Below.refl _ _⟩
  · have H4 : Hid (¬ 4 < (vals ps).length) := by simp only [Hid]; rw [HL.out]; exact h4
    go_enter Try.func24, Try.ntmps24
    go_wp2
    go_loopw [3] (fun i wr => ∃ k : Nat, k ≤ len ∧ i = .int .i64 k ∧ Hid (pf1 (vals ps) = pf1 ((vals ps).drop k)) ∧ Hid (Below w.heap.size w wr)) (fun i _ => len - (intOf i).toNat)
    case atStart => exact ⟨0, Nat.zero_le _, rfl, rfl, Below.refl _ _⟩
    case round =>
      obtain ⟨k, hk, rfl, hI, hB⟩ := hrel
      by_cases hlt : k < len
      · obtain ⟨b, off, p, rfl, hp, c0, c1⟩ := (HP.out.lb.below hB.out).at hlt
        have hpl := HD.out p (List.mem_of_getElem? hp)
        have hz : p.z.length = p.l := (HP.out.data p (List.mem_of_getElem? hp)).length
        have hI' : Hid (pf1 (vals ps) = pf1 (p.v :: (vals ps).drop (k + 1))) := by
          simp only [Hid]
          rw [← drop_cons (show (vals ps)[k]? = some p.v by simp [vals, hp])]; exact hI.out
        clear hp hI
        obtain ⟨pk, pa, pl, pc, pz⟩ := p
        simp only at c0 c1 hpl hz
        have K := Lib.hid (fun W => l1In_any pk 0 2000 W)
        by_cases s1 : 0 ≤ pk ∧ pk ≤ 2000
        · rw [in_t s1] at K
          have E := Lib.hid (fun W (hW : Below wr.heap.size wr W) => l6End_any b (off + k * 2) pk pa pl pc W (keepB' hW c0) (keepB' hW c1) s1.1 s1.2 hpl)
          by_cases s2 : pk + pl ≤ 2000
          · have hs : spanB pk pz.length = true := span_t (by rw [hz]; exact ⟨s1.1, s2⟩)
            by_cases s3 : pl = 0
            · have HF : Hid (pfV (vals ps) = 4) := pfV_one H4.out 4 (by omega) (pf1_none hI'.out hs (by simp only [Pm.v]; omega))
              clear hI' hs hz
              go_wp2_with fail
              refine (K.out _).mono ?_
              rintro e w1 ⟨rfl, rfl⟩
              go_wp2_with fail
              refine (E.out _ (Below.refl _ _)).mono ?_
              rintro e w1 ⟨rfl, b1⟩
              have d1 := keepB' b1 c1
              have B1 := Lib.hid (hB.out.trans (b1.mono hB.out.size))
              clear b1 K E c0 c1 hB
              go_wp2
              go_ret
              exact ⟨ret_i HF.out.symm, B1.out⟩
            · have HF : Hid (pf1 (vals ps) = pf1 ((vals ps).drop (k + 1))) := pf1_next hI'.out hs (by simp only [Pm.v]; omega)
              clear hI' hs hz
              go_wp2_with fail
              refine (K.out _).mono ?_
              rintro e w1 ⟨rfl, rfl⟩
              go_wp2_with fail
              refine (E.out _ (Below.refl _ _)).mono ?_
              rintro e w1 ⟨rfl, b1⟩
              have d1 := keepB' b1 c1
              have B1 := Lib.hid (hB.out.trans (b1.mono hB.out.size))
              clear b1 K E c0 c1 hB
              go_wp2
              go_roundw
              case rel => exact ⟨k + 1, by omega, by go_num, HF.out, B1.out⟩
              case measure => simp [intOf]; omega
          · have HF : Hid (pfV (vals ps) = 3) := pfV_one H4.out 3 (by omega) (pf1_range hI'.out (span_f (k := pk) (n := pz.length) (by omega)))
            clear hI' hz
            go_wp2_with fail
            refine (K.out _).mono ?_
            rintro e w1 ⟨rfl, rfl⟩
            go_wp2_with fail
            refine (E.out _ (Below.refl _ _)).mono ?_
            rintro e w1 ⟨rfl, b1⟩
            have B1 := Lib.hid (hB.out.trans (b1.mono hB.out.size))
            clear b1 K E c0 c1 hB
            go_wp2
            go_ret
            exact ⟨ret_i HF.out.symm, B1.out⟩
        · rw [in_f s1] at K
          have HF : Hid (pfV (vals ps) = 3) := pfV_one H4.out 3 (by omega) (pf1_range hI'.out (span_f (k := pk) (n := pz.length) (by omega)))
          clear hI' hz s1
          go_wp2_with fail
          refine (K.out _).mono ?_
          rintro e w1 ⟨rfl, rfl⟩
          go_wp2
          go_ret
          exact ⟨ret_i HF.out.symm, hB.out⟩
      · obtain rfl : k = len := by omega
        have h1 : pf1 (vals ps) = 0 := by
          rw [hI.out, List.drop_of_length_le (by rw [HL.out]; exact Nat.le_refl _)]; rfl
        have HZ := Lib.hid (pf1_zero h1)
        have HV := Lib.hid (pfV_two H4.out h1)
        clear hI h1
        go_wp2
        go_loopw [4] (fun i wr => ∃ j : Nat, 1 ≤ j ∧ j ≤ k + 1 ∧ i = .int .i64 j ∧ Hid (pf2 (vals ps) = pf2 ((vals ps).drop (j - 1))) ∧ Hid (Below w.heap.size w wr)) (fun i _ => k + 1 - (intOf i).toNat)
        case atStart => exact ⟨1, Nat.le_refl _, by omega, rfl, rfl, hB.out⟩
        case round =>
          obtain ⟨j, hj1, hj2, rfl, hI, hB⟩ := hrel
          by_cases hlt : j < k
          · obtain ⟨b, off, p, ha, hp, c0, c1⟩ := (HP.out.lb.below hB.out).at hlt
            obtain ⟨b', off', q, ha', hq, d0, d1⟩ := (HP.out.lb.below hB.out).at (show j - 1 < k by omega)
            subst ha
            cases ha'
            have hql := HD.out q (List.mem_of_getElem? hq)
            have hqz : q.z.length = q.l := (HP.out.data q (List.mem_of_getElem? hq)).length
            have hqr := HZ.out q.v (List.mem_map_of_mem (List.mem_of_getElem? hq))
            have hI' : Hid (pf2 (vals ps) = pf2 (q.v :: p.v :: (vals ps).drop (j + 1))) := by
              simp only [Hid]
              rw [← drop_cons (show (vals ps)[j]? = some p.v by simp [vals, hp])]
              have e1 : j = (j - 1) + 1 := by omega
              have e2 := drop_cons (show (vals ps)[j - 1]? = some q.v by simp [vals, hq])
              rw [← e1] at e2
              rw [← e2]; exact hI.out
            have hNx : Hid (∀ x, x = pf2 (p.v :: (vals ps).drop (j + 1)) → x = pf2 ((vals ps).drop (j + 1 - 1))) := by
              intro x hx
              rw [Nat.add_sub_cancel, drop_cons (show (vals ps)[j]? = some p.v by simp [vals, hp])]; exact hx
            clear hp hq hI
            obtain ⟨pk, pa, pl, pc, pz⟩ := p
            obtain ⟨qk, qa, ql, qc, qz⟩ := q
            simp only [Pm.v] at c0 c1 d0 d1 hql hqz hqr
            have hw : IntKind.i64.wrap ((j : Int) - 1) = ((j - 1 : Nat) : Int) := (IntWalk.i64_in _ (by omega)).trans (by omega)
            have hj3 : j - 1 < k := by omega
            have E := Lib.hid (fun W (hW : Below wr.heap.size wr W) => l6End_any b (off + (j - 1) * 2) qk qa ql qc W (keepB' hW d0) (keepB' hW d1) hqr.1 (by omega) hql)
            by_cases ht : pk ≤ qk + ql
            · have HF : Hid (pfV (vals ps) = 1) := HV.out.trans (pf2_form hI'.out (by simp only [Pm.v]; omega))
              clear hI' hNx
              go_wp2_with fail
              go_region_held3 (fun W => W.cell? ⟨b, off + j * 2, none⟩ = some (.int .i64 pk) ∧ W.cell? ⟨b, off + j * 2 + 1, none⟩ = some (.slice pa pl pc))
                (first | go_keep | (go_split_ands; exact ⟨keepK hb (by assumption), keepK hb (by assumption)⟩))
                (first | (go_at_call 108; refine (E.out _ (Below.refl _ _).drew).mono ?_; rintro e w10 ⟨rfl, b10⟩; have hb := b10))
              have B10 := Lib.hid (hB.out.drew.trans (b10.mono hB.out.drew.size))
              clear hb b10 c0 c1 d0 d1
              go_wp2
              go_ret
              exact ⟨ret_i HF.out.symm, B10.out⟩
            · have HF : Hid (pf2 (vals ps) = pf2 ((vals ps).drop (j + 1 - 1))) := hNx.out _ (pf2_next hI'.out (by simp only [Pm.v]; omega))
              clear hI' hNx
              go_wp2_with fail
              go_region_held3 (fun W => W.cell? ⟨b, off + j * 2, none⟩ = some (.int .i64 pk) ∧ W.cell? ⟨b, off + j * 2 + 1, none⟩ = some (.slice pa pl pc))
                (first | go_keep | (go_split_ands; exact ⟨keepK hb (by assumption), keepK hb (by assumption)⟩))
                (first | (go_at_call 108; refine (E.out _ (Below.refl _ _).drew).mono ?_; rintro e w10 ⟨rfl, b10⟩; have hb := b10))
              have B10 := Lib.hid (hB.out.drew.trans (b10.mono hB.out.drew.size))
              clear hb b10 c0 c1 d0 d1
              go_wp2
              go_roundw
              case rel => exact ⟨j + 1, by omega, by omega, by go_num, HF.out, B10.out⟩
              case measure => simp [intOf]; omega
          · have HF : Hid (pfV (vals ps) = 0) := by
              simp only [Hid]
              rw [HV.out, hI.out]
              have hlen : ((vals ps).drop (j - 1)).length ≤ 1 := by rw [List.length_drop, HL.out]; omega
              match hx : (vals ps).drop (j - 1) with
              | [] => rfl
              | [_] => rfl
              | _ :: _ :: _ => rw [hx] at hlen; simp at hlen
            go_wp2
            go_ret
            exact ⟨ret_i HF.out.symm, hB.out⟩

theorem within1 (g : Nat) (t : TypeId) (x0 l0 h0 : Int) (w : World) (h : Box w g t #[.int .i64 x0, .int .i64 l0, .int .i64 h0]) :
    Calls Try.prog 111 #[.slice (some ⟨g, 0, none⟩) 1 1] w fun e w' => e = .returned (.bool (inB x0 l0 h0)) ∧ Below w.heap.size w w' := by
  have := areWithin_any g [⟨x0, l0, h0⟩] w (by
    intro i x hx
    match i with
    | 0 => simp at hx; subst hx; exact ⟨h.cell 0, h.cell 1, h.cell 2⟩
    | k + 1 => simp at hx) (by simp)
  simpa [bdB] using this
set_option maxHeartbeats 1000000 in
theorem isInSpan_any (k : Int) (a : Option Addr) (l c : Nat) (w : World) (h : l ≤ 1048576) :
    Calls Try.prog 95 #[.agg #[.int .i64 k, .slice a l c]] w fun e w' => e = .returned (.bool (spanB k l)) ∧ Below w.heap.size w w' := by
  have B0 := Lib.hid (((Below.refl w.heap.size w).alloc (Nat.le_refl _) (.cells #[.int .i64 k, .slice a l c] 133)).alloc (by simp) (.cells #[.int .i64 k, .int .i64 0, .int .i64 (2000 - (l : Int))] 152))
  have K := Lib.hid (within1 (w.heap.size + 1) 152 k 0 (2000 - (l : Int)) ((w.alloc (.cells #[.int .i64 k, .slice a l c] 133)).alloc (.cells #[.int .i64 k, .int .i64 0, .int .i64 (2000 - (l : Int))] 152)) (by have := Box.new (w.alloc (.cells #[.int .i64 k, .slice a l c] 133)) 152 #[.int .i64 k, .int .i64 0, .int .i64 (2000 - (l : Int))]; simpa using this))
  have H : Hid (inB k 0 (2000 - (l : Int)) = spanB k l) := by
    simp only [Hid, inB, spanB]
    by_cases h1 : 0 ≤ k ∧ k + (l : Int) ≤ 2000
    · rw [decide_eq_true h1, decide_eq_true (by omega)]
    · rw [decide_eq_false h1, decide_eq_false (by omega)]
  rw [H.out] at K
  clear H
  go_enter Try.func95, Try.ntmps95
  go_wp2_with fail
  refine K.out.mono ?_
  rintro e w1 ⟨rfl, b1⟩
  go_wp2
  go_ret
  exact ⟨rfl, B0.out.trans (b1.mono B0.out.size)⟩
theorem endOf_any (k : Int) (a : Option Addr) (l c : Nat) (w : World) (h : l ≤ 1048576) (h1 : -2000 ≤ k) (h2 : k ≤ 2000) :
    Calls Try.prog 173 #[.agg #[.int .i64 k, .slice a l c]] w fun e w' => e = .returned (.int .i64 (k + l)) ∧ Below w.heap.size w w' := by
  go_enter Try.func173, Try.ntmps173
  go_wp2
  go_ret
  exact ⟨rfl, (Below.refl _ _).alloc (Nat.le_refl _) _⟩
set_option maxHeartbeats 1000000 in
theorem doTouch_any (k : Int) (a : Option Addr) (l c : Nat) (k' : Int) (a' : Option Addr) (l' c' : Nat) (w : World) (h : l ≤ 1048576) (h1 : -2000 ≤ k) (h2 : k ≤ 2000) :
    Calls Try.prog 107 #[.agg #[.int .i64 k, .slice a l c], .agg #[.int .i64 k', .slice a' l' c']] w fun e w' => e = .returned (.bool (decide (k' ≤ k + l))) ∧ Below w.heap.size w w' := by
  have B0 := Lib.hid (((Below.refl w.heap.size w).alloc (Nat.le_refl _) (.cells #[.int .i64 k, .slice a l c] 133)).alloc (by simp) (.cells #[.int .i64 k', .slice a' l' c'] 133))
  have X0 := Lib.hid ((Box.new w 133 #[.int .i64 k, .slice a l c]).alloc (.cells #[.int .i64 k', .slice a' l' c'] 133))
  have Y0 := Lib.hid (Box.new (w.alloc (.cells #[.int .i64 k, .slice a l c] 133)) 133 #[.int .i64 k', .slice a' l' c'])
  go_enter Try.func107, Try.ntmps107
  go_wp2_with fail
  generalize hW : (w.alloc (.cells #[.int .i64 k, .slice a l c] 133)).alloc (.cells #[.int .i64 k', .slice a' l' c'] 133) = W at *
  obtain ⟨_, x0, x1⟩ := X0.out.two
  obtain ⟨_, y0, y1⟩ := Y0.out.two
  simp only [World.size_alloc] at y0 y1
  go_region_held3 (fun W => W.cell? ⟨w.heap.size, 0, none⟩ = some (.int .i64 k) ∧ W.cell? ⟨w.heap.size, 1, none⟩ = some (.slice a l c) ∧ W.cell? ⟨w.heap.size + 1, 0, none⟩ = some (.int .i64 k'))
    (first | go_keep | (go_split_ands; exact ⟨keepK hb (by assumption), keepK hb (by assumption), keepK hb (by assumption)⟩))
    (first | (go_at_call 173; refine (endOf_any k a l c _ h h1 h2).mono ?_; rintro e w10 ⟨rfl, b10⟩; have hb := b10))
  have B10 := Lib.hid (B0.out.drew.trans (b10.mono B0.out.drew.size))
  clear hb b10
  go_wp2
  go_ret
  exact ⟨rfl, B10.out⟩
end Go.Proofs.Ytimlobhlcmghfaa
