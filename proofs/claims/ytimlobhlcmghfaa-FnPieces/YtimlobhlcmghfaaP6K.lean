/-
  TakeReady of the model and of the program.
-/
import Derived.Test.YtimlobhlcmghfaaP6C
import Derived.Test.YtimlobhlcmghfaaP6G
import Derived.Test.YtimlobhlcmghfaaP6I
namespace Go.Proofs.Ytimlobhlcmghfaa
open Go.ChangeShapes Go.WideShapes Go.ChangeAt Go.RowKit

def shiftV (n : Nat) (vs : List (Int × List Int)) : List (Int × List Int) := vs.map fun u => (u.1 - n, u.2)
def takeL : List (Int × List Int) → List (Int × List Int)
  | [] => []
  | v :: vs => if v.1 = 0 then shiftV v.2.length vs else v :: vs
def takeR : List (Int × List Int) → List Int
  | [] => []
  | v :: _ => if v.1 = 0 then v.2 else []
/-- a result of these pieces and bytes in new memory -/
def PrOut (w : World) (code : Int) (vs : List (Int × List Int)) (zs : List Int) (e : Ending) (w' : World) : Prop :=
  ∃ a len cap ps b lb cb, e = .returned (.agg #[.int .i64 code, .slice a len cap, .slice b lb cb]) ∧ PrO w' w.heap.size w'.heap.size a len cap ps b lb cb zs ∧ vals ps = vs ∧ Below w.heap.size w w'
def PrTup (w : World) (vs : List (Int × List Int)) (zs : List Int) (e : Ending) (w' : World) : Prop :=
  ∃ a len cap ps b lb cb, e = .returned (.tuple #[.slice a len cap, .slice b lb cb]) ∧ PrO w' w.heap.size w'.heap.size a len cap ps b lb cb zs ∧ vals ps = vs ∧ Below w.heap.size w w'

/-- the list without its first piece, beside that one's bytes -/
theorem Lo.behind {w : World} {lo base hi g off : Nat} {len cap : Nat} {p : Pm} {ps : List Pm} (h : Lo w base (some ⟨g, 0, none⟩) len cap (p :: ps)) (hd : Ds w lo hi (p :: ps)) (hl : lo ≤ base) (hh : g < hi) (ho : off = 2 ∨ cap = 1) :
    PrO w lo hi (some ⟨g, off, none⟩) (len - 1) (cap - 1) ps p.a p.l p.c p.z := by
  have hP := h.plO hd hl (fun x hx => by cases hx; exact hh)
  have hlen := h.length
  have hm := h.max
  simp only [List.length_cons] at hlen
  have hs := List.pairwise_cons.1 hd.sep
  have hf : Fz w (some ⟨g, off, none⟩) := by
    obtain ⟨cs, t, e⟩ := h.fz _ rfl
    rintro x hx
    cases hx
    exact ⟨cs, t, e⟩
  have hlb : Lb w (some ⟨g, off, none⟩) (len - 1) (cap - 1) ps := by
    refine ⟨by omega, by omega, by omega, by simp, ?_⟩
    by_cases c : len - 1 = 0
    · exact .inl c
    · obtain rfl : off = 2 := by omega
      refine .inr ⟨g, 2, rfl, fun i q hq => ?_⟩
      rcases h.lb.cells with h0 | ⟨b', off', e, hc⟩
      · omega
      · cases e
        have := hc (i + 1) q (by simpa using hq)
        have e1 : 2 + i * 2 = 0 + (i + 1) * 2 := by omega
        rw [e1]; exact this
  refine ⟨⟨hlb, hf, fun x hx => ?_, fun q hq => hd.own q (List.mem_cons_of_mem _ hq), hs.2⟩, (hd.own p (List.mem_cons_self ..)).1, (hd.own p (List.mem_cons_self ..)).2, fun y hy => ⟨fun x hx => ?_, fun q hq x hx => ?_⟩⟩
  · cases hx
    have h0 := hP.blk _ rfl
    exact ⟨h0.1, h0.2.1, fun q hq y hy => h0.2.2 q (List.mem_cons_of_mem _ hq) y hy⟩
  · cases hx
    exact fun e => (hP.blk _ rfl).2.2 p (List.mem_cons_self ..) y hy e.symm
  · exact fun e => hs.1 q hq y x hy hx e.symm
theorem PrO.putK {w : World} {lo hi b off : Nat} {len cap : Nat} {ps : List Pm} {ra : Option Addr} {rl rc : Nat} {rz : List Int} (h : PrO w lo hi (some ⟨b, off, none⟩) len cap ps ra rl rc rz) (i : Nat) (p : Pm) (hp : ps[i]? = some p) (n : Int) : PrO (w.setCell ⟨b, off + i * 2, none⟩ (.int .i64 n)) lo hi (some ⟨b, off, none⟩) len cap (ps.set i { p with k := n }) ra rl rc rz := by
  refine ⟨h.pl.putK i p hp n, h.own.setOther _ _ (fun x hx => fun e => (h.ne x hx).1 _ rfl e.symm), h.hi, fun y hy => ⟨(h.ne y hy).1, fun q hq x hx => ?_⟩⟩
  rcases List.mem_or_eq_of_mem_set hq with hq | rfl
  · exact (h.ne y hy).2 q hq x hx
  · exact (h.ne y hy).2 p (List.mem_of_getElem? hp) x hx
def shiftP (n : Nat) (ps : List Pm) : List Pm := ps.map fun p => { p with k := p.k - n }
theorem shiftP_vals (n : Nat) (ps : List Pm) : vals (shiftP n ps) = shiftV n (vals ps) := by simp [vals, shiftP, shiftV, Pm.v]
theorem shiftP_at (n : Nat) (ps : List Pm) (k : Nat) (p : Pm) (hp : ps[k]? = some p) : (shiftP n (ps.take k) ++ ps.drop k)[k]? = some p := by
  have hlt := (List.getElem?_eq_some_iff.1 hp).1
  have hl : (shiftP n (ps.take k)).length = k := by simp [shiftP]; omega
  rw [List.getElem?_append_right (by omega), hl, Nat.sub_self, List.getElem?_drop, Nat.add_zero, hp]
theorem shiftP_step (n : Nat) (ps : List Pm) (k : Nat) (p : Pm) (hp : ps[k]? = some p) : (shiftP n (ps.take k) ++ ps.drop k).set k { p with k := p.k - n } = shiftP n (ps.take (k + 1)) ++ ps.drop (k + 1) := by
  have hlt := (List.getElem?_eq_some_iff.1 hp).1
  have hl : (shiftP n (ps.take k)).length = k := by simp [shiftP]; omega
  rw [List.set_append_right _ _ (by omega), hl, Nat.sub_self, List.drop_eq_getElem_cons hlt, (List.getElem?_eq_some_iff.1 hp).2, List.set_cons_zero, List.take_add_one, hp]
  simp [shiftP]

set_option maxHeartbeats 2000000 in
theorem l6Take_any (a : Option Addr) (len cap : Nat) (ps : List Pm) (w : World) (h : Pl w a len cap ps) (hl : len ≤ 4) (hd : ∀ p ∈ ps, p.l ≤ 1048576) (hk : ∀ p ∈ ps, 0 ≤ p.k ∧ p.k ≤ 2000) :
    Calls Try.prog 106 #[.slice a len cap] w (PrTup w (takeL (vals ps)) (takeR (vals ps))) := by
  have K := Lib.hid (l6Copy_any a len cap ps w h (by omega) hd)
  have HD := Lib.hid hd
  have HK : Hid (∀ v ∈ vals ps, 0 ≤ v.1 ∧ v.1 ≤ 2000) := by
    intro v hv
    obtain ⟨p, hp, rfl⟩ := List.mem_map.1 hv
    exact hk p hp
  have LV := Lib.hid (fun W a' c' (qs : List Pm) (h' : Pl W a' len c' qs) (hv : vals qs = vals ps) => len_of_vals h h' hv hd)
  generalize hvs : vals ps = vs at *
  clear h hd hk hvs HD
  go_enter Try.func106, Try.ntmps106
  go_wp2_with fail
  refine K.out.mono ?_
  rintro e w1 ⟨a1, c1, qs, rfl, l1, d1, v1, b1⟩
  subst v1
  have hlen := l1.length
  have L1 := Lib.hid l1
  have D1 := Lib.hid d1
  have B1 := Lib.hid b1
  have LQ := Lib.hid (LV.out _ _ _ _ (l1.plO d1 (Nat.le_refl _) (fun x hx => (l1.lt x hx).2)).pl rfl)
  clear K l1 d1 b1 LV
  cases qs with
  | nil =>
    obtain rfl : len = 0 := by simpa using hlen.symm
    go_wp2
    refine bodyPost_ret (v := .tuple #[.slice a1 0 c1, .slice none 0 0]) (by simp [results, Try.results106, go_sem]) rfl ⟨_, _, _, [], _, _, _, rfl, PrO.noReady (L1.out.plO D1.out (Nat.le_refl _) (fun x hx => (L1.out.lt x hx).2)), rfl, B1.out⟩
  | cons p qs =>
    obtain ⟨pk, pa, pl, pc, pz⟩ := p
    have hpos : 0 < len := by simp only [List.length_cons] at hlen; omega
    obtain ⟨b, off, p', ha, hp', c0, c1'⟩ := L1.out.lb.at hpos
    simp only [List.getElem?_cons_zero, Option.some.injEq] at hp'
    subst hp'
    rcases L1.out.shape with ⟨_, h0, _⟩ | ⟨g, hg⟩
    · omega
    rw [hg] at ha
    cases ha
    subst hg
    simp only [Nat.zero_add, Nat.zero_mul] at c0 c1'
    have hzl : pz.length = pl := (D1.out.own _ (List.mem_cons_self ..)).1.length
    have hcm := L1.out.max
    by_cases h0 : pk = 0
    · subst h0
      have hpl : pl ≤ 1048576 := LQ.out _ (List.mem_cons_self ..)
      have hV : Hid (takeL (vals (⟨0, pa, pl, pc, pz⟩ :: qs)) = shiftV pl (vals qs) ∧ takeR (vals (⟨0, pa, pl, pc, pz⟩ :: qs)) = pz) := ⟨by simp [vals, takeL, Pm.v, hzl], by simp [vals, takeR, Pm.v]⟩
      have hlen' : qs.length = len - 1 := by simp only [List.length_cons] at hlen; omega
      have HKq : Hid (∀ q ∈ qs, 0 ≤ q.k ∧ q.k ≤ 2000) := fun q hq => HK.out q.v (List.mem_map_of_mem (List.mem_cons_of_mem _ hq))
      by_cases hc : c1 = 1
      · have R0 := Lib.hid (L1.out.behind (off := 0) D1.out (Nat.le_refl _) (L1.out.lt _ rfl).2 (.inr hc))
        subst hc
        obtain rfl : len = 1 := by omega
        obtain rfl : qs = [] := List.length_eq_zero_iff.1 (by omega)
        clear hlen hlen' HKq hcm
        go_wp2
        go_loopw [28] (fun i wr => i = .int .i64 0 ∧ w1 = wr) (fun _ _ => 0)
        case atStart => exact ⟨rfl, rfl⟩
        case round =>
          obtain ⟨rfl, rfl⟩ := hrel
          go_wp2
          refine bodyPost_ret (v := .tuple #[.slice (some ⟨b, 0, none⟩) 0 0, .slice pa pl pc]) (by simp [results, Try.results106, go_sem]) rfl ⟨_, _, _, [], _, _, _, rfl, ?_, ?_, B1.out⟩
          · rw [hV.out.2]; exact R0.out
          · rw [hV.out.1]; rfl
      · have R0 := Lib.hid (L1.out.behind (off := 2) D1.out (Nat.le_refl _) (L1.out.lt _ rfl).2 (.inl rfl))
        have HW : Hid (w.heap.size ≤ b) := (L1.out.lt _ rfl).1
        clear L1 D1 hlen hzl HK
        go_wp2
        go_loopw [28] (fun i wr => ∃ k : Nat, k ≤ len - 1 ∧ i = .int .i64 k ∧ Hid (PrO wr w.heap.size w1.heap.size (some ⟨b, 2, none⟩) (len - 1) (c1 - 1) (shiftP pl (qs.take k) ++ qs.drop k) pa pl pc pz) ∧ Hid (Below w.heap.size w wr) ∧ Hid (w1.heap.size ≤ wr.heap.size)) (fun i _ => len - (intOf i).toNat)
        case atStart => exact ⟨0, Nat.zero_le _, rfl, by simpa [Hid, shiftP] using R0.out, B1.out, Nat.le_refl _⟩
        case round =>
          obtain ⟨k, hk, rfl, hR, hB, hS⟩ := hrel
          by_cases hlt : k < len - 1
          · obtain ⟨q, hq⟩ : ∃ q, qs[k]? = some q := ⟨_, List.getElem?_eq_getElem (by omega)⟩
            have hqa := shiftP_at pl qs k q hq
            obtain ⟨b', off', q', ha, hq', d0, d1⟩ := hR.out.pl.lb.at hlt
            cases ha
            rw [hqa] at hq'
            cases hq'
            have R1 := hR.out.putK k q hqa (q.k - pl)
            rw [shiftP_step pl qs k q hq] at R1
            have RR1 := Lib.hid R1
            have f0 := hR.out.pl.fz.at (2 + k * 2)
            have hqk := HKq.out q (List.mem_of_getElem? hq)
            clear R1 hqa hq hR R0
            go_wp2
            go_roundw
            case rel => exact ⟨k + 1, by omega, by go_num, RR1.out, hB.out.setCell HW.out _, by simpa [Hid] using hS.out⟩
            case measure => simp [intOf]; omega
          · obtain rfl : k = len - 1 := by omega
            have hE : Hid (PrO wr w.heap.size w1.heap.size (some ⟨b, 2, none⟩) (len - 1) (c1 - 1) (shiftP pl qs) pa pl pc pz) := by
              have := hR.out
              rw [List.take_of_length_le (by omega), List.drop_of_length_le (by omega), List.append_nil] at this
              exact this
            clear hR R0
            go_wp2
            refine bodyPost_ret (v := .tuple #[.slice (some ⟨b, 2, none⟩) (len - 1) (c1 - 1), .slice pa pl pc]) (by simp [results, Try.results106, go_sem]) rfl ⟨_, _, _, shiftP pl qs, _, _, _, rfl, ?_, ?_, hB.out⟩
            · rw [hV.out.2]; exact hE.out.mono (Nat.le_refl _) hS.out
            · rw [hV.out.1]; exact shiftP_vals pl qs
    · have hV : Hid (takeL (vals (⟨pk, pa, pl, pc, pz⟩ :: qs)) = vals (⟨pk, pa, pl, pc, pz⟩ :: qs) ∧ takeR (vals (⟨pk, pa, pl, pc, pz⟩ :: qs)) = []) := ⟨by simp [vals, takeL, Pm.v, h0], by simp [vals, takeR, Pm.v, h0]⟩
      have hb := hid_bne h0
      clear h0
      go_wp2
      refine bodyPost_ret (v := .tuple #[.slice (some ⟨b, 0, none⟩) len c1, .slice none 0 0]) (by simp [results, Try.results106, go_sem]) rfl ⟨_, _, _, Pm.mk pk pa pl pc pz :: qs, _, _, _, rfl, ?_, ?_, B1.out⟩
      · rw [hV.out.2]; exact PrO.noReady (L1.out.plO D1.out (Nat.le_refl _) (fun x hx => (L1.out.lt x hx).2))
      · rw [hV.out.1]

def trL (vs : List (Int × List Int)) : List (Int × List Int) := if pfV vs = 0 then takeL vs else []
def trR (vs : List (Int × List Int)) : List Int := if pfV vs = 0 then takeR vs else []
theorem PrO.zero (w : World) (lo hi : Nat) : PrO w lo hi none 0 0 [] none 0 0 [] := PrO.noReady (PlO.nil0 w lo hi)
theorem PrO.setOther {w : World} {lo hi : Nat} {a : Option Addr} {len cap : Nat} {ps : List Pm} {b : Option Addr} {lb cb : Nat} {zb : List Int} (h : PrO w lo hi a len cap ps b lb cb zb) (p : Addr) (u : Value) (hp : p.block < lo ∨ hi ≤ p.block) : PrO (w.setCell p u) lo hi a len cap ps b lb cb zb :=
  h.keep fun k h1 h2 _ => heap_setCell_other w p k u (by omega)
theorem Box.three {w : World} {b : Nat} {t : TypeId} {x y z : Value} (h : Box w b t #[x, y, z]) : b < w.heap.size ∧ w.cell? ⟨b, 0, none⟩ = some x ∧ w.cell? ⟨b, 1, none⟩ = some y ∧ w.cell? ⟨b, 2, none⟩ = some z := ⟨h.lt, h.cell 0, h.cell 1, h.cell 2⟩
/-- a list without a fault -/
theorem ok_parts {w : World} {a : Option Addr} {len cap : Nat} {ps : List Pm} (h : Pl w a len cap ps) (hc : pfV (vals ps) = 0) : len ≤ 4 ∧ ∀ p ∈ ps, 0 ≤ p.k ∧ p.k ≤ 2000 ∧ p.k + p.l ≤ 2000 ∧ p.l ≠ 0 := by
  have h1 := pfV_short hc
  refine ⟨by have := h1.1; rw [vals_len, h.lb.length] at this; exact this, fun p hp => ?_⟩
  have h2 := pf1_zero h1.2 p.v (List.mem_map_of_mem hp)
  have h3 := (h.data p hp).length
  simp only [Pm.v] at h2
  omega

set_option maxHeartbeats 2000000 in
theorem specTakeReady (a : Option Addr) (len cap : Nat) (ps : List Pm) (w : World) (h : Pl w a len cap ps) (hd : ∀ p ∈ ps, p.l ≤ 1048576) :
    Calls Try.prog 22 #[.slice a len cap] w (PrOut w (pfV (vals ps)) (trL (vals ps)) (trR (vals ps))) := by
  have B0 := Lib.hid ((Below.refl w.heap.size w).alloc (Nat.le_refl _) (.cells #[.int .i64 0, .slice none 0 0, .slice none 0 0] 28))
  have X0 := Lib.hid (Box.new w 28 #[.int .i64 0, .slice none 0 0, .slice none 0 0])
  have K := Lib.hid (specPiecesFault a len cap ps _ (h.below B0.out) hd)
  by_cases hc : pfV (vals ps) = 0
  · have e1 : trL (vals ps) = takeL (vals ps) := if_pos hc
    have e2 : trR (vals ps) = takeR (vals ps) := if_pos hc
    have hp := ok_parts h hc
    have T := Lib.hid (fun W (hW : Below w.heap.size w W) => l6Take_any a len cap ps W (h.below hW) hp.1 hd (fun p hpp => ⟨(hp.2 p hpp).1, (hp.2 p hpp).2.1⟩))
    rw [hc] at K ⊢
    rw [e1, e2]
    clear h hd hc e1 e2 hp
    generalize takeL (vals ps) = L at *
    generalize takeR (vals ps) = R at *
    go_enter Try.func22, Try.ntmps22
    go_wp2_with fail
    refine K.out.mono ?_
    rintro e w1 ⟨rfl, b1⟩
    have X1 := Lib.hid (X0.out.below b1 X0.out.lt)
    have B1 := Lib.hid (B0.out.trans (b1.mono B0.out.size))
    clear b1 K B0 X0
    go_wp2_with fail
    refine (T.out _ B1.out).mono ?_
    rintro e w2 ⟨a2, l2, c2, qs, rb, rl, rc, rfl, r2, v2, b2⟩
    have X2 := X1.out.below b2 X1.out.lt
    have hx := X1.out.lt
    obtain ⟨zz, x0, x1, x2⟩ := X2.three
    have f0 := X2.frozen 0
    have f1 := X2.frozen 1
    have f2 := X2.frozen 2
    have R2 := Lib.hid r2
    have V2 := Lib.hid v2
    have B2 := Lib.hid (B1.out.trans (b2.mono B1.out.size))
    have HW := Lib.hid hx
    have S1 := Lib.hid B1.out.size
    clear b2 r2 v2 X1 X2 B1 hx
    go_wp2
    refine bodyPost_ret (v := .agg #[.int .i64 0, .slice a2 l2 c2, .slice rb rl rc]) (by simp [results, Try.results22, go_sem, x0, x1, x2]) rfl ⟨_, _, _, qs, _, _, _, rfl, ?_, V2.out, ((B2.out.setCell (Nat.le_refl _) _).setCell (Nat.le_refl _) _).setCell (Nat.le_refl _) _⟩
    exact ((((R2.out.setOther _ _ (.inl HW.out)).setOther _ _ (.inl HW.out)).setOther _ _ (.inl HW.out)).mono S1.out (by simp))
  · have e1 : trL (vals ps) = [] := if_neg hc
    have e2 : trR (vals ps) = [] := if_neg hc
    have hb := hid_bne hc
    rw [e1, e2]
    clear h hd hc e1 e2
    generalize pfV (vals ps) = c at *
    go_enter Try.func22, Try.ntmps22
    go_wp2_with fail
    refine K.out.mono ?_
    rintro e w1 ⟨rfl, b1⟩
    have X1 := X0.out.below b1 X0.out.lt
    obtain ⟨zz, x0, x1, x2⟩ := X1.three
    have f0 := X1.frozen 0
    have f1 := X1.frozen 1
    have f2 := X1.frozen 2
    have B1 := Lib.hid (B0.out.trans (b1.mono B0.out.size))
    clear b1 K B0 X0 X1
    go_wp2
    exact bodyPost_ret (v := .agg #[.int .i64 c, .slice none 0 0, .slice none 0 0]) (by simp [results, Try.results22, go_sem, x0, x1, x2]) rfl ⟨_, _, _, [], _, _, _, rfl, PrO.zero _ _ _, rfl, ((B1.out.setCell (Nat.le_refl _) _).setCell (Nat.le_refl _) _).setCell (Nat.le_refl _) _⟩
end Go.Proofs.Ytimlobhlcmghfaa
