/-
  Copies of lists of pieces: clonePieces of the program, l6Copy of the model.
-/
import Derived.Test.YtimlobhlcmghfaaP6A
namespace Go.Proofs.Ytimlobhlcmghfaa
open Go.ChangeShapes Go.WideShapes Go.ChangeAt Go.RowKit

set_option maxHeartbeats 1000000 in
theorem bclone6 (a : Option Addr) (len cap : Nat) (zs : List Int) (w : World) (h : Rd w a len cap zs) (hl : len ≤ 1048576) :
    Calls Try.prog 166 #[.slice a len cap] w (Fresh w len zs) := by
  cases a with
  | none =>
    obtain ⟨rfl, rfl⟩ := h.nil rfl
    have hz := Lib.hid (List.length_eq_zero_iff.1 h.length)
    clear h
    have q := Lib.run_eql_slice_nil (P := Try.prog) w 22 5 none 0 0 0 0 Try.underlying22
    go_enter Try.func166, Try.ntmps166
    go_wp2
    go_ret
    exact ⟨none, 0, rfl, by rw [hz.out]; exact Own.nil _ _, Below.refl _ _⟩
  | some x =>
    have o0 := own_lit w w.heap.size (Nat.le_refl _)
    have r0 := h.alloc (.cells #[] 5)
    have q := Lib.run_eql_slice_nil (P := Try.prog) w 22 5 (some x) len cap 0 0 Try.underlying22
    go_enter Try.func166, Try.ntmps166
    go_wp2_with (at_builtin; refine append_bytes _ rfl (.tmp 5) (.tmp 6) rfl w.heap.size _ _ _ [] rfl o0 (some x) len cap zs rfl r0 (by simp) (by omega) ?_; intro a' c' w' ho hg)
    go_ret
    refine ⟨a', c', by simp [Array.getD], by simpa using ho, ?_⟩
    exact ((Below.refl _ _).alloc (Nat.le_refl _) _).grown hg (by simp) (fun k e => by simp [Value.ownBlock] at e; omega)

set_option maxHeartbeats 1000000 in
theorem sclone6 (a : Option Addr) (len cap : Nat) (ps : List Pm) (w : World) (h : Lb w a len cap ps) (hl : len ≤ 1048576) :
    Calls Try.prog 165 #[.slice a len cap] w fun e w' => ∃ a' c', e = .returned (.slice a' len c') ∧ Lo w' w.heap.size a' len c' ps ∧ Below w.heap.size w w' := by
  cases a with
  | none =>
    obtain ⟨rfl, rfl⟩ := h.nil rfl
    have hz := Lib.hid (List.length_eq_zero_iff.1 h.length)
    clear h
    have q := Lib.run_eql_slice_nil (P := Try.prog) w 24 133 none 0 0 0 0 Try.underlying24
    go_enter Try.func165, Try.ntmps165
    go_wp2
    go_ret
    exact ⟨none, 0, rfl, by rw [hz.out]; exact Lo.nil _ _, Below.refl _ _⟩
  | some x =>
    have o0 := lo_lit w w.heap.size (Nat.le_refl _)
    have r0 := h.below ((Below.refl w.heap.size w).alloc (Nat.le_refl _) (.cells #[] 133))
    have q := Lib.run_eql_slice_nil (P := Try.prog) w 24 133 (some x) len cap 0 0 Try.underlying24
    go_enter Try.func165, Try.ntmps165
    go_wp2_with (at_builtin; refine append_pieces _ rfl (.tmp 5) (.tmp 6) rfl w.heap.size _ _ _ [] rfl o0 (some x) len cap ps rfl r0 (by simp) (by omega) ?_; intro a' c' w' ho hg)
    go_ret
    refine ⟨a', c', by simp [Array.getD], by simpa using ho, ?_⟩
    exact ((Below.refl _ _).alloc (Nat.le_refl _) _).grown hg (by simp) (fun k e => by simp [Value.ownBlock] at e; omega)

/-- a list of these pieces in new memory, its array at its block's head -/
def CloneOut (w : World) (len : Nat) (vs : List (Int × List Int)) (e : Ending) (w' : World) : Prop :=
  ∃ a' c' qs, e = .returned (.slice a' len c') ∧ Lo w' w.heap.size a' len c' qs ∧ Ds w' w.heap.size w'.heap.size qs ∧ vals qs = vs ∧ Below w.heap.size w w'

theorem mid_at (qs ps : List Pm) (k : Nat) (p : Pm) (hq : qs.length = k) (hp : ps[k]? = some p) : (qs ++ ps.drop k)[k]? = some p := by
  rw [List.getElem?_append_right (by omega), hq, Nat.sub_self, List.getElem?_drop, Nat.add_zero, hp]
theorem mid_set (qs ps : List Pm) (k : Nat) (p q : Pm) (hq : qs.length = k) (hp : ps[k]? = some p) : (qs ++ ps.drop k).set k q = (qs ++ [q]) ++ ps.drop (k + 1) := by
  rw [List.set_append_right _ _ (by omega), hq, Nat.sub_self, List.drop_eq_getElem_cons (List.getElem?_eq_some_iff.1 hp).1, List.set_cons_zero]
  simp

set_option maxHeartbeats 2000000 in
theorem clonePieces_any (a : Option Addr) (len cap : Nat) (ps : List Pm) (w : World) (h : Pl w a len cap ps) (hl : len ≤ 1048576) (hd : ∀ p ∈ ps, p.l ≤ 1048576) :
    Calls Try.prog 96 #[.slice a len cap] w (CloneOut w len (vals ps)) := by
  have HP := Lib.hid h
  have HD := Lib.hid hd
  have K := Lib.hid (sclone6 a len cap ps w h.lb hl)
  clear h hd
  go_enter Try.func96, Try.ntmps96
  go_wp2_with fail
  refine K.out.mono ?_
  rintro e w1 ⟨a1, c1, rfl, l1, b1⟩
  have L1 := Lib.hid l1
  have B1 := Lib.hid b1
  clear l1 b1 K
  go_wp2
  go_loopw [9] (fun i wr => ∃ (k : Nat) (qs : List Pm), k ≤ len ∧ i = .int .i64 k ∧ Hid (qs.length = k) ∧ Hid (vals qs = vals (ps.take k)) ∧ Hid (Lo wr w.heap.size a1 len c1 (qs ++ ps.drop k)) ∧ Hid (Ds wr w.heap.size wr.heap.size qs) ∧ Hid (Below w.heap.size w wr)) (fun i _ => len - (intOf i).toNat)
  case atStart => exact ⟨0, [], Nat.zero_le _, rfl, rfl, rfl, by simpa [Hid] using L1.out, Ds.nil _ _ _, B1.out⟩
  case round =>
    obtain ⟨k, qs, hk, rfl, hql, hqv, hL, hD, hB⟩ := hrel
    clear L1 B1
    by_cases hlt : k < len
    · obtain ⟨p, hp⟩ : ∃ p, ps[k]? = some p := ⟨_, List.getElem?_eq_getElem (by rw [HP.out.lb.length]; exact hlt)⟩
      have hpl := HD.out p (List.mem_of_getElem? hp)
      have R := Lib.hid ((HP.out.below hB.out).data p (List.mem_of_getElem? hp))
      have hv : Hid (vals (ps.take (k + 1)) = vals (ps.take k) ++ [p.v]) := by simp only [Hid]; rw [List.take_add_one, hp]; simp [vals]
      have hm := Lib.hid (mid_at qs ps k p hql.out hp)
      have hms := Lib.hid (fun q => mid_set qs ps k p q hql.out hp)
      rcases hL.out.shape with ⟨_, h0, _⟩ | ⟨g, rfl⟩
      · omega
      obtain ⟨b', off', p', ha, hp', c0, cD⟩ := hL.out.lb.at hlt
      cases ha
      rw [hm.out] at hp'
      cases hp'
      simp only [Nat.zero_add] at c0 cD
      clear hp
      obtain ⟨pk, pa, pl, pc, pz⟩ := p
      simp only at c0 cD R hpl hv hm hms
      have K := Lib.hid (bclone6 pa pl pc pz wr R.out hpl)
      go_wp2_with fail
      refine K.out.mono ?_
      rintro e w2 ⟨a2, c2, rfl, o2, b2⟩
      have L2 := Lib.hid (hL.out.below b2)
      have hg : g < wr.heap.size := (hL.out.lt _ rfl).2
      have D2 := Lib.hid ((hD.out.below b2).snoc ⟨pk, a2, pl, c2, pz⟩ (o2.rebase (by have := hB.out.size; omega)) (fun y hy => (o2.lt y hy).1) b2.size)
      have B2 := Lib.hid (hB.out.trans (b2.mono hB.out.size))
      have L3 := L2.out.putD k _ hm.out a2 pl c2 pz
      rw [hms.out] at L3
      have LL3 := Lib.hid L3
      have D3 := Lib.hid (D2.out.grown L2.out (grown_setCell w2 ⟨g, k * 2 + 1, none⟩ (.slice a2 pl c2)))
      have hsz : (w2.setCell ⟨g, k * 2 + 1, none⟩ (.slice a2 pl c2)).heap.size = w2.heap.size := World.size_setCell ..
      rw [← hsz] at D3
      have HG : Hid (w.heap.size ≤ g) := (L2.out.lt _ rfl).1
      have q0 := keepB' b2 c0
      have q1 := keepB' b2 cD
      have f1 := L2.out.fz.at (k * 2 + 1)
      clear hsz L3 o2 b2 hL hD hB R c0 cD K L2 D2 hm hms
      go_wp2
      go_roundw
      case rel => exact ⟨k + 1, qs ++ [Pm.mk pk a2 pl c2 pz], by omega, by go_num, by simp only [Hid, List.length_append, hql.out]; rfl, by simp only [Hid]; rw [hv.out, ← hqv.out]; simp [vals, Pm.v], LL3.out, D3.out, B2.out.setCell HG.out _⟩
      case measure => simp [intOf]; omega
    · obtain rfl : k = len := by omega
      have hE : Hid (Lo wr w.heap.size a1 k c1 qs) := by
        have := hL.out
        rwa [List.drop_of_length_le (by rw [HP.out.lb.length]; exact Nat.le_refl _), List.append_nil] at this
      have hV : Hid (vals qs = vals ps) := by
        have e := hqv.out
        rwa [List.take_of_length_le (by rw [HP.out.lb.length]; exact Nat.le_refl _)] at e
      clear hL hqv
      go_wp2
      go_ret
      exact ⟨_, _, qs, rfl, hE.out, hD.out, hV.out, hB.out⟩

theorem lb_box {w : World} {g : Nat} {t : TypeId} {k : Int} {a : Option Addr} {l c : Nat} (h : Box w g t #[.int .i64 k, .slice a l c]) (z : List Int) : Lb w (some ⟨g, 0, none⟩) 1 1 [⟨k, a, l, c, z⟩] := by
  refine ⟨rfl, Nat.le_refl _, by unfold maxLen; omega, by simp, .inr ⟨g, 0, rfl, fun i p hp => ?_⟩⟩
  match i with
  | 0 => simp at hp; subst hp; exact ⟨h.cell 0, h.cell 1⟩
  | i + 1 => simp at hp
set_option maxHeartbeats 2000000 in
theorem l6Copy_any (a : Option Addr) (len cap : Nat) (ps : List Pm) (w : World) (h : Pl w a len cap ps) (hl : len ≤ 1048576) (hd : ∀ p ∈ ps, p.l ≤ 1048576) :
    Calls Try.prog 101 #[.slice a len cap] w (CloneOut w len (vals ps)) := by
  have HP := Lib.hid h
  have HD := Lib.hid hd
  have L0 := Lib.hid (lo_lit w w.heap.size (Nat.le_refl _))
  have B0 := Lib.hid ((Below.refl w.heap.size w).alloc (Nat.le_refl _) (.cells #[] 133))
  clear h hd
  go_enter Try.func101, Try.ntmps101
  go_wp2
  go_loopw [3, 4] (fun o i wr => ∃ (k : Nat) (qs : List Pm) (a1 : Option Addr) (c1 : Nat), k ≤ len ∧ i = .int .i64 k ∧ o = .slice a1 k c1 ∧ Hid (vals qs = vals (ps.take k)) ∧ Hid (Lo wr w.heap.size a1 k c1 qs) ∧ Hid (Ds wr w.heap.size wr.heap.size qs) ∧ Hid (Below w.heap.size w wr)) (fun _ i _ => len - (intOf i).toNat)
  case atStart => exact ⟨0, [], _, _, Nat.zero_le _, rfl, rfl, rfl, L0.out, Ds.nil _ _ _, B0.out⟩
  case round =>
    obtain ⟨k, qs, a1, c1, hk, rfl, rfl, hqv, hL, hD, hB⟩ := hrel
    clear L0 B0
    by_cases hlt : k < len
    · obtain ⟨b, off, p, rfl, hp, c0, cD⟩ := (HP.out.lb.below hB.out).at hlt
      have hpl := HD.out p (List.mem_of_getElem? hp)
      have R := Lib.hid ((HP.out.below hB.out).data p (List.mem_of_getElem? hp))
      have hv : Hid (vals (ps.take (k + 1)) = vals (ps.take k) ++ [p.v]) := by simp only [Hid]; rw [List.take_add_one, hp]; simp [vals]
      clear hp
      obtain ⟨pk, pa, pl, pc, pz⟩ := p
      simp only at c0 cD R hpl hv
      have K := Lib.hid (l1Copy_any pa pl pc pz wr.drew R.out.drew hpl)
      have hbl : b < w.heap.size := by
        rcases HP.out.lb.cells with h0 | ⟨b', off', e, hc⟩
        · omega
        · cases e
          have hh := HP.out.lb.at hlt
          obtain ⟨_, _, _, e, _, q, _⟩ := hh
          cases e
          exact World.block_lt_of_cell? _ _ q
      go_wp2_with fail
      go_region_held3 (fun W => W.cell? ⟨b, off + k * 2, none⟩ = some (.int .i64 pk) ∧ W.cell? ⟨b, off + k * 2 + 1, none⟩ = some (.slice pa pl pc))
        (first | go_keep | (go_split_ands; exact ⟨keepB hb (by assumption) hbl, keepB hb (by assumption) hbl⟩))
        (first
          | (have q := M1; clear q; refine append_pstep _ rfl (.tmp 12) (.tmp 25) rfl w.heap.size _ _ _ _ rfl L2.out _ _ _ _ rfl X2.out S2.out (by omega) ?_; intro a3 c3 w3 l3 g3 hb)
          | (go_at_call 172; refine K.out.mono ?_; rintro e w2 ⟨a2, c2, rfl, o2, b2⟩; have M1 : Hid True := trivial; have hb := b2.mono hB.out.drew.size; have L2 := Lib.hid ((hL.out.below (Below.refl _ wr).drew).below b2 |>.below ((Below.refl _ w2).alloc (Nat.le_refl _) (.cells #[.int .i64 pk, .slice a2 pl c2] 133))); have X2 := Lib.hid (lb_box (Box.new w2 133 #[.int .i64 pk, .slice a2 pl c2]) pz); have S2 := Lib.hid (((hB.out.drew.trans hb).alloc (hB.out.drew.trans hb).size (.cells #[.int .i64 pk, .slice a2 pl c2] 133)).size)))
      have D2 := (((hD.out.below (Below.refl _ wr).drew).below b2).below ((Below.refl _ w2).alloc (Nat.le_refl _) (.cells #[.int .i64 pk, .slice a2 pl c2] 133))).snoc (Pm.mk pk a2 pl c2 pz) ((o2.rebase (show w.heap.size ≤ wr.drew.heap.size from hB.out.drew.size)).alloc (.cells #[.int .i64 pk, .slice a2 pl c2] 133)) (fun y hy => (o2.lt y hy).1) (Nat.le_trans (show wr.heap.size ≤ w2.heap.size from b2.size) (by simp))
      have D3 := Lib.hid ((D2.grown L2.out g3).mono g3.size)
      have B3 := Lib.hid (((hB.out.drew.trans (b2.mono hB.out.drew.size)).alloc (hB.out.drew.trans (b2.mono hB.out.drew.size)).size (.cells #[.int .i64 pk, .slice a2 pl c2] 133)).trans hb)
      have L3 := Lib.hid l3
      clear D2 l3 g3 hb o2 b2 M1 L2 X2 S2 hL hD hB K R c0 cD
      go_wp2
      go_roundw
      case rel => exact ⟨k + 1, qs ++ [Pm.mk pk a2 pl c2 pz], a3, c3, by omega, by go_num, rfl, by simp only [Hid]; rw [hv.out, ← hqv.out]; simp [vals, Pm.v], L3.out, D3.out, B3.out⟩
      case measure => simp [intOf]; omega
    · obtain rfl : k = len := by omega
      have hV : Hid (vals qs = vals ps) := by
        have e := hqv.out
        rwa [List.take_of_length_le (by rw [HP.out.lb.length]; exact Nat.le_refl _)] at e
      clear hqv
      go_wp2
      go_ret
      exact ⟨_, _, qs, rfl, hL.out, hD.out, hV.out, hB.out⟩
end Go.Proofs.Ytimlobhlcmghfaa
