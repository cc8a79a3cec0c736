/-
  Contracts of the helpers of the laws that copy lists of pieces, mark them and look whether the marks are held.
-/
import Derived.Test.YtbngdenlplbjhaaP6H
import Derived.Test.YtbngdenlplbjhaaP6R
namespace Go.Proofs.Ytbngdenlplbjhaa
open Go.ChangeShapes Go.WideShapes Go.ChangeAt Go.RowKit

theorem Try.infoPiece : (Try.prog.info? 167).map (fun i => (i.zero, i.size, i.bytes)) = some (some (.agg #[.int .i64 0, .slice none 0 0]), 2, 32) := by kernel_rfl

/-- a piece of this place and these bytes, whose bytes are this call's own -/
def PieceOut (w : World) (k : Int) (len : Nat) (zs : List Int) (e : Ending) (w' : World) : Prop :=
  ∃ a' c', e = .returned (.agg #[.int .i64 k, .slice a' len c']) ∧ Own w' w.heap.size a' len c' zs ∧ Below w.heap.size w w'

set_option maxHeartbeats 1000000 in
theorem toPiece_any (k : Int) (a : Option Addr) (len cap : Nat) (zs : List Int) (w : World) (h : Rd w a len cap zs) (hl : len ≤ 1048576) :
    Calls Try.prog 107 #[.agg #[.int .i64 k, .slice a len cap]] w (PieceOut w k len zs) := by
  have T := Lib.hid (fun W (hW : Below w.heap.size w W) => toByteS_any a len cap zs W (h.below hW) hl)
  clear h
  have B0 := Lib.hid ((((Below.refl w.heap.size w).alloc (Nat.le_refl _) (.cells #[.int .i64 k, .slice a len cap] 173)).alloc (by simp) (.cells #[.int .i64 0, .slice none 0 0] 167)).alloc (by simp; omega) (.cells #[.int .i64 k, .slice none 0 0] 167))
  have R0 := Lib.hid ((Box.new (w.alloc (.cells #[.int .i64 k, .slice a len cap] 173)) 167 #[.int .i64 0, .slice none 0 0]).alloc (.cells #[.int .i64 k, .slice none 0 0] 167))
  have U0 := Lib.hid (Box.new ((w.alloc (.cells #[.int .i64 k, .slice a len cap] 173)).alloc (.cells #[.int .i64 0, .slice none 0 0] 167)) 167 #[.int .i64 k, .slice none 0 0])
  go_enter Try.func107, Try.ntmps107
  go_wp2_with fail
  refine (T.out _ B0.out).mono ?_
  rintro e w1 ⟨rfl, o1, b1⟩
  have R1 := R0.out.below b1 R0.out.lt
  have U1 := U0.out.below b1 U0.out.lt
  simp only [World.size_alloc] at R1 U1 o1
  have B1 := Lib.hid (B0.out.trans (b1.mono B0.out.size))
  obtain ⟨zr, r0, r1⟩ := R1.two
  obtain ⟨zu, u0, u1⟩ := U1.two
  have fr0 := R1.frozen 0
  have fr1 := R1.frozen 1
  have fu1 := U1.frozen 1
  have O1 := Lib.hid o1
  simp only [World.size_alloc]
  clear b1 o1 B0 R0 U0 R1 U1
  go_wp2
  refine bodyPost_ret (v := .agg #[.int .i64 k, .slice (some ⟨w.heap.size + 1 + 1 + 1, 0, none⟩) len len]) (by simp [results, Try.results107, go_sem, r0, r1]) rfl ⟨_, _, rfl, ?_, ((B1.out.setCell (by simp; omega) _).setCell (by simp) _).setCell (by simp) _⟩
  exact (((O1.out.setOther _ _ (by rintro x hx; cases hx; dsimp only; omega)).setOther _ _ (by rintro x hx; cases hx; dsimp only; omega)).setOther _ _ (by rintro x hx; cases hx; dsimp only; omega)).rebase (by omega)

theorem take_zeros_set (qs : List Pm) (n k : Nat) (q : Pm) (h : qs.length = k) (hk : k < n) : (qs ++ List.replicate (n - k) zPm).set k q = (qs ++ [q]) ++ List.replicate (n - (k + 1)) zPm := by
  subst h
  rw [List.set_append_right _ _ (Nat.le_refl _), Nat.sub_self, show n - qs.length = (n - (qs.length + 1)) + 1 by omega, List.replicate_succ]
  simp

/-- a list of these pieces in new memory -/
def ListOut (w : World) (len : Nat) (vs : List (Int × List Int)) (e : Ending) (w' : World) : Prop :=
  ∃ a' c' qs, e = .returned (.slice a' len c') ∧ PlO w' w.heap.size w'.heap.size a' len c' qs ∧ vals qs = vs ∧ Below w.heap.size w w'

theorem zeros_own {w w1 : World} {n : Nat} (h : w1.ownsRow w.heap.size 167 2 (.slice (some ⟨w.heap.size, 0, none⟩) n n) n (madeCells (Value.agg #[.int .i64 0, .slice none 0 0]).cells (n * 2)).toList) : PlO w1 w.heap.size w1.heap.size (some ⟨w.heap.size, 0, none⟩) n n (List.replicate n zPm) := by
  have e : (Value.agg #[.int .i64 0, .slice none 0 0]).cells = #[.int .i64 0, .slice none 0 0] := rfl
  rw [e, made_pieces] at h
  have hL : Lo w1 w.heap.size (some ⟨w.heap.size, 0, none⟩) n n (List.replicate n zPm) := ⟨h⟩
  refine ⟨hL.lb, hL.fz, fun x hx => ⟨(hL.lt x hx).1, (hL.lt x hx).2, fun p hp y hy => ?_⟩, fun p hp => ?_, ?_⟩
  · obtain ⟨_, rfl⟩ := List.mem_replicate.1 hp
    cases hy
  · obtain ⟨_, rfl⟩ := List.mem_replicate.1 hp
    exact ⟨Own.nil _ _, fun y hy => by cases hy⟩
  · rw [List.pairwise_replicate]
    right
    intro x y hx
    cases hx

set_option maxHeartbeats 1000000 in
theorem toPieceS_any (a : Option Addr) (len cap : Nat) (ps : List Pm) (w : World) (h : Pl w a len cap ps) (hl : len ≤ 1048576) (hd : ∀ p ∈ ps, p.l ≤ 1048576) :
    Calls Try.prog 99 #[.slice a len cap] w (ListOut w len (vals ps)) := by
  obtain ⟨i0, hi, hz0, hz1, hz2⟩ := info_parts Try.infoPiece
  have HP := Lib.hid h
  have HD := Lib.hid hd
  have hm : len ≤ maxLen := by unfold maxLen; omega
  clear h hd
  go_enter Try.func99, Try.ntmps99
  go_wp2_with (at_make; refine wpList_make_full _ rfl (.tmp 6) (.tmp 6) 142 rfl w.heap.size 167 i0 (.agg #[.int .i64 0, .slice none 0 0]) 2 Try.underlying142 hi hz0 hz1 .i64 .i64 len len len rfl rfl rfl rfl (by rw [hz2]; omega) hm (Nat.le_refl _) ?_; intro w1 hown hgrow)
  have hO := Lib.hid (zeros_own hown)
  have hB := Lib.hid (below_of_grown hgrow (Nat.le_refl _) (by simp))
  clear hown hgrow hi hz0 hz1 hz2
  go_loopw [4] (fun i wr => ∃ (k : Nat) (qs : List Pm), k ≤ len ∧ i = .int .i64 k ∧ Hid (qs.length = k) ∧ Hid (vals qs = vals (ps.take k)) ∧ Hid (PlO wr w.heap.size wr.heap.size (some ⟨w.heap.size, 0, none⟩) len len (qs ++ List.replicate (len - k) zPm)) ∧ Hid (Below w.heap.size w wr)) (fun i _ => len - (intOf i).toNat)
  case atStart => exact ⟨0, [], Nat.zero_le _, rfl, rfl, rfl, by simpa [Hid] using hO.out, hB.out⟩
  case round =>
    obtain ⟨k, qs, hk, rfl, hql, hqv, hown, hb⟩ := hrel
    clear hO hB
    by_cases hlt : k < len
    · obtain ⟨b, off, p, rfl, hp, c0, c1⟩ := (HP.out.lb.below hb.out).at hlt
      have R1 := Lib.hid ((HP.out.below hb.out).data p (List.mem_of_getElem? hp))
      have hpl := HD.out p (List.mem_of_getElem? hp)
      have hv : Hid (vals (ps.take (k + 1)) = vals (ps.take k) ++ [p.v]) := by simp only [Hid]; rw [List.take_add_one, hp]; simp [vals]
      clear hp
      obtain ⟨pk, pa, pl, pc, pz⟩ := p
      simp only at c0 c1 R1 hpl
      have K := Lib.hid (toPiece_any pk pa pl pc pz wr R1.out hpl)
      have hz : Hid ((qs ++ List.replicate (len - k) zPm)[k]? = some zPm) := by
        have e := hql.out
        simp only [Hid]
        rw [List.getElem?_append_right (by omega), List.getElem?_replicate, if_pos (by omega)]
      go_wp2_with fail
      refine K.out.mono ?_
      rintro e w2 ⟨a2, cp2, rfl, o2, b2⟩
      have P2 := Lib.hid (hown.out.below b2)
      have N2 := Lib.hid (P2.out.putN k zPm hz.out pk a2 pl cp2 pz (o2.baseTo (fun x hx => by have := o2.lt x hx; have := hb.out.size; omega)) (fun y hy => (o2.lt y hy).1) b2.size)
      rw [take_zeros_set qs len k _ hql.out hlt] at N2
      have B2 := Lib.hid (hb.out.trans (b2.mono hb.out.size))
      obtain ⟨_, _, _, e0, _, q0, q1⟩ := P2.out.lb.at hlt
      cases e0
      have f0 := P2.out.fz.at (0 + k * 2)
      have f1 := P2.out.fz.at (0 + k * 2 + 1)
      simp only [Nat.zero_add] at q0 q1 f0 f1 N2
      clear o2 b2 hown hb R1 c0 c1 P2 K hz
      go_wp2
      go_roundw
      case rel => exact ⟨k + 1, qs ++ [⟨pk, a2, pl, cp2, pz⟩], by omega, by go_num, by simp only [Hid, List.length_append, hql.out]; rfl, by simp only [Hid]; rw [hv.out, ← hqv.out]; simp [vals, Pm.v], by simpa [Hid] using N2.out, (B2.out.setCell (Nat.le_refl _) _).setCell (Nat.le_refl _) _⟩
      case measure => simp [intOf]; omega
    · obtain rfl : k = len := by omega
      have hE : Hid (PlO wr w.heap.size wr.heap.size (some ⟨w.heap.size, 0, none⟩) k k qs) := by have := hown.out; simpa [Hid] using this
      have hV : Hid (vals qs = vals ps) := by
        have e := hqv.out
        rwa [List.take_of_length_le (by rw [HP.out.lb.length]; exact Nat.le_refl _)] at e
      clear hown hqv
      go_wp2
      go_ret
      exact ⟨_, _, qs, rfl, hE.out, hV.out, hb.out⟩

/-- the pieces when they are marked from k0 on -/
def markP : Nat → List Pm → List Pm
  | _, [] => []
  | k0, p :: ps => ⟨k0, p.a, p.l, p.c, marks (k0 + 1) p.l⟩ :: markP (k0 + 1 + p.l) ps
def szP (ps : List Pm) : Nat := ps.length + sumL ps
theorem szP_take_succ (ps : List Pm) (k : Nat) (p : Pm) (h : ps[k]? = some p) : szP (ps.take (k + 1)) = szP (ps.take k) + 1 + p.l := by
  have hlt := (List.getElem?_eq_some_iff.1 h).1
  unfold szP
  rw [sumL_take_succ ps k p h, List.length_take, List.length_take]
  omega
theorem szP_take_le (ps : List Pm) (k : Nat) : szP (ps.take k) ≤ szP ps := by
  have := sumL_take_le ps k
  unfold szP
  rw [List.length_take]
  omega
theorem markP_app (k0 : Nat) (ps qs : List Pm) : markP k0 (ps ++ qs) = markP k0 ps ++ markP (k0 + szP ps) qs := by
  induction ps generalizing k0 with
  | nil => simp [markP, szP, sumL]
  | cons p ps ih =>
    simp only [List.cons_append, markP, ih]
    have e : k0 + 1 + p.l + szP ps = k0 + szP (p :: ps) := by simp only [szP, List.length_cons, sumL]; omega
    rw [e]
theorem markP_len (k0 : Nat) (ps : List Pm) : (markP k0 ps).length = ps.length := by
  induction ps generalizing k0 with
  | nil => rfl
  | cons p ps ih => simp only [markP, List.length_cons, ih]
theorem markP_sz (k0 : Nat) (ps : List Pm) : sumL (markP k0 ps) = sumL ps := by
  induction ps generalizing k0 with
  | nil => rfl
  | cons p ps ih => simp only [markP, sumL, ih]
theorem markP_at (k0 k : Nat) (ps : List Pm) (p : Pm) (h : ps[k]? = some p) : (markP k0 ps)[k]? = some ⟨(k0 + szP (ps.take k) : Nat), p.a, p.l, p.c, marks (k0 + szP (ps.take k) + 1) p.l⟩ := by
  have hlt := (List.getElem?_eq_some_iff.1 h).1
  have e : ps = ps.take k ++ (p :: ps.drop (k + 1)) := by
    rw [← (List.getElem?_eq_some_iff.1 h).2, ← List.drop_eq_getElem_cons hlt, List.take_append_drop]
  have hk : (ps.take k).length = k := by rw [List.length_take]; omega
  conv => lhs; rw [e, markP_app, markP]
  rw [List.getElem?_append_right (by rw [markP_len]; omega), markP_len, hk, Nat.sub_self]
  rfl
theorem markP_step (k0 k : Nat) (ps : List Pm) (p : Pm) (h : ps[k]? = some p) : (markP k0 (ps.take k) ++ ps.drop k).set k ⟨(k0 + szP (ps.take k) : Nat), p.a, p.l, p.c, marks (k0 + szP (ps.take k) + 1) p.l⟩ = markP k0 (ps.take (k + 1)) ++ ps.drop (k + 1) := by
  have hlt := (List.getElem?_eq_some_iff.1 h).1
  have hk : (ps.take k).length = k := by rw [List.length_take]; omega
  rw [List.set_append_right _ _ (by rw [markP_len]; omega), markP_len, hk, Nat.sub_self, List.drop_eq_getElem_cons hlt, (List.getElem?_eq_some_iff.1 h).2, List.set_cons_zero, List.take_add_one, h, Option.toList_some, markP_app]
  simp [markP]
theorem drop_at (ps : List Pm) (k k0 : Nat) (p : Pm) (h : ps[k]? = some p) : (markP k0 (ps.take k) ++ ps.drop k)[k]? = some p := by
  have hlt := (List.getElem?_eq_some_iff.1 h).1
  have hk : (ps.take k).length = k := by rw [List.length_take]; omega
  rw [List.getElem?_append_right (by rw [markP_len]; omega), markP_len, hk, Nat.sub_self, List.getElem?_drop, Nat.add_zero, h]

/-- blocks other than the list's and its bytes' are as they were -/
def Only (a : Option Addr) (ps : List Pm) (w w' : World) : Prop := ∀ k, k < w.heap.size → (∀ x, a = some x → x.block ≠ k) → (∀ p ∈ ps, ∀ x, p.a = some x → x.block ≠ k) → w'.heap[k]? = w.heap[k]?
set_option maxHeartbeats 1000000 in
theorem markPieceS_any (lo hi : Nat) (a : Option Addr) (len cap k0 : Nat) (ps : List Pm) (w : World) (h : PlO w lo hi a len cap ps) (hs : szP ps ≤ 2097152) (hk0 : k0 ≤ 100000000) :
    Calls Try.prog 92 #[.slice a len cap, .int .i64 k0] w fun e w' => e = .returned (.int .i64 (k0 + szP ps : Nat)) ∧ PlO w' lo hi a len cap (markP k0 ps) ∧ Turn lo hi w w' ∧ Only a ps w w' := by
  have HP := Lib.hid h
  have HS := Lib.hid hs
  have hlm : len ≤ maxLen := Nat.le_trans h.lb.le h.lb.max
  unfold maxLen at hlm
  clear h hs
  go_enter Try.func92, Try.ntmps92
  go_wp2
  go_loopw [1, 5] (fun kk i wr => ∃ (j t : Nat), j ≤ len ∧ i = .int .i64 j ∧ kk = .int .i64 t ∧ t ≤ 200000000 ∧ Hid (t = k0 + szP (ps.take j)) ∧ Hid (PlO wr lo hi a len cap (markP k0 (ps.take j) ++ ps.drop j)) ∧ Hid (Turn lo hi w wr) ∧ Hid (Only a ps w wr)) (fun _ i _ => len - (intOf i).toNat)
  case atStart => exact ⟨0, k0, Nat.zero_le _, rfl, rfl, by omega, by simp [Hid, szP, sumL], by simpa [Hid, markP] using HP.out, Turn.refl _ _ _, fun _ _ _ _ => rfl⟩
  case round =>
    obtain ⟨j, t, hj, rfl, rfl, htb, hT, hP, hB, hN⟩ := hrel
    by_cases hlt : j < len
    · obtain ⟨p, hp⟩ : ∃ p, ps[j]? = some p := ⟨_, List.getElem?_eq_getElem (by rw [HP.out.lb.length]; exact hlt)⟩
      have hd := drop_at ps j k0 p hp
      have hst := Lib.hid (markP_step k0 j ps p hp)
      have hT' := Lib.hid (szP_take_succ ps j p hp)
      have hle := Lib.hid (szP_take_le ps (j + 1))
      obtain ⟨b, off, p', ha, hp', c0, c1⟩ := hP.out.lb.at hlt
      rw [hd] at hp'
      cases hp'
      subst ha
      have P1 := hP.out.putK j p hd (t : Int)
      have hput : (ps.take j).length = (ps.take j).length := rfl
      have O1 := P1.own { p with k := (t : Int) } (List.mem_of_getElem? (i := j) (by rw [List.getElem?_set, if_pos rfl, if_pos (List.getElem?_eq_some_iff.1 hd).1]))
      have T1 := Lib.hid (hB.out.trans (Turn.of_grown (lo := lo) (hi := hi) (grown_setCell wr ⟨b, off + j * 2, none⟩ (.int .i64 (t : Int))) (hP.out.blk _ rfl).1 (hP.out.blk _ rfl).2.1))
      have PP := Lib.hid P1
      have f0 := hP.out.fz.at (off + j * 2)
      have hpl : p.l ≤ 2097152 := by have := HS.out; have := hle.out; have := hT'.out; omega
      have K := Lib.hid (markByteS_any p.a p.l p.c lo (t + 1) p.z (wr.setCell ⟨b, off + j * 2, none⟩ (.int .i64 (t : Int))) O1.1 hpl (by omega))
      have hget : Hid (((markP k0 (ps.take j) ++ ps.drop j).set j { p with k := (t : Int) })[j]? = some { p with k := (t : Int) }) := by
        simp only [Hid]; rw [List.getElem?_set, if_pos rfl, if_pos (List.getElem?_eq_some_iff.1 hd).1]
      have hpm := Lib.hid (List.mem_of_getElem? hp)
      have hsz := Lib.hid hB.out.size
      clear P1 O1 hp hd hput hP hB
      obtain ⟨pk, pa, pl, pc, pz⟩ := p
      simp only at c0 c1 hst hT' hpl K PP hget hpm
      have ec : ((t + 1 : Nat) : Int) = (t : Int) + 1 := by omega
      rw [ec] at K
      go_wp2_with fail
      refine K.out.mono ?_
      rintro e w2 ⟨rfl, o2, g2⟩
      have P2 := PP.out.putZ j _ hget.out (marks (t + 1) pl) o2 g2
      rw [List.set_set] at P2
      have T2 := Lib.hid (T1.out.trans (show Turn lo hi _ w2 from ⟨g2.os, g2.tape, g2.output, g2.size, fun k hk hq => g2.block k hk (by
        intro e
        have h1 := PP.out.own _ (List.mem_of_getElem? hget.out)
        cases pa with
        | none => simp [Value.ownBlock] at e
        | some x =>
          simp [Value.ownBlock] at e
          have h2 := h1.1.lt x rfl
          have h3 := h1.2 x rfl
          omega)⟩))
      have N2 : Hid (Only (some ⟨b, off, none⟩) ps w w2) := fun k hk h1 h2 => by
        have e1 : (wr.setCell ⟨b, off + j * 2, none⟩ (.int .i64 (t : Int))).heap[k]? = wr.heap[k]? := heap_setCell_other wr ⟨b, off + j * 2, none⟩ k (.int .i64 (t : Int)) (fun e => h1 _ rfl e.symm)
        refine (g2.block k (by have := hsz.out; rw [World.size_setCell]; omega) (fun e => ?_)).trans (e1.trans (hN.out k hk h1 h2))
        cases pa with
        | none => simp [Value.ownBlock] at e
        | some x =>
          simp [Value.ownBlock] at e
          exact h2 _ hpm.out x rfl e.symm
      have Q2 : Hid (PlO w2 lo hi (some ⟨b, off, none⟩) len cap (markP k0 (ps.take (j + 1)) ++ ps.drop (j + 1))) := by
        have e := hst.out
        rw [← hT.out] at e
        rw [← e]
        exact P2
      have hV : Hid (t + 1 + pl = k0 + szP (ps.take (j + 1))) := by have := hT.out; have := hT'.out; simp only [Hid]; omega
      have hbd : t + 1 + pl ≤ 200000000 := by have := HS.out; have := hle.out; have := hV.out; omega
      clear P2 o2 g2 K PP hget T1 c0 c1 f0 hst hT hT' hle
      go_wp2
      go_roundw
      case rel => exact ⟨j + 1, t + 1 + pl, by omega, by go_num, by go_num, hbd, hV.out, Q2.out, T2.out, N2.out⟩
      case measure => simp [intOf]; omega
    · obtain rfl : j = len := by omega
      have hE : Hid (PlO wr lo hi a j cap (markP k0 ps)) := by
        have := hP.out
        rw [List.take_of_length_le (by rw [HP.out.lb.length]; exact Nat.le_refl _), List.drop_of_length_le (by rw [HP.out.lb.length]; exact Nat.le_refl _), List.append_nil] at this
        exact this
      have hV : Hid (t = k0 + szP ps) := by
        have e := hT.out
        rwa [List.take_of_length_le (by rw [HP.out.lb.length]; exact Nat.le_refl _)] at e
      clear hP hT
      go_wp2
      go_ret
      exact ⟨ret_i (by rw [hV.out]), hE.out, hB.out, hN.out⟩
end Go.Proofs.Ytbngdenlplbjhaa
