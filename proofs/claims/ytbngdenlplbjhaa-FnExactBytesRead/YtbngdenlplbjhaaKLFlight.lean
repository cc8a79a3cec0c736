/-
  Lists of Flight: the helpers of the laws that size, copy and compare one.
-/
import Derived.Test.YtbngdenlplbjhaaKSFlight
namespace Go.Proofs.Ytbngdenlplbjhaa
open Go.ChangeShapes Go.WideShapes Go.ChangeAt Go.RowKit

set_option maxHeartbeats 2000000 in
theorem szFlightS_any (x : Lt FlightR) (l : Nat) (w : World) (h : Lt.ok FlightR.md w x) (hl : l ≤ 1048576) :
    Calls Try.prog 56 #[.slice x.a x.l x.c, .int .i64 l] w fun e w' => e = .returned (.int .i64 (szR (wtL FlightV.wt (x.rs.map FlightR.val)) l)) ∧ Below w.heap.size w w' := by
  obtain ⟨a, len, cap, ps⟩ := x
  have HP := Lib.hid h
  have hlen : ps.length = len := h.length
  have hm : len ≤ maxLen := Nat.le_trans h.le h.max
  unfold maxLen at hm
  rw [wtL_map]
  dsimp only
  rw [hlen]
  have HL := Lib.hid hlen
  obtain ⟨tot, htot⟩ : ∃ t, t = sw (fun p => (FlightR.val p).wt) ps := ⟨_, rfl⟩
  rw [← htot]
  have HT := Lib.hid htot
  clear h hlen htot
  by_cases hll : len ≤ l
  case neg =>
    have hn : (l : Int) - (len : Int) < 0 := by omega
    have E : Hid (szR (len + tot) l = -1) := szR_f (by omega)
    go_enter Try.func56, Try.ntmps56
    go_wp2
    go_ret
    exact ⟨ret_i E.out.symm, Below.refl _ _⟩
  have hn : ¬ (l : Int) - (len : Int) < 0 := by omega
  go_enter Try.func56, Try.ntmps56
  go_wp2
  go_loopw [1, 5] (fun lf i wr => ∃ (k t : Nat), k ≤ len ∧ i = .int .i64 k ∧ lf = .int .i64 t ∧ t ≤ 1048576 ∧ Hid (t + (len + sw (fun p => (FlightR.val p).wt) (ps.take k)) = l) ∧ Hid (Below w.heap.size w wr)) (fun _ i _ => len - (intOf i).toNat)
  case atStart => exact ⟨0, l - len, Nat.zero_le _, rfl, by go_num, by omega, by simp [Hid, sw]; omega, Below.refl _ _⟩
  case round =>
    obtain ⟨k, t, hk, rfl, rfl, htb, hT, hB⟩ := hrel
    by_cases hlt : k < len
    · obtain ⟨b, off, p, ea, hp, r, d⟩ := (HP.out.below (by decide) hB.out).at hlt
      dsimp only at ea hp
      subst ea
      have hs1 := sw_succ (fun p => (FlightR.val p).wt) hp
      have hs2 := sw_take_le (fun p => (FlightR.val p).wt) ps (k + 1)
      rw [hs1, ← HT.out] at hs2
      try dsimp only at hs1 hs2
      have r' : Row wr b (off + k * 9) (FlightR.cells p) := r
      have RR := Lib.hid r'
      have K := Lib.hid (szFlight_any p t wr d htb)
      clear r r' d hp
      obtain ⟨c, hc⟩ : ∃ c, c = p.val.wt := ⟨_, rfl⟩
      rw [← hc] at hs1 hs2 K
      have HS1 := Lib.hid hs1
      clear hc hs1
      by_cases hb : c ≤ t
      · rw [szR_t hb] at K
        have hn2 : ¬ ((t - c : Nat) : Int) < 0 := by omega
        have hT' : Hid (t - c + (len + sw (fun p => (FlightR.val p).wt) (ps.take (k + 1))) = l) := by have := hT.out; have := HS1.out; simp only [Hid]; omega
        clear hT hs2 HS1
        go_wp2_with ((with_reducible change wpList _ _ _ (Oper.mk (some 21) _ _ _ _ _ :: _) _ _); refine wpList_load_mid (by rfl) 139 (.tmp 20) (by rfl) b (off + k * 9) (by rfl) (FlightR.cells p) _ RR.out Try.underlying139 rfl (by kernel_rfl) ?_; simp only [Act.put, List.setIfInBounds_toArray, List.set_cons_zero, List.set_cons_succ])
        refine K.out.mono ?_
        rintro e w1 ⟨rfl, b1⟩
        have B1 := Lib.hid (hB.out.trans (b1.mono hB.out.size))
        clear b1 hB K RR
        go_wp2
        go_roundw
        case rel => exact ⟨k + 1, t - c, by omega, by go_num, by go_num, by omega, hT'.out, B1.out⟩
        case measure => simp [intOf]; omega
      · rw [szR_f hb] at K
        have E : Hid (szR (len + tot) l = -1) := szR_f (by have := hT.out; omega)
        clear hT hs2 HS1
        go_wp2_with ((with_reducible change wpList _ _ _ (Oper.mk (some 21) _ _ _ _ _ :: _) _ _); refine wpList_load_mid (by rfl) 139 (.tmp 20) (by rfl) b (off + k * 9) (by rfl) (FlightR.cells p) _ RR.out Try.underlying139 rfl (by kernel_rfl) ?_; simp only [Act.put, List.setIfInBounds_toArray, List.set_cons_zero, List.set_cons_succ])
        refine K.out.mono ?_
        rintro e w1 ⟨rfl, b1⟩
        have B1 := Lib.hid (hB.out.trans (b1.mono hB.out.size))
        clear b1 hB K RR
        go_wp2
        go_ret
        exact ⟨ret_i E.out.symm, B1.out⟩
    · obtain rfl : k = len := by omega
      have hE : Hid (szR (k + tot) l = (t : Int)) := by
        have e := hT.out
        rw [List.take_of_length_le (by rw [HL.out]; exact Nat.le_refl _), ← HT.out] at e
        exact (szR_t (by omega)).trans (by omega)
      clear hT
      go_wp2
      go_ret
      exact ⟨ret_i hE.out.symm, hB.out⟩

theorem Try.kinfoFlight : (Try.prog.info? 148).map (fun i => (i.zero, i.size, i.bytes)) = some (some (.agg #[.int .i64 0, .int .i64 0, .int .i64 0, .int .i64 0, .int .i64 0, .int .i64 0, .int .i64 0, .int .i64 0, .slice none 0 0]), 9, 88) := by kernel_rfl
set_option maxHeartbeats 2000000 in
theorem toFlightS_any (x : Lt FlightR) (w : World) (h : Lt.ok FlightR.md w x) (hl : wtL FlightV.wt (x.rs.map FlightR.val) ≤ 1048576) :
    Calls Try.prog 61 #[.slice x.a x.l x.c] w (LOut FlightR.md FlightR.val (x.rs.map FlightR.val) w) := by
  obtain ⟨i0, hi, hz0, hz1, hz2⟩ := info_parts Try.kinfoFlight
  obtain ⟨a, len, cap, ps⟩ := x
  have hlen : ps.length = len := h.length
  rw [wtL_map] at hl
  dsimp only at hl ⊢
  rw [hlen] at hl
  have HW : Hid (∀ p ∈ ps, p.val.wt ≤ 1048576) := fun p hp => by
    have := sw_mem (fun p => (FlightR.val p).wt) hp
    try dsimp only at this
    omega
  have HP := Lib.hid h
  have HL := Lib.hid hlen
  have hm : len ≤ maxLen := by unfold maxLen; omega
  have hl' : len ≤ 1048576 := by omega
  clear h hlen hl
  go_enter Try.func61, Try.ntmps61
  go_wp2_with (at_make; refine wpList_make_full _ rfl (.tmp 6) (.tmp 6) 56 rfl w.heap.size 148 i0 (.agg #[.int .i64 0, .int .i64 0, .int .i64 0, .int .i64 0, .int .i64 0, .int .i64 0, .int .i64 0, .int .i64 0, .slice none 0 0]) 9 Try.underlying56 hi hz0 hz1 .i64 .i64 len len len rfl rfl rfl rfl (by rw [hz2]; omega) hm (Nat.le_refl _) ?_; intro w1 hown hgrow)
  have hmade := Lt.made (M := FlightR.md) (w := w) zFlight rfl (zFlight_ok _) rfl rfl hown
  have hN0 : New w.heap.size w1 (sb (some ⟨w.heap.size, 0, none⟩) len ++ ([] : List FlightR).flatMap FlightR.blks) := hmade.2.left.app (New.nil _ _) (fun _ _ h => by cases h)
  have hO := Lib.hid hmade.1
  have hN := Lib.hid hN0
  have hB := Lib.hid (below_of_grown hgrow (Nat.le_refl _) (by simp))
  clear hown hgrow hi hz0 hz1 hz2 hmade hN0
  go_loopw [4] (fun i wr => ∃ (k : Nat) (qs : List FlightR), k ≤ len ∧ i = .int .i64 k ∧ Hid (qs.length = k) ∧ Hid (qs.map FlightR.val = (ps.take k).map FlightR.val) ∧ Hid (Lt.ok FlightR.md wr ⟨(some ⟨w.heap.size, 0, none⟩), len, len, qs ++ List.replicate (len - k) zFlight⟩) ∧ Hid (New w.heap.size wr (sb (some ⟨w.heap.size, 0, none⟩) len ++ qs.flatMap FlightR.blks)) ∧ Hid (Below w.heap.size w wr)) (fun i _ => len - (intOf i).toNat)
  case atStart => exact ⟨0, [], Nat.zero_le _, rfl, rfl, rfl, hO.out, hN.out, hB.out⟩
  case round =>
    obtain ⟨k, qs, hk, rfl, hql, hqv, hown, hnew, hb⟩ := hrel
    clear hO hB hN
    by_cases hlt : k < len
    · obtain ⟨b, off, p, ea, hp, r, d⟩ := (HP.out.below (by decide) hb.out).at hlt
      dsimp only at ea hp
      subst ea
      have r' : Row wr b (off + k * 9) (FlightR.cells p) := r
      have RR := Lib.hid r'
      have hv : Hid ((ps.take (k + 1)).map FlightR.val = (ps.take k).map FlightR.val ++ [p.val]) := by simp only [Hid]; rw [List.take_add_one, hp]; simp
      have K := Lib.hid (toFlight_any p wr d (HW.out p (List.mem_of_getElem? hp)))
      clear r r' d hp
      go_wp2_with ((with_reducible change wpList _ _ _ (Oper.mk (some 19) _ _ _ _ _ :: _) _ _); refine wpList_load_mid (by rfl) 139 (.tmp 18) (by rfl) b (off + k * 9) (by rfl) (FlightR.cells p) _ RR.out Try.underlying139 rfl (by kernel_rfl) ?_; simp only [Act.put, List.setIfInBounds_toArray, List.set_cons_zero, List.set_cons_succ])
      refine K.out.mono ?_
      rintro e w2 ⟨q, rfl, o2, v2, n2, b2⟩
      have P2 := hown.out.below (by decide) b2
      have N2 := hnew.out.then b2 n2 hb.out.size
      have B2 := Lib.hid (hb.out.trans (b2.mono hb.out.size))
      have h0 : sb (some ⟨w.heap.size, 0, none⟩) len = [w.heap.size] := sb_some (by omega)
      obtain ⟨_, _, z, e0, _, rz, _⟩ := P2.at hlt
      dsimp only at e0
      cases e0
      have rz' : Row w2 w.heap.size (k * 9) (FlightR.cells z) := by have := rz; rwa [show (0 : Nat) + k * FlightR.md.n = k * 9 from Nat.zero_add _] at this
      have hu : unf w2 w.heap.size := N2.fz.unf _ (List.mem_append_left _ (List.mem_append_left _ (by rw [h0]; exact List.mem_singleton.2 rfl)))
      have TH := Lib.hid (rz'.there (n := 9) hu rfl)
      have ST := Lib.hid (World.rangeAt_setCells_same w2 w.heap.size (k * 9) (FlightR.cells q) TH.out)
      have NF : ∀ x, x ∈ (sb (some ⟨w.heap.size, 0, none⟩) len ++ qs.flatMap FlightR.blks) ++ FlightR.blks q → x ∉ [w.heap.size] → x ≠ w.heap.size := fun x _ hx e => hx (List.mem_singleton.2 e)
      have hap : ∀ x, x ∈ qs.flatMap FlightR.blks ++ FlightR.blks q → x ≠ w.heap.size := by
        intro x hx e
        have hn := N2.fz.nodup
        rw [List.append_assoc, h0] at hn
        exact (List.nodup_append.1 hn).2.2 _ (List.mem_singleton.2 rfl) x hx e.symm
      have P3 := Lib.hid (P2.put (w' := w2.setCells w.heap.size (k * 9) (FlightR.cells q)) rfl k hlt q (by rw [show (0 : Nat) + k * FlightR.md.n = k * 9 from Nat.zero_add _]; exact ST.out)
        (fun x hx => World.cell?_setCells_out _ _ _ _ _ (fun _ _ => by rw [show (0 : Nat) + k * FlightR.md.n = k * 9 from Nat.zero_add _] at hx; exact hx))
        ((FlightR.md.chg o2 (chg_setCells w.heap.size (k * 9) (FlightR.cells q) w2) (fun x hx e => hap x (List.mem_append_right _ hx) (List.mem_singleton.1 e))))
        (fun j q' hj hq' x hx => setCells_block _ _ _ _ _ (by
          rcases Nat.lt_or_ge j qs.length with c | c
          · have hq2 : (qs ++ List.replicate (len - k) zFlight)[j]? = some q' := hq'
            rw [List.getElem?_append_left c] at hq2
            exact hap x (List.mem_append_left _ (List.mem_flatMap.2 ⟨q', List.mem_of_getElem? hq2, hx⟩))
          · have hq2 : (qs ++ List.replicate (len - k) zFlight)[j]? = some q' := hq'
            rw [List.getElem?_append_right c] at hq2
            have := (List.mem_replicate.1 (List.mem_of_getElem? hq2)).2
            subst this
            cases hx)))
      have hset : Hid ((qs ++ List.replicate (len - k) zFlight).set k q = (qs ++ [q]) ++ List.replicate (len - (k + 1)) zFlight) := by
        have e := hql.out
        simp only [Hid]
        subst e
        rw [List.set_append_right _ _ (Nat.le_refl _), Nat.sub_self, show len - qs.length = (len - (qs.length + 1)) + 1 by omega, List.replicate_succ]
        simp
      have P4 : Hid (Lt.ok FlightR.md (w2.setCells w.heap.size (k * 9) (FlightR.cells q)) ⟨(some ⟨w.heap.size, 0, none⟩), len, len, (qs ++ [q]) ++ List.replicate (len - (k + 1)) zFlight⟩) := by have e := P3.out; rw [hset.out] at e; exact e
      have N4 : Hid (New w.heap.size (w2.setCells w.heap.size (k * 9) (FlightR.cells q)) (sb (some ⟨w.heap.size, 0, none⟩) len ++ (qs ++ [q]).flatMap FlightR.blks)) := by
        have e := N2.chg (chg_setCells w.heap.size (k * 9) (FlightR.cells q) w2)
        simp only [Hid]
        rw [List.flatMap_append, ← List.append_assoc, show [q].flatMap FlightR.blks = FlightR.blks q from by simp]
        exact e
      have B4 := Lib.hid (B2.out.trans ((chg_setCells w.heap.size (k * 9) (FlightR.cells q) w2).below B2.out.size (fun x hx => by rw [List.mem_singleton.1 hx]; exact Nat.le_refl _)))
      have V4 : Hid ((qs ++ [q]).map FlightR.val = (ps.take (k + 1)).map FlightR.val) := by simp only [Hid]; rw [hv.out, ← hqv.out, List.map_append]; simp [v2]
      have Q4 : Hid ((qs ++ [q]).length = k + 1) := by simp only [Hid, List.length_append, hql.out]; rfl
      clear o2 v2 n2 b2 hown hnew hb P2 N2 P3 hset hap NF h0 rz rz' hu ST K RR hv hqv hql B2
      go_wp2_with ((with_reducible change wpList _ _ _ (Oper.mk none (Op.store 148 _ _) _ _ _ _ :: _) _ _); refine wpList_store_mid (by rfl) 148 (.tmp 21) (.tmp 20) (by rfl) w.heap.size (k * 9) (FlightR.cells q).toArray (by rfl) (by rfl) TH.out (by kernel_rfl) (by simp [FlightR.cells, Value.oneCell']) ?_)
      generalize hW4 : w2.setCells w.heap.size (k * 9) (FlightR.cells q) = w4 at *
      clear hW4 TH
      go_wp2
      go_roundw
      case rel => exact ⟨k + 1, qs ++ [q], by omega, by go_num, Q4.out, V4.out, P4.out, N4.out, B4.out⟩
      case measure => simp [intOf]; omega
    · obtain rfl : k = len := by omega
      have hE : Hid (Lt.ok FlightR.md wr ⟨(some ⟨w.heap.size, 0, none⟩), k, k, qs⟩) := by have := hown.out; rw [Nat.sub_self, List.replicate_zero, List.append_nil] at this; exact this
      have hV : Hid (qs.map FlightR.val = ps.map FlightR.val) := by
        have e := hqv.out
        rwa [List.take_of_length_le (by rw [HL.out]; exact Nat.le_refl _)] at e
      clear hown hqv
      go_wp2
      go_ret
      exact ⟨⟨(some ⟨w.heap.size, 0, none⟩), k, k, qs⟩, rfl, hE.out, hV.out, hnew.out, hb.out⟩

set_option maxHeartbeats 2000000 in
theorem eqFlightS_t (x y : Lt FlightR) (w : World) (h : Lt.ok FlightR.md w x) (h' : Lt.ok FlightR.md w y) (hv : x.rs.map FlightR.val = y.rs.map FlightR.val) :
    Calls Try.prog 67 #[.slice x.a x.l x.c, .slice y.a y.l y.c] w fun e w' => e = .returned (.bool true) ∧ Below w.heap.size w w' := by
  obtain ⟨a, la, ca, ps⟩ := x
  obtain ⟨b, lb, cb, qs⟩ := y
  dsimp only at hv ⊢
  have hla : ps.length = la := h.length
  have hlb : qs.length = lb := h'.length
  have ma : la ≤ maxLen := Nat.le_trans h.le h.max
  unfold maxLen at ma
  obtain rfl : la = lb := by
    have := congrArg List.length hv
    simp only [List.length_map] at this
    omega
  have HA := Lib.hid h
  have HB := Lib.hid h'
  have HV := Lib.hid hv
  clear h h' hv hla hlb
  have hne : (la != la) = false := by simp
  go_enter Try.func67, Try.ntmps67
  go_wp2
  go_loopw [5] (fun i wr => ∃ k : Nat, k ≤ la ∧ i = .int .i64 k ∧ Hid (Below w.heap.size w wr)) (fun i _ => la - (intOf i).toNat)
  case atStart => exact ⟨0, Nat.zero_le _, rfl, Below.refl _ _⟩
  case round =>
    obtain ⟨k, hk, rfl, hbel⟩ := hrel
    by_cases hlt : k < la
    · obtain ⟨b1, o1, p, e1, hp, r1, d1⟩ := (HA.out.below (by decide) hbel.out).at hlt
      obtain ⟨b2, o2, q, e2, hq, r2, d2⟩ := (HB.out.below (by decide) hbel.out).at hlt
      dsimp only at e1 e2 hp hq
      subst e1
      subst e2
      have hpq : p.val = q.val := by
        have e := congrArg (fun l => l[k]?) HV.out
        simp only [List.getElem?_map, hp, hq, Option.map_some, Option.some.injEq] at e
        exact e
      have KC := Lib.hid (eqFlight_t p q wr.drew (FlightR.md.drew d1) (FlightR.md.drew d2) hpq)
      have R1 : wr.rangeAt b1 (o1 + k * 9) (FlightR.cells p) := r1
      have R2 : wr.rangeAt b2 (o2 + k * 9) (FlightR.cells q) := r2
      have x0 : wr.cell? ⟨b1, o1 + k * 9, none⟩ = some (.int .i64 p.f0) := R1 0 _ rfl
      have x1 : wr.cell? ⟨b1, o1 + k * 9 + 1, none⟩ = some (.int .i64 p.f1.f0) := R1 1 _ rfl
      have x2 : wr.cell? ⟨b1, o1 + k * 9 + 2, none⟩ = some (.int .i64 p.f1.f1) := R1 2 _ rfl
      have x3 : wr.cell? ⟨b1, o1 + k * 9 + 3, none⟩ = some (.int .i64 p.f1.f2) := R1 3 _ rfl
      have x4 : wr.cell? ⟨b1, o1 + k * 9 + 4, none⟩ = some (.int .i64 p.f1.f3) := R1 4 _ rfl
      have x5 : wr.cell? ⟨b1, o1 + k * 9 + 5, none⟩ = some (.int .i64 p.f1.f4) := R1 5 _ rfl
      have x6 : wr.cell? ⟨b1, o1 + k * 9 + 6, none⟩ = some (.int .i64 p.f1.f5) := R1 6 _ rfl
      have x7 : wr.cell? ⟨b1, o1 + k * 9 + 7, none⟩ = some (.int .i64 p.f1.f6) := R1 7 _ rfl
      have x8 : wr.cell? ⟨b1, o1 + k * 9 + 8, none⟩ = some (.slice p.f1.f7.a p.f1.f7.l p.f1.f7.c) := R1 8 _ rfl
      have y0 : wr.cell? ⟨b2, o2 + k * 9, none⟩ = some (.int .i64 q.f0) := R2 0 _ rfl
      have y1 : wr.cell? ⟨b2, o2 + k * 9 + 1, none⟩ = some (.int .i64 q.f1.f0) := R2 1 _ rfl
      have y2 : wr.cell? ⟨b2, o2 + k * 9 + 2, none⟩ = some (.int .i64 q.f1.f1) := R2 2 _ rfl
      have y3 : wr.cell? ⟨b2, o2 + k * 9 + 3, none⟩ = some (.int .i64 q.f1.f2) := R2 3 _ rfl
      have y4 : wr.cell? ⟨b2, o2 + k * 9 + 4, none⟩ = some (.int .i64 q.f1.f3) := R2 4 _ rfl
      have y5 : wr.cell? ⟨b2, o2 + k * 9 + 5, none⟩ = some (.int .i64 q.f1.f4) := R2 5 _ rfl
      have y6 : wr.cell? ⟨b2, o2 + k * 9 + 6, none⟩ = some (.int .i64 q.f1.f5) := R2 6 _ rfl
      have y7 : wr.cell? ⟨b2, o2 + k * 9 + 7, none⟩ = some (.int .i64 q.f1.f6) := R2 7 _ rfl
      have y8 : wr.cell? ⟨b2, o2 + k * 9 + 8, none⟩ = some (.slice q.f1.f7.a q.f1.f7.l q.f1.f7.c) := R2 8 _ rfl
      have hI0 : (0 : Int) ≤ (k : Int) := by omega
      have hI1 : (k : Int) < (la : Int) := by omega
      clear r1 r2 d1 d2 hp hq hpq R1 R2
      go_wp2_with fail
      go_region_held3 (fun W => W.cell? ⟨b1, o1 + k * 9, none⟩ = some (.int .i64 p.f0) ∧ W.cell? ⟨b1, o1 + k * 9 + 1, none⟩ = some (.int .i64 p.f1.f0) ∧ W.cell? ⟨b1, o1 + k * 9 + 2, none⟩ = some (.int .i64 p.f1.f1) ∧ W.cell? ⟨b1, o1 + k * 9 + 3, none⟩ = some (.int .i64 p.f1.f2) ∧ W.cell? ⟨b1, o1 + k * 9 + 4, none⟩ = some (.int .i64 p.f1.f3) ∧ W.cell? ⟨b1, o1 + k * 9 + 5, none⟩ = some (.int .i64 p.f1.f4) ∧ W.cell? ⟨b1, o1 + k * 9 + 6, none⟩ = some (.int .i64 p.f1.f5) ∧ W.cell? ⟨b1, o1 + k * 9 + 7, none⟩ = some (.int .i64 p.f1.f6) ∧ W.cell? ⟨b1, o1 + k * 9 + 8, none⟩ = some (.slice p.f1.f7.a p.f1.f7.l p.f1.f7.c) ∧ W.cell? ⟨b2, o2 + k * 9, none⟩ = some (.int .i64 q.f0) ∧ W.cell? ⟨b2, o2 + k * 9 + 1, none⟩ = some (.int .i64 q.f1.f0) ∧ W.cell? ⟨b2, o2 + k * 9 + 2, none⟩ = some (.int .i64 q.f1.f1) ∧ W.cell? ⟨b2, o2 + k * 9 + 3, none⟩ = some (.int .i64 q.f1.f2) ∧ W.cell? ⟨b2, o2 + k * 9 + 4, none⟩ = some (.int .i64 q.f1.f3) ∧ W.cell? ⟨b2, o2 + k * 9 + 5, none⟩ = some (.int .i64 q.f1.f4) ∧ W.cell? ⟨b2, o2 + k * 9 + 6, none⟩ = some (.int .i64 q.f1.f5) ∧ W.cell? ⟨b2, o2 + k * 9 + 7, none⟩ = some (.int .i64 q.f1.f6) ∧ W.cell? ⟨b2, o2 + k * 9 + 8, none⟩ = some (.slice q.f1.f7.a q.f1.f7.l q.f1.f7.c))
        (first | (go_split_ands; exact ⟨keepK hb (by assumption), keepK hb (by assumption), keepK hb (by assumption), keepK hb (by assumption), keepK hb (by assumption), keepK hb (by assumption), keepK hb (by assumption), keepK hb (by assumption), keepK hb (by assumption), keepK hb (by assumption), keepK hb (by assumption), keepK hb (by assumption), keepK hb (by assumption), keepK hb (by assumption), keepK hb (by assumption), keepK hb (by assumption), keepK hb (by assumption), keepK hb (by assumption)⟩) | go_keep)
        (first | (go_at_call 90; refine KC.out.mono ?_; rintro e w10 ⟨rfl, b10⟩; have hb := b10))
      have B10 := Lib.hid (hbel.out.drew.trans (b10.mono hbel.out.drew.size))
      clear hb b10 x0 x1 x2 x3 x4 x5 x6 x7 x8 y0 y1 y2 y3 y4 y5 y6 y7 y8
      go_wp2
      go_roundw
      case rel => exact ⟨k + 1, by omega, by go_num, B10.out⟩
      case measure => simp [intOf]; omega
    · obtain rfl : k = la := by omega
      go_wp2
      go_ret
      exact ⟨rfl, hbel.out⟩

end Go.Proofs.Ytbngdenlplbjhaa
