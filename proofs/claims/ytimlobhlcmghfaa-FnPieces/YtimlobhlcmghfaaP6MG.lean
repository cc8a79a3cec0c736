/-
  mergeNeighbours of the program.
-/
import Derived.Test.YtimlobhlcmghfaaP6MV
import Derived.Deep.RegionHeld3
import Derived.Test.YtimlobhlcmghfaaP6JP
import Derived.Test.YtimlobhlcmghfaaP6N
namespace Go.Proofs.Ytimlobhlcmghfaa
open Go.ChangeShapes Go.WideShapes Go.ChangeAt Go.RowKit

theorem Ds.perm {w : World} {lo hi : Nat} {qs qs' : List Pm} (h : Ds w lo hi qs) (hp : qs.Perm qs') : Ds w lo hi qs' :=
  ⟨fun q hq => h.own q (hp.mem_iff.2 hq), (hp.pairwise_iff (fun {x y} => sep_symm x y)).1 h.sep⟩
theorem Ds.sub {w : World} {lo hi : Nat} {qs qs' : List Pm} (h : Ds w lo hi qs) (hp : qs'.Sublist qs) : Ds w lo hi qs' := ⟨fun q hq => h.own q (hp.subset hq), h.sep.sublist hp⟩
theorem part_bd {k' : Int} {z' : List Int} {lo : Int} (h : k' ≤ lo) (hl : lo ≤ 2000) (h2 : k' + z'.length ≤ 2000) : lo + (partV k' z' lo (k' + z'.length)).2.length ≤ 2000 := by
  have hm : mx k' lo = lo := by unfold mx; split <;> omega
  have hn : mn (k' + z'.length) (k' + z'.length) = k' + z'.length := by unfold mn; split <;> omega
  unfold partV
  rw [hm, hn]
  split
  · simp; omega
  · simp only [List.length_take, List.length_drop]
    omega
set_option maxHeartbeats 4000000 in
theorem mergeNeighbours_any (lo : Nat) (a : Option Addr) (n cap : Nat) (ss : List Pm) (w : World) (h : Lb w a n cap ss) (hd : Ds w lo w.heap.size ss) (hn : n ≤ 5) (hk : ∀ p ∈ ss, 0 ≤ p.k ∧ p.k + p.l ≤ 2000) (hlo : lo ≤ w.heap.size) :
    Calls Try.prog 170 #[.slice a n cap, .func (.func 107) #[] #[], .func (.func 171) #[] #[]] w fun e w' => ∃ a' m c' ms, e = .returned (.slice a' m c') ∧ Lo w' w.heap.size a' m c' ms ∧ Ds w' lo w'.heap.size ms ∧ vals ms = (mergePc [] ((vals ss).map toPc)).map ofPc ∧ Below w.heap.size w w' := by
  obtain ⟨i0, hi, hz0, hz1, hz2⟩ := info_parts Try.infoPiece
  have HL := Lib.hid h
  have HD := Lib.hid hd
  have HK := Lib.hid hk
  have HN := Lib.hid h.length
  clear h hd hk
  go_enter Try.func170, Try.ntmps170
  go_wp2_with (at_make; refine wpList_make_own _ rfl (.const (.int .i64 0)) (.tmp 12) 24 rfl w.heap.size 133 i0 (.agg #[.int .i64 0, .slice none 0 0]) 2 Try.underlying24 hi hz0 hz1 .i64 .i64 n n rfl rfl rfl (by rw [hz2]; omega) (by unfold maxLen; omega) (Nat.le_refl _) ?_; intro w1 hown hgrow)
  have L1 := Lib.hid (show Lo w1 w.heap.size (some ⟨w.heap.size, 0, none⟩) 0 n [] from ⟨hown⟩)
  have B1 := Lib.hid (below_of_grown hgrow (Nat.le_refl w.heap.size) (by simp))
  clear hown hgrow hi hz0 hz1 hz2
  go_loopw [7, 16] (fun o i wr => ∃ (j m c1 : Nat) (a1 : Option Addr) (ms : List Pm), j ≤ n ∧ m ≤ j ∧ i = .int .i64 j ∧ o = .slice a1 m c1 ∧ Hid (vals ms = (mergePc [] ((vals (ss.take j)).map toPc)).map ofPc) ∧ Hid (Lo wr w.heap.size a1 m c1 ms) ∧ Hid (Ds wr lo wr.heap.size (ms ++ ss.drop j)) ∧ Hid (∀ p ∈ ms, 0 ≤ p.k ∧ p.k + p.l ≤ 2000) ∧ Hid (Below w.heap.size w wr)) (fun _ i _ => n - (intOf i).toNat)
  case atStart => exact ⟨0, 0, n, _, [], Nat.zero_le _, Nat.le_refl _, rfl, rfl, rfl, L1.out, by simpa [Hid] using (HD.out.below B1.out).mono B1.out.size, fun _ hp => (by cases hp), B1.out⟩
  case round =>
    obtain ⟨j, m, c1, a1, ms, hj, hm, rfl, rfl, hV, hL, hD, hB2, hB⟩ := hrel
    clear L1 B1
    by_cases hlt : j < n
    · obtain ⟨b, off, p, rfl, hp, q0, q1⟩ := (HL.out.below hB.out).at hlt
      have hkp := HK.out p (List.mem_of_getElem? hp)
      have hdc := Lib.hid (drop_cons hp)
      have htk : Hid ((vals (ss.take (j + 1))).map toPc = (vals (ss.take j)).map toPc ++ [toPc p.v]) := by simp only [Hid]; rw [List.take_add_one, hp]; simp [vals]
      have hD2 : Hid (Ds wr lo wr.heap.size (ms ++ (p :: ss.drop (j + 1)))) := by have := hD.out; rwa [hdc.out] at this
      have Rp := Lib.hid (hD2.out.own p (by simp)).1.rd
      obtain ⟨pk, pa, pl, pc, pz⟩ := p
      simp only [Pm.v] at q0 q1 hkp htk Rp
      have hpz : pz.length = pl := Rp.out.length
      have bN : Below wr.heap.size wr (wr.alloc (.cells #[.int .i64 pk, .slice pa pl pc] 133)) := (Below.refl _ wr).alloc (Nat.le_refl _) _
      have X1 := Lib.hid (Box.new wr 133 #[.int .i64 pk, .slice pa pl pc])
      have L1 := Lib.hid (hL.out.below bN)
      have D1 := Lib.hid (hD2.out.below bN)
      have B1 := Lib.hid (hB.out.trans (bN.mono hB.out.size))
      have R1 := Lib.hid (Rp.out.below bN)
      have S1 := Lib.hid bN.size
      clear hD hD2 Rp bN hdc
      rcases List.eq_nil_or_concat ms with e0 | ⟨init, e, hac⟩
      · subst e0
        obtain rfl : m = 0 := by have := hL.out.length; simpa using this.symm
        have hV' : Hid (vals ([] ++ [Pm.mk pk pa pl pc pz]) = (mergePc [] ((vals (ss.take (j + 1))).map toPc)).map ofPc) := by
          rw [htk.out, mergePc_snoc]
          exact merge_first hV.out ⟨pk, pa, pl, pc, pz⟩ hkp.1
        clear hL hB hV htk
        go_wp2_with fail
        go_quiet (fail)
        have bq : Below (wr.alloc (.cells #[.int .i64 pk, .slice pa pl pc] 133)).heap.size (wr.alloc (.cells #[.int .i64 pk, .slice pa pl pc] 133)) ((wr.alloc (.cells #[.int .i64 pk, .slice pa pl pc] 133)).drewN nq) := belowN (Below.refl _ _) _
        have LW := Lib.hid (L1.out.below bq)
        have DW := Lib.hid (D1.out.below bq)
        have BW := Lib.hid (B1.out.trans (bq.mono B1.out.size))
        have XW := Lib.hid (X1.out.below bq X1.out.lt)
        have SW := Lib.hid (Nat.le_trans S1.out bq.size)
        generalize (wr.alloc (.cells #[.int .i64 pk, .slice pa pl pc] 133)).drewN nq = W2 at *
        have bA : Below W2.heap.size W2 (W2.alloc (.cells #[.int .i64 pk, .slice pa pl pc] 133)) := (Below.refl _ _).alloc (Nat.le_refl _) _
        have LA := Lib.hid (LW.out.below bA)
        have DA := Lib.hid (DW.out.below bA)
        have XA := Lib.hid (lb_box (Box.new W2 133 #[.int .i64 pk, .slice pa pl pc]) pz)
        have BA := Lib.hid (BW.out.trans (bA.mono BW.out.size))
        have SZ := Lib.hid (Nat.le_trans SW.out bA.size)
        have xN0 := XW.out.cell 0
        have xN1 := XW.out.cell 1
        clear bA LW DW BW
        go_wp2_with (at_builtin; refine append_pieces _ rfl (.tmp 44) (.tmp 46) rfl w.heap.size _ _ _ _ rfl LA.out _ _ _ _ rfl XA.out BA.out.size (by omega) ?_; intro a3 c3 w3 l3 g3; have L3 := Lib.hid l3; have D3 := Lib.hid ((DA.out.grown LA.out g3).mono (Nat.le_trans SZ.out g3.size)); have B3 := Lib.hid (BA.out.trans (below_of_grown g3 BA.out.size (fun k e => own_of_lo_blk LA.out k e))); clear l3 g3)
        all_goals (refine ⟨⟨j + 1, 0 + 1, c3, a3, [] ++ [Pm.mk pk pa pl pc pz], by omega, by omega, by go_num, rfl, hV'.out, L3.out, by rw [List.append_assoc]; exact D3.out, fun q hq => (by rcases List.mem_append.1 hq with hq | hq; exact hB2.out q hq; obtain rfl := List.mem_singleton.1 hq; exact hkp), B3.out⟩, ?_⟩; simp [intOf]; omega)
      · rw [List.concat_eq_append] at hac
        subst hac
        have hlen := hL.out.length
        simp only [List.length_append, List.length_cons, List.length_nil] at hlen
        obtain ⟨t, ht⟩ : ∃ t, t = init.length := ⟨_, rfl⟩
        obtain rfl : m = t + 1 := by omega
        have HT := Lib.hid ht
        obtain ⟨g, rfl⟩ := hL.out.head0 (by omega)
        have hke := hB2.out e (by simp)
        have E1 := Lib.hid (D1.out.own e (by simp)).1.rd
        obtain ⟨_, _, e', ee, hee, g0, g1⟩ := L1.out.lb.at (show t < t + 1 by omega)
        cases ee
        rw [ht, List.getElem?_append_right (Nat.le_refl _), Nat.sub_self, List.getElem?_cons_zero] at hee
        cases hee
        obtain ⟨ek, ea, el, ec, ez⟩ := e
        simp only [Nat.zero_add] at g0 g1 hke E1
        have hez : ez.length = el := E1.out.length
        have n0 := X1.out.cell 0
        have n1 := X1.out.cell 1
        have hgl := (L1.out.lt _ rfl).2
        have hxl := X1.out.lt
        have hw2 : IntKind.i64.wrap (t : Int) = (t : Int) := IntWalk.i64_in _ (by omega)
        have hI3 : (t : Int) < (t : Int) + 1 := by omega
        have hI5 : ¬ (t : Int) < 0 := by omega
        simp only at hgl
        clear hlen ht hL hB
        have KT := Lib.hid (doTouch_any ek ea el ec pk pa pl pc (wr.alloc (.cells #[.int .i64 pk, .slice pa pl pc] 133)).drew (by omega) (by omega) (by omega))
        by_cases hc : pk ≤ ek + el
        · rw [decide_eq_true hc] at KT
          have hV' : Hid (∀ a l c, vals (init ++ [Pm.mk ek a l c (ez ++ (partV pk pz (ek + el) (pk + pl)).2)]) = (mergePc [] ((vals (ss.take (j + 1))).map toPc)).map ofPc) := fun a l c => by
            rw [htk.out, mergePc_snoc]
            have := merge_join hV.out ⟨pk, pa, pl, pc, pz⟩ hkp.1 hke.1 (by show pk ≤ ek + ez.length; rw [hez]; exact hc) a l c
            simp only [hez, hpz] at this
            exact this
          clear hV htk
          go_wp2_with fail
          generalize wr.alloc (.cells #[.int .i64 pk, .slice pa pl pc] 133) = W1 at *
          go_region_held3 (fun W => W.cell? ⟨g, t * 2, none⟩ = some (.int .i64 ek) ∧ W.cell? ⟨g, t * 2 + 1, none⟩ = some (.slice ea el ec) ∧ W.cell? ⟨wr.heap.size, 0, none⟩ = some (.int .i64 pk) ∧ W.cell? ⟨wr.heap.size, 1, none⟩ = some (.slice pa pl pc))
            (first | (go_split_ands; exact ⟨keepK hb (by assumption), keepK hb (by assumption), keepK hb (by assumption), keepK hb (by assumption)⟩) | go_keep)
            (first | (go_at_call 107; refine KT.out.mono ?_; rintro e w10 ⟨rfl, b10⟩; have hb := b10))
          have bq : Below W1.heap.size W1 w10 := (Below.refl _ W1).drew.trans b10
          have LW := Lib.hid (L1.out.below bq)
          have DW := Lib.hid (D1.out.below bq)
          have BW := Lib.hid (B1.out.trans (bq.mono B1.out.size))
          have XW := Lib.hid (X1.out.below bq X1.out.lt)
          have SW := Lib.hid (Nat.le_trans S1.out bq.size)
          have RW := Lib.hid (R1.out.below bq)
          have EW := Lib.hid (E1.out.below bq)
          clear hb b10 bq g0 g1 n0 n1 L1 D1 B1 R1 E1 KT
          have KJ := Lib.hid (joinPieces_any ek ea el ec ez pk pa pl pc pz w10.drew EW.out.drew RW.out.drew hke hkp)
          have hbd : Hid (ek + el + ((partV pk pz (ek + el) (pk + pl)).2.length : Int) ≤ 2000) := by
            have := part_bd (z' := pz) hc hke.2 (by rw [hpz]; exact hkp.2)
            rw [hpz] at this
            exact this
          generalize (partV pk pz (ek + el) (pk + pl)).2 = rest at *
          have bd : Hid (Below w10.heap.size w10 w10.drew) := (Below.refl _ w10).drew
          obtain ⟨_, _, e', ee, hee, g0, g1⟩ := LW.out.lb.at (show t < t + 1 by omega)
          cases ee
          rw [HT.out, List.getElem?_append_right (Nat.le_refl _), Nat.sub_self, List.getElem?_cons_zero] at hee
          cases hee
          simp only [Nat.zero_add] at g0 g1
          have n0 := XW.out.cell 0
          have n1 := XW.out.cell 1
          go_wp2_with fail
          go_region_law (first
            | (go_simp; go_at_call 171; refine KJ.out.mono ?_; rintro e w11 ⟨a11, l11, c11, rfl, o11, b11⟩; have L11 := (LW.out.below bd.out).below b11; have D11 := Lib.hid ((DW.out.below bd.out).below b11); have B11 := Lib.hid (BW.out.trans ((bd.out.trans b11).mono BW.out.size)); have S11 := Lib.hid (Nat.le_trans SW.out (Nat.le_trans bd.out.size b11.size)); have O11 := Lib.hid o11; have LL11 := Lib.hid L11; have y0 := keepK b11 (show w10.drew.cell? _ = _ from g0); have y1 := keepK b11 (show w10.drew.cell? _ = _ from g1); have z0 := L11.fz.at (t * 2); have z1 := L11.fz.at (t * 2 + 1); clear L11 o11 b11))
          all_goals (
            go_wp2
            all_goals (
              have L12 := LL11.out.putP t (by omega) ⟨ek, a11, l11, c11, ez ++ rest⟩
              have eset : (init ++ [Pm.mk ek ea el ec ez]).set t ⟨ek, a11, l11, c11, ez ++ rest⟩ = init ++ [Pm.mk ek a11 l11 c11 (ez ++ rest)] := by
                rw [HT.out, List.set_append_right _ _ (Nat.le_refl _), Nat.sub_self, List.set_cons_zero]
              rw [eset] at L12
              have hl11 : l11 = el + rest.length := by have := O11.out.length; rw [List.length_append, hez] at this; exact this.symm
              have D12 : Ds w11 lo w11.heap.size (init ++ [Pm.mk ek a11 l11 c11 (ez ++ rest)] ++ ss.drop (j + 1)) := by
                have d1 : Ds w11 lo wr.heap.size (init ++ ss.drop (j + 1)) := D11.out.sub (by
                  rw [List.append_assoc]
                  exact List.Sublist.append (List.Sublist.refl _) ((List.sublist_cons_self _ _).trans (List.sublist_cons_self _ _)))
                have d2 := d1.snoc (Pm.mk ek a11 l11 c11 (ez ++ rest)) (O11.out.rebase (Nat.le_trans hlo (Nat.le_trans BW.out.size (Nat.le_refl _)))) (fun y hy => Nat.le_trans SW.out (O11.out.lt y hy).1) S11.out
                exact d2.perm (by
                  rw [List.append_assoc, List.append_assoc]
                  exact List.Perm.append_left _ List.perm_append_comm)
              have D14 : Ds ((w11.setCell ⟨g, t * 2, none⟩ (.int .i64 ek)).setCell ⟨g, t * 2 + 1, none⟩ (.slice a11 l11 c11)) lo w11.heap.size (init ++ [Pm.mk ek a11 l11 c11 (ez ++ rest)] ++ ss.drop (j + 1)) := D12.same (fun q hq x hx => by
                have hne : x.block ≠ g := own_lo_ne (D12.own q hq).1 LL11.out hx rfl
                have e1 : (w11.setCell ⟨g, t * 2, none⟩ (.int .i64 ek)).heap[x.block]? = w11.heap[x.block]? := heap_setCell_other w11 ⟨g, t * 2, none⟩ x.block (.int .i64 ek) hne
                exact (heap_setCell_other (w11.setCell ⟨g, t * 2, none⟩ (.int .i64 ek)) ⟨g, t * 2 + 1, none⟩ x.block (.slice a11 l11 c11) hne).trans e1)
              refine ⟨⟨j + 1, t + 1, c1, _, init ++ [Pm.mk ek a11 l11 c11 (ez ++ rest)], by omega, by omega, by go_num, rfl, hV'.out a11 l11 c11, L12, by simp only [World.size_setCell]; exact D14, fun q hq => ?_, (B11.out.setCell (show w.heap.size ≤ (⟨g, t * 2, none⟩ : Addr).block from (LL11.out.lt _ rfl).1) _).setCell (show w.heap.size ≤ (⟨g, t * 2 + 1, none⟩ : Addr).block from (LL11.out.lt _ rfl).1) _⟩, ?_⟩
              · rcases List.mem_append.1 hq with hq | hq
                · exact hB2.out q (by simp [hq])
                · obtain rfl := List.mem_singleton.1 hq
                  refine ⟨hke.1, ?_⟩
                  have := hbd.out
                  show ek + (l11 : Int) ≤ 2000
                  omega
              · simp [intOf]; omega))
        · rw [decide_eq_false hc] at KT
          have hV' : Hid (vals (init ++ [Pm.mk ek ea el ec ez] ++ [Pm.mk pk pa pl pc pz]) = (mergePc [] ((vals (ss.take (j + 1))).map toPc)).map ofPc) := by
            rw [htk.out, mergePc_snoc]
            exact merge_app hV.out ⟨pk, pa, pl, pc, pz⟩ hkp.1 hke.1 (by show ¬ pk ≤ ek + ez.length; rw [hez]; exact hc)
          clear hV htk
          go_wp2_with fail
          generalize wr.alloc (.cells #[.int .i64 pk, .slice pa pl pc] 133) = W1 at *
          go_region_held3 (fun W => W.cell? ⟨g, t * 2, none⟩ = some (.int .i64 ek) ∧ W.cell? ⟨g, t * 2 + 1, none⟩ = some (.slice ea el ec) ∧ W.cell? ⟨wr.heap.size, 0, none⟩ = some (.int .i64 pk) ∧ W.cell? ⟨wr.heap.size, 1, none⟩ = some (.slice pa pl pc))
            (first | (go_split_ands; exact ⟨keepK hb (by assumption), keepK hb (by assumption), keepK hb (by assumption), keepK hb (by assumption)⟩) | go_keep)
            (first | (go_at_call 107; refine KT.out.mono ?_; rintro e w10 ⟨rfl, b10⟩; have hb := b10))
          have bq : Below W1.heap.size W1 w10 := (Below.refl _ W1).drew.trans b10
          have LW := Lib.hid (L1.out.below bq)
          have DW := Lib.hid (D1.out.below bq)
          have BW := Lib.hid (B1.out.trans (bq.mono B1.out.size))
          have XW := Lib.hid (X1.out.below bq X1.out.lt)
          have SW := Lib.hid (Nat.le_trans S1.out bq.size)
          have RW := Lib.hid (R1.out.below bq)
          have EW := Lib.hid (E1.out.below bq)
          clear hb b10 bq g0 g1 n0 n1 L1 D1 B1 R1 E1 KT
          have bA : Below w10.heap.size w10 (w10.alloc (.cells #[.int .i64 pk, .slice pa pl pc] 133)) := (Below.refl _ _).alloc (Nat.le_refl _) _
          have LA := Lib.hid (LW.out.below bA)
          have DA := Lib.hid (DW.out.below bA)
          have XA := Lib.hid (lb_box (Box.new w10 133 #[.int .i64 pk, .slice pa pl pc]) pz)
          have BA := Lib.hid (BW.out.trans (bA.mono BW.out.size))
          have SZ := Lib.hid (Nat.le_trans SW.out bA.size)
          have xN0 := XW.out.cell 0
          have xN1 := XW.out.cell 1
          clear bA LW DW BW
          go_wp2_with (at_builtin; refine append_pieces _ rfl (.tmp 44) (.tmp 46) rfl w.heap.size _ _ _ _ rfl LA.out _ _ _ _ rfl XA.out BA.out.size (by omega) ?_; intro a3 c3 w3 l3 g3; have L3 := Lib.hid l3; have D3 := Lib.hid ((DA.out.grown LA.out g3).mono (Nat.le_trans SZ.out g3.size)); have B3 := Lib.hid (BA.out.trans (below_of_grown g3 BA.out.size (fun k e => own_of_lo_blk LA.out k e))); clear l3 g3)
          all_goals (refine ⟨⟨j + 1, (t + 1) + 1, c3, a3, (init ++ [Pm.mk ek ea el ec ez]) ++ [Pm.mk pk pa pl pc pz], by omega, by omega, by go_num, rfl, hV'.out, L3.out, by rw [List.append_assoc]; exact D3.out, fun q hq => (by rcases List.mem_append.1 hq with hq | hq; exact hB2.out q hq; obtain rfl := List.mem_singleton.1 hq; exact hkp), B3.out⟩, ?_⟩; simp [intOf]; omega)
    · obtain rfl : j = n := by omega
      have hE : Hid (vals ms = (mergePc [] ((vals ss).map toPc)).map ofPc) := by
        have e := hV.out
        rwa [List.take_of_length_le (by rw [HN.out]; exact Nat.le_refl _)] at e
      have hD' : Hid (Ds wr lo wr.heap.size ms) := by
        have e := hD.out
        rwa [List.drop_of_length_le (by rw [HN.out]; exact Nat.le_refl _), List.append_nil] at e
      clear hV hD
      go_wp2
      go_ret
      exact ⟨_, _, _, ms, rfl, hL.out, hD'.out, hE.out, hB.out⟩
end Go.Proofs.Ytimlobhlcmghfaa
