/-
  PutPiece of the program.
-/
import Derived.Test.YtimlobhlcmghfaaP6WH
namespace Go.Proofs.Ytimlobhlcmghfaa
open Go.ChangeShapes Go.WideShapes Go.ChangeAt Go.RowKit

theorem Ds.turn {w w' : World} {lo hi base g len cap : Nat} {qs : List Pm} {ps : List Pm} (h : Ds w lo hi qs) (hL : Lo w base (some ⟨g, 0, none⟩) len cap ps) (ht : Turn g (g + 1) w w') : Ds w' lo hi qs :=
  h.same fun q hq x hx => ht.block _ ((h.own q hq).1.lt x hx).2 (by
    have hne := own_lo_ne (h.own q hq).1 hL hx rfl
    have : x.block ≠ g := hne
    omega)
theorem Ds.hi {w : World} {lo hi : Nat} {qs : List Pm} (h : Ds w lo hi qs) : Ds w lo w.heap.size qs := ⟨fun q hq => ⟨(h.own q hq).1, fun y hy => ((h.own q hq).1.lt y hy).2⟩, h.sep⟩
/-- what is sorted: by values it is the list and what is put -/
theorem put_list {vs : List (Int × List Int)} {X : Nat} {zs : List Int} (hf : pfV vs = 0) (hz : zs ≠ []) (hx : X + zs.length ≤ 2000) {qs ss : List Pm} {new : Pm} (hq : vals qs = vs) (hn : new.v = ((X : Int), whAll X zs vs)) (hp : ss.Perm (qs ++ [new])) (hr : riseP ss) :
    (mergePc [] ((vals ss).map toPc)).map ofPc = putV vs X zs := by
  have h0 : ∀ v ∈ vals ss, 0 ≤ v.1 := by
    intro v hv
    obtain ⟨p, hpm, rfl⟩ := List.mem_map.1 hv
    rcases List.mem_append.1 (hp.mem_iff.1 hpm) with hm | hm
    · have : p.v ∈ vs := by rw [← hq]; exact List.mem_map_of_mem hm
      exact (pf1_zero (pfV_short hf).2 _ this).1
    · obtain rfl := List.mem_singleton.1 hm
      rw [hn]; simp
  refine put_glue hf hz hx ?_ (rise_pc ?_ 0 (fun v hv => by have := h0 v hv; omega))
  · have := (hp.map Pm.v).map toPc
    rw [List.map_append, List.map_append] at this
    have e : (List.map toPc (List.map Pm.v [new])) = [⟨X, whAll X zs vs⟩] := by simp [hn, toPc]
    rw [e] at this
    rw [← hq] at this ⊢
    exact this
  · unfold vals
    rw [List.pairwise_map]
    exact hr
theorem put_bd {vs : List (Int × List Int)} {X l : Nat} (hf : pfV vs = 0) (hx : X + l ≤ 2000) {w : World} {lo hi : Nat} {qs ss : List Pm} {new : Pm} (hq : vals qs = vs) (hd : Ds w lo hi qs) (hn : new.k = X ∧ new.l = l) (hp : ss.Perm (qs ++ [new])) : ∀ p ∈ ss, 0 ≤ p.k ∧ p.k + p.l ≤ 2000 := by
  intro p hpm
  rcases List.mem_append.1 (hp.mem_iff.1 hpm) with hm | hm
  · have : p.v ∈ vs := by rw [← hq]; exact List.mem_map_of_mem hm
    have h1 := pf1_zero (pfV_short hf).2 _ this
    have h2 := (hd.own p hm).1.length
    have h3 : p.v.2 = p.z := rfl
    have h4 : p.v.1 = p.k := rfl
    rw [h3, h4, h2] at h1
    exact ⟨h1.1, h1.2.1⟩
  · obtain rfl := List.mem_singleton.1 hm
    rw [hn.1, hn.2]
    omega

/-- what is put among the pieces of a list, in new memory -/
def AmOut (w : World) (vs : List (Int × List Int)) (e : Ending) (w' : World) : Prop :=
  ∃ a m c ms, e = .returned (.slice a m c) ∧ Lo w' w.heap.size a m c ms ∧ Ds w' w.heap.size w'.heap.size ms ∧ vals ms = vs ∧ Below w.heap.size w w'
set_option maxRecDepth 20000 in
set_option maxHeartbeats 8000000 in
theorem putAmong_any (a : Option Addr) (len cap : Nat) (ps : List Pm) (X : Nat) (b : Option Addr) (lb cb : Nat) (zs : List Int) (w : World) (h : Pl w a len cap ps) (hd : ∀ p ∈ ps, p.l ≤ 1048576) (hc : pfV (vals ps) = 0) (hr : Rd w b lb cb zs) (hXl : X + lb ≤ 2000) (hne : zs ≠ []) :
    Calls Try.prog 97 #[.slice a len cap, .agg #[.int .i64 X, .slice b lb cb]] w (AmOut w (putV (vals ps) X zs)) := by
  have hz := hr.length
  have hlen4 : len ≤ 4 := by
    have := (pfV_short hc).1
    have h2 : (vals ps).length = len := by simp only [vals, List.length_map]; exact h.lb.length
    omega
  have KC := Lib.hid (fun W (hW : Below w.heap.size w W) => clonePieces_any a len cap ps W (h.below hW) (by omega) hd)
  have GL := Lib.hid (fun (qs ss : List Pm) (new : Pm) (hq : vals qs = vals ps) (hn : new.v = ((X : Int), whAll X zs (vals ps))) (hp : ss.Perm (qs ++ [new])) (hr : riseP ss) => put_list hc hne (by rw [hz]; exact hXl) hq hn hp hr)
  have GB := Lib.hid (fun (w : World) (lo hi : Nat) (qs ss : List Pm) (new : Pm) (hq : vals qs = vals ps) (hd : Ds w lo hi qs) (hn : new.k = X ∧ new.l = lb) (hp : ss.Perm (qs ++ [new])) => put_bd hc hXl hq hd hn hp)
  have KW := Lib.hid (fun W (hW : Below w.heap.size w W) => withHeld_any X b lb cb zs a len cap ps W (hr.below hW) (h.below hW) hXl (fun p hp => by
    have h1 := pf1_zero (pfV_short hc).2 p.v (List.mem_map_of_mem hp)
    have h2 := (h.data p hp).length
    have h3 : p.v.2 = p.z := rfl
    have h4 : p.v.1 = p.k := rfl
    rw [h3, h4, h2] at h1
    exact ⟨h1.1, h1.2.1⟩))
  generalize hVV : putV (vals ps) X zs = V at *
  generalize whAll X zs (vals ps) = Y at *
  have B2 := Lib.hid ((Below.refl w.heap.size w).alloc (Nat.le_refl _) (.cells #[.int .i64 X, .slice b lb cb] 133))
  obtain ⟨zp, p0, p1⟩ := (Box.new w 133 #[.int .i64 X, .slice b lb cb]).two
  clear h hr hd hc hz hne hVV
  go_enter Try.func97, Try.ntmps97
  go_wp2_with fail
  generalize hw2 : w.alloc (.cells #[.int .i64 X, .slice b lb cb] 133) = w2 at *
  have S2 := Lib.hid (show w.heap.size ≤ w2.heap.size from by rw [← hw2]; simp)
  clear hw2
  go_region_held3 (fun W => W.cell? ⟨w.heap.size, 0, none⟩ = some (.int .i64 X) ∧ W.cell? ⟨w.heap.size, 1, none⟩ = some (.slice b lb cb))
    (first | go_keep | (go_split_ands; exact ⟨keepK hb (by assumption), keepK hb (by assumption)⟩) | (go_split_ands; exact ⟨keepB hb (by assumption) zp, keepB hb (by assumption) zp⟩))
    (first
      | (have q := M4; clear q; refine append_pstep _ rfl (.tmp 7) (.tmp 11) rfl w2.heap.size _ _ _ _ rfl LA.out _ _ _ _ rfl XA.out SA.out (by omega) ?_; intro a5 c5 w5 l5 g5 hb)
      | (have q := M3; clear q; go_at_call 167; refine (KW.out _ B3.out).mono ?_; rintro e w4 ⟨a4, c4, rfl, o4, b4⟩; have M4 : Hid True := trivial; have hb := b4; have LA := Lib.hid ((L3.out.below b4).below ((Below.refl _ w4).alloc (Nat.le_refl _) (.cells #[.int .i64 X, .slice a4 lb c4] 133))); have XA := Lib.hid (lb_box (Box.new w4 133 #[.int .i64 X, .slice a4 lb c4]) Y); have BA := Lib.hid ((B3.out.trans (b4.mono B3.out.size)).alloc (B3.out.trans (b4.mono B3.out.size)).size (.cells #[.int .i64 X, .slice a4 lb c4] 133)); have SA := Lib.hid (show w2.heap.size ≤ (w4.alloc (.cells #[.int .i64 X, .slice a4 lb c4] 133)).heap.size by have := b4.size; have := S3.out; simp; omega))
      | (go_at_call 96; refine (KC.out _ B2.out.drew).mono ?_; rintro e w3 ⟨a3, c3, qs, rfl, l3, d3, v3, b3⟩; have M3 : Hid True := trivial; have hb := b3; have L3 := Lib.hid l3; have D3 := Lib.hid d3; have V3 := Lib.hid v3; have B3 := Lib.hid (B2.out.drew.trans (b3.mono B2.out.drew.size)); have S3 := Lib.hid (show w2.heap.size ≤ w3.heap.size from b3.size)))
  have D4 := ((D3.out.below b4).below ((Below.refl _ w4).alloc (Nat.le_refl _) (.cells #[.int .i64 X, .slice a4 lb c4] 133))).snoc (Pm.mk X a4 lb c4 Y) ((o4.rebase (show w2.drew.heap.size ≤ w3.heap.size from S3.out)).alloc (.cells #[.int .i64 X, .slice a4 lb c4] 133)) (fun y hy => (o4.lt y hy).1) (Nat.le_trans b4.size (by simp))
  have D5 := Lib.hid ((D4.grown LA.out g5).mono g5.size)
  have B5 := Lib.hid (BA.out.trans (hb.mono (show w.heap.size ≤ w2.heap.size from B2.out.size)))
  have D3' := Lib.hid (D3.out.below b4)
  obtain ⟨g, rfl⟩ : ∃ g, a5 = some ⟨g, 0, none⟩ := by
    rcases l5.shape with ⟨_, h0, _⟩ | h0
    · omega
    · exact h0
  have L5 := Lib.hid l5
  have KS := Lib.hid (sortStable_any g (len + 1) c5 w2.heap.size _ w5 l5 (by omega))
  clear D4 D3 D3' o4 b4 b3 l5 g5 hb LA XA BA SA M3 M4 L3 KC KW B3 S3 B2 p0 p1
  go_wp2_with fail
  refine KS.out.mono ?_
  rintro e w6 ⟨rfl, ss, hperm, hrise, l6, t6⟩
  have hg : w2.heap.size ≤ g ∧ g < w5.heap.size := L5.out.lt _ rfl
  have T6 := Lib.hid (t6.below (lo := g) (Nat.le_of_lt hg.2))
  have B6 := Lib.hid (B5.out.trans (T6.out.mono (by have := hg.1; have := S2.out; omega)))
  have D6 := Lib.hid (((D5.out.turn L5.out t6).perm hperm.symm).hi)
  have S6 := Lib.hid (show w2.heap.size ≤ w6.heap.size from Nat.le_trans (by omega) t6.size)
  have HB := Lib.hid (GB.out w5 _ _ qs ss (Pm.mk X a4 lb c4 Y) V3.out (D5.out.sub (List.sublist_append_left ..)) ⟨rfl, rfl⟩ hperm)
  have HV := Lib.hid (GL.out qs ss (Pm.mk X a4 lb c4 Y) V3.out rfl hperm hrise)
  have KM := Lib.hid (mergeNeighbours_any w2.heap.size _ (len + 1) c5 ss w6 l6.lb D6.out (by omega) HB.out S6.out)
  clear t6 T6 B5 D5 L5 KS GB GL l6 D6 hperm hrise HB
  go_wp2_with fail
  refine KM.out.mono ?_
  rintro e w7 ⟨a7, m, c7, ms, rfl, l7, d7, v7, b7⟩
  have B7 := Lib.hid (B6.out.trans (b7.mono B6.out.size))
  have V7 : Hid (vals ms = V) := v7.trans HV.out
  have W7 := Lib.hid (show w.heap.size ≤ w7.heap.size from B7.out.size)
  have L7 := Lib.hid (l7.rebase (Nat.le_trans S2.out S6.out))
  have D7 := Lib.hid (show Ds w7 w.heap.size w7.heap.size ms from ⟨fun q hq => ⟨(d7.own q hq).1.rebase S2.out, (d7.own q hq).2⟩, d7.sep⟩)
  clear b7 l7 d7 v7 B6 KM HV
  go_wp2
  go_ret
  exact ⟨_, _, _, ms, rfl, L7.out, D7.out, V7.out, B7.out⟩
set_option maxRecDepth 20000 in
set_option maxHeartbeats 8000000 in
theorem implPutPiece (a : Option Addr) (len cap : Nat) (ps : List Pm) (x : Int) (b : Option Addr) (lb cb : Nat) (zs : List Int) (w : World) (h : Pl w a len cap ps) (hd : ∀ p ∈ ps, p.l ≤ 1048576) (hr : Rd w b lb cb zs) (hl : lb ≤ 1048576) :
    Calls Try.prog 16 #[.slice a len cap, .int .i64 x, .slice b lb cb] w (PrOut w (puC (vals ps) x zs) (puL (vals ps) x zs) []) := by
  have B0 := Lib.hid ((Below.refl w.heap.size w).alloc (Nat.le_refl _) (.cells #[.int .i64 0, .slice none 0 0, .slice none 0 0] 28))
  have X0 := Lib.hid (Box.new w 28 #[.int .i64 0, .slice none 0 0, .slice none 0 0])
  have K := Lib.hid (implPiecesFault a len cap ps _ (h.below B0.out) hd)
  have K1 := Lib.hid (fun W => isInSpan_any x b lb cb W hl)
  have hz := hr.length
  by_cases hc : pfV (vals ps) = 0
  case neg =>
    have e : puC (vals ps) x zs = pfV (vals ps) := if_neg hc
    have e' : puL (vals ps) x zs = [] := by unfold puL; rw [if_neg (by rw [e]; exact hc)]
    have hb := hid_bne hc
    rw [e, e']
    clear h hr hd hc hz e e'
    generalize pfV (vals ps) = c at *
    go_enter Try.func16, Try.ntmps16
    go_wp2_with fail
    refine K.out.mono ?_
    rintro e w1 ⟨rfl, b1⟩
    have X1 := X0.out.below b1 X0.out.lt
    obtain ⟨zz, x0, x1, x2⟩ := X1.three
    have f0 := X1.frozen 0
    have f1 := X1.frozen 1
    have f2 := X1.frozen 2
    have B1 := Lib.hid (B0.out.trans (b1.mono B0.out.size))
    clear b1 K B0 X0 X1
    go_wp2
    exact bodyPost_ret (v := .agg #[.int .i64 c, .slice none 0 0, .slice none 0 0]) (by simp [results, Try.results16, go_sem, x0, x1, x2]) rfl ⟨_, _, _, [], _, _, _, rfl, PrO.zero _ _ _, rfl, ((B1.out.setCell (Nat.le_refl _) _).setCell (Nat.le_refl _) _).setCell (Nat.le_refl _) _⟩
  rw [hc] at K
  by_cases hs : 0 ≤ x ∧ x + lb ≤ 2000
  case neg =>
    have hsp : spanB x zs.length = false := span_f (by rw [hz]; exact hs)
    have e : puC (vals ps) x zs = 3 := by unfold puC; rw [if_pos hc, if_neg (by rw [hsp]; simp)]
    have e' : puL (vals ps) x zs = [] := by unfold puL; rw [if_neg (by omega)]
    rw [e, e']
    rw [span_f hs] at K1
    clear h hr hd hc hz e e' hsp hs
    go_enter Try.func16, Try.ntmps16
    go_wp2_with fail
    refine K.out.mono ?_
    rintro e w1 ⟨rfl, b1⟩
    have X1 := Lib.hid ((X0.out.below b1 X0.out.lt).alloc (.cells #[.int .i64 x, .slice b lb cb] 133))
    have B1 := Lib.hid ((B0.out.trans (b1.mono B0.out.size)).alloc (B0.out.trans (b1.mono B0.out.size)).size (.cells #[.int .i64 x, .slice b lb cb] 133))
    clear b1 K B0 X0
    go_wp2_with fail
    refine (K1.out _).mono ?_
    rintro e w2 ⟨rfl, b2⟩
    have X2 := X1.out.below b2 X1.out.lt
    have B2 := Lib.hid (B1.out.trans (b2.mono B1.out.size))
    obtain ⟨zz, x0, x1, x2⟩ := X2.three
    have f0 := X2.frozen 0
    have f1 := X2.frozen 1
    have f2 := X2.frozen 2
    clear b2 K1 B1 X1 X2
    go_wp2
    exact bodyPost_ret (v := .agg #[.int .i64 3, .slice none 0 0, .slice none 0 0]) (by simp [results, Try.results16, go_sem, x0, x1, x2]) rfl ⟨_, _, _, [], _, _, _, rfl, PrO.zero _ _ _, rfl, ((B2.out.setCell (Nat.le_refl _) _).setCell (Nat.le_refl _) _).setCell (Nat.le_refl _) _⟩
  have hsp : spanB x zs.length = true := span_t (by rw [hz]; exact hs)
  rw [span_t hs] at K1
  have hlen4 : len ≤ 4 := by
    have := (pfV_short hc).1
    have h2 : (vals ps).length = len := by simp only [vals, List.length_map]; exact h.lb.length
    omega
  have KC := Lib.hid (fun W (hW : Below w.heap.size w W) => clonePieces_any a len cap ps W (h.below hW) (by omega) hd)
  by_cases hz0 : lb = 0
  case pos =>
    subst hz0
    have hzz : zs = [] := List.length_eq_zero_iff.1 hz
    subst hzz
    have e : puC (vals ps) x [] = 0 := by unfold puC; rw [if_pos hc, if_pos hsp, putV_nil hc, if_pos (pfV_short hc).1]
    have e' : puL (vals ps) x [] = vals ps := by unfold puL; rw [if_pos e, putV_nil hc]
    rw [e, e']
    clear h hr hd hc hz e e' hsp hs
    go_enter Try.func16, Try.ntmps16
    go_wp2_with fail
    refine K.out.mono ?_
    rintro e w1 ⟨rfl, b1⟩
    have X1 := Lib.hid ((X0.out.below b1 X0.out.lt).alloc (.cells #[.int .i64 x, .slice b 0 cb] 133))
    have B1 := Lib.hid ((B0.out.trans (b1.mono B0.out.size)).alloc (B0.out.trans (b1.mono B0.out.size)).size (.cells #[.int .i64 x, .slice b 0 cb] 133))
    clear b1 K B0 X0
    go_wp2_with fail
    refine (K1.out _).mono ?_
    rintro e w2 ⟨rfl, b2⟩
    have X2 := Lib.hid (X1.out.below b2 X1.out.lt)
    have B2 := Lib.hid (B1.out.trans (b2.mono B1.out.size))
    clear b2 K1 B1 X1
    go_wp2_with fail
    refine (KC.out _ B2.out).mono ?_
    rintro e w3 ⟨a3, c3, qs, rfl, l3, d3, v3, b3⟩
    have hx := X2.out.lt
    have X3 := X2.out.below b3 X2.out.lt
    have B3 := Lib.hid (B2.out.trans (b3.mono B2.out.size))
    have R3 := Lib.hid ((PrO.noReady (l3.plO d3 (Nat.le_refl _) (fun x hx => (l3.lt x hx).2))).mono (lo' := w.heap.size + 1) hx (Nat.le_refl _))
    have V3 := Lib.hid v3
    have hml := l3.max
    obtain ⟨zz, x0, x1, x2⟩ := X3.three
    have f0 := X3.frozen 0
    have f1 := X3.frozen 1
    have f2 := X3.frozen 2
    clear b3 l3 d3 v3 X2 B2 KC X3
    go_wp2
    exact bodyPost_ret (v := .agg #[.int .i64 0, .slice a3 len c3, .slice none 0 0]) (by simp [results, Try.results16, go_sem, x0, x1, x2]) rfl ⟨_, _, _, qs, _, _, _, rfl, (((R3.out.setOther _ _ (.inl (Nat.lt_succ_self _))).setOther _ _ (.inl (Nat.lt_succ_self _))).setOther _ _ (.inl (Nat.lt_succ_self _))).mono (Nat.le_succ _) (by simp), V3.out, ((B3.out.setCell (Nat.le_refl _) _).setCell (Nat.le_refl _) _).setCell (Nat.le_refl _) _⟩
  obtain ⟨X, rfl⟩ : ∃ X : Nat, x = X := ⟨x.toNat, by omega⟩
  have hXl : X + lb ≤ 2000 := by omega
  have hne : zs ≠ [] := fun e => hz0 (by rw [← hz, e]; rfl)
  have E0 : Hid ((putV (vals ps) X zs).length ≤ 4 → puC (vals ps) X zs = 0 ∧ puL (vals ps) X zs = putV (vals ps) X zs) := fun q => by
    have e : puC (vals ps) X zs = 0 := by unfold puC; rw [if_pos hc, if_pos hsp, if_pos q]
    exact ⟨e, if_pos e⟩
  have E1 : Hid (¬ (putV (vals ps) X zs).length ≤ 4 → puC (vals ps) X zs = 7 ∧ puL (vals ps) X zs = []) := fun q => by
    have e : puC (vals ps) X zs = 7 := by unfold puC; rw [if_pos hc, if_pos hsp, if_neg q]
    exact ⟨e, by unfold puL; rw [if_neg (by omega)]⟩
  have KA := Lib.hid (fun W (hW : Below w.heap.size w W) => putAmong_any a len cap ps X b lb cb zs W (h.below hW) hd hc (hr.below hW) hXl hne)
  generalize puC (vals ps) X zs = C at *
  generalize puL (vals ps) X zs = L at *
  generalize hVV : putV (vals ps) X zs = V at *
  clear h hr hd hc hsp hz hne hs hVV KC
  go_enter Try.func16, Try.ntmps16
  go_wp2_with fail
  refine K.out.mono ?_
  rintro e w1 ⟨rfl, b1⟩
  have X1 := Lib.hid ((X0.out.below b1 X0.out.lt).alloc (.cells #[.int .i64 X, .slice b lb cb] 133))
  have B1 := Lib.hid ((B0.out.trans (b1.mono B0.out.size)).alloc (B0.out.trans (b1.mono B0.out.size)).size (.cells #[.int .i64 X, .slice b lb cb] 133))
  have P1 := Lib.hid (Box.new w1 133 #[.int .i64 X, .slice b lb cb])
  clear b1 K B0 X0
  go_wp2_with fail
  refine (K1.out _).mono ?_
  rintro e w2 ⟨rfl, b2⟩
  have X2 := Lib.hid (X1.out.below b2 X1.out.lt)
  have B2 := Lib.hid (B1.out.trans (b2.mono B1.out.size))
  obtain ⟨zp, p0, p1⟩ := (P1.out.below b2 P1.out.lt).two
  clear b2 K1 B1 X1 P1
  go_wp2_with fail
  refine (KA.out _ B2.out).mono ?_
  rintro e w7 ⟨a7, m, c7, ms, rfl, l7, d7, v7, b7⟩
  have S2 := Lib.hid (show w.heap.size < w2.heap.size from X2.out.lt)
  have Z7 := X2.out.below b7 X2.out.lt
  have B7 := Lib.hid (B2.out.trans (b7.mono B2.out.size))
  have R7 := Lib.hid ((PrO.noReady (l7.plO d7 (Nat.le_refl _) (fun x hx => (l7.lt x hx).2))).mono (lo' := w.heap.size + 1) S2.out (Nat.le_refl _))
  have V7 := Lib.hid v7
  have hm : V.length = m := by rw [← V7.out]; simp only [vals, List.length_map]; exact l7.length
  have hml := l7.max
  obtain ⟨zz, x0, x1, x2⟩ := Z7.three
  have f0 := Z7.frozen 0
  have f1 := Z7.frozen 1
  have f2 := Z7.frozen 2
  clear b7 l7 d7 v7 X2 B2 KA Z7 p0 p1
  have HM := Lib.hid hm
  rw [hm] at E0 E1
  clear hm
  by_cases h4 : m ≤ 4
  · obtain ⟨rfl, rfl⟩ := E0.out h4
    have hn2 : ¬ (4 : Int) < (m : Int) := by omega
    clear E0 E1
    go_wp2
    exact bodyPost_ret (v := .agg #[.int .i64 0, .slice a7 m c7, .slice none 0 0]) (by simp [results, Try.results16, go_sem, x0, x1, x2]) rfl ⟨_, _, _, ms, _, _, _, rfl, (((R7.out.setOther _ _ (.inl (Nat.lt_succ_self _))).setOther _ _ (.inl (Nat.lt_succ_self _))).setOther _ _ (.inl (Nat.lt_succ_self _))).mono (Nat.le_succ _) (by simp), V7.out, ((B7.out.setCell (Nat.le_refl _) _).setCell (Nat.le_refl _) _).setCell (Nat.le_refl _) _⟩
  · obtain ⟨rfl, rfl⟩ := E1.out h4
    have hn2 : (4 : Int) < (m : Int) := by omega
    clear E0 E1
    go_wp2
    exact bodyPost_ret (v := .agg #[.int .i64 7, .slice none 0 0, .slice none 0 0]) (by simp [results, Try.results16, go_sem, x0, x1, x2]) rfl ⟨_, _, _, [], _, _, _, rfl, PrO.zero _ _ _, rfl, ((B7.out.setCell (Nat.le_refl _) _).setCell (Nat.le_refl _) _).setCell (Nat.le_refl _) _⟩
end Go.Proofs.Ytimlobhlcmghfaa
