/-
  withHeld of the program.
-/
import Derived.Test.YtimlobhlcmghfaaP6WM
import Derived.Test.YtimlobhlcmghfaaP6JP
import Derived.Test.YtimlobhlcmghfaaP6MG
import Derived.Test.YtimlobhlcmghfaaFlow
import Derived.Test.YtimlobhlcmghfaaArr
namespace Go.Proofs.Ytimlobhlcmghfaa
open Go.ChangeShapes Go.WideShapes Go.ChangeAt Go.RowKit

/-- a place and bytes that can be read wherever the piece's own can -/
def PtV (v : Value) (pa : Option Addr) (pl pc : Nat) (pz : List Int) (P : Int × List Int) : Prop := ∃ a' l' c', v = .agg #[.int .i64 P.1, .slice a' l' c'] ∧ ∀ W, Rd W pa pl pc pz → Rd W a' l' c' P.2
/-- the same in a block of its own -/
def PbV (W : World) (base : Nat) (v : Value) (pa : Option Addr) (pl pc : Nat) (pz : List Int) (P : Int × List Int) : Prop := ∃ g a' l' c', v = .pointer (some ⟨g, 0, none⟩) ∧ base ≤ g ∧ Box W g 133 #[.int .i64 P.1, .slice a' l' c'] ∧ ∀ W, Rd W pa pl pc pz → Rd W a' l' c' P.2
theorem PbV.below {W W' : World} {base : Nat} {v : Value} {pa : Option Addr} {pl pc : Nat} {pz : List Int} {P : Int × List Int} (hb : Below W.heap.size W W') (h : PbV W base v pa pl pc pz P) : PbV W' base v pa pl pc pz P := by
  obtain ⟨g, a, l, c, e, hg, x, r⟩ := h
  exact ⟨g, a, l, c, e, hg, x.below hb x.lt, r⟩

/-- what a part is, as a place in the bytes that it is laid over -/
theorem wh_part {x : Nat} {D : List Int} {v : Int × List Int} {l : Nat} (hl : D.length = l) {P : Int × List Int} (hP : P = partV v.1 v.2 x (x + (l : Int))) :
    (P.2.length = 0 ∧ whStep x D v = D) ∨ ∃ K : Nat, P.1 = (x : Int) + K ∧ 0 < P.2.length ∧ K + P.2.length ≤ l ∧ whStep x D v = Go.splice D K P.2 := by
  subst hl
  by_cases hc : mn (v.1 + v.2.length) ((x : Int) + D.length) ≤ mx v.1 x
  · left
    have e : P = (0, []) := by rw [hP]; exact partV_none hc
    refine ⟨by rw [e]; rfl, ?_⟩
    unfold whStep
    rw [← hP, e]
    rfl
  · right
    obtain ⟨A, N, hN, hAN, eA, eE⟩ := part_nums hc
    have hp := partV_some hc eA eE
    rw [← hP] at hp
    have hlen : P.2.length = N := by rw [hp]; simp; omega
    have h1 : (x : Int) ≤ mx v.1 x := by unfold mx; split <;> omega
    have h2 : mn (v.1 + v.2.length) ((x : Int) + D.length) ≤ (x : Int) + D.length := by unfold mn; split <;> omega
    have hp1 : P.1 = mx v.1 x := by rw [hp]
    refine ⟨(mx v.1 x - x).toNat, by rw [hp1]; omega, by omega, by omega, ?_⟩
    unfold whStep
    rw [← hP, if_neg (by omega), hp1]

set_option maxRecDepth 20000 in
set_option maxHeartbeats 8000000 in
theorem withHeld_any (x : Nat) (s : Option Addr) (l c : Nat) (zs : List Int) (a : Option Addr) (n cap : Nat) (ps : List Pm) (w : World) (hr : Rd w s l c zs) (h : Pl w a n cap ps) (hx : x + l ≤ 2000) (hk : ∀ p ∈ ps, 0 ≤ p.k ∧ p.k + p.l ≤ 2000) :
    Calls Try.prog 167 #[.agg #[.int .i64 x, .slice s l c], .slice a n cap] w fun e w' => ∃ a' c', e = .returned (.agg #[.int .i64 x, .slice a' l c']) ∧ Own w' w.heap.size a' l c' (whAll x zs (vals ps)) ∧ Below w.heap.size w w' := by
  have B0 := Lib.hid (((Below.refl w.heap.size w).alloc (Nat.le_refl _) (.cells #[.int .i64 x, .slice s l c] 133)).alloc (by simp) (.cells #[.int .i64 0, .slice none 0 0] 133))
  have X0 := Lib.hid ((Box.new w 133 #[.int .i64 x, .slice s l c]).alloc (.cells #[.int .i64 0, .slice none 0 0] 133))
  have Y0 := Lib.hid (Box.new (w.alloc (.cells #[.int .i64 x, .slice s l c] 133)) 133 #[.int .i64 0, .slice none 0 0])
  have HP := Lib.hid h
  have HR := Lib.hid hr
  have HK := Lib.hid hk
  have hnm : n ≤ maxLen := Nat.le_trans h.lb.le h.lb.max
  unfold maxLen at hnm
  have HL : Hid ((vals ps).length = n) := by simp only [Hid, vals, List.length_map]; exact h.lb.length
  have HZ := Lib.hid hr.length
  have KE := Lib.hid (fun W => endOf_any (x : Int) s l c W (by omega) (by omega) (by omega))
  clear h hr hk
  simp only [World.size_alloc] at Y0
  go_enter Try.func167, Try.ntmps167
  go_wp2_with fail
  have hs2 : Hid (((w.alloc (.cells #[.int .i64 x, .slice s l c] 133)).alloc (.cells #[.int .i64 0, .slice none 0 0] 133)).heap.size = w.heap.size + 2) := by simp [Hid]
  generalize (w.alloc (.cells #[.int .i64 x, .slice s l c] 133)).alloc (.cells #[.int .i64 0, .slice none 0 0] 133) = V0 at *
  refine (bclone6 s l c zs V0 (HR.out.below B0.out) (by omega)).mono ?_
  rintro e w1 ⟨a5, c5, rfl, o5, b5⟩
  have O1 := Lib.hid o5
  have B1 := Lib.hid b5
  clear o5 b5
  go_wp2
  go_loopw [14] (fun i wr => ∃ (j : Nat) (D : List Int), j ≤ n ∧ i = .int .i64 j ∧ Hid (whAll x D ((vals ps).drop j) = whAll x zs (vals ps)) ∧ Hid (D.length = l) ∧ Hid (Own wr V0.heap.size a5 l c5 D) ∧ Hid (Below V0.heap.size V0 wr)) (fun i _ => n - (intOf i).toNat)
  case atStart => exact ⟨0, zs, Nat.zero_le _, rfl, rfl, HZ.out, O1.out, B1.out⟩
  case round =>
    obtain ⟨j, D, hj, rfl, hD, hDl, hO, hB⟩ := hrel
    clear O1 B1
    have XW := Lib.hid (X0.out.below hB.out X0.out.lt)
    have BW := Lib.hid (B0.out.trans (hB.out.mono B0.out.size))
    by_cases hlt : j < n
    · obtain ⟨b, off, q, rfl, hq, c0, c1⟩ := (HP.out.lb.below BW.out).at hlt
      have hqk := HK.out q (List.mem_of_getElem? hq)
      have Rq := Lib.hid (((HP.out.below BW.out).data q (List.mem_of_getElem? hq)).alloc (.cells #[.int .i64 q.k, .slice q.a q.l q.c] 133))
      have hD' : Hid (whAll x (whStep x D q.v) ((vals ps).drop (j + 1)) = whAll x zs (vals ps)) := by
        have e := hD.out
        rw [drop_cons (show (vals ps)[j]? = some q.v by simp [vals, hq])] at e
        exact e
      clear hq hD
      obtain ⟨pk, pa, pl, pc, pz⟩ := q
      simp only [Pm.v] at c0 c1 hqk Rq hD'
      have hpz : pz.length = pl := Rq.out.length
      have BA := Lib.hid (hB.out.alloc hB.out.size (.cells #[.int .i64 pk, .slice pa pl pc] 133))
      have OA := Lib.hid (hO.out.alloc (.cells #[.int .i64 pk, .slice pa pl pc] 133))
      have XA := Lib.hid (XW.out.alloc (.cells #[.int .i64 pk, .slice pa pl pc] 133))
      have YA := Lib.hid (Box.new wr 133 #[.int .i64 pk, .slice pa pl pc])
      obtain ⟨P, hP⟩ : ∃ P, P = partV pk pz x (x + (l : Int)) := ⟨_, rfl⟩
      have HPV := Lib.hid hP
      clear hP hO hB XW BW
      go_wp2_with fail
      generalize wr.alloc (.cells #[.int .i64 pk, .slice pa pl pc] 133) = W0 at *
      clear c0 c1
      obtain ⟨n0, hn0'⟩ : ∃ n0, n0 = W0.heap.size := ⟨_, rfl⟩
      have hn0 : n0 ≤ W0.heap.size := by omega
      have hn1 : W0.heap.size ≤ n0 := by omega
      clear hn0'
      have KP := Lib.hid (show ∀ W, Below W0.heap.size W0 W → Calls Try.prog 187 #[.agg #[.int .i64 pk, .slice pa pl pc], .int .i64 x, .int .i64 (x + (l : Int))] W (PartOut W pa pl pc pz P) from fun W hW => by rw [HPV.out]; exact partOf_any pk pa pl pc pz x (x + l) W (Rq.out.below hW) (by omega) (by omega) (by omega) (by omega))
      have SS := Lib.hid (show ∀ W, Hid (Below W0.heap.size W0 W) → W.cell? ⟨w.heap.size, 0, none⟩ = some (.int .i64 x) ∧ W.cell? ⟨w.heap.size, 1, none⟩ = some (.slice s l c) ∧ W.cell? ⟨wr.heap.size, 0, none⟩ = some (.int .i64 pk) ∧ W.cell? ⟨wr.heap.size, 1, none⟩ = some (.slice pa pl pc) ∧ Hid (Below W0.heap.size W0 W) from fun W h => by
        obtain ⟨_, x0, x1⟩ := (XA.out.below h.out XA.out.lt).two
        obtain ⟨_, y0, y1⟩ := (YA.out.below h.out YA.out.lt).two
        exact ⟨x0, x1, y0, y1, h⟩)
      have T1 := Lib.hid (Below.refl W0.heap.size W0)
      have TD := kDrew T1
      refine wp_region_held_drew (S := fun W => W.cell? ⟨w.heap.size, 0, none⟩ = some (.int .i64 x) ∧ W.cell? ⟨w.heap.size, 1, none⟩ = some (.slice s l c) ∧ W.cell? ⟨wr.heap.size, 0, none⟩ = some (.int .i64 pk) ∧ W.cell? ⟨wr.heap.size, 1, none⟩ = some (.slice pa pl pc) ∧ Hid (Below W0.heap.size W0 W)) (by kernel_rfl) (SS.out _ TD) (fun hHeld => ?_)
      refine wpAnyH_take (i := 0) (v := ?_) (by simp only [List.getElem?_toArray, List.getElem?_cons_zero]; exact rfl) (by kernel_rfl) (by kernel_rfl) (by kernel_rfl) (by exact fun _ _ _ h => h) (Or.inl ⟨by rfl, ?_⟩) hHeld ?_
      rotate_left
      · intro w' hSw
        obtain ⟨q0, q1, q2, q3, _⟩ := hSw
        go_simp
        try with_reducible rfl
      try simp only [Act.put, List.setIfInBounds_toArray, List.set_cons_zero, List.set_cons_succ]
      refine wpAnyH_take (i := 1) (v := ?_) (by simp only [List.getElem?_toArray, List.getElem?_cons_zero, List.getElem?_cons_succ]; exact rfl) (by kernel_rfl) (by kernel_rfl) (by kernel_rfl) (by exact fun _ _ _ h => h) (Or.inl ⟨by rfl, ?_⟩) hHeld ?_
      rotate_left
      · intro w' hSw
        obtain ⟨q0, q1, q2, q3, _⟩ := hSw
        go_simp
        try with_reducible rfl
      try simp only [Act.put, List.setIfInBounds_toArray, List.set_cons_zero, List.set_cons_succ]
      refine wpAnyH_take (i := 2) (v := ?_) (by simp only [List.getElem?_toArray, List.getElem?_cons_zero, List.getElem?_cons_succ]; exact rfl) (by kernel_rfl) (by kernel_rfl) (by kernel_rfl) (by exact fun _ _ _ h => h) (Or.inl ⟨by rfl, ?_⟩) hHeld ?_
      rotate_left
      · intro w' hSw
        obtain ⟨q0, q1, q2, q3, _⟩ := hSw
        go_simp
        try with_reducible rfl
      try simp only [Act.put, List.setIfInBounds_toArray, List.set_cons_zero, List.set_cons_succ]
      refine wpAnyH_take (i := 3) (v := ?_) (by simp only [List.getElem?_toArray, List.getElem?_cons_zero, List.getElem?_cons_succ]; exact rfl) (by kernel_rfl) (by kernel_rfl) (by kernel_rfl) (by exact fun _ _ _ h => h) (Or.inl ⟨by rfl, ?_⟩) hHeld ?_
      rotate_left
      · intro w' hSw
        obtain ⟨q0, q1, q2, q3, _⟩ := hSw
        go_simp
        try with_reducible rfl
      try simp only [Act.put, List.setIfInBounds_toArray, List.set_cons_zero, List.set_cons_succ]
      refine flow_go (Inv := fun listed ac W => ∃ v8 v22 v23 : Value, ac = { tmps := #[_, _, .pointer (some ⟨w.heap.size, 0, none⟩), _, _, _, _, .pointer (some ⟨wr.heap.size, 0, none⟩), v8, _, _, _, _, _, _, _, _, _, .agg #[.int .i64 pk, .slice pa pl pc], .pointer (some ⟨w.heap.size, 0, none⟩), .int .i64 x, .agg #[.int .i64 x, .slice s l c], v22, v23, _, _, _, _, _, _, _, _, _, _, _, _, _, _, _, _, _, _, _], defers := [] } ∧ Hid (Below W0.heap.size W0 W) ∧ Fl listed 4 (EqV v22 (.int .i64 (x + (l : Int)))) ∧ Fl listed 5 (PtV v23 pa pl pc pz P) ∧ Fl listed 6 (AlV W n0 v8 133 2) ∧ Fl listed 7 (PbV W n0 v8 pa pl pc pz P ∧ listed.getD 6 false = true)) [4, 5, 6, 7] (by kernel_rfl) (by kernel_rfl) ⟨_, _, _, rfl, TD, Fl.not (by kernel_rfl), Fl.not (by kernel_rfl), Fl.not (by kernel_rfl), Fl.not (by kernel_rfl)⟩
        (FlowAll.cons [] (by simp only [List.getElem?_toArray, List.getElem?_cons_zero, List.getElem?_cons_succ]; exact rfl) (by kernel_rfl) (fun listed ac W hI hu hd K hK => ?_)
          (FlowAll.cons [4] (by simp only [List.getElem?_toArray, List.getElem?_cons_zero, List.getElem?_cons_succ]; exact rfl) (by kernel_rfl) (fun listed ac W hI hu hd K hK => ?_)
          (FlowAll.cons [] (by simp only [List.getElem?_toArray, List.getElem?_cons_zero, List.getElem?_cons_succ]; exact rfl) (by kernel_rfl) (fun listed ac W hI hu hd K hK => ?_)
          (FlowAll.cons [6, 5] (by simp only [List.getElem?_toArray, List.getElem?_cons_zero, List.getElem?_cons_succ]; exact rfl) (by kernel_rfl) (fun listed ac W hI hu hd K hK => ?_)
          FlowAll.nil))))
        (fun listed ac W hI hall => ?_)
      · obtain ⟨v8, v22, v23, rfl, TB, f4, f5, f6, f7⟩ := hI
        have hnW : n0 ≤ W.heap.size := Nat.le_trans hn0 (kSize TB)
        refine want_none (by exact rfl) ?_
        go_wp2_with fail
        refine (KE.out _).mono ?_
        rintro e w' ⟨rfl, hb0⟩
        go_wp2_with fail
        have hb : Below W.heap.size W _ := hb0
        have TB' := kCall hb (kSize TB) TB
        refine hK.out _ _ (SS.out _ TB') ?_
        exact ⟨_, _, _, rfl, TB', Fl.new (EqV.rfl _), f5.keep (by decide) (keepE hb), f6.keep (by decide) (AlV.below hb), f7.keep (by decide) (fun h => ⟨PbV.below hb h.1, getD_set_true h.2⟩)⟩
      · obtain ⟨v8, v22, v23, rfl, TB, f4, f5, f6, f7⟩ := hI
        have hnW : n0 ≤ W.heap.size := Nat.le_trans hn0 (kSize TB)
        obtain ⟨rfl⟩ := f4.get (hd 4 (by simp))
        refine want_none (by exact rfl) ?_
        go_wp2_with fail
        refine (KP.out _ TB.out).mono ?_
        rintro e w' ⟨a6, l6, c6, rfl, r6, hb0⟩
        go_wp2_with fail
        have hb : Below W.heap.size W _ := hb0
        have TB' := kCall hb (kSize TB) TB
        refine hK.out _ _ (SS.out _ TB') ?_
        exact ⟨_, _, _, rfl, TB', f4.keep (by decide) (keepE hb), Fl.new (⟨_, _, _, rfl, r6⟩), f6.keep (by decide) (AlV.below hb), f7.keep (by decide) (fun h => ⟨PbV.below hb h.1, getD_set_true h.2⟩)⟩
      · obtain ⟨v8, v22, v23, rfl, TB, f4, f5, f6, f7⟩ := hI
        have hnW : n0 ≤ W.heap.size := Nat.le_trans hn0 (kSize TB)
        refine want_none (by exact rfl) ?_
        go_wp2_with fail
        have hb : Below W.heap.size W _ := bAlloc W (.cells #[.int .i64 0, .slice none 0 0] 133)
        have TB' := kCall hb (kSize TB) TB
        refine hK.out _ _ (SS.out _ TB') ?_
        exact ⟨_, _, _, rfl, TB', f4.keep (by decide) (keepE hb), f5.keep (by decide) (keepE hb), Fl.new (AlV.new hnW rfl), f7.keep (by decide) (fun h => absurd h.2 (by rw [getD_unlisted hu]; simp))⟩
      · obtain ⟨v8, v22, v23, rfl, TB, f4, f5, f6, f7⟩ := hI
        have hnW : n0 ≤ W.heap.size := Nat.le_trans hn0 (kSize TB)
        obtain ⟨gN, vsN, rfl, hgN, xN, sN⟩ := f6.get (hd 6 (by simp))
        obtain ⟨a6, l6, c6, rfl, r6⟩ := f5.get (hd 5 (by simp))
        refine storeBox_step _ rfl 133 (.tmp 8) (.tmp 23) rfl gN 133 vsN #[.int .i64 P.1, .slice a6 l6 c6] xN (by exact rfl) (by exact rfl) (by kernel_rfl) (sN.trans rfl) (by simp [Value.oneCell']) ?_
        intro wS xS gS
        try simp only [Act.put]
        have TB' := kGrownB gS TB (Nat.le_trans hn1 hgN)
        refine hK.out _ _ (SS.out _ TB') ?_
        exact ⟨_, _, _, rfl, TB', f4.keep (by decide) (id), f5.keep (by decide) (id), f6.keep (by decide) (fun _ => ⟨_, _, rfl, hgN, xS, rfl⟩), Fl.new (⟨⟨_, _, _, _, rfl, hgN, xS, r6⟩, getD_set_true (hd 6 (by simp))⟩)⟩
      · obtain ⟨v8, v22, v23, rfl, TB, f4, f5, f6, f7⟩ := hI
        have hnW : n0 ≤ W.heap.size := Nat.le_trans hn0 (kSize TB)
        obtain ⟨⟨g, a6, l6, c6, rfl, hg, xg, r6⟩, _⟩ := f7.get (hall 7 (by decide))
        have r7 := Lib.hid (r6 W (Rq.out.below TB.out))
        have hl6 : P.2.length = l6 := r7.out.length
        have hXW := XA.out.below TB.out XA.out.lt
        have hOW := Lib.hid (OA.out.below TB.out)
        have hBW := Lib.hid (BA.out.trans (TB.out.mono BA.out.size))
        obtain ⟨zx, z0, z1⟩ := hXW.two
        obtain ⟨zg, g0, g1⟩ := xg.two
        have hWP := wh_part (v := (pk, pz)) (x := x) hDl.out HPV.out
        clear f4 f5 f6 f7 hall SS KP KE r6 hHeld XA YA OA BA Rq T1 TB HPV hXW
        rcases hWP with ⟨e0, eD⟩ | ⟨K, e1, e2, e3, eD⟩
        · obtain rfl : l6 = 0 := by omega
          have hDD : Hid (whAll x D ((vals ps).drop (j + 1)) = whAll x zs (vals ps)) := by have e := hD'.out; rw [eD] at e; exact e
          clear hD' eD e0 r7
          go_wp2
          go_roundw
          case rel => exact ⟨j + 1, D, by omega, by go_num, hDD.out, hDl.out, hOW.out, hBW.out⟩
          case measure => simp [intOf]; omega
        · obtain ⟨p1, Z⟩ := P
          simp only at e1 e2 e3 eD hl6 g0 r7
          subst e1
          rw [hl6] at e2 e3
          have hDD : Hid (whAll x (Go.splice D K Z) ((vals ps).drop (j + 1)) = whAll x zs (vals ps)) := by have e := hD'.out; rw [eD] at e; exact e
          have hDn : Hid ((Go.splice D K Z).length = l) := by simp only [Hid]; rw [length_splice _ _ _ (by have := hDl.out; omega)]; exact hDl.out
          obtain ⟨gg, rfl⟩ : ∃ gg, a5 = some ⟨gg, 0, none⟩ := by
            rcases hOW.out.shape with ⟨_, h0, _⟩ | h0
            · omega
            · exact h0
          have cmx := hOW.out.max
          have hcK : ¬ c5 = K := by omega
          have i1 : (x : Int) + (K : Int) - (x : Int) = (K : Int) := by omega
          have i2 : (K : Int) ≤ (l : Int) := by omega
          have i3 : IntKind.i64.wrap (K : Int) = (K : Int) := IntWalk.i64_in _ (by omega)
          clear hD' eD
          go_wp2_with fail
          go_region_law (first
            | (refine copy_step _ rfl (.tmp 34) (.tmp 36) rfl _ gg l c5 K (l - K) _ _ hOW.out.drew rfl (by omega) _ _ _ _ rfl r7.out.drew (by omega) ?_; intro w9 o9 g9))
          all_goals (
            have O9 := Lib.hid o9
            have B9 := Lib.hid (hBW.out.drew.grown g9 hBW.out.size (fun k e => by cases e; exact (hOW.out.lt _ rfl).1))
            clear o9 g9 hOW hBW r7 z0 z1 g0 g1 xg
            go_wp2
            go_roundw
            case rel => exact ⟨j + 1, _, by omega, by go_num, hDD.out, hDn.out, O9.out, B9.out⟩
            case measure => simp [intOf]; omega)
    · obtain rfl : j = n := by omega
      have hDD : Hid (D = whAll x zs (vals ps)) := by
        have e := hD.out
        rwa [List.drop_of_length_le (by rw [HL.out]; exact Nat.le_refl _)] at e
      have YW := Y0.out.below hB.out (by have := hs2.out; omega)
      have zx := XW.out.lt
      obtain ⟨_, z0, z1⟩ := XW.out.two
      obtain ⟨_, y0, y1⟩ := YW.two
      have f0 := YW.frozen 0
      have f1 := YW.frozen 1
      clear hD YW
      go_wp2
      refine bodyPost_ret (v := .agg #[.int .i64 x, .slice a5 l c5]) (by simp [results, Try.results167, go_sem, y0, y1]) rfl ⟨_, _, rfl, ?_, (BW.out.setCell (by simp) _).setCell (by simp) _⟩
      rw [← hDD.out]
      have hne : ∀ z, a5 = some z → z.block ≠ w.heap.size + 1 := fun z hz e => by have := (hO.out.lt z hz).1; have := hs2.out; omega
      exact ((hO.out.rebase B0.out.size).setOther _ _ hne).setOther _ _ hne
end Go.Proofs.Ytimlobhlcmghfaa
