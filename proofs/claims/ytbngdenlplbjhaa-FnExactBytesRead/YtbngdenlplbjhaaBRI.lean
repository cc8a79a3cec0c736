/-
  BytesRead of the program; its exact law.
-/
import Derived.Test.YtbngdenlplbjhaaBR
import Derived.Test.YtbngdenlplbjhaaD4Bd
namespace Go.Proofs.Ytbngdenlplbjhaa
open Go.ChangeShapes Go.WideShapes Go.ChangeAt Go.RowKit

theorem sideBound_b (n : Int) (w : World) : Calls Try.prog 64 #[.int .i64 n] w fun e w' => e = .returned (.agg #[.int .i64 n, .int .i64 0, .int .i64 1]) ∧ Below w.heap.size w w' := by
  go_enter Try.func64, Try.ntmps64
  go_wp2
  exact bodyPost_ret (v := .agg #[.int .i64 n, .int .i64 0, .int .i64 1]) (by simp [results, Try.results64, go_sem]) rfl ⟨rfl, (Below.refl _ _).alloc (Nat.le_refl _) _⟩
theorem within1b (g : Nat) (t : TypeId) (x0 l0 h0 : Int) (w : World) (h : Box w g t #[.int .i64 x0, .int .i64 l0, .int .i64 h0]) :
    Calls Try.prog 37 #[.slice (some ⟨g, 0, none⟩) 1 1] w fun e w' => e = .returned (.bool (inB x0 l0 h0)) ∧ Below w.heap.size w w' := by
  have := areWithin_any g [⟨x0, l0, h0⟩] w (by
    intro i x hx
    match i with
    | 0 => simp at hx; subst hx; exact ⟨h.cell 0, h.cell 1, h.cell 2⟩
    | k + 1 => simp at hx) (by simp)
  simpa [bdB] using this

set_option maxHeartbeats 4000000 in
theorem implBytesRead (p : PairR) (x : Lt EventR) (s : Int) (w : World) (h : PairR.ok w p) (h' : Lt.ok EventR.md w x) (hl : p.val.wt ≤ 1048576) :
    Calls Try.prog 25 #[.agg (PairR.cells p).toArray, .slice x.a x.l x.c, .int .i64 s] w (TOut BytesResultR.md BytesResultR.val (brV s (x.rs.map EventR.val) (p.f3.rs.map ReplyR.val)) w) := by
  obtain ⟨f0, f1, f2, ⟨ra, rl, rc, rs⟩⟩ := p
  obtain ⟨ea, el, ec, es⟩ := x
  show Calls Try.prog 25 #[.agg #[.int .i64 f0, .slice f1.a f1.l f1.c, .slice f2.a f2.l f2.c, .slice ra rl rc], .slice ea el ec, .int .i64 s] w _
  dsimp only
  have HR := Lib.hid (show Lt.ok ReplyR.md w ⟨ra, rl, rc, rs⟩ from h.2)
  have HE := Lib.hid h'
  have hrl : rs.length = rl := h.2.length
  have hel : es.length = el := h'.length
  have hwl : Hid (sw ReplyV.wt (rs.map ReplyR.val) ≤ 1048576) := by
    have e : (PairR.val ⟨f0, f1, f2, ⟨ra, rl, rc, rs⟩⟩).wt = wtL EndV.wt (f1.rs.map EndR.val) + wtL FlightV.wt (f2.rs.map FlightR.val) + wtL ReplyV.wt (rs.map ReplyR.val) := rfl
    rw [e] at hl
    simp only [wtL] at hl
    simp only [Hid]
    omega
  have hrm : rl ≤ 1048576 := by
    have e : (PairR.val ⟨f0, f1, f2, ⟨ra, rl, rc, rs⟩⟩).wt = wtL EndV.wt (f1.rs.map EndR.val) + wtL FlightV.wt (f2.rs.map FlightR.val) + wtL ReplyV.wt (rs.map ReplyR.val) := rfl
    rw [e] at hl
    simp only [wtL, List.length_map] at hl
    omega
  have hem : el ≤ maxLen := Nat.le_trans h'.le h'.max
  unfold maxLen at hem
  obtain ⟨V, hV⟩ : ∃ V, V = brV s (es.map EventR.val) (rs.map ReplyR.val) := ⟨_, rfl⟩
  rw [← hV]
  have HV := Lib.hid hV
  have HLR := Lib.hid hrl
  have HLE := Lib.hid hel
  clear h h' hl hV hrl hel
  have X0 := Lib.hid ((Box.new w 59 #[.int .i64 f0, .slice f1.a f1.l f1.c, .slice f2.a f2.l f2.c, .slice ra rl rc]).alloc (.cells #[.int .i64 0, .slice none 0 0] 53))
  have yy := Box.new (w.alloc (.cells #[.int .i64 f0, .slice f1.a f1.l f1.c, .slice f2.a f2.l f2.c, .slice ra rl rc] 59)) 53 #[.int .i64 0, .slice none 0 0]
  rw [World.size_alloc] at yy
  have Y0 := Lib.hid yy
  clear yy
  have B0 := Lib.hid (((Below.refl w.heap.size w).alloc (Nat.le_refl _) (.cells #[.int .i64 f0, .slice f1.a f1.l f1.c, .slice f2.a f2.l f2.c, .slice ra rl rc] 59)).alloc (by simp) (.cells #[.int .i64 0, .slice none 0 0] 53))
  by_cases hs : inB s 0 1 = true
  case neg =>
    have hV0 : Hid (V = ⟨3, []⟩) := by have e := HV.out; simp only [Hid]; rw [e]; unfold brV brC; rw [if_neg hs]; rfl
    have hi : inB s 0 1 = false := by simpa using hs
    go_enter Try.func25, Try.ntmps25
    go_wp2_with fail
    refine (sideBound_b s _).mono ?_
    rintro e w1 ⟨rfl, b1⟩
    have Xb := (X0.out.below b1 X0.out.lt)
    have Yb := (Y0.out.below b1 Y0.out.lt)
    have Bb := B0.out.trans (b1.mono B0.out.size)
    have X1 := Lib.hid (Xb.alloc (.cells #[.int .i64 s, .int .i64 0, .int .i64 1] 77))
    have Y1 := Lib.hid (Yb.alloc (.cells #[.int .i64 s, .int .i64 0, .int .i64 1] 77))
    have G1 := Lib.hid (Box.new w1 77 #[.int .i64 s, .int .i64 0, .int .i64 1])
    have B1 := Lib.hid (Bb.alloc Bb.size (.cells #[.int .i64 s, .int .i64 0, .int .i64 1] 77))
    have S1 := Lib.hid (show w.heap.size + 1 < w1.heap.size from Yb.lt)
    clear b1 Xb Yb Bb X0 Y0 B0
    go_wp2_with fail
    refine (within1b _ _ s 0 1 _ G1.out).mono ?_
    rintro e w2 ⟨rfl, b2⟩
    have X2 := Lib.hid (X1.out.below b2 X1.out.lt)
    have Y2 := Lib.hid (Y1.out.below b2 Y1.out.lt)
    have B2 := Lib.hid (B1.out.trans (b2.mono B1.out.size))
    have S2 := Lib.hid (show w.heap.size + 1 < w2.heap.size from Y2.out.lt)
    clear b2 X1 Y1 B1 G1 S1
    have y0 := Y2.out.cell 0
    have y1 := Y2.out.cell 1
    have f0' := Y2.out.frozen 0
    have f1' := Y2.out.frozen 1
    have x3 : w2.cell? ⟨w.heap.size, 3, none⟩ = some (.slice ra rl rc) := X2.out.cell 3
    go_wp2
    have Z := ((Y2.out.putK 0 (.int .i64 3)).putK 1 (.slice none 0 0))
    have B9 := (B2.out.setCell (p := ⟨w.heap.size + 1, 0, none⟩) (show w.heap.size ≤ w.heap.size + 1 by omega) (.int .i64 3)).setCell (p := ⟨w.heap.size + 1, 1, none⟩) (show w.heap.size ≤ w.heap.size + 1 by omega) (.slice none 0 0)
    refine bodyPost_ret (results_cell_row Try.results25 _ _ _ _ _ _ _ rfl Z Try.underlying53 rfl (by kernel_rfl)) rfl (brOut (Nat.le_refl _) (Own.nil _ _) B9 hV0.out)
  by_cases hl : es.length = rs.length
  case neg =>
    have hV0 : Hid (V = ⟨1, []⟩) := by have e := HV.out; simp only [Hid]; rw [e]; unfold brV brC; rw [if_pos hs, if_neg (by simpa using hl)]; rfl
    have hne : ((rl : Int) != (el : Int)) = true := by
      have h1 := HLR.out
      have h2 := HLE.out
      simp only [bne_iff_ne, ne_eq]
      omega
    go_enter Try.func25, Try.ntmps25
    go_wp2_with fail
    refine (sideBound_b s _).mono ?_
    rintro e w1 ⟨rfl, b1⟩
    have Xb := (X0.out.below b1 X0.out.lt)
    have Yb := (Y0.out.below b1 Y0.out.lt)
    have Bb := B0.out.trans (b1.mono B0.out.size)
    have X1 := Lib.hid (Xb.alloc (.cells #[.int .i64 s, .int .i64 0, .int .i64 1] 77))
    have Y1 := Lib.hid (Yb.alloc (.cells #[.int .i64 s, .int .i64 0, .int .i64 1] 77))
    have G1 := Lib.hid (Box.new w1 77 #[.int .i64 s, .int .i64 0, .int .i64 1])
    have B1 := Lib.hid (Bb.alloc Bb.size (.cells #[.int .i64 s, .int .i64 0, .int .i64 1] 77))
    have S1 := Lib.hid (show w.heap.size + 1 < w1.heap.size from Yb.lt)
    clear b1 Xb Yb Bb X0 Y0 B0
    go_wp2_with fail
    refine (within1b _ _ s 0 1 _ G1.out).mono ?_
    rintro e w2 ⟨rfl, b2⟩
    have X2 := Lib.hid (X1.out.below b2 X1.out.lt)
    have Y2 := Lib.hid (Y1.out.below b2 Y1.out.lt)
    have B2 := Lib.hid (B1.out.trans (b2.mono B1.out.size))
    have S2 := Lib.hid (show w.heap.size + 1 < w2.heap.size from Y2.out.lt)
    clear b2 X1 Y1 B1 G1 S1
    have y0 := Y2.out.cell 0
    have y1 := Y2.out.cell 1
    have f0' := Y2.out.frozen 0
    have f1' := Y2.out.frozen 1
    have x3 : w2.cell? ⟨w.heap.size, 3, none⟩ = some (.slice ra rl rc) := X2.out.cell 3
    go_wp2
    have Z := ((Y2.out.putK 0 (.int .i64 1)).putK 1 (.slice none 0 0))
    have B9 := (B2.out.setCell (p := ⟨w.heap.size + 1, 0, none⟩) (show w.heap.size ≤ w.heap.size + 1 by omega) (.int .i64 1)).setCell (p := ⟨w.heap.size + 1, 1, none⟩) (show w.heap.size ≤ w.heap.size + 1 by omega) (.slice none 0 0)
    refine bodyPost_ret (results_cell_row Try.results25 _ _ _ _ _ _ _ rfl Z Try.underlying53 rfl (by kernel_rfl)) rfl (brOut (Nat.le_refl _) (Own.nil _ _) B9 hV0.out)
  have hee : el = rl := by have h1 := HLR.out; have h2 := HLE.out; omega
  subst hee
  have hne : ((el : Int) != (el : Int)) = false := by simp
  obtain ⟨Z, hZ⟩ : ∃ Z, Z = brL s (es.map EventR.val) (rs.map ReplyR.val) := ⟨_, rfl⟩
  have HZ := Lib.hid hZ
  have hV1 : Hid ((700 < Z.length → V = ⟨2, []⟩) ∧ (¬ 700 < Z.length → V = ⟨0, Z⟩)) := by
    have e := HV.out
    have hll : (es.map EventR.val).length = (rs.map ReplyR.val).length := by simpa using hl
    simp only [Hid]
    rw [e]
    unfold brV brC
    rw [if_pos hs, if_pos hll, ← hZ]
    exact ⟨fun h => by rw [if_pos h]; rfl, fun h => by rw [if_neg h, if_pos rfl]⟩
  have hzl : Z.length ≤ 1048576 := by rw [hZ]; exact Nat.le_trans (brL_le s _ _) hwl.out
  clear hZ hl
  go_enter Try.func25, Try.ntmps25
  go_wp2_with fail
  refine (sideBound_b s _).mono ?_
  rintro e w1 ⟨rfl, b1⟩
  have Xb := (X0.out.below b1 X0.out.lt)
  have Yb := (Y0.out.below b1 Y0.out.lt)
  have Bb := B0.out.trans (b1.mono B0.out.size)
  have X1 := Lib.hid (Xb.alloc (.cells #[.int .i64 s, .int .i64 0, .int .i64 1] 77))
  have Y1 := Lib.hid (Yb.alloc (.cells #[.int .i64 s, .int .i64 0, .int .i64 1] 77))
  have G1 := Lib.hid (Box.new w1 77 #[.int .i64 s, .int .i64 0, .int .i64 1])
  have B1 := Lib.hid (Bb.alloc Bb.size (.cells #[.int .i64 s, .int .i64 0, .int .i64 1] 77))
  have S1 := Lib.hid (show w.heap.size + 1 < w1.heap.size from Yb.lt)
  clear b1 Xb Yb Bb X0 Y0 B0
  go_wp2_with fail
  refine (within1b _ _ s 0 1 _ G1.out).mono ?_
  rintro e w2 ⟨rfl, b2⟩
  have X2 := Lib.hid (X1.out.below b2 X1.out.lt)
  have Y2 := Lib.hid (Y1.out.below b2 Y1.out.lt)
  have B2 := Lib.hid (B1.out.trans (b2.mono B1.out.size))
  have S2 := Lib.hid (show w.heap.size + 1 < w2.heap.size from Y2.out.lt)
  clear b2 X1 Y1 B1 G1 S1
  have y0 := Y2.out.cell 0
  have y1 := Y2.out.cell 1
  have f0' := Y2.out.frozen 0
  have f1' := Y2.out.frozen 1
  have x3 : w2.cell? ⟨w.heap.size, 3, none⟩ = some (.slice ra el rc) := X2.out.cell 3
  go_wp2
  obtain ⟨n2, hn2⟩ : ∃ n, n = w2.heap.size := ⟨_, rfl⟩
  have O0 := own_lit0 w2 n2 (by rw [hn2]; exact Nat.le_refl _)
  have D0 := (Below.refl n2 w2).alloc (by rw [hn2]; exact Nat.le_refl _) (.cells #[] 5)
  have hn : w.heap.size + 1 < n2 := by rw [hn2]; exact S2.out
  rw [← hn2] at O0
  have OO := Lib.hid O0
  have DD := Lib.hid D0
  have HN2 := Lib.hid hn2
  clear O0 D0 y0 y1 f0' f1' x3 hn2
  go_loopw [7, 26] (fun out i wr => ∃ (k l c : Nat) (a : Option Addr) (zs : List Int), k ≤ el ∧ i = .int .i64 k ∧ out = .slice a l c ∧ l ≤ 1048576 ∧ Hid (zs = brL s ((es.map EventR.val).take k) ((rs.map ReplyR.val).take k)) ∧ Hid (Own wr n2 a l c zs) ∧ Hid (Below n2 w2 wr)) (fun _ i _ => el - (intOf i).toNat)
  case atStart => exact ⟨0, 0, 0, _, [], Nat.zero_le _, rfl, by first | rfl | (rw [HN2.out]), by omega, rfl, OO.out, DD.out⟩
  case round =>
    obtain ⟨k, l, c, a, zs, hk, rfl, rfl, hl, hz, ho, hd⟩ := hrel
    clear OO DD
    have BB := Lib.hid (B2.out.trans (hd.out.mono (by omega)))
    have YY := Lib.hid (Y2.out.below hd.out (show w.heap.size + 1 < n2 by omega))
    have x3 : wr.cell? ⟨w.heap.size, 3, none⟩ = some (.slice ra el rc) := (X2.out.below hd.out (show w.heap.size < n2 by omega)).cell 3
    by_cases hlt : k < el
    · obtain ⟨b1, o1, pe, e1, hpe, r1, _⟩ := (HE.out.below (by decide) BB.out).at hlt
      obtain ⟨b2, o2, pr, e2, hpr, r2, dr⟩ := (HR.out.below (by decide) BB.out).at hlt
      dsimp only at e1 e2 hpe hpr
      subst e1
      subst e2
      have RR := Lib.hid (show Row wr b1 (o1 + k * 4) (EventR.cells pe) from r1)
      have C2 := Lib.hid (show wr.cell? ⟨b2, o2 + k * 3 + 2, none⟩ = some (.slice pr.f2.a pr.f2.l pr.f2.c) from r2 2 _ rfl)
      have RB := Lib.hid (show Rd wr pr.f2.a pr.f2.l pr.f2.c pr.f2.z from dr)
      have hsn : n2 ≤ wr.heap.size := by have := hd.out.size; have := HN2.out; omega
      have X3 := Lib.hid x3
      clear x3
      have hst := brL_step s (es := es.map EventR.val) (rs := rs.map ReplyR.val) (k := k) (e := pe.val) (r := pr.val) (by rw [List.getElem?_map, hpe]; rfl) (by rw [List.getElem?_map, hpr]; rfl)
      rw [← hz.out] at hst
      have ST := Lib.hid hst
      have hle : (brL s ((es.map EventR.val).take (k + 1)) ((rs.map ReplyR.val).take (k + 1))).length ≤ 1048576 := Nat.le_trans (brL_le s _ _) (Nat.le_trans (sw_take_le _ _ _) hwl.out)
      have HLE2 := Lib.hid hle
      have hoc : zs.length = l := ho.out.length
      have HOC := Lib.hid hoc
      clear r1 r2 dr hst hle hpe hpr hoc
      by_cases q : (pe.f0 == 3 && pe.f1 == s) = true
      · rw [Bool.and_eq_true] at q
        obtain ⟨q0, q1⟩ := q
        have hq : Hid (brQ s pe.val = true) := by simp only [Hid, brQ, Bool.and_eq_true]; exact ⟨q0, q1⟩
        have hlb : pr.f2.z.length = pr.f2.l := RB.out.length
        have hbd : l + pr.f2.l ≤ 1048576 := by
          have h1 := HLE2.out
          rw [ST.out, if_pos hq.out, List.length_append, HOC.out] at h1
          have h2 : pr.val.f2.length = pr.f2.l := hlb
          omega
        have HLB := Lib.hid hlb
        clear hlb
        go_wp2_with (first
          | ((with_reducible change wpList _ _ _ (Oper.mk (some 30) _ _ _ _ _ :: _) _ _); refine wpList_load_mid (by rfl) 103 (.tmp 29) (by rfl) b1 (o1 + k * 4) (by rfl) (EventR.cells pe) _ RR.out Try.underlying103 rfl (by kernel_rfl) ?_; simp only [Act.put, List.setIfInBounds_toArray, List.set_cons_zero, List.set_cons_succ])
          | ((with_reducible change wpList _ _ _ (Oper.mk none (Op.store 103 _ _) _ _ _ _ :: _) _ _); refine setBox_list _ rfl 103 _ _ rfl (wr.heap.size) 103 _ #[.int .i64 pe.f0, .int .i64 pe.f1, .int .i64 pe.f2, .slice pe.f3.a pe.f3.l pe.f3.c] (Box.new wr 103 #[.int .i64 0, .int .i64 0, .int .i64 0, .slice none 0 0]) (by rfl) (by rfl) (by kernel_rfl) (by rfl) (by simp [Value.oneCell']) ?_; intro w9 x9 g9; have bz := (((Below.refl wr.heap.size wr).alloc (Nat.le_refl _) (.cells #[.int .i64 0, .int .i64 0, .int .i64 0, .slice none 0 0] 103)).grown g9 (by simp) (fun k e => by cases e; exact Nat.le_refl _)); have c0 := x9.cell 0; have c1 := x9.cell 1; have c2 : w9.cell? ⟨b2, o2 + k * 3 + 2, none⟩ = some (.slice pr.f2.a pr.f2.l pr.f2.c) := keepB' bz C2.out; have x3 := keepB' bz X3.out; have RB9 := Lib.hid (RB.out.below bz); have ho9 := Lib.hid (ho.out.below bz); have hd9 := Lib.hid (hd.out.trans (bz.mono hsn)); clear x9 g9 bz)
          | (at_builtin; refine append_bytes _ rfl (.tmp 40) (.tmp 46) rfl n2 _ _ _ _ rfl ho9.out _ _ _ _ rfl RB9.out (by have := hd9.out.size; have := HN2.out; omega) (by omega) ?_; intro a' c' w' o' g'; have P' := Lib.hid o'; have D' := Lib.hid (hd9.out.grown g' (by have := hd9.out.size; have := HN2.out; omega) (fun q e => own_blk ho9.out q e)); clear o' g' c0 c1 c2 x3 BB YY))
        go_roundw
        case rel => exact ⟨k + 1, l + pr.f2.l, c', a', zs ++ pr.f2.z, by omega, by go_num, rfl, hbd, by simp only [Hid]; rw [ST.out, if_pos hq.out]; rfl, P'.out, D'.out⟩
        case measure => simp [intOf]; omega
      · have hq : Hid (¬ brQ s pe.val = true) := q
        rw [Bool.and_eq_true] at q
        by_cases q0 : (pe.f0 == 3) = true
        · have q1 : (pe.f1 == s) = false := by
            have : ¬ (pe.f1 == s) = true := fun h => q ⟨q0, h⟩
            simpa using this
          clear q
          go_wp2_with (first
          | ((with_reducible change wpList _ _ _ (Oper.mk (some 30) _ _ _ _ _ :: _) _ _); refine wpList_load_mid (by rfl) 103 (.tmp 29) (by rfl) b1 (o1 + k * 4) (by rfl) (EventR.cells pe) _ RR.out Try.underlying103 rfl (by kernel_rfl) ?_; simp only [Act.put, List.setIfInBounds_toArray, List.set_cons_zero, List.set_cons_succ])
          | ((with_reducible change wpList _ _ _ (Oper.mk none (Op.store 103 _ _) _ _ _ _ :: _) _ _); refine setBox_list _ rfl 103 _ _ rfl (wr.heap.size) 103 _ #[.int .i64 pe.f0, .int .i64 pe.f1, .int .i64 pe.f2, .slice pe.f3.a pe.f3.l pe.f3.c] (Box.new wr 103 #[.int .i64 0, .int .i64 0, .int .i64 0, .slice none 0 0]) (by rfl) (by rfl) (by kernel_rfl) (by rfl) (by simp [Value.oneCell']) ?_; intro w9 x9 g9; have bz := (((Below.refl wr.heap.size wr).alloc (Nat.le_refl _) (.cells #[.int .i64 0, .int .i64 0, .int .i64 0, .slice none 0 0] 103)).grown g9 (by simp) (fun k e => by cases e; exact Nat.le_refl _)); have c0 := x9.cell 0; have c1 := x9.cell 1; have c2 : w9.cell? ⟨b2, o2 + k * 3 + 2, none⟩ = some (.slice pr.f2.a pr.f2.l pr.f2.c) := keepB' bz C2.out; have x3 := keepB' bz X3.out; have RB9 := Lib.hid (RB.out.below bz); have ho9 := Lib.hid (ho.out.below bz); have hd9 := Lib.hid (hd.out.trans (bz.mono hsn)); clear x9 g9 bz))
          go_roundw
          case rel => exact ⟨k + 1, l, c, a, zs, by omega, by go_num, rfl, hl, by simp only [Hid]; rw [ST.out, if_neg hq.out, List.append_nil], ho9.out, hd9.out⟩
          case measure => simp [intOf]; omega
        · have q0 : (pe.f0 == 3) = false := by simpa using q0
          clear q
          go_wp2_with (first
          | ((with_reducible change wpList _ _ _ (Oper.mk (some 30) _ _ _ _ _ :: _) _ _); refine wpList_load_mid (by rfl) 103 (.tmp 29) (by rfl) b1 (o1 + k * 4) (by rfl) (EventR.cells pe) _ RR.out Try.underlying103 rfl (by kernel_rfl) ?_; simp only [Act.put, List.setIfInBounds_toArray, List.set_cons_zero, List.set_cons_succ])
          | ((with_reducible change wpList _ _ _ (Oper.mk none (Op.store 103 _ _) _ _ _ _ :: _) _ _); refine setBox_list _ rfl 103 _ _ rfl (wr.heap.size) 103 _ #[.int .i64 pe.f0, .int .i64 pe.f1, .int .i64 pe.f2, .slice pe.f3.a pe.f3.l pe.f3.c] (Box.new wr 103 #[.int .i64 0, .int .i64 0, .int .i64 0, .slice none 0 0]) (by rfl) (by rfl) (by kernel_rfl) (by rfl) (by simp [Value.oneCell']) ?_; intro w9 x9 g9; have bz := (((Below.refl wr.heap.size wr).alloc (Nat.le_refl _) (.cells #[.int .i64 0, .int .i64 0, .int .i64 0, .slice none 0 0] 103)).grown g9 (by simp) (fun k e => by cases e; exact Nat.le_refl _)); have c0 := x9.cell 0; have c1 := x9.cell 1; have c2 : w9.cell? ⟨b2, o2 + k * 3 + 2, none⟩ = some (.slice pr.f2.a pr.f2.l pr.f2.c) := keepB' bz C2.out; have x3 := keepB' bz X3.out; have RB9 := Lib.hid (RB.out.below bz); have ho9 := Lib.hid (ho.out.below bz); have hd9 := Lib.hid (hd.out.trans (bz.mono hsn)); clear x9 g9 bz))
          go_roundw
          case rel => exact ⟨k + 1, l, c, a, zs, by omega, by go_num, rfl, hl, by simp only [Hid]; rw [ST.out, if_neg hq.out, List.append_nil], ho9.out, hd9.out⟩
          case measure => simp [intOf]; omega
    · obtain rfl : k = el := by omega
      have hzz : Hid (zs = Z) := by
        have h1 := hz.out
        rw [List.take_of_length_le (by rw [List.length_map, HLE.out]; exact Nat.le_refl _), List.take_of_length_le (by rw [List.length_map, HLR.out]; exact Nat.le_refl _), ← HZ.out] at h1
        exact h1
      have hzl2 : Z.length = l := by rw [← hzz.out]; exact ho.out.length
      have HZL := Lib.hid hzl2
      clear hz hzl2
      by_cases hbig : 700 < l
      · have hV2 : Hid (V = ⟨2, []⟩) := hV1.out.1 (by rw [HZL.out]; exact hbig)
        have y0 := YY.out.cell 0
        have y1 := YY.out.cell 1
        have f0' := YY.out.frozen 0
        have f1' := YY.out.frozen 1
        go_wp2
        have Z9 := ((YY.out.putK 0 (.int .i64 2)).putK 1 (.slice none 0 0))
        have B9 := (BB.out.setCell (p := ⟨w.heap.size + 1, 0, none⟩) (show w.heap.size ≤ w.heap.size + 1 by omega) (.int .i64 2)).setCell (p := ⟨w.heap.size + 1, 1, none⟩) (show w.heap.size ≤ w.heap.size + 1 by omega) (.slice none 0 0)
        refine bodyPost_ret (results_cell_row Try.results25 _ _ _ _ _ _ _ rfl Z9 Try.underlying53 rfl (by kernel_rfl)) rfl (brOut (Nat.le_refl _) (Own.nil _ _) B9 hV2.out)
      · have hV2 : Hid (V = ⟨0, zs⟩) := by rw [hzz.out]; exact hV1.out.2 (by rw [HZL.out]; exact hbig)
        have hnb : ¬ (700 : Int) < (l : Int) := by omega
        have y0 := YY.out.cell 0
        have y1 := YY.out.cell 1
        have f0' := YY.out.frozen 0
        have f1' := YY.out.frozen 1
        go_wp2
        have Z9 := ((YY.out.putK 0 (.int .i64 0)).putK 1 (.slice a l c))
        have B9 := (BB.out.setCell (p := ⟨w.heap.size + 1, 0, none⟩) (show w.heap.size ≤ w.heap.size + 1 by omega) (.int .i64 0)).setCell (p := ⟨w.heap.size + 1, 1, none⟩) (show w.heap.size ≤ w.heap.size + 1 by omega) (.slice a l c)
        have o9 := (ho.out.setOther ⟨w.heap.size + 1, 0, none⟩ (.int .i64 0) (by rintro x hx; have := (ho.out.lt x hx).1; dsimp only; omega)).setOther ⟨w.heap.size + 1, 1, none⟩ (.slice a l c) (by rintro x hx; have := (ho.out.lt x hx).1; dsimp only; omega)
        refine bodyPost_ret (results_cell_row Try.results25 _ _ _ _ _ _ _ rfl Z9 Try.underlying53 rfl (by kernel_rfl)) rfl (brOut (by omega) o9 B9 hV2.out)

theorem exactBytesRead (p : PairR) (x : Lt EventR) (s : Int) (w : World) (h : PairR.ok w p) (h' : Lt.ok EventR.md w x) :
    Calls Try.prog 4 #[.agg (PairR.cells p).toArray, .slice x.a x.l x.c, .int .i64 s] w fun e w' => e = .returned (.bool true) ∧ Below w.heap.size w w' := by
  exact exactBytesRead_of p x s (brV s (x.rs.map EventR.val) p.val.f3) w h h' (fun _ _ => brV_wt _ _ _)
    (fun hp _ W q0 q1 o0 v0 o1 v1 => by
      have e : p.val.f3 = q0.f3.rs.map ReplyR.val := by rw [← v0]; rfl
      rw [e, ← v1]
      exact specBytesRead q0 q1 s W o0 o1 (by rw [v0]; exact hp))
    (fun hp _ W q0 q1 o0 v0 o1 v1 => by
      have e : p.val.f3 = q0.f3.rs.map ReplyR.val := by rw [← v0]; rfl
      rw [e, ← v1]
      exact implBytesRead q0 q1 s W o0 o1 (by rw [v0]; exact hp))
end Go.Proofs.Ytbngdenlplbjhaa
