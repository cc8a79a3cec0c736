/-
  DrawReadSegment.
-/
import Derived.Test.YteaiemckcepphaaSgDS
import Derived.Test.YteaiemckcepphaaMD
namespace Go.Proofs.Yteaiemckcepphaa
open Go.ChangeShapes Go.WideShapes Go.ChangeAt Go.RowKit

theorem DT.none {w W : World} {b t : Nat} {a : Option Addr} {len cap : Nat} {zs : List Int} {bl : List Bx} {sl : List Sl} (h : DT w W b t a len cap zs bl sl) : DT w W b t a len cap zs bl [] := ⟨h.src, h.bel, h.lo, h.bx, fun _ hs => (by cases hs), h.rd⟩
/-- the bytes of the one slice are turned -/
theorem DT.write {w W W' : World} {b t : Nat} {a : Option Addr} {len cap : Nat} {zs : List Int} {bl : List Bx} {s : Sl} {ys : List Int} (h : DT w W b t a len cap zs bl [s]) (hu : ∀ x ∈ bl, x.t ≠ 5) (hg : W.grownBy W' ((Value.slice s.a s.len s.cap).ownBlock)) (o : Own W' w.heap.size s.a s.len s.cap ys) : DT w W' b t a len cap zs bl [⟨s.a, s.len, s.cap, ys⟩] := by
  have hs := h.own s (List.mem_cons_self ..)
  have hb : Below w.heap.size w W' := h.bel.grown hg h.bel.size (fun k e => own_row hs.1 k e)
  have hne : ∀ k, (Value.slice s.a s.len s.cap).ownBlock = Option.some k → ∃ y, s.a = Option.some y ∧ y.block = k := fun k e => by
    cases hsa : s.a with
    | none => rw [hsa] at e; simp [Value.ownBlock] at e
    | some y => rw [hsa] at e; simp [Value.ownBlock] at e; exact ⟨y, rfl, e⟩
  refine ⟨⟨h.src.box.grown hg (fun e => ?_), h.rd.below hb, h.src.lt⟩, hb, h.lo, fun x hx => ⟨(h.bx x hx).1.grown hg (fun e => ?_), (h.bx x hx).2⟩, fun r hr => ?_, h.rd⟩
  · obtain ⟨y, hy, hk⟩ := hne b e.symm
    exact hs.2 y hy hk
  · obtain ⟨y, hy, hk⟩ := hne x.b e.symm
    have := hs.1
    rw [hy] at this
    exact this.ne_box (h.bx x hx).1 (hu x hx) hk
  · rcases List.mem_cons.1 hr with rfl | hr
    · exact ⟨o, hs.2⟩
    · cases hr

set_option maxRecDepth 20000 in
set_option maxHeartbeats 2000000 in
theorem l5Summed_any (f t : Int) (a : Option Addr) (len cap base : Nat) (zs : List Int) (w : World) (h : Own w base a len cap zs) (h0 : 0 ≤ f ∧ f < 281474976710656) (h1 : 0 ≤ t ∧ t < 281474976710656) (hl : len ≤ 1000000) :
    Calls Try.prog 67 #[.int .i64 f, .int .i64 t, .slice a len cap] w fun e w' => e = .returned (.slice a len cap) ∧ ∃ ys, Own w' base a len cap ys ∧ w.grownBy w' ((Value.slice a len cap).ownBlock) := by
  by_cases hs : len < 18
  · have e1 : decide ((len : Int) < 18) = true := decide_eq_true (by omega)
    have H := Lib.hid h
    clear h
    go_enter Try.func67, Try.ntmps67
    go_wp2
    go_ret
    exact ⟨rfl, zs, H.out, grown_of_below (Below.refl _ _) _⟩
  · have e1 : decide ((len : Int) < 18) = false := decide_eq_false (by omega)
    rcases h.shape with ⟨_, h0', _⟩ | ⟨g, rfl⟩
    · omega
    have hgl := (h.lt _ rfl)
    dsimp only at hgl
    have i16 : (16 : Int) < len := by omega
    have i17 : (17 : Int) < len := by omega
    have j16 := h.cellAt 16 (by omega)
    have f16 := h.frozenAt 16
    obtain ⟨o1, g1⟩ := h.set 16 0 (by omega)
    have j17 := o1.cellAt 17 (by omega)
    have f17 := o1.frozenAt 17
    obtain ⟨o2, g2⟩ := o1.set 17 0 (by omega)
    have G2 := Lib.hid (grown_trans g1 g2)
    have O2 := Lib.hid o2
    have KS := Lib.hid (fun W (hR : Rd W (some ⟨g, 0, none⟩) len cap ((zs.set 16 0).set 17 0)) => l4Sum_any f t 6 _ len cap _ W hR h0 h1 (by omega) (by omega))
    have hvb := sumV_bd (pseudoL f t 6 ((zs.set 16 0).set 17 0).length ++ ((zs.set 16 0).set 17 0))
    obtain ⟨v, hv⟩ : ∃ v, v = dgSum f t 6 ((zs.set 16 0).set 17 0) := ⟨_, rfl⟩
    have hv2 : 0 ≤ v ∧ v ≤ 65535 := by rw [hv]; exact hvb
    rw [← hv] at KS
    clear hvb hv o1 o2 g1 g2 h h0 h1
    go_enter Try.func67, Try.ntmps67
    go_wp2_with fail
    generalize (w.setCell ⟨g, 16, none⟩ (.int .u8 0)).setCell ⟨g, 17, none⟩ (.int .u8 0) = W2 at *
    clear j16 f16 j17 f17
    generalize (zs.set 16 0).set 17 0 = z2 at *
    refine (KS.out _ O2.out.rd).mono ?_
    rintro e w3 ⟨rfl, b3⟩
    have O3 := O2.out.below b3
    have G3 := Lib.hid (grown_trans G2.out (grown_of_below b3 (some g)))
    have j16 := O3.cellAt 16 (by omega)
    have f16 := O3.frozenAt 16
    obtain ⟨o4, g4⟩ := O3.set 16 (v / 256) (by omega)
    have j17 := o4.cellAt 17 (by omega)
    have f17 := o4.frozenAt 17
    obtain ⟨o5, g5⟩ := o4.set 17 (v % 256) (by omega)
    have O5 := Lib.hid o5
    have G5 := Lib.hid (grown_trans G3.out (grown_trans g4 g5))
    clear o4 o5 g4 g5 O3 O2 G2 G3 b3 KS
    go_wp2
    go_ret
    exact ⟨rfl, _, O5.out, G5.out⟩

/-- two numbers and bytes -/
def SgRd2 (w : World) (e : Ending) (w' : World) : Prop :=
  ∃ (f t : Int) (a' : Option Addr) (n c' : Nat) (ys : List Int), e = .returned (.tuple #[.int .i64 f, .int .i64 t, .slice a' n c']) ∧ Rd w' a' n c' ys ∧ Below w.heap.size w w'
set_option maxRecDepth 20000 in
set_option maxHeartbeats 8000000 in
theorem drawReadSegment (a : Option Addr) (len cap : Nat) (zs : List Int) (w : World) (hr : Rd w a len cap zs) (hl : len ≤ 1048576) :
    Calls Try.prog 15 #[.slice a len cap] w (SgRd2 w) := by
  have htU : 25 ≠ 5 := by decide
  have HR := Lib.hid hr
  clear hr
  go_enter Try.func15, Try.ntmps15
  go_wp2_with fail
  refine (l1Later_any 3 a len cap zs _ HR.out (by omega)).mono ?_
  rintro e w2 ⟨rfl, s2, b2⟩
  have D2 := Lib.hid (DT.start (bl := []) HR.out s2 b2 (Nat.le_refl _) (fun x hx => by cases hx))
  clear s2 b2
  go_wp2_with fail
  refine (D2.out.bent (by omega) hl).mono ?_
  rintro e w3 ⟨f, rfl, lf, uf, d⟩
  have D3 := Lib.hid d
  clear d D2
  go_wp2_with fail
  refine (D3.out.bent (by omega) hl).mono ?_
  rintro e w4 ⟨t, rfl, lt, ut, d⟩
  have D4 := Lib.hid d
  clear d D3
  cases m0 : ipB f
  · go_wp2_with (go_at_call 60; refine (l2Ip_any _ _).mono ?_; rintro e w' ⟨rfl, rfl⟩)
    refine (D4.out.some 24 (by omega) hl).mono ?_
    rintro e w5 ⟨aq, cq, yq, rfl, d⟩
    have D5 := Lib.hid d
    clear d D4
    go_wp2
    exact bodyPost_ret (v := .tuple #[.int .i64 f, .int .i64 t, .slice aq 24 cq]) (by simp [results, Try.results15, go_sem]) rfl ⟨f, t, _, _, _, _, rfl, (D5.out.own _ (List.mem_cons_self ..)).1.rd, D5.out.bel⟩
  cases m1 : ipB t
  · go_wp2_with (go_at_call 60; refine (l2Ip_any _ _).mono ?_; rintro e w' ⟨rfl, rfl⟩)
    refine (D4.out.some 24 (by omega) hl).mono ?_
    rintro e w5 ⟨aq, cq, yq, rfl, d⟩
    have D5 := Lib.hid d
    clear d D4
    go_wp2
    exact bodyPost_ret (v := .tuple #[.int .i64 f, .int .i64 t, .slice aq 24 cq]) (by simp [results, Try.results15, go_sem]) rfl ⟨f, t, _, _, _, _, rfl, (D5.out.own _ (List.mem_cons_self ..)).1.rd, D5.out.bel⟩
  have k0 := ipB_bd m0
  have k1 := ipB_bd m1
  go_wp2_with (go_at_call 60; refine (l2Ip_any _ _).mono ?_; rintro e w' ⟨rfl, rfl⟩)
  refine (l5Draw_any _ _ a len cap zs _ D4.out.src (by omega) hl).mono ?_
  rintro e w5 ⟨x, a2, n2, c2, ys2, t2, rfl, hn, hn2, ht2, d⟩
  have D5 := Lib.hid (D4.out.drawn d)
  clear d D4
  have D6 := Lib.hid (D5.out.push 25 #[.int .i64 x.f, .int .i64 x.t, .int .i64 x.s, .int .i64 x.a, .int .i64 x.g, .int .i64 x.w, .int .i64 x.m, .slice a2 n2 c2])
  clear D5
  go_wp2_with fail
  generalize w5.alloc (.cells #[.int .i64 x.f, .int .i64 x.t, .int .i64 x.s, .int .i64 x.a, .int .i64 x.g, .int .i64 x.w, .int .i64 x.m, .slice a2 n2 c2] 25) = w6 at *
  generalize w5.heap.size = u at *
  refine (l5Pack_any f t u x a2 n2 c2 ys2 w6 (D6.out.bx _ (List.mem_cons_self ..)).1 (D6.out.own _ (List.mem_cons_self ..)).1.rd (by omega) (by omega) hn (by omega)).mono ?_
  rintro e w7 ⟨a3, l3, c3, rfl, o3, b7⟩
  have h3 : 20 ≤ l3 ∧ l3 ≤ 34 := by have := o3.length; rw [sgL_len, sgO_len] at this; have := (D6.out.own _ (List.mem_cons_self ..)).1.length; simp only at this; split at * <;> omega
  have D7 := Lib.hid (((D6.out.below b7).none).give (s := ⟨a3, l3, c3, sgL f t x ys2⟩) (o3.rebase D6.out.bel.size) (fun y hy => by have := (o3.lt y hy).1; have := D6.out.src.box.lt; omega))
  clear o3 b7 D6 hn
  generalize sgL f t x ys2 = z3 at *
  rcases (D7.out.own _ (List.mem_cons_self ..)).1.shape with ⟨_, h0, _⟩ | ⟨g, hg⟩
  · simp only at h0; omega
  simp only at hg
  subst hg
  go_wp2_with fail
  refine (D7.out.next 9 (by omega) hl (by omega)).mono ?_
  rintro e w8 ⟨k, rfl, lk, uk, d⟩
  have D8 := Lib.hid d
  clear d D7
  by_cases k0' : k = 0
  · subst k0'
    have K := Lib.hid (l1Spoil_any _ _ g w.heap.size a len cap zs l3 c3 w.heap.size z3 w8 D8.out.src (D8.out.own _ (List.mem_cons_self ..)).1 ((D8.out.own _ (List.mem_cons_self ..)).2 _ rfl) D8.out.lo (Nat.le_refl _) (by omega) (by omega) (by omega) hl)
    go_wp2_with fail
    refine K.out.mono ?_
    rintro e w9 ⟨a9, n9, c9, ys9, rfl, hn9, r9, b9⟩
    have R9 := Lib.hid r9
    have B9 := Lib.hid (D8.out.bel.trans b9)
    clear r9 b9 K D8
    go_wp2
    exact bodyPost_ret (v := .tuple #[.int .i64 f, .int .i64 t, .slice a9 n9 c9]) (by simp [results, Try.results15, go_sem]) rfl ⟨f, t, _, _, _, _, rfl, R9.out, B9.out⟩
  have e0 : (k == 0) = false := by simpa using k0'
  by_cases k1 : k = 1
  · subst k1
    have K := Lib.hid (D8.out.pick (n := 5) [64, 80, 96, 112, 240] (64) (240) rfl rfl (by intro y hy; simp only [List.mem_cons, List.not_mem_nil, or_false] at hy; omega) (by omega) (by omega) (by omega) hl)
    go_wp2_with fail
    refine K.out.mono ?_
    rintro e w9 ⟨v, rfl, lv, uv, d⟩
    have D9 := Lib.hid d
    clear d K D8
    have uv := u8_in v (by omega)
    have o := (D9.out.own _ (List.mem_cons_self ..)).1
    simp only at o
    have j12 := o.cellAt 12 (by omega)
    have f12 := o.frozenAt 12
    have i12 : (12 : Int) < l3 := by omega
    obtain ⟨o', g'⟩ := o.set 12 v (by omega)
    have D10 := Lib.hid (D9.out.write (by intro z hz; simp only [List.mem_cons, List.not_mem_nil, or_false] at hz; subst hz; exact htU) (show w9.grownBy _ _ from g') o')
    clear o o' g' D9
    generalize hW : w9.setCell ⟨g, 12, none⟩ (.int .u8 v) = w10 at *
    generalize (z3).set 12 v = z4 at *
    have K := Lib.hid (l5Summed_any f t (some ⟨g, 0, none⟩) l3 c3 w.heap.size z4 w10 (D10.out.own _ (List.mem_cons_self ..)).1 (by omega) (by omega) (by omega))
    go_wp2_with fail
    try clear hW
    refine K.out.mono ?_
    rintro e w11 ⟨rfl, zs', o', g'⟩
    have D11 := Lib.hid (D10.out.write (by intro z hz; simp only [List.mem_cons, List.not_mem_nil, or_false] at hz; subst hz; exact htU) g' o')
    clear o' g' K D10
    go_wp2
    exact bodyPost_ret (v := .tuple #[.int .i64 f, .int .i64 t, .slice (some ⟨g, 0, none⟩) l3 c3]) (by simp [results, Try.results15, go_sem]) rfl ⟨f, t, _, _, _, _, rfl, (D11.out.own _ (List.mem_cons_self ..)).1.rd, D11.out.bel⟩
  have e1 : (k == 1) = false := by simpa using k1
  by_cases k2 : k = 2
  · subst k2
    have K := Lib.hid (D8.out.pick (n := 4) [1, 0, 2, 3] (0) (3) rfl rfl (by intro y hy; simp only [List.mem_cons, List.not_mem_nil, or_false] at hy; omega) (by omega) (by omega) (by omega) hl)
    go_wp2_with fail
    refine K.out.mono ?_
    rintro e w9 ⟨v, rfl, lv, uv, d⟩
    have D9 := Lib.hid d
    clear d K D8
    have K := Lib.hid (D9.out.pick (n := 4) [1, 2, 3, 4] (1) (4) rfl rfl (by intro y hy; simp only [List.mem_cons, List.not_mem_nil, or_false] at hy; omega) (by omega) (by omega) (by omega) hl)
    go_wp2_with fail
    refine K.out.mono ?_
    rintro e w10 ⟨v2, rfl, lv2, uv2, d⟩
    have D10 := Lib.hid d
    clear d K D9
    have uv := u8_in v (by omega)
    have uv2 := u8_in v2 (by omega)
    have D11 := Lib.hid (D10.out.alloc (.cells #[.int .u8 1, .int .u8 v, .int .u8 v2, .int .u8 0, .int .u8 2, .int .u8 4, .int .u8 1, .int .u8 1] 5))
    have hgl := ((D10.out.own _ (List.mem_cons_self ..)).1.lt _ rfl).2
    dsimp only at hgl
    have L8 : Own (w10.alloc (.cells #[.int .u8 1, .int .u8 v, .int .u8 v2, .int .u8 0, .int .u8 2, .int .u8 4, .int .u8 1, .int .u8 1] 5)) w10.heap.size (some ⟨w10.heap.size, 0, none⟩) 8 8 [1, v, v2, 0, 2, 4, 1, 1] := ⟨World.ownsRow_lit w10 #[.int .u8 1, .int .u8 v, .int .u8 v2, .int .u8 0, .int .u8 2, .int .u8 4, .int .u8 1, .int .u8 1] 8 (Nat.le_refl _) (by unfold maxLen; omega) rfl, by intro n hn; simp at hn; omega⟩
    have L8s := Lib.hid (L8.setOther ⟨g, 12, none⟩ (.int .u8 112) (by rintro y hy; cases hy; simp only; omega))
    clear D10 L8
    generalize hw : w10.alloc (.cells #[.int .u8 1, .int .u8 v, .int .u8 v2, .int .u8 0, .int .u8 2, .int .u8 4, .int .u8 1, .int .u8 1] 5) = w11 at *
    have o := (D11.out.own _ (List.mem_cons_self ..)).1
    simp only at o
    have j12 := o.cellAt 12 (by omega)
    have f12 := o.frozenAt 12
    have i12 : (12 : Int) < l3 := by omega
    obtain ⟨o', g'⟩ := o.set 12 112 (by omega)
    have D12 := Lib.hid (D11.out.write (by intro z hz; simp only [List.mem_cons, List.not_mem_nil, or_false] at hz; subst hz; exact htU) (show w11.grownBy _ _ from g') o')
    clear o o' g' D11
    generalize hW : w11.setCell ⟨g, 12, none⟩ (.int .u8 112) = w12 at *
    generalize (z3).set 12 112 = z5 at *
    have RL := Lib.hid (show ∀ W, Below w12.heap.size w12 W → Rd W (some ⟨w10.heap.size, 0, none⟩) 8 8 [1, v, v2, 0, 2, 4, 1, 1] from fun W hW => (L8s.out.below hW).rd)
    by_cases hc20 : c3 = 20
    · obtain rfl : c3 = 20 := hc20
      obtain rfl : l3 = 20 := by have := (D12.out.own _ (List.mem_cons_self ..)).1.max; simp only at this; omega
      have O12 := (D12.out.own _ (List.mem_cons_self ..)).1
      simp only at O12
      have RT := Lib.hid (show ∀ W, Below w12.heap.size w12 W → Rd W (some ⟨g, 0, none⟩) 0 0 (z5.drop 20) from fun W hW => by have q := (O12.below hW).rd.fromIf 20 (by omega); simpa using q)
      have RC := Lib.hid (show ∀ W, Below w12.heap.size w12 W → Rd W (some ⟨g, 0, none⟩) 20 20 (z5.take 20) from fun W hW => (O12.below hW).rd.upto 20 (by omega))
      clear O12
      have T0 := Lib.hid ((Below.refl w12.heap.size w12).drew)
      go_wp2_with fail
      clear hW
      go_region_held3 (fun W => True) (first | go_keep | trivial)
        (first
          | (have q := P2; clear q; refine append_step _ rfl (.tmp 70) (.tmp 72) rfl w12.heap.size _ _ _ _ rfl P2.out _ _ _ _ rfl (RT.out _ T2.out) T2.out.size (by omega) ?_; intro aE cE wE oE hb; have P3 := Lib.hid oE; have T3 := Lib.hid (T2.out.trans hb))
          | (have q := P1; clear q; refine append_step _ rfl (.tmp 68) (.tmp 69) rfl w12.heap.size _ _ _ _ rfl P1.out _ _ _ _ rfl (RL.out _ T1.out) T1.out.size (by omega) ?_; intro aF cF wF oF hb; have P2 := Lib.hid oF; have T2 := Lib.hid (T1.out.trans hb))
          | (go_at_call 68; refine (l1Copy_any _ _ _ _ _ (RC.out _ T0.out) (by omega)).mono ?_; rintro e wG ⟨aG, cG, rfl, oG, bG⟩; have P1 := Lib.hid oG; have hb := bG; have T1 := Lib.hid (T0.out.trans hb)))
      have D13 := Lib.hid ((D12.out.below T3.out).none.give (s := ⟨aE, _, cE, _⟩) (P3.out.rebase D12.out.bel.size) (fun y hy => by have := (P3.out.lt y hy).1; have := D12.out.src.box.lt; omega))
      clear D12 T0 T1 T2 T3 P1 P2 P3 RT RC RL oE oF oG bG hb
      have K := Lib.hid (l5Summed_any f t aE _ cE w.heap.size _ wE (D13.out.own _ (List.mem_cons_self ..)).1 (by omega) (by omega) (by simp only; omega))
      go_wp2_with fail
      refine K.out.mono ?_
      rintro e w14 ⟨rfl, zs', o', g'⟩
      have D14 := Lib.hid (D13.out.write (by intro z hz; simp only [List.mem_cons, List.not_mem_nil, or_false] at hz; subst hz; exact htU) g' o')
      clear o' g' K D13
      go_wp2
      exact bodyPost_ret (v := .tuple #[.int .i64 f, .int .i64 t, .slice aE _ cE]) (by simp [results, Try.results15, go_sem]) rfl ⟨f, t, _, _, _, _, rfl, (D14.out.own _ (List.mem_cons_self ..)).1.rd, D14.out.bel⟩
    · have O12 := (D12.out.own _ (List.mem_cons_self ..)).1
      simp only at O12
      have RT := Lib.hid (show ∀ W, Below w12.heap.size w12 W → Rd W (some ⟨g, 20, none⟩) (l3 - 20) (c3 - 20) (z5.drop 20) from fun W hW => by simpa using (O12.below hW).rd.from 20 _ _ _ (by omega) rfl rfl rfl)
      have RC := Lib.hid (show ∀ W, Below w12.heap.size w12 W → Rd W (some ⟨g, 0, none⟩) 20 c3 (z5.take 20) from fun W hW => (O12.below hW).rd.upto 20 (by omega))
      clear O12
      have i20 : (20 : Int) ≤ l3 := by omega
      have i20c : (20 : Int) ≤ c3 := by have := (D12.out.own _ (List.mem_cons_self ..)).1.max; simp only at this; omega
      have T0 := Lib.hid ((Below.refl w12.heap.size w12).drew)
      go_wp2_with fail
      clear hW
      go_region_held3 (fun W => True) (first | go_keep | trivial)
        (first
          | (have q := P2; clear q; refine append_step _ rfl (.tmp 70) (.tmp 72) rfl w12.heap.size _ _ _ _ rfl P2.out _ _ _ _ rfl (RT.out _ T2.out) T2.out.size (by omega) ?_; intro aE cE wE oE hb; have P3 := Lib.hid oE; have T3 := Lib.hid (T2.out.trans hb))
          | (have q := P1; clear q; refine append_step _ rfl (.tmp 68) (.tmp 69) rfl w12.heap.size _ _ _ _ rfl P1.out _ _ _ _ rfl (RL.out _ T1.out) T1.out.size (by omega) ?_; intro aF cF wF oF hb; have P2 := Lib.hid oF; have T2 := Lib.hid (T1.out.trans hb))
          | (go_at_call 68; refine (l1Copy_any _ _ _ _ _ (RC.out _ T0.out) (by omega)).mono ?_; rintro e wG ⟨aG, cG, rfl, oG, bG⟩; have P1 := Lib.hid oG; have hb := bG; have T1 := Lib.hid (T0.out.trans hb)))
      have D13 := Lib.hid ((D12.out.below T3.out).none.give (s := ⟨aE, _, cE, _⟩) (P3.out.rebase D12.out.bel.size) (fun y hy => by have := (P3.out.lt y hy).1; have := D12.out.src.box.lt; omega))
      clear D12 T0 T1 T2 T3 P1 P2 P3 RT RC RL oE oF oG bG hb
      have K := Lib.hid (l5Summed_any f t aE _ cE w.heap.size _ wE (D13.out.own _ (List.mem_cons_self ..)).1 (by omega) (by omega) (by simp only; omega))
      go_wp2_with fail
      refine K.out.mono ?_
      rintro e w14 ⟨rfl, zs', o', g'⟩
      have D14 := Lib.hid (D13.out.write (by intro z hz; simp only [List.mem_cons, List.not_mem_nil, or_false] at hz; subst hz; exact htU) g' o')
      clear o' g' K D13
      go_wp2
      exact bodyPost_ret (v := .tuple #[.int .i64 f, .int .i64 t, .slice aE _ cE]) (by simp [results, Try.results15, go_sem]) rfl ⟨f, t, _, _, _, _, rfl, (D14.out.own _ (List.mem_cons_self ..)).1.rd, D14.out.bel⟩
  have e2 : (k == 2) = false := by simpa using k2
  by_cases k3 : k = 3
  · subst k3
    have o := (D8.out.own _ (List.mem_cons_self ..)).1
    simp only at o
    have j0 := o.cellAt 0 (by omega)
    have f0 := o.frozenAt 0
    have i0 : (0 : Int) < l3 := by omega
    obtain ⟨o', g'⟩ := o.set 0 0 (by omega)
    have D9 := Lib.hid (D8.out.write (by intro z hz; simp only [List.mem_cons, List.not_mem_nil, or_false] at hz; subst hz; exact htU) (show w8.grownBy _ _ from g') o')
    clear o o' g' D8
    generalize hW : w8.setCell ⟨g, 0, none⟩ (.int .u8 0) = w9 at *
    generalize (z3).set 0 0 = z4 at *
    skip
    have o := (D9.out.own _ (List.mem_cons_self ..)).1
    simp only at o
    have j1 := o.cellAt 1 (by omega)
    have f1 := o.frozenAt 1
    have i1 : (1 : Int) < l3 := by omega
    obtain ⟨o', g'⟩ := o.set 1 0 (by omega)
    have D10 := Lib.hid (D9.out.write (by intro z hz; simp only [List.mem_cons, List.not_mem_nil, or_false] at hz; subst hz; exact htU) (show w9.grownBy _ _ from g') o')
    clear o o' g' D9
    generalize hW : w9.setCell ⟨g, 1, none⟩ (.int .u8 0) = w10 at *
    generalize (z4).set 1 0 = z5 at *
    have K := Lib.hid (l5Summed_any f t (some ⟨g, 0, none⟩) l3 c3 w.heap.size z5 w10 (D10.out.own _ (List.mem_cons_self ..)).1 (by omega) (by omega) (by omega))
    go_wp2_with fail
    try clear hW
    refine K.out.mono ?_
    rintro e w11 ⟨rfl, zs', o', g'⟩
    have D11 := Lib.hid (D10.out.write (by intro z hz; simp only [List.mem_cons, List.not_mem_nil, or_false] at hz; subst hz; exact htU) g' o')
    clear o' g' K D10
    go_wp2
    exact bodyPost_ret (v := .tuple #[.int .i64 f, .int .i64 t, .slice (some ⟨g, 0, none⟩) l3 c3]) (by simp [results, Try.results15, go_sem]) rfl ⟨f, t, _, _, _, _, rfl, (D11.out.own _ (List.mem_cons_self ..)).1.rd, D11.out.bel⟩
  have e3 : (k == 3) = false := by simpa using k3
  go_wp2
  exact bodyPost_ret (v := .tuple #[.int .i64 f, .int .i64 t, .slice (some ⟨g, 0, none⟩) l3 c3]) (by simp [results, Try.results15, go_sem]) rfl ⟨f, t, _, _, _, _, rfl, (D8.out.own _ (List.mem_cons_self ..)).1.rd, D8.out.bel⟩
end Go.Proofs.Yteaiemckcepphaa
