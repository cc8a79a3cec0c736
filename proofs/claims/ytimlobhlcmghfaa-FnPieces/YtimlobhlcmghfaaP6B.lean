/-
  l6Put of the model.
-/
import Derived.Test.YtimlobhlcmghfaaP6D
import Derived.StillTailTactics
import Derived.Test.YtimlobhlcmghfaaAppR
namespace Go.Proofs.Ytimlobhlcmghfaa
open Go.ChangeShapes Go.WideShapes Go.ChangeAt Go.RowKit

theorem take_pc {vs : List (Int × List Int)} {j : Nat} {v : Int × List Int} (h : vs[j]? = some v) (f : Nat → Option Int) : layAll f ((vs.take (j + 1)).map toPc) = lay (layAll f ((vs.take j).map toPc)) v.1.toNat v.2 v.2.length := by
  rw [List.take_add_one, h, Option.toList_some, List.map_append, layAll_app]
  rfl

theorem byteAt_mem {ps : List Pc} {n : Nat} {b : Int} (h : byteAt ps n = some b) : ∃ p ∈ ps, b ∈ p.d := by
  induction ps with
  | nil => cases h
  | cons p ps ih =>
    rw [byteAt] at h
    split at h
    · exact ⟨p, List.mem_cons_self .., List.mem_of_getElem? h⟩
    · obtain ⟨q, hq, hb⟩ := ih h
      exact ⟨q, List.mem_cons_of_mem _ hq, hb⟩
theorem HA.made {w w1 w2 : World} (hB : Below w.heap.size w w1) (h1 : w1.ownsRow w.heap.size 4 1 (.slice (some ⟨w.heap.size, 0, none⟩) 2000 2000) 2000 (madeCells (Value.bool false).cells (2000 * 1)).toList)
    (h2 : w2.ownsRow w1.heap.size 5 1 (.slice (some ⟨w1.heap.size, 0, none⟩) 2000 2000) 2000 (madeCells (Value.int .u8 0).cells (2000 * 1)).toList) (hg : w1.grownBy w2 none) : HA w2 w.heap.size w.heap.size w1.heap.size noneF := by
  have hlt := (h1.lt w.heap.size rfl).2
  have h1' := h1.kept hg (.inr (by simp [Value.ownBlock]))
  have fz : ∀ {W : World} {bs g : Nat} {t : TypeId} {xs : List Value}, W.ownsRow bs t 1 (.slice (some ⟨g, 0, none⟩) 2000 2000) 2000 xs → Fz W (some ⟨g, 0, none⟩) := by
    intro W bs g t xs hh x hx
    cases hx
    rcases hh.2 with ⟨h', _⟩ | ⟨g', c, cur, h', _, h3, _⟩
    · simp at h'
    · simp only [Value.slice.injEq, Option.some.injEq, Addr.mk.injEq, true_and, and_true] at h'
      obtain ⟨rfl, _⟩ := h'
      exact ⟨_, _, h3⟩
  refine ⟨Nat.le_refl _, hB.size, Nat.ne_of_lt hlt, fz h1', fz h2, fun n hn => ?_, fun n hn => ?_⟩
  · rw [h1'.cellAt n (by omega)]
    have e : (madeCells (Value.bool false).cells (2000 * 1)).toList = List.replicate (2000 * 1) (.bool false) := toList_madeCells_one _ _
    rw [e, List.getElem?_replicate, if_pos (by omega)]
    rfl
  · rw [h2.cellAt n (by omega)]
    have e : (madeCells (Value.int .u8 0).cells (2000 * 1)).toList = List.replicate (2000 * 1) (.int .u8 0) := toList_madeCells_one _ _
    rw [e, List.getElem?_replicate, if_pos (by omega)]
    rfl

theorem append_bstep (w : World) {ops : Array Oper} {o : Oper} {ac : Act} {K : Act → World → Prop} {Q : Exit → Act → World → Prop} {E : Prop} (hgd : o.guard = none) (s x : Operand)
    (ho : o.op = .call { callee := .builtin .append, args := #[s, x], argTypes := #[22, 22] })
    (base : Nat) (a : Option Addr) (len cap : Nat) (zs : List Int) (hs : ac.eval s = .slice a len cap) (hown : Own w base a len cap zs)
    (b : Option Addr) (lb cb : Nat) (ys : List Int) (hx : ac.eval x = .slice b lb cb) (hr : Rd w b lb cb ys) (hb : base ≤ w.heap.size) (hsz : len + lb ≤ 1099511627776)
    (h : ∀ a' c' w', Own w' base a' (len + lb) c' (zs ++ ys) → w.grownBy w' (Value.slice a len cap).ownBlock → K (ac.put o.dst (.slice a' (len + lb) c')) w') :
    if Region.wanted o (yielded ops ac.tmps) = true then Oper.wp Try.prog o ac w K Q else E := by
  have hw : Region.wanted o (yielded ops ac.tmps) = true := by simp [Region.wanted, hgd]
  rw [if_pos hw]
  obtain ⟨a', c', w', hrun, ho', hg⟩ := run_append_bytes w o.type base a len cap zs hown b lb cb ys hr hb hsz
  unfold Oper.wp execOp
  simp only [ho, resolve, invoke, builtin, Sem.run_bind, Sem.run_pure, Result.andThen_ok, List.map_toArray, List.map_cons, List.map_nil, hs, hx, hrun]
  exact h a' c' w' ho' hg
/-- the bytes of pieces, where the last piece's lie behind all others' -/
def Dz (w : World) (lo : Nat) (qs : List Pm) : Prop := qs = [] ∨ ∃ D0 init q, qs = init ++ [q] ∧ lo ≤ D0 ∧ D0 ≤ w.heap.size ∧ Ds w lo D0 init ∧ Own w D0 q.a q.l q.c q.z
theorem Dz.ds {w : World} {lo : Nat} {qs : List Pm} (h : Dz w lo qs) : Ds w lo w.heap.size qs := by
  rcases h with rfl | ⟨D0, init, q, rfl, h1, h2, h3, h4⟩
  · exact Ds.nil _ _ _
  · exact h3.snoc q (h4.rebase h1) (fun y hy => (h4.lt y hy).1) h2
/-- one byte more behind the last piece, and its slice laid into its place -/
theorem Dz.push {W0 W w3 : World} {lo g D0 : Nat} {len cap : Nat} {init : List Pm} {q : Pm} {a3 : Option Addr} {c3 : Nat} {bt : Int} (hL : Lo W lo (some ⟨g, 0, none⟩) len cap (init ++ [q])) (hD : Ds W lo D0 init) (h1 : lo ≤ D0) (h2 : D0 ≤ W.heap.size) (ho : Own W D0 q.a q.l q.c q.z)
    (ho3 : Own w3 D0 a3 (q.l + 1) c3 (q.z ++ [bt])) (hg : W.grownBy w3 (Value.slice q.a q.l q.c).ownBlock) (hW0 : W0 = w3.setCell ⟨g, init.length * 2 + 1, none⟩ (.slice a3 (q.l + 1) c3)) :
    Lo W0 lo (some ⟨g, 0, none⟩) len cap (init ++ [⟨q.k, a3, q.l + 1, c3, q.z ++ [bt]⟩]) ∧ Dz W0 lo (init ++ [⟨q.k, a3, q.l + 1, c3, q.z ++ [bt]⟩]) := by
  have blk : ∀ k, k < W.heap.size → (∀ x, q.a = some x → x.block ≠ k) → w3.heap[k]? = W.heap[k]? := fun k hk hne => hg.block k hk (by
    intro e
    cases ha : q.a with
    | none => rw [ha] at e; simp [Value.ownBlock] at e
    | some x => rw [ha] at e; simp [Value.ownBlock] at e; exact hne x ha e.symm)
  have hL3 : Lo w3 lo (some ⟨g, 0, none⟩) len cap (init ++ [q]) := hL.same (fun x hx => by
    cases hx
    exact blk _ (hL.lt _ rfl).2 (fun x hx e => own_lo_ne ho hL hx rfl e))
  have hD3 : Ds w3 lo D0 init := hD.same (fun p hp x hx => blk _ ((hD.own p hp).1.lt x hx).2 (fun y hy e => by
    have := (hD.own p hp).2 x hx
    have := (ho.lt y hy).1
    omega))
  have hset : (init ++ [q]).set init.length ⟨q.k, a3, q.l + 1, c3, q.z ++ [bt]⟩ = init ++ [⟨q.k, a3, q.l + 1, c3, q.z ++ [bt]⟩] := by
    rw [List.set_append_right _ _ (Nat.le_refl _), Nat.sub_self, List.set_cons_zero]
  have hL0 := hL3.putD init.length q (by simp) a3 (q.l + 1) c3 (q.z ++ [bt])
  rw [hset] at hL0
  subst hW0
  refine ⟨hL0, .inr ⟨D0, init, _, rfl, h1, by rw [World.size_setCell]; exact Nat.le_trans h2 hg.size, hD3.grown hL3 (grown_setCell w3 _ _), ?_⟩⟩
  exact ho3.setOther _ _ (fun x hx e => own_lo_ne ho3 hL3 hx rfl e)
theorem rd_one {w : World} {bt : Int} (h : 0 ≤ bt ∧ bt ≤ 255) : Rd (w.alloc (.cells #[.int .u8 bt] 5)) (some ⟨w.heap.size, 0, none⟩) 1 1 [bt] :=
  Rd.of_box (Box.new w 5 #[.int .u8 bt]) rfl (by unfold maxLen; omega) (by intro n hn; simp at hn; omega) (fun i hi => by obtain rfl : i = 0 := by omega
                                                                                                                          rfl)
theorem scan_new {F : Nat → Option Int} {n : Nat} {bt : Int} (hF : F n = some bt) (hc : n = 0 ∨ F (n - 1) = none) : scan6 F (n + 1) = scan6 F n ++ [⟨n, [bt]⟩] := by
  rw [scan6, hF]
  simp only
  rw [if_pos hc]
theorem scan_grow {F : Nat → Option Int} {n : Nat} {bt : Int} (hF : F n = some bt) (hc : ¬ (n = 0 ∨ F (n - 1) = none)) {qs : List Pm} (hV : vals qs = (scan6 F n).map ofPc) :
    ∃ init q, qs = init ++ [q] ∧ q.z.length ≤ n ∧ ∀ a3 c3, vals (init ++ [⟨q.k, a3, q.l + 1, c3, q.z ++ [bt]⟩]) = (scan6 F (n + 1)).map ofPc := by
  obtain ⟨ps, p, hl, hfin⟩ := (scan6_ok F n).opened hc
  rw [hl, List.map_append] at hV
  have hlen : qs ≠ [] := by
    rintro rfl
    have := congrArg List.length hV
    simp [vals] at this
  have hV2 := hV
  rw [← List.dropLast_concat_getLast hlen] at hV2
  have e1 : vals (qs.dropLast ++ [qs.getLast hlen]) = vals qs.dropLast ++ [(qs.getLast hlen).v] := by simp [vals]
  rw [e1] at hV2
  have h3 := List.append_inj' hV2 rfl
  have h4 : (qs.getLast hlen).v = ofPc p := by simpa using h3.2
  have h5 : (qs.getLast hlen).k = p.a := congrArg Prod.fst h4
  have h6 : (qs.getLast hlen).z = p.d := congrArg Prod.snd h4
  refine ⟨qs.dropLast, qs.getLast hlen, (List.dropLast_concat_getLast hlen).symm, by rw [h6]; unfold Pc.fin at hfin; omega, fun a3 c3 => ?_⟩
  have e : scan6 F (n + 1) = ps ++ [⟨p.a, p.d ++ [bt]⟩] := by
    rw [scan6, hF]
    simp only
    rw [if_neg hc, hl, grow6_last]
  rw [e, List.map_append]
  have e2 : vals (qs.dropLast ++ [⟨(qs.getLast hlen).k, a3, (qs.getLast hlen).l + 1, c3, (qs.getLast hlen).z ++ [bt]⟩]) = vals qs.dropLast ++ [((qs.getLast hlen).k, (qs.getLast hlen).z ++ [bt])] := by simp [vals, Pm.v]
  rw [e2, h3.1, h5, h6]
  rfl
theorem Lo.head0 {w : World} {base : Nat} {a : Option Addr} {len cap : Nat} {ps : List Pm} (h : Lo w base a len cap ps) (hl : 0 < len) : ∃ g, a = some ⟨g, 0, none⟩ := by
  rcases h.shape with ⟨_, h0, _⟩ | h1
  · omega
  · exact h1
theorem Lo.rebase {w : World} {base base' : Nat} {a : Option Addr} {len cap : Nat} {ps : List Pm} (h : Lo w base a len cap ps) (hb : base' ≤ base) : Lo w base' a len cap ps := by
  refine ⟨⟨h.row.1, ?_⟩⟩
  rcases h.row.2 with h0 | ⟨g, c, cur, h1, h2, h3⟩
  · exact .inl h0
  · exact .inr ⟨g, c, cur, h1, Nat.le_trans hb h2, h3⟩
theorem Ds.rebase {w : World} {lo lo' hi : Nat} {qs : List Pm} (h : Ds w lo hi qs) (hb : lo' ≤ lo) : Ds w lo' hi qs := ⟨fun q hq => ⟨(h.own q hq).1.rebase hb, (h.own q hq).2⟩, h.sep⟩
theorem Lo.grownB {W w3 : World} {lo D0 : Nat} {a : Option Addr} {len cap : Nat} {ps : List Pm} {qa : Option Addr} {ql qc : Nat} {qz : List Int} (hL : Lo W lo a len cap ps) (ho : Own W D0 qa ql qc qz) (hg : W.grownBy w3 (Value.slice qa ql qc).ownBlock) : Lo w3 lo a len cap ps := hL.same (fun x hx => hg.block _ (hL.lt x hx).2 (fun e => by
  cases qa with
  | none => simp [Value.ownBlock] at e
  | some y => simp [Value.ownBlock] at e; exact own_lo_ne ho hL rfl hx e.symm))
theorem Lo.at' {w : World} {lo g : Nat} {len cap : Nat} {init : List Pm} {q : Pm} (h : Lo w lo (some ⟨g, 0, none⟩) len cap (init ++ [q])) (m : Nat) (hm : m = init.length) : w.cell? ⟨g, m * 2 + 1, none⟩ = some (.slice q.a q.l q.c) := by
  have hl := h.length
  simp only [List.length_append, List.length_cons, List.length_nil] at hl
  obtain ⟨b', o', p', e2, hp', q0, q1⟩ := h.lb.at (show m < len by omega)
  cases e2
  rw [hm, List.getElem?_append_right (Nat.le_refl _), Nat.sub_self, List.getElem?_cons_zero] at hp'
  cases hp'
  simpa using q1
theorem HA.grownL {W w3 : World} {base h al lo : Nat} {f : Nat → Option Int} {a : Option Addr} {len cap : Nat} {ps : List Pm} (H : HA W base h al f) (hL : Lo W lo a len cap ps) (hg : W.grownBy w3 (Value.slice a len cap).ownBlock) (h1 : h < lo) (h2 : al < lo) : HA w3 base h al f := by
  have key : ∀ k, k < W.heap.size → k < lo → w3.heap[k]? = W.heap[k]? := fun k hk hd => hg.block k hk (fun e => by
    cases a with
    | none => simp [Value.ownBlock] at e
    | some y => simp [Value.ownBlock] at e; have := (hL.lt y rfl).1; omega)
  exact H.same (key _ H.lt.1 h1) (key _ H.lt.2 h2)
theorem HA.grownB {W w3 : World} {base h al D0 : Nat} {f : Nat → Option Int} {qa : Option Addr} {ql qc : Nat} {qz : List Int} (H : HA W base h al f) (ho : Own W D0 qa ql qc qz) (hg : W.grownBy w3 (Value.slice qa ql qc).ownBlock) (h1 : h < D0) (h2 : al < D0) : HA w3 base h al f := by
  have key : ∀ k, k < W.heap.size → k < D0 → w3.heap[k]? = W.heap[k]? := fun k hk hd => hg.block k hk (fun e => by
    cases qa with
    | none => simp [Value.ownBlock] at e
    | some y => simp [Value.ownBlock] at e; have := (ho.lt y rfl).1; omega)
  exact H.same (key _ H.lt.1 h1) (key _ H.lt.2 h2)

set_option maxHeartbeats 8000000 in
set_option maxRecDepth 20000 in
theorem l6Put_any (a : Option Addr) (len cap : Nat) (ps : List Pm) (x : Nat) (b : Option Addr) (lb cb : Nat) (zs : List Int) (w : World) (h : Pl w a len cap ps) (hr : Rd w b lb cb zs) (hl : len ≤ 1000) (hk : ∀ p ∈ ps, 0 ≤ p.k ∧ p.k + p.l ≤ 2000) (hx : x + lb ≤ 2000) (hp : lb ≠ 0) (hR : right6 0 ((vals ps).map toPc)) :
    Calls Try.prog 103 #[.slice a len cap, .int .i64 x, .slice b lb cb] w (CloneOut w (putL ((vals ps).map toPc) x zs).length ((putL ((vals ps).map toPc) x zs).map ofPc)) := by
  obtain ⟨i0, hi, hz0, hz1, hz2⟩ := info_parts Try.infoBool
  obtain ⟨i1, hi', hz0', hz1', hz2'⟩ := info_parts Try.infoU8
  have HP := Lib.hid h
  have HR := Lib.hid hr
  have HK := Lib.hid hk
  have HRR := Lib.hid hR
  have hpb : ((lb : Int) == 0) = false := by simpa using hp
  obtain ⟨LN, hLN⟩ : ∃ LN, LN = (putL ((vals ps).map toPc) x zs).length := ⟨_, rfl⟩
  obtain ⟨LV, hLV⟩ : ∃ LV, LV = (putL ((vals ps).map toPc) x zs).map ofPc := ⟨_, rfl⟩
  rw [← hLN, ← hLV]
  have HLN := Lib.hid hLN
  have HLV := Lib.hid hLV
  clear h hr hk hR hLN hLV
  go_enter Try.func103, Try.ntmps103
  go_wp2_with (at_make; first
    | (refine wpList_make_full _ rfl (.const (.int .i64 2000)) (.const (.int .i64 2000)) 215 rfl w.heap.size 4 i0 (.bool false) 1 Try.underlying215 hi hz0 hz1 .i64 .i64 2000 2000 2000 rfl rfl (by omega) (by omega) (by rw [hz2]; omega) (by unfold maxLen; omega) (Nat.le_refl _) ?_; intro w1 hown1 hgrow1; have O1 := Lib.hid hown1; have B1 := Lib.hid (below_of_grown hgrow1 (Nat.le_refl w.heap.size) (by simp)); clear hown1 hgrow1)
    | (refine wpList_make_full _ rfl (.const (.int .i64 2000)) (.const (.int .i64 2000)) 22 rfl w1.heap.size 5 i1 (.int .u8 0) 1 Try.underlying22 hi' hz0' hz1' .i64 .i64 2000 2000 2000 rfl rfl (by omega) (by omega) (by rw [hz2']; omega) (by unfold maxLen; omega) (Nat.le_refl _) ?_; intro w2 hown2 hgrow2))
  clear hi hz0 hz1 hz2
  have H2 : Hid (HA w2 w.heap.size w.heap.size w1.heap.size noneF) := HA.made B1.out O1.out hown2 hgrow2
  have B2 := Lib.hid (B1.out.trans ((below_of_grown hgrow2 (Nat.le_refl w1.heap.size) (by simp)).mono B1.out.size))
  clear hown2 hgrow2 hi' hz0' hz1' hz2' O1
  have hal : w.heap.size ≤ w1.heap.size := B1.out.size
  clear B1
  generalize w1.heap.size = al at *
  generalize hhb : w.heap.size = hb0 at H2
  have HHB := Lib.hid hhb
  clear hhb
  go_loopw [9] (fun i wr => ∃ k : Nat, k ≤ lb ∧ i = .int .i64 k ∧ Hid (HA wr w.heap.size hb0 al (lay noneF x zs k)) ∧ Hid (Below w.heap.size w wr)) (fun i _ => lb - (intOf i).toNat)
  case atStart => exact ⟨0, Nat.zero_le _, rfl, by rw [lay_zero, HHB.out]; exact H2.out, B2.out⟩
  case round =>
    obtain ⟨k, hk, rfl, hH, hB⟩ := hrel
    clear H2 B2
    by_cases hlt : k < lb
    · have hRW := HR.out.below hB.out
      rcases hRW.cells with h0 | ⟨bb, off, rfl, hc⟩
      · omega
      have hck := hc k hlt
      have hbl : bb < w.heap.size := by
        rcases HR.out.cells with h0 | ⟨bb', off', e, hc'⟩
        · omega
        · cases e
          exact World.block_lt_of_cell? _ _ (hc' k hlt)
      have hzk : Hid (zs[k]? = some (zs.getD k 0)) := by
        have hl := HR.out.length
        simp only [Hid]
        rw [List.getD_eq_getElem?_getD, List.getElem?_eq_getElem (by omega)]; rfl
      have N := hH.out.put (x + k) (by omega) (zs.getD k 0)
      rw [lay_succ _ _ _ _ _ hzk.out] at N
      have NN := Lib.hid N
      have c0 := hH.out.ch (x + k) (by omega)
      have c1 : (wr.setCell ⟨hb0, x + k, none⟩ (.bool true)).cell? ⟨al, x + k, none⟩ = _ := (setc_other (fun e => hH.out.ne (Addr.mk.inj e).1)).trans (hH.out.ca (x + k) (by omega))
      have c2 : (wr.setCell ⟨hb0, x + k, none⟩ (.bool true)).cell? ⟨bb, off + k, none⟩ = _ := (setc_other (fun e => by have := (Addr.mk.inj e).1; have := hH.out.hb; omega)).trans hck
      have f0 := hH.out.fh.at (x + k)
      have f1 := hH.out.fa.at (x + k)
      have HAB := Lib.hid (And.intro hH.out.hb hH.out.ab)
      have B2' := hB
      clear N hRW hc hck hzk hH hB
      generalize zs.getD k 0 = z at *
      generalize (lay noneF x zs k (x + k)).getD 0 = z' at *
      generalize (lay noneF x zs k (x + k)).isSome = q' at *
      go_wp2
      go_roundw
      case rel => exact ⟨k + 1, by omega, by go_num, NN.out, (B2'.out.setCell HAB.out.1 _).setCell HAB.out.2 _⟩
      case measure => simp [intOf]; omega
    · obtain rfl : k = lb := by omega
      have hH2 : Hid (HA wr w.heap.size hb0 al (layAll (lay noneF x zs zs.length) (((vals ps).take 0).map toPc))) := by
        have := hH.out
        rw [HR.out.length]
        exact this
      clear hH
      go_wp2
      go_loopw [10] (fun i wr => ∃ j : Nat, j ≤ len ∧ i = .int .i64 j ∧ Hid (HA wr w.heap.size hb0 al (layAll (lay noneF x zs zs.length) (((vals ps).take j).map toPc))) ∧ Hid (Below w.heap.size w wr)) (fun i _ => len - (intOf i).toNat)
      case atStart => exact ⟨0, Nat.zero_le _, rfl, hH2.out, hB.out⟩
      case round =>
        clear hB hH2
        obtain ⟨j, hj, rfl, hH, hB⟩ := hrel
        by_cases hlt : j < len
        · obtain ⟨bl, off, p, rfl, hpj, _, _⟩ := (HP.out.lb.below hB.out).at hlt
          have hkp := HK.out p (List.mem_of_getElem? hpj)
          have hd := Lib.hid (HP.out.data p (List.mem_of_getElem? hpj))
          have hcell := Lib.hid (fun W (hW : Below w.heap.size w W) => (show W.cell? ⟨bl, off + j * 2, none⟩ = some (.int .i64 p.k) ∧ W.cell? ⟨bl, off + j * 2 + 1, none⟩ = some (.slice p.a p.l p.c) from by
            obtain ⟨b', o', p', e, hp', q0, q1⟩ := (HP.out.lb.below hW).at hlt
            cases e
            rw [hpj] at hp'
            cases hp'
            exact ⟨q0, q1⟩))
          have hblk : bl < w.heap.size := by
            obtain ⟨b', o', p', e, hp', q0, q1⟩ := HP.out.lb.at hlt
            cases e
            exact World.block_lt_of_cell? _ _ q0
          have hnext := Lib.hid (take_pc (show (vals ps)[j]? = some p.v by simp [vals, hpj]) (lay noneF x zs zs.length))
          clear hpj
          obtain ⟨pk, pa, pl, pc, pz⟩ := p
          simp only [Pm.v] at hkp hd hcell hnext
          obtain ⟨pn, rfl⟩ : ∃ n : Nat, pk = n := ⟨pk.toNat, by omega⟩
          rw [Int.toNat_natCast, hd.out.length] at hnext
          generalize layAll (lay noneF x zs zs.length) (((vals ps).take j).map toPc) = G at *
          go_wp2
          go_loopw [11] (fun i wr => ∃ k : Nat, k ≤ pl ∧ i = .int .i64 k ∧ Hid (HA wr w.heap.size hb0 al (lay G pn pz k)) ∧ Hid (Below w.heap.size w wr)) (fun i _ => pl - (intOf i).toNat)
          case atStart => exact ⟨0, Nat.zero_le _, rfl, by rw [lay_zero]; exact hH.out, hB.out⟩
          case round =>
            clear hB hH
            obtain ⟨k, hk, rfl, hH, hB⟩ := hrel
            obtain ⟨q0, q1⟩ := hcell.out _ hB.out
            by_cases hlt3 : k < pl
            · rcases (hd.out.below hB.out).cells with h0 | ⟨bb, off', e, hc⟩
              · omega
              subst e
              have hck := hc k hlt3
              have hbl : bb < w.heap.size := by
                rcases hd.out.cells with h0 | ⟨bb', off'', e, hc'⟩
                · omega
                · cases e
                  exact World.block_lt_of_cell? _ _ (hc' k hlt3)
              have hzk : Hid (pz[k]? = some (pz.getD k 0)) := by
                have hl := hd.out.length
                simp only [Hid]
                rw [List.getD_eq_getElem?_getD, List.getElem?_eq_getElem (by omega)]; rfl
              have N := hH.out.put (pn + k) (by omega) (pz.getD k 0)
              rw [lay_succ _ _ _ _ _ hzk.out] at N
              have NN := Lib.hid N
              have hbd := b8_getD hd.out.b8 k
              have c0 := hH.out.ch (pn + k) (by omega)
              have c1 : (wr.setCell ⟨hb0, pn + k, none⟩ (.bool true)).cell? ⟨al, pn + k, none⟩ = _ := (setc_other (fun e => hH.out.ne (Addr.mk.inj e).1)).trans (hH.out.ca (pn + k) (by omega))
              have c2 : (wr.setCell ⟨hb0, pn + k, none⟩ (.bool true)).cell? ⟨bb, off' + k, none⟩ = _ := (setc_other (fun e => by have := (Addr.mk.inj e).1; have := hH.out.hb; omega)).trans hck
              have c3 : (wr.setCell ⟨hb0, pn + k, none⟩ (.bool true)).cell? ⟨bl, off + j * 2, none⟩ = _ := (setc_other (fun e => by have := (Addr.mk.inj e).1; have := hH.out.hb; omega)).trans q0
              have c4 : (wr.setCell ⟨hb0, pn + k, none⟩ (.bool true)).cell? ⟨bl, off + j * 2 + 1, none⟩ = _ := (setc_other (fun e => by have := (Addr.mk.inj e).1; have := hH.out.hb; omega)).trans q1
              have f0 := hH.out.fh.at (pn + k)
              have f1 : (wr.setCell ⟨hb0, pn + k, none⟩ (.bool true)).frozen? ⟨al, pn + k, none⟩ = false := by rw [World.frozen?_setCell]; exact hH.out.fa.at (pn + k)
              have HAB := Lib.hid (And.intro hH.out.hb hH.out.ab)
              clear N hc hck hzk hH
              generalize pz.getD k 0 = z at *
              generalize (lay G pn pz k (pn + k)).getD 0 = z' at *
              generalize (lay G pn pz k (pn + k)).isSome = q' at *
              go_wp2_with fail
              have hw : IntKind.i64.wrap ((pn : Int) + (k : Int)) = ((pn + k : Nat) : Int) := (IntWalk.i64_in _ (by omega)).trans (by omega)
              have hpk : pn + k < 2000 := by omega
              have BW : Hid (Below w.heap.size w (wr.setCell ⟨hb0, pn + k, none⟩ (.bool true))) := hB.out.setCell HAB.out.1 _
              clear hB q0 q1 c0 f0
              generalize wr.setCell ⟨hb0, pn + k, none⟩ (.bool true) = W1 at *
              have hI0 : (0 : Int) ≤ (pn : Int) + (k : Int) := by omega
              have hI1 : (pn : Int) + (k : Int) < 2000 := by omega
              go_still_tail 17, (by kernel_rfl)
              change wpList _ _ _ _ _ W1.drew
              go_wp2
              all_goals (refine ⟨⟨k + 1, by omega, by go_num, NN.out.below (Below.refl _ _).drew, (BW.out.setCell HAB.out.2 _).drew⟩, ?_⟩; simp [intOf]; omega)
            · obtain rfl : k = pl := by omega
              have hH2 : Hid (HA wr w.heap.size hb0 al (layAll (lay noneF x zs zs.length) (((vals ps).take (j + 1)).map toPc))) := by
                rw [hnext.out]; exact hH.out
              clear hH
              go_wp2
              go_roundw
              case rel => exact ⟨j + 1, by omega, by go_num, hH2.out, hB.out⟩
              case measure => simp [intOf]; omega
        · obtain rfl : j = len := by omega
          have hH2 : Hid (HA wr w.heap.size hb0 al (putF ((vals ps).map toPc) x zs)) := by
            have := hH.out
            rw [List.take_of_length_le (by rw [vals_len, HP.out.lb.length]; exact Nat.le_refl _), lay_put HRR.out] at this
            exact this
          have hF8 : Hid (F8 (putF ((vals ps).map toPc) x zs)) := by
            intro n bt hbt
            unfold putF at hbt
            rw [Option.or_eq_some_iff] at hbt
            rcases hbt with hbt | ⟨_, hbt⟩
            · obtain ⟨p, hp, hm⟩ := byteAt_mem hbt
              obtain ⟨v, hv, rfl⟩ := List.mem_map.1 hp
              obtain ⟨q, hq, rfl⟩ := List.mem_map.1 hv
              exact (HP.out.data q hq).b8 bt hm
            · split at hbt
              · exact HR.out.b8 bt (List.mem_of_getElem? hbt)
              · cases hbt
          unfold putL at HLN HLV
          clear hH HP HK HR HRR
          generalize putF ((vals ps).map toPc) x zs = F at *
          obtain ⟨Z0, hZ0⟩ : ∃ Z0, Z0 = wr.heap.size := ⟨_, rfl⟩
          have L0 := Lib.hid (lo_lit wr Z0 (Nat.le_of_eq hZ0))
          have HZ : Hid (w.heap.size ≤ Z0 ∧ hb0 < Z0 ∧ al < Z0) := by rw [hZ0]; exact ⟨hB.out.size, hH2.out.lt⟩
          have HZ0 := Lib.hid hZ0
          clear hZ0
          have H0 := Lib.hid (hH2.out.below ((Below.refl _ wr).alloc (Nat.le_refl _) (.cells #[] 133)))
          have B0 := Lib.hid (hB.out.alloc hB.out.size (.cells #[] 133))
          clear hB hH2
          go_wp2
          go_loopw [12, 13] (fun o i wr => ∃ (n l c : Nat) (a1 : Option Addr) (qs : List Pm), n ≤ 2000 ∧ l ≤ n ∧ i = .int .i64 n ∧ o = .slice a1 l c ∧ Hid (vals qs = (scan6 F n).map ofPc) ∧ Hid (Lo wr Z0 a1 l c qs) ∧ Hid (Dz wr Z0 qs) ∧ Hid (Z0 ≤ wr.heap.size) ∧ Hid (HA wr w.heap.size hb0 al F) ∧ Hid (Below w.heap.size w wr)) (fun _ i _ => 2000 - (intOf i).toNat)
          case atStart => exact ⟨0, 0, 0, _, [], Nat.zero_le _, Nat.le_refl _, rfl, rfl, rfl, L0.out, .inl rfl, by rw [HZ0.out]; simp [Hid], H0.out, B0.out⟩
          case round =>
            obtain ⟨n, l, c, a1, qs, hn, hln, rfl, rfl, hV, hL, hD, hZS, hH, hB⟩ := hrel
            clear L0 H0 B0
            by_cases hlt : n < 2000
            · cases hF : F n with
              | none =>
                have c0 := hH.out.ch n hlt
                rw [hF] at c0
                have hV' : Hid (vals qs = (scan6 F (n + 1)).map ofPc) := by
                  have e : scan6 F (n + 1) = scan6 F n := by rw [scan6, hF]
                  rw [e]; exact hV.out
                clear hV hF
                simp only [Option.isSome_none] at c0
                go_wp2
                all_goals (refine ⟨⟨n + 1, l, c, a1, qs, by omega, by omega, by go_num, rfl, hV'.out, hL.out, hD.out, hZS.out, hH.out, hB.out⟩, ?_⟩; simp [intOf]; omega)
              | some bt =>
                have hb8 := hF8.out n bt hF
                have c0 := hH.out.ch n hlt
                have c1 := hH.out.ca n hlt
                rw [hF] at c0 c1
                simp only [Option.isSome_some, Option.getD_some] at c0 c1
                by_cases hc : n = 0 ∨ F (n - 1) = none
                · have hV' : Hid (∀ a3 c3, vals (qs ++ [Pm.mk n a3 1 c3 [bt]]) = (scan6 F (n + 1)).map ofPc) := fun a3 c3 => by
                    rw [scan_new hF hc, List.map_append, ← hV.out]
                    simp [vals, Pm.v, ofPc]
                  rcases Nat.eq_zero_or_pos n with h0 | h0
                  · subst h0
                    have bA1 : Below wr.heap.size wr (wr.alloc (.cells #[.int .i64 0, .slice none 0 0] 133)) := (Below.refl _ wr).alloc (Nat.le_refl _) _
                    have LA := Lib.hid (hL.out.below bA1)
                    have XA := Lib.hid (lb_box (Box.new wr 133 #[.int .i64 0, .slice none 0 0]) [])
                    have SA := Lib.hid (Nat.le_trans hZS.out bA1.size)
                    have DA := Lib.hid (hD.out.ds.below bA1)
                    have hHA := hH.out.below bA1
                    have hBA := hB.out.trans (bA1.mono hB.out.size)
                    have HHA := Lib.hid hHA
                    have HBA := Lib.hid hBA
                    have HF := Lib.hid hF
                    clear hHA hBA hL hH hB hD bA1 c1 hF
                    go_wp2_with (at_builtin; refine append_pieces _ rfl (.tmp 104) (.tmp 107) rfl Z0 _ _ _ _ rfl LA.out _ _ _ _ rfl XA.out SA.out (by omega) ?_; intro a2 c2 w2 l2 g2; obtain ⟨g, rfl⟩ := l2.head0 (by omega); have L2 := Lib.hid l2; have D2 := Lib.hid ((DA.out.grown LA.out g2).mono (Nat.le_trans (Nat.le_refl _) (show _ ≤ w2.heap.size from Nat.le_trans (by simp) g2.size))); have H2' := Lib.hid (HHA.out.grownL LA.out g2 HZ.out.2.1 HZ.out.2.2); have B2' := Lib.hid (HBA.out.trans (below_of_grown g2 HBA.out.size (fun k e => Nat.le_trans HZ.out.1 (own_of_lo_blk LA.out k e)))); have S2' := Lib.hid (Nat.le_trans SA.out g2.size); have q1 := l2.at' l LA.out.length.symm; clear l2 g2)
                    have c1 := H2'.out.ca 0 hlt
                    rw [HF.out] at c1
                    simp only [Option.getD_some] at c1 q1
                    have bA : Below w2.heap.size w2 (w2.drew.alloc (.cells #[.int .u8 bt] 5)) := (Below.refl _ w2).drew.alloc (Nat.le_refl _) _
                    have D3 := Lib.hid (D2.out.below bA)
                    have O4 := Lib.hid (Own.nil (w2.drew.alloc (.cells #[.int .u8 bt] 5)) w2.heap.size)
                    have L4 := Lib.hid (L2.out.below bA)
                    have H4 := Lib.hid (H2'.out.below bA)
                    have B4 := Lib.hid (B2'.out.trans (bA.mono B2'.out.size))
                    have R4 := Lib.hid (rd_one (w := w2.drew) hb8)
                    have S4 := Lib.hid bA.size
                    have HLl := Lib.hid LA.out.length
                    have hgl := (L2.out.lt _ rfl).2
                    have hall := H2'.out.lt.2
                    simp only at hgl
                    clear bA L2 D2 H2' B2' LA DA HHA HBA XA
                    go_region_law (first
                      | (refine append_bstep _ rfl (.tmp 118) (.tmp 123) rfl w2.heap.size _ _ _ _ rfl O4.out _ _ _ _ rfl R4.out S4.out (by omega) ?_; intro a3 c3 w3 o3 g3; have U := Lib.hid (fun W0 (hW0 : W0 = w3.setCell ⟨g, qs.length * 2 + 1, none⟩ (.slice a3 1 c3)) => Dz.push (q := ⟨0, none, 0, 0, []⟩) L4.out D3.out S2'.out S4.out O4.out o3 g3 hW0); have L5 := L4.out.grownB O4.out g3; have q3 := L5.at' l HLl.out.symm; have f3 := L5.fz.at (l * 2 + 1); have H5 := Lib.hid (H4.out.grownB O4.out g3 (Nat.lt_of_lt_of_le HZ.out.2.1 S2'.out) (Nat.lt_of_lt_of_le HZ.out.2.2 S2'.out)); have B5 := Lib.hid (B4.out.trans (below_of_grown g3 B4.out.size (fun k e => Nat.le_trans HZ.out.1 (Nat.le_trans S2'.out (own_blk O4.out k e))))); have S5 := Lib.hid g3.size; have G5 := Lib.hid (L5.lt _ rfl).1; simp only at q3; clear L5 o3 g3))
                    all_goals (
                      go_wp2
                      all_goals (
                        have X5 := U.out (w3.setCell ⟨g, l * 2 + 1, none⟩ (.slice a3 1 c3)) (by rw [HLl.out])
                        refine ⟨⟨0 + 1, l + 1, c2, _, _, by omega, by omega, by go_num, rfl, hV'.out a3 c3, X5.1, X5.2, by rw [World.size_setCell]; exact Nat.le_trans (Nat.le_trans S2'.out S4.out) S5.out, H5.out.same (heap_setCell_other _ _ _ _ (by have := HZ.out.2.1; have := G5.out; dsimp only at *; omega)) (heap_setCell_other _ _ _ _ (by have := HZ.out.2.2; have := G5.out; dsimp only at *; omega)), B5.out.setCell (show w.heap.size ≤ (⟨g, l * 2 + 1, none⟩ : Addr).block from Nat.le_trans HZ.out.1 G5.out) _⟩, ?_⟩
                        (simp [intOf]; try omega)))
                  · obtain ⟨n', rfl⟩ : ∃ n', n = n' + 1 := ⟨n - 1, by omega⟩
                    have hs : F n' = none := by
                      rcases hc with hc | hc
                      · omega
                      · simpa using hc
                    have c2 := hH.out.ch n' (by omega)
                    rw [hs] at c2
                    simp only [Option.isSome_none] at c2
                    have hn1 : ((n' : Int) + 1 == 0) = false := by simp; omega
                    clear hs hc
                    have bA1 : Below wr.heap.size wr (wr.alloc (.cells #[.int .i64 ((n' : Int) + 1), .slice none 0 0] 133)) := (Below.refl _ wr).alloc (Nat.le_refl _) _
                    have LA := Lib.hid (hL.out.below bA1)
                    have XA := Lib.hid (lb_box (Box.new wr 133 #[.int .i64 ((n' : Int) + 1), .slice none 0 0]) [])
                    have SA := Lib.hid (Nat.le_trans hZS.out bA1.size)
                    have DA := Lib.hid (hD.out.ds.below bA1)
                    have hHA := hH.out.below bA1
                    have hBA := hB.out.trans (bA1.mono hB.out.size)
                    have HHA := Lib.hid hHA
                    have HBA := Lib.hid hBA
                    have HF := Lib.hid hF
                    clear hHA hBA hL hH hB hD bA1 c1 hF
                    go_wp2_with (at_builtin; refine append_pieces _ rfl (.tmp 104) (.tmp 107) rfl Z0 _ _ _ _ rfl LA.out _ _ _ _ rfl XA.out SA.out (by omega) ?_; intro a2 c2 w2 l2 g2; obtain ⟨g, rfl⟩ := l2.head0 (by omega); have L2 := Lib.hid l2; have D2 := Lib.hid ((DA.out.grown LA.out g2).mono (Nat.le_trans (Nat.le_refl _) (show _ ≤ w2.heap.size from Nat.le_trans (by simp) g2.size))); have H2' := Lib.hid (HHA.out.grownL LA.out g2 HZ.out.2.1 HZ.out.2.2); have B2' := Lib.hid (HBA.out.trans (below_of_grown g2 HBA.out.size (fun k e => Nat.le_trans HZ.out.1 (own_of_lo_blk LA.out k e)))); have S2' := Lib.hid (Nat.le_trans SA.out g2.size); have q1 := l2.at' l LA.out.length.symm; clear l2 g2)
                    have c1 := H2'.out.ca (n' + 1) hlt
                    rw [HF.out] at c1
                    simp only [Option.getD_some] at c1 q1
                    have bA : Below w2.heap.size w2 (w2.drew.alloc (.cells #[.int .u8 bt] 5)) := (Below.refl _ w2).drew.alloc (Nat.le_refl _) _
                    have D3 := Lib.hid (D2.out.below bA)
                    have O4 := Lib.hid (Own.nil (w2.drew.alloc (.cells #[.int .u8 bt] 5)) w2.heap.size)
                    have L4 := Lib.hid (L2.out.below bA)
                    have H4 := Lib.hid (H2'.out.below bA)
                    have B4 := Lib.hid (B2'.out.trans (bA.mono B2'.out.size))
                    have R4 := Lib.hid (rd_one (w := w2.drew) hb8)
                    have S4 := Lib.hid bA.size
                    have HLl := Lib.hid LA.out.length
                    have hgl := (L2.out.lt _ rfl).2
                    have hall := H2'.out.lt.2
                    simp only at hgl
                    have hI0 : (0 : Int) ≤ (n' : Int) + 1 := by omega
                    have hI1 : (n' : Int) + 1 < 2000 := by omega
                    have hI2 : ((n' : Int) + 1).toNat = n' + 1 := by omega
                    clear bA L2 D2 H2' B2' LA DA HHA HBA XA
                    go_region_law (first
                      | (refine append_bstep _ rfl (.tmp 118) (.tmp 123) rfl w2.heap.size _ _ _ _ rfl O4.out _ _ _ _ rfl R4.out S4.out (by omega) ?_; intro a3 c3 w3 o3 g3; have U := Lib.hid (fun W0 (hW0 : W0 = w3.setCell ⟨g, qs.length * 2 + 1, none⟩ (.slice a3 1 c3)) => Dz.push (q := ⟨((n' : Int) + 1), none, 0, 0, []⟩) L4.out D3.out S2'.out S4.out O4.out o3 g3 hW0); have L5 := L4.out.grownB O4.out g3; have q3 := L5.at' l HLl.out.symm; have f3 := L5.fz.at (l * 2 + 1); have H5 := Lib.hid (H4.out.grownB O4.out g3 (Nat.lt_of_lt_of_le HZ.out.2.1 S2'.out) (Nat.lt_of_lt_of_le HZ.out.2.2 S2'.out)); have B5 := Lib.hid (B4.out.trans (below_of_grown g3 B4.out.size (fun k e => Nat.le_trans HZ.out.1 (Nat.le_trans S2'.out (own_blk O4.out k e))))); have S5 := Lib.hid g3.size; have G5 := Lib.hid (L5.lt _ rfl).1; simp only at q3; clear L5 o3 g3))
                    all_goals (
                      go_wp2
                      all_goals (
                        have X5 := U.out (w3.setCell ⟨g, l * 2 + 1, none⟩ (.slice a3 1 c3)) (by rw [HLl.out])
                        refine ⟨⟨(n' + 1) + 1, l + 1, c2, _, _, by omega, by omega, by go_num, rfl, hV'.out a3 c3, X5.1, X5.2, by rw [World.size_setCell]; exact Nat.le_trans (Nat.le_trans S2'.out S4.out) S5.out, H5.out.same (heap_setCell_other _ _ _ _ (by have := HZ.out.2.1; have := G5.out; dsimp only at *; omega)) (heap_setCell_other _ _ _ _ (by have := HZ.out.2.2; have := G5.out; dsimp only at *; omega)), B5.out.setCell (show w.heap.size ≤ (⟨g, l * 2 + 1, none⟩ : Addr).block from Nat.le_trans HZ.out.1 G5.out) _⟩, ?_⟩
                        (simp [intOf]; try omega)))
                · obtain ⟨init, q, rfl, hqn, hVq⟩ := scan_grow hF hc hV.out
                  have HVq := Lib.hid hVq
                  rcases hD.out with e0 | ⟨D0, init', q', e0, d1, d2, d3, d4⟩
                  · simp at e0
                  obtain ⟨rfl, e1⟩ := List.append_inj' e0 rfl
                  obtain rfl : q = q' := by simpa using e1
                  have hlen := hL.out.length
                  simp only [List.length_append, List.length_cons, List.length_nil] at hlen
                  rcases hL.out.shape with ⟨_, h0, _⟩ | ⟨g, rfl⟩
                  · omega
                  obtain ⟨b', o', p', e2, hp', q0, q1⟩ := hL.out.lb.at (show init.length < l by omega)
                  cases e2
                  rw [List.getElem?_append_right (Nat.le_refl _), Nat.sub_self, List.getElem?_cons_zero] at hp'
                  cases hp'
                  simp only [Nat.zero_add] at q0 q1
                  have hn0 : ¬ n = 0 := fun e => hc (.inl e)
                  obtain ⟨n', rfl⟩ : ∃ n', n = n' + 1 := ⟨n - 1, by omega⟩
                  have c2 := hH.out.ch n' (by omega)
                  have hs : (F n').isSome = true := by
                    cases hq : F n' with
                    | none => exact absurd (.inr hq) hc
                    | some v => rfl
                  rw [hs] at c2
                  have hl1 : l = init.length + 1 := by omega
                  subst hl1
                  have hn1 : ((n' : Int) + 1 == 0) = false := by simp; omega
                  clear hs hF hVq e0 e1 hlen hc
                  obtain ⟨m, hm⟩ : ∃ m, m = init.length := ⟨_, rfl⟩
                  rw [← hm] at q0 q1 hL hln ⊢
                  have HM := Lib.hid hm
                  clear hm
                  obtain ⟨qk, qa, ql, qc, qz⟩ := q
                  simp only at q0 q1 HVq d4 hL hqn
                  go_wp2_with fail
                  have bA : Below wr.heap.size wr (wr.drew.alloc (.cells #[.int .u8 bt] 5)) := (Below.refl _ wr).drew.alloc (Nat.le_refl _) _
                  have D3 := Lib.hid (d3.below bA)
                  have O4 := Lib.hid (d4.below bA)
                  have L4 := Lib.hid (hL.out.below bA)
                  have H4 := Lib.hid (hH.out.below bA)
                  have B4 := Lib.hid (hB.out.trans (bA.mono hB.out.size))
                  have R4 := Lib.hid (rd_one (w := wr.drew) hb8)
                  have S4 := Lib.hid (Nat.le_trans d2 bA.size)
                  have hgl := (hL.out.lt _ rfl).2
                  have hall := hH.out.lt.2
                  have hql : ql ≤ 3000 := by have := O4.out.length; omega
                  have hI0 : (0 : Int) ≤ (n' : Int) + 1 := by omega
                  have hI1 : (n' : Int) + 1 < 2000 := by omega
                  have hI2 : ((n' : Int) + 1).toNat = n' + 1 := by omega
                  simp only at hgl
                  clear d3 d4 hL hH hB hD hV c0 c2 bA
                  go_region_law (first
                    | (refine append_bstep _ rfl (.tmp 118) (.tmp 123) rfl D0 _ _ _ _ rfl O4.out _ _ _ _ rfl R4.out S4.out (by omega) ?_; intro a3 c3 w3 o3 g3; have U := Lib.hid (fun W0 (hW0 : W0 = w3.setCell ⟨g, init.length * 2 + 1, none⟩ (.slice a3 (ql + 1) c3)) => Dz.push L4.out D3.out d1 S4.out O4.out o3 g3 hW0); have L5 := L4.out.grownB O4.out g3; have q3 := L5.at' m HM.out; have f3 := L5.fz.at (m * 2 + 1); have H5 := Lib.hid (H4.out.grownB O4.out g3 (Nat.lt_of_lt_of_le HZ.out.2.1 d1) (Nat.lt_of_lt_of_le HZ.out.2.2 d1)); have B5 := Lib.hid (B4.out.trans (below_of_grown g3 B4.out.size (fun k e => Nat.le_trans HZ.out.1 (Nat.le_trans d1 (own_blk O4.out k e))))); have S5 := Lib.hid g3.size; have G5 := Lib.hid (L5.lt _ rfl).1; clear L5 o3 g3))
                  all_goals (
                    go_wp2
                    all_goals (
                      have X5 := U.out (w3.setCell ⟨g, m * 2 + 1, none⟩ (.slice a3 (ql + 1) c3)) (by rw [HM.out])
                      refine ⟨⟨n' + 1 + 1, m + 1, c, _, _, by omega, by omega, by go_num, rfl, HVq.out a3 c3, X5.1, X5.2, by rw [World.size_setCell]; exact Nat.le_trans (Nat.le_trans d1 S4.out) S5.out, H5.out.same (heap_setCell_other _ _ _ _ (by have := HZ.out.2.1; have := G5.out; dsimp only at *; omega)) (heap_setCell_other _ _ _ _ (by have := HZ.out.2.2; have := G5.out; dsimp only at *; omega)), B5.out.setCell (show w.heap.size ≤ (⟨g, m * 2 + 1, none⟩ : Addr).block from Nat.le_trans HZ.out.1 G5.out) _⟩, ?_⟩
                      simp [intOf]; omega))
            · obtain rfl : n = 2000 := by omega
              have hE : l = LN := by
                have e1 := hL.out.length
                have e2 := congrArg List.length hV.out
                rw [vals_len, List.length_map] at e2
                have := HLN.out
                omega
              subst hE
              clear HLN
              go_wp2
              go_ret
              exact ⟨_, _, qs, rfl, hL.out.rebase HZ.out.1, hD.out.ds.rebase HZ.out.1, hV.out.trans HLV.out.symm, hB.out⟩
end Go.Proofs.Ytimlobhlcmghfaa
