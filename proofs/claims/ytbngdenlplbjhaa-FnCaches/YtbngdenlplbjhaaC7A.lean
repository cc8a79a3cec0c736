/-
  Entries appended to a list that owns its array; AgeCache of the model.
-/
import Derived.Test.YtbngdenlplbjhaaE8R
import Derived.Test.YtbngdenlplbjhaaC7S
import Derived.Test.YtbngdenlplbjhaaAppR
namespace Go.Proofs.Ytbngdenlplbjhaa
open Go.ChangeShapes Go.WideShapes Go.ChangeAt Go.RowKit

theorem Le.flat {w : World} {b off : Nat} {len cap : Nat} {es : List En} (h : Le w (some ⟨b, off, none⟩) len cap es) : ∀ j u, (cellsE es)[j]? = some u → w.cell? ((⟨b, off, none⟩ : Addr).add j) = some u := by
  intro j u hu
  have hlt : j < es.length * 3 := by
    have := (List.getElem?_eq_some_iff.1 hu).1
    rwa [cellsE_len] at this
  rcases h.cells with h0 | ⟨b', off', e, hc⟩
  · have := h.length; omega
  · cases e
    obtain ⟨p, hp⟩ : ∃ p, es[j / 3]? = some p := ⟨_, List.getElem?_eq_getElem (by omega)⟩
    have h1 := cellsE_at es (j / 3) p hp
    have h2 := hc (j / 3) p hp
    rw [addr_add]
    have hm : j % 3 = 0 ∨ j % 3 = 1 ∨ j % 3 = 2 := by omega
    rcases hm with c | c | c
    · have ej : j / 3 * 3 = j := by omega
      rw [ej] at h1 h2
      rw [h1.1] at hu
      rw [h2.1]; exact hu
    · have ej : j / 3 * 3 + 1 = j := by omega
      rw [ej] at h1
      have ej' : off + j / 3 * 3 + 1 = off + j := by omega
      rw [ej'] at h2
      rw [h1.2.1] at hu
      rw [h2.2.1]; exact hu
    · have ej : j / 3 * 3 + 2 = j := by omega
      rw [ej] at h1
      have ej' : off + j / 3 * 3 + 2 = off + j := by omega
      rw [ej'] at h2
      rw [h1.2.2] at hu
      rw [h2.2.2]; exact hu
theorem run_append_entries (w : World) (ty : TypeId) (base : Nat) (a : Option Addr) (len cap : Nat) (es : List En) (hown : Lw w base a len cap es)
    (b : Option Addr) (lb cb : Nat) (fs : List En) (hr : Le w b lb cb fs) (hb : base ≤ w.heap.size) (hsz : len + lb ≤ 4194304) :
    ∃ a' c' w', (Builtin.append_ #[24, 24] ty #[.slice a len cap, .slice b lb cb]).run Try.prog w = .ok (.slice a' (len + lb) c') w' ∧ Lw w' base a' (len + lb) c' (es ++ fs) ∧ w.grownBy w' (Value.slice a len cap).ownBlock := by
  obtain ⟨i0, hi, hz0, hz1, hz2⟩ := info_parts Try.infoEntry
  have hl := hown.length
  have hlb := hr.length
  cases b with
  | none =>
    obtain ⟨rfl, rfl⟩ := hr.nil rfl
    obtain rfl : fs = [] := List.length_eq_zero_iff.1 hlb
    have hrun := run_append_owned_none (P := Try.prog) (w := w) base 24 ty 43 i0 3 Try.underlying24 hi _ _ _ hown.row
    exact ⟨a, cap, w, hrun, by simpa using hown, World.grownBy.refl _ _⟩
  | some ad =>
    obtain ⟨v', w', hrun, ho', hg, _⟩ := run_append_own (P := Try.prog) w base 24 ty 43 i0 (.agg #[.int .i64 0, .int .i64 0, .int .i64 0]) 3 24 Try.underlying24 hi hz0 hz1 hz2 rfl (by decide) _ _ _ hown.row ad lb cb (cellsE fs) (by rw [cellsE_len, hlb]) (by
      rcases hr.cells with h0 | ⟨bb, off, e, hc⟩
      · intro j u hu
        obtain rfl : fs = [] := List.length_eq_zero_iff.1 (by omega)
        simp [cellsE] at hu
      · cases e
        exact hr.flat) (cellsE_one _) (by unfold maxLen; omega) (by omega) hb
    have ho'' := ho'
    rw [← cellsE_app] at ho''
    rcases ho'.2 with ⟨rfl, hn⟩ | ⟨g, c, cur, rfl, _⟩
    · rw [hn] at ho''
      exact ⟨none, 0, w', by rw [hrun, hn], by rw [hn]; exact ⟨ho''⟩, hg⟩
    · exact ⟨_, c, w', hrun, ⟨ho''⟩, hg⟩
theorem append_entries (w : World) {ops : Array Oper} {rest : List Oper} {o : Oper} {ac : Act} {Q : Exit → Act → World → Prop} (hgd : o.guard = none) (s x : Operand)
    (ho : o.op = .call { callee := .builtin .append, args := #[s, x], argTypes := #[24, 24] })
    (base : Nat) (a : Option Addr) (len cap : Nat) (es : List En) (hs : ac.eval s = .slice a len cap) (hown : Lw w base a len cap es)
    (b : Option Addr) (lb cb : Nat) (fs : List En) (hx : ac.eval x = .slice b lb cb) (hr : Le w b lb cb fs) (hb : base ≤ w.heap.size) (hsz : len + lb ≤ 4194304)
    (h : ∀ a' c' w', Lw w' base a' (len + lb) c' (es ++ fs) → w.grownBy w' (Value.slice a len cap).ownBlock → Below base w w' → wpList Try.prog ops Q rest (ac.put o.dst (.slice a' (len + lb) c')) w') : wpList Try.prog ops Q (o :: rest) ac w := by
  obtain ⟨a', c', w', hrun, ho', hg⟩ := run_append_entries w o.type base a len cap es hown b lb cb fs hr hb hsz
  refine wpList_plain hgd fun K hK => ?_
  unfold Oper.wp execOp
  simp only [ho, resolve, invoke, builtin, Sem.run_bind, Sem.run_pure, Result.andThen_ok, List.map_toArray, List.map_cons, List.map_nil, hs, hx, hrun]
  exact hK _ _ (h a' c' w' ho' hg (below_of_grown hg hb fun k e => lw_blk hown k e))

theorem EO.setOff {w : World} {lo hi : Nat} {a : Option Addr} {len cap : Nat} {es : List En} (h : EO w lo hi a len cap es) (p : Addr) (v : Value) (hp : p.block < lo) : EO (w.setCell p v) lo hi a len cap es :=
  h.keep fun k h1 _ _ => heap_setCell_other w p k v (by omega)

/-- the entries that count at t -/
def agE (t : Int) (es : List En) : List En := es.filter fun e => decide (t ≤ e.u)
theorem agE_succ {es : List En} {k : Nat} {e : En} (t : Int) (h : es[k]? = some e) : agE t (es.take (k + 1)) = agE t (es.take k) ++ if t ≤ e.u then [e] else [] := by
  unfold agE
  rw [List.take_add_one, h, List.filter_append]
  congr 1
  by_cases c : t ≤ e.u
  · simp [c]
  · simp [c]
set_option maxHeartbeats 2000000 in
theorem l7Age_any (a : Option Addr) (len cap : Nat) (es : List En) (t : Int) (w : World) (h : Le w a len cap es) (hl : len ≤ 1048576) :
    Calls Try.prog 52 #[.slice a len cap, .int .i64 t] w (EsOut w (agE t es)) := by
  have HP := Lib.hid h
  have HL := Lib.hid h.length
  have L0 := Lib.hid (lw_lit w w.heap.size (Nat.le_refl _))
  have B0 := Lib.hid ((Below.refl w.heap.size w).alloc (Nat.le_refl _) (.cells #[] 43))
  clear h
  go_enter Try.func52, Try.ntmps52
  go_wp2
  go_loopw [5, 6] (fun o i wr => ∃ (k : Nat) (a1 : Option Addr) (n1 c1 : Nat), k ≤ len ∧ i = .int .i64 k ∧ o = .slice a1 n1 c1 ∧ n1 ≤ k ∧ Hid (Lw wr w.heap.size a1 n1 c1 (agE t (es.take k))) ∧ Hid (Below w.heap.size w wr)) (fun _ i _ => len - (intOf i).toNat)
  case atStart => exact ⟨0, _, 0, _, Nat.zero_le _, rfl, rfl, Nat.le_refl _, L0.out, B0.out⟩
  case round =>
    obtain ⟨k, a1, n1, c1, hk, rfl, rfl, hn, hL, hB⟩ := hrel
    clear L0 B0
    by_cases hlt : k < len
    · obtain ⟨b, off, e, rfl, hp, c0, c1', c2⟩ := (HP.out.below hB.out).at hlt
      have hv := agE_succ t hp
      clear hp
      obtain ⟨ei, em, eu⟩ := e
      simp only at c0 c1' c2 hv
      by_cases hc : t ≤ eu
      · rw [if_pos hc] at hv
        have HV := Lib.hid hv
        clear hv
        have LA := Lib.hid (hL.out.alloc (.cells #[.int .i64 ei, .int .i64 em, .int .i64 eu] 43))
        have XA := Lib.hid (le_box ⟨ei, em, eu⟩ (Box.new wr 43 #[.int .i64 ei, .int .i64 em, .int .i64 eu]))
        have BA := Lib.hid (hB.out.alloc hB.out.size (.cells #[.int .i64 ei, .int .i64 em, .int .i64 eu] 43))
        go_wp2_with (at_builtin; refine append_entries _ rfl (.tmp 21) (.tmp 26) rfl w.heap.size _ _ _ _ rfl LA.out _ _ _ _ rfl XA.out BA.out.size (by omega) ?_; intro a2 c2 w2 l2 g2 b2; have L2 := Lib.hid l2; have B2 := Lib.hid (BA.out.trans b2); clear l2 g2 b2)
        go_roundw
        case rel => exact ⟨k + 1, a2, n1 + 1, c2, by omega, by go_num, rfl, by omega, by rw [HV.out]; exact L2.out, B2.out⟩
        case measure => simp [intOf]; omega
      · rw [if_neg hc, List.append_nil] at hv
        have HV := Lib.hid hv
        clear hv
        go_wp2
        go_roundw
        case rel => exact ⟨k + 1, a1, n1, c1, by omega, by go_num, rfl, by omega, by rw [HV.out]; exact hL.out, hB.out⟩
        case measure => simp [intOf]; omega
    · obtain rfl : k = len := by omega
      have hE : Hid (Lw wr w.heap.size a1 n1 c1 (agE t es)) := by
        have e := hL.out
        rwa [List.take_of_length_le (by rw [HL.out]; exact Nat.le_refl _)] at e
      clear hL
      go_wp2
      go_ret
      exact ⟨_, _, _, rfl, hE.out.eo (fun x hx => (hE.out.lt x hx).2), hB.out⟩

/-- AgeCache: its code, its entries -/
def agC (es : List En) (t : Int) : Int := if cfC es = 0 then (if inB t 0 100000000 then 0 else 3) else cfC es
def agV (es : List En) (t : Int) : List En := if agC es t = 0 then agE t es else []
set_option maxHeartbeats 2000000 in
theorem specAgeCache (a : Option Addr) (len cap : Nat) (es : List En) (t : Int) (w : World) (h : Le w a len cap es) (hl : len ≤ 1048576) :
    Calls Try.prog 15 #[.slice a len cap, .int .i64 t] w (CaOut w (agC es t) (agV es t)) := by
  have B0 := Lib.hid ((Below.refl w.heap.size w).alloc (Nat.le_refl _) (.cells #[.int .i64 0, .slice none 0 0] 28))
  have X0 := Lib.hid (Box.new w 28 #[.int .i64 0, .slice none 0 0])
  have K := Lib.hid (specCacheFault a len cap es _ (h.below B0.out))
  have KA := Lib.hid (l7Age_any a len cap es t _ (h.below B0.out) hl)
  clear h
  by_cases hc : cfC es = 0
  case neg =>
    have HF : Hid (agC es t = cfC es ∧ agV es t = []) := by
      have e : agC es t = cfC es := if_neg hc
      exact ⟨e, if_neg (by rw [e]; exact hc)⟩
    rw [HF.out.1, HF.out.2]
    have hb : (cfC es != 0) = true := by simpa using hc
    clear hc KA HF
    generalize cfC es = c at *
    obtain ⟨_, x0, x1⟩ := X0.out.two
    have f0 := X0.out.frozen 0
    have f1 := X0.out.frozen 1
    go_enter Try.func15, Try.ntmps15
    go_wp2_with fail
    refine K.out.mono ?_
    rintro e w1 ⟨rfl, rfl⟩
    clear K X0
    go_wp2
    refine bodyPost_ret (v := .agg #[.int .i64 c, .slice none 0 0]) (by simp [results, Try.results15, go_sem]) rfl ⟨_, _, _, rfl, EO.nil0 _ _ _, ?_⟩
    exact (Below.refl w.heap.size w).alloc (Nat.le_refl _) _
  rw [hc] at K
  cases m1 : inB t 0 100000000
  · have HF : Hid (agC es t = 3 ∧ agV es t = []) := by
      have e : agC es t = 3 := by unfold agC; rw [if_pos hc, m1]; rfl
      exact ⟨e, if_neg (by rw [e]; decide)⟩
    rw [HF.out.1, HF.out.2]
    clear hc KA HF
    go_enter Try.func15, Try.ntmps15
    go_wp2_with fail
    refine K.out.mono ?_
    rintro e w1 ⟨rfl, rfl⟩
    clear K
    go_wp2_with (go_at_call 49; refine (l7Time_any _ _).mono ?_; rintro e w' ⟨rfl, rfl⟩)
    refine bodyPost_ret (v := .agg #[.int .i64 3, .slice none 0 0]) (by simp [results, Try.results15, go_sem]) rfl ⟨_, _, _, rfl, EO.nil0 _ _ _, ?_⟩
    exact (Below.refl w.heap.size w).alloc (Nat.le_refl _) _
  · have HF : Hid (agC es t = 0 ∧ agV es t = agE t es) := by
      have e : agC es t = 0 := by unfold agC; rw [if_pos hc, m1]; rfl
      exact ⟨e, if_pos e⟩
    rw [HF.out.1, HF.out.2]
    clear hc HF
    go_enter Try.func15, Try.ntmps15
    go_wp2_with fail
    refine K.out.mono ?_
    rintro e w1 ⟨rfl, rfl⟩
    clear K
    go_wp2_with (go_at_call 49; refine (l7Time_any _ _).mono ?_; rintro e w' ⟨rfl, rfl⟩)
    refine KA.out.mono ?_
    rintro e w2 ⟨a2, n2, c2, rfl, o2, b2⟩
    have X2 := X0.out.below b2 X0.out.lt
    obtain ⟨zx, x0, x1⟩ := X2.two
    have f0 := X2.frozen 0
    have f1 := X2.frozen 1
    have B2 := Lib.hid (B0.out.trans (b2.mono B0.out.size))
    have O2 := Lib.hid o2
    clear b2 o2 X2 X0 KA B0
    go_wp2
    refine bodyPost_ret (v := .agg #[.int .i64 0, .slice a2 n2 c2]) (by simp [results, Try.results15, go_sem, x0, x1]) rfl ⟨_, _, _, rfl, ?_, ?_⟩
    · refine ((O2.out.setOff _ _ (by simp)).setOff _ _ (by simp)).mono (by simp) (by simp)
    · exact (B2.out.setCell (Nat.le_refl _) _).setCell (Nat.le_refl _) _
end Go.Proofs.Ytbngdenlplbjhaa
