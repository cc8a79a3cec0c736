/-
  DatagramFault and SameDatagrams of the program, and their laws.
-/
import Derived.Test.YtmcllaefjgdbeaaFlow
import Derived.Test.YtmcllaefjgdbeaaD4Bd
import Derived.Test.YtmcllaefjgdbeaaDgS
import Derived.Test.YtmcllaefjgdbeaaImSame
import Derived.Test.YtmcllaefjgdbeaaStDatagram
namespace Go.Proofs.Ytmcllaefjgdbeaa
open Go.ChangeShapes Go.WideShapes Go.ChangeAt Go.RowKit

/-- a row of n bounds, of these cells, in a block of its own -/
def BdV (W : World) (v : Value) (n : Nat) (cs : Array Value) : Prop := ∃ g, v = .slice (some ⟨g, 0, none⟩) n n ∧ Box W g 67 cs
theorem BdV.below {W W' : World} {n : Nat} {v : Value} {cs : Array Value} (hb : Below W.heap.size W W') (h : BdV W v n cs) : BdV W' v n cs := by
  obtain ⟨g, e, x⟩ := h
  exact ⟨g, e, x.below hb x.lt⟩
theorem BdV.new (W : World) (n : Nat) (cs : Array Value) : BdV (W.alloc (.cells cs 67)) (.slice (some ⟨W.heap.size, 0, none⟩) n n) n cs := ⟨_, rfl, Box.new _ _ _⟩

set_option maxRecDepth 20000 in
set_option maxHeartbeats 4000000 in
theorem implDatagramFault (df dt : Int) (a : Option Addr) (len cap : Nat) (w : World) :
    Calls Try.prog 22 #[.agg #[.int .i64 df, .int .i64 dt, .slice a len cap]] w fun e w' => e = .returned (.int .i64 (dgC df dt len)) ∧ Below w.heap.size w w' := by
  obtain ⟨c, hc⟩ : ∃ c, c = dgC df dt len := ⟨_, rfl⟩
  obtain ⟨q, hq⟩ : ∃ q, q = (inB df 1 65535 && inB dt 1 65535) := ⟨_, rfl⟩
  have HC : Hid ((q = true → len ≤ 552 → c = 0) ∧ (q = true → 552 < len → c = 2) ∧ (q = false → c = 3)) := by
    subst hc hq
    unfold dgC dgB
    refine ⟨fun h h' => ?_, fun h h' => ?_, fun h => ?_⟩
    · rw [if_pos h, if_pos h']
    · rw [if_pos h, if_neg (by omega)]
    · rw [h]; rfl
  have HQ := Lib.hid hq
  rw [← hc]
  clear hc hq
  have B0 := Lib.hid ((Below.refl w.heap.size w).alloc (Nat.le_refl _) (.cells #[.int .i64 df, .int .i64 dt, .slice a len cap] 25))
  have X0 := Lib.hid (Box.new w 25 #[.int .i64 df, .int .i64 dt, .slice a len cap])
  go_enter Try.func22, Try.ntmps22
  go_wp2_with fail
  obtain ⟨n0, hn0⟩ : ∃ n0, n0 = w.heap.size := ⟨_, rfl⟩
  generalize w.alloc (.cells #[.int .i64 df, .int .i64 dt, .slice a len cap] 25) = W0 at *
  have SS := Lib.hid (show ∀ W, Hid (Below W0.heap.size W0 W) → W.cell? ⟨w.heap.size, 0, none⟩ = some (.int .i64 df) ∧ W.cell? ⟨w.heap.size, 1, none⟩ = some (.int .i64 dt) ∧ Hid (Below W0.heap.size W0 W) from fun W h => by
    obtain ⟨_, x0, x1, _⟩ := (X0.out.below h.out X0.out.lt).three
    exact ⟨x0, x1, h⟩)
  have T1 := Lib.hid (Below.refl W0.heap.size W0)
  have hnn := Lib.hid hn0
  have hn0 : n0 ≤ W0.heap.size := by rw [hnn.out]; exact B0.out.size
  have TD := kDrew T1
  refine wp_region_held_drew (S := fun W => W.cell? ⟨w.heap.size, 0, none⟩ = some (.int .i64 df) ∧ W.cell? ⟨w.heap.size, 1, none⟩ = some (.int .i64 dt) ∧ Hid (Below W0.heap.size W0 W)) (by kernel_rfl) (SS.out _ TD) (fun hHeld => ?_)
  refine wpAnyH_take (i := 0) (v := ?_) (by simp only [List.getElem?_toArray, List.getElem?_cons_zero]; exact rfl) (by kernel_rfl) (by kernel_rfl) (by kernel_rfl) (by exact fun _ _ _ h => h) (Or.inl ⟨by rfl, ?_⟩) hHeld ?_
  rotate_left
  · intro w' hSw
    obtain ⟨s0, s1, _⟩ := hSw
    go_simp
    try with_reducible rfl
  try simp only [Act.put, List.setIfInBounds_toArray, List.set_cons_zero, List.set_cons_succ]
  refine wpAnyH_take (i := 1) (v := ?_) (by simp only [List.getElem?_toArray, List.getElem?_cons_zero, List.getElem?_cons_succ]; exact rfl) (by kernel_rfl) (by kernel_rfl) (by kernel_rfl) (by exact fun _ _ _ h => h) (Or.inl ⟨by rfl, ?_⟩) hHeld ?_
  rotate_left
  · intro w' hSw
    obtain ⟨s0, s1, _⟩ := hSw
    go_simp
    try with_reducible rfl
  try simp only [Act.put, List.setIfInBounds_toArray, List.set_cons_zero, List.set_cons_succ]
  refine wpAnyH_take (i := 3) (v := ?_) (by simp only [List.getElem?_toArray, List.getElem?_cons_zero, List.getElem?_cons_succ]; exact rfl) (by kernel_rfl) (by kernel_rfl) (by kernel_rfl) (by exact fun _ _ _ h => h) (Or.inl ⟨by rfl, ?_⟩) hHeld ?_
  rotate_left
  · intro w' hSw
    obtain ⟨s0, s1, _⟩ := hSw
    go_simp
    try with_reducible rfl
  try simp only [Act.put, List.setIfInBounds_toArray, List.set_cons_zero, List.set_cons_succ]
  refine wpAnyH_take (i := 4) (v := ?_) (by simp only [List.getElem?_toArray, List.getElem?_cons_zero, List.getElem?_cons_succ]; exact rfl) (by kernel_rfl) (by kernel_rfl) (by kernel_rfl) (by exact fun _ _ _ h => h) (Or.inl ⟨by rfl, ?_⟩) hHeld ?_
  rotate_left
  · intro w' hSw
    obtain ⟨s0, s1, _⟩ := hSw
    go_simp
    try with_reducible rfl
  try simp only [Act.put, List.setIfInBounds_toArray, List.set_cons_zero, List.set_cons_succ]
  refine flow_go (Inv := fun listed ac W => ∃ v5 v8 v9 v10 v11 : Value, ac = { tmps := #[.agg #[.int .i64 df, .int .i64 dt, .slice a len cap], .pointer (some ⟨w.heap.size, 0, none⟩), .int .i64 0, .pointer (some ⟨w.heap.size, 0, none⟩), .int .i64 df, v5, .pointer (some ⟨w.heap.size, 1, none⟩), .int .i64 dt, v8, v9, v10, v11, undef, undef, undef, undef], defers := [] } ∧ Hid (Below W0.heap.size W0 W) ∧ Fl listed 2 (EqV v5 (.agg #[.int .i64 df, .int .i64 1, .int .i64 65535])) ∧ Fl listed 5 (EqV v8 (.agg #[.int .i64 dt, .int .i64 1, .int .i64 65535])) ∧ Fl listed 6 (BdV W v9 2 #[.int .i64 df, .int .i64 1, .int .i64 65535, .int .i64 dt, .int .i64 1, .int .i64 65535]) ∧ Fl listed 7 (EqV v10 (.bool q)) ∧ Fl listed 8 (EqV v11 (.bool (!q)))) [2, 5, 6, 7, 8] (by kernel_rfl) (by kernel_rfl) ⟨_, _, _, _, _, rfl, TD, Fl.not (by kernel_rfl), Fl.not (by kernel_rfl), Fl.not (by kernel_rfl), Fl.not (by kernel_rfl), Fl.not (by kernel_rfl)⟩
    (FlowAll.cons [] (by simp only [List.getElem?_toArray, List.getElem?_cons_zero, List.getElem?_cons_succ]; exact rfl) (by kernel_rfl) (fun listed ac W hI hu hd K hK => ?_)
      (FlowAll.cons [] (by simp only [List.getElem?_toArray, List.getElem?_cons_zero, List.getElem?_cons_succ]; exact rfl) (by kernel_rfl) (fun listed ac W hI hu hd K hK => ?_)
      (FlowAll.cons [2, 5] (by simp only [List.getElem?_toArray, List.getElem?_cons_zero, List.getElem?_cons_succ]; exact rfl) (by kernel_rfl) (fun listed ac W hI hu hd K hK => ?_)
      (FlowAll.cons [6] (by simp only [List.getElem?_toArray, List.getElem?_cons_zero, List.getElem?_cons_succ]; exact rfl) (by kernel_rfl) (fun listed ac W hI hu hd K hK => ?_)
      (FlowAll.cons [7] (by simp only [List.getElem?_toArray, List.getElem?_cons_zero, List.getElem?_cons_succ]; exact rfl) (by kernel_rfl) (fun listed ac W hI hu hd K hK => ?_)
      FlowAll.nil)))))
    (fun listed ac W hI hall => ?_)
  · obtain ⟨v5, v8, v9, v10, v11, rfl, TB, f2, f5, f6, f7, f8⟩ := hI
    have hnW : n0 ≤ W.heap.size := Nat.le_trans hn0 (kSize TB)
    refine want_none (by exact rfl) ?_
    go_wp2_with fail
    refine (portBound_any df _).mono ?_
    rintro e w' ⟨rfl, hb0⟩
    go_wp2_with fail
    have hb : Below W.heap.size W _ := hb0
    have TB' := kCall hb (kSize TB) TB
    refine hK.out _ _ (SS.out _ TB') ?_
    exact ⟨_, _, _, _, _, rfl, TB', Fl.new (EqV.rfl _), f5.keep (by decide) (keepE hb), f6.keep (by decide) (BdV.below hb), f7.keep (by decide) (keepE hb), f8.keep (by decide) (keepE hb)⟩
  · obtain ⟨v5, v8, v9, v10, v11, rfl, TB, f2, f5, f6, f7, f8⟩ := hI
    have hnW : n0 ≤ W.heap.size := Nat.le_trans hn0 (kSize TB)
    refine want_none (by exact rfl) ?_
    go_wp2_with fail
    refine (portBound_any dt _).mono ?_
    rintro e w' ⟨rfl, hb0⟩
    go_wp2_with fail
    have hb : Below W.heap.size W _ := hb0
    have TB' := kCall hb (kSize TB) TB
    refine hK.out _ _ (SS.out _ TB') ?_
    exact ⟨_, _, _, _, _, rfl, TB', f2.keep (by decide) (keepE hb), Fl.new (EqV.rfl _), f6.keep (by decide) (BdV.below hb), f7.keep (by decide) (keepE hb), f8.keep (by decide) (keepE hb)⟩
  · obtain ⟨v5, v8, v9, v10, v11, rfl, TB, f2, f5, f6, f7, f8⟩ := hI
    have hnW : n0 ≤ W.heap.size := Nat.le_trans hn0 (kSize TB)
    obtain ⟨rfl⟩ := f2.get (hd 2 (by simp))
    obtain ⟨rfl⟩ := f5.get (hd 5 (by simp))
    refine want_none (by exact rfl) ?_
    go_wp2_with fail
    have hb : Below W.heap.size W _ := bAlloc W (.cells #[.int .i64 df, .int .i64 1, .int .i64 65535, .int .i64 dt, .int .i64 1, .int .i64 65535] 67)
    have TB' := kCall hb (kSize TB) TB
    refine hK.out _ _ (SS.out _ TB') ?_
    exact ⟨_, _, _, _, _, rfl, TB', f2.keep (by decide) (keepE hb), f5.keep (by decide) (keepE hb), Fl.new (BdV.new _ _ _), f7.keep (by decide) (keepE hb), f8.keep (by decide) (keepE hb)⟩
  · obtain ⟨v5, v8, v9, v10, v11, rfl, TB, f2, f5, f6, f7, f8⟩ := hI
    have hnW : n0 ≤ W.heap.size := Nat.le_trans hn0 (kSize TB)
    obtain ⟨g, rfl, xG⟩ := f6.get (hd 6 (by simp))
    refine want_none (by exact rfl) ?_
    go_wp2_with fail
    refine (within2 g _ df 1 65535 dt 1 65535 _ xG).mono ?_
    rintro e w' ⟨rfl, hb0⟩
    rw [← HQ.out]
    go_wp2_with fail
    have hb : Below W.heap.size W _ := hb0
    have TB' := kCall hb (kSize TB) TB
    refine hK.out _ _ (SS.out _ TB') ?_
    exact ⟨_, _, _, _, _, rfl, TB', f2.keep (by decide) (keepE hb), f5.keep (by decide) (keepE hb), f6.keep (by decide) (BdV.below hb), Fl.new (EqV.rfl _), f8.keep (by decide) (keepE hb)⟩
  · obtain ⟨v5, v8, v9, v10, v11, rfl, TB, f2, f5, f6, f7, f8⟩ := hI
    have hnW : n0 ≤ W.heap.size := Nat.le_trans hn0 (kSize TB)
    obtain ⟨rfl⟩ := f7.get (hd 7 (by simp))
    refine want_none (by exact rfl) ?_
    go_wp2_with fail
    refine hK.out _ _ (SS.out _ TB) ?_
    exact ⟨_, _, _, _, _, rfl, TB, f2.keep (by decide) id, f5.keep (by decide) id, f6.keep (by decide) id, f7.keep (by decide) id, Fl.new (EqV.rfl _)⟩
  · obtain ⟨v5, v8, v9, v10, v11, rfl, TB, f2, f5, f6, f7, f8⟩ := hI
    have hnW : n0 ≤ W.heap.size := Nat.le_trans hn0 (kSize TB)
    obtain ⟨rfl⟩ := f8.get (hall 8 (by decide))
    have B2 := Lib.hid (B0.out.trans (TB.out.mono B0.out.size))
    have X2 := Lib.hid (X0.out.below TB.out X0.out.lt)
    obtain ⟨_, x0, x1, x2⟩ := X2.out.three
    clear f2 f5 f6 f7 f8 TB hall
    cases q
    · go_wp2
      go_ret
      exact ⟨ret_i (HC.out.2.2 (by simp)).symm, B2.out⟩
    rcases Nat.lt_or_ge 552 len with hl | hl
    · have hl' : ¬ len ≤ 552 := Nat.not_le.2 hl
      go_wp2
      go_ret
      exact ⟨ret_i (HC.out.2.1 (by simp) hl).symm, B2.out⟩
    · have hl' : len ≤ 552 := hl
      go_wp2
      go_ret
      exact ⟨ret_i (HC.out.1 (by simp) hl).symm, B2.out⟩

theorem datagramFault_law (df dt : Int) (a : Option Addr) (len cap : Nat) (zs : List Int) (w : World) (hr : Rd w a len cap zs) :
    Calls Try.prog 5 #[.agg #[.int .i64 df, .int .i64 dt, .slice a len cap]] w fun e w' => e = .returned (.bool true) ∧ Below w.heap.size w w' :=
  exactDatagramFault df dt a len cap zs w hr (dgC df dt zs.length) (fun a' l' c' W h => by rw [h.length]; exact specDatagramFault df dt a' l' c' W) (fun a' l' c' W h => by rw [h.length]; exact implDatagramFault df dt a' l' c' W)

set_option maxHeartbeats 1000000 in
theorem implSameDatagrams (df dt : Int) (a : Option Addr) (len cap : Nat) (zs : List Int) (df' dt' : Int) (a' : Option Addr) (len' cap' : Nat) (zs' : List Int) (w : World) (hr : Rd w a len cap zs) (hr' : Rd w a' len' cap' zs') :
    Calls Try.prog 19 #[.agg #[.int .i64 df, .int .i64 dt, .slice a len cap], .agg #[.int .i64 df', .int .i64 dt', .slice a' len' cap']] w fun e w' => e = .returned (.bool (sameD df dt zs df' dt' zs')) ∧ Below w.heap.size w w' := by
  have B0 := Lib.hid (((Below.refl w.heap.size w).alloc (Nat.le_refl _) (.cells #[.int .i64 df, .int .i64 dt, .slice a len cap] 25)).alloc (by simp) (.cells #[.int .i64 df', .int .i64 dt', .slice a' len' cap'] 25))
  have K := Lib.hid (fun W (hW : Below w.heap.size w W) => equal_any a len cap zs a' len' cap' zs' W (hr.below hW) (hr'.below hW))
  have H : Hid (sameD df dt zs df' dt' zs' = ((df == df') && (dt == dt') && eqL zs zs')) := by simp [Hid, sameD, BEq.beq]
  clear hr hr'
  generalize sameD df dt zs df' dt' zs' = v at *
  generalize eqL zs zs' = q at *
  cases m0 : (df == df')
  case' true => cases m1 : (dt == dt')
  all_goals
    go_enter Try.func19, Try.ntmps19
    go_wp2_with (go_at_call 64; refine (K.out _ B0.out).mono ?_; rintro e w' ⟨rfl, rfl⟩)
    go_ret
    exact ⟨ret_b (by rw [H.out]; simp [*]), B0.out⟩

theorem sameDatagrams_law (df dt : Int) (a : Option Addr) (len cap : Nat) (zs : List Int) (df' dt' : Int) (a' : Option Addr) (len' cap' : Nat) (zs' : List Int) (w : World) (hr : Rd w a len cap zs) (hr' : Rd w a' len' cap' zs') :
    Calls Try.prog 8 #[.agg #[.int .i64 df, .int .i64 dt, .slice a len cap], .agg #[.int .i64 df', .int .i64 dt', .slice a' len' cap']] w fun e w' => e = .returned (.bool true) ∧ Below w.heap.size w w' :=
  exactSameDatagrams df dt a len cap zs df' dt' a' len' cap' zs' w hr hr' (sameD df dt zs df' dt' zs') (fun b l c b' l' c' W h h' => specSameDatagrams df dt b l c zs df' dt' b' l' c' zs' W h h') (fun b l c b' l' c' W h h' => implSameDatagrams df dt b l c zs df' dt' b' l' c' zs' W h h')
end Go.Proofs.Ytmcllaefjgdbeaa
