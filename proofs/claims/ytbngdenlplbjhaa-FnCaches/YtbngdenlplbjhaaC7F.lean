/-
  CacheFault of the program.
-/
import Derived.Test.YtbngdenlplbjhaaC7N
import Derived.Test.YtbngdenlplbjhaaR7
import Derived.Test.YtbngdenlplbjhaaE7S
namespace Go.Proofs.Ytbngdenlplbjhaa
open Go.ChangeShapes Go.WideShapes Go.ChangeAt Go.RowKit

theorem macBound_any (n : Int) (w : World) : Calls Try.prog 39 #[.int .i64 n] w fun e w' => e = .returned (.agg #[.int .i64 n, .int .i64 0, .int .i64 281474976710655]) ∧ Below w.heap.size w w' := by
  go_enter Try.func39, Try.ntmps39
  go_wp2
  exact bodyPost_ret (v := .agg #[.int .i64 n, .int .i64 0, .int .i64 281474976710655]) (by simp [results, Try.results39, go_sem]) rfl ⟨rfl, (Below.refl _ _).alloc (Nat.le_refl _) _⟩
theorem timeBound_any (n : Int) (w : World) : Calls Try.prog 40 #[.int .i64 n] w fun e w' => e = .returned (.agg #[.int .i64 n, .int .i64 0, .int .i64 100000000]) ∧ Below w.heap.size w w' := by
  go_enter Try.func40, Try.ntmps40
  go_wp2
  exact bodyPost_ret (v := .agg #[.int .i64 n, .int .i64 0, .int .i64 100000000]) (by simp [results, Try.results40, go_sem]) rfl ⟨rfl, (Below.refl _ _).alloc (Nat.le_refl _) _⟩

def okE (e : En) : Bool := inB e.i 0 4294967295 && inB e.m 0 281474976710655 && inB e.u 0 100000000
def cfC (es : List En) : Int := if 4 < es.length then 2 else if es.all okE = true then (if (ips es).Nodup then 0 else 10) else 3
theorem cfC_many {es : List En} (h : 4 < es.length) : cfC es = 2 := if_pos h
theorem cfC_range {es : List En} (h : ¬ 4 < es.length) {k : Nat} {e : En} (he : es[k]? = some e) (hb : okE e = false) : cfC es = 3 := by
  unfold cfC
  rw [if_neg h, if_neg]
  intro ha
  rw [List.all_eq_true] at ha
  have := ha e (List.mem_of_getElem? he)
  rw [hb] at this
  cases this
theorem cfC_all {es : List En} (h : ¬ 4 < es.length) (ha : es.all okE = true) : cfC es = if (ips es).Nodup then 0 else 10 := by
  unfold cfC
  rw [if_neg h, if_pos ha]
theorem okE_i {e : En} (h : okE e = true) : okI e.i := by
  unfold okE at h
  simp only [Bool.and_eq_true, inB, decide_eq_true_eq] at h
  exact h.1.1
theorem all_succ {es : List En} {k : Nat} {e : En} (he : es[k]? = some e) (h : (es.take k).all okE = true) (hb : okE e = true) : (es.take (k + 1)).all okE = true := by
  rw [List.take_add_one, he, List.all_append, h]
  simp [hb]

set_option maxRecDepth 20000 in
set_option maxHeartbeats 8000000 in
theorem implCacheFault (a : Option Addr) (len cap : Nat) (es : List En) (w : World) (h : Le w a len cap es) :
    Calls Try.prog 16 #[.slice a len cap] w fun e w' => e = .returned (.int .i64 (cfC es)) ∧ Below w.heap.size w w' := by
  have HP := Lib.hid h
  have HL := Lib.hid h.length
  have hlm : len ≤ maxLen := Nat.le_trans h.le h.max
  unfold maxLen at hlm
  clear h
  by_cases h4 : 4 < len
  · have H : Hid (cfC es = 2) := cfC_many (by rw [HL.out]; exact h4)
    go_enter Try.func16, Try.ntmps16
    go_wp2
    go_ret
    exact ⟨ret_i H.out.symm, Below.refl _ _⟩
  have H4 : Hid (¬ 4 < es.length) := by simp only [Hid]; rw [HL.out]; exact h4
  go_enter Try.func16, Try.ntmps16
  go_wp2
  go_loopw [10] (fun i wr => ∃ k : Nat, k ≤ len ∧ i = .int .i64 k ∧ Hid ((es.take k).all okE = true) ∧ Hid (Below w.heap.size w wr)) (fun i _ => len - (intOf i).toNat)
  case atStart => exact ⟨0, Nat.zero_le _, rfl, by simp [Hid], Below.refl _ _⟩
  case round =>
    obtain ⟨k, hk, rfl, hT, hB⟩ := hrel
    by_cases hlt : k < len
    · obtain ⟨b, off, e, rfl, hp, c0, c1, c2⟩ := (HP.out.below hB.out).at hlt
      obtain ⟨qi, qm, qu⟩ := e
      simp only at c0 c1 c2
      obtain ⟨q, hq⟩ : ∃ q, q = (inB qi 0 4294967295 && inB qm 0 281474976710655 && inB qu 0 100000000) := ⟨_, rfl⟩
      have hQ : Hid ((q = true → (es.take (k + 1)).all okE = true) ∧ (q = false → cfC es = 3)) := ⟨fun h => all_succ hp hT.out (by rw [hq] at h; exact h), fun h => cfC_range H4.out hp (by rw [hq] at h; exact h)⟩
      have HQ := Lib.hid hq
      have BA := Lib.hid (hB.out.alloc hB.out.size (.cells #[.int .i64 qi, .int .i64 qm, .int .i64 qu] 43))
      have XA := Lib.hid (Box.new wr 43 #[.int .i64 qi, .int .i64 qm, .int .i64 qu])
      clear hp hq hT hB
      go_wp2_with fail
      generalize wr.alloc (.cells #[.int .i64 qi, .int .i64 qm, .int .i64 qu] 43) = W0 at *
      clear c0 c1 c2
      obtain ⟨n0, hn0'⟩ : ∃ n0, n0 = W0.heap.size := ⟨_, rfl⟩
      have hn0 : n0 ≤ W0.heap.size := by omega
      clear hn0'
      have SS := Lib.hid (show ∀ W, Hid (Below W0.heap.size W0 W) → W.cell? ⟨wr.heap.size, 0, none⟩ = some (.int .i64 qi) ∧ W.cell? ⟨wr.heap.size, 1, none⟩ = some (.int .i64 qm) ∧ W.cell? ⟨wr.heap.size, 2, none⟩ = some (.int .i64 qu) ∧ Hid (Below W0.heap.size W0 W) from fun W h => by
        obtain ⟨_, x0, x1, x2⟩ := (XA.out.below h.out XA.out.lt).r3
        exact ⟨x0, x1, x2, h⟩)
      have T1 := Lib.hid (Below.refl W0.heap.size W0)
      have TD := kDrew T1
      refine wp_region_held_drew (S := fun W => W.cell? ⟨wr.heap.size, 0, none⟩ = some (.int .i64 qi) ∧ W.cell? ⟨wr.heap.size, 1, none⟩ = some (.int .i64 qm) ∧ W.cell? ⟨wr.heap.size, 2, none⟩ = some (.int .i64 qu) ∧ Hid (Below W0.heap.size W0 W)) (by kernel_rfl) (SS.out _ TD) (fun hHeld => ?_)
      refine wpAnyH_take (i := 0) (v := ?_) (by simp only [List.getElem?_toArray, List.getElem?_cons_zero]; exact rfl) (by kernel_rfl) (by kernel_rfl) (by kernel_rfl) (by exact fun _ _ _ h => h) (Or.inl ⟨by rfl, ?_⟩) hHeld ?_
      rotate_left
      · intro w' hSw
        obtain ⟨s0, s1, s2, _⟩ := hSw
        go_simp
        try with_reducible rfl
      try simp only [Act.put, List.setIfInBounds_toArray, List.set_cons_zero, List.set_cons_succ]
      refine wpAnyH_take (i := 1) (v := ?_) (by simp only [List.getElem?_toArray, List.getElem?_cons_zero, List.getElem?_cons_succ]; exact rfl) (by kernel_rfl) (by kernel_rfl) (by kernel_rfl) (by exact fun _ _ _ h => h) (Or.inl ⟨by rfl, ?_⟩) hHeld ?_
      rotate_left
      · intro w' hSw
        obtain ⟨s0, s1, s2, _⟩ := hSw
        go_simp
        try with_reducible rfl
      try simp only [Act.put, List.setIfInBounds_toArray, List.set_cons_zero, List.set_cons_succ]
      refine wpAnyH_take (i := 3) (v := ?_) (by simp only [List.getElem?_toArray, List.getElem?_cons_zero, List.getElem?_cons_succ]; exact rfl) (by kernel_rfl) (by kernel_rfl) (by kernel_rfl) (by exact fun _ _ _ h => h) (Or.inl ⟨by rfl, ?_⟩) hHeld ?_
      rotate_left
      · intro w' hSw
        obtain ⟨s0, s1, s2, _⟩ := hSw
        go_simp
        try with_reducible rfl
      try simp only [Act.put, List.setIfInBounds_toArray, List.set_cons_zero, List.set_cons_succ]
      refine wpAnyH_take (i := 4) (v := ?_) (by simp only [List.getElem?_toArray, List.getElem?_cons_zero, List.getElem?_cons_succ]; exact rfl) (by kernel_rfl) (by kernel_rfl) (by kernel_rfl) (by exact fun _ _ _ h => h) (Or.inl ⟨by rfl, ?_⟩) hHeld ?_
      rotate_left
      · intro w' hSw
        obtain ⟨s0, s1, s2, _⟩ := hSw
        go_simp
        try with_reducible rfl
      try simp only [Act.put, List.setIfInBounds_toArray, List.set_cons_zero, List.set_cons_succ]
      refine wpAnyH_take (i := 6) (v := ?_) (by simp only [List.getElem?_toArray, List.getElem?_cons_zero, List.getElem?_cons_succ]; exact rfl) (by kernel_rfl) (by kernel_rfl) (by kernel_rfl) (by exact fun _ _ _ h => h) (Or.inl ⟨by rfl, ?_⟩) hHeld ?_
      rotate_left
      · intro w' hSw
        obtain ⟨s0, s1, s2, _⟩ := hSw
        go_simp
        try with_reducible rfl
      try simp only [Act.put, List.setIfInBounds_toArray, List.set_cons_zero, List.set_cons_succ]
      refine wpAnyH_take (i := 7) (v := ?_) (by simp only [List.getElem?_toArray, List.getElem?_cons_zero, List.getElem?_cons_succ]; exact rfl) (by kernel_rfl) (by kernel_rfl) (by kernel_rfl) (by exact fun _ _ _ h => h) (Or.inl ⟨by rfl, ?_⟩) hHeld ?_
      rotate_left
      · intro w' hSw
        obtain ⟨s0, s1, s2, _⟩ := hSw
        go_simp
        try with_reducible rfl
      try simp only [Act.put, List.setIfInBounds_toArray, List.set_cons_zero, List.set_cons_succ]
      refine flow_go (Inv := fun listed ac W => ∃ v16 v19 v22 v23 v24 v25 : Value, ac = { tmps := #[_, _, _, _, .pointer (some ⟨wr.heap.size, 0, none⟩), _, _, _, _, _, _, _, _, _, .pointer (some ⟨wr.heap.size, 0, none⟩), .int .i64 qi, v16, .pointer (some ⟨wr.heap.size, 1, none⟩), .int .i64 qm, v19, .pointer (some ⟨wr.heap.size, 2, none⟩), .int .i64 qu, v22, v23, v24, v25, _, _, _, _, _, _, _], defers := [] } ∧ Hid (Below W0.heap.size W0 W) ∧ Fl listed 2 (EqV v16 (.agg #[.int .i64 qi, .int .i64 0, .int .i64 4294967295])) ∧ Fl listed 5 (EqV v19 (.agg #[.int .i64 qm, .int .i64 0, .int .i64 281474976710655])) ∧ Fl listed 8 (EqV v22 (.agg #[.int .i64 qu, .int .i64 0, .int .i64 100000000])) ∧ Fl listed 9 (B7V W v23 3 #[.int .i64 qi, .int .i64 0, .int .i64 4294967295, .int .i64 qm, .int .i64 0, .int .i64 281474976710655, .int .i64 qu, .int .i64 0, .int .i64 100000000]) ∧ Fl listed 10 (EqV v24 (.bool q)) ∧ Fl listed 11 (EqV v25 (.bool (!q)))) [2, 5, 8, 9, 10, 11] (by kernel_rfl) (by kernel_rfl) ⟨_, _, _, _, _, _, rfl, TD, Fl.not (by kernel_rfl), Fl.not (by kernel_rfl), Fl.not (by kernel_rfl), Fl.not (by kernel_rfl), Fl.not (by kernel_rfl), Fl.not (by kernel_rfl)⟩
        (FlowAll.cons [] (by simp only [List.getElem?_toArray, List.getElem?_cons_zero, List.getElem?_cons_succ]; exact rfl) (by kernel_rfl) (fun listed ac W hI hu hd K hK => ?_)
          (FlowAll.cons [] (by simp only [List.getElem?_toArray, List.getElem?_cons_zero, List.getElem?_cons_succ]; exact rfl) (by kernel_rfl) (fun listed ac W hI hu hd K hK => ?_)
          (FlowAll.cons [] (by simp only [List.getElem?_toArray, List.getElem?_cons_zero, List.getElem?_cons_succ]; exact rfl) (by kernel_rfl) (fun listed ac W hI hu hd K hK => ?_)
          (FlowAll.cons [2, 5, 8] (by simp only [List.getElem?_toArray, List.getElem?_cons_zero, List.getElem?_cons_succ]; exact rfl) (by kernel_rfl) (fun listed ac W hI hu hd K hK => ?_)
          (FlowAll.cons [9] (by simp only [List.getElem?_toArray, List.getElem?_cons_zero, List.getElem?_cons_succ]; exact rfl) (by kernel_rfl) (fun listed ac W hI hu hd K hK => ?_)
          (FlowAll.cons [10] (by simp only [List.getElem?_toArray, List.getElem?_cons_zero, List.getElem?_cons_succ]; exact rfl) (by kernel_rfl) (fun listed ac W hI hu hd K hK => ?_)
          FlowAll.nil))))))
        (fun listed ac W hI hall => ?_)
      · obtain ⟨v16, v19, v22, v23, v24, v25, rfl, TB, f2, f5, f8, f9, f10, f11⟩ := hI
        have hnW : n0 ≤ W.heap.size := Nat.le_trans hn0 (kSize TB)
        refine want_none (by exact rfl) ?_
        go_wp2_with fail
        refine (ipBound_any qi _).mono ?_
        rintro e w' ⟨rfl, hb0⟩
        go_wp2_with fail
        have hb : Below W.heap.size W _ := hb0
        have TB' := kCall hb (kSize TB) TB
        refine hK.out _ _ (SS.out _ TB') ?_
        exact ⟨_, _, _, _, _, _, rfl, TB', Fl.new (EqV.rfl _), f5.keep (by decide) (keepE hb), f8.keep (by decide) (keepE hb), f9.keep (by decide) (B7V.below hb), f10.keep (by decide) (keepE hb), f11.keep (by decide) (keepE hb)⟩
      · obtain ⟨v16, v19, v22, v23, v24, v25, rfl, TB, f2, f5, f8, f9, f10, f11⟩ := hI
        have hnW : n0 ≤ W.heap.size := Nat.le_trans hn0 (kSize TB)
        refine want_none (by exact rfl) ?_
        go_wp2_with fail
        refine (macBound_any qm _).mono ?_
        rintro e w' ⟨rfl, hb0⟩
        go_wp2_with fail
        have hb : Below W.heap.size W _ := hb0
        have TB' := kCall hb (kSize TB) TB
        refine hK.out _ _ (SS.out _ TB') ?_
        exact ⟨_, _, _, _, _, _, rfl, TB', f2.keep (by decide) (keepE hb), Fl.new (EqV.rfl _), f8.keep (by decide) (keepE hb), f9.keep (by decide) (B7V.below hb), f10.keep (by decide) (keepE hb), f11.keep (by decide) (keepE hb)⟩
      · obtain ⟨v16, v19, v22, v23, v24, v25, rfl, TB, f2, f5, f8, f9, f10, f11⟩ := hI
        have hnW : n0 ≤ W.heap.size := Nat.le_trans hn0 (kSize TB)
        refine want_none (by exact rfl) ?_
        go_wp2_with fail
        refine (timeBound_any qu _).mono ?_
        rintro e w' ⟨rfl, hb0⟩
        go_wp2_with fail
        have hb : Below W.heap.size W _ := hb0
        have TB' := kCall hb (kSize TB) TB
        refine hK.out _ _ (SS.out _ TB') ?_
        exact ⟨_, _, _, _, _, _, rfl, TB', f2.keep (by decide) (keepE hb), f5.keep (by decide) (keepE hb), Fl.new (EqV.rfl _), f9.keep (by decide) (B7V.below hb), f10.keep (by decide) (keepE hb), f11.keep (by decide) (keepE hb)⟩
      · obtain ⟨v16, v19, v22, v23, v24, v25, rfl, TB, f2, f5, f8, f9, f10, f11⟩ := hI
        have hnW : n0 ≤ W.heap.size := Nat.le_trans hn0 (kSize TB)
        obtain ⟨rfl⟩ := f2.get (hd 2 (by simp))
        obtain ⟨rfl⟩ := f5.get (hd 5 (by simp))
        obtain ⟨rfl⟩ := f8.get (hd 8 (by simp))
        refine want_none (by exact rfl) ?_
        go_wp2_with fail
        have hb : Below W.heap.size W _ := bAlloc W (.cells #[.int .i64 qi, .int .i64 0, .int .i64 4294967295, .int .i64 qm, .int .i64 0, .int .i64 281474976710655, .int .i64 qu, .int .i64 0, .int .i64 100000000] 77)
        have TB' := kCall hb (kSize TB) TB
        refine hK.out _ _ (SS.out _ TB') ?_
        exact ⟨_, _, _, _, _, _, rfl, TB', f2.keep (by decide) (keepE hb), f5.keep (by decide) (keepE hb), f8.keep (by decide) (keepE hb), Fl.new (B7V.new _ _ _), f10.keep (by decide) (keepE hb), f11.keep (by decide) (keepE hb)⟩
      · obtain ⟨v16, v19, v22, v23, v24, v25, rfl, TB, f2, f5, f8, f9, f10, f11⟩ := hI
        have hnW : n0 ≤ W.heap.size := Nat.le_trans hn0 (kSize TB)
        obtain ⟨g, rfl, xG⟩ := f9.get (hd 9 (by simp))
        refine want_none (by exact rfl) ?_
        go_wp2_with fail
        refine (within3 g _ qi 0 4294967295 qm 0 281474976710655 qu 0 100000000 _ xG).mono ?_
        rintro e w' ⟨rfl, hb0⟩
        rw [← HQ.out]
        go_wp2_with fail
        have hb : Below W.heap.size W _ := hb0
        have TB' := kCall hb (kSize TB) TB
        refine hK.out _ _ (SS.out _ TB') ?_
        exact ⟨_, _, _, _, _, _, rfl, TB', f2.keep (by decide) (keepE hb), f5.keep (by decide) (keepE hb), f8.keep (by decide) (keepE hb), f9.keep (by decide) (B7V.below hb), Fl.new (EqV.rfl _), f11.keep (by decide) (keepE hb)⟩
      · obtain ⟨v16, v19, v22, v23, v24, v25, rfl, TB, f2, f5, f8, f9, f10, f11⟩ := hI
        have hnW : n0 ≤ W.heap.size := Nat.le_trans hn0 (kSize TB)
        obtain ⟨rfl⟩ := f10.get (hd 10 (by simp))
        refine want_none (by exact rfl) ?_
        go_wp2_with fail
        refine hK.out _ _ (SS.out _ TB) ?_
        exact ⟨_, _, _, _, _, _, rfl, TB, f2.keep (by decide) id, f5.keep (by decide) id, f8.keep (by decide) id, f9.keep (by decide) id, f10.keep (by decide) id, Fl.new (EqV.rfl _)⟩
      · obtain ⟨v16, v19, v22, v23, v24, v25, rfl, TB, f2, f5, f8, f9, f10, f11⟩ := hI
        have hnW : n0 ≤ W.heap.size := Nat.le_trans hn0 (kSize TB)
        obtain ⟨rfl⟩ := f11.get (hall 11 (by decide))
        have B2 := Lib.hid (BA.out.trans (TB.out.mono BA.out.size))
        clear SS f2 f5 f8 f9 f10 f11 TB hall XA BA T1 hHeld
        cases q
        · have hF := Lib.hid (hQ.out.2 (by simp))
          go_wp2
          go_ret
          exact ⟨ret_i hF.out.symm, B2.out⟩
        · have hA := Lib.hid (hQ.out.1 (by simp))
          go_wp2
          go_roundw
          case rel => exact ⟨k + 1, by omega, by go_num, hA.out, B2.out⟩
          case measure => simp [intOf]; omega
    · obtain rfl : k = len := by omega
      have hA : es.all okE = true := by
        have e := hT.out
        rwa [List.take_of_length_le (by rw [HL.out]; exact Nat.le_refl _)] at e
      have HC := Lib.hid (cfC_all H4.out hA)
      have KN := Lib.hid (notesOf_any a k cap es wr (HP.out.below hB.out) (fun e he => okE_i (List.all_eq_true.1 hA e he)))
      clear hA hT
      go_wp2_with fail
      refine KN.out.mono ?_
      rintro e w2 ⟨b2, ns, ms, clock, rfl, m2, hb2, hf, bb2⟩
      have hlen := fun ty => m2.len ty
      have B2 := Lib.hid (hB.out.trans (bb2.mono hB.out.size))
      have tk : es.take k = es := List.take_of_length_le (by rw [HL.out]; exact Nat.le_refl _)
      have fl := hf.lt
      have fe := hf.eq
      have fle := hf.le
      rw [tk] at fl fe
      clear bb2 hB KN m2 hf tk
      by_cases hn : (ips es).Nodup
      · have HV : Hid (cfC es = 0) := HC.out.trans (if_pos hn)
        have hl : ns.length = k := by rw [fe hn, ntsF_len, HL.out]
        have hlt2 : ¬ ns.length < k := by omega
        clear fe fl hn
        go_wp2
        go_ret
        exact ⟨ret_i HV.out.symm, B2.out⟩
      · have HV : Hid (cfC es = 10) := HC.out.trans (if_neg hn)
        have hl := fl hn
        have hlt2 : ns.length < k := by omega
        clear fe fl hn
        go_wp2
        go_ret
        exact ⟨ret_i HV.out.symm, B2.out⟩
end Go.Proofs.Ytbngdenlplbjhaa
