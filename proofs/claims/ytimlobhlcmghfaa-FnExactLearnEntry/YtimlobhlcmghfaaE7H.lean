/-
  Contracts of the helpers of the laws that size, copy and compare lists of entries.
-/
import Derived.Test.YtimlobhlcmghfaaE7M
import Derived.Deep.QuietTactic
import Derived.BigQuiet
namespace Go.Proofs.Ytimlobhlcmghfaa
open Go.ChangeShapes Go.WideShapes Go.ChangeAt Go.RowKit

theorem szEntryS_t (a : Option Addr) (len cap : Nat) (l : Nat) (w : World) (hs : len ≤ l) (hl : l ≤ 1048576) :
    Calls Try.prog 53 #[.slice a len cap, .int .i64 l] w fun e w' => e = .returned (.int .i64 (l - len : Nat)) ∧ w = w' := by
  have hn : ¬ (l : Int) - (len : Int) < 0 := by omega
  go_enter Try.func53, Try.ntmps53
  go_wp2
  go_ret
  exact ⟨by go_num, rfl⟩
theorem szEntryS_f (a : Option Addr) (len cap : Nat) (l : Nat) (w : World) (hs : ¬ len ≤ l) (hl : l ≤ 1048576) (hm : len ≤ maxLen) :
    Calls Try.prog 53 #[.slice a len cap, .int .i64 l] w fun e w' => e = .returned (.int .i64 (-1)) ∧ w = w' := by
  unfold maxLen at hm
  have hn : (l : Int) - (len : Int) < 0 := by omega
  go_enter Try.func53, Try.ntmps53
  go_wp2
  go_ret
  exact ⟨rfl, rfl⟩

theorem Try.infoEntry : (Try.prog.info? 57).map (fun i => (i.zero, i.size, i.bytes)) = some (some (.agg #[.int .i64 0, .int .i64 0, .int .i64 0]), 3, 24) := by kernel_rfl

set_option maxHeartbeats 1000000 in
theorem toEntry_any (i m u : Int) (w : World) :
    Calls Try.prog 133 #[.agg #[.int .i64 i, .int .i64 m, .int .i64 u]] w fun e w' => e = .returned (.agg #[.int .i64 i, .int .i64 m, .int .i64 u]) ∧ Below w.heap.size w w' := by
  go_enter Try.func133, Try.ntmps133
  go_wp2
  refine bodyPost_ret (v := .agg #[.int .i64 i, .int .i64 m, .int .i64 u]) (by simp [results, Try.results133, go_sem]) rfl ⟨rfl, ?_⟩
  exact (((Below.refl w.heap.size w).alloc (Nat.le_refl _) (.cells #[.int .i64 i, .int .i64 m, .int .i64 u] 174)).alloc (by simp) (.cells #[.int .i64 i, .int .i64 m, .int .i64 u] 57)).alloc (by simp; omega) (.cells #[.int .i64 i, .int .i64 m, .int .i64 u] 57)

/-- a list of these entries in new memory -/
def EnOut (w : World) (len : Nat) (es : List En) (e : Ending) (w' : World) : Prop :=
  ∃ a' c', e = .returned (.slice a' len c') ∧ Lw w' w.heap.size a' len c' es ∧ Below w.heap.size w w'
theorem take_rep_set {α : Type} (es : List α) (z : α) (k : Nat) (e : α) (hp : es[k]? = some e) : (es.take k ++ List.replicate (es.length - k) z).set k e = es.take (k + 1) ++ List.replicate (es.length - (k + 1)) z := by
  have hk := (List.getElem?_eq_some_iff.1 hp).1
  rw [List.set_append_right _ _ (by simp; omega), show k - (es.take k).length = 0 by simp; omega, show es.length - k = (es.length - (k + 1)) + 1 by omega, List.replicate_succ, List.set_cons_zero, List.take_add_one, hp]
  simp

set_option maxHeartbeats 1000000 in
theorem toEntryS_any (a : Option Addr) (len cap : Nat) (es : List En) (w : World) (h : Le w a len cap es) (hl : len ≤ 1048576) :
    Calls Try.prog 54 #[.slice a len cap] w (EnOut w len es) := by
  obtain ⟨i0, hi, hz0, hz1, hz2⟩ := info_parts Try.infoEntry
  have HP := Lib.hid h
  have HL := Lib.hid h.length
  have hm : len ≤ maxLen := by unfold maxLen; omega
  clear h
  go_enter Try.func54, Try.ntmps54
  go_wp2_with (at_make; refine wpList_make_full _ rfl (.tmp 6) (.tmp 6) 40 rfl w.heap.size 57 i0 (.agg #[.int .i64 0, .int .i64 0, .int .i64 0]) 3 Try.underlying40 hi hz0 hz1 .i64 .i64 len len len rfl rfl rfl rfl (by rw [hz2]; omega) hm (Nat.le_refl _) ?_; intro w1 hown hgrow)
  have hO : Hid (Lw w1 w.heap.size (some ⟨w.heap.size, 0, none⟩) len len (List.replicate len zEn)) := ⟨by rw [← made_entries]; exact hown⟩
  have hB := Lib.hid (below_of_grown hgrow (Nat.le_refl _) (by simp))
  clear hown hgrow hi hz0 hz1 hz2
  go_loopw [4] (fun i wr => ∃ k : Nat, k ≤ len ∧ i = .int .i64 k ∧ Hid (Lw wr w.heap.size (some ⟨w.heap.size, 0, none⟩) len len (es.take k ++ List.replicate (len - k) zEn)) ∧ Hid (Below w.heap.size w wr)) (fun i _ => len - (intOf i).toNat)
  case atStart => exact ⟨0, Nat.zero_le _, rfl, by simpa [Hid] using hO.out, hB.out⟩
  case round =>
    obtain ⟨k, hk, rfl, hown, hb⟩ := hrel
    clear hO hB
    by_cases hlt : k < len
    · obtain ⟨b, off, q, rfl, hp, c0, c1, c2⟩ := (HP.out.below hb.out).at hlt
      have hts := Lib.hid (take_rep_set es zEn k q hp)
      rw [HL.out] at hts
      clear hp
      obtain ⟨qi, qm, qu⟩ := q
      simp only at c0 c1 c2
      have K := Lib.hid (toEntry_any qi qm qu wr)
      go_wp2_with fail
      refine K.out.mono ?_
      rintro e w2 ⟨rfl, b2⟩
      have O2 := Lib.hid (hown.out.below b2)
      have N2 := Lib.hid (O2.out.put k hlt ⟨qi, qm, qu⟩)
      rw [hts.out] at N2
      have B2 := Lib.hid (hb.out.trans (b2.mono hb.out.size))
      obtain ⟨_, _, _, e0, _, q0, q1, q2⟩ := O2.out.le.at hlt
      cases e0
      have f0 := O2.out.frozenAt (k * 3)
      have f1 := O2.out.frozenAt (k * 3 + 1)
      have f2 := O2.out.frozenAt (k * 3 + 2)
      simp only [Nat.zero_add] at q0 q1 q2
      clear b2 hown hb c0 c1 c2 O2 K hts
      go_wp2
      go_roundw
      case rel => exact ⟨k + 1, by omega, by go_num, N2.out, ((B2.out.setCell (Nat.le_refl _) _).setCell (Nat.le_refl _) _).setCell (Nat.le_refl _) _⟩
      case measure => simp [intOf]; omega
    · obtain rfl : k = len := by omega
      have hE : Hid (Lw wr w.heap.size (some ⟨w.heap.size, 0, none⟩) k k es) := by
        have := hown.out
        rw [List.take_of_length_le (by rw [HL.out]; exact Nat.le_refl _)] at this
        simpa [Hid] using this
      clear hown
      go_wp2
      go_ret
      exact ⟨_, _, rfl, hE.out, hb.out⟩

def eqEn (p q : En) : Bool := decide (p = q)
def eqE (es fs : List En) : Bool := decide (es = fs)
theorem eqE_refl (es : List En) : eqE es es = true := decide_eq_true rfl
theorem en_ne {p q : En} : p ≠ q ↔ p.i ≠ q.i ∨ (p.i = q.i ∧ p.m ≠ q.m) ∨ (p.i = q.i ∧ p.m = q.m ∧ p.u ≠ q.u) := by
  obtain ⟨a, b, c⟩ := p
  obtain ⟨d, e, f⟩ := q
  simp only [ne_eq, En.mk.injEq]
  by_cases h0 : a = d <;> by_cases h1 : b = e <;> by_cases h2 : c = f <;> simp [h0, h1, h2]
set_option maxHeartbeats 1000000 in
theorem eqEntry_any (p q : En) (w : World) :
    Calls Try.prog 134 #[.agg #[.int .i64 p.i, .int .i64 p.m, .int .i64 p.u], .agg #[.int .i64 q.i, .int .i64 q.m, .int .i64 q.u]] w fun e w' => e = .returned (.bool (eqEn p q)) ∧ Below w.heap.size w w' := by
  have B0 := Lib.hid (((Below.refl w.heap.size w).alloc (Nat.le_refl _) (.cells #[.int .i64 p.i, .int .i64 p.m, .int .i64 p.u] 57)).alloc (by simp) (.cells #[.int .i64 q.i, .int .i64 q.m, .int .i64 q.u] 57))
  by_cases hpq : p = q
  · subst hpq
    have H : Hid (eqEn p p = true) := decide_eq_true rfl
    have h0 : (p.i != p.i) = false := by simp
    have h1 : (p.m != p.m) = false := by simp
    have h2 : (p.u != p.u) = false := by simp
    go_enter Try.func134, Try.ntmps134
    go_wp2
    go_ret
    exact ⟨ret_b H.out.symm, B0.out⟩
  · have H : Hid (eqEn p q = false) := decide_eq_false hpq
    have hh := en_ne.1 hpq
    clear hpq
    generalize eqEn p q = v at *
    obtain ⟨a, b, c⟩ := p
    obtain ⟨d, e, f⟩ := q
    simp only at hh B0 ⊢
    rcases hh with h0 | ⟨rfl, h1⟩ | ⟨rfl, rfl, h2⟩
    · have e0 : (a != d) = true := by simpa using h0
      go_enter Try.func134, Try.ntmps134
      go_wp2
      go_ret
      exact ⟨ret_b H.out.symm, B0.out⟩
    · have e0 : (a != a) = false := by simp
      have e1 : (b != e) = true := by simpa using h1
      go_enter Try.func134, Try.ntmps134
      go_wp2
      go_ret
      exact ⟨ret_b H.out.symm, B0.out⟩
    · have e0 : (a != a) = false := by simp
      have e1 : (b != b) = false := by simp
      have e2 : (c != f) = true := by simpa using h2
      go_enter Try.func134, Try.ntmps134
      go_wp2
      go_ret
      exact ⟨ret_b H.out.symm, B0.out⟩
end Go.Proofs.Ytimlobhlcmghfaa
