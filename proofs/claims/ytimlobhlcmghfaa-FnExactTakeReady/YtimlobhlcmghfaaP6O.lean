/-
  A list of pieces that came in is opened to its pieces.
-/
import Derived.Test.YtimlobhlcmghfaaP6M
import Derived.Test.YtimlobhlcmghfaaOpen
import Derived.Deep.SlicePairs
namespace Go.Proofs.Ytimlobhlcmghfaa
open Go.ChangeShapes Go.WideShapes Go.ChangeAt Go.RowKit Go.Deep

theorem list_of {α : Type} (n : Nat) {R : Nat → α → Prop} (h : ∀ i, i < n → ∃ p, R i p) : ∃ ps : List α, ps.length = n ∧ ∀ i p, ps[i]? = some p → R i p := by
  induction n with
  | zero => exact ⟨[], rfl, fun i p hp => by simp at hp⟩
  | succ n ih =>
    obtain ⟨ps, hl, hp⟩ := ih (fun i hi => h i (by omega))
    obtain ⟨q, hq⟩ := h n (by omega)
    refine ⟨ps ++ [q], by simp [hl], fun i p hi => ?_⟩
    by_cases c : i < n
    · rw [List.getElem?_append_left (by omega)] at hi
      exact hp i p hi
    · rw [List.getElem?_append_right (by omega)] at hi
      have e : i = n := by
        have := (List.getElem?_eq_some_iff.1 hi).1
        simp at this
        omega
      subst e
      rw [hl, Nat.sub_self] at hi
      simp at hi
      subst hi
      exact hq
theorem open_pieces {H : Type} {enc : TypeId × Value → H} {w : World} {spare : Nat → Bool} {base : Nat} {held : Bool} {fuel : Nat} {t : TypeId} {a : Option Addr} {len cap : Nat} {x : DataW H × List MemPlace} (hu : Try.prog.underlying t = some (.slice 171)) (hsp : ∀ b, spare b = true)
    (h : DataW.trod enc Try.prog w base spare held fuel t [.slice a len cap] = some x) : ∃ ps, Pl w a len cap ps := by
  rcases open_slice_pairs hu Try.underlying171 (by kernel_rfl) rfl rfl (by kernel_rfl) (by kernel_rfl) h with ⟨hcs, _⟩ | ⟨x', l, c', m, n, V0, V1, D0, D1, P0, P1, hcs, _, hl, hm, hmm, _, hx⟩
  · simp only [List.cons.injEq, and_true, Value.slice.injEq] at hcs
    obtain ⟨rfl, rfl, rfl⟩ := hcs
    exact ⟨[], Lb.nil0 w, fun p hp => by cases hp⟩
  · simp only [List.cons.injEq, and_true, Value.slice.injEq] at hcs
    obtain ⟨rfl, rfl, rfl⟩ := hcs
    rw [hsp, if_pos rfl] at hmm
    subst hmm
    obtain ⟨b, off, spot⟩ := x'
    by_cases h0 : len = 0
    · subst h0
      exact ⟨[], ⟨rfl, hl, hm, by simp, .inl rfl⟩, fun p hp => by cases hp⟩
    · have hs : spot = none := by
        have := (hx 0 (by omega)).1
        simpa [Addr.add] using World.cell?_spot this
      subst hs
      have ea : ∀ i, (⟨b, off, none⟩ : Addr).add i = ⟨b, off + i, none⟩ := by
        intro i
        unfold Addr.add
        split
        · next h => subst h; rfl
        · rfl
      obtain ⟨ps, hpl, hps⟩ := list_of (R := fun i (p : Pm) => w.cell? ⟨b, off + i * 2, none⟩ = some (.int .i64 p.k) ∧ w.cell? ⟨b, off + i * 2 + 1, none⟩ = some (.slice p.a p.l p.c) ∧ Rd w p.a p.l p.c p.z) len (fun i hi => by
        obtain ⟨g0, g1, g2, g3⟩ := hx i (by omega)
        rw [ea] at g0 g1
        obtain ⟨k, hk, _, _⟩ := DataW.trod_int Try.underlying2 g2
        simp only [List.cons.injEq, and_true] at hk
        obtain ⟨a', l', c', zs, hc, hr⟩ := field_bytes (cs := #[V1 i]) (j := 0) Try.underlying22 hsp ⟨_, _, _, rfl, g3⟩
        simp at hc
        rw [hk] at g0
        rw [hc] at g1
        exact ⟨⟨k, a', l', c', zs⟩, g0, g1, hr⟩)
      exact ⟨ps, ⟨hpl, hl, hm, by simp, .inr ⟨b, off, rfl, fun i p hp => ⟨(hps i p hp).1, (hps i p hp).2.1⟩⟩⟩, fun p hp => by
        obtain ⟨i, hi⟩ := List.getElem?_of_mem hp
        exact (hps i p hi).2.2⟩
end Go.Proofs.Ytimlobhlcmghfaa
