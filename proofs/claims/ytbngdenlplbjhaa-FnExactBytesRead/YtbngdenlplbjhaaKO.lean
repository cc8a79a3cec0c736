/-
  What comes in as a struct, or as a list of structs, is opened to rows (Opens), whatever the struct.
-/
import Derived.Test.YtbngdenlplbjhaaKG
import Derived.Test.YtbngdenlplbjhaaOpen
import Derived.Deep.Slices
namespace Go.Proofs.Ytbngdenlplbjhaa
open Go.ChangeShapes Go.WideShapes Go.ChangeAt Go.RowKit

/-- cells of the type t are those of a row -/
def Opens {α : Type} (M : Md α) (t : TypeId) : Prop :=
  ∀ {H : Type} {enc : TypeId × Value → H} {w : World} {base : Nat} {spare : Nat → Bool} {held : Bool} {fuel : Nat} {cs : List Value} {x : DataW H × List MemPlace},
    (∀ b, spare b = true) → DataW.trod enc Try.prog w base spare held fuel t cs = some x → ∃ p, cs = M.cells p ∧ M.ok w p
theorem td {α : Type} {cs l : List α} {o s i : Nat} (h : (cs.drop o).take s = l) (hi : i < s) : cs[o + i]? = l[i]? := by
  rw [← h, List.getElem?_take, if_pos hi, List.getElem?_drop]
theorem opens_bytes {t : TypeId} (hu : Try.prog.underlying t = some (.slice 5)) : Opens Yt.md t := by
  intro H enc w base spare held fuel cs x hsp h
  obtain ⟨v, rfl⟩ : ∃ v, cs = [v] := by
    rcases DataW.trod_slice hu h with ⟨rfl, _⟩ | ⟨a, len, cap, _, _, _, _, rfl, _⟩
    · exact ⟨_, rfl⟩
    · exact ⟨_, rfl⟩
  obtain ⟨a, l, c, zs, hc, hr⟩ := field_bytes (cs := #[v]) (j := 0) hu hsp ⟨_, _, fuel, rfl, h⟩
  simp at hc
  subst hc
  exact ⟨⟨a, l, c, zs⟩, rfl, hr⟩
theorem rows_of {α : Type} (n : Nat) {R : Nat → α → Prop} (h : ∀ i, i < n → ∃ p, R i p) : ∃ ps : List α, ps.length = n ∧ ∀ i p, ps[i]? = some p → R i p := by
  induction n with
  | zero => exact ⟨[], rfl, fun i p hp => by simp at hp⟩
  | succ n ih =>
    obtain ⟨ps, hl, hp⟩ := ih (fun i hi => h i (by omega))
    obtain ⟨q, hq⟩ := h n (by omega)
    refine ⟨ps ++ [q], by simp [hl], fun i p hi => ?_⟩
    by_cases c : i < n
    · rw [List.getElem?_append_left (by omega)] at hi
      exact hp i p hi
    · rw [List.getElem?_append_right (by omega)] at hi
      have e : i = n := by
        have := (List.getElem?_eq_some_iff.1 hi).1
        simp at this
        omega
      subst e
      rw [hl, Nat.sub_self] at hi
      simp at hi
      subst hi
      exact hq
theorem opens_list {α : Type} {M : Md α} {e : TypeId} (hM : Opens M e) (hn : 0 < M.n) (ce : Try.prog.cellsOf e = M.n) {t : TypeId} (hu : Try.prog.underlying t = some (.slice e)) : Opens (Md.one α M hn) t := by
  intro H enc w base spare held fuel cs x hsp h
  rcases Go.Deep.open_slice hu h with ⟨rfl, _⟩ | ⟨x', l, c', m, k, D, Pl, rfl, hb, hl, hm, hmm, _, hx⟩
  · exact ⟨⟨none, 0, 0, []⟩, rfl, Lt.nil0 M w⟩
  · rw [hsp, if_pos rfl] at hmm
    subst hmm
    obtain ⟨b, off, spot⟩ := x'
    have each : ∀ i, i < l → ∃ p : α, (∀ j u, (M.cells p)[j]? = some u → w.cell? ((⟨b, off, spot⟩ : Addr).add (i * M.n + j)) = some u) ∧ M.ok w p := by
      intro i hi
      obtain ⟨cs', h1, h2⟩ := hx i (by omega)
      rw [ce] at h1
      obtain ⟨_, hlen, hcell⟩ := World.cells?_some h1
      obtain ⟨p, rfl, hp⟩ := hM hsp h2
      refine ⟨p, fun j u hu' => ?_, hp⟩
      have hj : j < M.n := by have := (List.getElem?_eq_some_iff.1 hu').1; rwa [M.clen] at this
      have := hcell j hj
      rw [Go.Deep.add_add, hu'] at this
      exact this
    by_cases h0 : l = 0
    · subst h0
      exact ⟨⟨some ⟨b, off, spot⟩, 0, m, []⟩, rfl, ⟨rfl, hl, hm, by simp, .inl rfl, fun _ h => by cases h⟩⟩
    · have hs : spot = none := by
        obtain ⟨p, q, _⟩ := each 0 (by omega)
        have hu' : (M.cells p)[0]? = some ((M.cells p)[0]'(by rw [M.clen]; exact hn)) := List.getElem?_eq_getElem _
        have := q 0 _ hu'
        simpa [Addr.add] using World.cell?_spot this
      subst hs
      obtain ⟨ps, hpl, hps⟩ := rows_of (R := fun i (p : α) => Row w b (off + i * M.n) (M.cells p) ∧ M.ok w p) l (fun i hi => by
        obtain ⟨p, q, hp⟩ := each i hi
        refine ⟨p, fun j u hu' => ?_, hp⟩
        have := q j u hu'
        rwa [Addr.add_mid, ← Nat.add_assoc] at this)
      exact ⟨⟨some ⟨b, off, none⟩, l, m, ps⟩, rfl, ⟨hpl, hl, hm, by simp, .inr ⟨b, off, rfl, fun i p hi => (hps i p hi).1⟩, fun p hp => by
        obtain ⟨i, hi⟩ := List.getElem?_of_mem hp
        exact (hps i p hi).2⟩⟩
end Go.Proofs.Ytbngdenlplbjhaa
