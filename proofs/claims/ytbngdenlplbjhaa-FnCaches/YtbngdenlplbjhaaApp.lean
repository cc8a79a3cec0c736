/-
  A law for the walk: bytes appended to a slice that owns its array, whatever slice of bytes they come from.
-/
import Derived.Test.YtbngdenlplbjhaaMem
import Derived.Laws.AppendOwnNone
import Derived.Lib.SliceRun
import Derived.Laws.CopyOwn
namespace Go.Proofs.Ytbngdenlplbjhaa
open Go.ChangeShapes Go.WideShapes Go.ChangeAt Go.RowKit

theorem addr_add (b off i : Nat) : (⟨b, off, none⟩ : Addr).add i = ⟨b, off + i, none⟩ := by
  unfold Addr.add
  split
  · next h => subst h; rfl
  · rfl
theorem map_cells {w : World} {b off : Nat} {zs : List Int} {len : Nat} (hl : zs.length = len) (hc : ∀ i, i < len → w.cell? ⟨b, off + i, none⟩ = some (.int .u8 (zs.getD i 0))) :
    ∀ j u, (zs.map (Value.int .u8))[j]? = some u → w.cell? ((⟨b, off, none⟩ : Addr).add j) = some u := by
  intro j u hu
  rw [List.getElem?_map] at hu
  by_cases hj : j < zs.length
  · rw [List.getElem?_eq_getElem hj] at hu
    rw [addr_add, hc j (by omega), List.getD_eq_getElem?_getD, List.getElem?_eq_getElem hj]
    simpa using hu
  · rw [List.getElem?_eq_none (by omega)] at hu
    simp at hu

theorem append_bytes (w : World) {ops : Array Oper} {rest : List Oper} {o : Oper} {ac : Act} {Q : Exit → Act → World → Prop} (hgd : o.guard = none) (s x : Operand)
    (ho : o.op = .call { callee := .builtin .append, args := #[s, x], argTypes := #[22, 22] })
    (base : Nat) (a : Option Addr) (len cap : Nat) (zs : List Int) (hs : ac.eval s = .slice a len cap) (hown : Own w base a len cap zs)
    (b : Option Addr) (lb cb : Nat) (ys : List Int) (hx : ac.eval x = .slice b lb cb) (hr : Rd w b lb cb ys) (hb : base ≤ w.heap.size) (hsz : len + lb ≤ 1099511627776)
    (h : ∀ a' c' w', Own w' base a' (len + lb) c' (zs ++ ys) → w.grownBy w' (Value.slice a len cap).ownBlock → wpList Try.prog ops Q rest (ac.put o.dst (.slice a' (len + lb) c')) w') : wpList Try.prog ops Q (o :: rest) ac w := by
  obtain ⟨i0, hi, hz0, hz1, hz2⟩ := info_parts Try.infoU8
  have hl := hown.length
  have hlb := hr.length
  cases b with
  | none =>
    obtain ⟨rfl, rfl⟩ := hr.nil rfl
    obtain rfl : ys = [] := List.length_eq_zero_iff.1 hlb
    refine wpList_append_own_none hgd s x 22 ho base 5 i0 1 Try.underlying22 hi _ _ _ hs hown.row hx ?_
    have := h a cap w (by simpa using hown) (World.grownBy.refl _ _)
    simpa using this
  | some ad =>
    refine wpList_append_own w hgd s x 22 ho base 5 i0 (.int .u8 0) 1 1 Try.underlying22 hi hz0 hz1 hz2 rfl (by decide) _ _ _ hs hown.row ad lb cb (ys.map (.int .u8)) hx (by simpa using hlb) ?_ (ints_oneCell _ _) (by unfold maxLen; omega) (by omega) hb ?_
    · rcases hr.cells with h0 | ⟨bb, off, e, hc⟩
      · intro j u hu
        obtain rfl : ys = [] := List.length_eq_zero_iff.1 (by omega)
        simp at hu
      · cases e
        exact map_cells hlb hc
    · intro v' w' ho' hg _
      have ho'' := ho'
      rw [← List.map_append] at ho''
      rcases ho'.2 with ⟨rfl, hn⟩ | ⟨g, c, cur, rfl, _⟩
      · obtain ⟨h1, h2⟩ : len = 0 ∧ lb = 0 := by omega
        have := h none 0 w' (by rw [hn] at ho''; exact ⟨by rw [hn]; exact ho'', b8_app hown.b8 hr.b8⟩) hg
        rw [hn] at this
        exact this
      · exact h _ c w' ⟨ho'', b8_app hown.b8 hr.b8⟩ hg

theorem Own.block {w : World} {base g len cap : Nat} {zs : List Int} (h : Own w base (some ⟨g, 0, none⟩) len cap zs) :
    ∃ cur : List Value, w.heap[g]? = some (.cells cur.toArray 5 (0, 0)) ∧ cur.length = cap ∧ cur.take len = zs.map (.int .u8) := by
  rcases h.row.2 with ⟨h', _⟩ | ⟨g', c, cur, h', _, hg, _, _, h4, h5⟩
  · simp at h'
  · simp only [Value.slice.injEq, Option.some.injEq, Addr.mk.injEq, and_true, true_and] at h'
    obtain ⟨rfl, rfl⟩ := h'
    exact ⟨cur.toList, by simpa using hg, by simpa using h4, by simpa using h5⟩
theorem Own.of_block {w : World} {base g len cap : Nat} {zs : List Int} {cur : List Value} (hg : w.heap[g]? = some (.cells cur.toArray 5 (0, 0))) (hc : cur.length = cap) (ht : cur.take len = zs.map (.int .u8)) (hb : base ≤ g) (hl : len ≤ cap) (hm : cap ≤ maxLen) (h8 : B8 zs) :
    Own w base (some ⟨g, 0, none⟩) len cap zs := by
  refine ⟨⟨by rw [← ht, List.length_take]; omega, .inr ⟨g, cap, cur.toArray, rfl, hb, hg, hl, hm, by simpa using hc, by simpa using ht⟩⟩, h8⟩
theorem splice_map {α β : Type} (f : α → β) (L : List α) (off : Nat) (cs : List α) : splice (L.map f) off (cs.map f) = (splice L off cs).map f := by
  simp [splice]
theorem splice_take {α : Type} (L : List α) (off len : Nat) (cs : List α) (h : off + cs.length ≤ len) (hl : len ≤ L.length) : (splice L off cs).take len = splice (L.take len) off cs := by
  unfold splice
  rw [List.take_append, List.take_append, List.take_take, List.length_take, List.drop_take]
  rw [List.take_of_length_le (l := cs) (by omega)]
  have e1 : min len off = off := by omega
  have e2 : min off L.length = off := by omega
  have e3 : min off len = off := by omega
  rw [e1, e2, List.take_take, e3, show len - off - cs.length = len - (off + cs.length) by omega]
theorem b8_splice {L : List Int} {off : Nat} {cs : List Int} (h : B8 L) (k : B8 cs) : B8 (splice L off cs) := b8_app (b8_take h _) (b8_app k (b8_drop h _))
theorem Own.splice {w w' : World} {base g len cap off : Nat} {zs ys : List Int} (h : Own w base (some ⟨g, 0, none⟩) len cap zs) {cur : List Value} (hcur : cur.length = cap) (ht : cur.take len = zs.map (.int .u8))
    (hg : w'.heap[g]? = some (.cells (Go.splice cur off (ys.map (.int .u8))).toArray 5 (0, 0))) (h8 : B8 ys) (hfit : off + ys.length ≤ len) : Own w' base (some ⟨g, 0, none⟩) len cap (Go.splice zs off ys) := by
  have hm := h.max
  refine Own.of_block hg (by rw [length_splice _ _ _ (by simp; omega)]; exact hcur) ?_ (h.lt _ rfl).1 hm.1 hm.2 (b8_splice h.b8 h8)
  rw [splice_take _ _ _ _ (by simpa using hfit) (by omega), ht, splice_map]

/-- bytes copied into a slice of an array of one's own, as a step of a region that draws its order -/
theorem copy_step (w : World) {ops : Array Oper} {o : Oper} {ac : Act} {K : Act → World → Prop} {Q : Exit → Act → World → Prop} {E : Prop} (hgd : o.guard = none) (d s : Operand)
    (ho : o.op = .call { callee := .builtin .copy, args := #[d, s], argTypes := #[22, 22] })
    (base g len cap off dl dc : Nat) (zs : List Int) (hown : Own w base (some ⟨g, 0, none⟩) len cap zs) (hd : ac.eval d = .slice (some ⟨g, off, none⟩) dl dc) (hdl : off + dl ≤ len)
    (b : Option Addr) (lb cb : Nat) (ys : List Int) (hs : ac.eval s = .slice b lb cb) (hr : Rd w b lb cb ys) (hfit : lb ≤ dl)
    (h : ∀ w', Own w' base (some ⟨g, 0, none⟩) len cap (Go.splice zs off ys) → w.grownBy w' (some g) → K (ac.put o.dst (goInt lb)) w') :
    if Region.wanted o (yielded ops ac.tmps) = true then Oper.wp Try.prog o ac w K Q else E := by
  have hw : Region.wanted o (yielded ops ac.tmps) = true := by simp [Region.wanted, hgd]
  have hu := Try.underlying22
  have hsz : (Try.prog.info? 5).map (·.size) = some 1 := by
    obtain ⟨i0, hi, hz0, hz1, hz2⟩ := info_parts Try.infoU8
    rw [hi]; simp [hz1]
  have hlb := hr.length
  obtain ⟨cur, hg, hcl, hct⟩ := hown.block
  have hm := hown.max
  rw [if_pos hw]
  by_cases h0 : lb = 0
  · have hrun := run_copy_none (P := Try.prog) w 22 22 o.type 5 (some ⟨g, off, none⟩) b dl dc lb cb hu hsz (by rw [h0]; exact Nat.zero_min _)
    obtain rfl : ys = [] := List.length_eq_zero_iff.1 (by omega)
    unfold Oper.wp
    simp [execOp, ho, resolve, invoke, builtin, hd, hs, hrun, Result.andThen]
    have := h w (by simpa [Go.splice] using hown) (World.grownBy.refl _ _)
    rw [h0] at this
    exact this
  · rcases hr.cells with h1 | ⟨bb, o2, rfl, hc⟩
    · omega
    · have hrun := run_copy_row (P := Try.prog) w 22 22 o.type 5 g off dl dc ⟨bb, o2, none⟩ lb cb cur.toArray 5 (ys.map (.int .u8)) hu hsz hg (by simp only [List.length_map]; rw [hlb]; exact (Nat.min_eq_left hfit).symm) (map_cells hlb hc) (by simp; omega) (ints_oneCell _ _)
      unfold Oper.wp
      simp only [List.length_map, hlb] at hrun
      simp [execOp, ho, resolve, invoke, builtin, hd, hs, hrun, Result.andThen]
      refine h _ ?_ ⟨rfl, rfl, rfl, by simp [World.setRow], fun k _ hk => setRow_other w g k _ (fun e => hk (by rw [e]))⟩
      refine hown.splice hcl hct ?_ hr.b8 (by omega)
      have := setRow_heap w g _ (Go.splice cur off (ys.map (.int .u8))).toArray _ _ hg
      simpa [Go.splice, hlb] using this

theorem own_lit (w : World) (base : Nat) (hb : base ≤ w.heap.size) : Own (w.alloc (.cells #[] 5)) base (some ⟨w.heap.size, 0, none⟩) 0 0 [] :=
  ⟨World.ownsRow_lit w #[] 0 hb (Nat.zero_le _) rfl, b8_nil⟩

/-- a slice of these bytes in an array of its own -/
def Fresh (w : World) (len : Nat) (zs : List Int) (e : Ending) (w' : World) : Prop :=
  ∃ a' c', e = .returned (.slice a' len c') ∧ Own w' w.heap.size a' len c' zs ∧ Below w.heap.size w w'

end Go.Proofs.Ytbngdenlplbjhaa
