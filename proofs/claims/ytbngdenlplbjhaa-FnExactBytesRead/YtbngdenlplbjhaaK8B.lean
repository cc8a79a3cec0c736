/-
  The helpers of the laws over bytes, in the words of K8; what a call answers in new memory (New, TOut, LOut); rows of zeros.
-/
import Derived.Test.YtbngdenlplbjhaaK8
import Derived.Test.YtbngdenlplbjhaaFrm
import Derived.Test.YtbngdenlplbjhaaRes
namespace Go.Proofs.Ytbngdenlplbjhaa
open Go.ChangeShapes Go.WideShapes Go.ChangeAt Go.RowKit

/-- blocks of a call's own, from n on -/
structure New (n : Nat) (w : World) (bs : List Nat) : Prop where
  fz : Fzs w bs
  ge : ∀ b ∈ bs, n ≤ b
theorem New.chg {n : Nat} {w w' : World} {bs cs : List Nat} (h : New n w bs) (hc : Chg cs w w') : New n w' bs := ⟨h.fz.chg hc, h.ge⟩
theorem New.below {n : Nat} {w w' : World} {bs : List Nat} (h : New n w bs) (hb : Below w.heap.size w w') : New n w' bs := ⟨h.fz.below hb, h.ge⟩
theorem New.mono {n m : Nat} {w : World} {bs : List Nat} (h : New n w bs) (hm : m ≤ n) : New m w bs := ⟨h.fz, fun b hb => Nat.le_trans hm (h.ge b hb)⟩
theorem New.nil (n : Nat) (w : World) : New n w [] := ⟨Fzs.nil w, fun _ h => by cases h⟩
theorem New.lt {n : Nat} {w : World} {bs : List Nat} (h : New n w bs) : ∀ b ∈ bs, b < w.heap.size := fun b hb => (h.fz.unf b hb).lt
theorem New.app {n : Nat} {w : World} {bs cs : List Nat} (h : New n w bs) (k : New n w cs) (hd : ∀ b ∈ bs, b ∉ cs) : New n w (bs ++ cs) :=
  ⟨⟨List.nodup_append.2 ⟨h.fz.nodup, k.fz.nodup, fun a ha b hb e => hd a ha (by rw [e]; exact hb)⟩, fun b hb => (List.mem_append.1 hb).elim (h.fz.unf b) (k.fz.unf b)⟩, fun b hb => (List.mem_append.1 hb).elim (h.ge b) (k.ge b)⟩
theorem New.left {n : Nat} {w : World} {bs cs : List Nat} (h : New n w (bs ++ cs)) : New n w bs := ⟨h.fz.left, fun b hb => h.ge b (List.mem_append_left _ hb)⟩
theorem New.right {n : Nat} {w : World} {bs cs : List Nat} (h : New n w (bs ++ cs)) : New n w cs := ⟨h.fz.right, fun b hb => h.ge b (List.mem_append_right _ hb)⟩
theorem New.setOff {n : Nat} {w : World} {bs : List Nat} (h : New n w bs) (b j : Nat) (u : Value) : New n (w.setCell ⟨b, j, none⟩ u) bs := ⟨⟨h.fz.nodup, fun k hk => (h.fz.unf k hk).set b j u⟩, h.ge⟩
/-- blocks that are taken one behind the other are apart -/
theorem New.then {n : Nat} {w w' : World} {bs cs : List Nat} (h : New n w bs) (hb : Below w.heap.size w w') (k : New w.heap.size w' cs) (hn : n ≤ w.heap.size) : New n w' (bs ++ cs) :=
  (h.below hb).app (k.mono hn) fun b hb' hc => by have := h.lt b hb'; have := k.ge b hc; omega

/-- the answer is a thing of this kind, in new memory, and reads as V -/
def TOut {α β : Type} (M : Md α) (val : α → β) (V : β) (w : World) (e : Ending) (w' : World) : Prop :=
  ∃ q, e = .returned (.agg (M.cells q).toArray) ∧ M.ok w' q ∧ val q = V ∧ New w.heap.size w' (M.blks q) ∧ Below w.heap.size w w'
def LOut {α β : Type} (M : Md α) (val : α → β) (V : List β) (w : World) (e : Ending) (w' : World) : Prop :=
  ∃ x : Lt α, e = .returned (.slice x.a x.l x.c) ∧ Lt.ok M w' x ∧ x.rs.map val = V ∧ New w.heap.size w' (Lt.blks M x) ∧ Below w.heap.size w w'

theorem toByteS_y (y : Yt) (w : World) (h : Yt.ok w y) (hl : y.l ≤ 1048576) :
    Calls Try.prog 88 #[.slice y.a y.l y.c] w fun e w' => ∃ q : Yt, e = .returned (.slice q.a q.l q.c) ∧ Yt.ok w' q ∧ q.z = y.z ∧ New w.heap.size w' q.blks ∧ Below w.heap.size w w' := by
  refine (toByteS_any y.a y.l y.c y.z w h hl).mono ?_
  rintro e w' ⟨rfl, o, b⟩
  refine ⟨⟨some ⟨w.heap.size, 0, none⟩, y.l, y.l, y.z⟩, rfl, o.rd, rfl, ⟨⟨?_, ?_⟩, ?_⟩, b⟩
  · unfold Yt.blks sb; dsimp only; split
    · exact List.nodup_nil
    · exact List.pairwise_singleton _ _
  · intro k hk
    obtain ⟨p, e, _, rfl⟩ := mem_sb hk
    cases e
    rcases o.row.2 with ⟨h1, _⟩ | ⟨g, c, cur, h1, _, h2, _⟩
    · cases h1
    · simp only [Value.slice.injEq] at h1
      obtain ⟨h1, _⟩ := h1
      cases h1
      exact ⟨_, _, h2⟩
  · intro k hk
    obtain ⟨p, e, _, rfl⟩ := mem_sb hk
    cases e
    exact Nat.le_refl _
theorem eqByteS_y (x y : Yt) (w : World) (h : Yt.ok w x) (h' : Yt.ok w y) (hv : x.z = y.z) :
    Calls Try.prog 65 #[.slice x.a x.l x.c, .slice y.a y.l y.c] w fun e w' => e = .returned (.bool true) ∧ Below w.heap.size w w' := by
  have K := eqByteS_any x.a y.a x.l x.c y.l y.c x.z y.z w h h'
  rw [show eqL x.z y.z = true from decide_eq_true hv] at K
  exact K
theorem szByteS_yt (y : Yt) (l : Nat) (w : World) (h : Yt.ok w y) (hs : y.z.length ≤ l) (hl : l ≤ 1048576) :
    Calls Try.prog 84 #[.slice y.a y.l y.c, .int .i64 l] w fun e w' => e = .returned (.int .i64 (l - y.z.length : Nat)) ∧ Below w.heap.size w w' := by
  have e := h.length
  rw [e] at hs ⊢
  refine (szByteS_t y.a y.l y.c l w (by omega) (by omega)).mono ?_
  rintro e w' ⟨rfl, rfl⟩
  exact ⟨ret_i (by omega), Below.refl _ _⟩
theorem szByteS_yf (y : Yt) (l : Nat) (w : World) (h : Yt.ok w y) (hs : ¬ y.z.length ≤ l) (hl : l ≤ 1048576) :
    Calls Try.prog 84 #[.slice y.a y.l y.c, .int .i64 l] w fun e w' => e = .returned (.int .i64 (-1)) ∧ Below w.heap.size w w' := by
  have e := h.length
  rw [e] at hs
  refine (szByteS_f y.a y.l y.c l w (by omega) (by omega) (by omega) (Nat.le_trans h.le h.max)).mono ?_
  rintro e w' ⟨rfl, rfl⟩
  exact ⟨rfl, Below.refl _ _⟩
def Yt.mark (k : Nat) (y : Yt) : Yt := ⟨y.a, y.l, y.c, marks k y.l⟩
set_option maxHeartbeats 400000 in
theorem heldByteS_big (a : Option Addr) (len cap k0 : Nat) (w : World) (h : Rd w a len cap (marks k0 len)) (hl : len ≤ 16777216) (hk0 : k0 ≤ 1000000000) :
    Calls Try.prog 74 #[.slice a len cap, .int .i64 k0] w fun e w' => e = .returned (.int .i64 (k0 + len : Nat)) ∧ w = w' := by
  go_enter Try.func74, Try.ntmps74
  go_wp2
  go_loopw [1, 5] (fun kk i wr => ∃ j : Nat, j ≤ len ∧ i = .int .i64 j ∧ kk = .int .i64 (k0 + j : Nat) ∧ w = wr) (fun _ i _ => len - (intOf i).toNat)
  case atStart => exact ⟨0, Nat.zero_le _, rfl, rfl, rfl⟩
  case round =>
    obtain ⟨j, hj, rfl, rfl, rfl⟩ := hrel
    by_cases hlt : j < len
    · rcases h.cells with h0 | ⟨b, off, rfl, hc⟩
      · omega
      have hcj := hc j hlt
      rw [marks_getD k0 len j hlt] at hcj
      clear hc h
      go_wp2
      go_roundw
      case rel => exact ⟨j + 1, by omega, by go_num, by go_num, by trivial⟩
      case measure => simp [intOf]; omega
    · obtain rfl : j = len := by omega
      go_wp2
      go_ret
      exact ⟨by go_num, rfl⟩
theorem heldByteS_y (y : Yt) (k0 : Nat) (w : World) (h : Yt.ok w (y.mark k0)) (hz : y.z.length = y.l) (hl : y.z.length ≤ 16777216) (hk0 : k0 ≤ 1000000000) :
    Calls Try.prog 74 #[.slice y.a y.l y.c, .int .i64 k0] w fun e w' => e = .returned (.int .i64 (k0 + y.z.length : Nat)) ∧ w = w' := by
  rw [hz] at hl ⊢
  exact heldByteS_big y.a y.l y.c k0 w h hl hk0
theorem Rd.setAt {w : World} {b off len cap : Nat} {zs : List Int} (h : Rd w (some ⟨b, off, none⟩) len cap zs) (j : Nat) (hj : j < len) (n : Int) (hn : 0 ≤ n ∧ n ≤ 255) : Rd (w.setCell ⟨b, off + j, none⟩ (.int .u8 n)) (some ⟨b, off, none⟩) len cap (zs.set j n) := by
  have hl := h.length
  refine ⟨by simpa using hl, h.le, h.max, b8_set h.b8 j n hn, h.nil, ?_⟩
  rcases h.cells with h0 | ⟨b', off', e, hc⟩
  · omega
  · cases e
    refine .inr ⟨b, off, rfl, fun i hi => ?_⟩
    by_cases e : i = j
    · subst e
      rw [List.getD_eq_getElem?_getD, List.getElem?_set_self (by omega)]
      exact World.cell?_setCell_same _ _ _ (hc i hi)
    · rw [World.cell?_setCell_other _ _ _ _ (by intro e'; simp only [Addr.mk.injEq, true_and, and_true] at e'; omega), hc i hi, List.getD_eq_getElem?_getD, List.getD_eq_getElem?_getD, List.getElem?_set_ne (fun e' => e e'.symm)]
set_option maxHeartbeats 400000 in
theorem markByteS_y (y : Yt) (k0 : Nat) (w : World) (h : Yt.ok w y) (hf : Fzs w y.blks) (hl : y.z.length ≤ 16777216) (hk0 : k0 ≤ 1000000000) :
    Calls Try.prog 73 #[.slice y.a y.l y.c, .int .i64 k0] w fun e w' => e = .returned (.int .i64 (k0 + y.z.length : Nat)) ∧ Yt.ok w' (y.mark k0) ∧ Chg y.blks w w' := by
  obtain ⟨a, len, cap, zs⟩ := y
  have hzl := Lib.hid h.length
  have H := Lib.hid h
  rw [show (Yt.mk a len cap zs).z.length = len from h.length] at hl ⊢
  dsimp only at hzl hl ⊢
  have hlc := h.le
  dsimp only at hlc
  unfold Yt.mark
  dsimp only
  by_cases h0 : len = 0
  · subst h0
    have hR : Rd w a 0 cap (marks k0 0) := by
      have hz : zs = [] := List.length_eq_zero_iff.1 hzl.out
      subst hz
      exact H.out
    clear h hf H
    go_enter Try.func73, Try.ntmps73
    go_wp2
    go_loopw [1, 5] (fun kk i wr => i = .int .i64 0 ∧ kk = .int .i64 k0 ∧ w = wr) (fun _ _ _ => 0)
    case atStart => exact ⟨rfl, rfl, rfl⟩
    case round =>
      obtain ⟨rfl, rfl, rfl⟩ := hrel
      go_wp2
      go_ret
      exact ⟨by go_num, hR, Chg.refl _ _⟩
  · rcases h.cells with h1 | ⟨b, off, e, _⟩
    · exact absurd h1 h0
    dsimp only at e
    subst e
    have hu : Hid (unf w b) := hf.unf b (by unfold Yt.blks; dsimp only; rw [sb_some h0]; exact List.mem_singleton.2 rfl)
    have hB : Hid (∀ k, k ∉ Yt.blks ⟨some ⟨b, off, none⟩, len, cap, zs⟩ → k ≠ b) := fun k hk e => hk (by unfold Yt.blks; dsimp only; rw [sb_some h0]; exact List.mem_singleton.2 e)
    clear h hf
    go_enter Try.func73, Try.ntmps73
    go_wp2
    go_loopw [1, 5] (fun kk i wr => ∃ j : Nat, j ≤ len ∧ i = .int .i64 j ∧ kk = .int .i64 (k0 + j : Nat) ∧ Hid (Rd wr (some ⟨b, off, none⟩) len cap (marks k0 j ++ zs.drop j)) ∧ Hid (unf wr b) ∧ Hid (Chg (Yt.blks ⟨some ⟨b, off, none⟩, len, cap, zs⟩) w wr)) (fun _ i _ => len - (intOf i).toNat)
    case atStart => exact ⟨0, Nat.zero_le _, rfl, rfl, (show Rd w (some ⟨b, off, none⟩) len cap (marks k0 0 ++ zs.drop 0) from H.out), hu.out, Chg.refl _ _⟩
    case round =>
      obtain ⟨j, hj, rfl, rfl, hown, hu1, hgr⟩ := hrel
      by_cases hlt : j < len
      · rcases hown.out.cells with h1 | ⟨b', off', e, hc⟩
        · exact absurd h1 h0
        cases e
        have hcj := hc j hlt
        have hf := hu1.out.at (off + j)
        have hset := hown.out.setAt j hlt (((k0 + j) % 256 : Nat) : Int) (by omega)
        rw [marks_step k0 j zs (by have := hzl.out; omega)] at hset
        have R := Lib.hid hset
        have g := grown_setCell wr ⟨b, off + j, none⟩ (.int .u8 (((k0 + j) % 256 : Nat) : Int))
        have C := Lib.hid (hgr.out.trans (show Chg (Yt.blks ⟨some ⟨b, off, none⟩, len, cap, zs⟩) wr _ from ⟨g.os, g.tape, g.output, g.size, fun k hk hn => g.block k hk (fun e => by simp at e; exact hB.out k hn e), fun k hk => hk.set b (off + j) _⟩))
        have U := Lib.hid (hu1.out.set b (off + j) (.int .u8 (((k0 + j) % 256 : Nat) : Int)))
        clear hset hown hc hgr hu1 g
        go_wp2
        go_roundw
        case rel => exact ⟨j + 1, by omega, by go_num, by go_num, R.out, U.out, C.out⟩
        case measure => simp [intOf]; omega
      · obtain rfl : j = len := by omega
        have hE : Hid (Rd wr (some ⟨b, off, none⟩) j cap (marks k0 j)) := by have := hown.out; rw [List.drop_of_length_le (by have := hzl.out; omega), List.append_nil] at this; exact this
        clear hown
        go_wp2
        go_ret
        exact ⟨by go_num, hE.out, hgr.out⟩
end Go.Proofs.Ytbngdenlplbjhaa
