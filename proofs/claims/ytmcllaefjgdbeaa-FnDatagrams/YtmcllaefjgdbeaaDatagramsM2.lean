/-
  The source of draws of the laws: whatever it gives lies in its bounds, and nothing but its own block changes.
  Draws of the laws: a number out of a list, some bytes, a chance.
  InWindow of the program and of the model answer by one and the same function of numbers; the laws FnExactSeqDist and FnExactInWindow return true.
  The draws of the law of sequence numbers.
  Draws of datagrams.
  Draws of datagrams with a fault now and then.
  Draws of chapter 4: addresses, pseudo heads, what is packed.
  SealSum of the model, and of the program, answer by one and the same function.
  The law FnSeqs returns true at every slice of bytes.
  Draws: bytes that are turned now and then.
  Draws of the bytes of a datagram, turned now and then, between two addresses.
  Draws of two datagrams.
  Draws of the law of words; two slices of the same bytes are the same text; numbers and their bytes, there and back.
  Where the law turns a bit: lwAt; a bit that is turned.
  Contracts of the program's readers of heads and parties, whose addresses are arrays in a struct.
  Contracts of the program's parties of a question or an answer of addresses, and of the head of one.
  Contracts of the program's FrameFault and ArpFault.
  PackFrame of the program.
  PackArp of the model, and the law FnExactPackArp where the program's PackArp answers so.
  The law FnExactPackArp returns true, where the program's PackArp answers as the model's does.
  PackArp of the program.
  Blocks and slices of a law, carried as one fact; an operation that its guard wants; powers of two as bytes.
-/
import Derived.Test.YtmcllaefjgdbeaaDatagramsM0
import Derived.Test.YtmcllaefjgdbeaaDatagramsM1
import Derived.WalkSpells
import Derived.Deep.RegionLaw
import Derived.Deep.RegionWith
import Derived.Laws.CopyOwn
import Derived.Deep.RegionHeld3
import Derived.Deep.DeepCutAuto
import Derived.Laws.Closers25b
import Derived.Laws.Shifts
namespace Go.Proofs.Ytmcllaefjgdbeaa
open Go.ChangeShapes Go.WideShapes Go.ChangeAt Go.RowKit

/-- a source of draws: its block b, how far it has been read -/
structure Src (w : World) (b t : Nat) (a : Option Addr) (len cap : Nat) (zs : List Int) : Prop where
  box : Box w b 91 #[.slice a len cap, .int .i64 (t : Int)]
  rd : Rd w a len cap zs
  lt : 0 < len → ∀ x, a = some x → x.block < b
theorem Src.step {w w' : World} {b t t' : Nat} {a : Option Addr} {len cap : Nat} {zs : List Int} (h : Src w b t a len cap zs) (hg : w.grownBy w' (some b)) (hb : Box w' b 91 #[.slice a len cap, .int .i64 (t' : Int)]) : Src w' b t' a len cap zs := by
  refine ⟨hb, ⟨h.rd.length, h.rd.le, h.rd.max, h.rd.b8, h.rd.nil, ?_⟩, h.lt⟩
  rcases h.rd.cells with h0 | ⟨bb, off, rfl, hc⟩
  · exact .inl h0
  · refine .inr ⟨bb, off, rfl, fun i hi => hg.cell (hc i hi) ?_⟩
    have := h.lt (by omega) _ rfl
    intro e
    simp at e this
    omega
theorem Src.alloc {w : World} {b t : Nat} {a : Option Addr} {len cap : Nat} {zs : List Int} (h : Src w b t a len cap zs) (o : Obj) : Src (w.alloc o) b t a len cap zs :=
  h.step (World.grownBy_alloc w o (some b)) (h.box.alloc o)
theorem Src.below {w w' : World} {b t : Nat} {a : Option Addr} {len cap : Nat} {zs : List Int} (h : Src w b t a len cap zs) (hb : Below w.heap.size w w') : Src w' b t a len cap zs :=
  h.step (grown_of_below hb _) (h.box.below hb h.box.lt)
theorem Src.drewN {w : World} {b t : Nat} {a : Option Addr} {len cap : Nat} {zs : List Int} (h : Src w b t a len cap zs) (n : Nat) : Src (w.drewN n) b t a len cap zs :=
  h.below (belowN (Below.refl _ _) n)

theorem grown_through {a b c : World} {r row : Option Nat} (h : a.grownBy b r) (k : b.grownBy c row) (hr : ∀ x, row = some x → a.heap.size ≤ x) : a.grownBy c r :=
  ⟨k.os.trans h.os, k.tape.trans h.tape, k.output.trans h.output, Nat.le_trans h.size k.size, fun i hi hn => (k.block i (Nat.lt_of_lt_of_le hi h.size) (fun e => by have := hr i e.symm; omega)).trans (h.block i hi hn)⟩
theorem Src.grown {w w' : World} {b t : Nat} {a : Option Addr} {len cap : Nat} {zs : List Int} {row : Option Nat} (h : Src w b t a len cap zs) (hg : w.grownBy w' row) (hr : ∀ x, row = some x → b < x) : Src w' b t a len cap zs := by
  refine ⟨h.box.grown hg (fun e => by have := hr b e.symm; omega), ⟨h.rd.length, h.rd.le, h.rd.max, h.rd.b8, h.rd.nil, ?_⟩, h.lt⟩
  rcases h.rd.cells with h0 | ⟨bb, off, rfl, hc⟩
  · exact .inl h0
  · refine .inr ⟨bb, off, rfl, fun i hi => hg.cell (hc i hi) ?_⟩
    have := h.lt (by omega) _ rfl
    intro e
    have h2 := hr _ e.symm
    simp at h2 this
    omega
theorem own_row {w : World} {base : Nat} {a : Option Addr} {len cap : Nat} {zs : List Int} (h : Own w base a len cap zs) : ∀ x, (Value.slice a len cap).ownBlock = some x → base ≤ x := by
  intro x e
  cases a with
  | none => simp [Value.ownBlock] at e
  | some y => have := h.lt y rfl; simp [Value.ownBlock] at e; omega

/-- a number drawn: from 0 on, below n -/
def Nexted (w : World) (b t : Nat) (n : Int) (a : Option Addr) (len cap : Nat) (zs : List Int) (e : Ending) (w' : World) : Prop :=
  ∃ r : Int, e = .returned (.int .i64 r) ∧ 0 ≤ r ∧ (1 ≤ n → r < n) ∧ Src w' b (t + 1) a len cap zs ∧ w.grownBy w' (some b)

theorem box_set {w : World} {b : Nat} {t : TypeId} {x y z : Value} (h : Box w b t #[x, y]) : Box (w.setCell ⟨b, 1, none⟩ z) b t #[x, z] := by
  have := heap_setCell_same w b 1 #[x, y] t z h
  simpa [Box] using this

set_option maxRecDepth 100000 in
set_option maxHeartbeats 2000000 in
theorem l1Next_any (b t : Nat) (n : Int) (a : Option Addr) (len cap : Nat) (zs : List Int) (w : World) (h : Src w b t a len cap zs) (ht : t ≤ 1000000) (hl : len ≤ 1048576) (hn : n ≤ 1000000) :
    Calls Try.prog 52 #[.pointer (some ⟨b, 0, none⟩), .int .i64 n] w (Nexted w b t n a len cap zs) := by
  obtain ⟨z0, c0, c1⟩ := h.box.two
  have f1 := h.box.frozen 1
  obtain ⟨W1, hW1⟩ : ∃ W1, W1 = w.setCell ⟨b, 1, none⟩ (.int .i64 ((t : Int) + 1)) := ⟨_, rfl⟩
  have hg : w.grownBy W1 (some b) := by rw [hW1]; exact grown_setCell w ⟨b, 1, none⟩ _
  have hb1 : Box W1 b 91 #[.slice a len cap, .int .i64 ((t + 1 : Nat) : Int)] := by rw [hW1]; exact box_set h.box
  have hs := h.step hg hb1
  obtain ⟨z1, d0, d1⟩ := hb1.two
  have HW := Lib.hid hW1
  have HS := Lib.hid hs
  have HG := Lib.hid hg
  clear hW1 hs hg hb1 h
  by_cases h1 : n < 1
  · go_enter Try.func52, Try.ntmps52
    go_wp2
    go_ret
    rw [← HW.out]
    exact ⟨0, rfl, by omega, by omega, HS.out, HG.out⟩
  · by_cases h2 : len = 0
    · subst h2
      have hd0 := d0
      have hd1 := d1
      rw [HW.out] at hd0 hd1
      simp only [Int.natCast_add, Int.natCast_one] at hd1
      clear d0 d1
      have k1 : 0 ≤ (t : Int) * 7 % n := Int.emod_nonneg _ (by omega)
      have k2 : (t : Int) * 7 % n < n := Int.emod_lt_of_pos _ (by omega)
      go_enter Try.func52, Try.ntmps52
      go_wp2
      go_ret
      rw [← HW.out]
      exact ⟨_, rfl, k1, fun _ => k2, HS.out, HG.out⟩
    · rcases HS.out.rd.cells with h0 | ⟨bb, off, rfl, hc⟩
      · exact absurd h0 h2
      have hd0 := d0
      have hd1 := d1
      rw [HW.out] at hd0 hd1
      simp only [Int.natCast_add, Int.natCast_one] at hd1
      have hp : (0 : Int) < len := by omega
      have hne : ((len : Int) == 0) = false := by simp; omega
      have m1 : (0 : Int) ≤ (t : Int) % len := Int.emod_nonneg _ (by omega)
      have m2 : (t : Int) % len < len := Int.emod_lt_of_pos _ hp
      have m3 : ((t : Int) % len).toNat = t % len := by rw [← Int.natCast_emod]; exact Int.toNat_natCast _
      have hcm := hc (t % len) (Nat.mod_lt _ (by omega))
      rw [HW.out] at hcm
      have hbd := HS.out.rd.getD_bd (t % len)
      generalize zs.getD (t % len) 0 = x at *
      clear d0 d1 hc
      go_enter Try.func52, Try.ntmps52
      go_wp2
      go_quiet (fail)
      obtain ⟨v, hv, hv1, hv2⟩ : ∃ v, wrap64 (x + wrap64 (wrap64 ((t : Int) / len) * 37)) = v ∧ 0 ≤ v ∧ v ≤ 37000255 := by
        have d1 : 0 ≤ (t : Int) / len := Int.ediv_nonneg (by omega) (by omega)
        have d2 : (t : Int) / len ≤ t := Int.ediv_le_self _ (by omega)
        refine ⟨x + (t : Int) / len * 37, ?_, by omega, by omega⟩
        rw [IntWalk.wrap64_in ((t : Int) / len) (by omega), IntWalk.wrap64_in ((t : Int) / len * 37) (by omega), IntWalk.wrap64_in _ (by omega)]
      rw [hv, ← HW.out]
      have S2 := HS.out.drewN nq
      have G2 : w.grownBy (W1.drewN nq) (some b) := grown_trans HG.out (grown_of_below (belowN (Below.refl _ W1) nq) _)
      generalize W1.drewN nq = W2 at S2 G2 ⊢
      obtain ⟨z2, d0, d1⟩ := S2.box.two
      simp only [Int.natCast_add, Int.natCast_one] at d1
      have HS2 := Lib.hid S2
      have HG2 := Lib.hid G2
      clear hv hcm m1 m2 m3 hbd hd0 hd1 c0 c1 f1 z0 z1 HG HS HW S2 G2
      by_cases h200 : 200 < n
      · rcases HS2.out.rd.cells with h0 | ⟨bb', off', e, hc⟩
        · exact absurd h0 h2
        cases e
        have m1 : (0 : Int) ≤ ((t : Int) + 1) % len := Int.emod_nonneg _ (by omega)
        have m2 : ((t : Int) + 1) % len < len := Int.emod_lt_of_pos _ hp
        have m3 : (((t : Int) + 1) % len).toNat = (t + 1) % len := by rw [← Int.natCast_one, ← Int.natCast_add, ← Int.natCast_emod]; exact Int.toNat_natCast _
        have hcm := hc ((t + 1) % len) (Nat.mod_lt _ (by omega))
        have hbd := HS2.out.rd.getD_bd ((t + 1) % len)
        generalize zs.getD ((t + 1) % len) 0 = y at *
        clear hc
        have n1 : (0 : Int) ≤ (t : Int) + 1 := by omega
        go_wp2
        go_quiet (fail)
        obtain ⟨v', hv', hv1', hv2'⟩ : ∃ v', v * 251 + y * 13 + (t : Int) = v' ∧ 0 ≤ v' ∧ v' ≤ 10000000000 := ⟨_, rfl, by omega, by omega⟩
        rw [hv']
        have S3 := HS2.out.drewN nq
        have G3 : w.grownBy (W2.drewN nq) (some b) := grown_trans HG2.out (grown_of_below (belowN (Below.refl _ W2) nq) _)
        generalize W2.drewN nq = W3 at S3 G3 ⊢
        obtain ⟨z3, e0, e1⟩ := S3.box.two
        have HS3 := Lib.hid S3
        have HG3 := Lib.hid G3
        clear hv' hcm m1 m2 m3 hbd d0 d1 z2 HG2 HS2 S3 G3
        by_cases h6 : 60000 < n
        · rcases HS3.out.rd.cells with h0 | ⟨bb', off', e, hc⟩
          · exact absurd h0 h2
          cases e
          have m1 : (0 : Int) ≤ ((t : Int) + 2) % len := Int.emod_nonneg _ (by omega)
          have m2 : ((t : Int) + 2) % len < len := Int.emod_lt_of_pos _ hp
          have m3 : (((t : Int) + 2) % len).toNat = (t + 2) % len := by
            have : ((t : Int) + 2) = ((t + 2 : Nat) : Int) := by omega
            rw [this, ← Int.natCast_emod]; exact Int.toNat_natCast _
          have hcm := hc ((t + 2) % len) (Nat.mod_lt _ (by omega))
          have hbd := HS3.out.rd.getD_bd ((t + 2) % len)
          generalize zs.getD ((t + 2) % len) 0 = u at *
          clear hc
          have n2 : (0 : Int) ≤ (t : Int) + 2 := by omega
          go_wp2
          go_quiet (fail)
          obtain ⟨v2, hv2, hw1, hw2⟩ : ∃ v2, v' * 257 + u = v2 ∧ 0 ≤ v2 ∧ v2 ≤ 10000000000000 := ⟨_, rfl, by omega, by omega⟩
          rw [hv2]
          have S4 := HS3.out.drewN nq
          have G4 : w.grownBy (W3.drewN nq) (some b) := grown_trans HG3.out (grown_of_below (belowN (Below.refl _ W3) nq) _)
          generalize W3.drewN nq = W4 at S4 G4 ⊢
          have HS4 := Lib.hid S4
          have HG4 := Lib.hid G4
          have k1 : 0 ≤ v2 % n := Int.emod_nonneg _ (by omega)
          have k2 : v2 % n < n := Int.emod_lt_of_pos _ (by omega)
          clear hv2 hcm m1 m2 m3 hbd e0 e1 z3 HG3 HS3 S4 G4
          go_wp2
          go_ret
          exact ⟨_, rfl, k1, fun _ => k2, HS4.out, HG4.out⟩
        · have k1 : 0 ≤ v' % n := Int.emod_nonneg _ (by omega)
          have k2 : v' % n < n := Int.emod_lt_of_pos _ (by omega)
          go_wp2
          go_ret
          exact ⟨_, rfl, k1, fun _ => k2, HS3.out, HG3.out⟩
      · have k1 : 0 ≤ v % n := Int.emod_nonneg _ (by omega)
        have k2 : v % n < n := Int.emod_lt_of_pos _ (by omega)
        go_wp2
        go_ret
        exact ⟨_, rfl, k1, fun _ => k2, HS2.out, HG2.out⟩
end Go.Proofs.Ytmcllaefjgdbeaa

namespace Go.Proofs.Ytmcllaefjgdbeaa
open Go.ChangeShapes Go.WideShapes Go.ChangeAt Go.RowKit

theorem l1Source_any (a : Option Addr) (len cap : Nat) (zs : List Int) (w : World) (h : Rd w a len cap zs) :
    Calls Try.prog 57 #[.slice a len cap] w fun e w' => e = .returned (.pointer (some ⟨w.heap.size, 0, none⟩)) ∧ Src w' w.heap.size 0 a len cap zs ∧ Below w.heap.size w w' := by
  have hb := Lib.hid (Box.new w 91 #[.slice a len cap, .int .i64 0])
  have H := Lib.hid h
  clear h
  go_enter Try.func57, Try.ntmps57
  go_wp2
  go_ret
  refine ⟨rfl, ⟨hb.out, H.out.alloc _, ?_⟩, (Below.refl _ _).alloc (Nat.le_refl _) _⟩
  intro hp x hx
  rcases H.out.cells with h0 | ⟨b, off, e, hc⟩
  · omega
  · rw [e] at hx; cases hx; exact World.block_lt_of_cell? _ _ (hc 0 hp)

/-- a number between two bounds was drawn -/
def Picked (w : World) (b t : Nat) (lo hi : Int) (a : Option Addr) (len cap : Nat) (zs : List Int) (e : Ending) (w' : World) : Prop :=
  ∃ r : Int, e = .returned (.int .i64 r) ∧ lo ≤ r ∧ r ≤ hi ∧ Src w' b (t + 1) a len cap zs ∧ w.grownBy w' (some b)

set_option maxHeartbeats 1000000 in
theorem l1Pick_any (b t g n : Nat) (xs : List Int) (lo hi : Int) (a : Option Addr) (len cap : Nat) (zs : List Int) (w : World) (h : Src w b t a len cap zs) (hx : ∀ x ∈ xs, lo ≤ x ∧ x ≤ hi) (hn : xs.length = n) (hp : 0 < n) (hn2 : n ≤ 1000)
    (hL : Box w g 2 (xs.map (Value.int .i64)).toArray) (hgb : g ≠ b) (ht : t ≤ 1000000) (hl : len ≤ 1048576) :
    Calls Try.prog 58 #[.pointer (some ⟨b, 0, none⟩), .slice (some ⟨g, 0, none⟩) n n] w (Picked w b t lo hi a len cap zs) := by
  have K := Lib.hid (l1Next_any b t n a len cap zs w h ht hl (by omega))
  have HL := Lib.hid hL
  have HN := Lib.hid hn
  have HX := Lib.hid hx
  clear h hL hn hx
  go_enter Try.func58, Try.ntmps58
  go_wp2_with fail
  refine K.out.mono ?_
  rintro e w1 ⟨r, rfl, hr0, hr1, hs, hg⟩
  obtain ⟨i, rfl⟩ := Int.eq_ofNat_of_zero_le hr0
  have hin : i < n := by have := hr1 (by omega); omega
  have hc := (HL.out.grown hg (by intro e; cases e; exact hgb rfl)).cell i
  have hi' : i < xs.length := by rw [HN.out]; exact hin
  rw [List.getElem?_toArray, List.getElem?_map, List.getElem?_eq_getElem hi'] at hc
  have hb := HX.out _ (List.getElem_mem hi')
  simp only [Option.map_some] at hc
  generalize xs[i] = x at *
  have HS := Lib.hid hs
  have HG := Lib.hid hg
  clear hs hg hr0 hr1
  go_wp2
  go_ret
  exact ⟨x, rfl, hb.1, hb.2, HS.out, HG.out⟩

theorem l1Chance_any (b t : Nat) (n : Int) (a : Option Addr) (len cap : Nat) (zs : List Int) (w : World) (h : Src w b t a len cap zs) (ht : t ≤ 1000000) (hl : len ≤ 1048576) (hn : n ≤ 1000000) :
    Calls Try.prog 60 #[.pointer (some ⟨b, 0, none⟩), .int .i64 n] w fun e w' => ∃ c : Bool, e = .returned (.bool c) ∧ Src w' b (t + 1) a len cap zs ∧ w.grownBy w' (some b) := by
  have K := Lib.hid (l1Next_any b t n a len cap zs w h ht hl hn)
  clear h
  go_enter Try.func60, Try.ntmps60
  go_wp2_with fail
  refine K.out.mono ?_
  rintro e w1 ⟨r, rfl, hr0, hr1, hs, hg⟩
  have HS := Lib.hid hs
  have HG := Lib.hid hg
  clear hs hg hr0 hr1
  go_wp2
  go_ret
  exact ⟨_, rfl, HS.out, HG.out⟩

/-- some bytes were drawn, into an array of their own -/
def Somed (w : World) (b t n : Nat) (a : Option Addr) (len cap : Nat) (zs : List Int) (e : Ending) (w' : World) : Prop :=
  ∃ (a' : Option Addr) (c' : Nat) (ys : List Int), e = .returned (.slice a' n c') ∧ Own w' w.heap.size a' n c' ys ∧ Src w' b (t + n) a len cap zs ∧ w.grownBy w' (some b)

set_option maxHeartbeats 2000000 in
theorem l1Some_any (b t n : Nat) (a : Option Addr) (len cap : Nat) (zs : List Int) (w : World) (h : Src w b t a len cap zs) (ht : t + n ≤ 1000000) (hl : len ≤ 1048576) :
    Calls Try.prog 50 #[.pointer (some ⟨b, 0, none⟩), .int .i64 n] w (Somed w b t n a len cap zs) := by
  have o0 := Lib.hid (own_lit w w.heap.size (Nat.le_refl _))
  have s0 := Lib.hid (h.alloc (.cells #[] 5))
  have hbw := h.box.lt
  clear h
  go_enter Try.func50, Try.ntmps50
  go_wp2
  go_loopw [1, 5] (fun nn out wr => ∃ (k : Nat) (a' : Option Addr) (c' : Nat) (ys : List Int), k ≤ n ∧ nn = .int .i64 ((n - k : Nat) : Int) ∧ out = .slice a' k c' ∧ Own wr w.heap.size a' k c' ys ∧ Src wr b (t + k) a len cap zs ∧ w.grownBy wr (some b)) (fun nn _ _ => (intOf nn).toNat)
  case atStart => exact ⟨0, _, _, [], Nat.zero_le _, rfl, rfl, o0.out, s0.out, World.grownBy_alloc w _ _⟩
  case round =>
    obtain ⟨k, a', c', ys, hk, rfl, rfl, ho, hs, hg⟩ := hrel
    by_cases hlt : k < n
    · have K := Lib.hid (l1Next_any b (t + k) 256 a len cap zs wr hs (by omega) hl (by omega))
      have HO := Lib.hid ho
      have HG := Lib.hid hg
      have hgz := hg.size
      clear o0 s0 ho hs hg
      go_wp2_with fail
      refine K.out.mono ?_
      rintro e w1 ⟨r, rfl, hr0, hr1, hs1, hg1⟩
      have hr2 := hr1 (by omega)
      have o1 := HO.out.grown hg1 (by intro x hx e; have := HO.out.lt x hx; simp at e; omega)
      obtain ⟨x, rfl⟩ := Int.eq_ofNat_of_zero_le hr0
      have o2 := o1.alloc (.cells #[.int .u8 (x : Int)] 5)
      have hbx := Box.new w1 5 #[.int .u8 (x : Int)]
      have r2 : Rd (w1.alloc (.cells #[.int .u8 (x : Int)] 5)) (some ⟨w1.heap.size, 0, none⟩) 1 1 [(x : Int)] := ⟨rfl, Nat.le_refl _, by decide, by intro m hm; simp at hm; subst hm; omega, by simp, .inr ⟨_, 0, rfl, fun i hi => by
        obtain rfl : i = 0 := by omega
        exact hbx.cell 0⟩⟩
      have hs2 := hs1.alloc (.cells #[.int .u8 (x : Int)] 5)
      have hg2 := Lib.hid (grown_trans (grown_trans HG.out hg1) (World.grownBy_alloc w1 (.cells #[.int .u8 (x : Int)] 5) (some b)))
      have hz1 := hg1.size
      clear hr0 hr1 hg1 hs1 o1 hbx
      go_wp2_with (at_builtin; refine append_bytes _ rfl (.tmp 11) (.tmp 15) rfl w.heap.size _ _ _ _ rfl o2 _ _ _ _ rfl r2 (by simp; omega) (by omega) ?_; intro a3 c3 w3 o3 g3)
      have hs3 := hs2.grown g3 (fun x e => by have := own_row HO.out x e; omega)
      have hg3 := grown_through hg2.out g3 (own_row HO.out)
      go_roundw
      case rel => exact ⟨k + 1, a3, c3, ys ++ [(x : Int)], by omega, by go_num, rfl, o3, by rw [← Nat.add_assoc]; exact hs3, hg3⟩
      case measure => simp [intOf]; omega
    · obtain rfl : k = n := by omega
      have R := Lib.hid (And.intro ho (And.intro hs hg))
      clear ho hs hg o0 s0
      go_wp2
      go_ret
      exact ⟨a', c', ys, rfl, R.out.1, R.out.2.1, R.out.2.2⟩
end Go.Proofs.Ytmcllaefjgdbeaa

namespace Go.Proofs.Ytmcllaefjgdbeaa
open Go.ChangeShapes Go.WideShapes Go.ChangeAt Go.RowKit

def winB (seq frm size : Int) : Bool := sqB seq && sqB frm && inB size 0 65535 && inB (dist frm seq) 0 (size - 1)
theorem dist_bd (f t : Int) : -2147483648 ≤ dist f t ∧ dist f t ≤ 2147483647 := by
  unfold dist; split <;> omega

theorem win_yes {seq frm size : Int} (ha : (sqB frm && sqB seq) = true) (h : 0 ≤ size ∧ size ≤ 65535 ∧ 0 ≤ dist frm seq ∧ dist frm seq < size) : winB seq frm size = true := by
  rw [Bool.and_eq_true] at ha
  simp only [winB, ha.1, ha.2, in_t (v := size) (a := 0) (b := 65535) (by omega), in_t (v := dist frm seq) (a := 0) (b := size - 1) (by omega), Bool.and_self]
theorem win_no {seq frm size : Int} (h : ¬ (0 ≤ size ∧ size ≤ 65535 ∧ 0 ≤ dist frm seq ∧ dist frm seq < size)) : winB seq frm size = false := by
  by_cases k : 0 ≤ size ∧ size ≤ 65535
  · simp only [winB, in_f (v := dist frm seq) (a := 0) (b := size - 1) (by omega), Bool.and_false]
  · simp only [winB, in_f k, Bool.and_false, Bool.false_and]

end Go.Proofs.Ytmcllaefjgdbeaa

namespace Go.Proofs.Ytmcllaefjgdbeaa
open Go.ChangeShapes Go.WideShapes Go.ChangeAt Go.RowKit

theorem mem8 {x a b c d e f g h lo hi : Int} (hx : x ∈ [a, b, c, d, e, f, g, h]) (k : lo ≤ a ∧ a ≤ hi ∧ lo ≤ b ∧ b ≤ hi ∧ lo ≤ c ∧ c ≤ hi ∧ lo ≤ d ∧ d ≤ hi ∧ lo ≤ e ∧ e ≤ hi ∧ lo ≤ f ∧ f ≤ hi ∧ lo ≤ g ∧ g ≤ hi ∧ lo ≤ h ∧ h ≤ hi) : lo ≤ x ∧ x ≤ hi := by
  simp only [List.mem_cons, List.not_mem_nil, or_false] at hx
  rcases hx with rfl | rfl | rfl | rfl | rfl | rfl | rfl | rfl <;> omega

theorem mem2 {x a b lo hi : Int} (hx : x ∈ [a, b]) (k : lo ≤ a ∧ a ≤ hi ∧ lo ≤ b ∧ b ≤ hi) : lo ≤ x ∧ x ≤ hi := by
  simp only [List.mem_cons, List.not_mem_nil, or_false] at hx
  rcases hx with rfl | rfl <;> omega
theorem mem5 {x a b c d e lo hi : Int} (hx : x ∈ [a, b, c, d, e]) (k : lo ≤ a ∧ a ≤ hi ∧ lo ≤ b ∧ b ≤ hi ∧ lo ≤ c ∧ c ≤ hi ∧ lo ≤ d ∧ d ≤ hi ∧ lo ≤ e ∧ e ≤ hi) : lo ≤ x ∧ x ≤ hi := by
  simp only [List.mem_cons, List.not_mem_nil, or_false] at hx
  rcases hx with rfl | rfl | rfl | rfl | rfl <;> omega
theorem mem6 {x a b c d e f lo hi : Int} (hx : x ∈ [a, b, c, d, e, f]) (k : lo ≤ a ∧ a ≤ hi ∧ lo ≤ b ∧ b ≤ hi ∧ lo ≤ c ∧ c ≤ hi ∧ lo ≤ d ∧ d ≤ hi ∧ lo ≤ e ∧ e ≤ hi ∧ lo ≤ f ∧ f ≤ hi) : lo ≤ x ∧ x ≤ hi := by
  simp only [List.mem_cons, List.not_mem_nil, or_false] at hx
  rcases hx with rfl | rfl | rfl | rfl | rfl | rfl <;> omega

/-- two numbers were drawn -/
def Two (w : World) (P : Int → Int → Prop) (e : Ending) (w' : World) : Prop := ∃ x y : Int, e = .returned (.tuple #[.int .i64 x, .int .i64 y]) ∧ P x y ∧ Below w.heap.size w w'

theorem below_src {w w1 w2 : World} (h : Below w.heap.size w w1) (hg : w1.grownBy w2 (some w.heap.size)) : Below w.heap.size w w2 :=
  h.grown hg h.size (fun k e => by cases e; exact Nat.le_refl _)

/-- three numbers were drawn -/
def Three (w : World) (P : Int → Int → Int → Prop) (e : Ending) (w' : World) : Prop := ∃ x y z : Int, e = .returned (.tuple #[.int .i64 x, .int .i64 y, .int .i64 z]) ∧ P x y z ∧ Below w.heap.size w w'

end Go.Proofs.Ytmcllaefjgdbeaa

namespace Go.Proofs.Ytmcllaefjgdbeaa
open Go.ChangeShapes Go.WideShapes Go.ChangeAt Go.RowKit

/-- a datagram was drawn, its data in an array of their own -/
def DgDrawn (w : World) (b t : Nat) (a : Option Addr) (len cap : Nat) (zs : List Int) (e : Ending) (w' : World) : Prop :=
  ∃ (df dt : Int) (a' : Option Addr) (n c' : Nat) (ys : List Int), e = .returned (.agg #[.int .i64 df, .int .i64 dt, .slice a' n c']) ∧ (1 ≤ df ∧ df ≤ 65535) ∧ (1 ≤ dt ∧ dt ≤ 65535) ∧ n ≤ 9 ∧
    Own w' w.heap.size a' n c' ys ∧ Src w' b (t + 3 + n) a len cap zs ∧ w.grownBy w' (some b)

set_option maxHeartbeats 2000000 in
theorem l4Draw_any (b t : Nat) (a : Option Addr) (len cap : Nat) (zs : List Int) (w : World) (h : Src w b t a len cap zs) (ht : t ≤ 900000) (hl : len ≤ 1048576) :
    Calls Try.prog 48 #[.pointer (some ⟨b, 0, none⟩)] w (DgDrawn w b t a len cap zs) := by
  have z0 := h.box.lt
  have S0 := Lib.hid (h.alloc (.cells #[.int .i64 0, .int .i64 0, .slice none 0 0] 25))
  have G0 := Lib.hid (World.grownBy_alloc w (.cells #[.int .i64 0, .int .i64 0, .slice none 0 0] 25) (some b))
  have R0 := Lib.hid (Box.new w 25 #[.int .i64 0, .int .i64 0, .slice none 0 0])
  have y0 : b < (w.alloc (.cells #[.int .i64 0, .int .i64 0, .slice none 0 0] 25)).heap.size := by simp; omega
  clear h
  go_enter Try.func48, Try.ntmps48
  have K0 := Lib.hid (l1Pick_any b (t + 0) (w.alloc (.cells #[.int .i64 0, .int .i64 0, .slice none 0 0] 25)).heap.size 4 [1, 7, 5000, 65535] 1 65535 a len cap zs ((w.alloc (.cells #[.int .i64 0, .int .i64 0, .slice none 0 0] 25)).alloc (.cells #[.int .i64 1, .int .i64 7, .int .i64 5000, .int .i64 65535] 2)) (S0.out.alloc _) (fun x hx => by simp at hx; omega) rfl (by omega) (by omega) (Box.new _ _ _) (by omega) (by omega) hl)
  simp only [World.size_alloc] at K0
  have A0 := Lib.hid (grown_trans G0.out (World.grownBy_alloc (w.alloc (.cells #[.int .i64 0, .int .i64 0, .slice none 0 0] 25)) (.cells #[.int .i64 1, .int .i64 7, .int .i64 5000, .int .i64 65535] 2) (some b)))
  have Q0 := Lib.hid (R0.out.alloc (.cells #[.int .i64 1, .int .i64 7, .int .i64 5000, .int .i64 65535] 2))
  go_wp2_with fail
  refine K0.out.mono ?_
  rintro e w1 ⟨x0, rfl, l0, u0, s1, g1⟩
  have S1 := Lib.hid s1
  have G1 := Lib.hid (grown_trans A0.out g1)
  have R1 := Lib.hid (Q0.out.grown g1 (by simp; omega))
  have y1 : b < w1.heap.size := s1.box.lt
  clear s1 g1 K0 A0 Q0 S0 G0 R0 y0
  have K1 := Lib.hid (l1Pick_any b (t + 1) w1.heap.size 3 [1, 7, 53] 1 53 a len cap zs (w1.alloc (.cells #[.int .i64 1, .int .i64 7, .int .i64 53] 2)) (S1.out.alloc _) (fun x hx => by simp at hx; omega) rfl (by omega) (by omega) (Box.new _ _ _) (by omega) (by omega) hl)
  have A1 := Lib.hid (grown_trans G1.out (World.grownBy_alloc w1 (.cells #[.int .i64 1, .int .i64 7, .int .i64 53] 2) (some b)))
  have Q1 := Lib.hid (R1.out.alloc (.cells #[.int .i64 1, .int .i64 7, .int .i64 53] 2))
  go_wp2_with fail
  refine K1.out.mono ?_
  rintro e w2 ⟨x1, rfl, l1, u1, s2, g2⟩
  have S2 := Lib.hid s2
  have G2 := Lib.hid (grown_trans A1.out g2)
  have R2 := Lib.hid (Q1.out.grown g2 (by simp; omega))
  have y2 : b < w2.heap.size := s2.box.lt
  clear s2 g2 K1 A1 Q1 S1 G1 R1 y1
  have K2 := Lib.hid (l1Pick_any b (t + 2) w2.heap.size 4 [0, 1, 2, 9] 0 9 a len cap zs (w2.alloc (.cells #[.int .i64 0, .int .i64 1, .int .i64 2, .int .i64 9] 2)) (S2.out.alloc _) (fun x hx => by simp at hx; omega) rfl (by omega) (by omega) (Box.new _ _ _) (by omega) (by omega) hl)
  have A2 := Lib.hid (grown_trans G2.out (World.grownBy_alloc w2 (.cells #[.int .i64 0, .int .i64 1, .int .i64 2, .int .i64 9] 2) (some b)))
  have Q2 := Lib.hid (R2.out.alloc (.cells #[.int .i64 0, .int .i64 1, .int .i64 2, .int .i64 9] 2))
  go_wp2_with fail
  refine K2.out.mono ?_
  rintro e w3 ⟨x2, rfl, l2, u2, s3, g3⟩
  have S3 := Lib.hid s3
  have G3 := Lib.hid (grown_trans A2.out g3)
  have R3 := Lib.hid (Q2.out.grown g3 (by simp; omega))
  have y3 : b < w3.heap.size := s3.box.lt
  clear s3 g3 K2 A2 Q2 S2 G2 R2 y2
  obtain ⟨n, rfl⟩ := Int.eq_ofNat_of_zero_le l2
  have hn : n ≤ 9 := by omega
  have KS := Lib.hid (l1Some_any b (t + 3) n a len cap zs w3 S3.out (by omega) hl)
  have z5 := Lib.hid (G3.out.size)
  go_wp2_with fail
  refine KS.out.mono ?_
  rintro e w6 ⟨a6, c6, ys, rfl, o6, s6, g6⟩
  have R6 := R3.out.grown g6 (by simp; omega)
  have zR := R3.out.lt
  obtain ⟨_, r0, r1, r2⟩ := R6.three
  have f0 := R6.frozen 0
  have f1 := R6.frozen 1
  have f2 := R6.frozen 2
  have hne : Hid (∀ x, a6 = some x → ¬ x.block = w.heap.size) := fun x hx e => by
    have := (o6.lt x hx).1
    omega
  have O6 := Lib.hid (o6.rebase (show w.heap.size ≤ w3.heap.size by omega))
  have S6 := Lib.hid s6
  have G6 := Lib.hid (grown_trans G3.out g6)
  clear o6 s6 g6 KS S3 G3 R3 R6
  go_wp2
  refine bodyPost_ret (v := .agg #[.int .i64 x0, .int .i64 x1, .slice a6 n c6]) (by simp [results, Try.results48, go_sem, r0, r1, r2]) rfl ⟨x0, x1, a6, n, c6, ys, rfl, ⟨l0, u0⟩, ⟨l1, by omega⟩, hn, (((O6.out.setOther _ _ hne.out).setOther _ _ hne.out).setOther _ _ hne.out), ?_, ?_⟩
  · exact (((S6.out.grown (grown_setCell _ _ _) (fun x e => by simp at e; omega)).grown (grown_setCell _ _ _) (fun x e => by simp at e; omega)).grown (grown_setCell _ _ _) (fun x e => by simp at e; omega))
  · exact (grown_through (grown_through (grown_through G6.out (grown_setCell _ _ _) (fun x e => by simp at e; omega)) (grown_setCell _ _ _) (fun x e => by simp at e; omega)) (grown_setCell _ _ _) (fun x e => by simp at e; omega))
end Go.Proofs.Ytmcllaefjgdbeaa

namespace Go.Proofs.Ytmcllaefjgdbeaa
open Go.ChangeShapes Go.WideShapes Go.ChangeAt Go.RowKit

/-- some datagram, its data in an array of their own -/
def DgAny (w : World) (e : Ending) (w' : World) : Prop :=
  ∃ (df dt : Int) (a' : Option Addr) (n c' : Nat) (ys : List Int), e = .returned (.agg #[.int .i64 df, .int .i64 dt, .slice a' n c']) ∧ ((-1 ≤ df ∧ df ≤ 65536) ∧ (-1 ≤ dt ∧ dt ≤ 65536)) ∧ n ≤ 561 ∧
    Own w' w.heap.size a' n c' ys ∧ Below w.heap.size w w'

set_option maxHeartbeats 4000000 in
theorem drawDatagramFault (a : Option Addr) (len cap : Nat) (zs : List Int) (w : World) (h : Rd w a len cap zs) (hl : len ≤ 1048576) :
    Calls Try.prog 41 #[.slice a len cap] w (DgAny w) := by
  have K0 := Lib.hid (l1Source_any a len cap zs (w.alloc (.cells #[.int .i64 0, .int .i64 0, .slice none 0 0] 25)) (h.alloc _))
  have R0 := Lib.hid (Box.new w 25 #[.int .i64 0, .int .i64 0, .slice none 0 0])
  have B0 := Lib.hid ((Below.refl w.heap.size w).alloc (Nat.le_refl _) (.cells #[.int .i64 0, .int .i64 0, .slice none 0 0] 25))
  simp only [World.size_alloc] at K0
  clear h
  go_enter Try.func41, Try.ntmps41
  go_wp2_with fail
  refine K0.out.mono ?_
  rintro e w1 ⟨rfl, s1, b1⟩
  have R1 := Lib.hid (R0.out.below (B := w.heap.size + 1) b1 (by omega))
  have B1 := Lib.hid (B0.out.trans (b1.mono (by omega)))
  have z1 := Lib.hid s1.box.lt
  have K1 := Lib.hid (l4Draw_any _ _ a len cap zs w1 s1 (by omega) hl)
  clear s1 b1 K0 R0 B0
  go_wp2_with fail
  refine K1.out.mono ?_
  rintro e w2 ⟨df, dt, a2, n2, c2, ys2, rfl, b_f, b_t, hn2, o2, s2, g2⟩
  have z2 := Lib.hid (Nat.lt_of_lt_of_le z1.out g2.size)
  have R2 := Lib.hid ((R1.out.grown g2 (by simp)).alloc (.cells #[.int .i64 df, .int .i64 dt, .slice a2 n2 c2] 25))
  have P2 := Lib.hid (Box.new w2 25 #[.int .i64 df, .int .i64 dt, .slice a2 n2 c2])
  have B2' := B1.out.grown g2 B1.out.size (fun k e => by cases e; omega)
  have B2 := Lib.hid (B2'.alloc B2'.size (.cells #[.int .i64 df, .int .i64 dt, .slice a2 n2 c2] 25))
  have O2 := Lib.hid (o2.alloc (.cells #[.int .i64 df, .int .i64 dt, .slice a2 n2 c2] 25))
  have NP := Lib.hid (show ∀ x, a2 = some x → ¬ x.block = w2.heap.size from fun x hx e => by have := (o2.lt x hx).2; omega)
  have NR := Lib.hid (show ∀ x, a2 = some x → ¬ x.block = w.heap.size from fun x hx e => by have := (o2.lt x hx).1; have := z1.out; omega)
  have NB := Lib.hid (show ∀ x, a2 = some x → some x.block ≠ some (w.heap.size + 1) from fun x hx e => by have := (o2.lt x hx).1; have := z1.out; simp at e; omega)
  have S2 := Lib.hid (s2.alloc (.cells #[.int .i64 df, .int .i64 dt, .slice a2 n2 c2] 25))
  have y2 : w2.heap.size < (w2.alloc (.cells #[.int .i64 df, .int .i64 dt, .slice a2 n2 c2] 25)).heap.size := by simp
  have q1 := Lib.hid (show w1.heap.size ≤ w2.heap.size from g2.size)
  clear o2 s2 g2 R1 B1 B2' K1
  generalize hW2 : w2.alloc (.cells #[.int .i64 df, .int .i64 dt, .slice a2 n2 c2] 25) = W2 at *
  have K2 := Lib.hid (l1Next_any (w.heap.size + 1) _ 9 a len cap zs W2 S2.out (by omega) hl (by omega))
  clear S2
  go_wp2_with fail
  clear hW2
  refine K2.out.mono ?_
  rintro e w3 ⟨r, rfl, hr0, hr1, s3, g3⟩
  have hr2 := hr1 (by omega)
  have z2o := z2.out
  have R3 := Lib.hid (R2.out.grown g3 (by simp))
  have P3 := Lib.hid (P2.out.grown g3 (by simp; omega))
  have B3 := Lib.hid (B2.out.grown g3 B2.out.size (fun k e => by cases e; omega))
  have O3 := Lib.hid ((O2.out.grown g3 NB.out).rebase (show w.heap.size ≤ w1.heap.size by have := z1.out; omega))
  have S3 := Lib.hid s3
  have QL : Hid (w.heap.size + 1 < w2.heap.size) := z2.out
  have q3 : w2.heap.size < w3.heap.size := by have := g3.size; omega
  clear s3 g3 R2 P2 B2 O2 K2 hr1
  obtain ⟨rn, rfl⟩ := Int.eq_ofNat_of_zero_le hr0
  have hrn : rn = 0 ∨ rn = 1 ∨ rn = 2 ∨ 3 ≤ rn := by omega
  rcases hrn with rfl | rfl | rfl | hr4
  · have K4 := Lib.hid (l1Pick_any (w.heap.size + 1) _ w3.heap.size 2 [0, 65536] (0) 65536 a len cap zs (w3.alloc (.cells #[.int .i64 0, .int .i64 65536] 2)) (S3.out.alloc _) (fun x hx => by simp at hx; omega) rfl (by omega) (by omega) (Box.new _ _ _) (by omega) (by omega) hl)
    go_wp2_with fail
    refine K4.out.mono ?_
    rintro e w4 ⟨x, rfl, x0, x1, s4, g4⟩
    have RB := Lib.hid ((R3.out.alloc (.cells #[.int .i64 0, .int .i64 65536] 2)).grown g4 (by simp))
    have PB := Lib.hid ((P3.out.alloc (.cells #[.int .i64 0, .int .i64 65536] 2)).grown g4 (by simp; omega))
    have BL := Lib.hid ((B3.out.alloc B3.out.size (.cells #[.int .i64 0, .int .i64 65536] 2)).grown g4 (by have := B3.out.size; simp; omega) (fun k e => by cases e; omega))
    have OL := Lib.hid ((O3.out.alloc (.cells #[.int .i64 0, .int .i64 65536] 2)).grown g4 NB.out)
    have neP := NP
    have neR := NR
    clear s4 g4 K4 R3 P3 B3 O3 S3
    obtain ⟨_, p0, p1, p2⟩ := PB.out.three
    obtain ⟨_, r0, r1, r2⟩ := RB.out.three
    have fr0 := RB.out.frozen 0
    have fr1 := RB.out.frozen 1
    have fr2 := RB.out.frozen 2
    have fp0 := PB.out.frozen 0
    have hq1 := QL.out
    have hneP : ¬ w2.heap.size = w.heap.size := by omega
    clear PB RB
    go_wp2
    refine bodyPost_ret (v := .agg #[.int .i64 x, .int .i64 dt, .slice a2 n2 c2]) (by simp [results, Try.results41, go_sem, r0, r1, r2]) rfl ⟨_, _, a2, n2, c2, _, rfl, by omega, by omega, ((((OL.out.setOther _ _ neP.out).setOther _ _ neR.out).setOther _ _ neR.out).setOther _ _ neR.out), ((((BL.out.setCell (by dsimp only; omega) _).setCell (Nat.le_refl _) _).setCell (Nat.le_refl _) _).setCell (Nat.le_refl _) _)⟩
  · have K4 := Lib.hid (l1Pick_any (w.heap.size + 1) _ w3.heap.size 2 [0, -1] (-1) 0 a len cap zs (w3.alloc (.cells #[.int .i64 0, .int .i64 (-1)] 2)) (S3.out.alloc _) (fun x hx => by simp at hx; omega) rfl (by omega) (by omega) (Box.new _ _ _) (by omega) (by omega) hl)
    go_wp2_with fail
    refine K4.out.mono ?_
    rintro e w4 ⟨x, rfl, x0, x1, s4, g4⟩
    have RB := Lib.hid ((R3.out.alloc (.cells #[.int .i64 0, .int .i64 (-1)] 2)).grown g4 (by simp))
    have PB := Lib.hid ((P3.out.alloc (.cells #[.int .i64 0, .int .i64 (-1)] 2)).grown g4 (by simp; omega))
    have BL := Lib.hid ((B3.out.alloc B3.out.size (.cells #[.int .i64 0, .int .i64 (-1)] 2)).grown g4 (by have := B3.out.size; simp; omega) (fun k e => by cases e; omega))
    have OL := Lib.hid ((O3.out.alloc (.cells #[.int .i64 0, .int .i64 (-1)] 2)).grown g4 NB.out)
    have neP := NP
    have neR := NR
    clear s4 g4 K4 R3 P3 B3 O3 S3
    obtain ⟨_, p0, p1, p2⟩ := PB.out.three
    obtain ⟨_, r0, r1, r2⟩ := RB.out.three
    have fr0 := RB.out.frozen 0
    have fr1 := RB.out.frozen 1
    have fr2 := RB.out.frozen 2
    have fp1 := PB.out.frozen 1
    have hq1 := QL.out
    have hneP : ¬ w2.heap.size = w.heap.size := by omega
    clear PB RB
    go_wp2
    refine bodyPost_ret (v := .agg #[.int .i64 df, .int .i64 x, .slice a2 n2 c2]) (by simp [results, Try.results41, go_sem, r0, r1, r2]) rfl ⟨_, _, a2, n2, c2, _, rfl, by omega, by omega, ((((OL.out.setOther _ _ neP.out).setOther _ _ neR.out).setOther _ _ neR.out).setOther _ _ neR.out), ((((BL.out.setCell (by dsimp only; omega) _).setCell (Nat.le_refl _) _).setCell (Nat.le_refl _) _).setCell (Nat.le_refl _) _)⟩

  · have K4 := Lib.hid (l1Chance_any (w.heap.size + 1) _ 3 a len cap zs w3 S3.out (by omega) hl (by omega))
    go_wp2_with fail
    refine K4.out.mono ?_
    rintro e w4 ⟨cc, rfl, s4, g4⟩
    have R4 := Lib.hid (R3.out.grown g4 (by simp))
    have P4 := Lib.hid (P3.out.grown g4 (by simp; omega))
    have B4 := Lib.hid (B3.out.grown g4 B3.out.size (fun k e => by cases e; omega))
    have O4 := Lib.hid (O3.out.grown g4 NB.out)
    have S4 := Lib.hid s4
    have q4 : w2.heap.size < w4.heap.size := by have := g4.size; omega
    clear s4 g4 K4 R3 P3 B3 O3 S3
    cases cc
    · have RB := R4
      have PB := P4
      have BL := B4
      have OL := O4
      have neP := NP
      have neR := NR
      clear S4 R4 P4 B4 O4
      obtain ⟨_, p0, p1, p2⟩ := PB.out.three
      obtain ⟨_, r0, r1, r2⟩ := RB.out.three
      have fr0 := RB.out.frozen 0
      have fr1 := RB.out.frozen 1
      have fr2 := RB.out.frozen 2
      have hq1 := QL.out
      have hneP : ¬ w2.heap.size = w.heap.size := by omega
      clear PB RB
      go_wp2
      refine bodyPost_ret (v := .agg #[.int .i64 df, .int .i64 dt, .slice a2 n2 c2]) (by simp [results, Try.results41, go_sem, r0, r1, r2]) rfl ⟨_, _, a2, n2, c2, _, rfl, by omega, by omega, (((OL.out.setOther _ _ neR.out).setOther _ _ neR.out).setOther _ _ neR.out), (((BL.out.setCell (Nat.le_refl _) _).setCell (Nat.le_refl _) _).setCell (Nat.le_refl _) _)⟩
    · have K5 := Lib.hid (l1Pick_any (w.heap.size + 1) _ w4.heap.size 2 [552, 553] 552 553 a len cap zs (w4.alloc (.cells #[.int .i64 552, .int .i64 553] 2)) (S4.out.alloc _) (fun x hx => by simp at hx; omega) rfl (by omega) (by omega) (Box.new _ _ _) (by omega) (by omega) hl)
      go_wp2_with fail
      refine K5.out.mono ?_
      rintro e w5 ⟨x, rfl, x0, x1, s5, g5⟩
      obtain ⟨n, rfl⟩ := Int.eq_ofNat_of_zero_le (show 0 ≤ x by omega)
      have R5 := Lib.hid ((R4.out.alloc (.cells #[.int .i64 552, .int .i64 553] 2)).grown g5 (by simp))
      have P5 := Lib.hid ((P4.out.alloc (.cells #[.int .i64 552, .int .i64 553] 2)).grown g5 (by simp; omega))
      have B5 := Lib.hid ((B4.out.alloc B4.out.size (.cells #[.int .i64 552, .int .i64 553] 2)).grown g5 (by have := B4.out.size; simp; omega) (fun k e => by cases e; omega))
      have q5 : w2.heap.size < w5.heap.size := by have := g5.size; simp at this; omega
      have K6 := Lib.hid (l1Some_any (w.heap.size + 1) _ n a len cap zs w5 s5 (by omega) hl)
      clear s5 g5 K5 R4 P4 B4 O4 S4
      go_wp2_with fail
      refine K6.out.mono ?_
      rintro e w6 ⟨a6, c6, ys6, rfl, o6, s6, g6⟩
      have RB := Lib.hid (R5.out.grown g6 (by simp))
      have PB := Lib.hid (P5.out.grown g6 (by simp; omega))
      have BL := Lib.hid (B5.out.grown g6 B5.out.size (fun k e => by cases e; omega))
      have neP := Lib.hid (show ∀ x, a6 = some x → ¬ x.block = w2.heap.size from fun x hx e => by have := (o6.lt x hx).1; omega)
      have neR := Lib.hid (show ∀ x, a6 = some x → ¬ x.block = w.heap.size from fun x hx e => by have := (o6.lt x hx).1; omega)
      have OL := Lib.hid (o6.rebase (show w.heap.size ≤ w5.heap.size by omega))
      clear o6 s6 g6 K6 R5 P5 B5
      obtain ⟨_, p0, p1, p2⟩ := PB.out.three
      obtain ⟨_, r0, r1, r2⟩ := RB.out.three
      have fr0 := RB.out.frozen 0
      have fr1 := RB.out.frozen 1
      have fr2 := RB.out.frozen 2
      have fp2 := PB.out.frozen 2
      have hq1 := QL.out
      have hneP : ¬ w2.heap.size = w.heap.size := by omega
      clear PB RB
      go_wp2
      refine bodyPost_ret (v := .agg #[.int .i64 df, .int .i64 dt, .slice a6 n c6]) (by simp [results, Try.results41, go_sem, r0, r1, r2]) rfl ⟨_, _, a6, n, c6, _, rfl, by omega, by omega, ((((OL.out.setOther _ _ neP.out).setOther _ _ neR.out).setOther _ _ neR.out).setOther _ _ neR.out), ((((BL.out.setCell (by dsimp only; omega) _).setCell (Nat.le_refl _) _).setCell (Nat.le_refl _) _).setCell (Nat.le_refl _) _)⟩
  · have h0 : ((rn : Int) == 0) = false := by simp; omega
    have h1 : ((rn : Int) == 1) = false := by simp; omega
    have h2 : ((rn : Int) == 2) = false := by simp; omega
    have RB := R3
    have PB := P3
    have BL := B3
    have OL := O3
    have neP := NP
    have neR := NR
    clear S3 R3 P3 B3 O3
    obtain ⟨_, p0, p1, p2⟩ := PB.out.three
    obtain ⟨_, r0, r1, r2⟩ := RB.out.three
    have fr0 := RB.out.frozen 0
    have fr1 := RB.out.frozen 1
    have fr2 := RB.out.frozen 2
    have hq1 := QL.out
    have hneP : ¬ w2.heap.size = w.heap.size := by omega
    clear PB RB
    go_wp2
    refine bodyPost_ret (v := .agg #[.int .i64 df, .int .i64 dt, .slice a2 n2 c2]) (by simp [results, Try.results41, go_sem, r0, r1, r2]) rfl ⟨_, _, a2, n2, c2, _, rfl, by omega, by omega, (((OL.out.setOther _ _ neR.out).setOther _ _ neR.out).setOther _ _ neR.out), (((BL.out.setCell (Nat.le_refl _) _).setCell (Nat.le_refl _) _).setCell (Nat.le_refl _) _)⟩
end Go.Proofs.Ytmcllaefjgdbeaa

namespace Go.Proofs.Ytmcllaefjgdbeaa
open Go.ChangeShapes Go.WideShapes Go.ChangeAt Go.RowKit

theorem l1Later_any (n : Nat) (a : Option Addr) (len cap : Nat) (zs : List Int) (w : World) (h : Rd w a len cap zs) (hn : n ≤ 1000) :
    Calls Try.prog 39 #[.slice a len cap, .int .i64 n] w fun e w' => e = .returned (.pointer (some ⟨w.heap.size, 0, none⟩)) ∧ Src w' w.heap.size (5 + 7 * n) a len cap zs ∧ Below w.heap.size w w' := by
  have hb := Lib.hid (Box.new w 91 #[.slice a len cap, .int .i64 ((5 + 7 * n : Nat) : Int)])
  simp only [Int.natCast_add, Int.natCast_mul, Int.cast_ofNat_Int] at hb
  have H := Lib.hid h
  clear h
  go_enter Try.func39, Try.ntmps39
  go_wp2
  go_ret
  refine ⟨rfl, ⟨by simpa using hb.out, H.out.alloc _, ?_⟩, (Below.refl _ _).alloc (Nat.le_refl _) _⟩
  intro hp x hx
  rcases H.out.cells with h0 | ⟨b, off, e, hc⟩
  · omega
  · rw [e] at hx; cases hx; exact World.block_lt_of_cell? _ _ (hc 0 hp)

theorem l4Ip_any (b t : Nat) (a : Option Addr) (len cap : Nat) (zs : List Int) (w : World) (h : Src w b t a len cap zs) (ht : t ≤ 900000) (hl : len ≤ 1048576) :
    Calls Try.prog 72 #[.pointer (some ⟨b, 0, none⟩)] w (Picked w b t 0 4294967295 a len cap zs) := by
  have z0 := h.box.lt
  have K := Lib.hid (l1Pick_any b t w.heap.size 4 [167772161, 167772162, 0, 4294967295] 0 4294967295 a len cap zs (w.alloc (.cells #[.int .i64 167772161, .int .i64 167772162, .int .i64 0, .int .i64 4294967295] 2)) (h.alloc _) (fun x hx => by simp at hx; omega) rfl (by omega) (by omega) (Box.new _ _ _) (by omega) (by omega) hl)
  have G0 := Lib.hid (World.grownBy_alloc w (.cells #[.int .i64 167772161, .int .i64 167772162, .int .i64 0, .int .i64 4294967295] 2) (some b))
  clear h
  go_enter Try.func72, Try.ntmps72
  go_wp2_with fail
  refine K.out.mono ?_
  rintro e w1 ⟨x, rfl, x0, x1, s1, g1⟩
  have S1 := Lib.hid s1
  have G1 := Lib.hid (grown_trans G0.out g1)
  clear s1 g1 K G0
  go_wp2
  go_ret
  exact ⟨x, rfl, x0, x1, S1.out, G1.out⟩

theorem l4BentIp_any (b t : Nat) (a : Option Addr) (len cap : Nat) (zs : List Int) (w : World) (h : Src w b t a len cap zs) (ht : t ≤ 800000) (hl : len ≤ 1048576) :
    Calls Try.prog 40 #[.pointer (some ⟨b, 0, none⟩)] w (Picked w b (t + 1) (-1) 4294967296 a len cap zs) := by
  have K := Lib.hid (l1Chance_any b t 12 a len cap zs w h (by omega) hl (by omega))
  clear h
  go_enter Try.func40, Try.ntmps40
  go_wp2_with fail
  refine K.out.mono ?_
  rintro e w1 ⟨c, rfl, s1, g1⟩
  have z1 := s1.box.lt
  cases c
  · have K1 := Lib.hid (l4Ip_any b (t + 1) a len cap zs w1 s1 (by omega) hl)
    have G1 := Lib.hid g1
    clear s1 g1 K
    go_wp2_with fail
    refine K1.out.mono ?_
    rintro e w2 ⟨x, rfl, x0, x1, s2, g2⟩
    have S2 := Lib.hid s2
    have G2 := Lib.hid (grown_trans G1.out g2)
    clear s2 g2 K1 G1
    go_wp2
    go_ret
    exact ⟨x, rfl, by omega, by omega, S2.out, G2.out⟩
  · have K1 := Lib.hid (l1Pick_any b (t + 1) w1.heap.size 2 [-1, 4294967296] (-1) 4294967296 a len cap zs (w1.alloc (.cells #[.int .i64 (-1), .int .i64 4294967296] 2)) (s1.alloc _) (fun x hx => by simp at hx; omega) rfl (by omega) (by omega) (Box.new _ _ _) (by omega) (by omega) hl)
    have G1 := Lib.hid (grown_trans g1 (World.grownBy_alloc w1 (.cells #[.int .i64 (-1), .int .i64 4294967296] 2) (some b)))
    clear s1 g1 K
    go_wp2_with fail
    refine K1.out.mono ?_
    rintro e w2 ⟨x, rfl, x0, x1, s2, g2⟩
    have S2 := Lib.hid s2
    have G2 := Lib.hid (grown_trans G1.out g2)
    clear s2 g2 K1 G1
    go_wp2
    go_ret
    exact ⟨x, rfl, x0, x1, S2.out, G2.out⟩

def Four (w : World) (P : Int → Int → Int → Int → Prop) (e : Ending) (w' : World) : Prop := ∃ x y z u : Int, e = .returned (.tuple #[.int .i64 x, .int .i64 y, .int .i64 z, .int .i64 u]) ∧ P x y z u ∧ Below w.heap.size w w'
set_option maxHeartbeats 1000000 in
theorem drawPseudoHead (a : Option Addr) (len cap : Nat) (zs : List Int) (w : World) (h : Rd w a len cap zs) (hl : len ≤ 1048576) :
    Calls Try.prog 14 #[.slice a len cap] w (Four w fun x y z u => (-1 ≤ x ∧ x ≤ 4294967296) ∧ (-1 ≤ y ∧ y ≤ 4294967296) ∧ (-1 ≤ z ∧ z ≤ 256) ∧ (-1 ≤ u ∧ u ≤ 65536)) := by
  have K0 := Lib.hid (l1Source_any a len cap zs w h)
  clear h
  go_enter Try.func14, Try.ntmps14
  go_wp2_with fail
  refine K0.out.mono ?_
  rintro e w1 ⟨rfl, s1, b1⟩
  have B1 := Lib.hid b1
  have K1 := Lib.hid (l4BentIp_any _ _ a len cap zs w1 s1 (by omega) hl)
  clear s1 b1 K0
  go_wp2_with fail
  refine K1.out.mono ?_
  rintro e w2 ⟨x, rfl, x0, x1, s2, g2⟩
  have B2 := Lib.hid (B1.out.grown g2 B1.out.size (fun k e => by cases e; exact Nat.le_refl _))
  have K2 := Lib.hid (l4BentIp_any _ _ a len cap zs w2 s2 (by omega) hl)
  clear s2 g2 K1 B1
  go_wp2_with fail
  refine K2.out.mono ?_
  rintro e w3 ⟨y, rfl, y0, y1, s3, g3⟩
  have z3 := s3.box.lt
  have B3 := Lib.hid ((B2.out.grown g3 B2.out.size (fun k e => by cases e; exact Nat.le_refl _)).alloc (by omega) (.cells #[.int .i64 6, .int .i64 17, .int .i64 0, .int .i64 255, .int .i64 256, .int .i64 (-1)] 2))
  have K3 := Lib.hid (l1Pick_any _ _ w3.heap.size 6 [6, 17, 0, 255, 256, -1] (-1) 256 a len cap zs (w3.alloc (.cells #[.int .i64 6, .int .i64 17, .int .i64 0, .int .i64 255, .int .i64 256, .int .i64 (-1)] 2)) (s3.alloc _) (fun x hx => by simp at hx; omega) rfl (by omega) (by omega) (Box.new _ _ _) (by omega) (by omega) hl)
  clear s3 g3 K2 B2
  go_wp2_with fail
  refine K3.out.mono ?_
  rintro e w4 ⟨z, rfl, q0, q1, s4, g4⟩
  have z4 := s4.box.lt
  have B4 := Lib.hid ((B3.out.grown g4 (by have := B3.out.size; simp; omega) (fun k e => by cases e; exact Nat.le_refl _)).alloc (by omega) (.cells #[.int .i64 0, .int .i64 8, .int .i64 300, .int .i64 65535, .int .i64 65536, .int .i64 (-1)] 2))
  have K4 := Lib.hid (l1Pick_any _ _ w4.heap.size 6 [0, 8, 300, 65535, 65536, -1] (-1) 65536 a len cap zs (w4.alloc (.cells #[.int .i64 0, .int .i64 8, .int .i64 300, .int .i64 65535, .int .i64 65536, .int .i64 (-1)] 2)) (s4.alloc _) (fun x hx => by simp at hx; omega) rfl (by omega) (by omega) (Box.new _ _ _) (by omega) (by omega) hl)
  clear s4 g4 K3 B3
  go_wp2_with fail
  refine K4.out.mono ?_
  rintro e w5 ⟨u, rfl, u0, u1, s5, g5⟩
  have B5 := Lib.hid (B4.out.grown g5 (by have := B4.out.size; simp; omega) (fun k e => by cases e; exact Nat.le_refl _))
  clear s5 g5 K4 B4
  go_wp2
  exact bodyPost_ret (v := .tuple #[.int .i64 x, .int .i64 y, .int .i64 z, .int .i64 u]) (by simp [results, Try.results14, go_sem]) rfl ⟨x, y, z, u, rfl, ⟨⟨x0, x1⟩, ⟨y0, y1⟩, ⟨q0, q1⟩, ⟨u0, u1⟩⟩, B5.out⟩

def TwoDg (w : World) (e : Ending) (w' : World) : Prop :=
  ∃ (x y df dt : Int) (a' : Option Addr) (n c' : Nat) (ys : List Int), e = .returned (.tuple #[.int .i64 x, .int .i64 y, .agg #[.int .i64 df, .int .i64 dt, .slice a' n c']]) ∧ ((-1 ≤ x ∧ x ≤ 4294967296) ∧ (-1 ≤ y ∧ y ≤ 4294967296)) ∧ ((-1 ≤ df ∧ df ≤ 65536) ∧ (-1 ≤ dt ∧ dt ≤ 65536)) ∧ n ≤ 561 ∧ Own w' w.heap.size a' n c' ys ∧ Below w.heap.size w w'
set_option maxHeartbeats 1000000 in
theorem drawPackDatagram (a : Option Addr) (len cap : Nat) (zs : List Int) (w : World) (h : Rd w a len cap zs) (hl : len ≤ 1048576) :
    Calls Try.prog 10 #[.slice a len cap] w (TwoDg w) := by
  have B0 := Lib.hid ((Below.refl w.heap.size w).alloc (Nat.le_refl _) (.cells #[.int .i64 0, .int .i64 0, .slice none 0 0] 25))
  have X0 := Lib.hid (Box.new w 25 #[.int .i64 0, .int .i64 0, .slice none 0 0])
  have K0 := Lib.hid (l1Later_any 3 a len cap zs _ (h.below B0.out) (by omega))
  have KF := Lib.hid (fun W (hW : Below w.heap.size w W) => drawDatagramFault a len cap zs W (h.below hW) hl)
  simp only [World.size_alloc] at K0
  clear h
  go_enter Try.func10, Try.ntmps10
  go_wp2_with fail
  refine K0.out.mono ?_
  rintro e w1 ⟨rfl, s1, b1⟩
  have X1 := Lib.hid (X0.out.below (B := w.heap.size + 1) b1 (by omega))
  have B1 := Lib.hid (B0.out.trans (b1.mono (by omega)))
  have K1 := Lib.hid (l4BentIp_any _ _ a len cap zs w1 s1 (by omega) hl)
  clear s1 b1 K0 X0 B0
  go_wp2_with fail
  refine K1.out.mono ?_
  rintro e w2 ⟨x, rfl, x0, x1, s2, g2⟩
  have X2 := Lib.hid (X1.out.grown g2 (by simp))
  have B2 := Lib.hid (B1.out.grown g2 B1.out.size (fun k e => by cases e; omega))
  have K2 := Lib.hid (l4BentIp_any _ _ a len cap zs w2 s2 (by omega) hl)
  clear s2 g2 K1 X1 B1
  go_wp2_with fail
  refine K2.out.mono ?_
  rintro e w3 ⟨y, rfl, y0, y1, s3, g3⟩
  have X3 := Lib.hid (X2.out.grown g3 (by simp))
  have B3 := Lib.hid (B2.out.grown g3 B2.out.size (fun k e => by cases e; omega))
  clear s3 g3 K2 X2 B2
  go_wp2_with fail
  refine (KF.out _ B3.out).mono ?_
  rintro e w4 ⟨df, dt, a4, n4, c4, ys4, rfl, hk, hn4, o4, b4⟩
  have X4 := Lib.hid (X3.out.below b4 X3.out.lt)
  have B4 := Lib.hid (B3.out.trans (b4.mono B3.out.size))
  have O4 := Lib.hid (o4.rebase B3.out.size)
  have HK := Lib.hid hk
  have hx : Hid (∀ x, a4 = some x → some x.block ≠ some w.heap.size) := fun x hx e => by
    have := (o4.lt x hx).1
    have := X3.out.lt
    simp only [Option.some.injEq] at e
    omega
  clear o4 b4 hk X3 B3 KF
  go_wp2_with ((with_reducible change wpList _ _ _ (Oper.mk none (Op.store _ _ _) _ _ _ _ :: _) _ _); refine storeBox_list _ rfl 25 (.tmp 4) (.tmp 13) rfl w.heap.size 25 _ #[.int .i64 df, .int .i64 dt, .slice a4 n4 c4] X4.out (by exact rfl) (by exact rfl) (by kernel_rfl) (by exact rfl) (by simp [Value.oneCell']) ?_; intro w5 x5 g5; have X5 := Lib.hid x5; have G5 := Lib.hid g5; clear x5 g5)
  obtain ⟨_, p0, p1, p2⟩ := X5.out.three
  exact bodyPost_ret (v := .tuple #[.int .i64 x, .int .i64 y, .agg #[.int .i64 df, .int .i64 dt, .slice a4 n4 c4]]) (by simp [results, Try.results10, go_sem, p0, p1, p2]) rfl ⟨x, y, df, dt, a4, n4, c4, ys4, rfl, ⟨⟨x0, x1⟩, ⟨y0, y1⟩⟩, HK.out, hn4, O4.out.grown G5.out hx.out, B4.out.grown G5.out B4.out.size (fun k e => by cases e; exact Nat.le_refl _)⟩
end Go.Proofs.Ytmcllaefjgdbeaa

namespace Go.Proofs.Ytmcllaefjgdbeaa
open Go.ChangeShapes Go.WideShapes Go.ChangeAt Go.RowKit

theorem packed_code {w : World} {o : Obj} {c : Int} {e : Ending} (he : e = .returned (.agg #[.int .i64 c, .slice none 0 0])) : Packed w c [] e (w.alloc o) :=
  ⟨none, 0, 0, he, Own.nil _ _, (Below.refl _ _).alloc (Nat.le_refl _) _⟩

theorem below_grown {w w' : World} {B : Nat} {row : Option Nat} (hg : w.grownBy w' row) (hB : B ≤ w.heap.size) (hr : ∀ k, row = some k → B ≤ k) : Below B w w' := (Below.refl B w).grown hg hB hr

theorem field_ir (w : World) (c v : Int) : (Instr.field 71 (.agg #[.int .i64 c, .int .i64 v]) 1).run Try.prog w = .ok (.int .i64 v) w := by
  simp [Instr.field, asAgg, go_sem]
theorem field_br (w : World) (c : Int) (a : Option Addr) (l k : Nat) : (Instr.field 29 (.agg #[.int .i64 c, .slice a l k]) 1).run Try.prog w = .ok (.slice a l k) w := by
  simp [Instr.field, asAgg, go_sem]

theorem splice_cons (a : Int) (r : List Int) (A : Nat) (cs : List Int) : splice (a :: r) (A + 1) cs = a :: splice r A cs := by
  unfold splice
  rw [show A + 1 + cs.length = (A + cs.length) + 1 by omega]
  rfl
theorem set2_splice : ∀ (A : Nat) (L : List Int) (x y : Int), A + 2 ≤ L.length → (L.set A x).set (A + 1) y = splice L A [x, y]
  | _, [], _, _, h => absurd h (by simp)
  | 0, [_], _, _, h => absurd h (by simp)
  | 0, _ :: _ :: _, _, _, _ => rfl
  | A + 1, a :: r, x, y, h => by
    rw [splice_cons, ← set2_splice A r x y (by simpa using h)]
    rfl
theorem be2 (v : Int) (h : 0 ≤ v ∧ v ≤ 65535) : be v 2 = [v / 256, v % 256] := by
  have : v / 256 % 256 = v / 256 := by omega
  simp [be, this]
theorem sealB_splice (zs : List Int) (A : Nat) (h : A + 2 ≤ zs.length) : sealB zs A = splice (seal0 zs A) A (be (sumV (seal0 zs A)) 2) := by
  rw [be2 _ (sumV_bd _)]
  exact set2_splice _ _ _ _ (by simp [seal0]; omega)

end Go.Proofs.Ytmcllaefjgdbeaa

namespace Go.Proofs.Ytmcllaefjgdbeaa
open Go.ChangeShapes Go.WideShapes Go.ChangeAt Go.RowKit

theorem lwBig_f (a : Option Addr) (len cap : Nat) (w : World) (hl : len ≤ 1048576) : Calls Try.prog 9 #[.slice a len cap] w fun e w' => e = .returned (.bool false) ∧ w = w' := by
  have e1 : decide ((1048576 : Int) < len) = false := decide_eq_false (by omega)
  go_enter Try.func9, Try.ntmps9
  go_wp2
  go_ret
  exact ⟨rfl, rfl⟩
theorem lwBig_t (a : Option Addr) (len cap : Nat) (w : World) (hl : ¬ len ≤ 1048576) : Calls Try.prog 9 #[.slice a len cap] w fun e w' => e = .returned (.bool true) ∧ w = w' := by
  have e1 : decide ((1048576 : Int) < len) = true := decide_eq_true (by omega)
  go_enter Try.func9, Try.ntmps9
  go_wp2
  go_ret
  exact ⟨rfl, rfl⟩

theorem keepc {W w1 : World} (hb : Below W.heap.size W w1) {p : Addr} {u : Value} (h : W.cell? p = some u) : w1.cell? p = some u := (hb.cell (World.block_lt_of_cell? _ _ h)).trans h

theorem add_dist {f t : Int} (hf : sqB f = true) (ht : sqB t = true) : addC f (dist f t) = 0 ∧ addV f (dist f t) = t := by
  have hd := dist_bd f t
  have hi : inB (dist f t) (-4294967296) 4294967296 = true := in_t (by omega)
  simp only [sqB, decide_eq_true_eq] at hf ht
  refine ⟨by simp only [addC, sq_t hf, hi, Bool.and_self, if_true], ?_⟩
  simp only [addV, sq_t hf, hi, Bool.and_self, if_true]
  unfold dist
  split <;> omega
theorem dist_back {f t : Int} (hf : sqB f = true) (ht : sqB t = true) (h : -2147483648 < dist f t) : distC t f = 0 ∧ distV t f = -dist f t := by
  refine ⟨by simp only [distC, hf, ht, Bool.and_self, if_true], ?_⟩
  simp only [distV, hf, ht, Bool.and_self, if_true]
  simp only [sqB, decide_eq_true_eq] at hf ht
  unfold dist at *
  split at h <;> (split <;> omega)
theorem add_back {s n : Int} (h : addC s n = 0) : addC (addV s n) (-n) = 0 ∧ addV (addV s n) (-n) = s := by
  unfold addC at h
  split at h
  · rename_i hk
    have hv : addV s n = (s + n) % 4294967296 := by unfold addV; rw [if_pos hk]
    rw [Bool.and_eq_true] at hk
    have h1 := hk.1
    have h2 := hk.2
    simp only [sqB, inB, decide_eq_true_eq] at h1 h2
    have k1 : sqB (addV s n) = true := sq_t (by rw [hv]; omega)
    have k2 : inB (-n) (-4294967296) 4294967296 = true := in_t (by omega)
    refine ⟨by simp only [addC, k1, k2, Bool.and_self, if_true], ?_⟩
    have e : addV (addV s n) (-n) = (addV s n + -n) % 4294967296 := by
      simp only [addV, k1, k2, Bool.and_self, if_true] at *
    rw [e, hv]; omega
  · omega

end Go.Proofs.Ytmcllaefjgdbeaa

namespace Go.Proofs.Ytmcllaefjgdbeaa
open Go.ChangeShapes Go.WideShapes Go.ChangeAt Go.RowKit

theorem own_litB1 (w : World) (base : Nat) (x : Int) (hx : 0 ≤ x ∧ x ≤ 255) (hb : base ≤ w.heap.size) : Own (w.alloc (.cells #[.int .u8 x] 5)) base (some ⟨w.heap.size, 0, none⟩) 1 1 [x] :=
  ⟨World.ownsRow_lit w #[.int .u8 x] 1 hb (by unfold maxLen; omega) rfl, by intro n hn; simp at hn; omega⟩
/-- some bytes that can be read -/
def SomeRd (B N : Nat) (w : World) (e : Ending) (w' : World) : Prop :=
  ∃ (a' : Option Addr) (n c' : Nat) (ys : List Int), e = .returned (.slice a' n c') ∧ n ≤ N ∧ Rd w' a' n c' ys ∧ Below B w w'

set_option maxRecDepth 20000 in
set_option maxHeartbeats 2000000 in
theorem l1Spoil_any (b t g B : Nat) (a : Option Addr) (len cap : Nat) (zs : List Int) (l c base : Nat) (ys : List Int) (w : World) (h : Src w b t a len cap zs) (ho : Own w base (some ⟨g, 0, none⟩) l c ys) (hgb : g ≠ b)
    (hB1 : B ≤ b) (hB2 : B ≤ base) (h1 : 1 ≤ l) (h2 : l ≤ 100) (ht : t ≤ 900000) (hl : len ≤ 1048576) :
    Calls Try.prog 53 #[.pointer (some ⟨b, 0, none⟩), .slice (some ⟨g, 0, none⟩) l c] w (SomeRd B 101 w) := by
  have hgl := ho.lt _ rfl
  dsimp only at hgl
  have hbl := h.box.lt
  have K0 := Lib.hid (l1Next_any b t 8 a len cap zs w h (by omega) hl (by omega))
  have O0 := Lib.hid ho
  have hm := ho.max
  clear h ho
  go_enter Try.func53, Try.ntmps53
  go_wp2_with fail
  refine K0.out.mono ?_
  rintro e w1 ⟨r, rfl, hr0, hr1, s1, g1⟩
  have hr2 := hr1 (by omega)
  have S1 := Lib.hid s1
  have O1 := Lib.hid (O0.out.grown g1 (by rintro x hx; cases hx; simpa using hgb))
  have B1 := Lib.hid (below_of_grown g1 (show B ≤ w.heap.size by omega) (fun k e => by cases e; exact hB1))
  have z1 := Lib.hid g1.size
  clear s1 g1 O0 hr1 K0
  obtain e0 | e0 | e0 | e0 : r = 0 ∨ r = 1 ∨ r = 2 ∨ 3 ≤ r := by omega
  · subst e0
    have l1 : decide ((0 : Int) < l) = true := decide_eq_true (by omega)
    have K1 := Lib.hid (fun W (hS : Src W b (t + 1) a len cap zs) => l1Next_any b (t + 1) l a len cap zs W hS (by omega) hl (by omega))
    have K3 := Lib.hid (fun W (hS : Src W b (t + 2) a len cap zs) => l1Next_any b (t + 2) 255 a len cap zs W hS (by omega) hl (by omega))
    have SD := Lib.hid (S1.out.below (Below.refl _ w1).drew)
    have OD := Lib.hid O1.out.drew
    have BD := Lib.hid B1.out.drew
    clear S1 O1 B1 l1
    go_wp2_with fail
    refine wp_region_held_drew (S := fun _ => True) (by kernel_rfl) trivial (fun hHeld => ?_)
    refine wpAnyH_take (i := 0) (v := ?_) (by simp only [List.getElem?_toArray, List.getElem?_cons_zero]; exact rfl) (by kernel_rfl) (by kernel_rfl) (by kernel_rfl) (by exact fun _ _ _ h => h) (Or.inl ⟨by rfl, ?_⟩) hHeld ?_
    rotate_left
    · intro w' hSw
      go_simp
      try with_reducible rfl
    try simp only [Act.put, List.setIfInBounds_toArray, List.set_cons_zero, List.set_cons_succ]
    refine wpAnyH_take (i := 1) (v := ?_) (by simp only [List.getElem?_toArray, List.getElem?_cons_zero, List.getElem?_cons_succ]; exact rfl) (by kernel_rfl) (by kernel_rfl) (by kernel_rfl) (by exact fun _ _ _ h => h) (Or.inl ⟨by rfl, ?_⟩) hHeld ?_
    rotate_left
    · intro w' hSw
      go_simp
      try with_reducible rfl
    try simp only [Act.put, List.setIfInBounds_toArray, List.set_cons_zero, List.set_cons_succ]
    refine wpAnyH_take (i := 2) (v := ?_) (by simp only [List.getElem?_toArray, List.getElem?_cons_zero, List.getElem?_cons_succ]; exact rfl) (by kernel_rfl) (by kernel_rfl) (by kernel_rfl) (by exact fun _ _ _ h => h) (Or.inl ⟨by rfl, ?_⟩) hHeld ?_
    rotate_left
    · intro w' hSw
      go_simp
      try with_reducible rfl
    try simp only [Act.put, List.setIfInBounds_toArray, List.set_cons_zero, List.set_cons_succ]
    refine wpAnyH_take (i := 3) (v := ?_) (by simp only [List.getElem?_toArray, List.getElem?_cons_zero, List.getElem?_cons_succ]; exact rfl) (by kernel_rfl) (by kernel_rfl) (by kernel_rfl) (by exact fun _ _ _ h => h) (Or.inl ⟨by rfl, ?_⟩) hHeld ?_
    rotate_left
    · intro w' hSw
      go_simp
      try with_reducible rfl
    try simp only [Act.put, List.setIfInBounds_toArray, List.set_cons_zero, List.set_cons_succ]
    refine wpAnyH_take (i := 7) (v := ?_) (by simp only [List.getElem?_toArray, List.getElem?_cons_zero, List.getElem?_cons_succ]; exact rfl) (by kernel_rfl) (by kernel_rfl) (by kernel_rfl) (by exact fun _ _ _ h => h) (Or.inl ⟨by rfl, ?_⟩) hHeld ?_
    rotate_left
    · intro w' hSw
      go_simp
      try with_reducible rfl
    try simp only [Act.put, List.setIfInBounds_toArray, List.set_cons_zero, List.set_cons_succ]
    refine wpAnyH_ready (rs := [4]) (by kernel_rfl) (by simp) ?_
    refine (AllReadyH.cons (by simp only [List.getElem?_toArray, List.getElem?_cons_zero, List.getElem?_cons_succ]; exact rfl) (fun K hK => ?_) AllReadyH.nil)
    refine want_none (by exact rfl) ?_
    go_wp2_with fail
    refine (K1.out _ SD.out).mono ?_
    rintro e w3 ⟨r2, rfl, hq0, hq1, s3, g3⟩
    have hq2 := hq1 (by omega)
    obtain ⟨k, rfl⟩ := Int.eq_ofNat_of_zero_le hq0
    have hk : k < l := by omega
    have hki : (k : Int) < l := by omega
    have S3 := Lib.hid s3
    have O3 := Lib.hid (OD.out.grown g3 (by rintro x hx; cases hx; simpa using hgb))
    have B3 := Lib.hid (BD.out.trans (below_of_grown g3 (show B ≤ w1.drew.heap.size by have := z1.out; show B ≤ w1.heap.size; omega) (fun k e => by cases e; exact hB1)))
    have z3 := Lib.hid (show w.heap.size ≤ w3.heap.size from Nat.le_trans z1.out g3.size)
    clear s3 g3 OD BD SD
    go_wp2_with fail
    refine hK.out _ _ trivial (fun hHeld => ?_)
    clear hK K
    try simp only [Act.put, List.setIfInBounds_toArray, List.set_cons_zero, List.set_cons_succ]
    refine wpAnyH_take (i := 5) (v := ?_) (by simp only [List.getElem?_toArray, List.getElem?_cons_zero, List.getElem?_cons_succ]; exact rfl) (by kernel_rfl) (by kernel_rfl) (by kernel_rfl) (by exact fun _ _ _ h => h) (Or.inl ⟨by rfl, ?_⟩) hHeld ?_
    rotate_left
    · intro w' hSw
      go_simp
      try with_reducible rfl
    try simp only [Act.put, List.setIfInBounds_toArray, List.set_cons_zero, List.set_cons_succ]
    refine wpAnyH_ready (rs := [6, 8]) (by kernel_rfl) (by simp) ?_
    refine (AllReadyH.cons (by simp only [List.getElem?_toArray, List.getElem?_cons_zero, List.getElem?_cons_succ]; exact rfl) (fun K hK => ?_) (AllReadyH.cons (by simp only [List.getElem?_toArray, List.getElem?_cons_zero, List.getElem?_cons_succ]; exact rfl) (fun K hK => ?_) AllReadyH.nil))
    · skip
      have ck := O3.out.cellAt k hk
      refine want_none (by exact rfl) ?_
      go_wp2_with fail
      refine hK.out _ _ trivial (fun hHeld => ?_)
      clear hK K
      try simp only [Act.put, List.setIfInBounds_toArray, List.set_cons_zero, List.set_cons_succ]
      clear ck
      refine wpAnyH_ready (rs := [8]) (by kernel_rfl) (by simp) ?_
      refine (AllReadyH.cons (by simp only [List.getElem?_toArray, List.getElem?_cons_zero, List.getElem?_cons_succ]; exact rfl) (fun K hK => ?_) AllReadyH.nil)
      refine want_none (by exact rfl) ?_
      go_wp2_with fail
      refine (K3.out _ S3.out).mono ?_
      rintro e w4 ⟨r3, rfl, hp0, hp1, s4, g4⟩
      have hp2 := hp1 (by omega)
      have hw1 : IntKind.i64.wrap (1 + r3) = 1 + r3 := IntWalk.i64_in _ (by omega)
      have uw := u8_in (1 + r3) ⟨by omega, by omega⟩
      have O4 := Lib.hid (O3.out.grown g4 (by rintro x hx; cases hx; simpa using hgb))
      have B4 := Lib.hid (B3.out.trans (below_of_grown g4 (show B ≤ w3.heap.size by have := z3.out; omega) (fun k e => by cases e; exact hB1)))
      clear s4 g4 O3 B3 S3
      go_wp2_with fail
      refine hK.out _ _ trivial (fun hHeld => ?_)
      clear hK K
      try simp only [Act.put, List.setIfInBounds_toArray, List.set_cons_zero, List.set_cons_succ]
      refine wpAnyH_take (i := 9) (v := ?_) (by simp only [List.getElem?_toArray, List.getElem?_cons_zero, List.getElem?_cons_succ]; exact rfl) (by kernel_rfl) (by kernel_rfl) (by kernel_rfl) (by exact fun _ _ _ h => h) (Or.inl ⟨by rfl, ?_⟩) hHeld ?_
      rotate_left
      · intro w' hSw
        go_simp
        try with_reducible rfl
      try simp only [Act.put, List.setIfInBounds_toArray, List.set_cons_zero, List.set_cons_succ]
      refine wpAnyH_take (i := 10) (v := ?_) (by simp only [List.getElem?_toArray, List.getElem?_cons_zero, List.getElem?_cons_succ]; exact rfl) (by kernel_rfl) (by kernel_rfl) (by kernel_rfl) (by exact fun _ _ _ h => h) (Or.inl ⟨by rfl, ?_⟩) hHeld ?_
      rotate_left
      · intro w' hSw
        go_simp
        try with_reducible rfl
      try simp only [Act.put, List.setIfInBounds_toArray, List.set_cons_zero, List.set_cons_succ]
      refine wpAnyH_take (i := 11) (v := ?_) (by simp only [List.getElem?_toArray, List.getElem?_cons_zero, List.getElem?_cons_succ]; exact rfl) (by kernel_rfl) (by kernel_rfl) (by kernel_rfl) (by exact fun _ _ _ h => h) (Or.inl ⟨by rfl, ?_⟩) hHeld ?_
      rotate_left
      · intro w' hSw
        go_simp
        try with_reducible rfl
      try simp only [Act.put, List.setIfInBounds_toArray, List.set_cons_zero, List.set_cons_succ]
      refine wpAnyH_take (i := 12) (v := ?_) (by simp only [List.getElem?_toArray, List.getElem?_cons_zero, List.getElem?_cons_succ]; exact rfl) (by kernel_rfl) (by kernel_rfl) (by kernel_rfl) (by exact fun _ _ _ h => h) (Or.inl ⟨by rfl, ?_⟩) hHeld ?_
      rotate_left
      · intro w' hSw
        go_simp
        try with_reducible rfl
      try simp only [Act.put, List.setIfInBounds_toArray, List.set_cons_zero, List.set_cons_succ]
      refine wpAnyH_ready (rs := [13]) (by kernel_rfl) (by simp) ?_
      refine (AllReadyH.cons (by simp only [List.getElem?_toArray, List.getElem?_cons_zero, List.getElem?_cons_succ]; exact rfl) (fun K hK => ?_) AllReadyH.nil)
      have ck := O4.out.cellAt k hk
      have fk := O4.out.frozenAt k
      have OS := O4.out.set k (bits .xor .u8 (ys.getD k 0) (1 + r3)) (bits_within .xor .u8 _ _)
      have R5 := Lib.hid OS.1.rd
      have B5 := Lib.hid (B4.out.trans (below_of_grown OS.2 (show B ≤ w4.heap.size by have := z1.out; have := B4.out.size; omega) (fun k e => by cases e; omega)))
      clear OS
      refine want_none (by exact rfl) ?_
      go_wp2_with fail
      clear ck fk O4 B4
      refine hK.out _ _ trivial (fun hHeld => ?_)
      clear hK K
      try simp only [Act.put]
      refine wpAnyH_done (by kernel_rfl) ?_ _
      go_wp2
      go_ret
      exact ⟨_, _, _, _, rfl, by omega, R5.out, B5.out⟩
    · skip
      refine want_none (by exact rfl) ?_
      go_wp2_with fail
      refine (K3.out _ S3.out).mono ?_
      rintro e w4 ⟨r3, rfl, hp0, hp1, s4, g4⟩
      have hp2 := hp1 (by omega)
      have hw1 : IntKind.i64.wrap (1 + r3) = 1 + r3 := IntWalk.i64_in _ (by omega)
      have uw := u8_in (1 + r3) ⟨by omega, by omega⟩
      have O4 := Lib.hid (O3.out.grown g4 (by rintro x hx; cases hx; simpa using hgb))
      have B4 := Lib.hid (B3.out.trans (below_of_grown g4 (show B ≤ w3.heap.size by have := z3.out; omega) (fun k e => by cases e; exact hB1)))
      clear s4 g4 O3 B3 S3
      go_wp2_with fail
      refine hK.out _ _ trivial (fun hHeld => ?_)
      clear hK K
      try simp only [Act.put, List.setIfInBounds_toArray, List.set_cons_zero, List.set_cons_succ]
      refine wpAnyH_take (i := 9) (v := ?_) (by simp only [List.getElem?_toArray, List.getElem?_cons_zero, List.getElem?_cons_succ]; exact rfl) (by kernel_rfl) (by kernel_rfl) (by kernel_rfl) (by exact fun _ _ _ h => h) (Or.inl ⟨by rfl, ?_⟩) hHeld ?_
      rotate_left
      · intro w' hSw
        go_simp
        try with_reducible rfl
      try simp only [Act.put, List.setIfInBounds_toArray, List.set_cons_zero, List.set_cons_succ]
      refine wpAnyH_take (i := 10) (v := ?_) (by simp only [List.getElem?_toArray, List.getElem?_cons_zero, List.getElem?_cons_succ]; exact rfl) (by kernel_rfl) (by kernel_rfl) (by kernel_rfl) (by exact fun _ _ _ h => h) (Or.inl ⟨by rfl, ?_⟩) hHeld ?_
      rotate_left
      · intro w' hSw
        go_simp
        try with_reducible rfl
      try simp only [Act.put, List.setIfInBounds_toArray, List.set_cons_zero, List.set_cons_succ]
      refine wpAnyH_ready (rs := [6]) (by kernel_rfl) (by simp) ?_
      refine (AllReadyH.cons (by simp only [List.getElem?_toArray, List.getElem?_cons_zero, List.getElem?_cons_succ]; exact rfl) (fun K hK => ?_) AllReadyH.nil)
      have ck := O4.out.cellAt k hk
      refine want_none (by exact rfl) ?_
      go_wp2_with fail
      refine hK.out _ _ trivial (fun hHeld => ?_)
      clear hK K
      try simp only [Act.put, List.setIfInBounds_toArray, List.set_cons_zero, List.set_cons_succ]
      clear ck
      refine wpAnyH_take (i := 11) (v := ?_) (by simp only [List.getElem?_toArray, List.getElem?_cons_zero, List.getElem?_cons_succ]; exact rfl) (by kernel_rfl) (by kernel_rfl) (by kernel_rfl) (by exact fun _ _ _ h => h) (Or.inl ⟨by rfl, ?_⟩) hHeld ?_
      rotate_left
      · intro w' hSw
        go_simp
        try with_reducible rfl
      try simp only [Act.put, List.setIfInBounds_toArray, List.set_cons_zero, List.set_cons_succ]
      refine wpAnyH_take (i := 12) (v := ?_) (by simp only [List.getElem?_toArray, List.getElem?_cons_zero, List.getElem?_cons_succ]; exact rfl) (by kernel_rfl) (by kernel_rfl) (by kernel_rfl) (by exact fun _ _ _ h => h) (Or.inl ⟨by rfl, ?_⟩) hHeld ?_
      rotate_left
      · intro w' hSw
        go_simp
        try with_reducible rfl
      try simp only [Act.put, List.setIfInBounds_toArray, List.set_cons_zero, List.set_cons_succ]
      refine wpAnyH_ready (rs := [13]) (by kernel_rfl) (by simp) ?_
      refine (AllReadyH.cons (by simp only [List.getElem?_toArray, List.getElem?_cons_zero, List.getElem?_cons_succ]; exact rfl) (fun K hK => ?_) AllReadyH.nil)
      have ck := O4.out.cellAt k hk
      have fk := O4.out.frozenAt k
      have OS := O4.out.set k (bits .xor .u8 (ys.getD k 0) (1 + r3)) (bits_within .xor .u8 _ _)
      have R5 := Lib.hid OS.1.rd
      have B5 := Lib.hid (B4.out.trans (below_of_grown OS.2 (show B ≤ w4.heap.size by have := z1.out; have := B4.out.size; omega) (fun k e => by cases e; omega)))
      clear OS
      refine want_none (by exact rfl) ?_
      go_wp2_with fail
      clear ck fk O4 B4
      refine hK.out _ _ trivial (fun hHeld => ?_)
      clear hK K
      try simp only [Act.put]
      refine wpAnyH_done (by kernel_rfl) ?_ _
      go_wp2
      go_ret
      exact ⟨_, _, _, _, rfl, by omega, R5.out, B5.out⟩
  · subst e0
    have K1 := Lib.hid (l1Next_any b (t + 1) 3 a len cap zs w1 S1.out (by omega) hl (by omega))
    go_wp2_with fail
    refine K1.out.mono ?_
    rintro e w2 ⟨r2, rfl, hq0, hq1, s2, g2⟩
    have hq2 := hq1 (by omega)
    have u2 := u8_in r2 ⟨hq0, by omega⟩
    have O2 := Lib.hid (O1.out.grown g2 (by rintro x hx; cases hx; simpa using hgb))
    have B2 := Lib.hid (B1.out.trans (below_of_grown g2 (show B ≤ w1.heap.size by have := z1.out; omega) (fun k e => by cases e; exact hB1)))
    have L2 := Lib.hid (own_litB1 w2 w2.heap.size r2 ⟨hq0, by omega⟩ (Nat.le_refl _))
    have z2 := Lib.hid (Nat.le_trans z1.out g2.size)
    clear s2 g2 K1 hq1 O1 B1
    go_wp2_with (at_builtin; refine append_bytes _ rfl (.tmp 27) (.tmp 31) rfl base _ _ _ _ rfl (O2.out.alloc _) _ _ _ _ rfl L2.out.rd (by have := z2.out; simp; omega) (by omega) ?_; intro a3 c3 w3 o3 g3; have P3 := Lib.hid o3; have B3 := Lib.hid ((B2.out.alloc (by have := z2.out; omega) _).grown g3 (by have := z2.out; simp; omega) (fun k e => by simp [Value.ownBlock] at e; omega)); clear o3 g3 O2 L2)
    go_ret
    exact ⟨_, _, _, _, rfl, by omega, P3.out.rd, B3.out⟩
  · subst e0
    have hw : IntKind.i64.wrap ((l : Int) + 1) = (l : Int) + 1 := IntWalk.i64_in _ (by omega)
    have K1 := Lib.hid (l1Next_any b (t + 1) (l + 1) a len cap zs w1 S1.out (by omega) hl (by omega))
    go_wp2_with fail
    refine K1.out.mono ?_
    rintro e w2 ⟨r2, rfl, hq0, hq1, s2, g2⟩
    have hq2 := hq1 (by omega)
    obtain ⟨k, rfl⟩ := Int.eq_ofNat_of_zero_le hq0
    have O2 := O1.out.grown g2 (by rintro x hx; cases hx; simpa using hgb)
    have R2 := Lib.hid (O2.rd.upto k (by omega))
    have B2 := Lib.hid (B1.out.trans (below_of_grown g2 (show B ≤ w1.heap.size by have := z1.out; omega) (fun k e => by cases e; exact hB1)))
    have j1 : (k : Int) ≤ c := by omega
    have j2 : k ≤ c := by omega
    clear s2 g2 K1 hq1 O1 B1 O2 hw
    go_wp2
    go_ret
    exact ⟨_, _, _, _, rfl, by omega, R2.out, B2.out⟩
  · have e1 : (r == 0) = false := by simp; omega
    have e2 : (r == 1) = false := by simp; omega
    have e3 : (r == 2) = false := by simp; omega
    have R1 := Lib.hid O1.out.rd
    clear O1
    go_wp2
    go_ret
    exact ⟨_, _, _, _, rfl, by omega, R1.out, B1.out⟩
end Go.Proofs.Ytmcllaefjgdbeaa

namespace Go.Proofs.Ytmcllaefjgdbeaa
open Go.ChangeShapes Go.WideShapes Go.ChangeAt Go.RowKit

def TwoRd (w : World) (e : Ending) (w' : World) : Prop :=
  ∃ (x y : Int) (a' : Option Addr) (n c' : Nat) (ys : List Int), e = .returned (.tuple #[.int .i64 x, .int .i64 y, .slice a' n c']) ∧ ((-1 ≤ x ∧ x ≤ 4294967296) ∧ (-1 ≤ y ∧ y ≤ 4294967296)) ∧ n ≤ 1300 ∧ Rd w' a' n c' ys ∧ Below w.heap.size w w'

set_option maxRecDepth 20000 in
set_option maxHeartbeats 4000000 in
theorem drawReadDatagram (a : Option Addr) (len cap : Nat) (zs : List Int) (w : World) (h : Rd w a len cap zs) (hl : len ≤ 1048576) :
    Calls Try.prog 12 #[.slice a len cap] w (TwoRd w) := by
  have K0 := Lib.hid (l1Later_any 3 a len cap zs w h (by omega))
  clear h
  go_enter Try.func12, Try.ntmps12
  go_wp2_with fail
  refine K0.out.mono ?_
  rintro e w1 ⟨rfl, s1, b1⟩
  have B1 := Lib.hid b1
  have K1 := Lib.hid (l4BentIp_any _ _ a len cap zs w1 s1 (by omega) hl)
  clear s1 b1 K0
  go_wp2_with fail
  refine K1.out.mono ?_
  rintro e w2 ⟨x, rfl, x0, x1, s2, g2⟩
  have B2 := Lib.hid (B1.out.grown g2 B1.out.size (fun k e => by cases e; exact Nat.le_refl _))
  have K2 := Lib.hid (l4BentIp_any _ _ a len cap zs w2 s2 (by omega) hl)
  clear s2 g2 K1 B1
  go_wp2_with fail
  refine K2.out.mono ?_
  rintro e w3 ⟨y, rfl, y0, y1, s3, g3⟩
  have B3 := Lib.hid (B2.out.grown g3 B2.out.size (fun k e => by cases e; exact Nat.le_refl _))
  have K3 := Lib.hid (l4Draw_any _ _ a len cap zs w3 s3 (by omega) hl)
  have z3 := Lib.hid s3.box.lt
  clear s3 g3 K2 B2
  go_wp2_with fail
  refine K3.out.mono ?_
  rintro e w4 ⟨df, dt, a4, n4, c4, ys4, rfl, hdf, hdt, hn4, o4, s4, g4⟩
  have z4 := Lib.hid (Nat.lt_of_lt_of_le z3.out g4.size)
  have B4' := B3.out.grown g4 B3.out.size (fun k e => by cases e; exact Nat.le_refl _)
  have B4 := Lib.hid (B4'.alloc B4'.size (.cells #[.int .i64 df, .int .i64 dt, .slice a4 n4 c4] 25))
  have X4 := Lib.hid (Box.new w4 25 #[.int .i64 df, .int .i64 dt, .slice a4 n4 c4])
  have S4 := Lib.hid (s4.alloc (.cells #[.int .i64 df, .int .i64 dt, .slice a4 n4 c4] 25))
  have O4 := Lib.hid (o4.rd.alloc (.cells #[.int .i64 df, .int .i64 dt, .slice a4 n4 c4] 25))
  have HN := Lib.hid o4.length
  clear o4 s4 g4 B4' K3 B3
  generalize hW4 : w4.alloc (.cells #[.int .i64 df, .int .i64 dt, .slice a4 n4 c4] 25) = W4 at *
  cases m0 : ipB x
  case' true => cases m1 : ipB y
  case false =>
    have K5 := Lib.hid (l1Some_any _ _ 12 a len cap zs W4 S4.out (by omega) hl)
    go_wp2_with (go_at_call 49; refine (l2Ip_any _ _).mono ?_; rintro e w' ⟨rfl, rfl⟩)
    clear hW4
    refine K5.out.mono ?_
    rintro e w5 ⟨a5, c5, ys5, rfl, o5, s5, g5⟩
    have R5 := Lib.hid o5.rd
    have B5 := Lib.hid (B4.out.grown g5 B4.out.size (fun k e => by cases e; exact Nat.le_refl _))
    clear o5 s5 g5 K5 S4 B4
    go_wp2
    exact bodyPost_ret (v := .tuple #[.int .i64 x, .int .i64 y, .slice a5 12 c5]) (by simp [results, Try.results12, go_sem]) rfl ⟨x, y, a5, 12, c5, ys5, rfl, ⟨⟨x0, x1⟩, ⟨y0, y1⟩⟩, by omega, R5.out, B5.out⟩
  case true.false =>
    have K5 := Lib.hid (l1Some_any _ _ 12 a len cap zs W4 S4.out (by omega) hl)
    go_wp2_with (go_at_call 49; refine (l2Ip_any _ _).mono ?_; rintro e w' ⟨rfl, rfl⟩)
    clear hW4
    refine K5.out.mono ?_
    rintro e w5 ⟨a5, c5, ys5, rfl, o5, s5, g5⟩
    have R5 := Lib.hid o5.rd
    have B5 := Lib.hid (B4.out.grown g5 B4.out.size (fun k e => by cases e; exact Nat.le_refl _))
    clear o5 s5 g5 K5 S4 B4
    go_wp2
    exact bodyPost_ret (v := .tuple #[.int .i64 x, .int .i64 y, .slice a5 12 c5]) (by simp [results, Try.results12, go_sem]) rfl ⟨x, y, a5, 12, c5, ys5, rfl, ⟨⟨x0, x1⟩, ⟨y0, y1⟩⟩, by omega, R5.out, B5.out⟩
  case true.true =>
    have k0 := ipB_bd m0
    have k1 := ipB_bd m1
    have K5 := Lib.hid (l4Pack_any x y w4.heap.size df dt a4 n4 c4 ys4 W4 X4.out O4.out (by omega) (by omega) (by omega) (by omega) (by omega))
    go_wp2_with (go_at_call 49; refine (l2Ip_any _ _).mono ?_; rintro e w' ⟨rfl, rfl⟩)
    clear hW4
    refine K5.out.mono ?_
    rintro e w5 ⟨a5, l5, c5, rfl, o5, b5⟩
    have hl5 : l5 = 8 + n4 := by rw [← o5.length, dgL_len, HN.out]
    have S5 := Lib.hid (S4.out.below b5)
    have B5 := Lib.hid (B4.out.trans (b5.mono B4.out.size))
    have O5 := Lib.hid (o5.rebase (show w.heap.size + 1 ≤ W4.heap.size by have := S4.out.box.lt; omega))
    have HL5 : 8 ≤ l5 ∧ l5 ≤ 17 := by omega
    clear o5 b5 K5 S4 B4 HN hl5 X4 O4
    generalize dgL x y df dt ys4 = ys at *
    rcases O5.out.shape with ⟨_, h0, _⟩ | ⟨g, rfl⟩
    · omega
    have gB := O5.out.lt _ rfl
    dsimp only at gB
    have K6 := Lib.hid (l1Next_any w.heap.size _ 7 a len cap zs w5 S5.out (by omega) hl (by omega))
    go_wp2_with fail
    refine K6.out.mono ?_
    rintro e w6 ⟨r, rfl, hr0, hr1, s6, g6⟩
    have hr2 := hr1 (by omega)
    have S6 := Lib.hid s6
    have O6 := Lib.hid (O5.out.grown g6 (by rintro x hx e; cases hx; simp at e; omega))
    have B6 := Lib.hid (B5.out.grown g6 B5.out.size (fun k e => by cases e; exact Nat.le_refl _))
    have z6 := Lib.hid (show w5.heap.size ≤ w6.heap.size from g6.size)
    clear s6 g6 O5 S5 B5 hr1 K6
    obtain e0 | e0 | e0 | e0 : r = 0 ∨ r = 1 ∨ r = 2 ∨ 3 ≤ r := by omega
    · subst e0
      have KS := Lib.hid (l1Spoil_any w.heap.size _ g w.heap.size a len cap zs l5 c5 (w.heap.size + 1) ys w6 S6.out O6.out (by omega) (Nat.le_refl _) (Nat.le_succ _) (by omega) (by omega) (by omega) hl)
      go_wp2_with fail
      refine KS.out.mono ?_
      rintro e w7 ⟨a7, n7, c7, ys7, rfl, hn7, r7, b7⟩
      have R7 := Lib.hid r7
      have B7 := Lib.hid (B6.out.trans b7)
      clear r7 b7 KS O6 S6 B6
      go_wp2
      exact bodyPost_ret (v := .tuple #[.int .i64 x, .int .i64 y, .slice a7 n7 c7]) (by simp [results, Try.results12, go_sem]) rfl ⟨x, y, a7, n7, c7, ys7, rfl, ⟨⟨x0, x1⟩, ⟨y0, y1⟩⟩, by omega, R7.out, B7.out⟩
    · subst e0
      have i6 : (6 : Int) < l5 := by omega
      have i7 : (7 : Int) < l5 := by omega
      have c6 := O6.out.cellAt 6 (by omega)
      have f6 := O6.out.frozenAt 6
      obtain ⟨o7, g7⟩ := O6.out.set 6 0 (by omega)
      have c7 := o7.cellAt 7 (by omega)
      have f7 := o7.frozenAt 7
      obtain ⟨o8, g8⟩ := o7.set 7 0 (by omega)
      have S8 := S6.out.grown (grown_trans g7 g8) (fun x e => by cases e; omega)
      have B8 := Lib.hid (B6.out.grown (grown_trans g7 g8) B6.out.size (fun k e => by cases e; omega))
      have O8 := Lib.hid o8
      have K9 := Lib.hid (l1Next_any w.heap.size _ 4 a len cap zs _ S8 (by omega) hl (by omega))
      clear o7 g7 o8 g8 S8 O6 S6 B6
      go_wp2_with fail
      refine K9.out.mono ?_
      rintro e w9 ⟨r9, rfl, q0, q1, s9, g9⟩
      have q2 := q1 (by omega)
      obtain ⟨k, rfl⟩ := Int.eq_ofNat_of_zero_le q0
      have hki : (k : Int) < l5 := by omega
      have O9 := O8.out.grown g9 (by rintro x hx e; cases hx; simp at e; omega)
      have B9 := B8.out.grown g9 B8.out.size (fun k e => by cases e; exact Nat.le_refl _)
      have c9 := O9.cellAt k (by omega)
      have f9 := O9.frozenAt k
      obtain ⟨o10, g10⟩ := O9.set k 0 (by omega)
      have R10 := Lib.hid o10.rd
      have B10 := Lib.hid (B9.grown g10 B9.size (fun k e => by cases e; omega))
      clear s9 g9 K9 O9 B9 o10 g10 O8 B8 q1
      go_wp2
      exact bodyPost_ret (v := .tuple #[.int .i64 x, .int .i64 y, .slice (some ⟨g, 0, none⟩) l5 c5]) (by simp [results, Try.results12, go_sem]) rfl ⟨x, y, _, l5, c5, _, rfl, ⟨⟨x0, x1⟩, ⟨y0, y1⟩⟩, by omega, R10.out, B10.out⟩
    · subst e0
      have i0 : (0 : Int) < l5 := by omega
      have i0n : 0 < l5 := by omega
      have i1 : (1 : Int) < l5 := by omega
      have i6 : (6 : Int) < l5 := by omega
      have i7 : (7 : Int) < l5 := by omega
      have c0 := O6.out.cellAt 0 (by omega)
      have f0 := O6.out.frozenAt 0
      obtain ⟨o7, g7⟩ := O6.out.set 0 0 (by omega)
      have c1 := o7.cellAt 1 (by omega)
      have f1 := o7.frozenAt 1
      obtain ⟨o8, g8⟩ := o7.set 1 0 (by omega)
      have c6 := o8.cellAt 6 (by omega)
      have f6 := o8.frozenAt 6
      obtain ⟨o9, g9⟩ := o8.set 6 0 (by omega)
      have c7 := o9.cellAt 7 (by omega)
      have f7 := o9.frozenAt 7
      obtain ⟨o10, g10⟩ := o9.set 7 0 (by omega)
      have R10 := Lib.hid o10.rd
      have B10 := Lib.hid (B6.out.grown (grown_trans g7 (grown_trans g8 (grown_trans g9 g10))) B6.out.size (fun k e => by cases e; omega))
      clear o7 g7 o8 g8 o9 g9 o10 g10 O6 S6 B6
      go_wp2
      exact bodyPost_ret (v := .tuple #[.int .i64 x, .int .i64 y, .slice (some ⟨g, 0, none⟩) l5 c5]) (by simp [results, Try.results12, go_sem]) rfl ⟨x, y, _, l5, c5, _, rfl, ⟨⟨x0, x1⟩, ⟨y0, y1⟩⟩, by omega, R10.out, B10.out⟩
    · have e1 : (r == 0) = false := by simp; omega
      have e2 : (r == 1) = false := by simp; omega
      have e3 : (r == 2) = false := by simp; omega
      have R6 := Lib.hid O6.out.rd
      clear O6 S6
      go_wp2
      exact bodyPost_ret (v := .tuple #[.int .i64 x, .int .i64 y, .slice (some ⟨g, 0, none⟩) l5 c5]) (by simp [results, Try.results12, go_sem]) rfl ⟨x, y, _, l5, c5, _, rfl, ⟨⟨x0, x1⟩, ⟨y0, y1⟩⟩, by omega, R6.out, B6.out⟩
end Go.Proofs.Ytmcllaefjgdbeaa

namespace Go.Proofs.Ytmcllaefjgdbeaa
open Go.ChangeShapes Go.WideShapes Go.ChangeAt Go.RowKit

theorem box_set2 {w : World} {b : Nat} {t : TypeId} {x0 x1 x2 : Value} (h : Box w b t #[x0, x1, x2]) (z : Value) : Box (w.setCell ⟨b, 2, none⟩ z) b t #[x0, x1, z] := by
  unfold Box at *
  simp [World.setCell, Array.getElem?_modify, h]
/-- some two datagrams -/
def TwoDgs (w : World) (e : Ending) (w' : World) : Prop :=
  ∃ (df dt : Int) (a1 : Option Addr) (n1 c1 : Nat) (ys1 : List Int) (df' dt' : Int) (a2 : Option Addr) (n2 c2 : Nat) (ys2 : List Int),
    e = .returned (.tuple #[.agg #[.int .i64 df, .int .i64 dt, .slice a1 n1 c1], .agg #[.int .i64 df', .int .i64 dt', .slice a2 n2 c2]]) ∧ Rd w' a1 n1 c1 ys1 ∧ Rd w' a2 n2 c2 ys2 ∧ Below w.heap.size w w'

set_option maxRecDepth 20000 in
set_option maxHeartbeats 4000000 in
theorem drawSameDatagrams (a : Option Addr) (len cap : Nat) (zs : List Int) (w : World) (h : Rd w a len cap zs) (hl : len ≤ 1048576) :
    Calls Try.prog 16 #[.slice a len cap] w (TwoDgs w) := by
  have B0 := Lib.hid (((Below.refl w.heap.size w).alloc (Nat.le_refl _) (.cells #[.int .i64 0, .int .i64 0, .slice none 0 0] 25)).alloc (by simp) (.cells #[.int .i64 0, .int .i64 0, .slice none 0 0] 25))
  have K0 := Lib.hid (l1Source_any a len cap zs _ (h.below B0.out))
  have KF := Lib.hid (fun W (hW : Below w.heap.size w W) => drawDatagramFault a len cap zs W (h.below hW) hl)
  have R20 := Lib.hid ((Box.new w 25 #[.int .i64 0, .int .i64 0, .slice none 0 0]).alloc (.cells #[.int .i64 0, .int .i64 0, .slice none 0 0] 25))
  have R30 := Lib.hid (Box.new (w.alloc (.cells #[.int .i64 0, .int .i64 0, .slice none 0 0] 25)) 25 #[.int .i64 0, .int .i64 0, .slice none 0 0])
  simp only [World.size_alloc] at R30 K0
  clear h
  go_enter Try.func16, Try.ntmps16
  go_wp2_with fail
  refine K0.out.mono ?_
  rintro e w1 ⟨rfl, s1, b1⟩
  have R21 := Lib.hid (R20.out.below (B := w.heap.size + 1 + 1) b1 (by omega))
  have R31 := Lib.hid (R30.out.below (B := w.heap.size + 1 + 1) b1 (by omega))
  have B1 := Lib.hid (B0.out.trans (b1.mono (by omega)))
  have z1 := Lib.hid s1.box.lt
  have K1 := Lib.hid (l4Draw_any _ _ a len cap zs w1 s1 (by omega) hl)
  clear s1 b1 K0 R20 R30 B0
  go_wp2_with fail
  refine K1.out.mono ?_
  rintro e w2 ⟨df, dt, a2, n2, c2, ys2, rfl, b_f, b_t, hn2, o2, s2, g2⟩
  have z2 := Lib.hid (Nat.lt_of_lt_of_le z1.out g2.size)
  have R22 := Lib.hid ((R21.out.grown g2 (by simp; omega)).alloc (.cells #[.int .i64 df, .int .i64 dt, .slice a2 n2 c2] 25))
  have R32 := Lib.hid ((R31.out.grown g2 (by simp)).alloc (.cells #[.int .i64 df, .int .i64 dt, .slice a2 n2 c2] 25))
  have P2 := Lib.hid (Box.new w2 25 #[.int .i64 df, .int .i64 dt, .slice a2 n2 c2])
  have B2' := B1.out.grown g2 B1.out.size (fun k e => by cases e; omega)
  have B2 := Lib.hid (B2'.alloc B2'.size (.cells #[.int .i64 df, .int .i64 dt, .slice a2 n2 c2] 25))
  have S2 := Lib.hid (s2.alloc (.cells #[.int .i64 df, .int .i64 dt, .slice a2 n2 c2] 25))
  have O2 := Lib.hid (o2.alloc (.cells #[.int .i64 df, .int .i64 dt, .slice a2 n2 c2] 25))
  have q12 := Lib.hid (show w1.heap.size ≤ w2.heap.size from g2.size)
  have NB := Lib.hid (show ∀ x, a2 = some x → x.block < w2.heap.size from fun x hx => (o2.lt x hx).2)
  clear o2 s2 g2 B1 B2' K1 R21 R31
  generalize hW2 : w2.alloc (.cells #[.int .i64 df, .int .i64 dt, .slice a2 n2 c2] 25) = W2 at *
  have K2 := Lib.hid (l1Chance_any (w.heap.size + 1 + 1) _ 2 a len cap zs W2 S2.out (by omega) hl (by omega))
  clear S2
  go_wp2_with fail
  clear hW2
  refine K2.out.mono ?_
  rintro e w3 ⟨c, rfl, s3, g3⟩
  have z1o := z1.out
  have z2o := z2.out
  have q12o := q12.out
  have R23 := Lib.hid (R22.out.grown g3 (by simp; omega))
  have R33 := Lib.hid (R32.out.grown g3 (by simp))
  have P3 := Lib.hid (P2.out.grown g3 (by simp; omega))
  have B3 := Lib.hid (B2.out.grown g3 B2.out.size (fun k e => by cases e; omega))
  have O3 := Lib.hid (O2.out.grown g3 (by rintro x hx e; have := (O2.out.lt x hx).1; simp only [Option.some.injEq] at e; omega))
  have O3N := Lib.hid (show w.heap.size + 1 < w1.heap.size by omega)
  have P3N := Lib.hid (show w.heap.size + 1 < w2.heap.size by omega)
  have NB4 := Lib.hid (show ∀ x, a2 = some x → x.block < w2.heap.size from NB.out)
  clear s3 g3 R22 R32 P2 B2 O2 K2
  cases c
  case false =>
    have SS := Lib.hid (show ∀ W, Hid (Box W w2.heap.size 25 #[.int .i64 df, .int .i64 dt, .slice a2 n2 c2]) → W.cell? ⟨w2.heap.size, 0, none⟩ = some (.int .i64 df) ∧ W.cell? ⟨w2.heap.size, 1, none⟩ = some (.int .i64 dt) ∧ W.cell? ⟨w2.heap.size, 2, none⟩ = some (.slice a2 n2 c2) from fun W hW => by
      obtain ⟨_, x0, x1, x2⟩ := hW.out.three
      exact ⟨x0, x1, x2⟩)
    go_wp2_with fail
    have PD : Hid (Box w3.drew w2.heap.size _ _) := P3.out
    refine wp_region_held_drew (S := fun W => W.cell? ⟨w2.heap.size, 0, none⟩ = some (.int .i64 df) ∧ W.cell? ⟨w2.heap.size, 1, none⟩ = some (.int .i64 dt) ∧ W.cell? ⟨w2.heap.size, 2, none⟩ = some (.slice a2 n2 c2)) (by kernel_rfl) (SS.out _ PD) (fun hHeld => ?_)
    refine wpAnyH_take (i := 0) (v := ?_) (by simp only [List.getElem?_toArray, List.getElem?_cons_zero]; exact rfl) (by kernel_rfl) (by kernel_rfl) (by kernel_rfl) (by exact fun _ _ _ h => h) (Or.inl ⟨by rfl, ?_⟩) hHeld ?_
    rotate_left
    · intro w' hSw
      obtain ⟨x0, x1, x2⟩ := hSw
      go_simp
      try with_reducible rfl
    try simp only [Act.put, List.setIfInBounds_toArray, List.set_cons_zero, List.set_cons_succ]
    refine wpAnyH_take (i := 1) (v := ?_) (by simp only [List.getElem?_toArray, List.getElem?_cons_zero, List.getElem?_cons_succ]; exact rfl) (by kernel_rfl) (by kernel_rfl) (by kernel_rfl) (by exact fun _ _ _ h => h) (Or.inl ⟨by rfl, ?_⟩) hHeld ?_
    rotate_left
    · intro w' hSw
      obtain ⟨x0, x1, x2⟩ := hSw
      go_simp
      try with_reducible rfl
    try simp only [Act.put, List.setIfInBounds_toArray, List.set_cons_zero, List.set_cons_succ]
    refine wpAnyH_ready (rs := [2]) (by kernel_rfl) (by simp) ?_
    refine (AllReadyH.cons (by simp only [List.getElem?_toArray, List.getElem?_cons_zero, List.getElem?_cons_succ]; exact rfl) (fun K hK => ?_) AllReadyH.nil)
    refine want_none (by exact rfl) ?_
    go_wp2_with fail
    refine (KF.out _ B3.out.drew).mono ?_
    rintro e w4 ⟨df', dt', a4, n4, c4, ys4, rfl, _, hn4, o4, b4⟩
    have P4 := Lib.hid (PD.out.below b4 PD.out.lt)
    have R2 := Lib.hid ((show Box w3.drew _ _ _ from R23.out).below b4 R23.out.lt)
    have R3 := Lib.hid ((show Box w3.drew _ _ _ from R33.out).below b4 R33.out.lt)
    have O4 := Lib.hid (O3.out.drew.below b4)
    have O4N := O3N
    have P4N := P3N
    have Q4 := Lib.hid o4
    have Q4N := Lib.hid (show w.heap.size + 1 < w3.drew.heap.size from R33.out.lt)
    have T4 := Lib.hid (B3.out.drew.trans (b4.mono B3.out.drew.size))
    clear o4 b4 PD P3 R23 R33 O3 B3
    go_wp2_with fail
    refine hK.out _ _ (SS.out _ P4) (fun hHeld => ?_)
    clear hK K
    try simp only [Act.put, List.setIfInBounds_toArray, List.set_cons_zero, List.set_cons_succ]
    refine wpAnyH_ready (rs := [3]) (by kernel_rfl) (by simp) ?_
    refine (AllReadyH.cons (by simp only [List.getElem?_toArray, List.getElem?_cons_zero, List.getElem?_cons_succ]; exact rfl) (fun K hK => ?_) AllReadyH.nil)
    refine storeBox_step _ rfl 25 (.tmp 2) (.tmp 20) rfl w.heap.size 25 _ #[.int .i64 df, .int .i64 dt, .slice a2 n2 c2] R2.out (by exact rfl) (by exact rfl) (by kernel_rfl) (by exact rfl) (by simp [Value.oneCell']) ?_
    intro wA xwA gwA
    have P4A := Lib.hid (P4.out.grown gwA (by have := P4N.out; simp only [ne_eq, Option.some.injEq]; omega))
    have R3A := Lib.hid (R3.out.grown gwA (by simp))
    have O4A := Lib.hid (O4.out.grown gwA (by rintro x hx e; have := (O4.out.lt x hx).1; have := O4N.out; simp only [Option.some.injEq] at e; omega))
    have Q4A := Lib.hid (Q4.out.grown gwA (by rintro x hx e; have := (Q4.out.lt x hx).1; have := Q4N.out; simp only [Option.some.injEq] at e; omega))
    have TA := Lib.hid (T4.out.grown gwA T4.out.size (fun k e => by cases e; omega))
    have XA := Lib.hid xwA
    clear xwA gwA
    refine hK.out _ _ (SS.out _ P4A) (fun hHeld => ?_)
    clear hK K
    try simp only [Act.put]
    try simp only [Act.put, List.setIfInBounds_toArray, List.set_cons_zero, List.set_cons_succ]
    refine wpAnyH_ready (rs := [4]) (by kernel_rfl) (by simp) ?_
    refine (AllReadyH.cons (by simp only [List.getElem?_toArray, List.getElem?_cons_zero, List.getElem?_cons_succ]; exact rfl) (fun K hK => ?_) AllReadyH.nil)
    refine storeBox_step _ rfl 25 (.tmp 3) (.tmp 22) rfl (w.heap.size + 1) 25 _ #[.int .i64 df', .int .i64 dt', .slice a4 n4 c4] R3A.out (by exact rfl) (by exact rfl) (by kernel_rfl) (by exact rfl) (by simp [Value.oneCell']) ?_
    intro wB xwB gwB
    have P4B := Lib.hid (P4A.out.grown gwB (by have := P4N.out; simp only [ne_eq, Option.some.injEq]; omega))
    have O4B := Lib.hid (O4A.out.grown gwB (by rintro x hx e; have := (O4A.out.lt x hx).1; have := O4N.out; simp only [Option.some.injEq] at e; omega))
    have Q4B := Lib.hid (Q4A.out.grown gwB (by rintro x hx e; have := (Q4A.out.lt x hx).1; have := Q4N.out; simp only [Option.some.injEq] at e; omega))
    have TBB := Lib.hid (TA.out.grown gwB TA.out.size (fun k e => by cases e; omega))
    have XAB := Lib.hid (XA.out.grown gwB (by simp))
    have XB := Lib.hid xwB
    clear xwB gwB TA XA
    refine hK.out _ _ (SS.out _ P4B) (fun hHeld => ?_)
    clear hK K hHeld
    try simp only [Act.put]
    refine wpAnyH_done (by kernel_rfl) ?_ _
    go_wp2
    obtain ⟨_, p0, p1, p2⟩ := XAB.out.three
    obtain ⟨_, q0, q1, q2⟩ := XB.out.three
    exact bodyPost_ret (v := .tuple #[.agg #[.int .i64 df, .int .i64 dt, .slice a2 n2 c2], .agg #[.int .i64 df', .int .i64 dt', .slice a4 n4 c4]]) (by simp [results, Try.results16, go_sem, p0, p1, p2, q0, q1, q2]) rfl ⟨_, _, _, _, _, _, _, _, _, _, _, _, rfl, O4B.out.rd, Q4B.out.rd, TBB.out⟩
  case true =>
    have R24 := Lib.hid (R23.out.alloc (.cells #[.int .i64 df, .int .i64 dt, .slice a2 n2 c2] 25))
    have R34 := Lib.hid (R33.out.alloc (.cells #[.int .i64 df, .int .i64 dt, .slice a2 n2 c2] 25))
    have P4 := Lib.hid (P3.out.alloc (.cells #[.int .i64 df, .int .i64 dt, .slice a2 n2 c2] 25))
    have U4 := Lib.hid (Box.new w3 25 #[.int .i64 df, .int .i64 dt, .slice a2 n2 c2])
    have B4 := Lib.hid (B3.out.alloc B3.out.size (.cells #[.int .i64 df, .int .i64 dt, .slice a2 n2 c2] 25))
    have O4 := Lib.hid (O3.out.alloc (.cells #[.int .i64 df, .int .i64 dt, .slice a2 n2 c2] 25))
    have z3 := Lib.hid (show w.heap.size + 1 < w3.heap.size from R33.out.lt)
    have y3 := Lib.hid (show w2.heap.size < w3.heap.size from P3.out.lt)
    obtain ⟨_, x0, x1, x2⟩ := P3.out.three
    generalize hW4 : w3.alloc (.cells #[.int .i64 df, .int .i64 dt, .slice a2 n2 c2] 25) = W4 at *
    have x4' : W4.cell? ⟨w2.heap.size, 2, none⟩ = some (.slice a2 n2 c2) := P4.out.cell 2
    have KC := Lib.hid (l1Copy_any a2 n2 c2 ys2 W4 O4.out.rd (by omega))
    clear R23 R33 P3 B3 O3 KF
    go_wp2_with fail
    clear hW4 x0 x1 x2 x4'
    refine KC.out.mono ?_
    rintro e w5 ⟨a6, c6, rfl, o5, b5⟩
    have R25 := R24.out.below b5 R24.out.lt
    have R35 := R34.out.below b5 R34.out.lt
    have P5 := P4.out.below b5 P4.out.lt
    have U5 := U4.out.below b5 U4.out.lt
    have B5 := B4.out.trans (b5.mono B4.out.size)
    have O5 := O4.out.below b5
    have hU5 := U5.cell 2
    have fU5 := U5.frozen 2
    have gS := grown_setCell w5 ⟨w3.heap.size, 2, none⟩ (.slice a6 n2 c6)
    have z3o := z3.out
    have y3o := y3.out
    have R2 := Lib.hid (R25.grown gS (by simp; omega))
    have R3 := Lib.hid (R35.grown gS (by simp; omega))
    have P6 := Lib.hid (P5.grown gS (by simp; omega))
    have U6 := Lib.hid (box_set2 U5 (.slice a6 n2 c6))
    have T6 := Lib.hid (B5.grown gS B5.size (fun k e => by cases e; dsimp only; omega))
    have O6 := Lib.hid (O5.grown gS (by rintro x hx e; have h9 := (O4.out.lt x hx).2; have h8 := (O4.out.lt x hx).1; simp only [Option.some.injEq] at e; have := NB4.out x hx; omega))
    have Q6 := Lib.hid (o5.grown gS (by rintro x hx e; have h8 := (o5.lt x hx).1; have := U4.out.lt; simp only [Option.some.injEq] at e; omega))
    have O6N := O3N
    have Q6N := Lib.hid (show w.heap.size + 1 < W4.heap.size from R34.out.lt)
    have P6N := P3N
    have U6N := z3
    clear R25 R35 P5 U5 B5 O5 o5 b5 gS R24 R34 P4 U4 B4 O4 KC
    go_wp2_with fail
    clear hU5 fU5
    generalize w5.setCell ⟨w3.heap.size, 2, none⟩ (.slice a6 n2 c6) = W6 at *
    have SS := Lib.hid (show ∀ W, Hid (Box W w2.heap.size 25 #[.int .i64 df, .int .i64 dt, .slice a2 n2 c2]) → Hid (Box W w3.heap.size 25 #[.int .i64 df, .int .i64 dt, .slice a6 n2 c6]) → W.cell? ⟨w2.heap.size, 0, none⟩ = some (.int .i64 df) ∧ W.cell? ⟨w2.heap.size, 1, none⟩ = some (.int .i64 dt) ∧ W.cell? ⟨w2.heap.size, 2, none⟩ = some (.slice a2 n2 c2) ∧ W.cell? ⟨w3.heap.size, 0, none⟩ = some (.int .i64 df) ∧ W.cell? ⟨w3.heap.size, 1, none⟩ = some (.int .i64 dt) ∧ W.cell? ⟨w3.heap.size, 2, none⟩ = some (.slice a6 n2 c6) from fun W hW hW' => by
      obtain ⟨_, x0, x1, x2⟩ := hW.out.three
      obtain ⟨_, y0, y1, y2⟩ := hW'.out.three
      exact ⟨x0, x1, x2, y0, y1, y2⟩)
    have PD : Hid (Box W6.drew w2.heap.size _ _) := P6.out
    have UD : Hid (Box W6.drew w3.heap.size _ _) := U6.out
    refine wp_region_held_drew (S := fun W => W.cell? ⟨w2.heap.size, 0, none⟩ = some (.int .i64 df) ∧ W.cell? ⟨w2.heap.size, 1, none⟩ = some (.int .i64 dt) ∧ W.cell? ⟨w2.heap.size, 2, none⟩ = some (.slice a2 n2 c2) ∧ W.cell? ⟨w3.heap.size, 0, none⟩ = some (.int .i64 df) ∧ W.cell? ⟨w3.heap.size, 1, none⟩ = some (.int .i64 dt) ∧ W.cell? ⟨w3.heap.size, 2, none⟩ = some (.slice a6 n2 c6)) (by kernel_rfl) (SS.out _ PD UD) (fun hHeld => ?_)
    refine wpAnyH_take (i := 0) (v := ?_) (by simp only [List.getElem?_toArray, List.getElem?_cons_zero]; exact rfl) (by kernel_rfl) (by kernel_rfl) (by kernel_rfl) (by exact fun _ _ _ h => h) (Or.inl ⟨by rfl, ?_⟩) hHeld ?_
    rotate_left
    · intro w' hSw
      obtain ⟨x0, x1, x2, y0, y1, y2⟩ := hSw
      go_simp
      try with_reducible rfl
    try simp only [Act.put, List.setIfInBounds_toArray, List.set_cons_zero, List.set_cons_succ]
    refine wpAnyH_take (i := 1) (v := ?_) (by simp only [List.getElem?_toArray, List.getElem?_cons_zero, List.getElem?_cons_succ]; exact rfl) (by kernel_rfl) (by kernel_rfl) (by kernel_rfl) (by exact fun _ _ _ h => h) (Or.inl ⟨by rfl, ?_⟩) hHeld ?_
    rotate_left
    · intro w' hSw
      obtain ⟨x0, x1, x2, y0, y1, y2⟩ := hSw
      go_simp
      try with_reducible rfl
    try simp only [Act.put, List.setIfInBounds_toArray, List.set_cons_zero, List.set_cons_succ]
    have R2 : Hid (Box W6.drew w.heap.size _ _) := R2.out
    have R3 : Hid (Box W6.drew (w.heap.size + 1) _ _) := R3.out
    have P6 := PD
    have U6 := UD
    have O6 := Lib.hid O6.out.drew
    have Q6 := Lib.hid Q6.out.drew
    have T6 := Lib.hid T6.out.drew
    clear PD UD
    refine wpAnyH_ready (rs := [2]) (by kernel_rfl) (by simp) ?_
    refine (AllReadyH.cons (by simp only [List.getElem?_toArray, List.getElem?_cons_zero, List.getElem?_cons_succ]; exact rfl) (fun K hK => ?_) AllReadyH.nil)
    refine storeBox_step _ rfl 25 (.tmp 2) (.tmp 18) rfl w.heap.size 25 _ #[.int .i64 df, .int .i64 dt, .slice a2 n2 c2] R2.out (by exact rfl) (by exact rfl) (by kernel_rfl) (by exact rfl) (by simp [Value.oneCell']) ?_
    intro wA xwA gwA
    have P6A := Lib.hid (P6.out.grown gwA (by have := P6N.out; simp only [ne_eq, Option.some.injEq]; omega))
    have U6A := Lib.hid (U6.out.grown gwA (by have := U6N.out; simp only [ne_eq, Option.some.injEq]; omega))
    have R3A := Lib.hid (R3.out.grown gwA (by simp))
    have O6A := Lib.hid (O6.out.grown gwA (by rintro x hx e; have := (O6.out.lt x hx).1; have := O6N.out; simp only [Option.some.injEq] at e; omega))
    have Q6A := Lib.hid (Q6.out.grown gwA (by rintro x hx e; have := (Q6.out.lt x hx).1; have := Q6N.out; simp only [Option.some.injEq] at e; omega))
    have TA := Lib.hid (T6.out.grown gwA T6.out.size (fun k e => by cases e; omega))
    have XA := Lib.hid xwA
    clear xwA gwA
    refine hK.out _ _ (SS.out _ P6A U6A) (fun hHeld => ?_)
    clear hK K
    try simp only [Act.put]
    try simp only [Act.put, List.setIfInBounds_toArray, List.set_cons_zero, List.set_cons_succ]
    refine wpAnyH_ready (rs := [3]) (by kernel_rfl) (by simp) ?_
    refine (AllReadyH.cons (by simp only [List.getElem?_toArray, List.getElem?_cons_zero, List.getElem?_cons_succ]; exact rfl) (fun K hK => ?_) AllReadyH.nil)
    refine storeBox_step _ rfl 25 (.tmp 3) (.tmp 19) rfl (w.heap.size + 1) 25 _ #[.int .i64 df, .int .i64 dt, .slice a6 n2 c6] R3A.out (by exact rfl) (by exact rfl) (by kernel_rfl) (by exact rfl) (by simp [Value.oneCell']) ?_
    intro wB xwB gwB
    have P6B := Lib.hid (P6A.out.grown gwB (by have := P6N.out; simp only [ne_eq, Option.some.injEq]; omega))
    have U6B := Lib.hid (U6A.out.grown gwB (by have := U6N.out; simp only [ne_eq, Option.some.injEq]; omega))
    have O6B := Lib.hid (O6A.out.grown gwB (by rintro x hx e; have := (O6A.out.lt x hx).1; have := O6N.out; simp only [Option.some.injEq] at e; omega))
    have Q6B := Lib.hid (Q6A.out.grown gwB (by rintro x hx e; have := (Q6A.out.lt x hx).1; have := Q6N.out; simp only [Option.some.injEq] at e; omega))
    have TBB := Lib.hid (TA.out.grown gwB TA.out.size (fun k e => by cases e; omega))
    have XAB := Lib.hid (XA.out.grown gwB (by simp))
    have XB := Lib.hid xwB
    clear xwB gwB TA XA
    refine hK.out _ _ (SS.out _ P6B U6B) (fun hHeld => ?_)
    clear hK K hHeld
    try simp only [Act.put]
    refine wpAnyH_done (by kernel_rfl) ?_ _
    go_wp2
    obtain ⟨_, p0, p1, p2⟩ := XAB.out.three
    obtain ⟨_, q0, q1, q2⟩ := XB.out.three
    exact bodyPost_ret (v := .tuple #[.agg #[.int .i64 df, .int .i64 dt, .slice a2 n2 c2], .agg #[.int .i64 df, .int .i64 dt, .slice a6 n2 c6]]) (by simp [results, Try.results16, go_sem, p0, p1, p2, q0, q1, q2]) rfl ⟨_, _, _, _, _, _, _, _, _, _, _, _, rfl, O6B.out.rd, Q6B.out.rd, TBB.out⟩
end Go.Proofs.Ytmcllaefjgdbeaa

namespace Go.Proofs.Ytmcllaefjgdbeaa
open Go.ChangeShapes Go.WideShapes Go.ChangeAt Go.RowKit

theorem lwSame_t (a b : Option Addr) (la ca lb cb : Nat) (zs : List Int) (w : World) (ha : Rd w a la ca zs) (hb : Rd w b lb cb zs) :
    Calls Try.prog 21 #[.slice a la ca, .slice b lb cb] w fun e w' => e = .returned (.bool true) ∧ w = w' := by
  have h1 := conv_rd ha
  have h2 := conv_rd hb
  generalize strOfNums zs = t at *
  clear ha hb
  go_enter Try.func21, Try.ntmps21
  go_wp2
  go_ret
  exact ⟨rfl, rfl⟩

theorem mem10 {x a b c d e f g h i j lo hi : Int} (hx : x ∈ [a, b, c, d, e, f, g, h, i, j]) (k : lo ≤ a ∧ a ≤ hi ∧ lo ≤ b ∧ b ≤ hi ∧ lo ≤ c ∧ c ≤ hi ∧ lo ≤ d ∧ d ≤ hi ∧ lo ≤ e ∧ e ≤ hi ∧ lo ≤ f ∧ f ≤ hi ∧ lo ≤ g ∧ g ≤ hi ∧ lo ≤ h ∧ h ≤ hi ∧ lo ≤ i ∧ i ≤ hi ∧ lo ≤ j ∧ j ≤ hi) : lo ≤ x ∧ x ≤ hi := by
  simp only [List.mem_cons, List.not_mem_nil, or_false] at hx
  rcases hx with rfl | rfl | rfl | rfl | rfl | rfl | rfl | rfl | rfl | rfl <;> omega

/-- some bytes, and two numbers, were drawn -/
def BytesTwo (w : World) (e : Ending) (w' : World) : Prop := ∃ (a' : Option Addr) (l' c' : Nat) (ys : List Int) (x y : Int), e = .returned (.tuple #[.slice a' l' c', .int .i64 x, .int .i64 y]) ∧ Own w' w.heap.size a' l' c' ys ∧ l' ≤ 12 ∧ 0 ≤ y ∧ y ≤ 7 ∧ Below w.heap.size w w'

end Go.Proofs.Ytmcllaefjgdbeaa

namespace Go.Proofs.Ytmcllaefjgdbeaa
open Go.ChangeShapes Go.WideShapes Go.ChangeAt Go.RowKit

set_option maxRecDepth 20000 in
set_option maxHeartbeats 1000000 in
theorem lwAt_any (i n : Nat) (a : Option Addr) (len cap : Nat) (zs : List Int) (w : World) (h : Rd w a len cap zs) (hi : i ≤ 100) (hn : 2 ≤ n) (hn2 : n ≤ 200) (hl : len ≤ 1048576) :
    Calls Try.prog 25 #[.slice a len cap, .int .i64 i, .int .i64 n] w fun e w' => ∃ r : Nat, e = .returned (.int .i64 r) ∧ r < n ∧ Below w.heap.size w w' := by
  have HR := Lib.hid h
  by_cases h2 : len = 0
  · subst h2
    clear h
    have k1 : 0 ≤ (i : Int) * 7 % n := Int.emod_nonneg _ (by omega)
    have k2 : (i : Int) * 7 % n < n := Int.emod_lt_of_pos _ (by omega)
    go_enter Try.func25, Try.ntmps25
    go_wp2
    go_ret
    refine ⟨((i : Int) * 7 % n).toNat, ret_i (by omega), by omega, Below.refl _ _⟩
  · rcases h.cells with h0 | ⟨bb, off, rfl, hc⟩
    · exact absurd h0 h2
    have hp : (0 : Int) < len := by omega
    have hne : ((len : Int) == 0) = false := by simp; omega
    have m1 : (0 : Int) ≤ (i : Int) % len := Int.emod_nonneg _ (by omega)
    have m2 : (i : Int) % len < len := Int.emod_lt_of_pos _ hp
    have m3 : ((i : Int) % len).toNat = i % len := by rw [← Int.natCast_emod]; exact Int.toNat_natCast _
    have hcm := hc (i % len) (Nat.mod_lt _ (by omega))
    have hbd := h.getD_bd (i % len)
    generalize zs.getD (i % len) 0 = x at *
    clear hc h
    go_enter Try.func25, Try.ntmps25
    go_wp2
    go_quiet (fail)
    obtain ⟨v, hv, hv1, hv2⟩ : ∃ v, wrap64 (x + wrap64 (wrap64 ((i : Int) / len) * 3)) = v ∧ 0 ≤ v ∧ v ≤ 1000 := by
      have d1 : 0 ≤ (i : Int) / len := Int.ediv_nonneg (by omega) (by omega)
      have d2 : (i : Int) / len ≤ i := Int.ediv_le_self _ (by omega)
      refine ⟨x + (i : Int) / len * 3, ?_, by omega, by omega⟩
      rw [IntWalk.wrap64_in ((i : Int) / len) (by omega), IntWalk.wrap64_in ((i : Int) / len * 3) (by omega), IntWalk.wrap64_in _ (by omega)]
    rw [hv]
    have B2 := Lib.hid (belowN (Below.refl w.heap.size w) nq)
    generalize w.drewN nq = W2 at *
    clear hv hcm m1 m2 m3 hbd
    have k1 : 0 ≤ v % n := Int.emod_nonneg _ (by omega)
    have k2 : v % n < n := Int.emod_lt_of_pos _ (by omega)
    go_wp2
    go_ret
    exact ⟨(v % n).toNat, ret_i (by omega), by omega, B2.out⟩
set_option maxRecDepth 20000 in
set_option maxHeartbeats 1000000 in
theorem lwAt_big (i n : Nat) (a : Option Addr) (len cap : Nat) (zs : List Int) (w : World) (h : Rd w a len cap zs) (hi : i ≤ 100) (hn : 200 < n) (hn2 : n ≤ 1000000) (hl : len ≤ 1048576) :
    Calls Try.prog 25 #[.slice a len cap, .int .i64 i, .int .i64 n] w fun e w' => ∃ r : Nat, e = .returned (.int .i64 r) ∧ r < n ∧ Below w.heap.size w w' := by
  have HR := Lib.hid h
  by_cases h2 : len = 0
  · subst h2
    clear h
    have k1 : 0 ≤ (i : Int) * 7 % n := Int.emod_nonneg _ (by omega)
    have k2 : (i : Int) * 7 % n < n := Int.emod_lt_of_pos _ (by omega)
    go_enter Try.func25, Try.ntmps25
    go_wp2
    go_ret
    refine ⟨((i : Int) * 7 % n).toNat, ret_i (by omega), by omega, Below.refl _ _⟩
  · rcases h.cells with h0 | ⟨bb, off, rfl, hc⟩
    · exact absurd h0 h2
    have hp : (0 : Int) < len := by omega
    have hne : ((len : Int) == 0) = false := by simp; omega
    have m1 : (0 : Int) ≤ (i : Int) % len := Int.emod_nonneg _ (by omega)
    have m2 : (i : Int) % len < len := Int.emod_lt_of_pos _ hp
    have m3 : ((i : Int) % len).toNat = i % len := by rw [← Int.natCast_emod]; exact Int.toNat_natCast _
    have hcm := hc (i % len) (Nat.mod_lt _ (by omega))
    have hbd := h.getD_bd (i % len)
    generalize zs.getD (i % len) 0 = x at *
    clear hc h
    go_enter Try.func25, Try.ntmps25
    go_wp2
    go_quiet (fail)
    obtain ⟨v, hv, hv1, hv2⟩ : ∃ v, wrap64 (x + wrap64 (wrap64 ((i : Int) / len) * 3)) = v ∧ 0 ≤ v ∧ v ≤ 1000 := by
      have d1 : 0 ≤ (i : Int) / len := Int.ediv_nonneg (by omega) (by omega)
      have d2 : (i : Int) / len ≤ i := Int.ediv_le_self _ (by omega)
      refine ⟨x + (i : Int) / len * 3, ?_, by omega, by omega⟩
      rw [IntWalk.wrap64_in ((i : Int) / len) (by omega), IntWalk.wrap64_in ((i : Int) / len * 3) (by omega), IntWalk.wrap64_in _ (by omega)]
    rw [hv]
    have B2 := Lib.hid (belowN (Below.refl w.heap.size w) nq)
    generalize w.drewN nq = W2 at *
    clear hv hcm m1 m2 m3 hbd
    rcases (HR.out.below B2.out).cells with h0' | ⟨bb', off', e, hc'⟩
    · exact absurd h0' h2
    cases e
    have m1 : (0 : Int) ≤ ((i : Int) + 1) % len := Int.emod_nonneg _ (by omega)
    have m2 : ((i : Int) + 1) % len < len := Int.emod_lt_of_pos _ hp
    have m3 : (((i : Int) + 1) % len).toNat = (i + 1) % len := by rw [← Int.natCast_one, ← Int.natCast_add, ← Int.natCast_emod]; exact Int.toNat_natCast _
    have hcm := hc' ((i + 1) % len) (Nat.mod_lt _ (by omega))
    have hbd := HR.out.getD_bd ((i + 1) % len)
    generalize zs.getD ((i + 1) % len) 0 = y at *
    clear hc'
    have n1 : (0 : Int) ≤ (i : Int) + 1 := by omega
    obtain ⟨v2, hv2e⟩ : ∃ v2, v2 = v * 251 + y := ⟨_, rfl⟩
    have HV := Lib.hid hv2e
    clear hv2e
    have k1 : 0 ≤ (v * 251 + y) % n := Int.emod_nonneg _ (by omega)
    have k2 : (v * 251 + y) % n < n := Int.emod_lt_of_pos _ (by omega)
    go_wp2
    go_ret
    exact ⟨((v * 251 + y) % n).toNat, ret_i (by omega), by omega, B2.out⟩
theorem lwAt_all (i n : Nat) (a : Option Addr) (len cap : Nat) (zs : List Int) (w : World) (h : Rd w a len cap zs) (hi : i ≤ 100) (hn : 2 ≤ n) (hn2 : n ≤ 1000000) (hl : len ≤ 1048576) :
    Calls Try.prog 25 #[.slice a len cap, .int .i64 i, .int .i64 n] w fun e w' => ∃ r : Nat, e = .returned (.int .i64 r) ∧ r < n ∧ Below w.heap.size w w' := by
  by_cases hs : n ≤ 200
  · exact lwAt_any i n a len cap zs w h hi hn hs hl
  · exact lwAt_big i n a len cap zs w h hi (by omega) hn2 hl
end Go.Proofs.Ytmcllaefjgdbeaa

namespace Go.Proofs.Ytmcllaefjgdbeaa
open Go.ChangeShapes Go.WideShapes Go.ChangeAt Go.RowKit

/-- a whole struct loaded out of its block -/
theorem loadBox_list (w : World) {ops : Array Oper} {rest : List Oper} {o : Oper} {ac : Act} {Q : Exit → Act → World → Prop} (hgd : o.guard = none) (ty : TypeId) (x : Operand)
    (ho : o.op = .load ty x) (b : Nat) (t : TypeId) (vs : Array Value) (hx : Box w b t vs) (ex : ac.eval x = .pointer (some ⟨b, 0, none⟩)) (d : TypeDesc) (hd : (match d with | .struct _ | .array _ _ => true | _ => false) = true) (hu : Try.prog.underlying ty = some d)
    (hi : (Try.prog.info? ty).map (·.size) = some vs.size)
    (h : wpList Try.prog ops Q rest (ac.put o.dst (.agg vs)) w) : wpList Try.prog ops Q (o :: rest) ac w := by
  refine wpList_plain hgd fun K hK => ?_
  have hrun := run_loadVar_row (P := Try.prog) w b t ty vs (0, 0) d hx hu (by cases d <;> first | rfl | exact hd) hi
  unfold Oper.wp execOp
  simp only [ho, ex, Instr.loadAt, Instr.sureAddr, Sem.run_bind, Sem.run_pure, Result.andThen_ok, hrun]
  exact hK _ _ h

end Go.Proofs.Ytmcllaefjgdbeaa

namespace Go.Proofs.Ytmcllaefjgdbeaa
open Go.ChangeShapes Go.WideShapes Go.ChangeAt Go.RowKit

theorem own_lit2 (w : World) (base : Nat) (x y : Int) (hx : 0 ≤ x ∧ x ≤ 255) (hy : 0 ≤ y ∧ y ≤ 255) (hb : base ≤ w.heap.size) : Own (w.alloc (.cells #[.int .u8 x, .int .u8 y] 5)) base (some ⟨w.heap.size, 0, none⟩) 2 2 [x, y] :=
  ⟨World.ownsRow_lit w #[.int .u8 x, .int .u8 y] 2 hb (by unfold maxLen; omega) rfl, by intro n hn; simp at hn; omega⟩

end Go.Proofs.Ytmcllaefjgdbeaa

namespace Go.Proofs.Ytmcllaefjgdbeaa
open Go.ChangeShapes Go.WideShapes Go.ChangeAt Go.RowKit

end Go.Proofs.Ytmcllaefjgdbeaa

namespace Go.Proofs.Ytmcllaefjgdbeaa
open Go.ChangeShapes Go.WideShapes Go.ChangeAt Go.RowKit

theorem box_after {W w' : World} {vs : Array Value} {t : TypeId} (hb : Below (W.alloc (.cells vs t)).heap.size (W.alloc (.cells vs t)) w') : Box w' W.heap.size t vs := (Box.new W t vs).below hb (Box.new W t vs).lt

theorem Box.c14 {w : World} {b : Nat} {t : TypeId} {x0 x1 x2 x3 x4 x5 x6 x7 x8 x9 x10 x11 x12 x13 : Value} (h : Box w b t #[x0, x1, x2, x3, x4, x5, x6, x7, x8, x9, x10, x11, x12, x13]) : w.cell? ⟨b, 0, none⟩ = some x0 ∧ w.cell? ⟨b, 1, none⟩ = some x1 ∧ w.cell? ⟨b, 2, none⟩ = some x2 ∧ w.cell? ⟨b, 3, none⟩ = some x3 ∧ w.cell? ⟨b, 4, none⟩ = some x4 ∧ w.cell? ⟨b, 5, none⟩ = some x5 ∧ w.cell? ⟨b, 6, none⟩ = some x6 ∧ w.cell? ⟨b, 7, none⟩ = some x7 ∧ w.cell? ⟨b, 8, none⟩ = some x8 ∧ w.cell? ⟨b, 9, none⟩ = some x9 ∧ w.cell? ⟨b, 10, none⟩ = some x10 ∧ w.cell? ⟨b, 11, none⟩ = some x11 ∧ w.cell? ⟨b, 12, none⟩ = some x12 ∧ w.cell? ⟨b, 13, none⟩ = some x13 := ⟨h.cell 0, h.cell 1, h.cell 2, h.cell 3, h.cell 4, h.cell 5, h.cell 6, h.cell 7, h.cell 8, h.cell 9, h.cell 10, h.cell 11, h.cell 12, h.cell 13⟩
theorem be6 (n : Int) : ∃ y0 y1 y2 y3 y4 y5, be n 6 = [y0, y1, y2, y3, y4, y5] := ⟨_, _, _, _, _, _, rfl⟩

theorem frameC_kd {tq fr kd : Int} {n : Nat} (h : frameC tq fr kd n = 0) : 0 ≤ kd ∧ kd < 65536 := by
  unfold frameC at h
  split at h
  · rename_i hk
    simp only [frameB, inB, Bool.and_eq_true, decide_eq_true_eq] at hk
    omega
  · omega

end Go.Proofs.Ytmcllaefjgdbeaa

namespace Go.Proofs.Ytmcllaefjgdbeaa
open Go.ChangeShapes Go.WideShapes Go.ChangeAt Go.RowKit

def arpP (op fm fi tm ti : Int) : List Int := if arpB op fm fi tm ti then arpL op fm fi tm ti else []
theorem arpL_len (op fm fi tm ti : Int) : (arpL op fm fi tm ti).length = 28 := by simp [arpL, be_len]
theorem arpP_len (op fm fi tm ti : Int) : (arpP op fm fi tm ti).length ≤ 28 := by
  unfold arpP
  split
  · rw [arpL_len]; exact Nat.le_refl _
  · simp
theorem arpB_parts {op fm fi tm ti : Int} (h : arpB op fm fi tm ti = true) : (0 ≤ op ∧ op < 281474976710656) ∧ (0 ≤ fm ∧ fm < 281474976710656) ∧ (0 ≤ fi ∧ fi < 281474976710656) ∧ (0 ≤ tm ∧ tm < 281474976710656) ∧ (0 ≤ ti ∧ ti < 281474976710656) := by
  simp only [arpB, macB, ipB, inB, Bool.and_eq_true, decide_eq_true_eq] at h
  omega

end Go.Proofs.Ytmcllaefjgdbeaa

namespace Go.Proofs.Ytmcllaefjgdbeaa
open Go.ChangeShapes Go.WideShapes Go.ChangeAt Go.RowKit

end Go.Proofs.Ytmcllaefjgdbeaa

namespace Go.Proofs.Ytmcllaefjgdbeaa
open Go.ChangeShapes Go.WideShapes Go.ChangeAt Go.RowKit

/-- these blocks hold just these cells -/
def Bs (l : List (Nat × TypeId × Array Value)) (W : World) : Prop := ∀ x ∈ l, Box W x.1 x.2.1 x.2.2
theorem bsCall {l : List (Nat × TypeId × Array Value)} {W w' : World} (hb : Below W.heap.size W w') (h : Hid (Bs l W)) : Hid (Bs l w') := fun x hx => (h.out x hx).below hb (h.out x hx).lt
theorem bsAlloc {l : List (Nat × TypeId × Array Value)} {W : World} {o : Obj} (h : Hid (Bs l W)) : Hid (Bs l (W.alloc o)) := fun x hx => (h.out x hx).alloc o
theorem bsDrew {l : List (Nat × TypeId × Array Value)} {W : World} (h : Hid (Bs l W)) : Hid (Bs l W.drew) := fun x hx => h.out x hx
theorem bsSet {l : List (Nat × TypeId × Array Value)} {W : World} {p : Addr} {u : Value} (hp : ∀ x ∈ l, x.1 ≠ p.block) (h : Hid (Bs l W)) : Hid (Bs l (W.setCell p u)) := fun x hx => (h.out x hx).grown (grown_setCell W p u) (by have := hp x hx; simpa using this)
theorem be4 (n : Int) : ∃ y0 y1 y2 y3, be n 4 = [y0, y1, y2, y3] := ⟨_, _, _, _, rfl⟩
theorem b8_4 {y0 y1 y2 y3 : Int} {n : Int} {k : Nat} (h : be n k = [y0, y1, y2, y3]) : B8 [y0, y1, y2, y3] := by rw [← h]; exact b8_be k n
theorem arpB_ip {op fm fi tm ti : Int} (h : arpB op fm fi tm ti = true) : (0 ≤ op ∧ op < 65536) ∧ (0 ≤ fi ∧ fi < 4294967296) ∧ (0 ≤ ti ∧ ti < 4294967296) := by
  simp only [arpB, macB, ipB, inB, Bool.and_eq_true, decide_eq_true_eq] at h
  omega

end Go.Proofs.Ytmcllaefjgdbeaa

namespace Go.Proofs.Ytmcllaefjgdbeaa
open Go.ChangeShapes Go.WideShapes Go.ChangeAt Go.RowKit

/-- these slices read as these bytes -/
def Rs (l : List (Option Addr × Nat × Nat × List Int)) (W : World) : Prop := ∀ x ∈ l, Rd W x.1 x.2.1 x.2.2.1 x.2.2.2
def Kp (bl : List (Nat × TypeId × Array Value)) (rl : List (Option Addr × Nat × Nat × List Int)) (W : World) : Prop := Bs bl W ∧ Rs rl W
theorem Kp.below {bl : List (Nat × TypeId × Array Value)} {rl : List (Option Addr × Nat × Nat × List Int)} {W W' : World} (hb : Below W.heap.size W W') (h : Kp bl rl W) : Kp bl rl W' :=
  ⟨fun x hx => (h.1 x hx).below hb (h.1 x hx).lt, fun x hx => (h.2 x hx).below hb⟩
theorem Kp.box {bl : List (Nat × TypeId × Array Value)} {rl : List (Option Addr × Nat × Nat × List Int)} {W : World} (h : Kp bl rl W) (t : TypeId) (cs : Array Value) : Kp ((W.heap.size, t, cs) :: bl) rl (W.alloc (.cells cs t)) :=
  ⟨fun x hx => by
    rcases List.mem_cons.1 hx with rfl | hx
    · exact Box.new W t cs
    · exact (h.1 x hx).alloc _, fun x hx => (h.2 x hx).alloc _⟩
theorem Kp.rd {bl : List (Nat × TypeId × Array Value)} {rl : List (Option Addr × Nat × Nat × List Int)} {W : World} (h : Kp bl rl W) {a : Option Addr} {l c : Nat} {zs : List Int} (r : Rd W a l c zs) : Kp bl ((a, l, c, zs) :: rl) W :=
  ⟨h.1, fun x hx => by
    rcases List.mem_cons.1 hx with rfl | hx
    · exact r
    · exact h.2 x hx⟩
theorem Kp.drew {bl : List (Nat × TypeId × Array Value)} {rl : List (Option Addr × Nat × Nat × List Int)} {W : World} (h : Kp bl rl W) : Kp bl rl W.drew := h.below (Below.refl _ W).drew
theorem want_yes {o : Oper} {y : Nat → Option Bool} {A B : Prop} (h : Region.wanted o y = true) (hA : A) : if Region.wanted o y = true then A else B := by
  rw [if_pos h]
  exact hA
theorem fld_br0 (w : World) (c : Int) (a : Option Addr) (l k : Nat) : (Instr.field 29 (.agg #[.int .i64 c, .slice a l k]) 0).run Try.prog w = .ok (.int .i64 c) w := by
  simp [Instr.field, asAgg, go_sem]
theorem pow_mod (k : Nat) (hk : k < 8) : (2 ^ k % 256 : Int) = 2 ^ k := by
  obtain rfl | rfl | rfl | rfl | rfl | rfl | rfl | rfl : k = 0 ∨ k = 1 ∨ k = 2 ∨ k = 3 ∨ k = 4 ∨ k = 5 ∨ k = 6 ∨ k = 7 := by omega
  all_goals rfl
end Go.Proofs.Ytmcllaefjgdbeaa
