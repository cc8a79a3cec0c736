/-
  Numbers alone: one bit that is turned in bytes that have their sum is told by the sum.
  Numbers alone: one bit of a byte turned by xor.
  The source of draws of the laws: whatever it gives lies in its bounds, and nothing but its own block changes.
  Draws of the laws: a number out of a list, some bytes, a chance.
  InWindow of the program and of the model answer by one and the same function of numbers; the laws FnExactSeqDist and FnExactInWindow return true.
  The draws of the law of sequence numbers.
  Draws of datagrams.
  Draws of datagrams with a fault now and then.
  Draws of chapter 4: addresses, pseudo heads, what is packed.
  The law FnSeqs returns true at every slice of bytes.
  Draws: bytes that are turned now and then.
  Draws of the law of words; two slices of the same bytes are the same text; numbers and their bytes, there and back.
  Where the law turns a bit: lwAt; a bit that is turned.
  Blocks and slices of a law, carried as one fact; an operation that its guard wants; powers of two as bytes.
-/
import Derived.Test.YteaiemckcepphaaMC
import Derived.Laws.Closers25b
import Derived.Test.YteaiemckcepphaaMA
import Derived.Test.YteaiemckcepphaaMB
import Derived.Deep.RegionHeld3
import Derived.Deep.DeepCutAuto
import Derived.Laws.Shifts
namespace Go.Proofs.Yteaiemckcepphaa
open Go.ChangeShapes Go.WideShapes Go.ChangeAt Go.RowKit

/-- the sum where one byte is another one -/
theorem sumTo_set (l : List Int) (i : Nat) (y : Int) (hi : i < l.length) : ∀ k, i < k → sumTo (l.set i y) k + (if i % 2 = 0 then 256 else 1) * (l.getD i 0).toNat = sumTo l k + (if i % 2 = 0 then 256 else 1) * y.toNat
  | 0, h => absurd h (by omega)
  | k + 1, h => by
    by_cases hk : i < k
    · have ih := sumTo_set l i y hi k hk
      simp only [sumTo, getD_set l i k y hi, if_neg (show ¬ i = k by omega)]
      omega
    · obtain rfl : i = k := by omega
      have hc : sumTo (l.set i y) i = sumTo l i := sumTo_congr _ _ i (fun j hj => by rw [getD_set l i j y hi, if_neg (by omega)])
      simp only [sumTo, hc, getD_set l i i y hi, if_true]
      split <;> omega

theorem sum_zero_iff (l : List Int) : sumV l = 0 ↔ foldN (sumTo l l.length) = 65535 := by
  have := foldN_bd (sumTo l l.length)
  unfold sumV
  omega

/-- one bit turned: the byte is another one by a power of two below 256 -/
theorem sum_bit (l : List Int) (i : Nat) (y : Int) (d : Nat) (hi : i < l.length) (h8 : B8 l) (hy : 0 ≤ y) (hd : d = 1 ∨ d = 2 ∨ d = 4 ∨ d = 8 ∨ d = 16 ∨ d = 32 ∨ d = 64 ∨ d = 128) (hb : y = l.getD i 0 + d ∨ y + d = l.getD i 0) (hs : sumV l = 0) :
    ¬ sumV (l.set i y) = 0 := by
  rw [sum_zero_iff] at hs ⊢
  intro hs'
  rw [List.length_set] at hs'
  have hx := b8_getD h8 i
  have h1 := foldN_mod (sumTo l l.length)
  have h2 := foldN_mod (sumTo (l.set i y) l.length)
  rw [hs] at h1
  rw [hs'] at h2
  have h3 := sumTo_set l i y hi l.length hi
  generalize sumTo l l.length = s at *
  generalize sumTo (l.set i y) l.length = s' at *
  generalize l.getD i 0 = x at *
  obtain ⟨X, rfl⟩ := Int.eq_ofNat_of_zero_le hx.1
  obtain ⟨Y, rfl⟩ := Int.eq_ofNat_of_zero_le hy
  simp only [Int.toNat_natCast] at h3
  rcases hd with rfl | rfl | rfl | rfl | rfl | rfl | rfl | rfl <;> split at h3 <;> omega

theorem foldN_full (t : Nat) (h : foldN t = 65535) : foldN (t + 65535) = 65535 := by
  have h1 := foldN_mod t
  have h2 := foldN_mod (t + 65535)
  have h3 := foldN_pos (t + 65535) (by omega)
  have h4 := foldN_bd (t + 65535)
  omega
end Go.Proofs.Yteaiemckcepphaa

namespace Go.Proofs.Yteaiemckcepphaa
open Go.ChangeShapes Go.WideShapes Go.ChangeAt Go.RowKit

set_option maxRecDepth 20000 in
theorem xor_bit : ∀ x : Fin 256, ∀ k : Fin 8, bits .xor .u8 (x.val : Int) (2 ^ k.val) = (x.val : Int) + 2 ^ k.val ∨ bits .xor .u8 (x.val : Int) (2 ^ k.val) + 2 ^ k.val = (x.val : Int) := by decide +kernel

theorem xor_int (x : Int) (k : Nat) (hx : 0 ≤ x ∧ x ≤ 255) (hk : k < 8) : bits .xor .u8 x (2 ^ k) = x + 2 ^ k ∨ bits .xor .u8 x (2 ^ k) + 2 ^ k = x := by
  have := xor_bit ⟨x.toNat, by omega⟩ ⟨k, hk⟩
  simp only at this
  rwa [show ((x.toNat : Nat) : Int) = x by omega] at this
theorem pow_bits (k : Nat) (hk : k < 8) : (2 ^ k : Nat) = 1 ∨ (2 ^ k : Nat) = 2 ∨ (2 ^ k : Nat) = 4 ∨ (2 ^ k : Nat) = 8 ∨ (2 ^ k : Nat) = 16 ∨ (2 ^ k : Nat) = 32 ∨ (2 ^ k : Nat) = 64 ∨ (2 ^ k : Nat) = 128 := by
  obtain rfl | rfl | rfl | rfl | rfl | rfl | rfl | rfl : k = 0 ∨ k = 1 ∨ k = 2 ∨ k = 3 ∨ k = 4 ∨ k = 5 ∨ k = 6 ∨ k = 7 := by omega
  all_goals simp
/-- bytes that have their sum have it no more with one bit turned -/
theorem xor_sum (l : List Int) (i k : Nat) (hi : i < l.length) (hk : k < 8) (h8 : B8 l) (hs : sumV l = 0) : ¬ sumV (l.set i (bits .xor .u8 (l.getD i 0) (2 ^ k))) = 0 := by
  have hx := xor_int (l.getD i 0) k (b8_getD h8 i) hk
  exact sum_bit l i _ (2 ^ k) hi h8 (bits_within .xor .u8 (l.getD i 0) (2 ^ k)).1 (pow_bits k hk) (by simpa using hx) hs
end Go.Proofs.Yteaiemckcepphaa

namespace Go.Proofs.Yteaiemckcepphaa
open Go.ChangeShapes Go.WideShapes Go.ChangeAt Go.RowKit

/-- a source of draws: its block b, how far it has been read -/
structure Src (w : World) (b t : Nat) (a : Option Addr) (len cap : Nat) (zs : List Int) : Prop where
  box : Box w b 107 #[.slice a len cap, .int .i64 (t : Int)]
  rd : Rd w a len cap zs
  lt : 0 < len → ∀ x, a = some x → x.block < b
theorem Src.step {w w' : World} {b t t' : Nat} {a : Option Addr} {len cap : Nat} {zs : List Int} (h : Src w b t a len cap zs) (hg : w.grownBy w' (some b)) (hb : Box w' b 107 #[.slice a len cap, .int .i64 (t' : Int)]) : Src w' b t' a len cap zs := by
  refine ⟨hb, ⟨h.rd.length, h.rd.le, h.rd.max, h.rd.b8, h.rd.nil, ?_⟩, h.lt⟩
  rcases h.rd.cells with h0 | ⟨bb, off, rfl, hc⟩
  · exact .inl h0
  · refine .inr ⟨bb, off, rfl, fun i hi => hg.cell (hc i hi) ?_⟩
    have := h.lt (by omega) _ rfl
    intro e
    simp at e this
    omega
theorem Src.alloc {w : World} {b t : Nat} {a : Option Addr} {len cap : Nat} {zs : List Int} (h : Src w b t a len cap zs) (o : Obj) : Src (w.alloc o) b t a len cap zs :=
  h.step (World.grownBy_alloc w o (some b)) (h.box.alloc o)
theorem Src.below {w w' : World} {b t : Nat} {a : Option Addr} {len cap : Nat} {zs : List Int} (h : Src w b t a len cap zs) (hb : Below w.heap.size w w') : Src w' b t a len cap zs :=
  h.step (grown_of_below hb _) (h.box.below hb h.box.lt)
theorem Src.drewN {w : World} {b t : Nat} {a : Option Addr} {len cap : Nat} {zs : List Int} (h : Src w b t a len cap zs) (n : Nat) : Src (w.drewN n) b t a len cap zs :=
  h.below (belowN (Below.refl _ _) n)

theorem grown_through {a b c : World} {r row : Option Nat} (h : a.grownBy b r) (k : b.grownBy c row) (hr : ∀ x, row = some x → a.heap.size ≤ x) : a.grownBy c r :=
  ⟨k.os.trans h.os, k.tape.trans h.tape, k.output.trans h.output, Nat.le_trans h.size k.size, fun i hi hn => (k.block i (Nat.lt_of_lt_of_le hi h.size) (fun e => by have := hr i e.symm; omega)).trans (h.block i hi hn)⟩
theorem Src.grown {w w' : World} {b t : Nat} {a : Option Addr} {len cap : Nat} {zs : List Int} {row : Option Nat} (h : Src w b t a len cap zs) (hg : w.grownBy w' row) (hr : ∀ x, row = some x → b < x) : Src w' b t a len cap zs := by
  refine ⟨h.box.grown hg (fun e => by have := hr b e.symm; omega), ⟨h.rd.length, h.rd.le, h.rd.max, h.rd.b8, h.rd.nil, ?_⟩, h.lt⟩
  rcases h.rd.cells with h0 | ⟨bb, off, rfl, hc⟩
  · exact .inl h0
  · refine .inr ⟨bb, off, rfl, fun i hi => hg.cell (hc i hi) ?_⟩
    have := h.lt (by omega) _ rfl
    intro e
    have h2 := hr _ e.symm
    simp at h2 this
    omega
theorem own_row {w : World} {base : Nat} {a : Option Addr} {len cap : Nat} {zs : List Int} (h : Own w base a len cap zs) : ∀ x, (Value.slice a len cap).ownBlock = some x → base ≤ x := by
  intro x e
  cases a with
  | none => simp [Value.ownBlock] at e
  | some y => have := h.lt y rfl; simp [Value.ownBlock] at e; omega

/-- a number drawn: from 0 on, below n -/
def Nexted (w : World) (b t : Nat) (n : Int) (a : Option Addr) (len cap : Nat) (zs : List Int) (e : Ending) (w' : World) : Prop :=
  ∃ r : Int, e = .returned (.int .i64 r) ∧ 0 ≤ r ∧ (1 ≤ n → r < n) ∧ Src w' b (t + 1) a len cap zs ∧ w.grownBy w' (some b)

theorem box_set {w : World} {b : Nat} {t : TypeId} {x y z : Value} (h : Box w b t #[x, y]) : Box (w.setCell ⟨b, 1, none⟩ z) b t #[x, z] := by
  have := heap_setCell_same w b 1 #[x, y] t z h
  simpa [Box] using this

set_option maxRecDepth 100000 in
set_option maxHeartbeats 2000000 in
theorem l1Next_any (b t : Nat) (n : Int) (a : Option Addr) (len cap : Nat) (zs : List Int) (w : World) (h : Src w b t a len cap zs) (ht : t ≤ 1000000) (hl : len ≤ 1048576) (hn : n ≤ 1000000) :
    Calls Try.prog 64 #[.pointer (some ⟨b, 0, none⟩), .int .i64 n] w (Nexted w b t n a len cap zs) := by
  obtain ⟨z0, c0, c1⟩ := h.box.two
  have f1 := h.box.frozen 1
  obtain ⟨W1, hW1⟩ : ∃ W1, W1 = w.setCell ⟨b, 1, none⟩ (.int .i64 ((t : Int) + 1)) := ⟨_, rfl⟩
  have hg : w.grownBy W1 (some b) := by rw [hW1]; exact grown_setCell w ⟨b, 1, none⟩ _
  have hb1 : Box W1 b 107 #[.slice a len cap, .int .i64 ((t + 1 : Nat) : Int)] := by rw [hW1]; exact box_set h.box
  have hs := h.step hg hb1
  obtain ⟨z1, d0, d1⟩ := hb1.two
  have HW := Lib.hid hW1
  have HS := Lib.hid hs
  have HG := Lib.hid hg
  clear hW1 hs hg hb1 h
  by_cases h1 : n < 1
  · go_enter Try.func64, Try.ntmps64
    go_wp2
    go_ret
    rw [← HW.out]
    exact ⟨0, rfl, by omega, by omega, HS.out, HG.out⟩
  · by_cases h2 : len = 0
    · subst h2
      have hd0 := d0
      have hd1 := d1
      rw [HW.out] at hd0 hd1
      simp only [Int.natCast_add, Int.natCast_one] at hd1
      clear d0 d1
      have k1 : 0 ≤ (t : Int) * 7 % n := Int.emod_nonneg _ (by omega)
      have k2 : (t : Int) * 7 % n < n := Int.emod_lt_of_pos _ (by omega)
      go_enter Try.func64, Try.ntmps64
      go_wp2
      go_ret
      rw [← HW.out]
      exact ⟨_, rfl, k1, fun _ => k2, HS.out, HG.out⟩
    · rcases HS.out.rd.cells with h0 | ⟨bb, off, rfl, hc⟩
      · exact absurd h0 h2
      have hd0 := d0
      have hd1 := d1
      rw [HW.out] at hd0 hd1
      simp only [Int.natCast_add, Int.natCast_one] at hd1
      have hp : (0 : Int) < len := by omega
      have hne : ((len : Int) == 0) = false := by simp; omega
      have m1 : (0 : Int) ≤ (t : Int) % len := Int.emod_nonneg _ (by omega)
      have m2 : (t : Int) % len < len := Int.emod_lt_of_pos _ hp
      have m3 : ((t : Int) % len).toNat = t % len := by rw [← Int.natCast_emod]; exact Int.toNat_natCast _
      have hcm := hc (t % len) (Nat.mod_lt _ (by omega))
      rw [HW.out] at hcm
      have hbd := HS.out.rd.getD_bd (t % len)
      generalize zs.getD (t % len) 0 = x at *
      clear d0 d1 hc
      go_enter Try.func64, Try.ntmps64
      go_wp2
      go_quiet (fail)
      obtain ⟨v, hv, hv1, hv2⟩ : ∃ v, wrap64 (x + wrap64 (wrap64 ((t : Int) / len) * 37)) = v ∧ 0 ≤ v ∧ v ≤ 37000255 := by
        have d1 : 0 ≤ (t : Int) / len := Int.ediv_nonneg (by omega) (by omega)
        have d2 : (t : Int) / len ≤ t := Int.ediv_le_self _ (by omega)
        refine ⟨x + (t : Int) / len * 37, ?_, by omega, by omega⟩
        rw [IntWalk.wrap64_in ((t : Int) / len) (by omega), IntWalk.wrap64_in ((t : Int) / len * 37) (by omega), IntWalk.wrap64_in _ (by omega)]
      rw [hv, ← HW.out]
      have S2 := HS.out.drewN nq
      have G2 : w.grownBy (W1.drewN nq) (some b) := grown_trans HG.out (grown_of_below (belowN (Below.refl _ W1) nq) _)
      generalize W1.drewN nq = W2 at S2 G2 ⊢
      obtain ⟨z2, d0, d1⟩ := S2.box.two
      simp only [Int.natCast_add, Int.natCast_one] at d1
      have HS2 := Lib.hid S2
      have HG2 := Lib.hid G2
      clear hv hcm m1 m2 m3 hbd hd0 hd1 c0 c1 f1 z0 z1 HG HS HW S2 G2
      by_cases h200 : 200 < n
      · rcases HS2.out.rd.cells with h0 | ⟨bb', off', e, hc⟩
        · exact absurd h0 h2
        cases e
        have m1 : (0 : Int) ≤ ((t : Int) + 1) % len := Int.emod_nonneg _ (by omega)
        have m2 : ((t : Int) + 1) % len < len := Int.emod_lt_of_pos _ hp
        have m3 : (((t : Int) + 1) % len).toNat = (t + 1) % len := by rw [← Int.natCast_one, ← Int.natCast_add, ← Int.natCast_emod]; exact Int.toNat_natCast _
        have hcm := hc ((t + 1) % len) (Nat.mod_lt _ (by omega))
        have hbd := HS2.out.rd.getD_bd ((t + 1) % len)
        generalize zs.getD ((t + 1) % len) 0 = y at *
        clear hc
        have n1 : (0 : Int) ≤ (t : Int) + 1 := by omega
        go_wp2
        go_quiet (fail)
        obtain ⟨v', hv', hv1', hv2'⟩ : ∃ v', v * 251 + y * 13 + (t : Int) = v' ∧ 0 ≤ v' ∧ v' ≤ 10000000000 := ⟨_, rfl, by omega, by omega⟩
        rw [hv']
        have S3 := HS2.out.drewN nq
        have G3 : w.grownBy (W2.drewN nq) (some b) := grown_trans HG2.out (grown_of_below (belowN (Below.refl _ W2) nq) _)
        generalize W2.drewN nq = W3 at S3 G3 ⊢
        obtain ⟨z3, e0, e1⟩ := S3.box.two
        have HS3 := Lib.hid S3
        have HG3 := Lib.hid G3
        clear hv' hcm m1 m2 m3 hbd d0 d1 z2 HG2 HS2 S3 G3
        by_cases h6 : 60000 < n
        · rcases HS3.out.rd.cells with h0 | ⟨bb', off', e, hc⟩
          · exact absurd h0 h2
          cases e
          have m1 : (0 : Int) ≤ ((t : Int) + 2) % len := Int.emod_nonneg _ (by omega)
          have m2 : ((t : Int) + 2) % len < len := Int.emod_lt_of_pos _ hp
          have m3 : (((t : Int) + 2) % len).toNat = (t + 2) % len := by
            have : ((t : Int) + 2) = ((t + 2 : Nat) : Int) := by omega
            rw [this, ← Int.natCast_emod]; exact Int.toNat_natCast _
          have hcm := hc ((t + 2) % len) (Nat.mod_lt _ (by omega))
          have hbd := HS3.out.rd.getD_bd ((t + 2) % len)
          generalize zs.getD ((t + 2) % len) 0 = u at *
          clear hc
          have n2 : (0 : Int) ≤ (t : Int) + 2 := by omega
          go_wp2
          go_quiet (fail)
          obtain ⟨v2, hv2, hw1, hw2⟩ : ∃ v2, v' * 257 + u = v2 ∧ 0 ≤ v2 ∧ v2 ≤ 10000000000000 := ⟨_, rfl, by omega, by omega⟩
          rw [hv2]
          have S4 := HS3.out.drewN nq
          have G4 : w.grownBy (W3.drewN nq) (some b) := grown_trans HG3.out (grown_of_below (belowN (Below.refl _ W3) nq) _)
          generalize W3.drewN nq = W4 at S4 G4 ⊢
          have HS4 := Lib.hid S4
          have HG4 := Lib.hid G4
          have k1 : 0 ≤ v2 % n := Int.emod_nonneg _ (by omega)
          have k2 : v2 % n < n := Int.emod_lt_of_pos _ (by omega)
          clear hv2 hcm m1 m2 m3 hbd e0 e1 z3 HG3 HS3 S4 G4
          go_wp2
          go_ret
          exact ⟨_, rfl, k1, fun _ => k2, HS4.out, HG4.out⟩
        · have k1 : 0 ≤ v' % n := Int.emod_nonneg _ (by omega)
          have k2 : v' % n < n := Int.emod_lt_of_pos _ (by omega)
          go_wp2
          go_ret
          exact ⟨_, rfl, k1, fun _ => k2, HS3.out, HG3.out⟩
      · have k1 : 0 ≤ v % n := Int.emod_nonneg _ (by omega)
        have k2 : v % n < n := Int.emod_lt_of_pos _ (by omega)
        go_wp2
        go_ret
        exact ⟨_, rfl, k1, fun _ => k2, HS2.out, HG2.out⟩
end Go.Proofs.Yteaiemckcepphaa

namespace Go.Proofs.Yteaiemckcepphaa
open Go.ChangeShapes Go.WideShapes Go.ChangeAt Go.RowKit

theorem l1Source_any (a : Option Addr) (len cap : Nat) (zs : List Int) (w : World) (h : Rd w a len cap zs) :
    Calls Try.prog 72 #[.slice a len cap] w fun e w' => e = .returned (.pointer (some ⟨w.heap.size, 0, none⟩)) ∧ Src w' w.heap.size 0 a len cap zs ∧ Below w.heap.size w w' := by
  have hb := Lib.hid (Box.new w 107 #[.slice a len cap, .int .i64 0])
  have H := Lib.hid h
  clear h
  go_enter Try.func72, Try.ntmps72
  go_wp2
  go_ret
  refine ⟨rfl, ⟨hb.out, H.out.alloc _, ?_⟩, (Below.refl _ _).alloc (Nat.le_refl _) _⟩
  intro hp x hx
  rcases H.out.cells with h0 | ⟨b, off, e, hc⟩
  · omega
  · rw [e] at hx; cases hx; exact World.block_lt_of_cell? _ _ (hc 0 hp)

/-- a number between two bounds was drawn -/
def Picked (w : World) (b t : Nat) (lo hi : Int) (a : Option Addr) (len cap : Nat) (zs : List Int) (e : Ending) (w' : World) : Prop :=
  ∃ r : Int, e = .returned (.int .i64 r) ∧ lo ≤ r ∧ r ≤ hi ∧ Src w' b (t + 1) a len cap zs ∧ w.grownBy w' (some b)

set_option maxHeartbeats 1000000 in
theorem l1Pick_any (b t g n : Nat) (xs : List Int) (lo hi : Int) (a : Option Addr) (len cap : Nat) (zs : List Int) (w : World) (h : Src w b t a len cap zs) (hx : ∀ x ∈ xs, lo ≤ x ∧ x ≤ hi) (hn : xs.length = n) (hp : 0 < n) (hn2 : n ≤ 1000)
    (hL : Box w g 2 (xs.map (Value.int .i64)).toArray) (hgb : g ≠ b) (ht : t ≤ 1000000) (hl : len ≤ 1048576) :
    Calls Try.prog 66 #[.pointer (some ⟨b, 0, none⟩), .slice (some ⟨g, 0, none⟩) n n] w (Picked w b t lo hi a len cap zs) := by
  have K := Lib.hid (l1Next_any b t n a len cap zs w h ht hl (by omega))
  have HL := Lib.hid hL
  have HN := Lib.hid hn
  have HX := Lib.hid hx
  clear h hL hn hx
  go_enter Try.func66, Try.ntmps66
  go_wp2_with fail
  refine K.out.mono ?_
  rintro e w1 ⟨r, rfl, hr0, hr1, hs, hg⟩
  obtain ⟨i, rfl⟩ := Int.eq_ofNat_of_zero_le hr0
  have hin : i < n := by have := hr1 (by omega); omega
  have hc := (HL.out.grown hg (by intro e; cases e; exact hgb rfl)).cell i
  have hi' : i < xs.length := by rw [HN.out]; exact hin
  rw [List.getElem?_toArray, List.getElem?_map, List.getElem?_eq_getElem hi'] at hc
  have hb := HX.out _ (List.getElem_mem hi')
  simp only [Option.map_some] at hc
  generalize xs[i] = x at *
  have HS := Lib.hid hs
  have HG := Lib.hid hg
  clear hs hg hr0 hr1
  go_wp2
  go_ret
  exact ⟨x, rfl, hb.1, hb.2, HS.out, HG.out⟩

theorem l1Chance_any (b t : Nat) (n : Int) (a : Option Addr) (len cap : Nat) (zs : List Int) (w : World) (h : Src w b t a len cap zs) (ht : t ≤ 1000000) (hl : len ≤ 1048576) (hn : n ≤ 1000000) :
    Calls Try.prog 73 #[.pointer (some ⟨b, 0, none⟩), .int .i64 n] w fun e w' => ∃ c : Bool, e = .returned (.bool c) ∧ Src w' b (t + 1) a len cap zs ∧ w.grownBy w' (some b) := by
  have K := Lib.hid (l1Next_any b t n a len cap zs w h ht hl hn)
  clear h
  go_enter Try.func73, Try.ntmps73
  go_wp2_with fail
  refine K.out.mono ?_
  rintro e w1 ⟨r, rfl, hr0, hr1, hs, hg⟩
  have HS := Lib.hid hs
  have HG := Lib.hid hg
  clear hs hg hr0 hr1
  go_wp2
  go_ret
  exact ⟨_, rfl, HS.out, HG.out⟩

/-- some bytes were drawn, into an array of their own -/
def Somed (w : World) (b t n : Nat) (a : Option Addr) (len cap : Nat) (zs : List Int) (e : Ending) (w' : World) : Prop :=
  ∃ (a' : Option Addr) (c' : Nat) (ys : List Int), e = .returned (.slice a' n c') ∧ Own w' w.heap.size a' n c' ys ∧ Src w' b (t + n) a len cap zs ∧ w.grownBy w' (some b)

set_option maxHeartbeats 2000000 in
theorem l1Some_any (b t n : Nat) (a : Option Addr) (len cap : Nat) (zs : List Int) (w : World) (h : Src w b t a len cap zs) (ht : t + n ≤ 1000000) (hl : len ≤ 1048576) :
    Calls Try.prog 61 #[.pointer (some ⟨b, 0, none⟩), .int .i64 n] w (Somed w b t n a len cap zs) := by
  have o0 := Lib.hid (own_lit w w.heap.size (Nat.le_refl _))
  have s0 := Lib.hid (h.alloc (.cells #[] 5))
  have hbw := h.box.lt
  clear h
  go_enter Try.func61, Try.ntmps61
  go_wp2
  go_loopw [1, 5] (fun nn out wr => ∃ (k : Nat) (a' : Option Addr) (c' : Nat) (ys : List Int), k ≤ n ∧ nn = .int .i64 ((n - k : Nat) : Int) ∧ out = .slice a' k c' ∧ Own wr w.heap.size a' k c' ys ∧ Src wr b (t + k) a len cap zs ∧ w.grownBy wr (some b)) (fun nn _ _ => (intOf nn).toNat)
  case atStart => exact ⟨0, _, _, [], Nat.zero_le _, rfl, rfl, o0.out, s0.out, World.grownBy_alloc w _ _⟩
  case round =>
    obtain ⟨k, a', c', ys, hk, rfl, rfl, ho, hs, hg⟩ := hrel
    by_cases hlt : k < n
    · have K := Lib.hid (l1Next_any b (t + k) 256 a len cap zs wr hs (by omega) hl (by omega))
      have HO := Lib.hid ho
      have HG := Lib.hid hg
      have hgz := hg.size
      clear o0 s0 ho hs hg
      go_wp2_with fail
      refine K.out.mono ?_
      rintro e w1 ⟨r, rfl, hr0, hr1, hs1, hg1⟩
      have hr2 := hr1 (by omega)
      have o1 := HO.out.grown hg1 (by intro x hx e; have := HO.out.lt x hx; simp at e; omega)
      obtain ⟨x, rfl⟩ := Int.eq_ofNat_of_zero_le hr0
      have o2 := o1.alloc (.cells #[.int .u8 (x : Int)] 5)
      have hbx := Box.new w1 5 #[.int .u8 (x : Int)]
      have r2 : Rd (w1.alloc (.cells #[.int .u8 (x : Int)] 5)) (some ⟨w1.heap.size, 0, none⟩) 1 1 [(x : Int)] := ⟨rfl, Nat.le_refl _, by decide, by intro m hm; simp at hm; subst hm; omega, by simp, .inr ⟨_, 0, rfl, fun i hi => by
        obtain rfl : i = 0 := by omega
        exact hbx.cell 0⟩⟩
      have hs2 := hs1.alloc (.cells #[.int .u8 (x : Int)] 5)
      have hg2 := Lib.hid (grown_trans (grown_trans HG.out hg1) (World.grownBy_alloc w1 (.cells #[.int .u8 (x : Int)] 5) (some b)))
      have hz1 := hg1.size
      clear hr0 hr1 hg1 hs1 o1 hbx
      go_wp2_with (at_builtin; refine append_bytes _ rfl (.tmp 11) (.tmp 15) rfl w.heap.size _ _ _ _ rfl o2 _ _ _ _ rfl r2 (by simp; omega) (by omega) ?_; intro a3 c3 w3 o3 g3)
      have hs3 := hs2.grown g3 (fun x e => by have := own_row HO.out x e; omega)
      have hg3 := grown_through hg2.out g3 (own_row HO.out)
      go_roundw
      case rel => exact ⟨k + 1, a3, c3, ys ++ [(x : Int)], by omega, by go_num, rfl, o3, by rw [← Nat.add_assoc]; exact hs3, hg3⟩
      case measure => simp [intOf]; omega
    · obtain rfl : k = n := by omega
      have R := Lib.hid (And.intro ho (And.intro hs hg))
      clear ho hs hg o0 s0
      go_wp2
      go_ret
      exact ⟨a', c', ys, rfl, R.out.1, R.out.2.1, R.out.2.2⟩
end Go.Proofs.Yteaiemckcepphaa

namespace Go.Proofs.Yteaiemckcepphaa
open Go.ChangeShapes Go.WideShapes Go.ChangeAt Go.RowKit

def winB (seq frm size : Int) : Bool := sqB seq && sqB frm && inB size 0 65535 && inB (dist frm seq) 0 (size - 1)
theorem dist_bd (f t : Int) : -2147483648 ≤ dist f t ∧ dist f t ≤ 2147483647 := by
  unfold dist; split <;> omega

theorem win_yes {seq frm size : Int} (ha : (sqB frm && sqB seq) = true) (h : 0 ≤ size ∧ size ≤ 65535 ∧ 0 ≤ dist frm seq ∧ dist frm seq < size) : winB seq frm size = true := by
  rw [Bool.and_eq_true] at ha
  simp only [winB, ha.1, ha.2, in_t (v := size) (a := 0) (b := 65535) (by omega), in_t (v := dist frm seq) (a := 0) (b := size - 1) (by omega), Bool.and_self]
theorem win_no {seq frm size : Int} (h : ¬ (0 ≤ size ∧ size ≤ 65535 ∧ 0 ≤ dist frm seq ∧ dist frm seq < size)) : winB seq frm size = false := by
  by_cases k : 0 ≤ size ∧ size ≤ 65535
  · simp only [winB, in_f (v := dist frm seq) (a := 0) (b := size - 1) (by omega), Bool.and_false]
  · simp only [winB, in_f k, Bool.and_false, Bool.false_and]

end Go.Proofs.Yteaiemckcepphaa

namespace Go.Proofs.Yteaiemckcepphaa
open Go.ChangeShapes Go.WideShapes Go.ChangeAt Go.RowKit

theorem mem8 {x a b c d e f g h lo hi : Int} (hx : x ∈ [a, b, c, d, e, f, g, h]) (k : lo ≤ a ∧ a ≤ hi ∧ lo ≤ b ∧ b ≤ hi ∧ lo ≤ c ∧ c ≤ hi ∧ lo ≤ d ∧ d ≤ hi ∧ lo ≤ e ∧ e ≤ hi ∧ lo ≤ f ∧ f ≤ hi ∧ lo ≤ g ∧ g ≤ hi ∧ lo ≤ h ∧ h ≤ hi) : lo ≤ x ∧ x ≤ hi := by
  simp only [List.mem_cons, List.not_mem_nil, or_false] at hx
  rcases hx with rfl | rfl | rfl | rfl | rfl | rfl | rfl | rfl <;> omega

theorem mem2 {x a b lo hi : Int} (hx : x ∈ [a, b]) (k : lo ≤ a ∧ a ≤ hi ∧ lo ≤ b ∧ b ≤ hi) : lo ≤ x ∧ x ≤ hi := by
  simp only [List.mem_cons, List.not_mem_nil, or_false] at hx
  rcases hx with rfl | rfl <;> omega
theorem mem5 {x a b c d e lo hi : Int} (hx : x ∈ [a, b, c, d, e]) (k : lo ≤ a ∧ a ≤ hi ∧ lo ≤ b ∧ b ≤ hi ∧ lo ≤ c ∧ c ≤ hi ∧ lo ≤ d ∧ d ≤ hi ∧ lo ≤ e ∧ e ≤ hi) : lo ≤ x ∧ x ≤ hi := by
  simp only [List.mem_cons, List.not_mem_nil, or_false] at hx
  rcases hx with rfl | rfl | rfl | rfl | rfl <;> omega
theorem mem6 {x a b c d e f lo hi : Int} (hx : x ∈ [a, b, c, d, e, f]) (k : lo ≤ a ∧ a ≤ hi ∧ lo ≤ b ∧ b ≤ hi ∧ lo ≤ c ∧ c ≤ hi ∧ lo ≤ d ∧ d ≤ hi ∧ lo ≤ e ∧ e ≤ hi ∧ lo ≤ f ∧ f ≤ hi) : lo ≤ x ∧ x ≤ hi := by
  simp only [List.mem_cons, List.not_mem_nil, or_false] at hx
  rcases hx with rfl | rfl | rfl | rfl | rfl | rfl <;> omega

set_option maxHeartbeats 1000000 in
theorem l1DrawSeq_any (b t : Nat) (a : Option Addr) (len cap : Nat) (zs : List Int) (w : World) (h : Src w b t a len cap zs) (ht : t ≤ 900000) (hl : len ≤ 1048576) :
    Calls Try.prog 98 #[.pointer (some ⟨b, 0, none⟩)] w (Picked w b (t + 1) 0 4294967295 a len cap zs) := by
  have K := Lib.hid (l1Next_any b t 60000 a len cap zs w h (by omega) hl (by omega))
  have hbw := h.box.lt
  clear h
  go_enter Try.func98, Try.ntmps98
  go_wp2_with fail
  refine K.out.mono ?_
  rintro e w1 ⟨r, rfl, hr0, hr1, hs, hg⟩
  have hr2 := hr1 (by omega)
  have hz := hg.size
  have K2 := Lib.hid (l1Pick_any b (t + 1) w1.heap.size 8 [0, 1, 100, 4294967295, 4294967290, 2147483648, 2147483647, r] 0 4294967295 a len cap zs (w1.alloc (.cells #[.int .i64 0, .int .i64 1, .int .i64 100, .int .i64 4294967295, .int .i64 4294967290, .int .i64 2147483648, .int .i64 2147483647, .int .i64 r] 2)) (hs.alloc _) (fun x hx => mem8 hx (by omega)) rfl (by omega) (by omega) (Box.new _ _ _) (by omega) (by omega) hl)
  have HG := Lib.hid hg
  clear hr0 hr1 hs hg K
  go_wp2_with fail
  refine K2.out.mono ?_
  rintro e w2 ⟨r2, rfl, q0, q1, hs, hg⟩
  have R := Lib.hid (And.intro hs (grown_trans (grown_trans HG.out (World.grownBy_alloc w1 _ (some b))) hg))
  clear hs hg K2
  go_wp2
  go_ret
  exact ⟨r2, rfl, q0, q1, R.out.1, R.out.2⟩

/-- two numbers were drawn -/
def Two (w : World) (P : Int → Int → Prop) (e : Ending) (w' : World) : Prop := ∃ x y : Int, e = .returned (.tuple #[.int .i64 x, .int .i64 y]) ∧ P x y ∧ Below w.heap.size w w'

theorem below_src {w w1 w2 : World} (h : Below w.heap.size w w1) (hg : w1.grownBy w2 (some w.heap.size)) : Below w.heap.size w w2 :=
  h.grown hg h.size (fun k e => by cases e; exact Nat.le_refl _)

/-- three numbers were drawn -/
def Three (w : World) (P : Int → Int → Int → Prop) (e : Ending) (w' : World) : Prop := ∃ x y z : Int, e = .returned (.tuple #[.int .i64 x, .int .i64 y, .int .i64 z]) ∧ P x y z ∧ Below w.heap.size w w'

end Go.Proofs.Yteaiemckcepphaa

namespace Go.Proofs.Yteaiemckcepphaa
open Go.ChangeShapes Go.WideShapes Go.ChangeAt Go.RowKit

/-- a datagram was drawn, its data in an array of their own -/
def DgDrawn (w : World) (b t : Nat) (a : Option Addr) (len cap : Nat) (zs : List Int) (e : Ending) (w' : World) : Prop :=
  ∃ (df dt : Int) (a' : Option Addr) (n c' : Nat) (ys : List Int), e = .returned (.agg #[.int .i64 df, .int .i64 dt, .slice a' n c']) ∧ (1 ≤ df ∧ df ≤ 65535) ∧ (1 ≤ dt ∧ dt ≤ 65535) ∧ n ≤ 9 ∧
    Own w' w.heap.size a' n c' ys ∧ Src w' b (t + 3 + n) a len cap zs ∧ w.grownBy w' (some b)

end Go.Proofs.Yteaiemckcepphaa

namespace Go.Proofs.Yteaiemckcepphaa
open Go.ChangeShapes Go.WideShapes Go.ChangeAt Go.RowKit

/-- some datagram, its data in an array of their own -/
def DgAny (w : World) (e : Ending) (w' : World) : Prop :=
  ∃ (df dt : Int) (a' : Option Addr) (n c' : Nat) (ys : List Int), e = .returned (.agg #[.int .i64 df, .int .i64 dt, .slice a' n c']) ∧ ((-1 ≤ df ∧ df ≤ 65536) ∧ (-1 ≤ dt ∧ dt ≤ 65536)) ∧ n ≤ 561 ∧
    Own w' w.heap.size a' n c' ys ∧ Below w.heap.size w w'

end Go.Proofs.Yteaiemckcepphaa

namespace Go.Proofs.Yteaiemckcepphaa
open Go.ChangeShapes Go.WideShapes Go.ChangeAt Go.RowKit

theorem l1Later_any (n : Nat) (a : Option Addr) (len cap : Nat) (zs : List Int) (w : World) (h : Rd w a len cap zs) (hn : n ≤ 1000) :
    Calls Try.prog 49 #[.slice a len cap, .int .i64 n] w fun e w' => e = .returned (.pointer (some ⟨w.heap.size, 0, none⟩)) ∧ Src w' w.heap.size (5 + 7 * n) a len cap zs ∧ Below w.heap.size w w' := by
  have hb := Lib.hid (Box.new w 107 #[.slice a len cap, .int .i64 ((5 + 7 * n : Nat) : Int)])
  simp only [Int.natCast_add, Int.natCast_mul, Int.cast_ofNat_Int] at hb
  have H := Lib.hid h
  clear h
  go_enter Try.func49, Try.ntmps49
  go_wp2
  go_ret
  refine ⟨rfl, ⟨by simpa using hb.out, H.out.alloc _, ?_⟩, (Below.refl _ _).alloc (Nat.le_refl _) _⟩
  intro hp x hx
  rcases H.out.cells with h0 | ⟨b, off, e, hc⟩
  · omega
  · rw [e] at hx; cases hx; exact World.block_lt_of_cell? _ _ (hc 0 hp)

theorem l4Ip_any (b t : Nat) (a : Option Addr) (len cap : Nat) (zs : List Int) (w : World) (h : Src w b t a len cap zs) (ht : t ≤ 900000) (hl : len ≤ 1048576) :
    Calls Try.prog 92 #[.pointer (some ⟨b, 0, none⟩)] w (Picked w b t 0 4294967295 a len cap zs) := by
  have z0 := h.box.lt
  have K := Lib.hid (l1Pick_any b t w.heap.size 4 [167772161, 167772162, 0, 4294967295] 0 4294967295 a len cap zs (w.alloc (.cells #[.int .i64 167772161, .int .i64 167772162, .int .i64 0, .int .i64 4294967295] 2)) (h.alloc _) (fun x hx => by simp at hx; omega) rfl (by omega) (by omega) (Box.new _ _ _) (by omega) (by omega) hl)
  have G0 := Lib.hid (World.grownBy_alloc w (.cells #[.int .i64 167772161, .int .i64 167772162, .int .i64 0, .int .i64 4294967295] 2) (some b))
  clear h
  go_enter Try.func92, Try.ntmps92
  go_wp2_with fail
  refine K.out.mono ?_
  rintro e w1 ⟨x, rfl, x0, x1, s1, g1⟩
  have S1 := Lib.hid s1
  have G1 := Lib.hid (grown_trans G0.out g1)
  clear s1 g1 K G0
  go_wp2
  go_ret
  exact ⟨x, rfl, x0, x1, S1.out, G1.out⟩

theorem l4BentIp_any (b t : Nat) (a : Option Addr) (len cap : Nat) (zs : List Int) (w : World) (h : Src w b t a len cap zs) (ht : t ≤ 800000) (hl : len ≤ 1048576) :
    Calls Try.prog 50 #[.pointer (some ⟨b, 0, none⟩)] w (Picked w b (t + 1) (-1) 4294967296 a len cap zs) := by
  have K := Lib.hid (l1Chance_any b t 12 a len cap zs w h (by omega) hl (by omega))
  clear h
  go_enter Try.func50, Try.ntmps50
  go_wp2_with fail
  refine K.out.mono ?_
  rintro e w1 ⟨c, rfl, s1, g1⟩
  have z1 := s1.box.lt
  cases c
  · have K1 := Lib.hid (l4Ip_any b (t + 1) a len cap zs w1 s1 (by omega) hl)
    have G1 := Lib.hid g1
    clear s1 g1 K
    go_wp2_with fail
    refine K1.out.mono ?_
    rintro e w2 ⟨x, rfl, x0, x1, s2, g2⟩
    have S2 := Lib.hid s2
    have G2 := Lib.hid (grown_trans G1.out g2)
    clear s2 g2 K1 G1
    go_wp2
    go_ret
    exact ⟨x, rfl, by omega, by omega, S2.out, G2.out⟩
  · have K1 := Lib.hid (l1Pick_any b (t + 1) w1.heap.size 2 [-1, 4294967296] (-1) 4294967296 a len cap zs (w1.alloc (.cells #[.int .i64 (-1), .int .i64 4294967296] 2)) (s1.alloc _) (fun x hx => by simp at hx; omega) rfl (by omega) (by omega) (Box.new _ _ _) (by omega) (by omega) hl)
    have G1 := Lib.hid (grown_trans g1 (World.grownBy_alloc w1 (.cells #[.int .i64 (-1), .int .i64 4294967296] 2) (some b)))
    clear s1 g1 K
    go_wp2_with fail
    refine K1.out.mono ?_
    rintro e w2 ⟨x, rfl, x0, x1, s2, g2⟩
    have S2 := Lib.hid s2
    have G2 := Lib.hid (grown_trans G1.out g2)
    clear s2 g2 K1 G1
    go_wp2
    go_ret
    exact ⟨x, rfl, x0, x1, S2.out, G2.out⟩

def Four (w : World) (P : Int → Int → Int → Int → Prop) (e : Ending) (w' : World) : Prop := ∃ x y z u : Int, e = .returned (.tuple #[.int .i64 x, .int .i64 y, .int .i64 z, .int .i64 u]) ∧ P x y z u ∧ Below w.heap.size w w'
def TwoDg (w : World) (e : Ending) (w' : World) : Prop :=
  ∃ (x y df dt : Int) (a' : Option Addr) (n c' : Nat) (ys : List Int), e = .returned (.tuple #[.int .i64 x, .int .i64 y, .agg #[.int .i64 df, .int .i64 dt, .slice a' n c']]) ∧ ((-1 ≤ x ∧ x ≤ 4294967296) ∧ (-1 ≤ y ∧ y ≤ 4294967296)) ∧ ((-1 ≤ df ∧ df ≤ 65536) ∧ (-1 ≤ dt ∧ dt ≤ 65536)) ∧ n ≤ 561 ∧ Own w' w.heap.size a' n c' ys ∧ Below w.heap.size w w'
end Go.Proofs.Yteaiemckcepphaa

namespace Go.Proofs.Yteaiemckcepphaa
open Go.ChangeShapes Go.WideShapes Go.ChangeAt Go.RowKit

theorem lwBig_f (a : Option Addr) (len cap : Nat) (w : World) (hl : len ≤ 1048576) : Calls Try.prog 12 #[.slice a len cap] w fun e w' => e = .returned (.bool false) ∧ w = w' := by
  have e1 : decide ((1048576 : Int) < len) = false := decide_eq_false (by omega)
  go_enter Try.func12, Try.ntmps12
  go_wp2
  go_ret
  exact ⟨rfl, rfl⟩
theorem lwBig_t (a : Option Addr) (len cap : Nat) (w : World) (hl : ¬ len ≤ 1048576) : Calls Try.prog 12 #[.slice a len cap] w fun e w' => e = .returned (.bool true) ∧ w = w' := by
  have e1 : decide ((1048576 : Int) < len) = true := decide_eq_true (by omega)
  go_enter Try.func12, Try.ntmps12
  go_wp2
  go_ret
  exact ⟨rfl, rfl⟩

theorem keepc {W w1 : World} (hb : Below W.heap.size W w1) {p : Addr} {u : Value} (h : W.cell? p = some u) : w1.cell? p = some u := (hb.cell (World.block_lt_of_cell? _ _ h)).trans h

theorem add_dist {f t : Int} (hf : sqB f = true) (ht : sqB t = true) : addC f (dist f t) = 0 ∧ addV f (dist f t) = t := by
  have hd := dist_bd f t
  have hi : inB (dist f t) (-4294967296) 4294967296 = true := in_t (by omega)
  simp only [sqB, decide_eq_true_eq] at hf ht
  refine ⟨by simp only [addC, sq_t hf, hi, Bool.and_self, if_true], ?_⟩
  simp only [addV, sq_t hf, hi, Bool.and_self, if_true]
  unfold dist
  split <;> omega
theorem dist_back {f t : Int} (hf : sqB f = true) (ht : sqB t = true) (h : -2147483648 < dist f t) : distC t f = 0 ∧ distV t f = -dist f t := by
  refine ⟨by simp only [distC, hf, ht, Bool.and_self, if_true], ?_⟩
  simp only [distV, hf, ht, Bool.and_self, if_true]
  simp only [sqB, decide_eq_true_eq] at hf ht
  unfold dist at *
  split at h <;> (split <;> omega)
theorem add_back {s n : Int} (h : addC s n = 0) : addC (addV s n) (-n) = 0 ∧ addV (addV s n) (-n) = s := by
  unfold addC at h
  split at h
  · rename_i hk
    have hv : addV s n = (s + n) % 4294967296 := by unfold addV; rw [if_pos hk]
    rw [Bool.and_eq_true] at hk
    have h1 := hk.1
    have h2 := hk.2
    simp only [sqB, inB, decide_eq_true_eq] at h1 h2
    have k1 : sqB (addV s n) = true := sq_t (by rw [hv]; omega)
    have k2 : inB (-n) (-4294967296) 4294967296 = true := in_t (by omega)
    refine ⟨by simp only [addC, k1, k2, Bool.and_self, if_true], ?_⟩
    have e : addV (addV s n) (-n) = (addV s n + -n) % 4294967296 := by
      simp only [addV, k1, k2, Bool.and_self, if_true] at *
    rw [e, hv]; omega
  · omega

end Go.Proofs.Yteaiemckcepphaa

namespace Go.Proofs.Yteaiemckcepphaa
open Go.ChangeShapes Go.WideShapes Go.ChangeAt Go.RowKit

theorem own_litB1 (w : World) (base : Nat) (x : Int) (hx : 0 ≤ x ∧ x ≤ 255) (hb : base ≤ w.heap.size) : Own (w.alloc (.cells #[.int .u8 x] 5)) base (some ⟨w.heap.size, 0, none⟩) 1 1 [x] :=
  ⟨World.ownsRow_lit w #[.int .u8 x] 1 hb (by unfold maxLen; omega) rfl, by intro n hn; simp at hn; omega⟩
/-- some bytes that can be read -/
def SomeRd (B N : Nat) (w : World) (e : Ending) (w' : World) : Prop :=
  ∃ (a' : Option Addr) (n c' : Nat) (ys : List Int), e = .returned (.slice a' n c') ∧ n ≤ N ∧ Rd w' a' n c' ys ∧ Below B w w'

set_option maxRecDepth 20000 in
set_option maxHeartbeats 2000000 in
theorem l1Spoil_any (b t g B : Nat) (a : Option Addr) (len cap : Nat) (zs : List Int) (l c base : Nat) (ys : List Int) (w : World) (h : Src w b t a len cap zs) (ho : Own w base (some ⟨g, 0, none⟩) l c ys) (hgb : g ≠ b)
    (hB1 : B ≤ b) (hB2 : B ≤ base) (h1 : 1 ≤ l) (h2 : l ≤ 100) (ht : t ≤ 900000) (hl : len ≤ 1048576) :
    Calls Try.prog 65 #[.pointer (some ⟨b, 0, none⟩), .slice (some ⟨g, 0, none⟩) l c] w (SomeRd B 101 w) := by
  have hgl := ho.lt _ rfl
  dsimp only at hgl
  have hbl := h.box.lt
  have K0 := Lib.hid (l1Next_any b t 8 a len cap zs w h (by omega) hl (by omega))
  have O0 := Lib.hid ho
  have hm := ho.max
  clear h ho
  go_enter Try.func65, Try.ntmps65
  go_wp2_with fail
  refine K0.out.mono ?_
  rintro e w1 ⟨r, rfl, hr0, hr1, s1, g1⟩
  have hr2 := hr1 (by omega)
  have S1 := Lib.hid s1
  have O1 := Lib.hid (O0.out.grown g1 (by rintro x hx; cases hx; simpa using hgb))
  have B1 := Lib.hid (below_of_grown g1 (show B ≤ w.heap.size by omega) (fun k e => by cases e; exact hB1))
  have z1 := Lib.hid g1.size
  clear s1 g1 O0 hr1 K0
  obtain e0 | e0 | e0 | e0 : r = 0 ∨ r = 1 ∨ r = 2 ∨ 3 ≤ r := by omega
  · subst e0
    have l1 : decide ((0 : Int) < l) = true := decide_eq_true (by omega)
    have K1 := Lib.hid (fun W (hS : Src W b (t + 1) a len cap zs) => l1Next_any b (t + 1) l a len cap zs W hS (by omega) hl (by omega))
    have K3 := Lib.hid (fun W (hS : Src W b (t + 2) a len cap zs) => l1Next_any b (t + 2) 255 a len cap zs W hS (by omega) hl (by omega))
    have SD := Lib.hid (S1.out.below (Below.refl _ w1).drew)
    have OD := Lib.hid O1.out.drew
    have BD := Lib.hid B1.out.drew
    clear S1 O1 B1 l1
    go_wp2_with fail
    refine wp_region_held_drew (S := fun _ => True) (by kernel_rfl) trivial (fun hHeld => ?_)
    refine wpAnyH_take (i := 0) (v := ?_) (by simp only [List.getElem?_toArray, List.getElem?_cons_zero]; exact rfl) (by kernel_rfl) (by kernel_rfl) (by kernel_rfl) (by exact fun _ _ _ h => h) (Or.inl ⟨by rfl, ?_⟩) hHeld ?_
    rotate_left
    · intro w' hSw
      go_simp
      try with_reducible rfl
    try simp only [Act.put, List.setIfInBounds_toArray, List.set_cons_zero, List.set_cons_succ]
    refine wpAnyH_take (i := 1) (v := ?_) (by simp only [List.getElem?_toArray, List.getElem?_cons_zero, List.getElem?_cons_succ]; exact rfl) (by kernel_rfl) (by kernel_rfl) (by kernel_rfl) (by exact fun _ _ _ h => h) (Or.inl ⟨by rfl, ?_⟩) hHeld ?_
    rotate_left
    · intro w' hSw
      go_simp
      try with_reducible rfl
    try simp only [Act.put, List.setIfInBounds_toArray, List.set_cons_zero, List.set_cons_succ]
    refine wpAnyH_take (i := 2) (v := ?_) (by simp only [List.getElem?_toArray, List.getElem?_cons_zero, List.getElem?_cons_succ]; exact rfl) (by kernel_rfl) (by kernel_rfl) (by kernel_rfl) (by exact fun _ _ _ h => h) (Or.inl ⟨by rfl, ?_⟩) hHeld ?_
    rotate_left
    · intro w' hSw
      go_simp
      try with_reducible rfl
    try simp only [Act.put, List.setIfInBounds_toArray, List.set_cons_zero, List.set_cons_succ]
    refine wpAnyH_take (i := 3) (v := ?_) (by simp only [List.getElem?_toArray, List.getElem?_cons_zero, List.getElem?_cons_succ]; exact rfl) (by kernel_rfl) (by kernel_rfl) (by kernel_rfl) (by exact fun _ _ _ h => h) (Or.inl ⟨by rfl, ?_⟩) hHeld ?_
    rotate_left
    · intro w' hSw
      go_simp
      try with_reducible rfl
    try simp only [Act.put, List.setIfInBounds_toArray, List.set_cons_zero, List.set_cons_succ]
    refine wpAnyH_take (i := 7) (v := ?_) (by simp only [List.getElem?_toArray, List.getElem?_cons_zero, List.getElem?_cons_succ]; exact rfl) (by kernel_rfl) (by kernel_rfl) (by kernel_rfl) (by exact fun _ _ _ h => h) (Or.inl ⟨by rfl, ?_⟩) hHeld ?_
    rotate_left
    · intro w' hSw
      go_simp
      try with_reducible rfl
    try simp only [Act.put, List.setIfInBounds_toArray, List.set_cons_zero, List.set_cons_succ]
    refine wpAnyH_ready (rs := [4]) (by kernel_rfl) (by simp) ?_
    refine (AllReadyH.cons (by simp only [List.getElem?_toArray, List.getElem?_cons_zero, List.getElem?_cons_succ]; exact rfl) (fun K hK => ?_) AllReadyH.nil)
    refine want_none (by exact rfl) ?_
    go_wp2_with fail
    refine (K1.out _ SD.out).mono ?_
    rintro e w3 ⟨r2, rfl, hq0, hq1, s3, g3⟩
    have hq2 := hq1 (by omega)
    obtain ⟨k, rfl⟩ := Int.eq_ofNat_of_zero_le hq0
    have hk : k < l := by omega
    have hki : (k : Int) < l := by omega
    have S3 := Lib.hid s3
    have O3 := Lib.hid (OD.out.grown g3 (by rintro x hx; cases hx; simpa using hgb))
    have B3 := Lib.hid (BD.out.trans (below_of_grown g3 (show B ≤ w1.drew.heap.size by have := z1.out; show B ≤ w1.heap.size; omega) (fun k e => by cases e; exact hB1)))
    have z3 := Lib.hid (show w.heap.size ≤ w3.heap.size from Nat.le_trans z1.out g3.size)
    clear s3 g3 OD BD SD
    go_wp2_with fail
    refine hK.out _ _ trivial (fun hHeld => ?_)
    clear hK K
    try simp only [Act.put, List.setIfInBounds_toArray, List.set_cons_zero, List.set_cons_succ]
    refine wpAnyH_take (i := 5) (v := ?_) (by simp only [List.getElem?_toArray, List.getElem?_cons_zero, List.getElem?_cons_succ]; exact rfl) (by kernel_rfl) (by kernel_rfl) (by kernel_rfl) (by exact fun _ _ _ h => h) (Or.inl ⟨by rfl, ?_⟩) hHeld ?_
    rotate_left
    · intro w' hSw
      go_simp
      try with_reducible rfl
    try simp only [Act.put, List.setIfInBounds_toArray, List.set_cons_zero, List.set_cons_succ]
    refine wpAnyH_ready (rs := [6, 8]) (by kernel_rfl) (by simp) ?_
    refine (AllReadyH.cons (by simp only [List.getElem?_toArray, List.getElem?_cons_zero, List.getElem?_cons_succ]; exact rfl) (fun K hK => ?_) (AllReadyH.cons (by simp only [List.getElem?_toArray, List.getElem?_cons_zero, List.getElem?_cons_succ]; exact rfl) (fun K hK => ?_) AllReadyH.nil))
    · skip
      have ck := O3.out.cellAt k hk
      refine want_none (by exact rfl) ?_
      go_wp2_with fail
      refine hK.out _ _ trivial (fun hHeld => ?_)
      clear hK K
      try simp only [Act.put, List.setIfInBounds_toArray, List.set_cons_zero, List.set_cons_succ]
      clear ck
      refine wpAnyH_ready (rs := [8]) (by kernel_rfl) (by simp) ?_
      refine (AllReadyH.cons (by simp only [List.getElem?_toArray, List.getElem?_cons_zero, List.getElem?_cons_succ]; exact rfl) (fun K hK => ?_) AllReadyH.nil)
      refine want_none (by exact rfl) ?_
      go_wp2_with fail
      refine (K3.out _ S3.out).mono ?_
      rintro e w4 ⟨r3, rfl, hp0, hp1, s4, g4⟩
      have hp2 := hp1 (by omega)
      have hw1 : IntKind.i64.wrap (1 + r3) = 1 + r3 := IntWalk.i64_in _ (by omega)
      have uw := u8_in (1 + r3) ⟨by omega, by omega⟩
      have O4 := Lib.hid (O3.out.grown g4 (by rintro x hx; cases hx; simpa using hgb))
      have B4 := Lib.hid (B3.out.trans (below_of_grown g4 (show B ≤ w3.heap.size by have := z3.out; omega) (fun k e => by cases e; exact hB1)))
      clear s4 g4 O3 B3 S3
      go_wp2_with fail
      refine hK.out _ _ trivial (fun hHeld => ?_)
      clear hK K
      try simp only [Act.put, List.setIfInBounds_toArray, List.set_cons_zero, List.set_cons_succ]
      refine wpAnyH_take (i := 9) (v := ?_) (by simp only [List.getElem?_toArray, List.getElem?_cons_zero, List.getElem?_cons_succ]; exact rfl) (by kernel_rfl) (by kernel_rfl) (by kernel_rfl) (by exact fun _ _ _ h => h) (Or.inl ⟨by rfl, ?_⟩) hHeld ?_
      rotate_left
      · intro w' hSw
        go_simp
        try with_reducible rfl
      try simp only [Act.put, List.setIfInBounds_toArray, List.set_cons_zero, List.set_cons_succ]
      refine wpAnyH_take (i := 10) (v := ?_) (by simp only [List.getElem?_toArray, List.getElem?_cons_zero, List.getElem?_cons_succ]; exact rfl) (by kernel_rfl) (by kernel_rfl) (by kernel_rfl) (by exact fun _ _ _ h => h) (Or.inl ⟨by rfl, ?_⟩) hHeld ?_
      rotate_left
      · intro w' hSw
        go_simp
        try with_reducible rfl
      try simp only [Act.put, List.setIfInBounds_toArray, List.set_cons_zero, List.set_cons_succ]
      refine wpAnyH_take (i := 11) (v := ?_) (by simp only [List.getElem?_toArray, List.getElem?_cons_zero, List.getElem?_cons_succ]; exact rfl) (by kernel_rfl) (by kernel_rfl) (by kernel_rfl) (by exact fun _ _ _ h => h) (Or.inl ⟨by rfl, ?_⟩) hHeld ?_
      rotate_left
      · intro w' hSw
        go_simp
        try with_reducible rfl
      try simp only [Act.put, List.setIfInBounds_toArray, List.set_cons_zero, List.set_cons_succ]
      refine wpAnyH_take (i := 12) (v := ?_) (by simp only [List.getElem?_toArray, List.getElem?_cons_zero, List.getElem?_cons_succ]; exact rfl) (by kernel_rfl) (by kernel_rfl) (by kernel_rfl) (by exact fun _ _ _ h => h) (Or.inl ⟨by rfl, ?_⟩) hHeld ?_
      rotate_left
      · intro w' hSw
        go_simp
        try with_reducible rfl
      try simp only [Act.put, List.setIfInBounds_toArray, List.set_cons_zero, List.set_cons_succ]
      refine wpAnyH_ready (rs := [13]) (by kernel_rfl) (by simp) ?_
      refine (AllReadyH.cons (by simp only [List.getElem?_toArray, List.getElem?_cons_zero, List.getElem?_cons_succ]; exact rfl) (fun K hK => ?_) AllReadyH.nil)
      have ck := O4.out.cellAt k hk
      have fk := O4.out.frozenAt k
      have OS := O4.out.set k (bits .xor .u8 (ys.getD k 0) (1 + r3)) (bits_within .xor .u8 _ _)
      have R5 := Lib.hid OS.1.rd
      have B5 := Lib.hid (B4.out.trans (below_of_grown OS.2 (show B ≤ w4.heap.size by have := z1.out; have := B4.out.size; omega) (fun k e => by cases e; omega)))
      clear OS
      refine want_none (by exact rfl) ?_
      go_wp2_with fail
      clear ck fk O4 B4
      refine hK.out _ _ trivial (fun hHeld => ?_)
      clear hK K
      try simp only [Act.put]
      refine wpAnyH_done (by kernel_rfl) ?_ _
      go_wp2
      go_ret
      exact ⟨_, _, _, _, rfl, by omega, R5.out, B5.out⟩
    · skip
      refine want_none (by exact rfl) ?_
      go_wp2_with fail
      refine (K3.out _ S3.out).mono ?_
      rintro e w4 ⟨r3, rfl, hp0, hp1, s4, g4⟩
      have hp2 := hp1 (by omega)
      have hw1 : IntKind.i64.wrap (1 + r3) = 1 + r3 := IntWalk.i64_in _ (by omega)
      have uw := u8_in (1 + r3) ⟨by omega, by omega⟩
      have O4 := Lib.hid (O3.out.grown g4 (by rintro x hx; cases hx; simpa using hgb))
      have B4 := Lib.hid (B3.out.trans (below_of_grown g4 (show B ≤ w3.heap.size by have := z3.out; omega) (fun k e => by cases e; exact hB1)))
      clear s4 g4 O3 B3 S3
      go_wp2_with fail
      refine hK.out _ _ trivial (fun hHeld => ?_)
      clear hK K
      try simp only [Act.put, List.setIfInBounds_toArray, List.set_cons_zero, List.set_cons_succ]
      refine wpAnyH_take (i := 9) (v := ?_) (by simp only [List.getElem?_toArray, List.getElem?_cons_zero, List.getElem?_cons_succ]; exact rfl) (by kernel_rfl) (by kernel_rfl) (by kernel_rfl) (by exact fun _ _ _ h => h) (Or.inl ⟨by rfl, ?_⟩) hHeld ?_
      rotate_left
      · intro w' hSw
        go_simp
        try with_reducible rfl
      try simp only [Act.put, List.setIfInBounds_toArray, List.set_cons_zero, List.set_cons_succ]
      refine wpAnyH_take (i := 10) (v := ?_) (by simp only [List.getElem?_toArray, List.getElem?_cons_zero, List.getElem?_cons_succ]; exact rfl) (by kernel_rfl) (by kernel_rfl) (by kernel_rfl) (by exact fun _ _ _ h => h) (Or.inl ⟨by rfl, ?_⟩) hHeld ?_
      rotate_left
      · intro w' hSw
        go_simp
        try with_reducible rfl
      try simp only [Act.put, List.setIfInBounds_toArray, List.set_cons_zero, List.set_cons_succ]
      refine wpAnyH_ready (rs := [6]) (by kernel_rfl) (by simp) ?_
      refine (AllReadyH.cons (by simp only [List.getElem?_toArray, List.getElem?_cons_zero, List.getElem?_cons_succ]; exact rfl) (fun K hK => ?_) AllReadyH.nil)
      have ck := O4.out.cellAt k hk
      refine want_none (by exact rfl) ?_
      go_wp2_with fail
      refine hK.out _ _ trivial (fun hHeld => ?_)
      clear hK K
      try simp only [Act.put, List.setIfInBounds_toArray, List.set_cons_zero, List.set_cons_succ]
      clear ck
      refine wpAnyH_take (i := 11) (v := ?_) (by simp only [List.getElem?_toArray, List.getElem?_cons_zero, List.getElem?_cons_succ]; exact rfl) (by kernel_rfl) (by kernel_rfl) (by kernel_rfl) (by exact fun _ _ _ h => h) (Or.inl ⟨by rfl, ?_⟩) hHeld ?_
      rotate_left
      · intro w' hSw
        go_simp
        try with_reducible rfl
      try simp only [Act.put, List.setIfInBounds_toArray, List.set_cons_zero, List.set_cons_succ]
      refine wpAnyH_take (i := 12) (v := ?_) (by simp only [List.getElem?_toArray, List.getElem?_cons_zero, List.getElem?_cons_succ]; exact rfl) (by kernel_rfl) (by kernel_rfl) (by kernel_rfl) (by exact fun _ _ _ h => h) (Or.inl ⟨by rfl, ?_⟩) hHeld ?_
      rotate_left
      · intro w' hSw
        go_simp
        try with_reducible rfl
      try simp only [Act.put, List.setIfInBounds_toArray, List.set_cons_zero, List.set_cons_succ]
      refine wpAnyH_ready (rs := [13]) (by kernel_rfl) (by simp) ?_
      refine (AllReadyH.cons (by simp only [List.getElem?_toArray, List.getElem?_cons_zero, List.getElem?_cons_succ]; exact rfl) (fun K hK => ?_) AllReadyH.nil)
      have ck := O4.out.cellAt k hk
      have fk := O4.out.frozenAt k
      have OS := O4.out.set k (bits .xor .u8 (ys.getD k 0) (1 + r3)) (bits_within .xor .u8 _ _)
      have R5 := Lib.hid OS.1.rd
      have B5 := Lib.hid (B4.out.trans (below_of_grown OS.2 (show B ≤ w4.heap.size by have := z1.out; have := B4.out.size; omega) (fun k e => by cases e; omega)))
      clear OS
      refine want_none (by exact rfl) ?_
      go_wp2_with fail
      clear ck fk O4 B4
      refine hK.out _ _ trivial (fun hHeld => ?_)
      clear hK K
      try simp only [Act.put]
      refine wpAnyH_done (by kernel_rfl) ?_ _
      go_wp2
      go_ret
      exact ⟨_, _, _, _, rfl, by omega, R5.out, B5.out⟩
  · subst e0
    have K1 := Lib.hid (l1Next_any b (t + 1) 3 a len cap zs w1 S1.out (by omega) hl (by omega))
    go_wp2_with fail
    refine K1.out.mono ?_
    rintro e w2 ⟨r2, rfl, hq0, hq1, s2, g2⟩
    have hq2 := hq1 (by omega)
    have u2 := u8_in r2 ⟨hq0, by omega⟩
    have O2 := Lib.hid (O1.out.grown g2 (by rintro x hx; cases hx; simpa using hgb))
    have B2 := Lib.hid (B1.out.trans (below_of_grown g2 (show B ≤ w1.heap.size by have := z1.out; omega) (fun k e => by cases e; exact hB1)))
    have L2 := Lib.hid (own_litB1 w2 w2.heap.size r2 ⟨hq0, by omega⟩ (Nat.le_refl _))
    have z2 := Lib.hid (Nat.le_trans z1.out g2.size)
    clear s2 g2 K1 hq1 O1 B1
    go_wp2_with (at_builtin; refine append_bytes _ rfl (.tmp 27) (.tmp 31) rfl base _ _ _ _ rfl (O2.out.alloc _) _ _ _ _ rfl L2.out.rd (by have := z2.out; simp; omega) (by omega) ?_; intro a3 c3 w3 o3 g3; have P3 := Lib.hid o3; have B3 := Lib.hid ((B2.out.alloc (by have := z2.out; omega) _).grown g3 (by have := z2.out; simp; omega) (fun k e => by simp [Value.ownBlock] at e; omega)); clear o3 g3 O2 L2)
    go_ret
    exact ⟨_, _, _, _, rfl, by omega, P3.out.rd, B3.out⟩
  · subst e0
    have hw : IntKind.i64.wrap ((l : Int) + 1) = (l : Int) + 1 := IntWalk.i64_in _ (by omega)
    have K1 := Lib.hid (l1Next_any b (t + 1) (l + 1) a len cap zs w1 S1.out (by omega) hl (by omega))
    go_wp2_with fail
    refine K1.out.mono ?_
    rintro e w2 ⟨r2, rfl, hq0, hq1, s2, g2⟩
    have hq2 := hq1 (by omega)
    obtain ⟨k, rfl⟩ := Int.eq_ofNat_of_zero_le hq0
    have O2 := O1.out.grown g2 (by rintro x hx; cases hx; simpa using hgb)
    have R2 := Lib.hid (O2.rd.upto k (by omega))
    have B2 := Lib.hid (B1.out.trans (below_of_grown g2 (show B ≤ w1.heap.size by have := z1.out; omega) (fun k e => by cases e; exact hB1)))
    have j1 : (k : Int) ≤ c := by omega
    have j2 : k ≤ c := by omega
    clear s2 g2 K1 hq1 O1 B1 O2 hw
    go_wp2
    go_ret
    exact ⟨_, _, _, _, rfl, by omega, R2.out, B2.out⟩
  · have e1 : (r == 0) = false := by simp; omega
    have e2 : (r == 1) = false := by simp; omega
    have e3 : (r == 2) = false := by simp; omega
    have R1 := Lib.hid O1.out.rd
    clear O1
    go_wp2
    go_ret
    exact ⟨_, _, _, _, rfl, by omega, R1.out, B1.out⟩
end Go.Proofs.Yteaiemckcepphaa

namespace Go.Proofs.Yteaiemckcepphaa
open Go.ChangeShapes Go.WideShapes Go.ChangeAt Go.RowKit

theorem lwSame_t (a b : Option Addr) (la ca lb cb : Nat) (zs : List Int) (w : World) (ha : Rd w a la ca zs) (hb : Rd w b lb cb zs) :
    Calls Try.prog 24 #[.slice a la ca, .slice b lb cb] w fun e w' => e = .returned (.bool true) ∧ w = w' := by
  have h1 := conv_rd ha
  have h2 := conv_rd hb
  generalize strOfNums zs = t at *
  clear ha hb
  go_enter Try.func24, Try.ntmps24
  go_wp2
  go_ret
  exact ⟨rfl, rfl⟩

theorem mem10 {x a b c d e f g h i j lo hi : Int} (hx : x ∈ [a, b, c, d, e, f, g, h, i, j]) (k : lo ≤ a ∧ a ≤ hi ∧ lo ≤ b ∧ b ≤ hi ∧ lo ≤ c ∧ c ≤ hi ∧ lo ≤ d ∧ d ≤ hi ∧ lo ≤ e ∧ e ≤ hi ∧ lo ≤ f ∧ f ≤ hi ∧ lo ≤ g ∧ g ≤ hi ∧ lo ≤ h ∧ h ≤ hi ∧ lo ≤ i ∧ i ≤ hi ∧ lo ≤ j ∧ j ≤ hi) : lo ≤ x ∧ x ≤ hi := by
  simp only [List.mem_cons, List.not_mem_nil, or_false] at hx
  rcases hx with rfl | rfl | rfl | rfl | rfl | rfl | rfl | rfl | rfl | rfl <;> omega

/-- some bytes, and two numbers, were drawn -/
def BytesTwo (w : World) (e : Ending) (w' : World) : Prop := ∃ (a' : Option Addr) (l' c' : Nat) (ys : List Int) (x y : Int), e = .returned (.tuple #[.slice a' l' c', .int .i64 x, .int .i64 y]) ∧ Own w' w.heap.size a' l' c' ys ∧ l' ≤ 12 ∧ 0 ≤ y ∧ y ≤ 7 ∧ Below w.heap.size w w'

end Go.Proofs.Yteaiemckcepphaa

namespace Go.Proofs.Yteaiemckcepphaa
open Go.ChangeShapes Go.WideShapes Go.ChangeAt Go.RowKit

set_option maxRecDepth 20000 in
set_option maxHeartbeats 1000000 in
theorem lwAt_any (i n : Nat) (a : Option Addr) (len cap : Nat) (zs : List Int) (w : World) (h : Rd w a len cap zs) (hi : i ≤ 100) (hn : 2 ≤ n) (hn2 : n ≤ 200) (hl : len ≤ 1048576) :
    Calls Try.prog 25 #[.slice a len cap, .int .i64 i, .int .i64 n] w fun e w' => ∃ r : Nat, e = .returned (.int .i64 r) ∧ r < n ∧ Below w.heap.size w w' := by
  have HR := Lib.hid h
  by_cases h2 : len = 0
  · subst h2
    clear h
    have k1 : 0 ≤ (i : Int) * 7 % n := Int.emod_nonneg _ (by omega)
    have k2 : (i : Int) * 7 % n < n := Int.emod_lt_of_pos _ (by omega)
    go_enter Try.func25, Try.ntmps25
    go_wp2
    go_ret
    refine ⟨((i : Int) * 7 % n).toNat, ret_i (by omega), by omega, Below.refl _ _⟩
  · rcases h.cells with h0 | ⟨bb, off, rfl, hc⟩
    · exact absurd h0 h2
    have hp : (0 : Int) < len := by omega
    have hne : ((len : Int) == 0) = false := by simp; omega
    have m1 : (0 : Int) ≤ (i : Int) % len := Int.emod_nonneg _ (by omega)
    have m2 : (i : Int) % len < len := Int.emod_lt_of_pos _ hp
    have m3 : ((i : Int) % len).toNat = i % len := by rw [← Int.natCast_emod]; exact Int.toNat_natCast _
    have hcm := hc (i % len) (Nat.mod_lt _ (by omega))
    have hbd := h.getD_bd (i % len)
    generalize zs.getD (i % len) 0 = x at *
    clear hc h
    go_enter Try.func25, Try.ntmps25
    go_wp2
    go_quiet (fail)
    obtain ⟨v, hv, hv1, hv2⟩ : ∃ v, wrap64 (x + wrap64 (wrap64 ((i : Int) / len) * 3)) = v ∧ 0 ≤ v ∧ v ≤ 1000 := by
      have d1 : 0 ≤ (i : Int) / len := Int.ediv_nonneg (by omega) (by omega)
      have d2 : (i : Int) / len ≤ i := Int.ediv_le_self _ (by omega)
      refine ⟨x + (i : Int) / len * 3, ?_, by omega, by omega⟩
      rw [IntWalk.wrap64_in ((i : Int) / len) (by omega), IntWalk.wrap64_in ((i : Int) / len * 3) (by omega), IntWalk.wrap64_in _ (by omega)]
    rw [hv]
    have B2 := Lib.hid (belowN (Below.refl w.heap.size w) nq)
    generalize w.drewN nq = W2 at *
    clear hv hcm m1 m2 m3 hbd
    have k1 : 0 ≤ v % n := Int.emod_nonneg _ (by omega)
    have k2 : v % n < n := Int.emod_lt_of_pos _ (by omega)
    go_wp2
    go_ret
    exact ⟨(v % n).toNat, ret_i (by omega), by omega, B2.out⟩
set_option maxRecDepth 20000 in
set_option maxHeartbeats 1000000 in
theorem lwAt_big (i n : Nat) (a : Option Addr) (len cap : Nat) (zs : List Int) (w : World) (h : Rd w a len cap zs) (hi : i ≤ 100) (hn : 200 < n) (hn2 : n ≤ 1000000) (hl : len ≤ 1048576) :
    Calls Try.prog 25 #[.slice a len cap, .int .i64 i, .int .i64 n] w fun e w' => ∃ r : Nat, e = .returned (.int .i64 r) ∧ r < n ∧ Below w.heap.size w w' := by
  have HR := Lib.hid h
  by_cases h2 : len = 0
  · subst h2
    clear h
    have k1 : 0 ≤ (i : Int) * 7 % n := Int.emod_nonneg _ (by omega)
    have k2 : (i : Int) * 7 % n < n := Int.emod_lt_of_pos _ (by omega)
    go_enter Try.func25, Try.ntmps25
    go_wp2
    go_ret
    refine ⟨((i : Int) * 7 % n).toNat, ret_i (by omega), by omega, Below.refl _ _⟩
  · rcases h.cells with h0 | ⟨bb, off, rfl, hc⟩
    · exact absurd h0 h2
    have hp : (0 : Int) < len := by omega
    have hne : ((len : Int) == 0) = false := by simp; omega
    have m1 : (0 : Int) ≤ (i : Int) % len := Int.emod_nonneg _ (by omega)
    have m2 : (i : Int) % len < len := Int.emod_lt_of_pos _ hp
    have m3 : ((i : Int) % len).toNat = i % len := by rw [← Int.natCast_emod]; exact Int.toNat_natCast _
    have hcm := hc (i % len) (Nat.mod_lt _ (by omega))
    have hbd := h.getD_bd (i % len)
    generalize zs.getD (i % len) 0 = x at *
    clear hc h
    go_enter Try.func25, Try.ntmps25
    go_wp2
    go_quiet (fail)
    obtain ⟨v, hv, hv1, hv2⟩ : ∃ v, wrap64 (x + wrap64 (wrap64 ((i : Int) / len) * 3)) = v ∧ 0 ≤ v ∧ v ≤ 1000 := by
      have d1 : 0 ≤ (i : Int) / len := Int.ediv_nonneg (by omega) (by omega)
      have d2 : (i : Int) / len ≤ i := Int.ediv_le_self _ (by omega)
      refine ⟨x + (i : Int) / len * 3, ?_, by omega, by omega⟩
      rw [IntWalk.wrap64_in ((i : Int) / len) (by omega), IntWalk.wrap64_in ((i : Int) / len * 3) (by omega), IntWalk.wrap64_in _ (by omega)]
    rw [hv]
    have B2 := Lib.hid (belowN (Below.refl w.heap.size w) nq)
    generalize w.drewN nq = W2 at *
    clear hv hcm m1 m2 m3 hbd
    rcases (HR.out.below B2.out).cells with h0' | ⟨bb', off', e, hc'⟩
    · exact absurd h0' h2
    cases e
    have m1 : (0 : Int) ≤ ((i : Int) + 1) % len := Int.emod_nonneg _ (by omega)
    have m2 : ((i : Int) + 1) % len < len := Int.emod_lt_of_pos _ hp
    have m3 : (((i : Int) + 1) % len).toNat = (i + 1) % len := by rw [← Int.natCast_one, ← Int.natCast_add, ← Int.natCast_emod]; exact Int.toNat_natCast _
    have hcm := hc' ((i + 1) % len) (Nat.mod_lt _ (by omega))
    have hbd := HR.out.getD_bd ((i + 1) % len)
    generalize zs.getD ((i + 1) % len) 0 = y at *
    clear hc'
    have n1 : (0 : Int) ≤ (i : Int) + 1 := by omega
    obtain ⟨v2, hv2e⟩ : ∃ v2, v2 = v * 251 + y := ⟨_, rfl⟩
    have HV := Lib.hid hv2e
    clear hv2e
    have k1 : 0 ≤ (v * 251 + y) % n := Int.emod_nonneg _ (by omega)
    have k2 : (v * 251 + y) % n < n := Int.emod_lt_of_pos _ (by omega)
    go_wp2
    go_ret
    exact ⟨((v * 251 + y) % n).toNat, ret_i (by omega), by omega, B2.out⟩
theorem lwAt_all (i n : Nat) (a : Option Addr) (len cap : Nat) (zs : List Int) (w : World) (h : Rd w a len cap zs) (hi : i ≤ 100) (hn : 2 ≤ n) (hn2 : n ≤ 1000000) (hl : len ≤ 1048576) :
    Calls Try.prog 25 #[.slice a len cap, .int .i64 i, .int .i64 n] w fun e w' => ∃ r : Nat, e = .returned (.int .i64 r) ∧ r < n ∧ Below w.heap.size w w' := by
  by_cases hs : n ≤ 200
  · exact lwAt_any i n a len cap zs w h hi hn hs hl
  · exact lwAt_big i n a len cap zs w h hi (by omega) hn2 hl
end Go.Proofs.Yteaiemckcepphaa

namespace Go.Proofs.Yteaiemckcepphaa
open Go.ChangeShapes Go.WideShapes Go.ChangeAt Go.RowKit

/-- these slices read as these bytes -/
def Rs (l : List (Option Addr × Nat × Nat × List Int)) (W : World) : Prop := ∀ x ∈ l, Rd W x.1 x.2.1 x.2.2.1 x.2.2.2
def Kp (bl : List (Nat × TypeId × Array Value)) (rl : List (Option Addr × Nat × Nat × List Int)) (W : World) : Prop := Bs bl W ∧ Rs rl W
theorem Kp.below {bl : List (Nat × TypeId × Array Value)} {rl : List (Option Addr × Nat × Nat × List Int)} {W W' : World} (hb : Below W.heap.size W W') (h : Kp bl rl W) : Kp bl rl W' :=
  ⟨fun x hx => (h.1 x hx).below hb (h.1 x hx).lt, fun x hx => (h.2 x hx).below hb⟩
theorem Kp.box {bl : List (Nat × TypeId × Array Value)} {rl : List (Option Addr × Nat × Nat × List Int)} {W : World} (h : Kp bl rl W) (t : TypeId) (cs : Array Value) : Kp ((W.heap.size, t, cs) :: bl) rl (W.alloc (.cells cs t)) :=
  ⟨fun x hx => by
    rcases List.mem_cons.1 hx with rfl | hx
    · exact Box.new W t cs
    · exact (h.1 x hx).alloc _, fun x hx => (h.2 x hx).alloc _⟩
theorem Kp.rd {bl : List (Nat × TypeId × Array Value)} {rl : List (Option Addr × Nat × Nat × List Int)} {W : World} (h : Kp bl rl W) {a : Option Addr} {l c : Nat} {zs : List Int} (r : Rd W a l c zs) : Kp bl ((a, l, c, zs) :: rl) W :=
  ⟨h.1, fun x hx => by
    rcases List.mem_cons.1 hx with rfl | hx
    · exact r
    · exact h.2 x hx⟩
theorem Kp.drew {bl : List (Nat × TypeId × Array Value)} {rl : List (Option Addr × Nat × Nat × List Int)} {W : World} (h : Kp bl rl W) : Kp bl rl W.drew := h.below (Below.refl _ W).drew
theorem want_yes {o : Oper} {y : Nat → Option Bool} {A B : Prop} (h : Region.wanted o y = true) (hA : A) : if Region.wanted o y = true then A else B := by
  rw [if_pos h]
  exact hA
theorem fld_br0 (w : World) (c : Int) (a : Option Addr) (l k : Nat) : (Instr.field 29 (.agg #[.int .i64 c, .slice a l k]) 0).run Try.prog w = .ok (.int .i64 c) w := by
  simp [Instr.field, asAgg, go_sem]
theorem pow_mod (k : Nat) (hk : k < 8) : (2 ^ k % 256 : Int) = 2 ^ k := by
  obtain rfl | rfl | rfl | rfl | rfl | rfl | rfl | rfl : k = 0 ∨ k = 1 ∨ k = 2 ∨ k = 3 ∨ k = 4 ∨ k = 5 ∨ k = 6 ∨ k = 7 := by omega
  all_goals rfl
end Go.Proofs.Yteaiemckcepphaa
