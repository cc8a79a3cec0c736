/-
  Contracts of slices.Grow of nil and of slices.Concat over slices of bytes: the answer owns an array of its own, and holds the bytes one behind the other.
-/
import Derived.Test.YtimlobhlcmghfaaApp
import Derived.Lib.AppendZeros
namespace Go.Proofs.Ytimlobhlcmghfaa
open Go.ChangeShapes Go.WideShapes Go.ChangeAt Go.RowKit

/-- a slice and the bytes that it reads as -/
structure Sl where
  a : Option Addr
  len : Nat
  cap : Nat
  zs : List Int
def catZ (ss : List Sl) : List Int := ss.flatMap Sl.zs
def sumN : List Sl → Nat
  | [] => 0
  | s :: r => s.len + sumN r
theorem sumN_app : ∀ (a b : List Sl), sumN (a ++ b) = sumN a + sumN b
  | [], b => by simp [sumN]
  | s :: r, b => by simp [sumN, sumN_app r b]; omega
theorem sumN_take_succ (ss : List Sl) (k : Nat) (s : Sl) (h : ss[k]? = some s) : sumN (ss.take (k + 1)) = sumN (ss.take k) + s.len := by
  rw [List.take_add_one, h, sumN_app]
  simp [sumN]
theorem sumN_take_le (ss : List Sl) (k : Nat) : sumN (ss.take k) ≤ sumN ss := by
  have := sumN_app (ss.take k) (ss.drop k)
  rw [List.take_append_drop] at this
  omega
theorem catZ_take_succ (ss : List Sl) (k : Nat) (s : Sl) (h : ss[k]? = some s) : catZ (ss.take (k + 1)) = catZ (ss.take k) ++ s.zs := by
  unfold catZ
  rw [List.take_add_one, h]
  simp
/-- the slices lie one behind the other in the block g -/
def Sls (w : World) (g : Nat) (ss : List Sl) : Prop := ∀ i s, ss[i]? = some s → w.cell? ⟨g, i, none⟩ = some (.slice s.a s.len s.cap) ∧ Rd w s.a s.len s.cap s.zs
def FreshA (w : World) (zs : List Int) (e : Ending) (w' : World) : Prop :=
  ∃ a' l' c', e = .returned (.slice a' l' c') ∧ Own w' w.heap.size a' l' c' zs ∧ Below w.heap.size w w'

theorem keepB' {w w' : World} {p : Addr} {u : Value} (hb : Below w.heap.size w w') (h : w.cell? p = some u) : w'.cell? p = some u := (hb.cell (World.block_lt_of_cell? _ _ h)).trans h
theorem own_blk {w : World} {base : Nat} {a : Option Addr} {len cap : Nat} {zs : List Int} (h : Own w base a len cap zs) (k : Nat) (e : (Value.slice a len cap).ownBlock = some k) : base ≤ k := by
  cases a with
  | none => simp [Value.ownBlock] at e
  | some y => simp [Value.ownBlock] at e; have := (h.lt y rfl).1; omega
set_option maxHeartbeats 1000000 in
set_option maxRecDepth 20000 in
theorem grow_any (n : Nat) (w : World) (hn : n ≤ 1099511627776) :
    Calls Try.prog 201 #[.slice none 0 0, .int .i64 n] w fun e w' => ∃ a c, e = .returned (.slice a 0 c) ∧ Own w' w.heap.size a 0 c [] ∧ Below w.heap.size w w' := by
  obtain ⟨i0, hi, hz0, hz1, hz2⟩ := info_parts Try.infoU8
  by_cases h0 : n = 0
  · subst h0
    go_enter Try.func201, Try.ntmps201
    go_wp2
    go_ret
    exact ⟨none, 0, rfl, Own.nil _ _, Below.refl _ _⟩
  · have hrun := Lib.run_append_nil_zeros (P := Try.prog) w 22 3 22 5 i0 (.int .u8 0) .i64 .i64 Try.underlying22 Try.underlying3 hi hz0 n (by omega) (by omega) (by omega) (by rw [hz2]; omega)
    have hge := grownCap_ge w n 0 5
    have hle := grownCap_le_maxLen w n 0 5 (by unfold maxLen; omega)
    have hO : Own (w.drew.alloc (.cells (Builtin.zeroCells (Value.int .u8 0).cells n ++ Builtin.zeroCells (Value.int .u8 0).cells (grownCap w n 0 5 - n)) 5)) w.heap.size (some ⟨w.heap.size, 0, none⟩) 0 (grownCap w n 0 5) [] := by
      refine Own.of_block (cur := (Builtin.zeroCells (Value.int .u8 0).cells n ++ Builtin.zeroCells (Value.int .u8 0).cells (grownCap w n 0 5 - n)).toList) ?_ ?_ (by simp) (Nat.le_refl _) (Nat.zero_le _) hle b8_nil
      · rw [Array.toArray_toList]; exact heap_alloc_new w.drew _
      · rw [Array.length_toList, Array.size_append, size_zeroCells, size_zeroCells]; simp [Value.cells]; omega
    have O := Lib.hid hO
    have B := Lib.hid ((Below.refl w.heap.size w).drew.alloc (Nat.le_refl _) (.cells (Builtin.zeroCells (Value.int .u8 0).cells n ++ Builtin.zeroCells (Value.int .u8 0).cells (grownCap w n 0 5 - n)) 5))
    have R := Lib.hid hrun
    clear hO hrun
    generalize w.drew.alloc (.cells (Builtin.zeroCells (Value.int .u8 0).cells n ++ Builtin.zeroCells (Value.int .u8 0).cells (grownCap w n 0 5 - n)) 5) = w1 at *
    generalize grownCap w n 0 5 = c at *
    have hpos : 0 < n := by omega
    go_enter Try.func201, Try.ntmps201
    go_wp2_with (at_builtin; refine Lib.wpList_append_run _ rfl (.tmp 20) (.tmp 21) _ _ rfl _ _ rfl rfl _ _ R.out ?_)
    go_ret
    exact ⟨_, _, rfl, O.out, B.out⟩

set_option maxHeartbeats 2000000 in
theorem concat_any (g : Nat) (ss : List Sl) (w : World) (hs : Sls w g ss) (hn : ss.length ≤ 1000) (ht : sumN ss ≤ 1048576) :
    Calls Try.prog 190 #[.slice (some ⟨g, 0, none⟩) ss.length ss.length] w (FreshA w (catZ ss)) := by
  have HS := Lib.hid hs
  obtain ⟨n, hN⟩ : ∃ n, n = ss.length := ⟨_, rfl⟩
  rw [← hN] at hn ⊢
  have HN := Lib.hid hN
  have HT := Lib.hid ht
  have G := Lib.hid (fun (m : Nat) (hm : m ≤ 1048576) W => grow_any m W (by omega))
  clear hs hN ht
  go_enter Try.func190, Try.ntmps190
  go_wp2
  go_loopw [3, 11] (fun tot i wr => ∃ (k t : Nat), k ≤ n ∧ i = .int .i64 k ∧ tot = .int .i64 t ∧ t ≤ 1048576 ∧ Hid (t = sumN (ss.take k)) ∧ w = wr) (fun _ i _ => n - (intOf i).toNat)
  case atStart => exact ⟨0, 0, Nat.zero_le _, rfl, rfl, Nat.zero_le _, rfl, rfl⟩
  case round =>
    obtain ⟨k, t, hk, rfl, rfl, htb, hT, rfl⟩ := hrel
    by_cases hlt : k < n
    · obtain ⟨s, hsk⟩ : ∃ s, ss[k]? = some s := ⟨_, List.getElem?_eq_getElem (by rw [← HN.out]; exact hlt)⟩
      obtain ⟨hc, _⟩ := HS.out k s hsk
      have hT' : Hid (t + s.len = sumN (ss.take (k + 1))) := by rw [hT.out]; exact (sumN_take_succ ss k s hsk).symm
      have hb : t + s.len ≤ 1048576 := by have := sumN_take_le ss (k + 1); have := HT.out; have := hT'.out; omega
      clear hsk
      go_wp2
      go_roundw
      case rel => exact ⟨k + 1, t + s.len, by omega, by go_num, by go_num, hb, hT'.out, trivial⟩
      case measure => simp [intOf]; omega
    · obtain rfl : k = n := by omega
      go_wp2_with fail
      refine (G.out t htb _).mono ?_
      rintro e w1 ⟨a1, c1, rfl, o1, b1⟩
      have O1 := Lib.hid o1
      have B1 := Lib.hid b1
      clear o1 b1 hT
      go_wp2
      go_loopw [6, 27] (fun sl i wr => ∃ (j l c : Nat) (a : Option Addr), j ≤ k ∧ i = .int .i64 j ∧ sl = .slice a l c ∧ Hid (Own wr w.heap.size a l c (catZ (ss.take j))) ∧ Hid (l = sumN (ss.take j)) ∧ Hid (Below w.heap.size w wr)) (fun _ i _ => k - (intOf i).toNat)
      case atStart => exact ⟨0, 0, c1, a1, Nat.zero_le _, rfl, rfl, O1.out, rfl, B1.out⟩
      case round =>
        obtain ⟨j, l, c, a, hj, rfl, rfl, hO, hL, hB⟩ := hrel
        clear O1 B1
        by_cases hlt : j < k
        · obtain ⟨s, hsk⟩ : ∃ s, ss[j]? = some s := ⟨_, List.getElem?_eq_getElem (by rw [← HN.out]; exact hlt)⟩
          obtain ⟨hc0, hr0⟩ := HS.out j s hsk
          have hc := keepB' hB.out hc0
          have R := Lib.hid (hr0.below hB.out)
          have hL' : Hid (l + s.len = sumN (ss.take (j + 1))) := by rw [hL.out]; exact (sumN_take_succ ss j s hsk).symm
          have hZ : Hid (catZ (ss.take j) ++ s.zs = catZ (ss.take (j + 1))) := (catZ_take_succ ss j s hsk).symm
          have hb : l + s.len ≤ 1048576 := by have := sumN_take_le ss (j + 1); have := HT.out; have := hL'.out; omega
          clear hsk hc0 hr0
          go_wp2_with (at_builtin; refine append_bytes _ rfl (.tmp 31) (.tmp 32) rfl w.heap.size _ _ _ _ rfl hO.out _ _ _ _ rfl R.out hB.out.size (by omega) ?_; intro a2 c2 w2 o2 g2; have P2 := Lib.hid o2; have B2 := Lib.hid (hB.out.grown g2 hB.out.size (fun q e => own_blk hO.out q e)); clear o2 g2)
          go_roundw
          case rel => exact ⟨j + 1, l + s.len, c2, a2, by omega, by go_num, rfl, by rw [← hZ.out]; exact P2.out, hL'.out, B2.out⟩
          case measure => simp [intOf]; omega
        · obtain rfl : j = k := by omega
          go_wp2
          go_ret
          refine ⟨a, l, c, rfl, ?_, hB.out⟩
          have := hO.out
          rwa [List.take_of_length_le (by rw [← HN.out]; exact Nat.le_refl _)] at this
theorem sls_nil (w : World) (g : Nat) : Sls w g [] := by intro i s h; simp at h
theorem concat2 (g : Nat) (t : TypeId) (a0 a1 : Option Addr) (l0 c0 l1 c1 : Nat) (z0 z1 : List Int) (w : World) (hx : Box w g t #[.slice a0 l0 c0, .slice a1 l1 c1]) (h0 : Rd w a0 l0 c0 z0) (h1 : Rd w a1 l1 c1 z1) (hl : l0 + l1 ≤ 1048576) :
    Calls Try.prog 190 #[.slice (some ⟨g, 0, none⟩) 2 2] w (FreshA w (z0 ++ z1)) := by
  have := concat_any g [⟨a0, l0, c0, z0⟩, ⟨a1, l1, c1, z1⟩] w (by
    intro i s h
    match i with
    | 0 => simp at h; subst h; exact ⟨hx.cell 0, h0⟩
    | 1 => simp at h; subst h; exact ⟨hx.cell 1, h1⟩
    | k + 2 => simp at h) (by simp) (by simp [sumN]; omega)
  simpa [catZ] using this
theorem concat3 (g : Nat) (t : TypeId) (a0 a1 a2 : Option Addr) (l0 c0 l1 c1 l2 c2 : Nat) (z0 z1 z2 : List Int) (w : World) (hx : Box w g t #[.slice a0 l0 c0, .slice a1 l1 c1, .slice a2 l2 c2]) (h0 : Rd w a0 l0 c0 z0) (h1 : Rd w a1 l1 c1 z1) (h2 : Rd w a2 l2 c2 z2) (hl : l0 + l1 + l2 ≤ 1048576) :
    Calls Try.prog 190 #[.slice (some ⟨g, 0, none⟩) 3 3] w (FreshA w (z0 ++ (z1 ++ z2))) := by
  have := concat_any g [⟨a0, l0, c0, z0⟩, ⟨a1, l1, c1, z1⟩, ⟨a2, l2, c2, z2⟩] w (by
    intro i s h
    match i with
    | 0 => simp at h; subst h; exact ⟨hx.cell 0, h0⟩
    | 1 => simp at h; subst h; exact ⟨hx.cell 1, h1⟩
    | 2 => simp at h; subst h; exact ⟨hx.cell 2, h2⟩
    | k + 3 => simp at h) (by simp) (by simp [sumN]; omega)
  simpa [catZ] using this
theorem concat4 (g : Nat) (t : TypeId) (a0 a1 a2 a3 : Option Addr) (l0 c0 l1 c1 l2 c2 l3 c3 : Nat) (z0 z1 z2 z3 : List Int) (w : World) (hx : Box w g t #[.slice a0 l0 c0, .slice a1 l1 c1, .slice a2 l2 c2, .slice a3 l3 c3]) (h0 : Rd w a0 l0 c0 z0) (h1 : Rd w a1 l1 c1 z1) (h2 : Rd w a2 l2 c2 z2) (h3 : Rd w a3 l3 c3 z3) (hl : l0 + l1 + l2 + l3 ≤ 1048576) :
    Calls Try.prog 190 #[.slice (some ⟨g, 0, none⟩) 4 4] w (FreshA w (z0 ++ (z1 ++ (z2 ++ z3)))) := by
  have := concat_any g [⟨a0, l0, c0, z0⟩, ⟨a1, l1, c1, z1⟩, ⟨a2, l2, c2, z2⟩, ⟨a3, l3, c3, z3⟩] w (by
    intro i s h
    match i with
    | 0 => simp at h; subst h; exact ⟨hx.cell 0, h0⟩
    | 1 => simp at h; subst h; exact ⟨hx.cell 1, h1⟩
    | 2 => simp at h; subst h; exact ⟨hx.cell 2, h2⟩
    | 3 => simp at h; subst h; exact ⟨hx.cell 3, h3⟩
    | k + 4 => simp at h) (by simp) (by simp [sumN]; omega)
  simpa [catZ] using this
/-- a part of a block of cells that reads as bytes -/
theorem Rd.of_box {w : World} {b off len : Nat} {t : TypeId} {vs : Array Value} {zs : List Int} (hx : Box w b t vs) (hl : zs.length = len) (hm : len ≤ maxLen) (h8 : B8 zs) (hc : ∀ i, i < len → vs[off + i]? = some (.int .u8 (zs.getD i 0))) : Rd w (some ⟨b, off, none⟩) len len zs :=
  ⟨hl, Nat.le_refl _, hm, h8, by simp, .inr ⟨b, off, rfl, fun i hi => (hx.cell (off + i)).trans (hc i hi)⟩⟩
end Go.Proofs.Ytimlobhlcmghfaa
