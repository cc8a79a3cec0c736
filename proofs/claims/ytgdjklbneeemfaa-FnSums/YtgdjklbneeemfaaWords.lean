/-
  Draws of the law of words; two slices of the same bytes are the same text; numbers and their bytes, there and back.
-/
import Derived.Test.YtgdjklbneeemfaaDrawQ
import Derived.Test.YtgdjklbneeemfaaSealS
import Derived.Laws.BytesArg
namespace Go.Proofs.Ytgdjklbneeemfaa
open Go.ChangeShapes Go.WideShapes Go.ChangeAt Go.RowKit

theorem conv_rd {w : World} {a : Option Addr} {len cap : Nat} {zs : List Int} (h : Rd w a len cap zs) : (convert 22 9 (.slice a len cap)).run Try.prog w = .ok (.string (strOfNums zs)) w := by
  have hs := Try.underlying22
  have he := Try.underlying5
  have hd := Try.underlying9
  cases a with
  | none =>
    obtain ⟨rfl, rfl⟩ := h.nil rfl
    obtain rfl : zs = [] := List.length_eq_zero_iff.1 h.length
    rw [run_convert_bytes_nil w _ _ hs he _ _ _ hd]
    rfl
  | some x =>
    rcases h.cells with h0 | ⟨b, off, e, hc⟩
    · subst h0
      obtain rfl : zs = [] := List.length_eq_zero_iff.1 h.length
      have hl : (loadCells x 0).run Try.prog w = .ok (([] : List Int).map (Value.int .u8)).toArray w := by
        have := run_loadCells_list (P := Try.prog) w x [] (by simp)
        simpa using this
      rw [run_convert_bytes_string w _ _ _ _ 0 cap hs he hd, run_bytesToString w x 0 cap [] hl, foldl_push_bytes]
      simp [strOfNums, ByteArray.empty, ByteArray.emptyWithCapacity]
      rfl
    · cases e
      exact run_convert_bytes_arg w _ _ hs he b off len cap zs h.length hc _ hd

theorem lwSame_t (a b : Option Addr) (la ca lb cb : Nat) (zs : List Int) (w : World) (ha : Rd w a la ca zs) (hb : Rd w b lb cb zs) :
    Calls Try.prog 21 #[.slice a la ca, .slice b lb cb] w fun e w' => e = .returned (.bool true) ∧ w = w' := by
  have h1 := conv_rd ha
  have h2 := conv_rd hb
  generalize strOfNums zs = t at *
  clear ha hb
  go_enter Try.func21, Try.ntmps21
  go_wp2
  go_ret
  exact ⟨rfl, rfl⟩

theorem rdTo_snoc (l : List Int) (x : Int) (k : Nat) (h : k ≤ l.length) : rdTo (l ++ [x]) 0 k = rdTo l 0 k := by
  induction k with
  | zero => rfl
  | succ k ih =>
    simp only [rdTo, Nat.zero_add]
    rw [ih (by omega), List.getD_eq_getElem?_getD, List.getD_eq_getElem?_getD, List.getElem?_append_left (by omega)]
theorem rd_be : ∀ (S : Nat) (n : Int), 0 ≤ n → n < 256 ^ S → rdTo (be n S) 0 S = n
  | 0, n, h0, h1 => by simp at h1; simp only [rdTo]; omega
  | S + 1, n, h0, h1 => by
    have hp : (0 : Int) < 256 ^ S := Int.pow_pos (by omega)
    rw [Int.pow_succ] at h1
    have ih := rd_be S (n / 256) (by omega) (by omega)
    simp only [be, rdTo, Nat.zero_add]
    rw [rdTo_snoc _ _ _ (by rw [be_len]; exact Nat.le_refl _), ih, List.getD_eq_getElem?_getD, List.getElem?_append_right (by rw [be_len]; exact Nat.le_refl _), be_len]
    simp
    omega
theorem be_rd (zs : List Int) (h8 : B8 zs) (A : Nat) : ∀ S, A + S ≤ zs.length → be (rdTo zs A S) S = (zs.drop A).take S
  | 0, _ => rfl
  | S + 1, h => by
    have hb := b8_getD h8 (A + S)
    have e1 : (rdTo zs A S * 256 + zs.getD (A + S) 0) / 256 = rdTo zs A S := by omega
    have e2 : (rdTo zs A S * 256 + zs.getD (A + S) 0) % 256 = zs.getD (A + S) 0 := by omega
    simp only [be, rdTo]
    rw [e1, e2, be_rd zs h8 A S (by omega)]
    have hl : S < (zs.drop A).length := by simp; omega
    rw [List.take_succ_eq_append_getElem hl, List.getElem_drop, List.getD_eq_getElem?_getD, List.getElem?_eq_getElem (by omega)]
    rfl

theorem mem10 {x a b c d e f g h i j lo hi : Int} (hx : x ∈ [a, b, c, d, e, f, g, h, i, j]) (k : lo ≤ a ∧ a ≤ hi ∧ lo ≤ b ∧ b ≤ hi ∧ lo ≤ c ∧ c ≤ hi ∧ lo ≤ d ∧ d ≤ hi ∧ lo ≤ e ∧ e ≤ hi ∧ lo ≤ f ∧ f ≤ hi ∧ lo ≤ g ∧ g ≤ hi ∧ lo ≤ h ∧ h ≤ hi ∧ lo ≤ i ∧ i ≤ hi ∧ lo ≤ j ∧ j ≤ hi) : lo ≤ x ∧ x ≤ hi := by
  simp only [List.mem_cons, List.not_mem_nil, or_false] at hx
  rcases hx with rfl | rfl | rfl | rfl | rfl | rfl | rfl | rfl | rfl | rfl <;> omega

set_option maxHeartbeats 1000000 in
theorem drawPack (a : Option Addr) (len cap : Nat) (zs : List Int) (w : World) (h : Rd w a len cap zs) (hl : len ≤ 1048576) :
    Calls Try.prog 15 #[.slice a len cap] w (Two w fun n k => -1 ≤ n ∧ n ≤ 281474976710656 ∧ 0 ≤ k ∧ k ≤ 7) := by
  have K0 := Lib.hid (l1Source_any a len cap zs w h)
  clear h
  go_enter Try.func15, Try.ntmps15
  go_wp2_with fail
  refine K0.out.mono ?_
  rintro e w1 ⟨rfl, s1, b1⟩
  have z1 := s1.box.lt
  have K1 := Lib.hid (l1Pick_any _ _ w1.heap.size 10 [0, 1, 255, 256, 65535, 65536, 4294967295, 281474976710655, 281474976710656, -1] (-1) 281474976710656 _ _ _ _ (w1.alloc (.cells #[.int .i64 0, .int .i64 1, .int .i64 255, .int .i64 256, .int .i64 65535, .int .i64 65536, .int .i64 4294967295, .int .i64 281474976710655, .int .i64 281474976710656, .int .i64 (-1)] 2)) (s1.alloc _) (fun x hx => mem10 hx (by omega)) rfl (by omega) (by omega) (Box.new _ _ _) (by omega) (by omega) hl)
  have B1 := Lib.hid b1
  clear s1 b1 K0
  go_wp2_with fail
  refine K1.out.mono ?_
  rintro e w2 ⟨n, rfl, n0, n1, s2, g2⟩
  have z2 := s2.box.lt
  have B2 := Lib.hid (below_src (B1.out.alloc B1.out.size _) g2)
  have K2 := Lib.hid (l1Pick_any _ _ w2.heap.size 6 [1, 2, 4, 6, 0, 7] 0 7 _ _ _ _ (w2.alloc (.cells #[.int .i64 1, .int .i64 2, .int .i64 4, .int .i64 6, .int .i64 0, .int .i64 7] 2)) (s2.alloc _) (fun x hx => mem6 hx (by omega)) rfl (by omega) (by omega) (Box.new _ _ _) (by omega) (by omega) hl)
  clear s2 g2 K1
  go_wp2_with fail
  refine K2.out.mono ?_
  rintro e w3 ⟨k, rfl, k0, k1, s3, g3⟩
  have B3 := Lib.hid (below_src (B2.out.alloc B2.out.size _) g3)
  clear s3 g3 K2
  go_wp2
  go_ret2
  exact ⟨n, k, rfl, by omega, B3.out⟩

/-- some bytes, and two numbers, were drawn -/
def BytesTwo (w : World) (e : Ending) (w' : World) : Prop := ∃ (a' : Option Addr) (l' c' : Nat) (ys : List Int) (x y : Int), e = .returned (.tuple #[.slice a' l' c', .int .i64 x, .int .i64 y]) ∧ Own w' w.heap.size a' l' c' ys ∧ l' ≤ 12 ∧ 0 ≤ y ∧ y ≤ 7 ∧ Below w.heap.size w w'

set_option maxHeartbeats 1000000 in
theorem drawRead (a : Option Addr) (len cap : Nat) (zs : List Int) (w : World) (h : Rd w a len cap zs) (hl : len ≤ 1048576) :
    Calls Try.prog 17 #[.slice a len cap] w (BytesTwo w) := by
  have K0 := Lib.hid (l1Source_any a len cap zs w h)
  clear h
  go_enter Try.func17, Try.ntmps17
  go_wp2_with fail
  refine K0.out.mono ?_
  rintro e w1 ⟨rfl, s1, b1⟩
  have z1 := s1.box.lt
  have K1 := Lib.hid (l1Pick_any _ _ w1.heap.size 5 [0, 1, 4, 8, 12] 0 12 _ _ _ _ (w1.alloc (.cells #[.int .i64 0, .int .i64 1, .int .i64 4, .int .i64 8, .int .i64 12] 2)) (s1.alloc _) (fun x hx => mem5 hx (by omega)) rfl (by omega) (by omega) (Box.new _ _ _) (by omega) (by omega) hl)
  have B1 := Lib.hid b1
  clear s1 b1 K0
  go_wp2_with fail
  refine K1.out.mono ?_
  rintro e w2 ⟨n, rfl, n0, n1, s2, g2⟩
  have B2 := Lib.hid (below_src (B1.out.alloc B1.out.size _) g2)
  obtain ⟨m, rfl⟩ := Int.eq_ofNat_of_zero_le n0
  have z2 := s2.box.lt
  have K2 := Lib.hid (l1Some_any _ _ m _ _ _ _ _ s2 (by omega) hl)
  clear s2 g2 K1
  go_wp2_with fail
  refine K2.out.mono ?_
  rintro e w3 ⟨a3, c3, ys, rfl, o3, s3, g3⟩
  have z3 := s3.box.lt
  have B3 := Lib.hid (below_src B2.out g3)
  have K3 := Lib.hid (l1Pick_any _ _ w3.heap.size 6 [0, 0, 1, 4, -1, 9223372036854775807] (-1) 9223372036854775807 _ _ _ _ (w3.alloc (.cells #[.int .i64 0, .int .i64 0, .int .i64 1, .int .i64 4, .int .i64 (-1), .int .i64 9223372036854775807] 2)) (s3.alloc _) (fun x hx => mem6 hx (by omega)) rfl (by omega) (by omega) (Box.new _ _ _) (by omega) (by omega) hl)
  have O3 := Lib.hid (o3.alloc (.cells #[.int .i64 0, .int .i64 0, .int .i64 1, .int .i64 4, .int .i64 (-1), .int .i64 9223372036854775807] 2))
  clear s3 g3 K2 o3
  go_wp2_with fail
  refine K3.out.mono ?_
  rintro e w4 ⟨at', rfl, _, _, s4, g4⟩
  have z4 := s4.box.lt
  have B4 := Lib.hid (below_src (B3.out.alloc B3.out.size _) g4)
  have O4 := Lib.hid (O3.out.grown g4 (by intro x hx e; have := O3.out.lt x hx; simp at e; omega))
  have K4 := Lib.hid (l1Pick_any _ _ w4.heap.size 6 [1, 2, 4, 6, 0, 7] 0 7 _ _ _ _ (w4.alloc (.cells #[.int .i64 1, .int .i64 2, .int .i64 4, .int .i64 6, .int .i64 0, .int .i64 7] 2)) (s4.alloc _) (fun x hx => mem6 hx (by omega)) rfl (by omega) (by omega) (Box.new _ _ _) (by omega) (by omega) hl)
  have O5 := Lib.hid (O4.out.alloc (.cells #[.int .i64 1, .int .i64 2, .int .i64 4, .int .i64 6, .int .i64 0, .int .i64 7] 2))
  clear s4 g4 K3 O3 O4
  go_wp2_with fail
  refine K4.out.mono ?_
  rintro e w5 ⟨k, rfl, k0, k1, s5, g5⟩
  have B5 := Lib.hid (below_src (B4.out.alloc B4.out.size _) g5)
  have O6 := Lib.hid (O5.out.grown g5 (by intro x hx e; have := O5.out.lt x hx; simp at e; omega))
  clear s5 g5 K4 O5
  go_wp2
  go_ret3
  exact ⟨a3, m, c3, ys, at', k, rfl, O6.out.rebase (by omega), by omega, k0, k1, B5.out⟩
end Go.Proofs.Ytgdjklbneeemfaa
