/-
  Contracts of the helpers of the laws that size, copy and compare lists of pieces.
-/
import Derived.Test.YtbngdenlplbjhaaP6M
import Derived.Test.YtbngdenlplbjhaaFrm
import Derived.Test.YtbngdenlplbjhaaImPkK
namespace Go.Proofs.Ytbngdenlplbjhaa
open Go.ChangeShapes Go.WideShapes Go.ChangeAt Go.RowKit

def sumL : List Pm → Nat
  | [] => 0
  | p :: ps => p.l + sumL ps
theorem sumL_app : ∀ (a b : List Pm), sumL (a ++ b) = sumL a + sumL b
  | [], b => by simp [sumL]
  | s :: r, b => by simp [sumL, sumL_app r b]; omega
theorem sumL_take_succ (ps : List Pm) (k : Nat) (p : Pm) (h : ps[k]? = some p) : sumL (ps.take (k + 1)) = sumL (ps.take k) + p.l := by
  rw [List.take_add_one, h, sumL_app]
  simp [sumL]
theorem sumL_take_le (ps : List Pm) (k : Nat) : sumL (ps.take k) ≤ sumL ps := by
  have := sumL_app (ps.take k) (ps.drop k)
  rw [List.take_append_drop] at this
  omega
theorem sumL_mem {ps : List Pm} {p : Pm} (h : p ∈ ps) : p.l ≤ sumL ps := by
  induction ps with
  | nil => cases h
  | cons q ps ih =>
    rcases List.mem_cons.1 h with rfl | h
    · simp [sumL]
    · have := ih h; simp only [sumL]; omega

theorem szPiece_t (k : Int) (a : Option Addr) (len cap : Nat) (l : Int) (w : World) (h : (len : Int) ≤ l) (hl : l ≤ 1048576) :
    Calls Try.prog 106 #[.agg #[.int .i64 k, .slice a len cap], .int .i64 l] w fun e w' => e = .returned (.int .i64 (l - len)) ∧ Below w.heap.size w w' := by
  have K := Lib.hid (fun W => szByteS_t a len cap l W h hl)
  have hn : ¬ l - (len : Int) < 0 := by omega
  go_enter Try.func106, Try.ntmps106
  go_wp2_with fail
  refine (K.out _).mono ?_
  rintro e w1 ⟨rfl, rfl⟩
  go_wp2
  go_ret
  exact ⟨rfl, (Below.refl _ _).alloc (Nat.le_refl _) _⟩
theorem szPiece_f (k : Int) (a : Option Addr) (len cap : Nat) (l : Int) (w : World) (h : ¬ (len : Int) ≤ l) (h0 : 0 ≤ l) (hl : l ≤ 1048576) (hm : len ≤ maxLen) :
    Calls Try.prog 106 #[.agg #[.int .i64 k, .slice a len cap], .int .i64 l] w fun e w' => e = .returned (.int .i64 (-1)) ∧ Below w.heap.size w w' := by
  have K := Lib.hid (fun W => szByteS_f a len cap l W h h0 hl hm)
  go_enter Try.func106, Try.ntmps106
  go_wp2_with fail
  refine (K.out _).mono ?_
  rintro e w1 ⟨rfl, rfl⟩
  go_wp2
  go_ret
  exact ⟨rfl, (Below.refl _ _).alloc (Nat.le_refl _) _⟩

set_option maxHeartbeats 1000000 in
theorem szPieceS_t (a : Option Addr) (len cap : Nat) (ps : List Pm) (l : Nat) (w : World) (h : Pl w a len cap ps) (hs : len + sumL ps ≤ l) (hl : l ≤ 1048576) :
    Calls Try.prog 97 #[.slice a len cap, .int .i64 l] w fun e w' => e = .returned (.int .i64 (l - (len + sumL ps) : Nat)) ∧ Below w.heap.size w w' := by
  have HP := Lib.hid h
  have HS := Lib.hid hs
  have hll : len ≤ l := by omega
  have hn : ¬ (l : Int) - (len : Int) < 0 := by omega
  clear h hs
  go_enter Try.func97, Try.ntmps97
  go_wp2
  go_loopw [1, 5] (fun lf i wr => ∃ (k t : Nat), k ≤ len ∧ i = .int .i64 k ∧ lf = .int .i64 t ∧ t ≤ 1048576 ∧ Hid (t = l - (len + sumL (ps.take k))) ∧ Hid (Below w.heap.size w wr)) (fun _ i _ => len - (intOf i).toNat)
  case atStart => exact ⟨0, l - len, Nat.zero_le _, rfl, by go_num, by omega, by simp [Hid, sumL], Below.refl _ _⟩
  case round =>
    obtain ⟨k, t, hk, rfl, rfl, htb, hT, hB⟩ := hrel
    by_cases hlt : k < len
    · obtain ⟨b, off, p, rfl, hp, c0, c1⟩ := (HP.out.lb.below hB.out).at hlt
      have hT' : Hid (t - p.l = l - (len + sumL (ps.take (k + 1)))) := by
        have e1 := hT.out
        have e2 := sumL_take_succ ps k p hp
        simp only [Hid]; omega
      have hb : p.l ≤ t := by have := sumL_take_le ps (k + 1); have := sumL_take_succ ps k p hp; have := HS.out; have := hT.out; omega
      clear hp hT
      obtain ⟨pk, pa, pl, pc, pz⟩ := p
      simp only at c0 c1 hT' hb
      have K := Lib.hid (fun W => szPiece_t pk pa pl pc t W (by omega) (by omega))
      have hn2 : ¬ (t : Int) - (pl : Int) < 0 := by omega
      go_wp2_with fail
      refine (K.out _).mono ?_
      rintro e w1 ⟨rfl, b1⟩
      have B1 := Lib.hid (hB.out.trans (b1.mono hB.out.size))
      clear b1 hB K c0 c1
      go_wp2
      go_roundw
      case rel => exact ⟨k + 1, t - pl, by omega, by go_num, by go_num, by omega, hT'.out, B1.out⟩
      case measure => simp [intOf]; omega
    · obtain rfl : k = len := by omega
      have hE : Hid (t = l - (k + sumL ps)) := by
        have e := hT.out
        rwa [List.take_of_length_le (by rw [HP.out.lb.length]; exact Nat.le_refl _)] at e
      clear hT
      go_wp2
      go_ret
      exact ⟨ret_i (by rw [hE.out]), hB.out⟩
set_option maxHeartbeats 1000000 in
theorem szPieceS_f (a : Option Addr) (len cap : Nat) (ps : List Pm) (l : Nat) (w : World) (h : Pl w a len cap ps) (hs : ¬ len + sumL ps ≤ l) (hl : l ≤ 1048576) :
    Calls Try.prog 97 #[.slice a len cap, .int .i64 l] w fun e w' => e = .returned (.int .i64 (-1)) ∧ Below w.heap.size w w' := by
  have HP := Lib.hid h
  have HS := Lib.hid hs
  have hm : len ≤ maxLen := Nat.le_trans h.lb.le h.lb.max
  unfold maxLen at hm
  clear h hs
  by_cases hll : len ≤ l
  · have hn : ¬ (l : Int) - (len : Int) < 0 := by omega
    go_enter Try.func97, Try.ntmps97
    go_wp2
    go_loopw [1, 5] (fun lf i wr => ∃ (k t : Nat), k ≤ len ∧ i = .int .i64 k ∧ lf = .int .i64 t ∧ t ≤ 1048576 ∧ Hid (t + (len + sumL (ps.take k)) = l) ∧ Hid (Below w.heap.size w wr)) (fun _ i _ => len - (intOf i).toNat)
    case atStart => exact ⟨0, l - len, Nat.zero_le _, rfl, by go_num, by omega, by simp [Hid, sumL]; omega, Below.refl _ _⟩
    case round =>
      obtain ⟨k, t, hk, rfl, rfl, htb, hT, hB⟩ := hrel
      by_cases hlt : k < len
      · obtain ⟨b, off, p, rfl, hp, c0, c1⟩ := (HP.out.lb.below hB.out).at hlt
        have hpm : p.l ≤ maxLen := by have := HP.out.data p (List.mem_of_getElem? hp); exact Nat.le_trans this.le this.max
        have hT' : Hid (p.l ≤ t → t - p.l + (len + sumL (ps.take (k + 1))) = l) := by
          intro hle
          have e1 := hT.out
          have e2 := sumL_take_succ ps k p hp
          omega
        clear hp hT
        obtain ⟨pk, pa, pl, pc, pz⟩ := p
        simp only at c0 c1 hT' hpm
        by_cases hb : pl ≤ t
        · have K := Lib.hid (fun W => szPiece_t pk pa pl pc t W (by omega) (by omega))
          have hn2 : ¬ (t : Int) - (pl : Int) < 0 := by omega
          go_wp2_with fail
          refine (K.out _).mono ?_
          rintro e w1 ⟨rfl, b1⟩
          have B1 := Lib.hid (hB.out.trans (b1.mono hB.out.size))
          clear b1 hB K c0 c1
          go_wp2
          go_roundw
          case rel => exact ⟨k + 1, t - pl, by omega, by go_num, by go_num, by omega, hT'.out hb, B1.out⟩
          case measure => simp [intOf]; omega
        · have K := Lib.hid (fun W => szPiece_f pk pa pl pc t W (by omega) (by omega) (by omega) hpm)
          go_wp2_with fail
          refine (K.out _).mono ?_
          rintro e w1 ⟨rfl, b1⟩
          have B1 := Lib.hid (hB.out.trans (b1.mono hB.out.size))
          clear b1 hB K c0 c1
          go_wp2
          go_ret
          exact ⟨rfl, B1.out⟩
      · exfalso
        have e := hT.out
        rw [List.take_of_length_le (by rw [HP.out.lb.length]; omega)] at e
        have := HS.out
        omega
  · have hn : (l : Int) - (len : Int) < 0 := by omega
    go_enter Try.func97, Try.ntmps97
    go_wp2
    go_ret
    exact ⟨rfl, Below.refl _ _⟩
end Go.Proofs.Ytbngdenlplbjhaa
