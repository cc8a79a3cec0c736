/-
  ReadFrame of the program.
-/
import Derived.Test.YtgjkbaplfbiomaaImPkA
import Derived.Test.YtgjkbaplfbiomaaExFrmR
namespace Go.Proofs.Ytgjkbaplfbiomaa
open Go.ChangeShapes Go.WideShapes Go.ChangeAt Go.RowKit

theorem rdTo_take (zs : List Int) (A n : Nat) : ∀ k, A + k ≤ n → rdTo (zs.take n) A k = rdTo zs A k
  | 0, _ => rfl
  | k + 1, h => by
    simp only [rdTo]
    rw [rdTo_take zs A n k (by omega), List.getD_eq_getElem?_getD, List.getD_eq_getElem?_getD, List.getElem?_take, if_pos (by omega)]
theorem rdTo_drop (zs : List Int) (A n : Nat) : ∀ k, rdTo (zs.drop n) A k = rdTo zs (n + A) k
  | 0 => rfl
  | k + 1 => by
    simp only [rdTo]
    rw [rdTo_drop zs A n k, List.getD_eq_getElem?_getD, List.getD_eq_getElem?_getD, List.getElem?_drop, Nat.add_assoc]

set_option maxHeartbeats 1000000 in
theorem bclone_any (a : Option Addr) (len cap : Nat) (zs : List Int) (w : World) (h : Rd w a len cap zs) (hl : len ≤ 1048576) :
    Calls Try.prog 97 #[.slice a len cap] w (Fresh w len zs) := by
  cases a with
  | none =>
    obtain ⟨rfl, rfl⟩ := h.nil rfl
    have hz := Lib.hid (List.length_eq_zero_iff.1 h.length)
    clear h
    have q := Lib.run_eql_slice_nil (P := Try.prog) w 22 5 none 0 0 0 0 Try.underlying22
    go_enter Try.func97, Try.ntmps97
    go_wp2
    go_ret
    exact ⟨none, 0, rfl, by rw [hz.out]; exact Own.nil _ _, Below.refl _ _⟩
  | some x =>
    have o0 := own_lit w w.heap.size (Nat.le_refl _)
    have r0 := h.alloc (.cells #[] 5)
    have q := Lib.run_eql_slice_nil (P := Try.prog) w 22 5 (some x) len cap 0 0 Try.underlying22
    go_enter Try.func97, Try.ntmps97
    go_wp2_with (at_builtin; refine append_bytes _ rfl (.tmp 5) (.tmp 6) rfl w.heap.size _ _ _ [] rfl o0 (some x) len cap zs rfl r0 (by simp) (by omega) ?_; intro a' c' w' ho hg)
    go_ret
    refine ⟨a', c', by simp [Array.getD], by simpa using ho, ?_⟩
    exact ((Below.refl _ _).alloc (Nat.le_refl _) _).grown hg (by simp) (fun k e => by simp [Value.ownBlock] at e; omega)

theorem take6 (zs : List Int) (n : Nat) (h : n + 6 ≤ zs.length) : ∃ y0 y1 y2 y3 y4 y5, (zs.drop n).take 6 = [y0, y1, y2, y3, y4, y5] := by
  have hl : ((zs.drop n).take 6).length = 6 := by simp; omega
  match h' : (zs.drop n).take 6, hl with
  | [y0, y1, y2, y3, y4, y5], _ => exact ⟨y0, y1, y2, y3, y4, y5, rfl⟩

end Go.Proofs.Ytgjkbaplfbiomaa
