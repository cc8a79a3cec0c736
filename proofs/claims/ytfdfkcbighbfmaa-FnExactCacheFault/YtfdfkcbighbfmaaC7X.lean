/-
  The exact law of CacheFault.
-/
import Derived.Test.YtfdfkcbighbfmaaC7S
namespace Go.Proofs.Ytfdfkcbighbfmaa
open Go.ChangeShapes Go.WideShapes Go.ChangeAt Go.RowKit

set_option maxHeartbeats 2000000 in
theorem exactCacheFault (a : Option Addr) (len cap : Nat) (es : List En) (w : World) (h : Le w a len cap es) :
    Calls Try.prog 7 #[.slice a len cap] w fun e w' => e = .returned (.bool true) ∧ Below w.heap.size w w' := by
  by_cases hs : len ≤ 1048576
  case neg =>
    have Z := Lib.hid (fun W => szEntryS_f a len cap 1048576 W hs (by omega) (Nat.le_trans h.le h.max))
    clear h
    go_enter Try.func7, Try.ntmps7
    go_wp2_with fail
    refine (Z.out _).mono ?_
    rintro e w1 ⟨rfl, rfl⟩
    go_wp2
    go_ret
    exact ⟨rfl, Below.refl _ _⟩
  have Z := Lib.hid (fun W => szEntryS_t a len cap 1048576 W hs (by omega))
  have hn : ¬ ((1048576 - len : Nat) : Int) < 0 := by omega
  have T := Lib.hid (fun W (hW : Below w.heap.size w W) => toEntryS_any a len cap es W (h.below hW) (by omega))
  have K1 := Lib.hid (fun W a la ca (ha : Le W a la ca es) => specCacheFault a la ca es W ha)
  have K2 := Lib.hid (fun W a la ca (ha : Le W a la ca es) => implCacheFault a la ca es W ha)
  have E1 := Lib.hid (fun W a la ca b lb cb (ha : Le W a la ca es) (hb : Le W b lb cb es) => by have := eqEntryS_any a b la ca lb cb es es W ha hb; rw [eqE_refl] at this; exact this)
  clear h hs
  generalize 1048576 - len = r at *
  generalize cfC es = C at *
  have hne : (C != C) = false := by simp
  go_enter Try.func7, Try.ntmps7
  go_wp2_with fail
  refine (Z.out _).mono ?_
  rintro e w1 ⟨rfl, rfl⟩
  clear Z
  go_wp2_with fail
  refine (T.out _ (Below.refl _ _)).mono ?_
  rintro e w2 ⟨a2, c2, rfl, l2, b2⟩
  have B2 := Lib.hid b2
  have KK := Lib.hid (K1.out w2 _ _ _ l2.le)
  clear b2 l2 K1
  go_wp2_with fail
  refine KK.out.mono ?_
  rintro e w4 ⟨rfl, rfl⟩
  clear KK
  go_wp2_with fail
  refine (T.out _ B2.out).mono ?_
  rintro e w5 ⟨a5, c5, rfl, l5, b5⟩
  have B5 := Lib.hid (B2.out.trans (b5.mono B2.out.size))
  have L5 := Lib.hid l5
  have KK := Lib.hid (K2.out w5 _ _ _ l5.le)
  clear b5 l5 B2 K2
  go_wp2_with fail
  refine KK.out.mono ?_
  rintro e w7 ⟨rfl, b7⟩
  have B7 := Lib.hid (B5.out.trans (b7.mono B5.out.size))
  have L7 := Lib.hid (L5.out.below b7)
  clear b7 B5 L5 KK
  go_wp2_with fail
  refine (T.out _ B7.out).mono ?_
  rintro e w8 ⟨a8, c8, rfl, l8, b8⟩
  have B8 := Lib.hid (B7.out.trans (b8.mono B7.out.size))
  have KK := Lib.hid (E1.out w8 _ _ _ _ _ _ (L7.out.below b8).le l8.le)
  clear b8 l8 B7 L7 E1
  go_wp2_with fail
  refine KK.out.mono ?_
  rintro e w9 ⟨rfl, b9⟩
  have B9 := Lib.hid (B8.out.trans (b9.mono B8.out.size))
  clear b9 B8 KK
  go_wp2
  go_ret
  exact ⟨rfl, B9.out⟩
end Go.Proofs.Ytfdfkcbighbfmaa
