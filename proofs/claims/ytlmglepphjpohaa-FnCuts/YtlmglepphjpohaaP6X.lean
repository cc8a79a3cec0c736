/-
  The exact law of PiecesFault.
-/
import Derived.Test.YtlmglepphjpohaaP6G
import Derived.Test.YtlmglepphjpohaaP6Q
namespace Go.Proofs.Ytlmglepphjpohaa
open Go.ChangeShapes Go.WideShapes Go.ChangeAt Go.RowKit

theorem sum_le {ps : List Pm} {n m : Nat} (h : n + sumL ps ≤ m) : ∀ p ∈ ps, p.l ≤ m := fun p hp => by have := sumL_mem hp; omega
theorem len_of_vals {w w' : World} {a a' : Option Addr} {l c l' c' : Nat} {ps qs : List Pm} (h : Pl w a l c ps) (h' : Pl w' a' l' c' qs) (hv : vals qs = vals ps) {m : Nat} (hd : ∀ p ∈ ps, p.l ≤ m) : ∀ q ∈ qs, q.l ≤ m := by
  intro q hq
  have e : q.v ∈ vals ps := by rw [← hv]; exact List.mem_map_of_mem hq
  obtain ⟨p, hp, ep⟩ := List.mem_map.1 e
  have h1 := (h.data p hp).length
  have h2 := (h'.data q hq).length
  have h3 : p.z = q.z := congrArg Prod.snd ep
  have := hd p hp
  rw [h3] at h1
  omega
set_option maxHeartbeats 2000000 in
theorem exactPF (a : Option Addr) (len cap : Nat) (ps : List Pm) (w : World) (h : Pl w a len cap ps) :
    Calls Try.prog 5 #[.slice a len cap] w fun e w' => e = .returned (.bool true) ∧ Below w.heap.size w w' := by
  by_cases hs : len + sumL ps ≤ 1048576
  · have hd := sum_le hs
    have hl : len ≤ 1048576 := by omega
    have Z := Lib.hid (szPieceS_t a len cap ps 1048576 w h hs (by omega))
    have T := Lib.hid (fun W (hW : Below w.heap.size w W) => toPieceS_any a len cap ps W (h.below hW) hl hd)
    have LV := Lib.hid (fun W a' c' (qs : List Pm) (h' : Pl W a' len c' qs) (hv : vals qs = vals ps) => len_of_vals h h' hv hd)
    have hn : ¬ ((1048576 - (len + sumL ps) : Nat) : Int) < 0 := by omega
    generalize hv : vals ps = vs at *
    clear h hs hd hv
    have hne : (pfV vs != pfV vs) = false := by simp
    generalize 1048576 - (len + sumL ps) = r at *
    go_enter Try.func5, Try.ntmps5
    go_wp2_with fail
    refine Z.out.mono ?_
    rintro e w1 ⟨rfl, b1⟩
    have B1 := Lib.hid b1
    clear b1 Z
    go_wp2_with fail
    refine (T.out _ B1.out).mono ?_
    rintro e w2 ⟨a2, c2, qs2, rfl, p2, v2, b2⟩
    have B2 := Lib.hid (B1.out.trans (b2.mono B1.out.size))
    have K2 := specPiecesFault a2 len c2 qs2 w2 p2.pl (LV.out _ _ _ _ p2.pl v2)
    rw [v2] at K2
    have KK2 := Lib.hid K2
    clear b2 B1 p2 v2 K2
    go_wp2_with fail
    refine KK2.out.mono ?_
    rintro e w3 ⟨rfl, b3⟩
    have B3 := Lib.hid (B2.out.trans (b3.mono B2.out.size))
    clear b3 KK2 B2
    go_wp2_with fail
    refine (T.out _ B3.out).mono ?_
    rintro e w4 ⟨a4, c4, qs4, rfl, p4, v4, b4⟩
    have B4 := Lib.hid (B3.out.trans (b4.mono B3.out.size))
    have K4 := implPiecesFault a4 len c4 qs4 w4 p4.pl (LV.out _ _ _ _ p4.pl v4)
    rw [v4] at K4
    have KK4 := Lib.hid K4
    have P4 := Lib.hid p4.pl
    have V4 := Lib.hid v4
    clear b4 B3 p4 v4 K4
    go_wp2_with fail
    refine KK4.out.mono ?_
    rintro e w5 ⟨rfl, b5⟩
    have B5 := Lib.hid (B4.out.trans (b5.mono B4.out.size))
    have P5 := Lib.hid (P4.out.below b5)
    clear b5 KK4 B4 P4
    go_wp2_with fail
    refine (T.out _ B5.out).mono ?_
    rintro e w6 ⟨a6, c6, qs6, rfl, p6, v6, b6⟩
    have B6 := Lib.hid (B5.out.trans (b6.mono B5.out.size))
    have K6 := eqPieceS_any a4 a6 len c4 len c6 qs4 qs6 w6 (P5.out.below b6) p6.pl
    rw [eqV_refl (V4.out.trans v6.symm)] at K6
    have KK6 := Lib.hid K6
    clear b6 B5 p6 v6 K6 P5
    go_wp2_with fail
    refine KK6.out.mono ?_
    rintro e w7 ⟨rfl, b7⟩
    have B7 := Lib.hid (B6.out.trans (b7.mono B6.out.size))
    clear b7 KK6 B6
    go_wp2
    go_ret
    exact ⟨rfl, B7.out⟩
  · have Z := Lib.hid (szPieceS_f a len cap ps 1048576 w h hs (by omega))
    clear h hs
    go_enter Try.func5, Try.ntmps5
    go_wp2_with fail
    refine Z.out.mono ?_
    rintro e w1 ⟨rfl, b1⟩
    have B1 := Lib.hid b1
    clear b1 Z
    go_wp2
    go_ret
    exact ⟨rfl, B1.out⟩
end Go.Proofs.Ytlmglepphjpohaa
