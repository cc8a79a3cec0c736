/-
  Contracts of the helpers of the laws that compare, mark and look at results with lists of entries; what a function of lists of entries answers (CaOut).
-/
import Derived.Test.YtimlobhlcmghfaaE8M
namespace Go.Proofs.Ytimlobhlcmghfaa
open Go.ChangeShapes Go.WideShapes Go.ChangeAt Go.RowKit

set_option maxHeartbeats 1000000 in
theorem eqCache_t (c : Int) (a a' : Option Addr) (la ca la' ca' : Nat) (es : List En) (w : World) (ha : Le w a la ca es) (ha' : Le w a' la' ca' es) :
    Calls Try.prog 55 #[.agg #[.int .i64 c, .slice a la ca], .agg #[.int .i64 c, .slice a' la' ca']] w fun e w' => e = .returned (.bool true) ∧ Below w.heap.size w w' := by
  have K := Lib.hid (fun W (hW : Below w.heap.size w W) => eqEntryS_any a a' la ca la' ca' es es W (ha.below hW) (ha'.below hW))
  rw [eqE_refl] at K
  have B0 := Lib.hid (((Below.refl w.heap.size w).alloc (Nat.le_refl _) (.cells #[.int .i64 c, .slice a la ca] 44)).alloc (by simp) (.cells #[.int .i64 c, .slice a' la' ca'] 44))
  clear ha ha'
  have hc : (c != c) = false := by simp
  go_enter Try.func55, Try.ntmps55
  go_wp2_with fail
  refine (K.out _ B0.out).mono ?_
  rintro e w1 ⟨rfl, b1⟩
  have B1 := Lib.hid (B0.out.trans (b1.mono B0.out.size))
  clear b1 B0
  go_wp2
  go_ret
  exact ⟨rfl, B1.out⟩

set_option maxHeartbeats 1000000 in
theorem markCache_any (lo hi : Nat) (c : Int) (a : Option Addr) (len cap k0 : Nat) (es : List En) (w : World) (h : EO w lo hi a len cap es) (hl : len ≤ 1048576) (hk0 : k0 ≤ 1000000) :
    Calls Try.prog 58 #[.agg #[.int .i64 c, .slice a len cap], .int .i64 k0] w fun e w' => e = .returned (.int .i64 (k0 + len * 3 : Nat)) ∧ EO w' lo hi a len cap (markE k0 es) ∧ Turn lo hi w w' := by
  have H0 := Lib.hid (h.below ((Below.refl _ w).alloc (Nat.le_refl _) (.cells #[.int .i64 c, .slice a len cap] 44)))
  have T0 := Lib.hid (Turn.of_below (lo := lo) (hi := hi) ((Below.refl _ w).alloc (Nat.le_refl _) (.cells #[.int .i64 c, .slice a len cap] 44)))
  have K := Lib.hid (markEntryS_any lo hi a len cap k0 es _ H0.out hl (by omega))
  clear h
  go_enter Try.func58, Try.ntmps58
  go_wp2_with fail
  refine K.out.mono ?_
  rintro e w1 ⟨rfl, p1, t1⟩
  have P1 := Lib.hid p1
  have T1 := Lib.hid (T0.out.trans t1)
  clear p1 t1 K H0 T0
  go_wp2
  go_ret
  exact ⟨ret_i rfl, P1.out, T1.out⟩

set_option maxHeartbeats 1000000 in
theorem heldCache_any (c : Int) (a : Option Addr) (len cap k0 : Nat) (es : List En) (w : World) (h : Le w a len cap (markE k0 es)) (hl : len ≤ 1048576) (hk0 : k0 ≤ 1000000) :
    Calls Try.prog 59 #[.agg #[.int .i64 c, .slice a len cap], .int .i64 k0] w fun e w' => e = .returned (.int .i64 (k0 + len * 3 : Nat)) ∧ Below w.heap.size w w' := by
  have B0 := Lib.hid ((Below.refl _ w).alloc (Nat.le_refl _) (.cells #[.int .i64 c, .slice a len cap] 44))
  have K := Lib.hid (heldEntryS_any a len cap k0 es _ (h.below B0.out) hl (by omega))
  have hn1 : ¬ ((k0 + len * 3 : Nat) : Int) < 0 := by omega
  clear h
  go_enter Try.func59, Try.ntmps59
  go_wp2_with fail
  refine K.out.mono ?_
  rintro e w1 ⟨rfl, rfl⟩
  go_wp2
  go_ret
  exact ⟨ret_i rfl, B0.out⟩

/-- a code, and a list of these entries in new memory -/
def CaOut (w : World) (code : Int) (es : List En) (e : Ending) (w' : World) : Prop :=
  ∃ a len cap, e = .returned (.agg #[.int .i64 code, .slice a len cap]) ∧ EO w' w.heap.size w'.heap.size a len cap es ∧ Below w.heap.size w w'
/-- a list of these entries in new memory -/
def EsOut (w : World) (es : List En) (e : Ending) (w' : World) : Prop :=
  ∃ a len cap, e = .returned (.slice a len cap) ∧ EO w' w.heap.size w'.heap.size a len cap es ∧ Below w.heap.size w w'
theorem Box.pair {w : World} {b : Nat} {t : TypeId} {x y : Value} (h : Box w b t #[x, y]) : b < w.heap.size ∧ w.cell? ⟨b, 0, none⟩ = some x ∧ w.cell? ⟨b, 1, none⟩ = some y := ⟨h.lt, h.cell 0, h.cell 1⟩
end Go.Proofs.Ytimlobhlcmghfaa
