/-
  The exact law of PiecesFault.
-/
import Derived.Test.YtimlobhlcmghfaaP6G
import Derived.Test.YtimlobhlcmghfaaP6Q
namespace Go.Proofs.Ytimlobhlcmghfaa
open Go.ChangeShapes Go.WideShapes Go.ChangeAt Go.RowKit

theorem sum_le {ps : List Pm} {n m : Nat} (h : n + sumL ps ≤ m) : ∀ p ∈ ps, p.l ≤ m := fun p hp => by have := sumL_mem hp; omega
theorem len_of_vals {w w' : World} {a a' : Option Addr} {l c l' c' : Nat} {ps qs : List Pm} (h : Pl w a l c ps) (h' : Pl w' a' l' c' qs) (hv : vals qs = vals ps) {m : Nat} (hd : ∀ p ∈ ps, p.l ≤ m) : ∀ q ∈ qs, q.l ≤ m := by
  intro q hq
  have e : q.v ∈ vals ps := by rw [← hv]; exact List.mem_map_of_mem hq
  obtain ⟨p, hp, ep⟩ := List.mem_map.1 e
  have h1 := (h.data p hp).length
  have h2 := (h'.data q hq).length
  have h3 : p.z = q.z := congrArg Prod.snd ep
  have := hd p hp
  rw [h3] at h1
  omega
end Go.Proofs.Ytimlobhlcmghfaa
