/-
  Lists of pieces as rows (K8) and as they are told by the contracts of chapter 6 (Pl).
-/
import Derived.Test.YtimlobhlcmghfaaKLPiece
import Derived.Test.YtimlobhlcmghfaaP6E
namespace Go.Proofs.Ytimlobhlcmghfaa
open Go.ChangeShapes Go.WideShapes Go.ChangeAt Go.RowKit

def PieceR.pm (p : PieceR) : Pm := ⟨p.f0, p.f1.a, p.f1.l, p.f1.c, p.f1.z⟩
def Pm.pr (p : Pm) : PieceR := ⟨p.k, ⟨p.a, p.l, p.c, p.z⟩⟩
theorem Lt.ok.pl {w : World} {x : Lt PieceR} (h : Lt.ok PieceR.md w x) : Pl w x.a x.l x.c (x.rs.map PieceR.pm) := by
  refine ⟨⟨by simpa using h.length, h.le, h.max, h.nil, ?_⟩, fun p hp => ?_⟩
  · rcases h.cells with h0 | ⟨b, off, e, hc⟩
    · exact .inl h0
    · refine .inr ⟨b, off, e, fun i p hi => ?_⟩
      rw [List.getElem?_map] at hi
      cases hq : x.rs[i]? with
      | none => rw [hq] at hi; cases hi
      | some q =>
        rw [hq] at hi
        cases hi
        have r := hc i q hq
        exact ⟨r 0 _ rfl, r 1 _ rfl⟩
  · obtain ⟨q, hq, rfl⟩ := List.mem_map.1 hp
    exact h.data q hq
theorem pm_vals (rs : List PieceR) : vals (rs.map PieceR.pm) = (rs.map PieceR.val).map (fun v => (v.f0, v.f1)) := by
  unfold vals
  rw [List.map_map, List.map_map]
  rfl
theorem eqV_pm (rs qs : List PieceR) : eqV (rs.map PieceR.pm) (qs.map PieceR.pm) = decide (rs.map PieceR.val = qs.map PieceR.val) := by
  unfold eqV
  rw [decide_eq_decide, pm_vals, pm_vals]
  exact List.map_inj_right (fun a b h => by cases a; cases b; simpa using h)
end Go.Proofs.Ytimlobhlcmghfaa
