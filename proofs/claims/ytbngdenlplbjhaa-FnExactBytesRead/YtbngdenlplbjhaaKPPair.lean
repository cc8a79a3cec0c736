/-
  Pair: the helpers of the laws that mark its parts, and look whether the marks are held.
-/
import Derived.Test.YtbngdenlplbjhaaKSPair
import Derived.Test.YtbngdenlplbjhaaKMEnd
import Derived.Test.YtbngdenlplbjhaaKMFlight
import Derived.Test.YtbngdenlplbjhaaKMReply
namespace Go.Proofs.Ytbngdenlplbjhaa
open Go.ChangeShapes Go.WideShapes Go.ChangeAt Go.RowKit

def PairR.pmk (p : PairR) : Nat := sw EndR.mkn p.f1.rs + sw FlightR.mkn p.f2.rs + sw ReplyR.mkn p.f3.rs
theorem PairR.pmk_le (p : PairR) : PairR.pmk p ≤ 16 * p.val.wt := by
  have h1 := sw_le (f := EndV.mrk) (g := EndV.wt) 16 (rs := p.f1.rs.map EndR.val) (fun q _ => Nat.le_trans (EndV.mrk_le q) (by omega))
  rw [sw_map, show sw (fun q => EndV.mrk (EndR.val q)) p.f1.rs = sw EndR.mkn p.f1.rs from rfl] at h1
  have h2 := sw_le (f := FlightV.mrk) (g := FlightV.wt) 16 (rs := p.f2.rs.map FlightR.val) (fun q _ => Nat.le_trans (FlightV.mrk_le q) (by omega))
  rw [sw_map, show sw (fun q => FlightV.mrk (FlightR.val q)) p.f2.rs = sw FlightR.mkn p.f2.rs from rfl] at h2
  have h3 := sw_le (f := ReplyV.mrk) (g := ReplyV.wt) 16 (rs := p.f3.rs.map ReplyR.val) (fun q _ => Nat.le_trans (ReplyV.mrk_le q) (by omega))
  rw [sw_map, show sw (fun q => ReplyV.mrk (ReplyR.val q)) p.f3.rs = sw ReplyR.mkn p.f3.rs from rfl] at h3
  simp only [PairR.pmk, PairR.val, PairV.wt, wtL]
  omega
def PairR.pmark (k : Nat) (p : PairR) : PairR := ⟨p.f0, Lt.mark EndR.mark EndR.mkn k p.f1, Lt.mark FlightR.mark FlightR.mkn (k + sw EndR.mkn p.f1.rs) p.f2, Lt.mark ReplyR.mark ReplyR.mkn ((k + sw EndR.mkn p.f1.rs) + sw FlightR.mkn p.f2.rs) p.f3⟩
theorem PairR.pmark_cells (k : Nat) (p : PairR) : PairR.cells (PairR.pmark k p) = PairR.cells p := rfl
theorem PairR.pmark_blks (k : Nat) (p : PairR) : PairR.blks (PairR.pmark k p) = PairR.blks p :=
  app2 (app2 (Lt.mark_blks _ _ (M := EndR.md) EndR.mark_blks _ _) (Lt.mark_blks _ _ (M := FlightR.md) FlightR.mark_blks _ _)) (Lt.mark_blks _ _ (M := ReplyR.md) ReplyR.mark_blks _ _)
def PairR.zok (p : PairR) : Prop := (∀ q ∈ p.f1.rs, EndR.zok q) ∧ (∀ q ∈ p.f2.rs, FlightR.zok q) ∧ (∀ q ∈ p.f3.rs, ReplyR.zok q)
theorem PairR.zok_of {w : World} {p : PairR} (h : PairR.ok w p) : PairR.zok p := ⟨fun q hq => EndR.zok_of (h.1.1.data q hq), fun q hq => FlightR.zok_of (h.1.2.data q hq), fun q hq => ReplyR.zok_of (h.2.data q hq)⟩

set_option maxHeartbeats 2000000 in
theorem markPair_any (p : PairR) (k : Nat) (w : World) (h : PairR.ok w p) (hf : Fzs w (PairR.blks p)) (hs : PairR.pmk p ≤ 16777216) (hk : k ≤ 1000000) :
    Calls Try.prog 29 #[.agg (PairR.cells p).toArray, .int .i64 k] w fun e w' => e = .returned (.int .i64 (k + PairR.pmk p : Nat)) ∧ PairR.ok w' (PairR.pmark k p) ∧ Chg (PairR.blks p) w w' := by
  show Calls Try.prog 29 #[.agg #[.int .i64 p.f0, .slice p.f1.a p.f1.l p.f1.c, .slice p.f2.a p.f2.l p.f2.c, .slice p.f3.a p.f3.l p.f3.c], .int .i64 k] w _
  have hs0 : sw EndR.mkn p.f1.rs + sw FlightR.mkn p.f2.rs + sw ReplyR.mkn p.f3.rs ≤ 16777216 := hs
  have e0 : k + PairR.pmk p = (((k + sw EndR.mkn p.f1.rs) + sw FlightR.mkn p.f2.rs) + sw ReplyR.mkn p.f3.rs) := by unfold PairR.pmk; omega
  rw [e0]
  clear e0 hs
  have B0 := Lib.hid ((Below.refl w.heap.size w).alloc (Nat.le_refl _) (.cells #[.int .i64 p.f0, .slice p.f1.a p.f1.l p.f1.c, .slice p.f2.a p.f2.l p.f2.c, .slice p.f3.a p.f3.l p.f3.c] 59))
  have X0 := Lib.hid (Box.new w 59 #[.int .i64 p.f0, .slice p.f1.a p.f1.l p.f1.c, .slice p.f2.a p.f2.l p.f2.c, .slice p.f3.a p.f3.l p.f3.c])
  have LT := Lib.hid (PairR.lt h)
  have F0 := Lib.hid (hf.below B0.out)
  have O0_0 := Lib.hid (Lt.ok.below (by decide) h.1.1 B0.out)
  have O1_0 := Lib.hid (Lt.ok.below (by decide) h.1.2 B0.out)
  have O2_0 := Lib.hid (Lt.ok.below (by decide) h.2 B0.out)
  have C0 := Lib.hid (Chg.of_below (bs := PairR.blks p) B0.out)
  clear h hf
  have K0 := Lib.hid (markEndS_any p.f1 k _ O0_0.out F0.out.left.left (by omega) (by omega))
  go_enter Try.func29, Try.ntmps29
  go_wp2_with fail
  refine K0.out.mono ?_
  rintro e w1 ⟨rfl, o0, c0⟩
  have X1 := Lib.hid (X0.out.chg c0 (fun hq => absurd (LT.out _ (List.mem_append_left _ (List.mem_append_left _ hq))) (Nat.lt_irrefl _)))
  have C1 := Lib.hid (C0.out.trans (c0.mono (fun q hq => (List.mem_append_left _ (List.mem_append_left _ hq)))))
  have F1 := Lib.hid (F0.out.chg c0)
  have O0_1 := Lib.hid o0
  have O1_1 := Lib.hid (Lt.ok.chg (by decide) O1_0.out c0 (fun q hq hq2 => F0.out.left.apart q hq2 hq))
  have O2_1 := Lib.hid (Lt.ok.chg (by decide) O2_0.out c0 (fun q hq hq2 => F0.out.apart q (List.mem_append_left _ hq2) hq))
  clear o0 c0 X0 C0 F0 K0 O0_0 O1_0 O2_0
  have x1 : w1.cell? ⟨w.heap.size, 2, none⟩ = some (.slice p.f2.a p.f2.l p.f2.c) := X1.out.cell 2
  have K1 := Lib.hid (markFlightS_any p.f2 (k + sw EndR.mkn p.f1.rs) _ O1_1.out F1.out.left.right (by omega) (by omega))
  go_wp2_with fail
  refine K1.out.mono ?_
  rintro e w2 ⟨rfl, o1, c1⟩
  have X2 := Lib.hid (X1.out.chg c1 (fun hq => absurd (LT.out _ (List.mem_append_left _ (List.mem_append_right _ hq))) (Nat.lt_irrefl _)))
  have C2 := Lib.hid (C1.out.trans (c1.mono (fun q hq => (List.mem_append_left _ (List.mem_append_right _ hq)))))
  have F2 := Lib.hid (F1.out.chg c1)
  have O0_2 := Lib.hid (Lt.ok.chg (by decide) O0_1.out c1 (fun q hq0 hq2 => by have hq := hq0; rw [Lt.mark_blks (M := EndR.md) _ _ EndR.mark_blks _ _] at hq; exact F1.out.left.apart q hq hq2))
  have O1_2 := Lib.hid o1
  have O2_2 := Lib.hid (Lt.ok.chg (by decide) O2_1.out c1 (fun q hq hq2 => F1.out.apart q (List.mem_append_right _ hq2) hq))
  clear o1 c1 X1 C1 F1 K1 O0_1 O1_1 O2_1
  have x2 : w2.cell? ⟨w.heap.size, 3, none⟩ = some (.slice p.f3.a p.f3.l p.f3.c) := X2.out.cell 3
  have K2 := Lib.hid (markReplyS_any p.f3 ((k + sw EndR.mkn p.f1.rs) + sw FlightR.mkn p.f2.rs) _ O2_2.out F2.out.right (by omega) (by omega))
  go_wp2_with fail
  refine K2.out.mono ?_
  rintro e w3 ⟨rfl, o2, c2⟩
  have X3 := Lib.hid (X2.out.chg c2 (fun hq => absurd (LT.out _ (List.mem_append_right _ hq)) (Nat.lt_irrefl _)))
  have C3 := Lib.hid (C2.out.trans (c2.mono (fun q hq => (List.mem_append_right _ hq))))
  have F3 := Lib.hid (F2.out.chg c2)
  have O0_3 := Lib.hid (Lt.ok.chg (by decide) O0_2.out c2 (fun q hq0 hq2 => by have hq := hq0; rw [Lt.mark_blks (M := EndR.md) _ _ EndR.mark_blks _ _] at hq; exact F2.out.apart q (List.mem_append_left _ hq) hq2))
  have O1_3 := Lib.hid (Lt.ok.chg (by decide) O1_2.out c2 (fun q hq0 hq2 => by have hq := hq0; rw [Lt.mark_blks (M := FlightR.md) _ _ FlightR.mark_blks _ _] at hq; exact F2.out.apart q (List.mem_append_right _ hq) hq2))
  have O2_3 := Lib.hid o2
  clear o2 c2 X2 C2 F2 K2 O0_2 O1_2 O2_2
  go_wp2
  go_ret
  exact ⟨rfl, ⟨⟨O0_3.out, O1_3.out⟩, O2_3.out⟩, C3.out⟩

end Go.Proofs.Ytbngdenlplbjhaa
