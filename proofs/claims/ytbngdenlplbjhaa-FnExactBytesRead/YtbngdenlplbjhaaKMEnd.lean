/-
  Lists of End: the helpers of the laws that mark one, and look whether the marks are held.
-/
import Derived.Test.YtbngdenlplbjhaaKLEnd
import Derived.Test.YtbngdenlplbjhaaKMPiece
import Derived.Test.YtbngdenlplbjhaaKM
namespace Go.Proofs.Ytbngdenlplbjhaa
open Go.ChangeShapes Go.WideShapes Go.ChangeAt Go.RowKit

theorem EndR.mkn_eq (p : EndR) : EndR.mkn p = 12 + p.f6.z.length + sw PieceR.mkn p.f10.rs := by simp only [EndR.mkn, EndR.val, EndV.mrk, sw_map]; rfl
def EndR.zok (p : EndR) : Prop := p.f6.z.length = p.f6.l ∧ (∀ q ∈ p.f10.rs, PieceR.zok q)
theorem EndR.zok_of {w : World} {p : EndR} (h : EndR.ok w p) : EndR.zok p := ⟨h.1.length, fun q hq => PieceR.zok_of (h.2.data q hq)⟩
set_option maxRecDepth 20000 in
set_option maxHeartbeats 8000000 in
theorem markEndS_any (x : Lt EndR) (k0 : Nat) (w : World) (h : Lt.ok EndR.md w x) (hf : Fzs w (Lt.blks EndR.md x)) (hs : sw EndR.mkn x.rs ≤ 16777216) (hk0 : k0 ≤ 50000000) :
    Calls Try.prog 70 #[.slice x.a x.l x.c, .int .i64 k0] w fun e w' => e = .returned (.int .i64 (k0 + sw EndR.mkn x.rs : Nat)) ∧ Lt.ok EndR.md w' (Lt.mark EndR.mark EndR.mkn k0 x) ∧ Chg (Lt.blks EndR.md x) w w' := by
  obtain ⟨a, len, cap, ps⟩ := x
  unfold Lt.mark
  dsimp only at hs ⊢
  have HP := Lib.hid h
  have HF := Lib.hid hf
  have HS := Lib.hid hs
  have HL := Lib.hid (show ps.length = len from h.length)
  have hlm : len ≤ maxLen := Nat.le_trans h.le h.max
  unfold maxLen at hlm
  clear h hs hf
  go_enter Try.func70, Try.ntmps70
  go_wp2
  go_loopw [1, 5] (fun kk i wr => ∃ (j t : Nat), j ≤ len ∧ i = .int .i64 j ∧ kk = .int .i64 t ∧ t ≤ 70000000 ∧ Hid (t = k0 + sw EndR.mkn (ps.take j)) ∧ Hid (Lt.ok EndR.md wr ⟨a, len, cap, markRs EndR.mark EndR.mkn k0 (ps.take j) ++ ps.drop j⟩) ∧ Hid (Chg (Lt.blks EndR.md ⟨a, len, cap, ps⟩) w wr)) (fun _ i _ => len - (intOf i).toNat)
  case atStart => exact ⟨0, k0, Nat.zero_le _, rfl, rfl, by omega, by simp [Hid, sw], by simpa [Hid, markRs] using HP.out, Chg.refl _ _⟩
  case round =>
    obtain ⟨j, t, hj, rfl, rfl, htb, hT, hP, hC⟩ := hrel
    by_cases hlt : j < len
    · obtain ⟨p, hp⟩ : ∃ p, ps[j]? = some p := ⟨_, List.getElem?_eq_getElem (by rw [HL.out]; exact hlt)⟩
      have hd := markRs_left EndR.mark EndR.mkn k0 hp
      have hst := Lib.hid (markRs_step EndR.mark EndR.mkn k0 hp)
      have hT' := Lib.hid (sw_succ EndR.mkn hp)
      have hle := Lib.hid (sw_take_le EndR.mkn ps (j + 1))
      obtain ⟨b, off, p', ha, hp', r, d⟩ := hP.out.at hlt
      dsimp only at hp' ha
      rw [hd] at hp'
      cases hp'
      subst ha
      have hF : Fzs wr (Lt.blks EndR.md ⟨some ⟨b, off, none⟩, len, cap, markRs EndR.mark EndR.mkn k0 (ps.take j) ++ ps.drop j⟩) := by
        rw [mixed_blks EndR.mark EndR.mkn EndR.mark_blks]
        exact HF.out.chg hC.out
      obtain ⟨fp, fa, fo⟩ := Lt.apart hF hd (show len ≠ 0 by omega)
      obtain ⟨fb, fu⟩ := fa _ rfl
      dsimp only at fb fu
      have FO := Lib.hid fo
      have FP := Lib.hid (show Fzs wr (EndR.blks p) from fp)
      have FB := Lib.hid (show b ∉ EndR.blks p from fb)
      have FU := Lib.hid fu
      have HB := Lib.hid fu.lt
      have SUB := Lib.hid (show ∀ k ∈ b :: EndR.blks p, k ∈ Lt.blks EndR.md ⟨some ⟨b, off, none⟩, len, cap, ps⟩ from fun k hk => by
        rcases List.mem_cons.1 hk with rfl | hk
        · exact List.mem_append_left _ (by dsimp only; rw [sb_some (show len ≠ 0 by omega)]; exact List.mem_singleton.2 rfl)
        · exact List.mem_append_right _ (mem_flat (M := EndR.md) (List.mem_of_getElem? hp) hk))
      have hmk : EndR.mkn p ≤ 16777216 := by have := HS.out; have := hle.out; have := hT'.out; omega
      have hmn : EndR.mkn p = 12 + p.f6.z.length + sw PieceR.mkn p.f10.rs := EndR.mkn_eq p
      have hbd0 : t + EndR.mkn p ≤ 70000000 := by have := HS.out; have := hle.out; have := hT'.out; have := hT.out; omega
      have HM := Lib.hid hmn
      have r0 : Hid (Row wr b (off + j * 14) [.int .i64 p.f0, .int .i64 p.f1, .int .i64 p.f2, .int .i64 p.f3, .int .i64 p.f4, .int .i64 p.f5, .slice p.f6.a p.f6.l p.f6.c, .bool p.f7, .int .i64 p.f8, .int .i64 p.f9, .slice p.f10.a p.f10.l p.f10.c, .int .i64 p.f11, .int .i64 p.f12, .int .i64 p.f13]) := r
      have D_0 := Lib.hid (show EndR.ok wr p from d)
      have S0 := Lib.hid (St.refl b (off + j * 14) (off + j * 14 + 14) (EndR.blks p) wr)
      have O0_0 : Hid (Yt.ok wr p.f6) := D_0.out.1
      have O1_0 : Hid (Lt.ok PieceR.md wr p.f10) := D_0.out.2
      clear hd r d hF fp fa fo fb fu hp D_0 hmn
      have c0 : wr.cell? ⟨b, off + j * 14, none⟩ = some (.int .i64 p.f0) := r0.out 0 _ rfl
      have g0 := (S0.out.unf _ FU.out).at (off + j * 14)
      have c1 : wr.cell? ⟨b, off + j * 14 + 1, none⟩ = some (.int .i64 p.f1) := r0.out 1 _ rfl
      have g1 := (S0.out.unf _ FU.out).at (off + j * 14 + 1)
      have c2 : wr.cell? ⟨b, off + j * 14 + 2, none⟩ = some (.int .i64 p.f2) := r0.out 2 _ rfl
      have g2 := (S0.out.unf _ FU.out).at (off + j * 14 + 2)
      have c3 : wr.cell? ⟨b, off + j * 14 + 3, none⟩ = some (.int .i64 p.f3) := r0.out 3 _ rfl
      have g3 := (S0.out.unf _ FU.out).at (off + j * 14 + 3)
      have c4 : wr.cell? ⟨b, off + j * 14 + 4, none⟩ = some (.int .i64 p.f4) := r0.out 4 _ rfl
      have g4 := (S0.out.unf _ FU.out).at (off + j * 14 + 4)
      have c5 : wr.cell? ⟨b, off + j * 14 + 5, none⟩ = some (.int .i64 p.f5) := r0.out 5 _ rfl
      have g5 := (S0.out.unf _ FU.out).at (off + j * 14 + 5)
      have c6 : wr.cell? ⟨b, off + j * 14 + 6, none⟩ = some (.slice p.f6.a p.f6.l p.f6.c) := r0.out 6 _ rfl
      have g6 := (S0.out.unf _ FU.out).at (off + j * 14 + 6)
      have Q0 : Hid (Row ((((((wr.setCell ⟨b, off + j * 14, none⟩ (.int .i64 ((t : Int)))).setCell ⟨b, off + j * 14 + 1, none⟩ (.int .i64 ((t : Int) + 1))).setCell ⟨b, off + j * 14 + 2, none⟩ (.int .i64 ((t : Int) + 1 + 1))).setCell ⟨b, off + j * 14 + 3, none⟩ (.int .i64 ((t : Int) + 1 + 1 + 1))).setCell ⟨b, off + j * 14 + 4, none⟩ (.int .i64 ((t : Int) + 1 + 1 + 1 + 1))).setCell ⟨b, off + j * 14 + 5, none⟩ (.int .i64 ((t : Int) + 1 + 1 + 1 + 1 + 1))) b (off + j * 14) [.int .i64 ((t : Int)), .int .i64 ((t : Int) + 1), .int .i64 ((t : Int) + 1 + 1), .int .i64 ((t : Int) + 1 + 1 + 1), .int .i64 ((t : Int) + 1 + 1 + 1 + 1), .int .i64 ((t : Int) + 1 + 1 + 1 + 1 + 1), .slice p.f6.a p.f6.l p.f6.c, .bool p.f7, .int .i64 p.f8, .int .i64 p.f9, .slice p.f10.a p.f10.l p.f10.c, .int .i64 p.f11, .int .i64 p.f12, .int .i64 p.f13]) := ((((((r0.out.set 0 (.int .i64 ((t : Int))) (by simp)).set 1 (.int .i64 ((t : Int) + 1)) (by simp)).set 2 (.int .i64 ((t : Int) + 1 + 1)) (by simp)).set 3 (.int .i64 ((t : Int) + 1 + 1 + 1)) (by simp)).set 4 (.int .i64 ((t : Int) + 1 + 1 + 1 + 1)) (by simp)).set 5 (.int .i64 ((t : Int) + 1 + 1 + 1 + 1 + 1)) (by simp))
      have T0 : Hid (St b (off + j * 14) (off + j * 14 + 14) (EndR.blks p) wr ((((((wr.setCell ⟨b, off + j * 14, none⟩ (.int .i64 ((t : Int)))).setCell ⟨b, off + j * 14 + 1, none⟩ (.int .i64 ((t : Int) + 1))).setCell ⟨b, off + j * 14 + 2, none⟩ (.int .i64 ((t : Int) + 1 + 1))).setCell ⟨b, off + j * 14 + 3, none⟩ (.int .i64 ((t : Int) + 1 + 1 + 1))).setCell ⟨b, off + j * 14 + 4, none⟩ (.int .i64 ((t : Int) + 1 + 1 + 1 + 1))).setCell ⟨b, off + j * 14 + 5, none⟩ (.int .i64 ((t : Int) + 1 + 1 + 1 + 1 + 1)))) := ((((((S0.out.set (off + j * 14) (.int .i64 ((t : Int))) (by omega) (by omega)).set (off + j * 14 + 1) (.int .i64 ((t : Int) + 1)) (by omega) (by omega)).set (off + j * 14 + 2) (.int .i64 ((t : Int) + 1 + 1)) (by omega) (by omega)).set (off + j * 14 + 3) (.int .i64 ((t : Int) + 1 + 1 + 1)) (by omega) (by omega)).set (off + j * 14 + 4) (.int .i64 ((t : Int) + 1 + 1 + 1 + 1)) (by omega) (by omega)).set (off + j * 14 + 5) (.int .i64 ((t : Int) + 1 + 1 + 1 + 1 + 1)) (by omega) (by omega))
      have U0 : Hid (St b (off + j * 14) (off + j * 14 + 14) [] wr ((((((wr.setCell ⟨b, off + j * 14, none⟩ (.int .i64 ((t : Int)))).setCell ⟨b, off + j * 14 + 1, none⟩ (.int .i64 ((t : Int) + 1))).setCell ⟨b, off + j * 14 + 2, none⟩ (.int .i64 ((t : Int) + 1 + 1))).setCell ⟨b, off + j * 14 + 3, none⟩ (.int .i64 ((t : Int) + 1 + 1 + 1))).setCell ⟨b, off + j * 14 + 4, none⟩ (.int .i64 ((t : Int) + 1 + 1 + 1 + 1))).setCell ⟨b, off + j * 14 + 5, none⟩ (.int .i64 ((t : Int) + 1 + 1 + 1 + 1 + 1)))) := (((((((St.refl b (off + j * 14) (off + j * 14 + 14) [] wr).set (off + j * 14) (.int .i64 ((t : Int))) (by omega) (by omega)).set (off + j * 14 + 1) (.int .i64 ((t : Int) + 1)) (by omega) (by omega)).set (off + j * 14 + 2) (.int .i64 ((t : Int) + 1 + 1)) (by omega) (by omega)).set (off + j * 14 + 3) (.int .i64 ((t : Int) + 1 + 1 + 1)) (by omega) (by omega)).set (off + j * 14 + 4) (.int .i64 ((t : Int) + 1 + 1 + 1 + 1)) (by omega) (by omega)).set (off + j * 14 + 5) (.int .i64 ((t : Int) + 1 + 1 + 1 + 1 + 1)) (by omega) (by omega))
      obtain ⟨t1, hnt1⟩ : ∃ q, q = (t + 6) + p.f6.z.length := ⟨_, rfl⟩
      have HNt1 := Lib.hid hnt1
      have bnt1 : t1 ≤ 70000000 := by have := HM.out; have := HNt1.out; omega
      have E0 : Yt.ok ((((((wr.setCell ⟨b, off + j * 14, none⟩ (.int .i64 ((t : Int)))).setCell ⟨b, off + j * 14 + 1, none⟩ (.int .i64 ((t : Int) + 1))).setCell ⟨b, off + j * 14 + 2, none⟩ (.int .i64 ((t : Int) + 1 + 1))).setCell ⟨b, off + j * 14 + 3, none⟩ (.int .i64 ((t : Int) + 1 + 1 + 1))).setCell ⟨b, off + j * 14 + 4, none⟩ (.int .i64 ((t : Int) + 1 + 1 + 1 + 1))).setCell ⟨b, off + j * 14 + 5, none⟩ (.int .i64 ((t : Int) + 1 + 1 + 1 + 1 + 1))) p.f6 := Yt.ok.keep O0_0.out (fun q hq => U0.out.block q (Yt.ok.lt O0_0.out q hq) (fun e => FB.out (by rw [← e]; exact (List.mem_append_left _ hq))) (fun e => by cases e))
      have K0 := Lib.hid (markByteS_y p.f6 (t + 6) _ E0 ⟨(FP.out.left).nodup, fun q hq => T0.out.unf q ((FP.out.left).unf q hq)⟩ (by have := HM.out; omega) (by have := HM.out;  omega))
      rw [← hnt1, show (((t + 6) : Nat) : Int) = ((t : Int) + 1 + 1 + 1 + 1 + 1 + 1) by omega] at K0
      clear hnt1
      clear E0
      go_wp2_with fail
      refine K0.out.mono ?_
      rintro e w1 ⟨rfl, o0, x0⟩
      have r1 := Lib.hid (Q0.out.chg x0 (fun hq => FB.out (List.mem_append_left _ hq)))
      have S1 := Lib.hid (T0.out.call x0 (fun hq => FB.out (List.mem_append_left _ hq)) HB.out (fun q hq => (List.mem_append_left _ hq)))
      have O0_1 := Lib.hid o0
      have O1_1 : Hid (Lt.ok PieceR.md w1 p.f10) := Lt.ok.keep O1_0.out (fun q hq => by exact (x0.block q (Nat.lt_of_lt_of_le (Lt.ok.lt (by decide) O1_0.out q hq) U0.out.size) (fun hq2 => FP.out.apart q hq2 hq)).trans (U0.out.block q (Lt.ok.lt (by decide) O1_0.out q hq) (fun e => FB.out (by rw [← e]; exact (List.mem_append_right _ hq))) (fun e => by cases e)))
      clear o0 x0 K0 Q0 T0 U0 r0 S0 c0 g0 c1 g1 c2 g2 c3 g3 c4 g4 c5 g5 c6 g6 O0_0 O1_0
      have c7 : w1.cell? ⟨b, off + j * 14 + 7, none⟩ = some (.bool p.f7) := r1.out 7 _ rfl
      have g7 := (S1.out.unf _ FU.out).at (off + j * 14 + 7)
      have c8 : w1.cell? ⟨b, off + j * 14 + 8, none⟩ = some (.int .i64 p.f8) := r1.out 8 _ rfl
      have g8 := (S1.out.unf _ FU.out).at (off + j * 14 + 8)
      have c9 : w1.cell? ⟨b, off + j * 14 + 9, none⟩ = some (.int .i64 p.f9) := r1.out 9 _ rfl
      have g9 := (S1.out.unf _ FU.out).at (off + j * 14 + 9)
      have c10 : w1.cell? ⟨b, off + j * 14 + 10, none⟩ = some (.slice p.f10.a p.f10.l p.f10.c) := r1.out 10 _ rfl
      have g10 := (S1.out.unf _ FU.out).at (off + j * 14 + 10)
      have Q1 : Hid (Row (((w1.setCell ⟨b, off + j * 14 + 7, none⟩ (.bool ((t1 : Int) % 3 == 0))).setCell ⟨b, off + j * 14 + 8, none⟩ (.int .i64 ((t1 : Int) + 1))).setCell ⟨b, off + j * 14 + 9, none⟩ (.int .i64 ((t1 : Int) + 1 + 1))) b (off + j * 14) [.int .i64 ((t : Int)), .int .i64 ((t : Int) + 1), .int .i64 ((t : Int) + 1 + 1), .int .i64 ((t : Int) + 1 + 1 + 1), .int .i64 ((t : Int) + 1 + 1 + 1 + 1), .int .i64 ((t : Int) + 1 + 1 + 1 + 1 + 1), .slice p.f6.a p.f6.l p.f6.c, .bool ((t1 : Int) % 3 == 0), .int .i64 ((t1 : Int) + 1), .int .i64 ((t1 : Int) + 1 + 1), .slice p.f10.a p.f10.l p.f10.c, .int .i64 p.f11, .int .i64 p.f12, .int .i64 p.f13]) := (((r1.out.set 7 (.bool ((t1 : Int) % 3 == 0)) (by simp)).set 8 (.int .i64 ((t1 : Int) + 1)) (by simp)).set 9 (.int .i64 ((t1 : Int) + 1 + 1)) (by simp))
      have T1 : Hid (St b (off + j * 14) (off + j * 14 + 14) (EndR.blks p) wr (((w1.setCell ⟨b, off + j * 14 + 7, none⟩ (.bool ((t1 : Int) % 3 == 0))).setCell ⟨b, off + j * 14 + 8, none⟩ (.int .i64 ((t1 : Int) + 1))).setCell ⟨b, off + j * 14 + 9, none⟩ (.int .i64 ((t1 : Int) + 1 + 1)))) := (((S1.out.set (off + j * 14 + 7) (.bool ((t1 : Int) % 3 == 0)) (by omega) (by omega)).set (off + j * 14 + 8) (.int .i64 ((t1 : Int) + 1)) (by omega) (by omega)).set (off + j * 14 + 9) (.int .i64 ((t1 : Int) + 1 + 1)) (by omega) (by omega))
      have U1 : Hid (St b (off + j * 14) (off + j * 14 + 14) [] w1 (((w1.setCell ⟨b, off + j * 14 + 7, none⟩ (.bool ((t1 : Int) % 3 == 0))).setCell ⟨b, off + j * 14 + 8, none⟩ (.int .i64 ((t1 : Int) + 1))).setCell ⟨b, off + j * 14 + 9, none⟩ (.int .i64 ((t1 : Int) + 1 + 1)))) := ((((St.refl b (off + j * 14) (off + j * 14 + 14) [] w1).set (off + j * 14 + 7) (.bool ((t1 : Int) % 3 == 0)) (by omega) (by omega)).set (off + j * 14 + 8) (.int .i64 ((t1 : Int) + 1)) (by omega) (by omega)).set (off + j * 14 + 9) (.int .i64 ((t1 : Int) + 1 + 1)) (by omega) (by omega))
      obtain ⟨t2, hnt2⟩ : ∃ q, q = (t1 + 3) + sw PieceR.mkn p.f10.rs := ⟨_, rfl⟩
      have HNt2 := Lib.hid hnt2
      have bnt2 : t2 ≤ 70000000 := by have := HM.out; have := HNt1.out; have := HNt2.out; omega
      have E1 : Lt.ok PieceR.md (((w1.setCell ⟨b, off + j * 14 + 7, none⟩ (.bool ((t1 : Int) % 3 == 0))).setCell ⟨b, off + j * 14 + 8, none⟩ (.int .i64 ((t1 : Int) + 1))).setCell ⟨b, off + j * 14 + 9, none⟩ (.int .i64 ((t1 : Int) + 1 + 1))) p.f10 := Lt.ok.keep O1_1.out (fun q hq => U1.out.block q (Lt.ok.lt (by decide) O1_1.out q hq) (fun e => FB.out (by rw [← e]; exact (List.mem_append_right _ hq))) (fun e => by cases e))
      have K1 := Lib.hid (markPieceS_any p.f10 (t1 + 3) _ E1 ⟨(FP.out.right).nodup, fun q hq => T1.out.unf q ((FP.out.right).unf q hq)⟩ (by have := HM.out; omega) (by have := HM.out; have := HNt1.out; omega))
      rw [← hnt2, show (((t1 + 3) : Nat) : Int) = ((t1 : Int) + 1 + 1 + 1) by omega] at K1
      clear hnt2
      clear E1
      go_wp2_with fail
      refine K1.out.mono ?_
      rintro e w2 ⟨rfl, o1, x1⟩
      have r2 := Lib.hid (Q1.out.chg x1 (fun hq => FB.out (List.mem_append_right _ hq)))
      have S2 := Lib.hid (T1.out.call x1 (fun hq => FB.out (List.mem_append_right _ hq)) HB.out (fun q hq => (List.mem_append_right _ hq)))
      have O0_2 : Hid (Yt.ok w2 (p.f6.mark (t + 6))) := Yt.ok.keep O0_1.out (fun q hq => by exact (x1.block q (Nat.lt_of_lt_of_le (Yt.ok.lt O0_1.out q hq) U1.out.size) (fun hq2 => FP.out.apart q hq hq2)).trans (U1.out.block q (Yt.ok.lt O0_1.out q hq) (fun e => FB.out (by rw [← e]; exact (List.mem_append_left _ hq))) (fun e => by cases e)))
      have O1_2 := Lib.hid o1
      clear o1 x1 K1 Q1 T1 U1 r1 S1 c7 g7 c8 g8 c9 g9 c10 g10 O0_1 O1_1
      have c11 : w2.cell? ⟨b, off + j * 14 + 11, none⟩ = some (.int .i64 p.f11) := r2.out 11 _ rfl
      have g11 := (S2.out.unf _ FU.out).at (off + j * 14 + 11)
      have c12 : w2.cell? ⟨b, off + j * 14 + 12, none⟩ = some (.int .i64 p.f12) := r2.out 12 _ rfl
      have g12 := (S2.out.unf _ FU.out).at (off + j * 14 + 12)
      have c13 : w2.cell? ⟨b, off + j * 14 + 13, none⟩ = some (.int .i64 p.f13) := r2.out 13 _ rfl
      have g13 := (S2.out.unf _ FU.out).at (off + j * 14 + 13)
      have Q2 : Hid (Row (((w2.setCell ⟨b, off + j * 14 + 11, none⟩ (.int .i64 ((t2 : Int)))).setCell ⟨b, off + j * 14 + 12, none⟩ (.int .i64 ((t2 : Int) + 1))).setCell ⟨b, off + j * 14 + 13, none⟩ (.int .i64 ((t2 : Int) + 1 + 1))) b (off + j * 14) [.int .i64 ((t : Int)), .int .i64 ((t : Int) + 1), .int .i64 ((t : Int) + 1 + 1), .int .i64 ((t : Int) + 1 + 1 + 1), .int .i64 ((t : Int) + 1 + 1 + 1 + 1), .int .i64 ((t : Int) + 1 + 1 + 1 + 1 + 1), .slice p.f6.a p.f6.l p.f6.c, .bool ((t1 : Int) % 3 == 0), .int .i64 ((t1 : Int) + 1), .int .i64 ((t1 : Int) + 1 + 1), .slice p.f10.a p.f10.l p.f10.c, .int .i64 ((t2 : Int)), .int .i64 ((t2 : Int) + 1), .int .i64 ((t2 : Int) + 1 + 1)]) := (((r2.out.set 11 (.int .i64 ((t2 : Int))) (by simp)).set 12 (.int .i64 ((t2 : Int) + 1)) (by simp)).set 13 (.int .i64 ((t2 : Int) + 1 + 1)) (by simp))
      have T2 : Hid (St b (off + j * 14) (off + j * 14 + 14) (EndR.blks p) wr (((w2.setCell ⟨b, off + j * 14 + 11, none⟩ (.int .i64 ((t2 : Int)))).setCell ⟨b, off + j * 14 + 12, none⟩ (.int .i64 ((t2 : Int) + 1))).setCell ⟨b, off + j * 14 + 13, none⟩ (.int .i64 ((t2 : Int) + 1 + 1)))) := (((S2.out.set (off + j * 14 + 11) (.int .i64 ((t2 : Int))) (by omega) (by omega)).set (off + j * 14 + 12) (.int .i64 ((t2 : Int) + 1)) (by omega) (by omega)).set (off + j * 14 + 13) (.int .i64 ((t2 : Int) + 1 + 1)) (by omega) (by omega))
      have U2 : Hid (St b (off + j * 14) (off + j * 14 + 14) [] w2 (((w2.setCell ⟨b, off + j * 14 + 11, none⟩ (.int .i64 ((t2 : Int)))).setCell ⟨b, off + j * 14 + 12, none⟩ (.int .i64 ((t2 : Int) + 1))).setCell ⟨b, off + j * 14 + 13, none⟩ (.int .i64 ((t2 : Int) + 1 + 1)))) := ((((St.refl b (off + j * 14) (off + j * 14 + 14) [] w2).set (off + j * 14 + 11) (.int .i64 ((t2 : Int))) (by omega) (by omega)).set (off + j * 14 + 12) (.int .i64 ((t2 : Int) + 1)) (by omega) (by omega)).set (off + j * 14 + 13) (.int .i64 ((t2 : Int) + 1 + 1)) (by omega) (by omega))
      have hcell : [.int .i64 ((t : Int)), .int .i64 ((t : Int) + 1), .int .i64 ((t : Int) + 1 + 1), .int .i64 ((t : Int) + 1 + 1 + 1), .int .i64 ((t : Int) + 1 + 1 + 1 + 1), .int .i64 ((t : Int) + 1 + 1 + 1 + 1 + 1), .slice p.f6.a p.f6.l p.f6.c, .bool ((t1 : Int) % 3 == 0), .int .i64 ((t1 : Int) + 1), .int .i64 ((t1 : Int) + 1 + 1), .slice p.f10.a p.f10.l p.f10.c, .int .i64 ((t2 : Int)), .int .i64 ((t2 : Int) + 1), .int .i64 ((t2 : Int) + 1 + 1)] = EndR.cells (EndR.mark t p) := by have et2 := HNt2.out; subst et2; have et1 := HNt1.out; subst et1; simp only [mod3_dec]; rfl
      rw [hcell] at Q2
      clear hcell
      have V0 : Yt.ok (((w2.setCell ⟨b, off + j * 14 + 11, none⟩ (.int .i64 ((t2 : Int)))).setCell ⟨b, off + j * 14 + 12, none⟩ (.int .i64 ((t2 : Int) + 1))).setCell ⟨b, off + j * 14 + 13, none⟩ (.int .i64 ((t2 : Int) + 1 + 1))) (p.f6.mark (t + 6)) := Yt.ok.keep O0_2.out (fun q hq => by exact U2.out.block q (Yt.ok.lt O0_2.out q hq) (fun e => FB.out (by rw [← e]; exact (List.mem_append_left _ hq))) (fun e => by cases e))
      have V1 : Lt.ok PieceR.md (((w2.setCell ⟨b, off + j * 14 + 11, none⟩ (.int .i64 ((t2 : Int)))).setCell ⟨b, off + j * 14 + 12, none⟩ (.int .i64 ((t2 : Int) + 1))).setCell ⟨b, off + j * 14 + 13, none⟩ (.int .i64 ((t2 : Int) + 1 + 1))) (Lt.mark PieceR.mark PieceR.mkn (t1 + 3) p.f10) := Lt.ok.keep O1_2.out (fun q hq0 => by have hq := hq0; rw [Lt.mark_blks (M := PieceR.md) _ _ PieceR.mark_blks _ _] at hq; exact U2.out.block q (Lt.ok.lt (by decide) O1_2.out q hq0) (fun e => FB.out (by rw [← e]; exact (List.mem_append_right _ hq))) (fun e => by cases e))
      have DD : EndR.ok (((w2.setCell ⟨b, off + j * 14 + 11, none⟩ (.int .i64 ((t2 : Int)))).setCell ⟨b, off + j * 14 + 12, none⟩ (.int .i64 ((t2 : Int) + 1))).setCell ⟨b, off + j * 14 + 13, none⟩ (.int .i64 ((t2 : Int) + 1 + 1))) (EndR.mark t p) := by have et2 := HNt2.out; subst et2; have et1 := HNt1.out; subst et1; exact ⟨V0, V1⟩
      have P1 := hP.out.put rfl j hlt (EndR.mark t p) Q2.out (fun q hq => T2.out.cell q hq) DD (fun i q hi hq k hk => T2.out.block k (by have := HB.out; exact hP.out.lt (by decide) k (List.mem_append_right _ (mem_flat (M := EndR.md) (List.mem_of_getElem? hq) hk))) ((FO.out i q hi hq k hk).2 _ rfl) (FO.out i q hi hq k hk).1)
      dsimp only at P1
      rw [hT.out, hst.out] at P1
      have Q1 := Lib.hid P1
      have C1 := Lib.hid (hC.out.trans (T2.out.chg.mono SUB.out))
      have hV : Hid (t2 + 3 = k0 + sw EndR.mkn (ps.take (j + 1))) := by have := hT.out; have := hT'.out; have := HM.out; have := HNt1.out; have := HNt2.out; simp only [Hid]; omega
      have hbd : t2 + 3 ≤ 70000000 := by have := HM.out; have := HNt1.out; have := HNt2.out; omega
      clear DD V0 V1 P1 Q2 T2 U2 r2 S2 hT hP hC hst hT' hle HM SUB FO FB HB O0_2 O1_2
      go_wp2
      go_roundw
      case rel => exact ⟨j + 1, t2 + 3, by omega, by go_num, by go_num, hbd, hV.out, Q1.out, C1.out⟩
      case measure => simp [intOf]; omega
    · obtain rfl : j = len := by omega
      have hE : Hid (Lt.ok EndR.md wr ⟨a, j, cap, markRs EndR.mark EndR.mkn k0 ps⟩) := by
        have := hP.out
        rw [List.take_of_length_le (by rw [HL.out]; exact Nat.le_refl _), List.drop_of_length_le (by rw [HL.out]; exact Nat.le_refl _), List.append_nil] at this
        exact this
      have hV : Hid (t = k0 + sw EndR.mkn ps) := by
        have e := hT.out
        rwa [List.take_of_length_le (by rw [HL.out]; exact Nat.le_refl _)] at e
      clear hP hT
      go_wp2
      go_ret
      exact ⟨ret_i (by rw [hV.out]), hE.out, hC.out⟩

end Go.Proofs.Ytbngdenlplbjhaa
