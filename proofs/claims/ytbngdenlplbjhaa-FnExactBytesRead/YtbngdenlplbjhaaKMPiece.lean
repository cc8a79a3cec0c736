/-
  Lists of Piece: the helpers of the laws that mark one, and look whether the marks are held.
-/
import Derived.Test.YtbngdenlplbjhaaKLPiece
import Derived.Test.YtbngdenlplbjhaaKM
namespace Go.Proofs.Ytbngdenlplbjhaa
open Go.ChangeShapes Go.WideShapes Go.ChangeAt Go.RowKit

def PieceR.zok (p : PieceR) : Prop := p.f1.z.length = p.f1.l
theorem PieceR.zok_of {w : World} {p : PieceR} (h : PieceR.ok w p) : PieceR.zok p := (show Yt.ok w p.f1 from h).length
set_option maxRecDepth 20000 in
set_option maxHeartbeats 4000000 in
theorem markPieceS_any (x : Lt PieceR) (k0 : Nat) (w : World) (h : Lt.ok PieceR.md w x) (hf : Fzs w (Lt.blks PieceR.md x)) (hs : sw PieceR.mkn x.rs ≤ 16777216) (hk0 : k0 ≤ 100000000) :
    Calls Try.prog 92 #[.slice x.a x.l x.c, .int .i64 k0] w fun e w' => e = .returned (.int .i64 (k0 + sw PieceR.mkn x.rs : Nat)) ∧ Lt.ok PieceR.md w' (Lt.mark PieceR.mark PieceR.mkn k0 x) ∧ Chg (Lt.blks PieceR.md x) w w' := by
  obtain ⟨a, len, cap, ps⟩ := x
  unfold Lt.mark
  dsimp only at hs ⊢
  have HP := Lib.hid h
  have HF := Lib.hid hf
  have HS := Lib.hid hs
  have HL := Lib.hid (show ps.length = len from h.length)
  have hlm : len ≤ maxLen := Nat.le_trans h.le h.max
  unfold maxLen at hlm
  clear h hs hf
  go_enter Try.func92, Try.ntmps92
  go_wp2
  go_loopw [1, 5] (fun kk i wr => ∃ (j t : Nat), j ≤ len ∧ i = .int .i64 j ∧ kk = .int .i64 t ∧ t ≤ 700000000 ∧ Hid (t = k0 + sw PieceR.mkn (ps.take j)) ∧ Hid (Lt.ok PieceR.md wr ⟨a, len, cap, markRs PieceR.mark PieceR.mkn k0 (ps.take j) ++ ps.drop j⟩) ∧ Hid (Chg (Lt.blks PieceR.md ⟨a, len, cap, ps⟩) w wr)) (fun _ i _ => len - (intOf i).toNat)
  case atStart => exact ⟨0, k0, Nat.zero_le _, rfl, rfl, by omega, by simp [Hid, sw], by simpa [Hid, markRs] using HP.out, Chg.refl _ _⟩
  case round =>
    obtain ⟨j, t, hj, rfl, rfl, htb, hT, hP, hC⟩ := hrel
    by_cases hlt : j < len
    · obtain ⟨p, hp⟩ : ∃ p, ps[j]? = some p := ⟨_, List.getElem?_eq_getElem (by rw [HL.out]; exact hlt)⟩
      have hd := markRs_left PieceR.mark PieceR.mkn k0 hp
      have hst := Lib.hid (markRs_step PieceR.mark PieceR.mkn k0 hp)
      have hT' := Lib.hid (sw_succ PieceR.mkn hp)
      have hle := Lib.hid (sw_take_le PieceR.mkn ps (j + 1))
      obtain ⟨b, off, p', ha, hp', r, d⟩ := hP.out.at hlt
      dsimp only at hp' ha
      rw [hd] at hp'
      cases hp'
      subst ha
      have hF : Fzs wr (Lt.blks PieceR.md ⟨some ⟨b, off, none⟩, len, cap, markRs PieceR.mark PieceR.mkn k0 (ps.take j) ++ ps.drop j⟩) := by
        rw [mixed_blks PieceR.mark PieceR.mkn PieceR.mark_blks]
        exact HF.out.chg hC.out
      obtain ⟨fp, fa, fo⟩ := Lt.apart hF hd (show len ≠ 0 by omega)
      obtain ⟨fb, fu⟩ := fa _ rfl
      dsimp only at fb fu
      have FO := Lib.hid fo
      have FB := Lib.hid (show b ∉ PieceR.blks p from fb)
      have FU := Lib.hid fu
      have HB := Lib.hid fu.lt
      have SUB := Lib.hid (show ∀ k ∈ b :: PieceR.blks p, k ∈ Lt.blks PieceR.md ⟨some ⟨b, off, none⟩, len, cap, ps⟩ from fun k hk => by
        rcases List.mem_cons.1 hk with rfl | hk
        · exact List.mem_append_left _ (by dsimp only; rw [sb_some (show len ≠ 0 by omega)]; exact List.mem_singleton.2 rfl)
        · exact List.mem_append_right _ (mem_flat (M := PieceR.md) (List.mem_of_getElem? hp) hk))
      have hmk : PieceR.mkn p ≤ 16777216 := by have := HS.out; have := hle.out; have := hT'.out; omega
      have hmn : PieceR.mkn p = 1 + p.f1.z.length := by simp only [PieceR.mkn, PieceR.val, PieceV.mrk]
      have HM := Lib.hid hmn
      have r0 : Row wr b (off + j * 2) [.int .i64 p.f0, .slice p.f1.a p.f1.l p.f1.c] := r
      have S0 := St.refl b (off + j * 2) (off + j * 2 + 2) [] wr
      have GD := Lib.hid hd
      have c0 : wr.cell? ⟨b, off + j * 2, none⟩ = some (.int .i64 p.f0) := r0 0 _ rfl
      have g0 := FU.out.at (off + j * 2)
      have c1 : wr.cell? ⟨b, off + j * 2 + 1, none⟩ = some (.slice p.f1.a p.f1.l p.f1.c) := r0 1 _ rfl
      have g1 := FU.out.at (off + j * 2 + 1)
      have R0 : Hid (Row (wr.setCell ⟨b, off + j * 2, none⟩ (.int .i64 ((t : Int)))) b (off + j * 2) [.int .i64 ((t : Int)), .slice p.f1.a p.f1.l p.f1.c]) := (r0.set 0 (.int .i64 ((t : Int))) (by simp))
      have T0 : Hid (St b (off + j * 2) (off + j * 2 + 2) [] wr (wr.setCell ⟨b, off + j * 2, none⟩ (.int .i64 ((t : Int))))) := (S0.set (off + j * 2) (.int .i64 ((t : Int))) (by omega) (by omega))
      have E0 : Yt.ok (wr.setCell ⟨b, off + j * 2, none⟩ (.int .i64 ((t : Int)))) p.f1 := Yt.ok.keep (show Yt.ok wr p.f1 from d) (fun q hq => T0.out.block q (Yt.ok.lt (show Yt.ok wr p.f1 from d) q hq) (fun e => FB.out (by rw [← e]; exact hq)) (fun e => by cases e))
      have K0 := Lib.hid (markByteS_y p.f1 (t + 1) _ E0 ⟨fp.nodup, fun q hq => T0.out.unf q (fp.unf q hq)⟩ (by omega) (by omega))
      rw [show ((t + 1 : Nat) : Int) = (t : Int) + 1 by omega] at K0
      clear hd r d hF fp fa fo fb fu hp r0 S0 E0
      go_wp2_with fail
      refine K0.out.mono ?_
      rintro e w1 ⟨rfl, o1, x1⟩
      have rw1 := R0.out.chg x1 FB.out
      have st1 := (T0.out.mono (cs := PieceR.blks p) (fun _ e => by cases e)).call x1 FB.out HB.out (fun q hq => hq)
      have hcell : [.int .i64 ((t : Int)), .slice p.f1.a p.f1.l p.f1.c] = PieceR.cells (PieceR.mark t p) := by simp [PieceR.cells, PieceR.mark, Yt.mark]
      rw [hcell] at rw1
      have P1 := hP.out.put rfl j hlt (PieceR.mark t p) rw1 (fun q hq => st1.cell q hq) (show PieceR.ok w1 (PieceR.mark t p) from o1) (fun i q hi hq k hk => st1.block k (by have := HB.out; exact hP.out.lt (by decide) k (List.mem_append_right _ (mem_flat (M := PieceR.md) (List.mem_of_getElem? hq) hk))) ((FO.out i q hi hq k hk).2 _ rfl) (FO.out i q hi hq k hk).1)
      dsimp only at P1
      rw [hT.out, hst.out] at P1
      have Q1 := Lib.hid P1
      have C1 := Lib.hid (hC.out.trans (st1.chg.mono SUB.out))
      have hV : Hid (t + 1 + p.f1.z.length = k0 + sw PieceR.mkn (ps.take (j + 1))) := by have := hT.out; have := hT'.out; have := HM.out; simp only [Hid]; omega
      have hbd : t + 1 + p.f1.z.length ≤ 700000000 := by have := HS.out; have := hle.out; have := hV.out; omega
      clear o1 x1 rw1 st1 hcell P1 K0 R0 T0 hT hP hC hst hT' hle c0 g0 c1 g1 hmn HM GD SUB FO FB FU HB
      go_wp2
      go_roundw
      case rel => exact ⟨j + 1, t + 1 + p.f1.z.length, by omega, by go_num, by go_num, hbd, hV.out, Q1.out, C1.out⟩
      case measure => simp [intOf]; omega
    · obtain rfl : j = len := by omega
      have hE : Hid (Lt.ok PieceR.md wr ⟨a, j, cap, markRs PieceR.mark PieceR.mkn k0 ps⟩) := by
        have := hP.out
        rw [List.take_of_length_le (by rw [HL.out]; exact Nat.le_refl _), List.drop_of_length_le (by rw [HL.out]; exact Nat.le_refl _), List.append_nil] at this
        exact this
      have hV : Hid (t = k0 + sw PieceR.mkn ps) := by
        have e := hT.out
        rwa [List.take_of_length_le (by rw [HL.out]; exact Nat.le_refl _)] at e
      clear hP hT
      go_wp2
      go_ret
      exact ⟨ret_i (by rw [hV.out]), hE.out, hC.out⟩

end Go.Proofs.Ytbngdenlplbjhaa
