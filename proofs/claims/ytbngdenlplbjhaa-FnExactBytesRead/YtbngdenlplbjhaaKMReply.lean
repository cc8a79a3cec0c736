/-
  Lists of Reply: the helpers of the laws that mark one, and look whether the marks are held.
-/
import Derived.Test.YtbngdenlplbjhaaKLReply
import Derived.Test.YtbngdenlplbjhaaKM
namespace Go.Proofs.Ytbngdenlplbjhaa
open Go.ChangeShapes Go.WideShapes Go.ChangeAt Go.RowKit

def ReplyR.zok (p : ReplyR) : Prop := p.f2.z.length = p.f2.l
theorem ReplyR.zok_of {w : World} {p : ReplyR} (h : ReplyR.ok w p) : ReplyR.zok p := (show Yt.ok w p.f2 from h).length
set_option maxRecDepth 20000 in
set_option maxHeartbeats 4000000 in
theorem markReplyS_any (x : Lt ReplyR) (k0 : Nat) (w : World) (h : Lt.ok ReplyR.md w x) (hf : Fzs w (Lt.blks ReplyR.md x)) (hs : sw ReplyR.mkn x.rs ≤ 16777216) (hk0 : k0 ≤ 100000000) :
    Calls Try.prog 72 #[.slice x.a x.l x.c, .int .i64 k0] w fun e w' => e = .returned (.int .i64 (k0 + sw ReplyR.mkn x.rs : Nat)) ∧ Lt.ok ReplyR.md w' (Lt.mark ReplyR.mark ReplyR.mkn k0 x) ∧ Chg (Lt.blks ReplyR.md x) w w' := by
  obtain ⟨a, len, cap, ps⟩ := x
  unfold Lt.mark
  dsimp only at hs ⊢
  have HP := Lib.hid h
  have HF := Lib.hid hf
  have HS := Lib.hid hs
  have HL := Lib.hid (show ps.length = len from h.length)
  have hlm : len ≤ maxLen := Nat.le_trans h.le h.max
  unfold maxLen at hlm
  clear h hs hf
  go_enter Try.func72, Try.ntmps72
  go_wp2
  go_loopw [1, 5] (fun kk i wr => ∃ (j t : Nat), j ≤ len ∧ i = .int .i64 j ∧ kk = .int .i64 t ∧ t ≤ 700000000 ∧ Hid (t = k0 + sw ReplyR.mkn (ps.take j)) ∧ Hid (Lt.ok ReplyR.md wr ⟨a, len, cap, markRs ReplyR.mark ReplyR.mkn k0 (ps.take j) ++ ps.drop j⟩) ∧ Hid (Chg (Lt.blks ReplyR.md ⟨a, len, cap, ps⟩) w wr)) (fun _ i _ => len - (intOf i).toNat)
  case atStart => exact ⟨0, k0, Nat.zero_le _, rfl, rfl, by omega, by simp [Hid, sw], by simpa [Hid, markRs] using HP.out, Chg.refl _ _⟩
  case round =>
    obtain ⟨j, t, hj, rfl, rfl, htb, hT, hP, hC⟩ := hrel
    by_cases hlt : j < len
    · obtain ⟨p, hp⟩ : ∃ p, ps[j]? = some p := ⟨_, List.getElem?_eq_getElem (by rw [HL.out]; exact hlt)⟩
      have hd := markRs_left ReplyR.mark ReplyR.mkn k0 hp
      have hst := Lib.hid (markRs_step ReplyR.mark ReplyR.mkn k0 hp)
      have hT' := Lib.hid (sw_succ ReplyR.mkn hp)
      have hle := Lib.hid (sw_take_le ReplyR.mkn ps (j + 1))
      obtain ⟨b, off, p', ha, hp', r, d⟩ := hP.out.at hlt
      dsimp only at hp' ha
      rw [hd] at hp'
      cases hp'
      subst ha
      have hF : Fzs wr (Lt.blks ReplyR.md ⟨some ⟨b, off, none⟩, len, cap, markRs ReplyR.mark ReplyR.mkn k0 (ps.take j) ++ ps.drop j⟩) := by
        rw [mixed_blks ReplyR.mark ReplyR.mkn ReplyR.mark_blks]
        exact HF.out.chg hC.out
      obtain ⟨fp, fa, fo⟩ := Lt.apart hF hd (show len ≠ 0 by omega)
      obtain ⟨fb, fu⟩ := fa _ rfl
      dsimp only at fb fu
      have FO := Lib.hid fo
      have FB := Lib.hid (show b ∉ ReplyR.blks p from fb)
      have FU := Lib.hid fu
      have HB := Lib.hid fu.lt
      have SUB := Lib.hid (show ∀ k ∈ b :: ReplyR.blks p, k ∈ Lt.blks ReplyR.md ⟨some ⟨b, off, none⟩, len, cap, ps⟩ from fun k hk => by
        rcases List.mem_cons.1 hk with rfl | hk
        · exact List.mem_append_left _ (by dsimp only; rw [sb_some (show len ≠ 0 by omega)]; exact List.mem_singleton.2 rfl)
        · exact List.mem_append_right _ (mem_flat (M := ReplyR.md) (List.mem_of_getElem? hp) hk))
      have hmk : ReplyR.mkn p ≤ 16777216 := by have := HS.out; have := hle.out; have := hT'.out; omega
      have hmn : ReplyR.mkn p = 2 + p.f2.z.length := by simp only [ReplyR.mkn, ReplyR.val, ReplyV.mrk]
      have HM := Lib.hid hmn
      have r0 : Row wr b (off + j * 3) [.int .i64 p.f0, .int .i64 p.f1, .slice p.f2.a p.f2.l p.f2.c] := r
      have S0 := St.refl b (off + j * 3) (off + j * 3 + 3) [] wr
      have GD := Lib.hid hd
      have c0 : wr.cell? ⟨b, off + j * 3, none⟩ = some (.int .i64 p.f0) := r0 0 _ rfl
      have g0 := FU.out.at (off + j * 3)
      have c1 : wr.cell? ⟨b, off + j * 3 + 1, none⟩ = some (.int .i64 p.f1) := r0 1 _ rfl
      have g1 := FU.out.at (off + j * 3 + 1)
      have c2 : wr.cell? ⟨b, off + j * 3 + 2, none⟩ = some (.slice p.f2.a p.f2.l p.f2.c) := r0 2 _ rfl
      have g2 := FU.out.at (off + j * 3 + 2)
      have R0 : Hid (Row ((wr.setCell ⟨b, off + j * 3, none⟩ (.int .i64 ((t : Int)))).setCell ⟨b, off + j * 3 + 1, none⟩ (.int .i64 ((t : Int) + 1))) b (off + j * 3) [.int .i64 ((t : Int)), .int .i64 ((t : Int) + 1), .slice p.f2.a p.f2.l p.f2.c]) := ((r0.set 0 (.int .i64 ((t : Int))) (by simp)).set 1 (.int .i64 ((t : Int) + 1)) (by simp))
      have T0 : Hid (St b (off + j * 3) (off + j * 3 + 3) [] wr ((wr.setCell ⟨b, off + j * 3, none⟩ (.int .i64 ((t : Int)))).setCell ⟨b, off + j * 3 + 1, none⟩ (.int .i64 ((t : Int) + 1)))) := ((S0.set (off + j * 3) (.int .i64 ((t : Int))) (by omega) (by omega)).set (off + j * 3 + 1) (.int .i64 ((t : Int) + 1)) (by omega) (by omega))
      have E0 : Yt.ok ((wr.setCell ⟨b, off + j * 3, none⟩ (.int .i64 ((t : Int)))).setCell ⟨b, off + j * 3 + 1, none⟩ (.int .i64 ((t : Int) + 1))) p.f2 := Yt.ok.keep (show Yt.ok wr p.f2 from d) (fun q hq => T0.out.block q (Yt.ok.lt (show Yt.ok wr p.f2 from d) q hq) (fun e => FB.out (by rw [← e]; exact hq)) (fun e => by cases e))
      have K0 := Lib.hid (markByteS_y p.f2 (t + 2) _ E0 ⟨fp.nodup, fun q hq => T0.out.unf q (fp.unf q hq)⟩ (by omega) (by omega))
      rw [show ((t + 2 : Nat) : Int) = (t : Int) + 1 + 1 by omega] at K0
      clear hd r d hF fp fa fo fb fu hp r0 S0 E0
      go_wp2_with fail
      refine K0.out.mono ?_
      rintro e w1 ⟨rfl, o1, x1⟩
      have rw1 := R0.out.chg x1 FB.out
      have st1 := (T0.out.mono (cs := ReplyR.blks p) (fun _ e => by cases e)).call x1 FB.out HB.out (fun q hq => hq)
      have hcell : [.int .i64 ((t : Int)), .int .i64 ((t : Int) + 1), .slice p.f2.a p.f2.l p.f2.c] = ReplyR.cells (ReplyR.mark t p) := by simp [ReplyR.cells, ReplyR.mark, Yt.mark]
      rw [hcell] at rw1
      have P1 := hP.out.put rfl j hlt (ReplyR.mark t p) rw1 (fun q hq => st1.cell q hq) (show ReplyR.ok w1 (ReplyR.mark t p) from o1) (fun i q hi hq k hk => st1.block k (by have := HB.out; exact hP.out.lt (by decide) k (List.mem_append_right _ (mem_flat (M := ReplyR.md) (List.mem_of_getElem? hq) hk))) ((FO.out i q hi hq k hk).2 _ rfl) (FO.out i q hi hq k hk).1)
      dsimp only at P1
      rw [hT.out, hst.out] at P1
      have Q1 := Lib.hid P1
      have C1 := Lib.hid (hC.out.trans (st1.chg.mono SUB.out))
      have hV : Hid (t + 2 + p.f2.z.length = k0 + sw ReplyR.mkn (ps.take (j + 1))) := by have := hT.out; have := hT'.out; have := HM.out; simp only [Hid]; omega
      have hbd : t + 2 + p.f2.z.length ≤ 700000000 := by have := HS.out; have := hle.out; have := hV.out; omega
      clear o1 x1 rw1 st1 hcell P1 K0 R0 T0 hT hP hC hst hT' hle c0 g0 c1 g1 c2 g2 hmn HM GD SUB FO FB FU HB
      go_wp2
      go_roundw
      case rel => exact ⟨j + 1, t + 2 + p.f2.z.length, by omega, by go_num, by go_num, hbd, hV.out, Q1.out, C1.out⟩
      case measure => simp [intOf]; omega
    · obtain rfl : j = len := by omega
      have hE : Hid (Lt.ok ReplyR.md wr ⟨a, j, cap, markRs ReplyR.mark ReplyR.mkn k0 ps⟩) := by
        have := hP.out
        rw [List.take_of_length_le (by rw [HL.out]; exact Nat.le_refl _), List.drop_of_length_le (by rw [HL.out]; exact Nat.le_refl _), List.append_nil] at this
        exact this
      have hV : Hid (t = k0 + sw ReplyR.mkn ps) := by
        have e := hT.out
        rwa [List.take_of_length_le (by rw [HL.out]; exact Nat.le_refl _)] at e
      clear hP hT
      go_wp2
      go_ret
      exact ⟨ret_i (by rw [hV.out]), hE.out, hC.out⟩

end Go.Proofs.Ytbngdenlplbjhaa
