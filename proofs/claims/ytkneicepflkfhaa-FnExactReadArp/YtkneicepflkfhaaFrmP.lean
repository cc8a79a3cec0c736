/-
  PackFrame of the model, and the law FnExactPackFrame where the program's PackFrame answers so.
-/
import Derived.Test.YtkneicepflkfhaaFrm
namespace Go.Proofs.Ytkneicepflkfhaa
open Go.ChangeShapes Go.WideShapes Go.ChangeAt Go.RowKit

def frameL (to fr kd : Int) (zs : List Int) : List Int := be to 6 ++ be fr 6 ++ be kd 2 ++ zs
def FreshAny (w : World) (zs : List Int) (e : Ending) (w' : World) : Prop :=
  ∃ a' l' c', e = .returned (.slice a' l' c') ∧ Own w' w.heap.size a' l' c' zs ∧ Below w.heap.size w w'

set_option maxHeartbeats 2000000 in
theorem l2Frame_any (b : Nat) (to fr kd : Int) (a : Option Addr) (len cap : Nat) (zs : List Int) (w : World) (hx : Box w b 27 #[.int .i64 to, .int .i64 fr, .int .i64 kd, .slice a len cap]) (hr : Rd w a len cap zs)
    (h0 : 0 ≤ to ∧ to < 281474976710656) (h1 : 0 ≤ fr ∧ fr < 281474976710656) (h2 : 0 ≤ kd ∧ kd < 281474976710656) (hl : len ≤ 1048576) :
    Calls Try.prog 43 #[.pointer (some ⟨b, 0, none⟩)] w (FreshAny w (frameL to fr kd zs)) := by
  have K0 := Lib.hid (fun W => l1Pack_lit to 6 6 W rfl h0 (by omega))
  have K1 := Lib.hid (fun W => l1Pack_lit fr 6 6 W rfl h1 (by omega))
  have K2 := Lib.hid (fun W => l1Pack_lit kd 2 2 W rfl h2 (by omega))
  have X := Lib.hid hx
  have HR := Lib.hid hr
  have hlt := hx.lt
  have B0 := Lib.hid (Below.refl w.heap.size w)
  clear h0 h1 h2 hx hr
  obtain ⟨_, x0, x1, _, _⟩ := X.out.four
  go_enter Try.func43, Try.ntmps43
  go_wp2_with fail
  go_region_held3 (fun W => W.cell? ⟨b, 0, none⟩ = some (.int .i64 to) ∧ W.cell? ⟨b, 1, none⟩ = some (.int .i64 fr))
    (first | go_keep | (go_split_ands; exact ⟨keepB hb (by assumption) hlt, keepB hb (by assumption) hlt⟩))
    (first
      | (have q := P2; clear q; refine append_step _ rfl (.tmp 8) (.tmp 13) rfl w.heap.size _ _ _ _ rfl P2.out _ _ _ _ rfl r2.out B2.out.size (by omega) ?_; intro a3 c3 w3 o3 hb; have P3 := Lib.hid o3; have B3 := Lib.hid (B2.out.trans hb))
      | (have q := P1; clear q; go_at_call 63; refine (K1.out _).mono ?_; rintro e w2 ⟨rfl, o2, b2⟩; have P2 := Lib.hid (P1.out.below b2); have r2 := Lib.hid o2.rd; have hb := b2.mono B1.out.size; have B2 := Lib.hid (B1.out.trans hb))
      | (go_at_call 63; refine (K0.out _).mono ?_; rintro e w1 ⟨rfl, o1, b1⟩; have P1 := Lib.hid o1; have hb := b1.mono B0.out.drew.size; have B1 := Lib.hid (B0.out.drew.trans hb)))
  clear o1 b1 P1 o2 b2 P2 r2 hb B0 B1 B2 x0 x1 o3 K0 K1
  obtain ⟨_, _, _, x2, x3⟩ := (X.out.below B3.out hlt).four
  go_wp2_with fail
  go_region_held3 (fun W => W.cell? ⟨b, 2, none⟩ = some (.int .i64 kd) ∧ W.cell? ⟨b, 3, none⟩ = some (.slice a len cap))
    (first | go_keep | (go_split_ands; exact ⟨keepB hb (by assumption) hlt, keepB hb (by assumption) hlt⟩))
    (first
      | (have q := P5; clear q; refine append_step _ rfl (.tmp 21) (.tmp 25) rfl w.heap.size _ _ _ _ rfl P5.out _ _ _ _ rfl (HR.out.below B5.out) B5.out.size (by omega) ?_; intro a6 c6 w6 o6 hb; have P6 := Lib.hid o6; have B6 := Lib.hid (B5.out.trans hb))
      | (have q := P4; clear q; refine append_step _ rfl (.tmp 15) (.tmp 20) rfl w.heap.size _ _ _ _ rfl P4.out _ _ _ _ rfl r4.out B4.out.size (by omega) ?_; intro a5 c5 w5 o5 hb; have P5 := Lib.hid o5; have B5 := Lib.hid (B4.out.trans hb))
      | (go_at_call 63; refine (K2.out _).mono ?_; rintro e w4 ⟨rfl, o4, b4⟩; have P4 := Lib.hid (P3.out.drew.below b4); have r4 := Lib.hid o4.rd; have hb := b4.mono B3.out.drew.size; have B4 := Lib.hid (B3.out.drew.trans hb)))
  go_wp2
  go_ret
  exact ⟨a6, _, c6, rfl, P6.out, B6.out⟩

def frameP (to fr kd : Int) (zs : List Int) : List Int := if frameC to fr kd zs.length = 0 then frameL to fr kd zs else []
theorem frameC_parts {to fr kd : Int} {n : Nat} (h : frameC to fr kd n = 0) : (0 ≤ to ∧ to < 281474976710656) ∧ (0 ≤ fr ∧ fr < 281474976710656) ∧ (0 ≤ kd ∧ kd < 281474976710656) ∧ n ≤ 600 := by
  unfold frameC at h
  split at h
  · rename_i hk
    split at h
    · simp only [frameB, macB, inB, Bool.and_eq_true, decide_eq_true_eq] at hk
      omega
    · omega
  · omega
theorem frameP_len (to fr kd : Int) (zs : List Int) : (frameP to fr kd zs).length ≤ 614 := by
  unfold frameP
  split
  · rename_i h
    have := (frameC_parts h).2.2.2
    simp [frameL, be_len]
    omega
  · simp

set_option maxHeartbeats 1000000 in
theorem specPackFrame (to fr kd : Int) (a : Option Addr) (len cap : Nat) (zs : List Int) (w : World) (hr : Rd w a len cap zs) :
    Calls Try.prog 15 #[.agg #[.int .i64 to, .int .i64 fr, .int .i64 kd, .slice a len cap]] w (Packed w (frameC to fr kd zs.length) (frameP to fr kd zs)) := by
  have S := Lib.hid (fun W => specFrameFault to fr kd a len cap W)
  have B0 := Lib.hid (((Below.refl w.heap.size w).alloc (Nat.le_refl _) (.cells #[.int .i64 to, .int .i64 fr, .int .i64 kd, .slice a len cap] 27)).alloc (by simp) (.cells #[.int .i64 0, .slice none 0 0] 32))
  have X0 := Lib.hid ((Box.new w 27 #[.int .i64 to, .int .i64 fr, .int .i64 kd, .slice a len cap]).alloc (.cells #[.int .i64 0, .slice none 0 0] 32))
  have R0 := Lib.hid (Box.new (w.alloc (.cells #[.int .i64 to, .int .i64 fr, .int .i64 kd, .slice a len cap] 27)) 32 #[.int .i64 0, .slice none 0 0])
  rw [hr.length]
  by_cases hk : frameC to fr kd len = 0
  · have hp : frameP to fr kd zs = frameL to fr kd zs := by unfold frameP; rw [hr.length, if_pos hk]
    obtain ⟨h0, h1, h2, h3⟩ := frameC_parts hk
    have L := Lib.hid (fun W b hx hW => l2Frame_any b to fr kd a len cap zs W hx (hr.below hW) h0 h1 h2 (by omega))
    rw [hk] at S ⊢
    rw [hp]
    clear hk hp h0 h1 h2 hr
    generalize frameL to fr kd zs = ys at *
    go_enter Try.func15, Try.ntmps15
    go_wp2_with fail
    refine (S.out _).mono ?_
    rintro e w1 ⟨rfl, b1⟩
    have X1 := Lib.hid (X0.out.below b1 X0.out.lt)
    have R1 := Lib.hid (R0.out.below b1 R0.out.lt)
    have B1 := Lib.hid (B0.out.trans (b1.mono B0.out.size))
    clear b1 X0 R0 B0
    go_wp2_with fail
    refine (L.out _ _ X1.out B1.out).mono ?_
    rintro e w2 ⟨a2, l2, c2, rfl, o2, b2⟩
    have R2 := R1.out.below b2 R1.out.lt
    simp only [World.size_alloc] at R2
    have hz := R1.out.lt
    simp only [World.size_alloc] at hz
    obtain ⟨z2, r20, r21⟩ := R2.two
    have f0 := R2.frozen 0
    have f1 := R2.frozen 1
    have B2 := Lib.hid (B1.out.trans (b2.mono B1.out.size))
    have O2 := Lib.hid o2
    clear b2 o2 X1 R1 B1 R2
    go_wp2
    refine bodyPost_ret (v := .agg #[.int .i64 0, .slice a2 l2 c2]) (by simp [results, Try.results15, go_sem, r20, r21]) rfl ⟨_, _, _, rfl, ?_, (B2.out.setCell (by simp) _).setCell (by simp) _⟩
    have hn : ∀ x, a2 = some x → w1.heap.size ≤ x.block := fun x hx => (O2.out.lt x hx).1
    exact ((O2.out.setOther _ _ (fun x hx => by have := hn x hx; simp; omega)).setOther _ _ (fun x hx => by have := hn x hx; simp; omega)).rebase (by have := B2.out.size; omega)
  · have hp : frameP to fr kd zs = [] := by unfold frameP; rw [hr.length, if_neg hk]
    have hne : (frameC to fr kd len != 0) = true := by simpa using hk
    rw [hp]
    clear hk hp hr
    generalize frameC to fr kd len = c at *
    go_enter Try.func15, Try.ntmps15
    go_wp2_with fail
    refine (S.out _).mono ?_
    rintro e w1 ⟨rfl, b1⟩
    have R1 := R0.out.below b1 R0.out.lt
    simp only [World.size_alloc] at R1
    obtain ⟨z2, r20, r21⟩ := R1.two
    have f0 := R1.frozen 0
    have f1 := R1.frozen 1
    have B1 := Lib.hid (B0.out.trans (b1.mono B0.out.size))
    clear b1 X0 R0 B0 R1
    go_wp2
    exact bodyPost_ret (v := .agg #[.int .i64 c, .slice none 0 0]) (by simp [results, Try.results15, go_sem, r20, r21]) rfl ⟨none, 0, 0, rfl, Own.nil _ _, (B1.out.setCell (by simp) _).setCell (by simp) _⟩
end Go.Proofs.Ytkneicepflkfhaa
