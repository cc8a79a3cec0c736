/-
  PackArp of the model, and the law FnExactPackArp where the program's PackArp answers so.
-/
import Derived.Test.YtkneicepflkfhaaAppR
namespace Go.Proofs.Ytkneicepflkfhaa
open Go.ChangeShapes Go.WideShapes Go.ChangeAt Go.RowKit

def arpP (op fm fi tm ti : Int) : List Int := if arpB op fm fi tm ti then arpL op fm fi tm ti else []
theorem arpL_len (op fm fi tm ti : Int) : (arpL op fm fi tm ti).length = 28 := by simp [arpL, be_len]
theorem arpP_len (op fm fi tm ti : Int) : (arpP op fm fi tm ti).length ≤ 28 := by
  unfold arpP
  split
  · rw [arpL_len]; exact Nat.le_refl _
  · simp
theorem arpB_parts {op fm fi tm ti : Int} (h : arpB op fm fi tm ti = true) : (0 ≤ op ∧ op < 281474976710656) ∧ (0 ≤ fm ∧ fm < 281474976710656) ∧ (0 ≤ fi ∧ fi < 281474976710656) ∧ (0 ≤ tm ∧ tm < 281474976710656) ∧ (0 ≤ ti ∧ ti < 281474976710656) := by
  simp only [arpB, macB, ipB, inB, Bool.and_eq_true, decide_eq_true_eq] at h
  omega

set_option maxHeartbeats 1000000 in
theorem specPackArp (op fm fi tm ti : Int) (w : World) :
    Calls Try.prog 32 #[.agg #[.int .i64 op, .int .i64 fm, .int .i64 fi, .int .i64 tm, .int .i64 ti]] w (Packed w (arpC op fm fi tm ti) (arpP op fm fi tm ti)) := by
  have S := Lib.hid (fun W => specArpFault op fm fi tm ti W)
  have B0 := Lib.hid (((Below.refl w.heap.size w).alloc (Nat.le_refl _) (.cells #[.int .i64 op, .int .i64 fm, .int .i64 fi, .int .i64 tm, .int .i64 ti] 49)).alloc (by simp) (.cells #[.int .i64 0, .slice none 0 0] 32))
  have X0 := Lib.hid ((Box.new w 49 #[.int .i64 op, .int .i64 fm, .int .i64 fi, .int .i64 tm, .int .i64 ti]).alloc (.cells #[.int .i64 0, .slice none 0 0] 32))
  have R0 := Lib.hid (Box.new (w.alloc (.cells #[.int .i64 op, .int .i64 fm, .int .i64 fi, .int .i64 tm, .int .i64 ti] 49)) 32 #[.int .i64 0, .slice none 0 0])
  cases hk : arpB op fm fi tm ti with
  | true =>
    have hc : arpC op fm fi tm ti = 0 := by unfold arpC; rw [if_pos hk]
    have hp : arpP op fm fi tm ti = arpL op fm fi tm ti := by unfold arpP; rw [if_pos hk]
    obtain ⟨h0, h1, h2, h3, h4⟩ := arpB_parts hk
    have L := Lib.hid (fun W b hx => l2Arp_any b op fm fi tm ti W hx h0 h1 h2 h3 h4)
    rw [hc] at S ⊢
    rw [hp]
    clear hk hc hp h0 h1 h2 h3 h4
    generalize arpL op fm fi tm ti = zs at *
    go_enter Try.func32, Try.ntmps32
    go_wp2_with fail
    refine (S.out _).mono ?_
    rintro e w1 ⟨rfl, b1⟩
    have X1 := Lib.hid (X0.out.below b1 X0.out.lt)
    have R1 := Lib.hid (R0.out.below b1 R0.out.lt)
    have B1 := Lib.hid (B0.out.trans (b1.mono B0.out.size))
    clear b1 X0 R0 B0
    go_wp2_with fail
    refine (L.out _ _ X1.out).mono ?_
    rintro e w2 ⟨a2, c2, rfl, o2, b2⟩
    have R2 := R1.out.below b2 R1.out.lt
    simp only [World.size_alloc] at R2
    have hz := R1.out.lt
    simp only [World.size_alloc] at hz
    obtain ⟨z2, r20, r21⟩ := R2.two
    have f0 := R2.frozen 0
    have f1 := R2.frozen 1
    have B2 := Lib.hid (B1.out.trans (b2.mono B1.out.size))
    have O2 := Lib.hid o2
    clear b2 o2 X1 R1 B1 R2
    go_wp2
    refine bodyPost_ret (v := .agg #[.int .i64 0, .slice a2 28 c2]) (by simp [results, Try.results32, go_sem, r20, r21]) rfl ⟨_, _, _, rfl, ?_, (B2.out.setCell (by simp) _).setCell (by simp) _⟩
    have hn : ∀ x, a2 = some x → w1.heap.size ≤ x.block := fun x hx => (O2.out.lt x hx).1
    exact ((O2.out.setOther _ _ (fun x hx => by have := hn x hx; simp; omega)).setOther _ _ (fun x hx => by have := hn x hx; simp; omega)).rebase (by have := B2.out.size; omega)
  | false =>
    have hc : arpC op fm fi tm ti = 3 := by unfold arpC; rw [if_neg (by rw [hk]; simp)]
    have hp : arpP op fm fi tm ti = [] := by unfold arpP; rw [if_neg (by rw [hk]; simp)]
    rw [hc] at S ⊢
    rw [hp]
    clear hk hc hp
    go_enter Try.func32, Try.ntmps32
    go_wp2_with fail
    refine (S.out _).mono ?_
    rintro e w1 ⟨rfl, b1⟩
    have R1 := R0.out.below b1 R0.out.lt
    simp only [World.size_alloc] at R1
    obtain ⟨z2, r20, r21⟩ := R1.two
    have f0 := R1.frozen 0
    have f1 := R1.frozen 1
    have B1 := Lib.hid (B0.out.trans (b1.mono B0.out.size))
    clear b1 X0 R0 B0 R1
    go_wp2
    exact bodyPost_ret (v := .agg #[.int .i64 3, .slice none 0 0]) (by simp [results, Try.results32, go_sem, r20, r21]) rfl ⟨none, 0, 0, rfl, Own.nil _ _, (B1.out.setCell (by simp) _).setCell (by simp) _⟩
end Go.Proofs.Ytkneicepflkfhaa
