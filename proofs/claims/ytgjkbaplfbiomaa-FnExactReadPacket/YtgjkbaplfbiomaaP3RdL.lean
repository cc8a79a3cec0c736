/-
  ReadPacket of the model and of the program in one closed form, and its law.
-/
import Derived.Test.YtgjkbaplfbiomaaP3RdO
namespace Go.Proofs.Ytgjkbaplfbiomaa
open Go.ChangeShapes Go.WideShapes Go.ChangeAt Go.RowKit

theorem plB_false {n : Int} {len : Nat} (h : plB n len = false) : decide (n < 20) = true ∨ decide (n < 20) = false ∧ (decide ((len : Int) < n) = true ∨ decide ((len : Int) < n) = false ∧ decide (580 < n) = true) := by
  simp only [plB, Bool.and_eq_false_iff, decide_eq_false_iff_not, decide_eq_true_eq] at h ⊢
  omega
theorem plB_true {n : Int} {len : Nat} (h : plB n len = true) : decide (n < 20) = false ∧ decide ((len : Int) < n) = false ∧ decide (580 < n) = false := by
  simp only [plB, Bool.and_eq_true, decide_eq_true_eq, decide_eq_false_iff_not] at h ⊢
  omega
theorem cutB_false {ct : Int} (h : cutB ct = false) : (ct != 0) = false ∨ (ct != 0) = true ∧ (ct != 16384) = false := by
  unfold cutB at h
  cases h0 : (ct != 0) with
  | false => exact .inl rfl
  | true => rw [h0] at h; exact .inr ⟨rfl, by simpa using h⟩
theorem cutB_true {ct : Int} (h : cutB ct = true) : (ct != 0) = true ∧ (ct != 16384) = true := by
  unfold cutB at h
  simpa [Bool.and_eq_true] using h

/-- what ReadPacket answers: a code, four numbers and bytes -/
structure RpA where
  c : Int
  f : Int
  t : Int
  p : Int
  l : Int
  rs : List Int
def rpNo (c : Int) : RpA := ⟨c, 0, 0, 0, 0, []⟩
def rpAns (zs : List Int) : RpA :=
  if rpLen zs.length = false then rpNo 2
  else if (zs.getD 0 0 != 69) = true ∨ plB (rdTo zs 2 2) zs.length = false ∨ cutB (rdTo zs 6 2) = true then rpNo 1
  else if ¬ sumV (zs.take 20) = 0 then rpNo 6
  else if zs.getD 8 0 = 0 then rpNo 3
  else ⟨0, rdTo zs 12 4, rdTo zs 16 4, zs.getD 9 0, zs.getD 8 0, (zs.take (rdTo zs 2 2).toNat).drop 20⟩
def RpRes (w : World) (r : RpA) (e : Ending) (w' : World) : Prop := PacketRes w r.c r.f r.t r.p r.l r.rs e w'

theorem rpLen_bd {n : Nat} (h : ¬ rpLen n = false) : 20 ≤ n ∧ n ≤ 600 := by
  have h' : rpLen n = true := by simpa using h
  exact of_decide_eq_true h'
theorem rpAns_len (zs : List Int) : (rpAns zs).rs.length ≤ 700 := by
  unfold rpAns
  split
  · exact Nat.zero_le _
  · rename_i h1
    have := rpLen_bd h1
    split
    · exact Nat.zero_le _
    · split
      · exact Nat.zero_le _
      · split
        · exact Nat.zero_le _
        · simp only [List.length_drop, List.length_take]; omega

theorem specReadPacket (a : Option Addr) (len cap : Nat) (zs : List Int) (w : World) (hr : Rd w a len cap zs) :
    Calls Try.prog 22 #[.slice a len cap] w (RpRes w (rpAns zs)) := by
  have hl := hr.length
  have hb := rdTo_bd zs 2 hr.b8 2
  unfold RpRes rpAns
  split
  · rename_i h; rw [hl] at h; exact specReadPacket_len a len cap w h
  rename_i h1
  obtain ⟨g1, g2⟩ := rpLen_bd h1
  rw [hl] at g1 g2
  split
  · rename_i h
    refine specReadPacket_form a len cap zs w hr g1 g2 _ _ _ rfl rfl rfl ?_
    cases f0 : (zs.getD 0 0 != 69) with
    | true => exact .inl rfl
    | false =>
      refine .inr ⟨rfl, ?_⟩
      cases f1 : plB (rdTo zs 2 2) len with
      | false =>
        rcases plB_false f1 with k | ⟨k, k'⟩
        · exact .inl k
        · refine .inr ⟨k, ?_⟩
          rcases k' with k' | ⟨k', k''⟩
          · exact .inl k'
          · exact .inr ⟨k', .inl k''⟩
      | true =>
        obtain ⟨k1, k2, k3⟩ := plB_true f1
        rcases h with h | h | h
        · rw [f0] at h; cases h
        · rw [hl, f1] at h; cases h
        · exact .inr ⟨k1, .inr ⟨k2, .inr ⟨k3, cutB_true h⟩⟩⟩
  rename_i h2
  have f0 : (zs.getD 0 0 != 69) = false := by
    cases h : (zs.getD 0 0 != 69) with
    | true => exact absurd (.inl h) h2
    | false => rfl
  have f1 : plB (rdTo zs 2 2) len = true := by
    cases h : plB (rdTo zs 2 2) len with
    | false => exact absurd (.inr (.inl (by rw [hl]; exact h))) h2
    | true => rfl
  have f2 : cutB (rdTo zs 6 2) = false := by
    cases h : cutB (rdTo zs 6 2) with
    | true => exact absurd (.inr (.inr h)) h2
    | false => rfl
  obtain ⟨k1, k2, k3⟩ := plB_true f1
  have hf := (⟨f0, k1, k2, k3, cutB_false f2⟩ : (zs.getD 0 0 != 69) = false ∧ decide (rdTo zs 2 2 < 20) = false ∧ decide ((len : Int) < rdTo zs 2 2) = false ∧ decide (580 < rdTo zs 2 2) = false ∧ _)
  split
  · rename_i h; exact specReadPacket_sum a len cap zs w hr g1 g2 _ _ _ rfl rfl rfl hf h
  rename_i h3
  have hs : sumV (zs.take 20) = 0 := Decidable.of_not_not h3
  split
  · rename_i h; exact specReadPacket_ttl a len cap zs w hr g1 g2 _ _ _ rfl rfl rfl hf hs h
  rename_i h4
  have hz : (zs.getD 8 0 == 0) = false := by simpa using h4
  by_cases hcap : cap = 20
  · have hle := hr.le
    obtain rfl : len = 20 := by omega
    subst hcap
    have hn : rdTo zs 2 2 = 20 := by simp only [decide_eq_false_iff_not] at k1 k2; omega
    rw [show (zs.take (rdTo zs 2 2).toNat).drop 20 = zs.drop 20 by rw [hn]; simp [hl]]
    exact specReadPacket_ok2 a zs w hr _ _ rfl hn rfl ⟨f0, cutB_false f2⟩ hs _ _ rfl rfl hz
  · obtain ⟨N, hN⟩ : ∃ N : Nat, rdTo zs 2 2 = (N : Int) := ⟨(rdTo zs 2 2).toNat, by omega⟩
    rw [hN] at hf ⊢
    exact specReadPacket_ok1 a len cap zs w hr g1 g2 _ _ N rfl hN rfl hcap hf hs _ _ rfl rfl hz

theorem implReadPacket (a : Option Addr) (len cap : Nat) (zs : List Int) (w : World) (hr : Rd w a len cap zs) :
    Calls Try.prog 15 #[.slice a len cap] w (RpRes w (rpAns zs)) := by
  have hl := hr.length
  have hb := rdTo_bd zs 2 hr.b8 2
  unfold RpRes rpAns
  split
  · rename_i h; rw [hl] at h; exact facePacket_no a len cap 2 w (fun W _ => packetIn_len a len cap W h)
  rename_i h1
  obtain ⟨g1, g2⟩ := rpLen_bd h1
  rw [hl] at g1 g2
  split
  · rename_i h
    refine facePacket_no a len cap 1 w (fun W hW => ?_)
    cases f0 : (zs.getD 0 0 != 69) with
    | true => exact packetIn_form0 a len cap zs W (hr.below hW) g1 g2 _ _ _ rfl rfl rfl f0
    | false =>
      cases f1 : plB (rdTo zs 2 2) len with
      | false => exact packetIn_form1 a len cap zs W (hr.below hW) g1 g2 _ _ _ rfl rfl rfl f0 f1
      | true =>
        rcases h with h | h | h
        · rw [f0] at h; cases h
        · rw [hl, f1] at h; cases h
        · exact packetIn_form2 a len cap zs W (hr.below hW) g1 g2 _ _ _ rfl rfl rfl f0 f1 h
  rename_i h2
  have f0 : (zs.getD 0 0 != 69) = false := by
    cases h : (zs.getD 0 0 != 69) with
    | true => exact absurd (.inl h) h2
    | false => rfl
  have f1 : plB (rdTo zs 2 2) len = true := by
    cases h : plB (rdTo zs 2 2) len with
    | false => exact absurd (.inr (.inl (by rw [hl]; exact h))) h2
    | true => rfl
  have f2 : cutB (rdTo zs 6 2) = false := by
    cases h : cutB (rdTo zs 6 2) with
    | true => exact absurd (.inr (.inr h)) h2
    | false => rfl
  split
  · rename_i h; exact facePacket_no a len cap 6 w (fun W hW => packetIn_sum a len cap zs W (hr.below hW) g1 g2 _ _ _ rfl rfl rfl f0 f1 f2 (decide_eq_false h))
  rename_i h3
  have hs : sumV (zs.take 20) = 0 := Decidable.of_not_not h3
  split
  · rename_i h; exact facePacket_no a len cap 3 w (fun W hW => packetIn_ttl a len cap zs W (hr.below hW) g1 g2 _ _ _ rfl rfl rfl f0 f1 f2 (decide_eq_true hs) h)
  rename_i h4
  have hz : (zs.getD 8 0 == 0) = false := by simpa using h4
  by_cases hcap : cap = 20
  · have hle := hr.le
    obtain rfl : len = 20 := by omega
    subst hcap
    obtain ⟨k1, k2, k3⟩ := plB_true f1
    have hn : rdTo zs 2 2 = 20 := by simp only [decide_eq_false_iff_not] at k1 k2; omega
    rw [show (zs.take (rdTo zs 2 2).toNat).drop 20 = zs.drop 20 by rw [hn]; simp [hl]]
    rw [hn] at f1
    exact facePacket_ok a 20 20 _ _ _ _ _ w (fun W hW => packetIn_ok2 a zs W (hr.below hW) _ _ rfl hn rfl f0 f1 f2 (decide_eq_true hs) _ _ rfl rfl hz)
  · obtain ⟨N, hN⟩ : ∃ N : Nat, rdTo zs 2 2 = (N : Int) := ⟨(rdTo zs 2 2).toNat, by omega⟩
    rw [hN] at f1 ⊢
    exact facePacket_ok a len cap _ _ _ _ _ w (fun W hW => packetIn_ok1 a len cap zs W (hr.below hW) g1 g2 _ _ N rfl hN rfl hcap f0 f1 f2 (decide_eq_true hs) _ _ rfl rfl hz)

theorem readPacket_law (a : Option Addr) (len cap : Nat) (zs : List Int) (w : World) (hr : Rd w a len cap zs) :
    Calls Try.prog 6 #[.slice a len cap] w fun e w' => e = .returned (.bool true) ∧ Below w.heap.size w w' :=
  exactReadPacket a len cap zs (rpAns zs).c (rpAns zs).f (rpAns zs).t (rpAns zs).p (rpAns zs).l (rpAns zs).rs w hr (fun a' l' c' W h => specReadPacket a' l' c' zs W h) (fun a' l' c' W h => implReadPacket a' l' c' zs W h) (rpAns_len zs)
end Go.Proofs.Ytgjkbaplfbiomaa
