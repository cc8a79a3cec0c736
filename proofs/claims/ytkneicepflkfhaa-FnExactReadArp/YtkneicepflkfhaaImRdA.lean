/-
  ReadArp of the program.
-/
import Derived.Test.YtkneicepflkfhaaArpIn
import Derived.Test.YtkneicepflkfhaaImSame
namespace Go.Proofs.Ytkneicepflkfhaa
open Go.ChangeShapes Go.WideShapes Go.ChangeAt Go.RowKit

/-- a result of ReadArp: the code, and the numbers -/
def ArpRes (w : World) (c n0 n1 n2 n3 n4 : Int) (e : Ending) (w' : World) : Prop :=
  e = .returned (.agg #[.int .i64 c, .int .i64 n0, .int .i64 n1, .int .i64 n2, .int .i64 n3, .int .i64 n4]) ∧ Below w.heap.size w w'
def raOk (n : Nat) : Bool := decide (28 ≤ n ∧ n ≤ 600)
theorem Rd.upto {w : World} {b off len cap : Nat} {zs : List Int} (h : Rd w (some ⟨b, off, none⟩) len cap zs) (n : Nat) (hn : n ≤ len) : Rd w (some ⟨b, off, none⟩) n cap (zs.take n) := by
  have hle := h.le
  have hmx := h.max
  have hlen := h.length
  refine ⟨by simp; omega, by omega, hmx, b8_take h.b8 _, by simp, ?_⟩
  rcases h.cells with h0 | ⟨bb, o, e, hcell⟩
  · exact .inl (by omega)
  · cases e
    refine .inr ⟨b, off, rfl, fun i hi => ?_⟩
    rw [hcell i (by omega), List.getD_eq_getElem?_getD, List.getD_eq_getElem?_getD, List.getElem?_take, if_pos hi]

theorem implReadArp_no (a : Option Addr) (len cap : Nat) (w : World) (h : raOk len = false) :
    Calls Try.prog 35 #[.slice a len cap] w (ArpRes w 2 0 0 0 0 0) := by
  simp only [raOk, decide_eq_false_iff_not] at h
  by_cases h1 : 28 ≤ len
  · have h2 : ¬ len ≤ 600 := fun h2 => h ⟨h1, h2⟩
    have e1 : decide ((len : Int) < 28) = false := decide_eq_false (by omega)
    have e2 : decide ((600 : Int) < len) = true := decide_eq_true (by omega)
    clear h h1 h2
    go_enter Try.func35, Try.ntmps35
    go_wp2
    exact bodyPost_ret (v := .agg #[.int .i64 2, .int .i64 0, .int .i64 0, .int .i64 0, .int .i64 0, .int .i64 0]) (by simp [results, Try.results35, go_sem]) rfl ⟨rfl, (Below.refl _ _).alloc (Nat.le_refl _) _⟩
  · have e1 : decide ((len : Int) < 28) = true := decide_eq_true (by omega)
    clear h h1
    go_enter Try.func35, Try.ntmps35
    go_wp2
    exact bodyPost_ret (v := .agg #[.int .i64 2, .int .i64 0, .int .i64 0, .int .i64 0, .int .i64 0, .int .i64 0]) (by simp [results, Try.results35, go_sem]) rfl ⟨rfl, (Below.refl _ _).alloc (Nat.le_refl _) _⟩

set_option maxRecDepth 20000 in
set_option maxHeartbeats 2000000 in
theorem implReadArp_ok (a : Option Addr) (len cap : Nat) (zs : List Int) (n0 n1 n2 n3 n4 : Int) (w : World) (hr : Rd w a len cap zs) (h : raOk len = true)
    (e0 : rdTo zs 6 2 = n0) (e1 : rdTo zs 8 6 = n1) (e2 : rdTo zs 14 4 = n2) (e3 : rdTo zs 18 6 = n3) (e4 : rdTo zs 24 4 = n4) (g : Bool) (hg : eqL (arpP n0 n1 n2 n3 n4) (zs.take 28) = g) (c' m0 m1 m2 m3 m4 : Int) (hm : (g = true ∧ c' = 0 ∧ m0 = n0 ∧ m1 = n1 ∧ m2 = n2 ∧ m3 = n3 ∧ m4 = n4) ∨ (g = false ∧ c' = 1 ∧ m0 = 0 ∧ m1 = 0 ∧ m2 = 0 ∧ m3 = 0 ∧ m4 = 0)) :
    Calls Try.prog 35 #[.slice a len cap] w (ArpRes w c' m0 m1 m2 m3 m4) := by
  simp only [raOk, decide_eq_true_eq] at h
  obtain ⟨h1, h2⟩ := h
  have hle := hr.le
  have hmx := hr.max
  rcases hr.cells with h0 | ⟨ba, off, rfl, hcc⟩
  · omega
  have d1 : decide ((len : Int) < 28) = false := decide_eq_false (by omega)
  have d2 : decide ((600 : Int) < len) = false := decide_eq_false (by omega)
  have KI := Lib.hid (show ∀ W, Rd W (some ⟨ba, off, none⟩) len cap zs → Calls Try.prog 60 #[.slice (some ⟨ba, off, none⟩) len cap] W fun e w' => e = .returned (.agg #[.int .i64 n0, .int .i64 n1, .int .i64 n2, .int .i64 n3, .int .i64 n4]) ∧ Below W.heap.size W w' from fun W hW => by rw [← e0, ← e1, ← e2, ← e3, ← e4]; exact arpIn_any ba off len cap zs W hW h1)
  have KP := Lib.hid (fun W => implPackArp n0 n1 n2 n3 n4 W)
  have HR := Lib.hid hr
  have hfb := fld_br
  have i1 : (28 : Int) ≤ len := by omega
  have i2 : (28 : Int) ≤ cap := by omega
  have i3 : 28 ≤ cap := by omega
  have R0 := Lib.hid (Box.new w 54 #[.int .i64 0, .int .i64 0, .int .i64 0, .int .i64 0, .int .i64 0, .int .i64 0])
  have B0 := Lib.hid ((Below.refl w.heap.size w).alloc (Nat.le_refl _) (.cells #[.int .i64 0, .int .i64 0, .int .i64 0, .int .i64 0, .int .i64 0, .int .i64 0] 54))
  have HG := Lib.hid hg
  have HM := Lib.hid hm
  clear hr hcc e0 e1 e2 e3 e4 hg hm
  generalize arpC n0 n1 n2 n3 n4 = c at *
  generalize arpP n0 n1 n2 n3 n4 = ps at *
  go_enter Try.func35, Try.ntmps35
  go_wp2_with fail
  refine (KI.out _ (HR.out.below B0.out)).mono ?_
  rintro e w1 ⟨rfl, b1⟩
  have R1 := Lib.hid ((R0.out.below b1 R0.out.lt).alloc (.cells #[.int .i64 n0, .int .i64 n1, .int .i64 n2, .int .i64 n3, .int .i64 n4] 49))
  have B1' := B0.out.trans (b1.mono B0.out.size)
  have B1 := Lib.hid (B1'.alloc B1'.size (.cells #[.int .i64 n0, .int .i64 n1, .int .i64 n2, .int .i64 n3, .int .i64 n4] 49))
  have X1 := Lib.hid (Box.new w1 49 #[.int .i64 n0, .int .i64 n1, .int .i64 n2, .int .i64 n3, .int .i64 n4])
  have L1 := Lib.hid (R0.out.below b1 R0.out.lt).lt
  clear b1 R0 B0 B1'
  generalize hW1 : w1.alloc (.cells #[.int .i64 n0, .int .i64 n1, .int .i64 n2, .int .i64 n3, .int .i64 n4] 49) = W1 at *
  go_wp2_with fail
  clear hW1
  obtain ⟨bl, hbl⟩ : ∃ bl : List (Nat × TypeId × Array Value), bl = [(w1.heap.size, 49, #[.int .i64 n0, .int .i64 n1, .int .i64 n2, .int .i64 n3, .int .i64 n4])] := ⟨_, rfl⟩
  have T1 : Hid (Bs bl W1) := by
    rw [hbl]
    intro x hx
    simp only [List.mem_cons, List.not_mem_nil, or_false] at hx
    subst hx
    exact X1.out
  have SS := Lib.hid (show ∀ W, Hid (Bs bl W) → W.cell? ⟨w1.heap.size, 0, none⟩ = some (.int .i64 n0) ∧ W.cell? ⟨w1.heap.size, 1, none⟩ = some (.int .i64 n1) ∧ W.cell? ⟨w1.heap.size, 2, none⟩ = some (.int .i64 n2) ∧ W.cell? ⟨w1.heap.size, 3, none⟩ = some (.int .i64 n3) ∧ W.cell? ⟨w1.heap.size, 4, none⟩ = some (.int .i64 n4) ∧ Hid (Bs bl W) from fun W h => by
    have h' := h
    rw [hbl] at h
    have ha := h.out _ (List.Mem.head _)
    exact ⟨ha.cell 0, ha.cell 1, ha.cell 2, ha.cell 3, ha.cell 4, h'⟩)
  clear hbl KI
  go_region_held3 (fun W => W.cell? ⟨w1.heap.size, 0, none⟩ = some (.int .i64 n0) ∧ W.cell? ⟨w1.heap.size, 1, none⟩ = some (.int .i64 n1) ∧ W.cell? ⟨w1.heap.size, 2, none⟩ = some (.int .i64 n2) ∧ W.cell? ⟨w1.heap.size, 3, none⟩ = some (.int .i64 n3) ∧ W.cell? ⟨w1.heap.size, 4, none⟩ = some (.int .i64 n4) ∧ Hid (Bs bl W))
    (first
      | (go_split_ands; refine SS.out _ ?_; (with_reducible assumption))
      | (go_split_ands; refine SS.out _ ?_; (with_reducible refine bsDrew ?_); (with_reducible assumption))
      | (go_split_ands; refine SS.out _ ?_; (with_reducible refine bsCall hb ?_); (with_reducible assumption)))
    (first
      | (have q := M0; clear q; go_at_call 61; refine (equal_any _ _ _ _ _ _ _ _ _ O2.out.rd ((HR.out.below B2.out).upto 28 h1)).mono ?_; rintro e w3 ⟨rfl, rfl⟩)
      | (go_at_call 33; refine (KP.out _).mono ?_; rintro e w2 ⟨a2, l2, k2, rfl, o2, hb⟩; have O2 := Lib.hid o2; have R2 := Lib.hid ((show Box W1.drew _ _ _ from R1.out).below hb R1.out.lt); have X2 := Lib.hid ((show Box W1.drew _ _ _ from X1.out).below hb X1.out.lt); have B2 := Lib.hid (B1.out.drew.trans (hb.mono B1.out.drew.size)); have M0 := Lib.hid trivial))
  rw [HG.out]
  obtain ⟨_, x0, x1, x2, x3, x4⟩ := X2.out.five
  obtain ⟨_, r0, r1, r2, r3, r4, r5⟩ := R2.out.six
  have f0 := R2.out.frozen 0
  have f1 := R2.out.frozen 1
  have f2 := R2.out.frozen 2
  have f3 := R2.out.frozen 3
  have f4 := R2.out.frozen 4
  have f5 := R2.out.frozen 5
  have NB := Lib.hid (show w1.heap.size ≠ w.heap.size from by have := L1.out; omega)
  have hne := NB.out
  have B := B2
  clear R1 X1 B1 SS T1 o2 O2 R2 X2 B2 hb L1 HG
  rcases HM.out with ⟨rfl, rfl, rfl, rfl, rfl, rfl, rfl⟩ | ⟨rfl, rfl, rfl, rfl, rfl, rfl, rfl⟩
  · clear HM
    go_wp2
    exact bodyPost_ret (v := .agg #[.int .i64 0, .int .i64 m0, .int .i64 m1, .int .i64 m2, .int .i64 m3, .int .i64 m4]) (by simp [results, Try.results35, go_sem, r0, r1, r2, r3, r4, r5]) rfl ⟨rfl, (((((B.out.setCell (Nat.le_refl _) _).setCell (Nat.le_refl _) _).setCell (Nat.le_refl _) _).setCell (Nat.le_refl _) _).setCell (Nat.le_refl _) _).setCell (Nat.le_refl _) _⟩
  · clear HM
    go_wp2
    exact bodyPost_ret (v := .agg #[.int .i64 1, .int .i64 0, .int .i64 0, .int .i64 0, .int .i64 0, .int .i64 0]) (by simp [results, Try.results35, go_sem, r0, r1, r2, r3, r4, r5]) rfl ⟨rfl, (((((B.out.setCell (Nat.le_refl _) _).setCell (Nat.le_refl _) _).setCell (Nat.le_refl _) _).setCell (Nat.le_refl _) _).setCell (Nat.le_refl _) _).setCell (Nat.le_refl _) _⟩
end Go.Proofs.Ytkneicepflkfhaa
