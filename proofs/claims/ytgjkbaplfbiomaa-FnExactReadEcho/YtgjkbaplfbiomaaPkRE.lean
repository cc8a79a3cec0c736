/-
  ReadEcho of the model.
-/
import Derived.Test.YtgjkbaplfbiomaaPkE
import Derived.Test.YtgjkbaplfbiomaaStEcho
import Derived.Test.YtgjkbaplfbiomaaImPkK
namespace Go.Proofs.Ytgjkbaplfbiomaa
open Go.ChangeShapes Go.WideShapes Go.ChangeAt Go.RowKit

def reLen (n : Nat) : Bool := decide (8 ≤ n ∧ n ≤ 560)
def reForm (b0 b1 : Int) : Bool := ((b0 == 8) || (b0 == 0)) && (b1 == 0)

set_option maxHeartbeats 1000000 in
theorem specReadEcho_len (a : Option Addr) (len cap : Nat) (w : World) (h : reLen len = false) :
    Calls Try.prog 25 #[.slice a len cap] w (EchoRes w 2 false 0 0 []) := by
  simp only [reLen, decide_eq_false_iff_not] at h
  by_cases h1 : 8 ≤ len
  · have h2 : ¬ len ≤ 560 := fun h2 => h ⟨h1, h2⟩
    have e1 : decide ((len : Int) < 8) = false := decide_eq_false (by omega)
    have e2 : decide ((560 : Int) < len) = true := decide_eq_true (by omega)
    clear h h1 h2
    go_enter Try.func25, Try.ntmps25
    go_wp2
    exact bodyPost_ret (v := .agg #[.int .i64 2, .bool false, .int .i64 0, .int .i64 0, .slice none 0 0]) (by simp [results, Try.results25, go_sem]) rfl ⟨none, 0, 0, rfl, Own.nil _ _, (Below.refl _ _).alloc (Nat.le_refl _) _⟩
  · have e1 : decide ((len : Int) < 8) = true := decide_eq_true (by omega)
    clear h h1
    go_enter Try.func25, Try.ntmps25
    go_wp2
    exact bodyPost_ret (v := .agg #[.int .i64 2, .bool false, .int .i64 0, .int .i64 0, .slice none 0 0]) (by simp [results, Try.results25, go_sem]) rfl ⟨none, 0, 0, rfl, Own.nil _ _, (Below.refl _ _).alloc (Nat.le_refl _) _⟩

set_option maxHeartbeats 1000000 in
theorem specReadEcho_sum (a : Option Addr) (len cap : Nat) (zs : List Int) (w : World) (hr : Rd w a len cap zs) (h1 : 8 ≤ len) (h2 : len ≤ 560) (hs : ¬ sumV zs = 0) :
    Calls Try.prog 25 #[.slice a len cap] w (EchoRes w 6 false 0 0 []) := by
  have hle := hr.le
  have hmx := hr.max
  rcases hr.cells with h0 | ⟨ba, off, rfl, hc⟩
  · omega
  have d1 : decide ((len : Int) < 8) = false := decide_eq_false (by omega)
  have d2 : decide ((560 : Int) < len) = false := decide_eq_false (by omega)
  have HR := Lib.hid hr
  have KS := Lib.hid (show ∀ W, Rd W (some ⟨ba, off, none⟩) len cap zs → Calls Try.prog 78 #[.slice (some ⟨ba, off, none⟩) len cap] W fun e w' => e = .returned (.int .i64 (sumV zs)) ∧ W = w' from fun W hW => by have := l1Sum_any _ len cap zs W hW (by omega);  exact this)
  have hn : (sumV zs != 0) = true := by simpa using hs
  clear hr hc hs
  generalize sumV zs = v at *
  go_enter Try.func25, Try.ntmps25
  go_wp2_with (go_at_call 78; refine (KS.out _ (HR.out.alloc _)).mono ?_; rintro e w' ⟨rfl, rfl⟩)
  all_goals exact bodyPost_ret (v := .agg #[.int .i64 6, .bool false, .int .i64 0, .int .i64 0, .slice none 0 0]) (by simp [results, Try.results25, go_sem]) rfl ⟨none, 0, 0, rfl, Own.nil _ _, (Below.refl _ _).alloc (Nat.le_refl _) _⟩

set_option maxHeartbeats 1000000 in
theorem specReadEcho_form (a : Option Addr) (len cap : Nat) (zs : List Int) (w : World) (hr : Rd w a len cap zs) (h1 : 8 ≤ len) (h2 : len ≤ 560) (hs : sumV zs = 0) (b0 b1 : Int) (q0 : zs.getD 0 0 = b0) (q1 : zs.getD 1 0 = b1) (hf : reForm b0 b1 = false) :
    Calls Try.prog 25 #[.slice a len cap] w (EchoRes w 1 false 0 0 []) := by
  have hle := hr.le
  have hmx := hr.max
  rcases hr.cells with h0 | ⟨ba, off, rfl, hc⟩
  · omega
  have d1 : decide ((len : Int) < 8) = false := decide_eq_false (by omega)
  have d2 : decide ((560 : Int) < len) = false := decide_eq_false (by omega)
  have HR := Lib.hid hr
  have KS := Lib.hid (show ∀ W, Rd W (some ⟨ba, off, none⟩) len cap zs → Calls Try.prog 78 #[.slice (some ⟨ba, off, none⟩) len cap] W fun e w' => e = .returned (.int .i64 0) ∧ W = w' from fun W hW => by have := l1Sum_any _ len cap zs W hW (by omega); rw [hs] at this; exact this)
  have c0 : (w.alloc (.cells #[.int .i64 0, .bool false, .int .i64 0, .int .i64 0, .slice none 0 0] 39)).cell? ⟨ba, off, none⟩ = some (.int .u8 (zs.getD 0 0)) := (((Below.refl w.heap.size w).alloc (Nat.le_refl _) _).cell (World.block_lt_of_cell? _ _ (hc 0 (by omega)))).trans (hc 0 (by omega))
  have c1 : (w.alloc (.cells #[.int .i64 0, .bool false, .int .i64 0, .int .i64 0, .slice none 0 0] 39)).cell? ⟨ba, off + 1, none⟩ = some (.int .u8 (zs.getD 1 0)) := (((Below.refl w.heap.size w).alloc (Nat.le_refl _) _).cell (World.block_lt_of_cell? _ _ (hc 1 (by omega)))).trans (hc 1 (by omega))
  rw [q0] at c0
  rw [q1] at c1
  have hf' : (b0 != 8) = true ∧ (b0 != 0) = true ∨ ((b0 != 8) = false ∨ (b0 != 8) = true ∧ (b0 != 0) = false) ∧ (b1 != 0) = true := by
    unfold reForm at hf
    simp only [bne]
    cases hA : (b0 == 8) <;> cases hB : (b0 == 0) <;> cases hC : (b1 == 0) <;> simp_all
  clear hr hc hs hf q0 q1
  rcases hf' with ⟨f1, f2⟩ | ⟨f1 | ⟨f1, f2⟩, f3⟩
  all_goals
    go_enter Try.func25, Try.ntmps25
    go_wp2_with (go_at_call 78; refine (KS.out _ (HR.out.alloc _)).mono ?_; rintro e w' ⟨rfl, rfl⟩)
    exact bodyPost_ret (v := .agg #[.int .i64 1, .bool false, .int .i64 0, .int .i64 0, .slice none 0 0]) (by simp [results, Try.results25, go_sem]) rfl ⟨none, 0, 0, rfl, Own.nil _ _, (Below.refl _ _).alloc (Nat.le_refl _) _⟩

set_option maxRecDepth 20000 in
set_option maxHeartbeats 2000000 in
theorem specReadEcho_ok1 (a : Option Addr) (len cap : Nat) (zs : List Int) (w : World) (hr : Rd w a len cap zs) (h1 : 8 ≤ len) (h2 : len ≤ 560) (hcap : ¬ cap = 8) (hs : sumV zs = 0) (b0 b1 : Int) (q0 : zs.getD 0 0 = b0) (q1 : zs.getD 1 0 = b1) (hf : reForm b0 b1 = true) :
    Calls Try.prog 25 #[.slice a len cap] w (EchoRes w 0 (b0 == 0) (rdTo zs 4 2) (rdTo zs 6 2) (zs.drop 8)) := by
  have hle := hr.le
  have hmx := hr.max
  rcases hr.cells with h0 | ⟨ba, off, rfl, hc⟩
  · omega
  have d1 : decide ((len : Int) < 8) = false := decide_eq_false (by omega)
  have d2 : decide ((560 : Int) < len) = false := decide_eq_false (by omega)
  have HR := Lib.hid hr
  have KS := Lib.hid (show ∀ W, Rd W (some ⟨ba, off, none⟩) len cap zs → Calls Try.prog 78 #[.slice (some ⟨ba, off, none⟩) len cap] W fun e w' => e = .returned (.int .i64 0) ∧ W = w' from fun W hW => by have := l1Sum_any _ len cap zs W hW (by omega); rw [hs] at this; exact this)
  have c0 : (w.alloc (.cells #[.int .i64 0, .bool false, .int .i64 0, .int .i64 0, .slice none 0 0] 39)).cell? ⟨ba, off, none⟩ = some (.int .u8 (zs.getD 0 0)) := (((Below.refl w.heap.size w).alloc (Nat.le_refl _) _).cell (World.block_lt_of_cell? _ _ (hc 0 (by omega)))).trans (hc 0 (by omega))
  have c1 : (w.alloc (.cells #[.int .i64 0, .bool false, .int .i64 0, .int .i64 0, .slice none 0 0] 39)).cell? ⟨ba, off + 1, none⟩ = some (.int .u8 (zs.getD 1 0)) := (((Below.refl w.heap.size w).alloc (Nat.le_refl _) _).cell (World.block_lt_of_cell? _ _ (hc 1 (by omega)))).trans (hc 1 (by omega))
  rw [q0] at c0
  rw [q1] at c1
  have hf' : ((b0 != 8) = false ∨ (b0 != 8) = true ∧ (b0 != 0) = false) ∧ (b1 != 0) = false := by
    unfold reForm at hf
    simp only [bne]
    cases hA : (b0 == 8) <;> cases hB : (b0 == 0) <;> cases hC : (b1 == 0) <;> simp_all
  have K1 := Lib.hid (fun W (hW : Rd W (some ⟨ba, off, none⟩) len cap zs) => l1Read_lit _ len cap 4 2 4 2 zs W hW rfl rfl (by omega) (by omega))
  have K2 := Lib.hid (fun W (hW : Rd W (some ⟨ba, off, none⟩) len cap zs) => l1Read_lit _ len cap 6 2 6 2 zs W hW rfl rfl (by omega) (by omega))
  have R0 := Lib.hid (Box.new w 39 #[.int .i64 0, .bool false, .int .i64 0, .int .i64 0, .slice none 0 0])
  have B0 := Lib.hid ((Below.refl w.heap.size w).alloc (Nat.le_refl _) (.cells #[.int .i64 0, .bool false, .int .i64 0, .int .i64 0, .slice none 0 0] 39))
  have SS := Lib.hid (show ∀ W, Hid (Below w.heap.size w W) → W.cell? ⟨ba, off, none⟩ = some (.int .u8 b0) ∧ Hid (Below w.heap.size w W) from fun W h => by
    refine ⟨?_, h⟩
    rw [← q0]
    exact (h.out.cell (World.block_lt_of_cell? _ _ (hc 0 (by omega)))).trans (hc 0 (by omega)))
  have HD := Lib.hid (show ∀ W, Hid (Below w.heap.size w W) → Rd W (some ⟨ba, off + 8, none⟩) (len - 8) (cap - 8) (zs.drop 8) from fun W h => (HR.out.below h.out).from 8 _ _ _ (by omega) rfl rfl rfl)
  have HW := Lib.hid (show ∀ W, Hid (Below w.heap.size w W) → Rd W (some ⟨ba, off, none⟩) len cap zs from fun W h => HR.out.below h.out)
  have i1 : (8 : Int) ≤ len := by omega
  have i0 : (0 : Int) < len := by omega
  have i0n : 0 < len := by omega
  clear hr hc hs hf q0 q1
  generalize zs.drop 8 = ys at *
  generalize rdTo zs 4 2 = n1 at *
  generalize rdTo zs 6 2 = n2 at *
  generalize hr0 : (b0 == 0) = rp at *
  obtain ⟨hf1, f3⟩ := hf'
  rcases hf1 with f1 | ⟨f1, f2⟩
  all_goals
    go_enter Try.func25, Try.ntmps25
    go_wp2_with (go_at_call 78; refine (KS.out _ (HR.out.alloc _)).mono ?_; rintro e w' ⟨rfl, rfl⟩)
    generalize w.alloc (.cells #[.int .i64 0, .bool false, .int .i64 0, .int .i64 0, .slice none 0 0] 39) = W0 at *
    have T0 : Hid (Below w.heap.size w W0) := B0.out
    have TD := kDrew T0
    go_region_held3 (fun W => W.cell? ⟨ba, off, none⟩ = some (.int .u8 b0) ∧ Hid (Below w.heap.size w W))
      (first
        | (go_split_ands; refine SS.out _ ?_; (with_reducible assumption))
        | (go_split_ands; refine SS.out _ ?_; (with_reducible refine kDrew ?_); (with_reducible assumption))
        | (go_split_ands; refine SS.out _ ?_; iterate 5 (with_reducible refine kSet (Nat.le_refl _) ?_)
           (with_reducible assumption)))
      (first
        | (have q := M1; clear q; go_at_call 76; refine (l1Copy_any _ _ _ ys _ (HD.out _ TD) (by omega)).mono ?_; rintro e w4 ⟨a4, c4, rfl, o4, b4⟩; have T4 := kCall b4 (kSize TD) TD; have R4 := (show Box W0.drew _ _ _ from R0.out).below b4 R0.out.lt; obtain ⟨_, r0, r1, r2, r3, r4⟩ := R4.five; have f4 := R4.frozen 0; have f5 := R4.frozen 1; have f6 := R4.frozen 2; have f7 := R4.frozen 3; have f8 := R4.frozen 4)
        | (have q := M0; clear q; go_at_call 77; refine (K2.out _ (HW.out _ TD)).mono ?_; rintro e w3 ⟨rfl, rfl⟩; have M1 := Lib.hid trivial)
        | (go_at_call 77; refine (K1.out _ (HW.out _ TD)).mono ?_; rintro e w2 ⟨rfl, rfl⟩; have M0 := Lib.hid trivial))
    have hz := R0.out.lt
    have hn : Hid (∀ x, a4 = some x → ¬ x.block = w.heap.size) := fun x hx e => by
      have h3 : W0.heap.size ≤ x.block := (o4.lt x hx).1
      omega
    have O4 : Hid (Own w4 w.heap.size a4 (len - 8) c4 ys) := o4.rebase B0.out.size
    clear o4 b4 R4 SS TD T0 HD HW
    go_wp2
    refine bodyPost_ret (v := .agg #[.int .i64 0, .bool rp, .int .i64 n1, .int .i64 n2, .slice a4 (len - 8) c4]) (by simp [results, Try.results25, go_sem, r0, r1, r2, r3, r4]) rfl ⟨_, _, _, rfl, ?_, ?_⟩
    · exact ((((O4.out.setOther _ _ hn.out).setOther _ _ hn.out).setOther _ _ hn.out).setOther _ _ hn.out).setOther _ _ hn.out
    · exact ((((T4.out.setCell (Nat.le_refl _) _).setCell (Nat.le_refl _) _).setCell (Nat.le_refl _) _).setCell (Nat.le_refl _) _).setCell (Nat.le_refl _) _

set_option maxRecDepth 20000 in
set_option maxHeartbeats 2000000 in
theorem specReadEcho_ok2 (a : Option Addr) (zs : List Int) (w : World) (hr : Rd w a 8 8 zs) (hs : sumV zs = 0) (b0 b1 : Int) (q0 : zs.getD 0 0 = b0) (q1 : zs.getD 1 0 = b1) (hf : reForm b0 b1 = true) :
    Calls Try.prog 25 #[.slice a 8 8] w (EchoRes w 0 (b0 == 0) (rdTo zs 4 2) (rdTo zs 6 2) (zs.drop 8)) := by
  rcases hr.cells with h0 | ⟨ba, off, rfl, hc⟩
  · omega
  have HR := Lib.hid hr
  have KS := Lib.hid (show ∀ W, Rd W (some ⟨ba, off, none⟩) 8 8 zs → Calls Try.prog 78 #[.slice (some ⟨ba, off, none⟩) 8 8] W fun e w' => e = .returned (.int .i64 0) ∧ W = w' from fun W hW => by have := l1Sum_any _ 8 8 zs W hW (by omega); rw [hs] at this; exact this)
  have c0 : (w.alloc (.cells #[.int .i64 0, .bool false, .int .i64 0, .int .i64 0, .slice none 0 0] 39)).cell? ⟨ba, off, none⟩ = some (.int .u8 (zs.getD 0 0)) := (((Below.refl w.heap.size w).alloc (Nat.le_refl _) _).cell (World.block_lt_of_cell? _ _ (hc 0 (by omega)))).trans (hc 0 (by omega))
  have c1 : (w.alloc (.cells #[.int .i64 0, .bool false, .int .i64 0, .int .i64 0, .slice none 0 0] 39)).cell? ⟨ba, off + 1, none⟩ = some (.int .u8 (zs.getD 1 0)) := (((Below.refl w.heap.size w).alloc (Nat.le_refl _) _).cell (World.block_lt_of_cell? _ _ (hc 1 (by omega)))).trans (hc 1 (by omega))
  rw [q0] at c0
  rw [q1] at c1
  have hf' : ((b0 != 8) = false ∨ (b0 != 8) = true ∧ (b0 != 0) = false) ∧ (b1 != 0) = false := by
    unfold reForm at hf
    simp only [bne]
    cases hA : (b0 == 8) <;> cases hB : (b0 == 0) <;> cases hC : (b1 == 0) <;> simp_all
  have K1 := Lib.hid (fun W (hW : Rd W (some ⟨ba, off, none⟩) 8 8 zs) => l1Read_lit _ 8 8 4 2 4 2 zs W hW rfl rfl (by omega) (by omega))
  have K2 := Lib.hid (fun W (hW : Rd W (some ⟨ba, off, none⟩) 8 8 zs) => l1Read_lit _ 8 8 6 2 6 2 zs W hW rfl rfl (by omega) (by omega))
  have R0 := Lib.hid (Box.new w 39 #[.int .i64 0, .bool false, .int .i64 0, .int .i64 0, .slice none 0 0])
  have B0 := Lib.hid ((Below.refl w.heap.size w).alloc (Nat.le_refl _) (.cells #[.int .i64 0, .bool false, .int .i64 0, .int .i64 0, .slice none 0 0] 39))
  have SS := Lib.hid (show ∀ W, Hid (Below w.heap.size w W) → W.cell? ⟨ba, off, none⟩ = some (.int .u8 b0) ∧ Hid (Below w.heap.size w W) from fun W h => by
    refine ⟨?_, h⟩
    rw [← q0]
    exact (h.out.cell (World.block_lt_of_cell? _ _ (hc 0 (by omega)))).trans (hc 0 (by omega)))
  have HD := Lib.hid (show ∀ W, Hid (Below w.heap.size w W) → Rd W (some ⟨ba, off, none⟩) 0 0 (zs.drop 8) from fun W h => ⟨by have := HR.out.length; simp; omega, Nat.le_refl _, Nat.zero_le _, b8_drop HR.out.b8 8, by simp, .inl rfl⟩)
  have HW := Lib.hid (show ∀ W, Hid (Below w.heap.size w W) → Rd W (some ⟨ba, off, none⟩) 8 8 zs from fun W h => HR.out.below h.out)
  clear hr hc hs hf q0 q1
  generalize zs.drop 8 = ys at *
  generalize rdTo zs 4 2 = n1 at *
  generalize rdTo zs 6 2 = n2 at *
  generalize hr0 : (b0 == 0) = rp at *
  obtain ⟨hf1, f3⟩ := hf'
  rcases hf1 with f1 | ⟨f1, f2⟩
  all_goals
    go_enter Try.func25, Try.ntmps25
    go_wp2_with (go_at_call 78; refine (KS.out _ (HR.out.alloc _)).mono ?_; rintro e w' ⟨rfl, rfl⟩)
    generalize w.alloc (.cells #[.int .i64 0, .bool false, .int .i64 0, .int .i64 0, .slice none 0 0] 39) = W0 at *
    have T0 : Hid (Below w.heap.size w W0) := B0.out
    have TD := kDrew T0
    go_region_held3 (fun W => W.cell? ⟨ba, off, none⟩ = some (.int .u8 b0) ∧ Hid (Below w.heap.size w W))
      (first
        | (go_split_ands; refine SS.out _ ?_; (with_reducible assumption))
        | (go_split_ands; refine SS.out _ ?_; (with_reducible refine kDrew ?_); (with_reducible assumption))
        | (go_split_ands; refine SS.out _ ?_; iterate 5 (with_reducible refine kSet (Nat.le_refl _) ?_)
           (with_reducible assumption)))
      (first
        | (have q := M1; clear q; go_at_call 76; refine (l1Copy_any _ _ _ ys _ (HD.out _ TD) (by omega)).mono ?_; rintro e w4 ⟨a4, c4, rfl, o4, b4⟩; have T4 := kCall b4 (kSize TD) TD; have R4 := (show Box W0.drew _ _ _ from R0.out).below b4 R0.out.lt; obtain ⟨_, r0, r1, r2, r3, r4⟩ := R4.five; have f4 := R4.frozen 0; have f5 := R4.frozen 1; have f6 := R4.frozen 2; have f7 := R4.frozen 3; have f8 := R4.frozen 4)
        | (have q := M0; clear q; go_at_call 77; refine (K2.out _ (HW.out _ TD)).mono ?_; rintro e w3 ⟨rfl, rfl⟩; have M1 := Lib.hid trivial)
        | (go_at_call 77; refine (K1.out _ (HW.out _ TD)).mono ?_; rintro e w2 ⟨rfl, rfl⟩; have M0 := Lib.hid trivial))
    have hz := R0.out.lt
    have hn : Hid (∀ x, a4 = some x → ¬ x.block = w.heap.size) := fun x hx e => by
      have h3 : W0.heap.size ≤ x.block := (o4.lt x hx).1
      omega
    have O4 : Hid (Own w4 w.heap.size a4 0 c4 ys) := o4.rebase B0.out.size
    clear o4 b4 R4 SS TD T0 HD HW
    go_wp2
    refine bodyPost_ret (v := .agg #[.int .i64 0, .bool rp, .int .i64 n1, .int .i64 n2, .slice a4 0 c4]) (by simp [results, Try.results25, go_sem, r0, r1, r2, r3, r4]) rfl ⟨_, _, _, rfl, ?_, ?_⟩
    · exact ((((O4.out.setOther _ _ hn.out).setOther _ _ hn.out).setOther _ _ hn.out).setOther _ _ hn.out).setOther _ _ hn.out
    · exact ((((T4.out.setCell (Nat.le_refl _) _).setCell (Nat.le_refl _) _).setCell (Nat.le_refl _) _).setCell (Nat.le_refl _) _).setCell (Nat.le_refl _) _
end Go.Proofs.Ytgjkbaplfbiomaa
