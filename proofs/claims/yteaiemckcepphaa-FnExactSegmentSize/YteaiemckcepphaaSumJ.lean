/-
  SumOf and IsSummed of the program answer as the model does.
-/
import Derived.Test.YteaiemckcepphaaSumI
namespace Go.Proofs.Yteaiemckcepphaa
open Go.ChangeShapes Go.WideShapes Go.ChangeAt Go.RowKit Go.Shelf
attribute [local go_sem] Oper.semAt_some

set_option maxRecDepth 100000 in
set_option maxHeartbeats 1000000 in
theorem words0_in (F : Fence) (n : Nat) (hf : F.fn 110) (hro : F.round = none) (l Bs cap : Nat) (a : Option Addr) (J : List Wd → World → Prop) (W : World) (hBs : W.cell? ⟨Bs, 0, none⟩ = some (.slice a 0 cap)) (h0 : J [] W) :
    CallsIn F n Try.prog 110 #[.func (.yield l) #[] #[], .pointer (some ⟨Bs, 0, none⟩)] W fun e W' => (∃ v, e = .returned v) ∧ J [] W' := by
  refine callsIn_of_wp Try.func110 rfl hf ?_ hro
  simp only [Try.ntmps110, List.size_toArray, List.length_cons, List.length_nil, Nat.reduceAdd, Nat.reduceSub, Array.replicate_succ, Array.replicate_zero, List.push_toArray, List.append_toArray, List.nil_append, List.cons_append]
  gi_wp2
  gi_loopw [3] (fun i wr => i = .int .i64 0 ∧ J [] wr ∧ wr.cell? ⟨Bs, 0, none⟩ = some (.slice a 0 cap)) (fun _ _ => 0)
  case atStart => exact ⟨rfl, h0, hBs⟩
  case round =>
    obtain ⟨rfl, hJs, hc⟩ := hrel
    gi_wp2
    go_end0
    exact ⟨⟨_, rfl⟩, hJs⟩

set_option maxHeartbeats 1000000 in
theorem words_in (F : Fence) (n : Nat) (h5 : F.fn 94) (hro : F.round = none) (a : Option Addr) (len cap : Nat) (w : World) :
    CallsIn F n Try.prog 94 #[.slice a len cap] w fun e w' => e = .returned (.func (.func 110) #[] #[.pointer (some ⟨w.heap.size, 0, none⟩)]) ∧ w' = w.alloc (.cells #[.slice a len cap] 22) := by
  refine callsIn_of_wp Try.func94 rfl h5 ?_ hro
  simp only [Try.ntmps94, List.size_toArray, List.length_cons, List.length_nil, Nat.reduceAdd, Nat.reduceSub, Array.replicate_succ, Array.replicate_zero, List.push_toArray, List.append_toArray, List.nil_append, List.cons_append]
  gi_wp2
  go_ret
  exact ⟨rfl, rfl⟩

theorem words_stops (F : Fence) (n : Nat) (hf : F.fn 110) (hro : F.round = none) (hn : 1 ≤ n) (Bs n₀ : Nat) (a : Option Addr) (len cap : Nat) (zs : List Int) (hlen : len ≤ 700) (w : World) (hBn : Bs < w.heap.size)
    (hc : w.cell? ⟨Bs, 0, none⟩ = some (.slice a len cap)) (h : Rd w a len cap zs) (hlo : ∀ b off, a = some ⟨b, off, none⟩ → 0 < len → b < n₀) :
    SeqStopsK F n Try.prog 110 #[.pointer (some ⟨Bs, 0, none⟩)] (fun x : Wd => #[Value.int .i64 ((x.1 : Nat) : Int)]) (KpB n₀ Bs) (fun ys => ys = upto (wdS zs h.b8) ((len + 1) / 2)) (fun _ => True) ((len + 1) / 2) w := fun l J Jx W hW _ _ hY h0 => by
  have hc' := (hW.cell (p := ⟨Bs, 0, none⟩) hBn).trans hc
  by_cases hz : len = 0
  · subst hz
    exact (words0_in F n hf hro l Bs cap a J W hc' h0).mono fun e W' ⟨he, hj⟩ => ⟨he, .inl ⟨_, rfl, hj⟩⟩
  · rcases (h.below hW).cells with h1 | ⟨b, off, rfl, hcs⟩
    · omega
    · exact words1_in F n hf hro hn l Bs n₀ b off len cap zs h.length hlen h.b8 (hlo b off rfl (by omega)) J Jx hY W hc' hcs h0

/-- the number in a cell -/
def cellN (b : Nat) (w : World) : Nat := match w.cell? ⟨b, 0, none⟩ with
  | some v => (intOf v).toNat
  | none => 0
theorem cellN_eq {b j : Nat} {w : World} (h : w.cell? ⟨b, 0, none⟩ = some (.int .i64 (j : Int))) : cellN b w = j := by simp [cellN, h, intOf]

set_option maxHeartbeats 1000000 in
theorem fold_in (F : Fence) (n : Nat) (hf : F.fn 95) (hro : F.round = none) (b j : Nat) (w : World) (hc : w.cell? ⟨b, 0, none⟩ = some (.int .i64 (j : Int))) (hz : w.frozen? ⟨b, 0, none⟩ = false) (hj : j ≤ 65535 * 700) :
    CallsIn F n Try.prog 95 #[.pointer (some ⟨b, 0, none⟩)] w fun e w' => (∃ v, e = .returned v) ∧ w' = w.setCell ⟨b, 0, none⟩ (.int .i64 ((j % 65536 + j / 65536 : Nat) : Int)) := by
  refine callsIn_of_wp Try.func95 rfl hf ?_ hro
  simp only [Try.ntmps95, List.size_toArray, List.length_cons, List.length_nil, Nat.reduceAdd, Nat.reduceSub, Array.replicate_succ, Array.replicate_zero, List.push_toArray, List.append_toArray, List.nil_append, List.cons_append]
  gi_wp2
  go_end0
  exact ⟨⟨_, rfl⟩, by congr 2⟩

set_option maxRecDepth 100000 in
set_option maxHeartbeats 2000000 in
theorem sum_in (F : Fence) (n : Nat) (hs : F.fn 57) (hw : F.fn 94) (h1w : F.fn 110) (hfo : F.fn 95) (hro : F.round = none) (hn : 3 ≤ n) (a : Option Addr) (len cap : Nat) (zs : List Int) (w : World) (h : Rd w a len cap zs) (hlen : len ≤ 700) :
    CallsIn F n Try.prog 57 #[.slice a len cap] w fun e W' => e = .returned (ir 0 (sumV zs)) ∧ Below w.heap.size w W' := by
  have h1 : 1 ≤ n := by omega
  have hgt : decide ((700 : Int) < len) = false := decide_eq_false (by omega)
  refine callsIn_of_wp_marks Try.func57 rfl hs ?_ hro
  simp only [Try.ntmps57, List.size_toArray, List.length_cons, List.length_nil, Nat.reduceAdd, Nat.reduceSub, Array.replicate_succ, Array.replicate_zero, List.push_toArray, List.append_toArray, List.nil_append, List.cons_append]
  gi_wp2_with (gi_at_call 94; refine (words_in F (n - 1) hw hro _ _ _ _).mono ?_; rintro e w' ⟨rfl, rfl⟩)
  have bR := Box.new w 46 #[.int .i64 0, .int .i64 0]
  have bT := Box.new (w.alloc (.cells #[.int .i64 0, .int .i64 0] 46)) 2 #[.int .i64 0]
  have bS := Box.new ((w.alloc (.cells #[.int .i64 0, .int .i64 0] 46)).alloc (.cells #[.int .i64 0] 2)) 22 #[.slice a len cap]
  have hB0 : Below w.heap.size w (((w.alloc (.cells #[.int .i64 0, .int .i64 0] 46)).alloc (.cells #[.int .i64 0] 2)).alloc (.cells #[.slice a len cap] 22)) := (((Below.refl _ w).alloc (Nat.le_refl _) _).alloc (by simp) _).alloc (by simp; omega) _
  have bR' := (bR.alloc (.cells #[.int .i64 0] 2)).alloc (.cells #[.slice a len cap] 22)
  have bT' := bT.alloc (.cells #[.slice a len cap] 22)
  simp only [World.size_alloc] at bT bS bT' bR'
  refine wpIn_rangeFunc_ownG hro h1 (gf := 110) (lb := #[.pointer (some ⟨w.heap.size + 1 + 1, 0, none⟩)]) rfl h1w (enters_of Try.func110 (by kernel_rfl) rfl)
    (words_stops F (n - 1) h1w hro (by omega) (w.heap.size + 1 + 1) w.heap.size a len cap zs hlen _ (by simp) (bS.cell 0) (h.below hB0) (fun b off e hp => by
      rcases h.cells with h0 | ⟨b', off', e', hc⟩
      · omega
      · rw [e] at e'; cases e'; exact World.block_lt_of_cell? _ _ (hc 0 hp))) KpB.trans (KpB.put (by simp; omega) (by simp)) (Below.refl _ _) (fun _ => rfl)
    (fun pre W => ((W.cell? ⟨w.heap.size + 1, 0, none⟩ = some (.int .i64 (tot pre : Nat)) ∧ W.frozen? ⟨w.heap.size + 1, 0, none⟩ = false) ∧ (W.cell? ⟨w.heap.size, 0, none⟩ = some (.int .i64 0) ∧ W.frozen? ⟨w.heap.size, 0, none⟩ = false) ∧ (W.cell? ⟨w.heap.size, 1, none⟩ = some (.int .i64 0) ∧ W.frozen? ⟨w.heap.size, 1, none⟩ = false)) ∧ Below w.heap.size w W)
    (fun _ _ _ => False)
    (OwnFrom.and (_root_.Go.Own.from (fun s A B row hs hg hr => ⟨⟨cell_kept hs.1.1 hg hr, (frozen_kept hs.1.1 hg hr).trans hs.1.2⟩, ⟨cell_kept hs.2.1.1 hg hr, (frozen_kept hs.2.1.1 hg hr).trans hs.2.1.2⟩, ⟨cell_kept hs.2.2.1 hg hr, (frozen_kept hs.2.2.1 hg hr).trans hs.2.2.2⟩⟩) _) (ownFrom_below (Nat.le_refl _) (by simp; omega)))
    (fun _ _ _ _ _ hs _ _ => hs)
    ⟨⟨⟨bT'.cell 0, bT'.frozen 0⟩, ⟨bR'.cell 0, bR'.frozen 0⟩, ⟨bR'.cell 1, bR'.frozen 1⟩⟩, hB0⟩
    (fun x => { tmps := #[.slice a len cap, undef, .pointer (some ⟨w.heap.size, 0, none⟩), .pointer (some ⟨w.heap.size + 1, 0, none⟩), .int .i64 ((x.1 : Nat) : Int), undef, .slice a len cap, .int .i64 len, .bool false, undef, .slice a len cap, .func (.func 110) #[] #[.pointer (some ⟨w.heap.size + 1 + 1, 0, none⟩)], .int .i64 ((x.1 : Nat) : Int), undef, undef, undef, undef, undef, undef, undef, undef, undef, undef, undef], defers := [] }) ?assign ?body ?done ?stop
  case assign =>
    intro l x W K hK
    gi_wp2
    exact hK
  case body =>
    rintro l pre ⟨x, hx⟩ W ⟨⟨⟨hc, hf⟩, ⟨r0, f0⟩, ⟨r1, f1⟩⟩, hB⟩ hpre
    have hpb := tot_bd pre
    have H := Lib.hid (tot_snoc pre ⟨x, hx⟩)
    dsimp only
    gi_wp2
    have e : ((tot pre : Nat) : Int) + (x : Int) = ((tot (pre ++ [⟨x, hx⟩]) : Nat) : Int) := by rw [H.out]; omega
    have hg := grown_setCell W ⟨w.heap.size + 1, 0, none⟩ (.int .i64 (((tot pre : Nat) : Int) + (x : Int)))
    refine ⟨(KeepsOthers.setCell _ _ _).from _, ⟨(Below.refl w.heap.size W).setCell (p := ⟨w.heap.size + 1, 0, none⟩) (Nat.le_succ _) _, heap_setCell_other W ⟨w.heap.size + 1, 0, none⟩ _ _ (by simp)⟩, ⟨⟨?_, by rw [World.frozen?_setCell]; exact hf⟩, ⟨hg.cell r0 (by simp), by rw [World.frozen?_setCell]; exact f0⟩, hg.cell r1 (by simp), by rw [World.frozen?_setCell]; exact f1⟩, hB.setCell (p := ⟨w.heap.size + 1, 0, none⟩) (Nat.le_succ _) _⟩
    rw [e]
    exact World.cell?_setCell_same' _ _ _ (by rw [hc]; rfl)
  case done =>
    rintro D ys W hD rfl ⟨⟨⟨hc, hf⟩, ⟨r0, f0⟩, ⟨r1, f1⟩⟩, hB⟩ hK
    have ht : Hid (sumV zs = 65535 - foldN (tot (upto (wdS zs h.b8) ((len + 1) / 2)))) := by
      have := sumTo_past zs h.b8
      unfold Hid sumV
      rw [this, h.length]
    have htb := tot_bd (upto (wdS zs h.b8) ((len + 1) / 2))
    rw [upto_length] at htb
    generalize tot (upto (wdS zs h.b8) ((len + 1) / 2)) = m at *
    clear bR bT bS bT' bR' hB0 h
    gi_wp2
    gi_loopw [17] (fun _ wr => ∃ j : Nat, Hid (foldN j = foldN m) ∧ j ≤ 65535 * 700 ∧ (wr.cell? ⟨w.heap.size + 1, 0, none⟩ = some (.int .i64 (j : Int)) ∧ wr.frozen? ⟨w.heap.size + 1, 0, none⟩ = false) ∧ (wr.cell? ⟨w.heap.size, 0, none⟩ = some (.int .i64 0) ∧ wr.frozen? ⟨w.heap.size, 0, none⟩ = false) ∧ (wr.cell? ⟨w.heap.size, 1, none⟩ = some (.int .i64 0) ∧ wr.frozen? ⟨w.heap.size, 1, none⟩ = false) ∧ Below w.heap.size w wr ∧ wr.heap[D]? = some (.deferred (some []))) (fun _ wr => cellN (w.heap.size + 1) wr)
    case atStart => exact ⟨m, rfl, by omega, ⟨hc, hf⟩, ⟨r0, f0⟩, ⟨r1, f1⟩, hB, hK⟩
    case round =>
      obtain ⟨j, hj, hjb, ⟨cj, fj⟩, ⟨r0, f0⟩, ⟨r1, f1⟩, hB, hK⟩ := hrel
      by_cases hle : j ≤ 65535
      · have hf' : Hid (sumV zs = 65535 - (j : Int)) := by unfold Hid; rw [ht.out, ← hj.out, foldN_le hle]
        gi_wp2
        have k1 := (KeepsOthers.setCell wr ⟨w.heap.size, 0, none⟩ (.int .i64 0)).same D _ hK rfl
        have k2 := (KeepsOthers.setCell (wr.setCell ⟨w.heap.size, 0, none⟩ (.int .i64 0)) ⟨w.heap.size, 1, none⟩ (.int .i64 (65535 - (j : Int)))).same D _ k1 rfl
        have d0 : ((wr.setCell ⟨w.heap.size, 0, none⟩ (.int .i64 0)).setCell ⟨w.heap.size, 1, none⟩ (.int .i64 (65535 - (j : Int)))).cell? ⟨w.heap.size, 0, none⟩ = some (.int .i64 0) := by simp [go_sem, r0]
        have d1 : ((wr.setCell ⟨w.heap.size, 0, none⟩ (.int .i64 0)).setCell ⟨w.heap.size, 1, none⟩ (.int .i64 (65535 - (j : Int)))).cell? ⟨w.heap.size, 1, none⟩ = some (.int .i64 (65535 - (j : Int))) := by simp [go_sem, r1]
        refine ⟨by simp, .inl ⟨_, _, rfl, run_takeDeferred k2, ?_⟩⟩
        have e0 := cell_kept d0 (grownBy_putObj' _ D (.deferred none)) (fun r e => by cases e; exact ⟨_, k2, rfl⟩)
        have e1 := cell_kept d1 (grownBy_putObj' _ D (.deferred none)) (fun r e => by cases e; exact ⟨_, k2, rfl⟩)
        refine ⟨.agg #[.int .i64 0, .int .i64 (65535 - (j : Int))], by simp [results, Try.f57, go_sem, e0, e1], ret_ir rfl hf'.out.symm, ?_⟩
        exact ((hB.setCell (p := ⟨w.heap.size, 0, none⟩) (Nat.le_refl _) _).setCell (p := ⟨w.heap.size, 1, none⟩) (Nat.le_refl _) _).trans (belowK_b (w := w) (Nat.le_refl _) _ D _ _ (by simp at hD; omega) k2 rfl rfl)
      · have hf' : Hid (foldN (j % 65536 + j / 65536) = foldN m) := by unfold Hid; rw [← hj.out, foldN_gt hle]
        gi_wp2
        refine (fold_in F (n - 1) hfo hro _ j wr cj fj hjb).mono ?_
        rintro e w' ⟨⟨v, rfl⟩, rfl⟩
        have hg := grown_setCell wr ⟨w.heap.size + 1, 0, none⟩ (.int .i64 ((j % 65536 + j / 65536 : Nat) : Int))
        have cs := World.cell?_setCell_same' wr ⟨w.heap.size + 1, 0, none⟩ (.int .i64 ((j % 65536 + j / 65536 : Nat) : Int)) (by rw [cj]; rfl)
        have hk := (KeepsOthers.setCell wr ⟨w.heap.size + 1, 0, none⟩ (.int .i64 ((j % 65536 + j / 65536 : Nat) : Int))).same D _ hK rfl
        have hB' := hB.setCell (p := ⟨w.heap.size + 1, 0, none⟩) (Nat.le_succ _) (.int .i64 ((j % 65536 + j / 65536 : Nat) : Int))
        have q0 := hg.cell r0 (by simp)
        have q1 := hg.cell r1 (by simp)
        have g : ((wr.setCell ⟨w.heap.size + 1, 0, none⟩ (.int .i64 ((j % 65536 + j / 65536 : Nat) : Int))).frozen? ⟨w.heap.size + 1, 0, none⟩ = false ∧ (wr.setCell ⟨w.heap.size + 1, 0, none⟩ (.int .i64 ((j % 65536 + j / 65536 : Nat) : Int))).frozen? ⟨w.heap.size, 0, none⟩ = false ∧ (wr.setCell ⟨w.heap.size + 1, 0, none⟩ (.int .i64 ((j % 65536 + j / 65536 : Nat) : Int))).frozen? ⟨w.heap.size, 1, none⟩ = false) := by
          refine ⟨?_, ?_, ?_⟩ <;> (rw [World.frozen?_setCell]; assumption)
        have hm := cellN_eq cs
        have hm' := cellN_eq cj
        have R := Lib.hid (And.intro cs (And.intro hk (And.intro hB' (And.intro q0 (And.intro q1 (And.intro g (And.intro hm hm')))))))
        clear cs hk hB' q0 q1 g hm hm' hg cj fj r0 f0 r1 f1 hB hK
        generalize wr.setCell ⟨w.heap.size + 1, 0, none⟩ (.int .i64 ((j % 65536 + j / 65536 : Nat) : Int)) = W5 at *
        gi_wp2
        obtain ⟨cs, hk, hB', q0, q1, ⟨g, g0, g1⟩, hm, hm'⟩ := R.out
        go_roundw
        case rel => exact ⟨_, hf'.out, by omega, ⟨cs, g⟩, ⟨q0, g0⟩, ⟨q1, g1⟩, hB', hk⟩
        case measure => rw [hm, hm']; omega
  case stop =>
    rintro D c pre W _ _ h _
    exact h.elim

theorem implSum (a : Option Addr) (len cap : Nat) (zs : List Int) (w : World) (h : Rd w a len cap zs) :
    Calls Try.prog 57 #[.slice a len cap] w fun e w' => e = .returned (ir (smC zs) (smV zs)) ∧ Below w.heap.size w w' := by
  by_cases hl : len ≤ 700
  · simp only [smC, smV, h.length, hl, if_true]
    exact (callsIn_wide (n := 3)).1 (sum_in Fence.wide 3 trivial trivial trivial trivial rfl (by omega) a len cap zs w h hl)
  · simp only [smC, smV, h.length, hl, if_false]
    clear h
    go_enter Try.func57, Try.ntmps57
    go_wp2
    all_goals exact bodyPost_ret (v := .agg #[.int .i64 2, .int .i64 0]) (by simp [results, Try.results57, go_sem]) rfl ⟨rfl, ((Below.refl _ _).alloc (Nat.le_refl _) _)⟩
end Go.Proofs.Yteaiemckcepphaa
