/-
  The law FnSeqs returns true at every slice of bytes.
-/
import Derived.Test.YtgdjklbneeemfaaDrawQ
import Derived.Test.YtgdjklbneeemfaaSealS
import Derived.Deep.RegionHeld3
import Derived.Deep.DeepCutAuto
namespace Go.Proofs.Ytgdjklbneeemfaa
open Go.ChangeShapes Go.WideShapes Go.ChangeAt Go.RowKit

theorem lwBig_f (a : Option Addr) (len cap : Nat) (w : World) (hl : len ≤ 1048576) : Calls Try.prog 14 #[.slice a len cap] w fun e w' => e = .returned (.bool false) ∧ w = w' := by
  have e1 : decide ((1048576 : Int) < len) = false := decide_eq_false (by omega)
  go_enter Try.func14, Try.ntmps14
  go_wp2
  go_ret
  exact ⟨rfl, rfl⟩
theorem lwBig_t (a : Option Addr) (len cap : Nat) (w : World) (hl : ¬ len ≤ 1048576) : Calls Try.prog 14 #[.slice a len cap] w fun e w' => e = .returned (.bool true) ∧ w = w' := by
  have e1 : decide ((1048576 : Int) < len) = true := decide_eq_true (by omega)
  go_enter Try.func14, Try.ntmps14
  go_wp2
  go_ret
  exact ⟨rfl, rfl⟩

theorem keepc {W w1 : World} (hb : Below W.heap.size W w1) {p : Addr} {u : Value} (h : W.cell? p = some u) : w1.cell? p = some u := (hb.cell (World.block_lt_of_cell? _ _ h)).trans h

theorem add_dist {f t : Int} (hf : sqB f = true) (ht : sqB t = true) : addC f (dist f t) = 0 ∧ addV f (dist f t) = t := by
  have hd := dist_bd f t
  have hi : inB (dist f t) (-4294967296) 4294967296 = true := in_t (by omega)
  simp only [sqB, decide_eq_true_eq] at hf ht
  refine ⟨by simp only [addC, sq_t hf, hi, Bool.and_self, if_true], ?_⟩
  simp only [addV, sq_t hf, hi, Bool.and_self, if_true]
  unfold dist
  split <;> omega
theorem dist_back {f t : Int} (hf : sqB f = true) (ht : sqB t = true) (h : -2147483648 < dist f t) : distC t f = 0 ∧ distV t f = -dist f t := by
  refine ⟨by simp only [distC, hf, ht, Bool.and_self, if_true], ?_⟩
  simp only [distV, hf, ht, Bool.and_self, if_true]
  simp only [sqB, decide_eq_true_eq] at hf ht
  unfold dist at *
  split at h <;> (split <;> omega)
theorem add_back {s n : Int} (h : addC s n = 0) : addC (addV s n) (-n) = 0 ∧ addV (addV s n) (-n) = s := by
  unfold addC at h
  split at h
  · rename_i hk
    have hv : addV s n = (s + n) % 4294967296 := by unfold addV; rw [if_pos hk]
    rw [Bool.and_eq_true] at hk
    have h1 := hk.1
    have h2 := hk.2
    simp only [sqB, inB, decide_eq_true_eq] at h1 h2
    have k1 : sqB (addV s n) = true := sq_t (by rw [hv]; omega)
    have k2 : inB (-n) (-4294967296) 4294967296 = true := in_t (by omega)
    refine ⟨by simp only [addC, k1, k2, Bool.and_self, if_true], ?_⟩
    have e : addV (addV s n) (-n) = (addV s n + -n) % 4294967296 := by
      simp only [addV, k1, k2, Bool.and_self, if_true] at *
    rw [e, hv]; omega
  · omega

set_option maxRecDepth 100000 in
set_option maxHeartbeats 4000000 in
theorem lawSeqs (a : Option Addr) (len cap : Nat) (zs : List Int) (w : World) (h : Rd w a len cap zs) :
    Calls Try.prog 5 #[.slice a len cap] w fun e w' => e = .returned (.bool true) ∧ Below w.heap.size w w' := by
  by_cases hl : len ≤ 1048576
  · have D1 := Lib.hid (drawAdd a len cap zs w h hl)
    have D2 := Lib.hid (fun W (hW : Below w.heap.size w W) => drawDist a len cap zs W (h.below hW) hl)
    have D3 := Lib.hid (fun W (hW : Below w.heap.size w W) => drawWin a len cap zs W (h.below hW) hl)
    clear h
    go_enter Try.func5, Try.ntmps5
    go_wp2_with (go_at_call 14; refine (lwBig_f _ _ _ _ hl).mono ?_; rintro e w' ⟨rfl, rfl⟩)
    refine D1.out.mono ?_
    rintro e w1 ⟨s, n, rfl, hsn, b1⟩
    obtain ⟨ca, hca⟩ : ∃ c, c = addC s n := ⟨_, rfl⟩
    obtain ⟨va, hva⟩ : ∃ c, c = addV s n := ⟨_, rfl⟩
    have HA := Lib.hid (And.intro hca hva)
    have KA := Lib.hid (show ∀ W, Calls Try.prog 32 #[.int .i64 s, .int .i64 n] W fun e w' => e = .returned (.agg #[.int .i64 ca, .int .i64 va]) ∧ Below W.heap.size W w' by
      subst hca; subst hva; exact fun W => implAdd s n W)
    have KA' := Lib.hid (show ∀ W, Calls Try.prog 37 #[.int .i64 s, .int .i64 n] W fun e w' => e = .returned (.agg #[.int .i64 ca, .int .i64 va]) ∧ Below W.heap.size W w' by
      subst hca; subst hva; exact fun W => specAdd s n W)
    have B1 := Lib.hid b1
    clear hca hva b1 D1
    go_wp2_with fail
    refine (KA.out _).mono ?_
    rintro e w2 ⟨rfl, b2⟩
    have x2 := Box.new w2 32 #[.int .i64 ca, .int .i64 va]
    have B2 := Lib.hid ((B1.out.trans (b2.mono B1.out.size)).alloc (Nat.le_trans B1.out.size b2.size) (.cells #[.int .i64 ca, .int .i64 va] 32))
    have X2 := Lib.hid x2
    clear b2 x2
    go_wp2_with fail
    refine (D2.out _ B2.out).mono ?_
    rintro e w3 ⟨f, t, rfl, hft, b3⟩
    obtain ⟨cd, hcd⟩ : ∃ c, c = distC f t := ⟨_, rfl⟩
    obtain ⟨vd, hvd⟩ : ∃ c, c = distV f t := ⟨_, rfl⟩
    have HD := Lib.hid (And.intro hcd hvd)
    have KD := Lib.hid (show ∀ W, Calls Try.prog 34 #[.int .i64 f, .int .i64 t] W fun e w' => e = .returned (.agg #[.int .i64 cd, .int .i64 vd]) ∧ Below W.heap.size W w' by
      subst hcd; subst hvd; exact fun W => implDist f t W)
    have KD' := Lib.hid (show ∀ W, Calls Try.prog 38 #[.int .i64 f, .int .i64 t] W fun e w' => e = .returned (.agg #[.int .i64 cd, .int .i64 vd]) ∧ Below W.heap.size W w' by
      subst hcd; subst hvd; exact fun W => specDist f t W)
    have B3 := Lib.hid (B2.out.trans (b3.mono B2.out.size))
    have X3 := Lib.hid (X2.out.below b3 X2.out.lt)
    clear hcd hvd b3 X2
    go_wp2_with fail
    refine (KD.out _).mono ?_
    rintro e w4 ⟨rfl, b4⟩
    have B4 := Lib.hid ((B3.out.trans (b4.mono B3.out.size)).alloc (Nat.le_trans B3.out.size b4.size) (.cells #[.int .i64 cd, .int .i64 vd] 32))
    have X4 := Lib.hid ((X3.out.below b4 X3.out.lt).alloc (.cells #[.int .i64 cd, .int .i64 vd] 32))
    have Y4 := Lib.hid (Box.new w4 32 #[.int .i64 cd, .int .i64 vd])
    clear b4 X3
    go_wp2_with fail
    refine (D3.out _ B4.out).mono ?_
    rintro e w5 ⟨x, y, z, rfl, hxyz, b5⟩
    obtain ⟨bw, hbw⟩ : ∃ c, c = winB x y z := ⟨_, rfl⟩
    have HB := Lib.hid hbw
    have KW := Lib.hid (show ∀ W, Calls Try.prog 36 #[.int .i64 x, .int .i64 y, .int .i64 z] W fun e w' => e = .returned (.bool bw) ∧ Below W.heap.size W w' by
      subst hbw; exact fun W => implWin x y z W)
    have KW' := Lib.hid (show ∀ W, Calls Try.prog 39 #[.int .i64 x, .int .i64 y, .int .i64 z] W fun e w' => e = .returned (.bool bw) ∧ W = w' by
      subst hbw; exact fun W => specWin x y z W)
    have B5 := Lib.hid (B4.out.trans (b5.mono B4.out.size))
    have X5 := Lib.hid (X4.out.below b5 X4.out.lt)
    have Y5 := Lib.hid (Y4.out.below b5 Y4.out.lt)
    clear hbw b5 X4 Y4
    go_wp2_with fail
    refine (KW.out _).mono ?_
    rintro e w6 ⟨rfl, b6⟩
    have B6 := Lib.hid (B5.out.trans (b6.mono B5.out.size))
    have X6 := Lib.hid (X5.out.below b6 X5.out.lt)
    have Y6 := Lib.hid (Y5.out.below b6 Y5.out.lt)
    obtain ⟨zx, x0, x1⟩ := X6.out.two
    obtain ⟨zy, y0, y1⟩ := Y6.out.two
    clear b6 X5 Y5
    go_wp2_with fail
    go_region_held3 (fun W => W.cell? ⟨w2.heap.size, 0, none⟩ = some (.int .i64 ca) ∧ W.cell? ⟨w2.heap.size, 1, none⟩ = some (.int .i64 va) ∧ W.cell? ⟨w4.heap.size, 0, none⟩ = some (.int .i64 cd) ∧ W.cell? ⟨w4.heap.size, 1, none⟩ = some (.int .i64 vd))
      (first | go_keep | (go_split_ands; exact ⟨keepc hb (by assumption), keepc hb (by assumption), keepc hb (by assumption), keepc hb (by assumption)⟩))
      (first
        | (go_at_call 37; refine (KA'.out _).mono ?_; rintro e wa ⟨rfl, hba⟩; have hb := hba)
        | (go_at_call 38; refine (KD'.out _).mono ?_; rintro e wb ⟨rfl, hbb⟩; have hb := hbb)
        | (go_at_call 39; refine (KW'.out _).mono ?_; rintro e wc ⟨rfl, rfl⟩))
    have B7 : Hid (Below w.heap.size w wb) := (B6.out.drew.trans (hba.mono B6.out.size)).trans (hbb.mono (Nat.le_trans B6.out.size hba.size))
    have X7 : Hid (Box wb w2.heap.size 32 #[.int .i64 ca, .int .i64 va]) := (show Box wa w2.heap.size 32 #[.int .i64 ca, .int .i64 va] from (show Box w6.drew w2.heap.size 32 #[.int .i64 ca, .int .i64 va] from X6.out).below hba X6.out.lt).below hbb (Nat.lt_of_lt_of_le X6.out.lt hba.size)
    have Y7 : Hid (Box wb w4.heap.size 32 #[.int .i64 cd, .int .i64 vd]) := (show Box wa w4.heap.size 32 #[.int .i64 cd, .int .i64 vd] from (show Box w6.drew w4.heap.size 32 #[.int .i64 cd, .int .i64 vd] from Y6.out).below hba Y6.out.lt).below hbb (Nat.lt_of_lt_of_le Y6.out.lt hba.size)
    obtain ⟨zx, x0, x1⟩ := X7.out.two
    obtain ⟨zy, y0, y1⟩ := Y7.out.two
    clear hba hbb hb X6 Y6
    go_upto_region 11 with (fail)
    go_cut [87] (fun v wx => v = .bool false ∧ Hid (Below w.heap.size w wx) ∧ Hid (Box wx w2.heap.size 32 #[.int .i64 ca, .int .i64 va]))
    case first =>
      by_cases hq : (sqB f && sqB t) = true
      · have hcd : cd = 0 := by rw [HD.out.1]; unfold distC; rw [if_pos hq]
        have hvd : vd = dist f t := by rw [HD.out.2]; unfold distV; rw [if_pos hq]
        rw [Bool.and_eq_true] at hq
        have had := add_dist hq.1 hq.2
        have KB := Lib.hid (show ∀ W, Calls Try.prog 32 #[.int .i64 f, .int .i64 vd] W fun e w' => e = .returned (.agg #[.int .i64 0, .int .i64 t]) ∧ Below W.heap.size W w' from fun W => by
          have := implAdd f (dist f t) W
          rw [had.1, had.2] at this
          rw [hvd]; exact this)
        by_cases hg : -2147483648 < vd
        · have hdb := dist_back hq.1 hq.2 (by rw [← hvd]; exact hg)
          obtain ⟨nv, hnv⟩ : ∃ nv, -vd = nv := ⟨_, rfl⟩
          have KC := Lib.hid (show ∀ W, Calls Try.prog 34 #[.int .i64 t, .int .i64 f] W fun e w' => e = .returned (.agg #[.int .i64 0, .int .i64 nv]) ∧ Below W.heap.size W w' from fun W => by
            have := implDist t f W
            rw [hdb.1, hdb.2] at this
            rw [← hnv, hvd]; exact this)
          have hvb : vd ≤ 2147483647 := by rw [hvd]; exact (dist_bd f t).2
          clear hvd hdb had hq HD
          subst hcd
          have hne : ((0 : Int) == 0) = true := rfl
          have hgt : decide (-2147483648 < vd) = true := decide_eq_true hg
          have hneg : wrap64 (-vd) = nv := by rw [← hnv]; exact IntWalk.wrap64_in _ (by omega)
          have hneg2 : IntKind.i64.wrap (-vd) = nv := by rw [← hnv]; exact IntWalk.i64_in _ (by omega)
          have hneg3 : IntKind.i64.wrap (0 - vd) = nv := by rw [Int.zero_sub]; exact hneg2
          clear hg hvb hnv
          go_region_held3 (fun W => W.cell? ⟨w4.heap.size, 0, none⟩ = some (.int .i64 0) ∧ W.cell? ⟨w4.heap.size, 1, none⟩ = some (.int .i64 vd))
            (first | go_keep | (go_split_ands; exact ⟨keepc hb (by assumption), keepc hb (by assumption)⟩))
            (first
              | (go_at_call 32; refine (KB.out _).mono ?_; rintro e wd ⟨rfl, hbd⟩; have hb := hbd)
              | (go_at_call 34; refine (KC.out _).mono ?_; rintro e we ⟨rfl, hbe⟩; have hb := hbe))
          all_goals (go_wp2_with fail; go_meet; exact ⟨rfl, (B7.out.drew.trans (hbd.mono B7.out.size)).trans (hbe.mono (Nat.le_trans B7.out.size hbd.size)), ((show Box wb.drew w2.heap.size 32 #[.int .i64 ca, .int .i64 va] from X7.out).below hbd X7.out.lt).below hbe (Nat.lt_of_lt_of_le X7.out.lt hbd.size)⟩)
        · have hv0 : vd = -2147483648 := by have := (dist_bd f t).1; omega
          clear hvd had hq HD hg
          subst hcd
          subst hv0
          refine wp_region_held_drew (S := fun W => W.cell? ⟨w4.heap.size, 0, none⟩ = some (.int .i64 0) ∧ W.cell? ⟨w4.heap.size, 1, none⟩ = some (.int .i64 (-2147483648))) (by kernel_rfl) ⟨y0, y1⟩ (fun hHeld => ?_)
          refine wpAnyH_take (i := 0) (v := ?_) (by simp only [List.getElem?_toArray, List.getElem?_cons_zero]; exact rfl) (by kernel_rfl) (by kernel_rfl) (by kernel_rfl) (by exact fun _ _ _ h => h) (Or.inl ⟨by rfl, ?_⟩) hHeld ?_
          rotate_left
          · intro w' hSw
            obtain ⟨hS0, hS1⟩ := hSw
            go_simp
            try with_reducible rfl
          try simp only [Act.put, List.setIfInBounds_toArray, List.set_cons_zero, List.set_cons_succ]
          refine wpAnyH_take (i := 1) (v := ?_) (by simp only [List.getElem?_toArray, List.getElem?_cons_zero, List.getElem?_cons_succ]; exact rfl) (by kernel_rfl) (by kernel_rfl) (by kernel_rfl) (by exact fun _ _ _ h => h) (Or.inl ⟨by rfl, ?_⟩) hHeld ?_
          rotate_left
          · intro w' hSw
            obtain ⟨hS0, hS1⟩ := hSw
            go_simp
            try with_reducible rfl
          try simp only [Act.put, List.setIfInBounds_toArray, List.set_cons_zero, List.set_cons_succ]
          refine wpAnyH_take (i := 2) (v := ?_) (by simp only [List.getElem?_toArray, List.getElem?_cons_zero, List.getElem?_cons_succ]; exact rfl) (by kernel_rfl) (by kernel_rfl) (by kernel_rfl) (by exact fun _ _ _ h => h) (Or.inl ⟨by rfl, ?_⟩) hHeld ?_
          rotate_left
          · intro w' hSw
            obtain ⟨hS0, hS1⟩ := hSw
            go_simp
            try with_reducible rfl
          try simp only [Act.put, List.setIfInBounds_toArray, List.set_cons_zero, List.set_cons_succ]
          refine wpAnyH_take (i := 3) (v := ?_) (by simp only [List.getElem?_toArray, List.getElem?_cons_zero, List.getElem?_cons_succ]; exact rfl) (by kernel_rfl) (by kernel_rfl) (by kernel_rfl) (by exact fun _ _ _ h => h) (Or.inl ⟨by rfl, ?_⟩) hHeld ?_
          rotate_left
          · intro w' hSw
            obtain ⟨hS0, hS1⟩ := hSw
            go_simp
            try with_reducible rfl
          try simp only [Act.put, List.setIfInBounds_toArray, List.set_cons_zero, List.set_cons_succ]
          refine wpAnyH_take (i := 4) (v := ?_) (by simp only [List.getElem?_toArray, List.getElem?_cons_zero, List.getElem?_cons_succ]; exact rfl) (by kernel_rfl) (by kernel_rfl) (by kernel_rfl) (by exact fun _ _ _ h => h) (Or.inl ⟨by rfl, ?_⟩) hHeld ?_
          rotate_left
          · intro w' hSw
            obtain ⟨hS0, hS1⟩ := hSw
            go_simp
            try with_reducible rfl
          try simp only [Act.put, List.setIfInBounds_toArray, List.set_cons_zero, List.set_cons_succ]
          refine wpAnyH_take (i := 5) (v := ?_) (by simp only [List.getElem?_toArray, List.getElem?_cons_zero, List.getElem?_cons_succ]; exact rfl) (by kernel_rfl) (by kernel_rfl) (by kernel_rfl) (by exact fun _ _ _ h => h) (Or.inl ⟨by rfl, ?_⟩) hHeld ?_
          rotate_left
          · intro w' hSw
            obtain ⟨hS0, hS1⟩ := hSw
            go_simp
            try with_reducible rfl
          try simp only [Act.put, List.setIfInBounds_toArray, List.set_cons_zero, List.set_cons_succ]
          refine wpAnyH_take (i := 8) (v := ?_) (by simp only [List.getElem?_toArray, List.getElem?_cons_zero, List.getElem?_cons_succ]; exact rfl) (by kernel_rfl) (by kernel_rfl) (by kernel_rfl) (by exact fun _ _ _ h => h) (Or.inl ⟨by rfl, ?_⟩) hHeld ?_
          rotate_left
          · intro w' hSw
            obtain ⟨hS0, hS1⟩ := hSw
            go_simp
            try with_reducible rfl
          try simp only [Act.put, List.setIfInBounds_toArray, List.set_cons_zero, List.set_cons_succ]
          refine wpAnyH_take (i := 9) (v := ?_) (by simp only [List.getElem?_toArray, List.getElem?_cons_zero, List.getElem?_cons_succ]; exact rfl) (by kernel_rfl) (by kernel_rfl) (by kernel_rfl) (by exact fun _ _ _ h => h) (Or.inl ⟨by rfl, ?_⟩) hHeld ?_
          rotate_left
          · intro w' hSw
            obtain ⟨hS0, hS1⟩ := hSw
            go_simp
            try with_reducible rfl
          try simp only [Act.put, List.setIfInBounds_toArray, List.set_cons_zero, List.set_cons_succ]
          refine wpAnyH_take (i := 6) (v := ?_) (by simp only [List.getElem?_toArray, List.getElem?_cons_zero, List.getElem?_cons_succ]; exact rfl) (by kernel_rfl) (by kernel_rfl) (by kernel_rfl) (by exact fun _ _ _ h => h) (Or.inl ⟨by rfl, ?_⟩) hHeld ?_
          rotate_left
          · intro w' hSw
            obtain ⟨hS0, hS1⟩ := hSw
            go_simp
            try with_reducible rfl
          try simp only [Act.put, List.setIfInBounds_toArray, List.set_cons_zero, List.set_cons_succ]
          refine wpAnyH_ready (rs := [7]) (by kernel_rfl) (by simp) ?_
          refine AllReadyH.cons (by simp only [List.getElem?_toArray, List.getElem?_cons_zero, List.getElem?_cons_succ]; exact rfl) (fun K hK => ?_) AllReadyH.nil
          go_wp2_with fail
          refine (KB.out _).mono ?_
          rintro e wd ⟨rfl, hbd⟩
          go_wp2_with fail
          refine hK.out _ _ ⟨keepc hbd hHeld.1, keepc hbd hHeld.2⟩ (fun hHeld => ?_)
          clear hK K
          try simp only [Act.put, List.setIfInBounds_toArray, List.set_cons_zero, List.set_cons_succ]
          refine wpAnyH_take (i := 10) (v := ?_) (by simp only [List.getElem?_toArray, List.getElem?_cons_zero, List.getElem?_cons_succ]; exact rfl) (by kernel_rfl) (by kernel_rfl) (by kernel_rfl) (by exact fun _ _ _ h => h) (Or.inl ⟨by rfl, ?_⟩) hHeld ?_
          rotate_left
          · intro w' hSw
            obtain ⟨hS0, hS1⟩ := hSw
            go_simp
            try with_reducible rfl
          try simp only [Act.put, List.setIfInBounds_toArray, List.set_cons_zero, List.set_cons_succ]
          refine wpAnyH_take (i := 11) (v := ?_) (by simp only [List.getElem?_toArray, List.getElem?_cons_zero, List.getElem?_cons_succ]; exact rfl) (by kernel_rfl) (by kernel_rfl) (by kernel_rfl) (by exact fun _ _ _ h => h) (Or.inl ⟨by rfl, ?_⟩) hHeld ?_
          rotate_left
          · intro w' hSw
            obtain ⟨hS0, hS1⟩ := hSw
            go_simp
            try with_reducible rfl
          try simp only [Act.put, List.setIfInBounds_toArray, List.set_cons_zero, List.set_cons_succ]
          refine wpAnyH_take (i := 12) (v := ?_) (by simp only [List.getElem?_toArray, List.getElem?_cons_zero, List.getElem?_cons_succ]; exact rfl) (by kernel_rfl) (by kernel_rfl) (by kernel_rfl) (by exact fun _ _ _ h => h) (Or.inl ⟨by rfl, ?_⟩) hHeld ?_
          rotate_left
          · intro w' hSw
            obtain ⟨hS0, hS1⟩ := hSw
            go_simp
            try with_reducible rfl
          try simp only [Act.put, List.setIfInBounds_toArray, List.set_cons_zero, List.set_cons_succ]
          refine wpAnyH_take (i := 13) (v := ?_) (by simp only [List.getElem?_toArray, List.getElem?_cons_zero, List.getElem?_cons_succ]; exact rfl) (by kernel_rfl) (by kernel_rfl) (by kernel_rfl) (by exact fun _ _ _ h => h) (Or.inl ⟨by rfl, ?_⟩) hHeld ?_
          rotate_left
          · intro w' hSw
            obtain ⟨hS0, hS1⟩ := hSw
            go_simp
            try with_reducible rfl
          try simp only [Act.put, List.setIfInBounds_toArray, List.set_cons_zero, List.set_cons_succ]
          refine wpAnyH_take (i := 14) (v := ?_) (by simp only [List.getElem?_toArray, List.getElem?_cons_zero, List.getElem?_cons_succ]; exact rfl) (by kernel_rfl) (by kernel_rfl) (by kernel_rfl) (by exact fun _ _ _ h => h) (Or.inl ⟨by rfl, ?_⟩) hHeld ?_
          rotate_left
          · intro w' hSw
            obtain ⟨hS0, hS1⟩ := hSw
            go_simp
            try with_reducible rfl
          try simp only [Act.put, List.setIfInBounds_toArray, List.set_cons_zero, List.set_cons_succ]
          refine wpAnyH_take (i := 15) (v := ?_) (by simp only [List.getElem?_toArray, List.getElem?_cons_zero, List.getElem?_cons_succ]; exact rfl) (by kernel_rfl) (by kernel_rfl) (by kernel_rfl) (by exact fun _ _ _ h => h) (Or.inl ⟨by rfl, ?_⟩) hHeld ?_
          rotate_left
          · intro w' hSw
            obtain ⟨hS0, hS1⟩ := hSw
            go_simp
            try with_reducible rfl
          try simp only [Act.put, List.setIfInBounds_toArray, List.set_cons_zero, List.set_cons_succ]
          refine wpAnyH_take (i := 16) (v := undef) (by simp only [List.getElem?_toArray, List.getElem?_cons_zero, List.getElem?_cons_succ]; exact rfl) (by kernel_rfl) (by kernel_rfl) (by kernel_rfl) (by exact fun _ _ _ h => h) (Or.inr ⟨by rfl, rfl⟩) hHeld ?_
          try simp only [Act.put, List.setIfInBounds_toArray, List.set_cons_zero, List.set_cons_succ]
          refine wpAnyH_take (i := 17) (v := undef) (by simp only [List.getElem?_toArray, List.getElem?_cons_zero, List.getElem?_cons_succ]; exact rfl) (by kernel_rfl) (by kernel_rfl) (by kernel_rfl) (by exact fun _ _ _ h => h) (Or.inr ⟨by rfl, rfl⟩) hHeld ?_
          try simp only [Act.put, List.setIfInBounds_toArray, List.set_cons_zero, List.set_cons_succ]
          refine wpAnyH_take (i := 18) (v := undef) (by simp only [List.getElem?_toArray, List.getElem?_cons_zero, List.getElem?_cons_succ]; exact rfl) (by kernel_rfl) (by kernel_rfl) (by kernel_rfl) (by exact fun _ _ _ h => h) (Or.inr ⟨by rfl, rfl⟩) hHeld ?_
          try simp only [Act.put, List.setIfInBounds_toArray, List.set_cons_zero, List.set_cons_succ]
          refine wpAnyH_take (i := 19) (v := undef) (by simp only [List.getElem?_toArray, List.getElem?_cons_zero, List.getElem?_cons_succ]; exact rfl) (by kernel_rfl) (by kernel_rfl) (by kernel_rfl) (by exact fun _ _ _ h => h) (Or.inr ⟨by rfl, rfl⟩) hHeld ?_
          try simp only [Act.put, List.setIfInBounds_toArray, List.set_cons_zero, List.set_cons_succ]
          refine wpAnyH_take (i := 20) (v := undef) (by simp only [List.getElem?_toArray, List.getElem?_cons_zero, List.getElem?_cons_succ]; exact rfl) (by kernel_rfl) (by kernel_rfl) (by kernel_rfl) (by exact fun _ _ _ h => h) (Or.inr ⟨by rfl, rfl⟩) hHeld ?_
          try simp only [Act.put, List.setIfInBounds_toArray, List.set_cons_zero, List.set_cons_succ]
          refine wpAnyH_take (i := 21) (v := undef) (by simp only [List.getElem?_toArray, List.getElem?_cons_zero, List.getElem?_cons_succ]; exact rfl) (by kernel_rfl) (by kernel_rfl) (by kernel_rfl) (by exact fun _ _ _ h => h) (Or.inr ⟨by rfl, rfl⟩) hHeld ?_
          try simp only [Act.put, List.setIfInBounds_toArray, List.set_cons_zero, List.set_cons_succ]
          refine wpAnyH_take (i := 22) (v := undef) (by simp only [List.getElem?_toArray, List.getElem?_cons_zero, List.getElem?_cons_succ]; exact rfl) (by kernel_rfl) (by kernel_rfl) (by kernel_rfl) (by exact fun _ _ _ h => h) (Or.inr ⟨by rfl, rfl⟩) hHeld ?_
          try simp only [Act.put, List.setIfInBounds_toArray, List.set_cons_zero, List.set_cons_succ]
          refine wpAnyH_take (i := 23) (v := undef) (by simp only [List.getElem?_toArray, List.getElem?_cons_zero, List.getElem?_cons_succ]; exact rfl) (by kernel_rfl) (by kernel_rfl) (by kernel_rfl) (by exact fun _ _ _ h => h) (Or.inr ⟨by rfl, rfl⟩) hHeld ?_
          try simp only [Act.put, List.setIfInBounds_toArray, List.set_cons_zero, List.set_cons_succ]
          refine wpAnyH_take (i := 24) (v := ?_) (by simp only [List.getElem?_toArray, List.getElem?_cons_zero, List.getElem?_cons_succ]; exact rfl) (by kernel_rfl) (by kernel_rfl) (by kernel_rfl) (by exact fun _ _ _ h => h) (Or.inl ⟨by rfl, ?_⟩) hHeld ?_
          rotate_left
          · intro w' hSw
            obtain ⟨hS0, hS1⟩ := hSw
            go_simp
            try with_reducible rfl
          try simp only [Act.put, List.setIfInBounds_toArray, List.set_cons_zero, List.set_cons_succ]
          refine wpAnyH_take (i := 25) (v := ?_) (by simp only [List.getElem?_toArray, List.getElem?_cons_zero, List.getElem?_cons_succ]; exact rfl) (by kernel_rfl) (by kernel_rfl) (by kernel_rfl) (by exact fun _ _ _ h => h) (Or.inl ⟨by rfl, ?_⟩) hHeld ?_
          rotate_left
          · intro w' hSw
            obtain ⟨hS0, hS1⟩ := hSw
            go_simp
            try with_reducible rfl
          try simp only [Act.put, List.setIfInBounds_toArray, List.set_cons_zero, List.set_cons_succ]
          refine wpAnyH_take (i := 26) (v := ?_) (by simp only [List.getElem?_toArray, List.getElem?_cons_zero, List.getElem?_cons_succ]; exact rfl) (by kernel_rfl) (by kernel_rfl) (by kernel_rfl) (by exact fun _ _ _ h => h) (Or.inl ⟨by rfl, ?_⟩) hHeld ?_
          rotate_left
          · intro w' hSw
            obtain ⟨hS0, hS1⟩ := hSw
            go_simp
            try with_reducible rfl
          try simp only [Act.put, List.setIfInBounds_toArray, List.set_cons_zero, List.set_cons_succ]
          refine wpAnyH_done (by kernel_rfl) ?_ _
          go_wp2_with fail
          go_meet
          exact ⟨rfl, B7.out.drew.trans (hbd.mono B7.out.size), (show Box wb.drew w2.heap.size 32 #[.int .i64 ca, .int .i64 va] from X7.out).below hbd X7.out.lt⟩
      · have hcd : cd = 3 := by rw [HD.out.1]; unfold distC; rw [if_neg hq]
        clear hq HD
        subst hcd
        have hne : ((3 : Int) == 0) = false := rfl
        go_quiet (fail)
        go_wp2_with fail
        go_meet
        exact ⟨rfl, belowN B7.out _, show Box wb w2.heap.size 32 #[.int .i64 ca, .int .i64 va] from X7.out⟩
    case rest =>
      obtain ⟨rfl, Bc, Xc⟩ := hcut
      clear x0 x1 y0 y1 zx zy X7 Y7 B7 KA KA' KD KD' KW KW' D2 D3 B1 B2 B3 B4 B5 B6
      have hfi := field_ir
      have hsn' := hsn
      obtain ⟨n1, n2, n3, n4⟩ := hsn'
      have KF : Hid (ca = 0 → ∀ W, Calls Try.prog 32 #[.int .i64 va, .int .i64 (-n)] W fun e w' => e = .returned (.agg #[.int .i64 0, .int .i64 s]) ∧ Below W.heap.size W w') := by
        intro h0 W
        have hb := add_back (s := s) (n := n) (by rw [← HA.out.1]; exact h0)
        have := implAdd (addV s n) (-n) W
        rw [hb.1, hb.2] at this
        rw [HA.out.2]; exact this
      have hca : ca = 0 ∨ ca = 3 := by rw [HA.out.1]; unfold addC; split <;> simp
      cases bw
      · obtain ⟨zx', x0', x1'⟩ := Xc.out.two
        rcases hca with rfl | rfl
        · go_wp2_with fail
          refine (KF.out trivial _).mono ?_
          rintro e wf ⟨rfl, hbf⟩
          go_wp2
          go_ret
          exact ⟨rfl, Bc.out.trans (hbf.mono Bc.out.size)⟩
        · go_wp2
          go_ret
          exact ⟨rfl, Bc.out⟩
      · have hw := HB.out
        have hq : (sqB y && sqB x) = true ∧ 0 ≤ dist y x ∧ dist y x < z := by
          unfold winB at hw
          have := hw.symm
          simp only [Bool.and_eq_true, inB, decide_eq_true_eq] at this
          obtain ⟨⟨⟨a1, a2⟩, a3⟩, a4⟩ := this
          exact ⟨by rw [a1, a2]; rfl, a4.1, by omega⟩
        have KE := Lib.hid (show ∀ W, Calls Try.prog 34 #[.int .i64 y, .int .i64 x] W fun e w' => e = .returned (.agg #[.int .i64 0, .int .i64 (dist y x)]) ∧ Below W.heap.size W w' from fun W => by
          have := implDist y x W
          simp only [distC, distV, hq.1, if_true] at this
          exact this)
        obtain ⟨_, h1, h2⟩ := hq
        clear hw HB
        generalize dist y x = dd at *
        go_wp2_with fail
        refine (KE.out _).mono ?_
        rintro e wf ⟨rfl, hbf⟩
        go_wp2_with fail
        refine (KE.out _).mono ?_
        rintro e wg ⟨rfl, hbg⟩
        have Bg : Hid (Below w.heap.size w wg) := (Bc.out.trans (hbf.mono Bc.out.size)).trans (hbg.mono (Nat.le_trans Bc.out.size hbf.size))
        have Xg := (Xc.out.below hbf Xc.out.lt).below hbg (Nat.lt_of_lt_of_le Xc.out.lt hbf.size)
        obtain ⟨zx', x0', x1'⟩ := Xg.two
        clear hbf hbg
        rcases hca with rfl | rfl
        · go_wp2_with fail
          refine (KF.out trivial _).mono ?_
          rintro e wh ⟨rfl, hbh⟩
          go_wp2
          go_ret
          exact ⟨rfl, Bg.out.trans (hbh.mono Bg.out.size)⟩
        · go_wp2
          go_ret
          exact ⟨rfl, Bg.out⟩
  · go_enter Try.func5, Try.ntmps5
    go_wp2_with (go_at_call 14; refine (lwBig_t _ _ _ _ hl).mono ?_; rintro e w' ⟨rfl, rfl⟩)
    go_ret
    exact ⟨rfl, Below.refl _ _⟩
end Go.Proofs.Ytgdjklbneeemfaa
