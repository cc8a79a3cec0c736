/-
  PackEcho of the model.
-/
import Derived.Test.YtgjkbaplfbiomaaPkP
import Derived.Test.YtgjkbaplfbiomaaExFrmP
namespace Go.Proofs.Ytgjkbaplfbiomaa
open Go.ChangeShapes Go.WideShapes Go.ChangeAt Go.RowKit

def echoL (er : Bool) (ei es : Int) (zs : List Int) : List Int := sealB ([if er then 0 else 8, 0, 0, 0] ++ be ei 2 ++ be es 2 ++ zs) 2
theorem own_litB4 (w : World) (base : Nat) (x : Int) (hx : 0 ≤ x ∧ x ≤ 255) (hb : base ≤ w.heap.size) : Own (w.alloc (.cells #[.int .u8 x, .int .u8 0, .int .u8 0, .int .u8 0] 5)) base (some ⟨w.heap.size, 0, none⟩) 4 4 [x, 0, 0, 0] :=
  ⟨World.ownsRow_lit w #[.int .u8 x, .int .u8 0, .int .u8 0, .int .u8 0] 4 hb (by unfold maxLen; omega) rfl, by intro n hn; simp at hn; omega⟩

set_option maxHeartbeats 2000000 in
theorem l3Echo_false (b : Nat) (ei es : Int) (a : Option Addr) (len cap : Nat) (zs : List Int) (w : World) (hx : Box w b 35 #[.bool false, .int .i64 ei, .int .i64 es, .slice a len cap]) (hr : Rd w a len cap zs)
    (h0 : 0 ≤ ei ∧ ei < 281474976710656) (h1 : 0 ≤ es ∧ es < 281474976710656) (hl : len ≤ 552) :
    Calls Try.prog 71 #[.pointer (some ⟨b, 0, none⟩)] w (FreshAny w (echoL false ei es zs)) := by
  have K1 := Lib.hid (fun W => l1Pack_lit ei 2 2 W rfl h0 (by omega))
  have K2 := Lib.hid (fun W => l1Pack_lit es 2 2 W rfl h1 (by omega))
  have X := Lib.hid hx
  have HR := Lib.hid hr
  have hlt := hx.lt
  obtain ⟨L, hL⟩ : ∃ L, L = echoL false ei es zs := ⟨_, rfl⟩
  have HL : Hid (L = sealB ([8, 0, 0, 0] ++ be ei 2 ++ be es 2 ++ zs) 2) := by rw [hL]; rfl
  rw [← hL]
  have O0 := Lib.hid (own_litB4 w w.heap.size 8 (by omega) (Nat.le_refl _))
  have B0 := Lib.hid ((Below.refl w.heap.size w).alloc (Nat.le_refl _) (.cells #[.int .u8 8, .int .u8 0, .int .u8 0, .int .u8 0] 5))
  have O1 := Lib.hid O0.out
  have B1 := Lib.hid B0.out
  clear h0 h1 hx hr hL
  obtain ⟨_, x0, _, _, _⟩ := X.out.four
  go_enter Try.func71, Try.ntmps71
  go_wp2_with fail
  obtain ⟨_, _, x1, x2, _⟩ := (X.out.below B1.out hlt).four
  generalize w.alloc (.cells #[.int .u8 8, .int .u8 0, .int .u8 0, .int .u8 0] 5) = W1 at *
  go_region_held3 (fun W => W.cell? ⟨b, 1, none⟩ = some (.int .i64 ei) ∧ W.cell? ⟨b, 2, none⟩ = some (.int .i64 es))
    (first | go_keep | (go_split_ands; exact ⟨keepB hb (by assumption) hlt, keepB hb (by assumption) hlt⟩))
    (first
      | (have q := P4; clear q; refine append_step _ rfl (.tmp 17) (.tmp 22) rfl w.heap.size _ _ _ _ rfl P4.out _ _ _ _ rfl r4.out B4.out.size (by omega) ?_; intro a5 c5 w5 o5 hb; have P5 := Lib.hid o5; have B5 := Lib.hid (B4.out.trans hb))
      | (have q := P2; clear q; refine append_step _ rfl (.tmp 11) (.tmp 16) rfl w.heap.size _ _ _ _ rfl P2.out _ _ _ _ rfl r2.out B2.out.size (by omega) ?_; intro a3 c3 w3 o3 hb; have P3 := Lib.hid o3; have B3 := Lib.hid (B2.out.trans hb))
      | (have q := P3; clear q; go_at_call 91; refine (K2.out _).mono ?_; rintro e w4 ⟨rfl, o4, b4⟩; have P4 := Lib.hid (P3.out.below b4); have r4 := Lib.hid o4.rd; have hb := b4.mono B3.out.size; have B4 := Lib.hid (B3.out.trans hb))
      | (go_at_call 91; refine (K1.out _).mono ?_; rintro e w2 ⟨rfl, o2, b2⟩; have P2 := Lib.hid (O1.out.drew.below b2); have r2 := Lib.hid o2.rd; have hb := b2.mono B1.out.drew.size; have B2 := Lib.hid (B1.out.drew.trans hb)))
  clear o2 b2 P2 r2 o3 P3 o4 b4 P4 r4 hb B1 B2 B3 B4 x0 x1 x2 O1 O0 B0 o5 K1 K2
  obtain ⟨_, _, _, _, x3⟩ := (X.out.below B5.out hlt).four
  have H5 := Lib.hid (HR.out.below B5.out)
  go_wp2_with (at_builtin; refine append_bytes _ rfl (.tmp 24) (.tmp 28) rfl w.heap.size _ _ _ _ rfl P5.out _ _ _ _ rfl H5.out B5.out.size (by omega) ?_; intro a6 c6 w6 o6 g6; have P6 := Lib.hid o6; have B6 := Lib.hid (B5.out.grown g6 B5.out.size (own_rows P5.out _ (Nat.le_refl _))); clear o6 g6 P5 B5 H5)
  rcases P6.out.shape with ⟨_, h0, _⟩ | ⟨g, rfl⟩
  · omega
  have gB := (P6.out.lt _ rfl).1
  dsimp only at gB
  refine (l1Seal_lit g _ c6 _ 2 2 _ _ rfl P6.out (by omega) (by omega)).mono ?_
  rintro e w7 ⟨rfl, o7, g7⟩
  have B7 := Lib.hid (B6.out.grown g7 B6.out.size (fun k e => by cases e; exact gB))
  have P7 := Lib.hid o7
  clear o7 g7 P6 B6
  go_wp2
  go_ret
  exact ⟨_, _, _, rfl, by rw [HL.out]; exact P7.out, B7.out⟩

set_option maxHeartbeats 2000000 in
theorem l3Echo_true (b : Nat) (ei es : Int) (a : Option Addr) (len cap : Nat) (zs : List Int) (w : World) (hx : Box w b 35 #[.bool true, .int .i64 ei, .int .i64 es, .slice a len cap]) (hr : Rd w a len cap zs)
    (h0 : 0 ≤ ei ∧ ei < 281474976710656) (h1 : 0 ≤ es ∧ es < 281474976710656) (hl : len ≤ 552) :
    Calls Try.prog 71 #[.pointer (some ⟨b, 0, none⟩)] w (FreshAny w (echoL true ei es zs)) := by
  have K1 := Lib.hid (fun W => l1Pack_lit ei 2 2 W rfl h0 (by omega))
  have K2 := Lib.hid (fun W => l1Pack_lit es 2 2 W rfl h1 (by omega))
  have X := Lib.hid hx
  have HR := Lib.hid hr
  have hlt := hx.lt
  obtain ⟨L, hL⟩ : ∃ L, L = echoL true ei es zs := ⟨_, rfl⟩
  have HL : Hid (L = sealB ([0, 0, 0, 0] ++ be ei 2 ++ be es 2 ++ zs) 2) := by rw [hL]; rfl
  rw [← hL]
  have O0 := Lib.hid (own_litB4 w w.heap.size 0 (by omega) (Nat.le_refl _))
  have B0 := Lib.hid ((Below.refl w.heap.size w).alloc (Nat.le_refl _) (.cells #[.int .u8 0, .int .u8 0, .int .u8 0, .int .u8 0] 5))
  have O1 := Lib.hid O0.out
  have B1 := Lib.hid B0.out
  clear h0 h1 hx hr hL
  obtain ⟨_, x0, _, _, _⟩ := X.out.four
  go_enter Try.func71, Try.ntmps71
  go_wp2_with fail
  obtain ⟨_, _, x1, x2, _⟩ := (X.out.below B1.out hlt).four
  generalize w.alloc (.cells #[.int .u8 0, .int .u8 0, .int .u8 0, .int .u8 0] 5) = W1 at *
  go_region_held3 (fun W => W.cell? ⟨b, 1, none⟩ = some (.int .i64 ei) ∧ W.cell? ⟨b, 2, none⟩ = some (.int .i64 es))
    (first | go_keep | (go_split_ands; exact ⟨keepB hb (by assumption) hlt, keepB hb (by assumption) hlt⟩))
    (first
      | (have q := P4; clear q; refine append_step _ rfl (.tmp 17) (.tmp 22) rfl w.heap.size _ _ _ _ rfl P4.out _ _ _ _ rfl r4.out B4.out.size (by omega) ?_; intro a5 c5 w5 o5 hb; have P5 := Lib.hid o5; have B5 := Lib.hid (B4.out.trans hb))
      | (have q := P2; clear q; refine append_step _ rfl (.tmp 11) (.tmp 16) rfl w.heap.size _ _ _ _ rfl P2.out _ _ _ _ rfl r2.out B2.out.size (by omega) ?_; intro a3 c3 w3 o3 hb; have P3 := Lib.hid o3; have B3 := Lib.hid (B2.out.trans hb))
      | (have q := P3; clear q; go_at_call 91; refine (K2.out _).mono ?_; rintro e w4 ⟨rfl, o4, b4⟩; have P4 := Lib.hid (P3.out.below b4); have r4 := Lib.hid o4.rd; have hb := b4.mono B3.out.size; have B4 := Lib.hid (B3.out.trans hb))
      | (go_at_call 91; refine (K1.out _).mono ?_; rintro e w2 ⟨rfl, o2, b2⟩; have P2 := Lib.hid (O1.out.drew.below b2); have r2 := Lib.hid o2.rd; have hb := b2.mono B1.out.drew.size; have B2 := Lib.hid (B1.out.drew.trans hb)))
  clear o2 b2 P2 r2 o3 P3 o4 b4 P4 r4 hb B1 B2 B3 B4 x0 x1 x2 O1 O0 B0 o5 K1 K2
  obtain ⟨_, _, _, _, x3⟩ := (X.out.below B5.out hlt).four
  have H5 := Lib.hid (HR.out.below B5.out)
  go_wp2_with (at_builtin; refine append_bytes _ rfl (.tmp 24) (.tmp 28) rfl w.heap.size _ _ _ _ rfl P5.out _ _ _ _ rfl H5.out B5.out.size (by omega) ?_; intro a6 c6 w6 o6 g6; have P6 := Lib.hid o6; have B6 := Lib.hid (B5.out.grown g6 B5.out.size (own_rows P5.out _ (Nat.le_refl _))); clear o6 g6 P5 B5 H5)
  rcases P6.out.shape with ⟨_, h0, _⟩ | ⟨g, rfl⟩
  · omega
  have gB := (P6.out.lt _ rfl).1
  dsimp only at gB
  refine (l1Seal_lit g _ c6 _ 2 2 _ _ rfl P6.out (by omega) (by omega)).mono ?_
  rintro e w7 ⟨rfl, o7, g7⟩
  have B7 := Lib.hid (B6.out.grown g7 B6.out.size (fun k e => by cases e; exact gB))
  have P7 := Lib.hid o7
  clear o7 g7 P6 B6
  go_wp2
  go_ret
  exact ⟨_, _, _, rfl, by rw [HL.out]; exact P7.out, B7.out⟩

theorem l3Echo_any (b : Nat) (er : Bool) (ei es : Int) (a : Option Addr) (len cap : Nat) (zs : List Int) (w : World) (hx : Box w b 35 #[.bool er, .int .i64 ei, .int .i64 es, .slice a len cap]) (hr : Rd w a len cap zs)
    (h0 : 0 ≤ ei ∧ ei < 281474976710656) (h1 : 0 ≤ es ∧ es < 281474976710656) (hl : len ≤ 552) :
    Calls Try.prog 71 #[.pointer (some ⟨b, 0, none⟩)] w (FreshAny w (echoL er ei es zs)) := by
  cases er with
  | true => exact l3Echo_true b ei es a len cap zs w hx hr h0 h1 hl
  | false => exact l3Echo_false b ei es a len cap zs w hx hr h0 h1 hl

def echoP (er : Bool) (ei es : Int) (zs : List Int) : List Int := if echoC ei es zs.length = 0 then echoL er ei es zs else []
theorem echoC_parts {ei es : Int} {n : Nat} (h : echoC ei es n = 0) : (0 ≤ ei ∧ ei < 65536) ∧ (0 ≤ es ∧ es < 65536) ∧ n ≤ 552 := by
  unfold echoC at h
  split at h
  · rename_i hk
    split at h
    · simp only [echoB, inB, Bool.and_eq_true, decide_eq_true_eq] at hk
      omega
    · omega
  · omega
theorem echoL_len (er : Bool) (ei es : Int) (zs : List Int) : (echoL er ei es zs).length = 8 + zs.length := by
  rw [echoL, sealB_len]; simp [be_len]; omega
theorem echoP_len (er : Bool) (ei es : Int) (zs : List Int) : (echoP er ei es zs).length ≤ 700 := by
  unfold echoP
  split
  · rename_i h
    have := (echoC_parts h).2.2
    rw [echoL_len]
    omega
  · simp

set_option maxHeartbeats 1000000 in
theorem specPackEcho (er : Bool) (ei es : Int) (a : Option Addr) (len cap : Nat) (zs : List Int) (w : World) (hr : Rd w a len cap zs) :
    Calls Try.prog 24 #[.agg #[.bool er, .int .i64 ei, .int .i64 es, .slice a len cap]] w (Packed w (echoC ei es zs.length) (echoP er ei es zs)) := by
  have S := Lib.hid (fun W => specEchoFault er ei es a len cap W)
  have B0 := Lib.hid (((Below.refl w.heap.size w).alloc (Nat.le_refl _) (.cells #[.bool er, .int .i64 ei, .int .i64 es, .slice a len cap] 35)).alloc (by simp) (.cells #[.int .i64 0, .slice none 0 0] 28))
  have X0 := Lib.hid ((Box.new w 35 #[.bool er, .int .i64 ei, .int .i64 es, .slice a len cap]).alloc (.cells #[.int .i64 0, .slice none 0 0] 28))
  have R0 := Lib.hid (Box.new (w.alloc (.cells #[.bool er, .int .i64 ei, .int .i64 es, .slice a len cap] 35)) 28 #[.int .i64 0, .slice none 0 0])
  rw [hr.length]
  by_cases hk : echoC ei es len = 0
  · have hp : echoP er ei es zs = echoL er ei es zs := by unfold echoP; rw [hr.length, if_pos hk]
    obtain ⟨h0, h1, h2⟩ := echoC_parts hk
    have L := Lib.hid (fun W b hx hW => l3Echo_any b er ei es a len cap zs W hx (hr.below hW) (by omega) (by omega) h2)
    rw [hk] at S ⊢
    rw [hp]
    clear hk hp h0 h1 h2 hr
    generalize echoL er ei es zs = ys at *
    go_enter Try.func24, Try.ntmps24
    go_wp2_with fail
    refine (S.out _).mono ?_
    rintro e w1 ⟨rfl, b1⟩
    have X1 := Lib.hid (X0.out.below b1 X0.out.lt)
    have R1 := Lib.hid (R0.out.below b1 R0.out.lt)
    have B1 := Lib.hid (B0.out.trans (b1.mono B0.out.size))
    clear b1 X0 R0 B0
    go_wp2_with fail
    refine (L.out _ _ X1.out B1.out).mono ?_
    rintro e w2 ⟨a2, l2, c2, rfl, o2, b2⟩
    have R2 := R1.out.below b2 R1.out.lt
    simp only [World.size_alloc] at R2
    have hz := R1.out.lt
    simp only [World.size_alloc] at hz
    obtain ⟨z2, r20, r21⟩ := R2.two
    have f0 := R2.frozen 0
    have f1 := R2.frozen 1
    have B2 := Lib.hid (B1.out.trans (b2.mono B1.out.size))
    have O2 := Lib.hid o2
    clear b2 o2 X1 R1 B1 R2
    go_wp2
    refine bodyPost_ret (v := .agg #[.int .i64 0, .slice a2 l2 c2]) (by simp [results, Try.results24, go_sem, r20, r21]) rfl ⟨_, _, _, rfl, ?_, (B2.out.setCell (by simp) _).setCell (by simp) _⟩
    have hn : ∀ x, a2 = some x → w1.heap.size ≤ x.block := fun x hx => (O2.out.lt x hx).1
    exact ((O2.out.setOther _ _ (fun x hx => by have := hn x hx; simp; omega)).setOther _ _ (fun x hx => by have := hn x hx; simp; omega)).rebase (by have := B2.out.size; omega)
  · have hp : echoP er ei es zs = [] := by unfold echoP; rw [hr.length, if_neg hk]
    have hne : (echoC ei es len != 0) = true := by simpa using hk
    rw [hp]
    clear hk hp hr
    generalize echoC ei es len = c at *
    go_enter Try.func24, Try.ntmps24
    go_wp2_with fail
    refine (S.out _).mono ?_
    rintro e w1 ⟨rfl, b1⟩
    have R1 := R0.out.below b1 R0.out.lt
    simp only [World.size_alloc] at R1
    obtain ⟨z2, r20, r21⟩ := R1.two
    have f0 := R1.frozen 0
    have f1 := R1.frozen 1
    have B1 := Lib.hid (B0.out.trans (b1.mono B0.out.size))
    clear b1 X0 R0 B0 R1
    go_wp2
    exact bodyPost_ret (v := .agg #[.int .i64 c, .slice none 0 0]) (by simp [results, Try.results24, go_sem, r20, r21]) rfl ⟨none, 0, 0, rfl, Own.nil _ _, (B1.out.setCell (by simp) _).setCell (by simp) _⟩
end Go.Proofs.Ytgjkbaplfbiomaa
