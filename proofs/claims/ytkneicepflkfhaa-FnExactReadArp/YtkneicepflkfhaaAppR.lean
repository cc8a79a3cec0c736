/-
  Bytes appended to a slice that owns its array, as a step of a region that draws its order; and the bytes of a question or an answer of addresses by the model.
-/
import Derived.Test.YtkneicepflkfhaaApp
import Derived.Test.YtkneicepflkfhaaArp
import Derived.Deep.RegionHeld3
import Derived.Deep.RegionLaw
namespace Go.Proofs.Ytkneicepflkfhaa
open Go.ChangeShapes Go.WideShapes Go.ChangeAt Go.RowKit

theorem run_append_bytes (w : World) (ty : TypeId) (base : Nat) (a : Option Addr) (len cap : Nat) (zs : List Int) (hown : Own w base a len cap zs)
    (b : Option Addr) (lb cb : Nat) (ys : List Int) (hr : Rd w b lb cb ys) (hb : base ≤ w.heap.size) (hsz : len + lb ≤ 1099511627776) :
    ∃ a' c' w', (Builtin.append_ #[22, 22] ty #[.slice a len cap, .slice b lb cb]).run Try.prog w = .ok (.slice a' (len + lb) c') w' ∧ Own w' base a' (len + lb) c' (zs ++ ys) ∧ w.grownBy w' (Value.slice a len cap).ownBlock := by
  obtain ⟨i0, hi, hz0, hz1, hz2⟩ := info_parts Try.infoU8
  have hl := hown.length
  have hlb := hr.length
  cases b with
  | none =>
    obtain ⟨rfl, rfl⟩ := hr.nil rfl
    obtain rfl : ys = [] := List.length_eq_zero_iff.1 hlb
    have hrun := run_append_owned_none (P := Try.prog) (w := w) base 22 ty 5 i0 1 Try.underlying22 hi _ _ _ hown.row
    exact ⟨a, cap, w, hrun, by simpa using hown, World.grownBy.refl _ _⟩
  | some ad =>
    obtain ⟨v', w', hrun, ho', hg, _⟩ := run_append_own (P := Try.prog) w base 22 ty 5 i0 (.int .u8 0) 1 1 Try.underlying22 hi hz0 hz1 hz2 rfl (by decide) _ _ _ hown.row ad lb cb (ys.map (.int .u8)) (by simpa using hlb) (by
      rcases hr.cells with h0 | ⟨bb, off, e, hc⟩
      · intro j u hu
        obtain rfl : ys = [] := List.length_eq_zero_iff.1 (by omega)
        simp at hu
      · cases e
        exact map_cells hlb hc) (ints_oneCell _ _) (by unfold maxLen; omega) (by omega) hb
    have ho'' := ho'
    rw [← List.map_append] at ho''
    rcases ho'.2 with ⟨rfl, hn⟩ | ⟨g, c, cur, rfl, _⟩
    · rw [hn] at ho''
      exact ⟨none, 0, w', by rw [hrun, hn], by rw [hn]; exact ⟨ho'', b8_app hown.b8 hr.b8⟩, hg⟩
    · exact ⟨_, c, w', hrun, ⟨ho'', b8_app hown.b8 hr.b8⟩, hg⟩

theorem append_step (w : World) {ops : Array Oper} {o : Oper} {ac : Act} {K : Act → World → Prop} {Q : Exit → Act → World → Prop} {E : Prop} (hgd : o.guard = none) (s x : Operand)
    (ho : o.op = .call { callee := .builtin .append, args := #[s, x], argTypes := #[22, 22] })
    (base : Nat) (a : Option Addr) (len cap : Nat) (zs : List Int) (hs : ac.eval s = .slice a len cap) (hown : Own w base a len cap zs)
    (b : Option Addr) (lb cb : Nat) (ys : List Int) (hx : ac.eval x = .slice b lb cb) (hr : Rd w b lb cb ys) (hb : base ≤ w.heap.size) (hsz : len + lb ≤ 1099511627776)
    (h : ∀ a' c' w', Own w' base a' (len + lb) c' (zs ++ ys) → Below base w w' → K (ac.put o.dst (.slice a' (len + lb) c')) w') :
    if Region.wanted o (yielded ops ac.tmps) = true then Oper.wp Try.prog o ac w K Q else E := by
  have hw : Region.wanted o (yielded ops ac.tmps) = true := by simp [Region.wanted, hgd]
  rw [if_pos hw]
  obtain ⟨a', c', w', hrun, ho', hg⟩ := run_append_bytes w o.type base a len cap zs hown b lb cb ys hr hb hsz
  unfold Oper.wp execOp
  simp only [ho, resolve, invoke, builtin, Sem.run_bind, Sem.run_pure, Result.andThen_ok, List.map_toArray, List.map_cons, List.map_nil, hs, hx, hrun]
  refine h a' c' w' ho' (below_of_grown hg hb fun k e => ?_)
  cases a with
  | none => simp [Value.ownBlock] at e
  | some y =>
    simp [Value.ownBlock] at e
    have := (hown.lt y rfl).1
    omega

theorem keepB {B : Nat} {W w1 : World} (hb : Below B W w1) {p : Addr} {u : Value} (h : W.cell? p = some u) (hp : p.block < B) : w1.cell? p = some u := (hb.cell hp).trans h
theorem own_lit6 (w : World) (base : Nat) (hb : base ≤ w.heap.size) : Own (w.alloc (.cells #[.int .u8 0, .int .u8 1, .int .u8 8, .int .u8 0, .int .u8 6, .int .u8 4] 5)) base (some ⟨w.heap.size, 0, none⟩) 6 6 [0, 1, 8, 0, 6, 4] :=
  ⟨World.ownsRow_lit w #[.int .u8 0, .int .u8 1, .int .u8 8, .int .u8 0, .int .u8 6, .int .u8 4] 6 hb (by unfold maxLen; omega) rfl, by intro n hn; simp at hn; omega⟩

def arpL (op fm fi tm ti : Int) : List Int := [0, 1, 8, 0, 6, 4] ++ be op 2 ++ be fm 6 ++ be fi 4 ++ be tm 6 ++ be ti 4

theorem l1Pack_lit (n s : Int) (S : Nat) (w : World) (hs : (S : Int) = s) (h : 0 ≤ n ∧ n < 281474976710656) (hS : S ≤ 6) :
    Calls Try.prog 63 #[.int .i64 n, .int .i64 s] w fun e w' => e = .returned (.slice (some ⟨w.heap.size, 0, none⟩) S S) ∧ Own w' w.heap.size (some ⟨w.heap.size, 0, none⟩) S S (be n S) ∧ Below w.heap.size w w' := by
  subst hs
  exact l1Pack_any n S w h.1 (by omega) h.2

set_option maxHeartbeats 2000000 in
theorem l2Arp_any (b : Nat) (op fm fi tm ti : Int) (w : World) (hx : Box w b 49 #[.int .i64 op, .int .i64 fm, .int .i64 fi, .int .i64 tm, .int .i64 ti])
    (h0 : 0 ≤ op ∧ op < 281474976710656) (h1 : 0 ≤ fm ∧ fm < 281474976710656) (h2 : 0 ≤ fi ∧ fi < 281474976710656) (h3 : 0 ≤ tm ∧ tm < 281474976710656) (h4 : 0 ≤ ti ∧ ti < 281474976710656) :
    Calls Try.prog 56 #[.pointer (some ⟨b, 0, none⟩)] w (Fresh w 28 (arpL op fm fi tm ti)) := by
  have K0 := Lib.hid (fun W => l1Pack_lit op 2 2 W rfl h0 (by omega))
  have K1 := Lib.hid (fun W => l1Pack_lit fm 6 6 W rfl h1 (by omega))
  have K2 := Lib.hid (fun W => l1Pack_lit fi 4 4 W rfl h2 (by omega))
  have K3 := Lib.hid (fun W => l1Pack_lit tm 6 6 W rfl h3 (by omega))
  have K4 := Lib.hid (fun W => l1Pack_lit ti 4 4 W rfl h4 (by omega))
  have X := Lib.hid hx
  have hlt := hx.lt
  clear h0 h1 h2 h3 h4 hx
  have x0 := X.out.five.2.1
  have o0 := Lib.hid (own_lit6 w w.heap.size (Nat.le_refl _))
  have B0 := Lib.hid ((Below.refl w.heap.size w).alloc (Nat.le_refl _) (.cells #[.int .u8 0, .int .u8 1, .int .u8 8, .int .u8 0, .int .u8 6, .int .u8 4] 5))
  go_enter Try.func56, Try.ntmps56
  go_wp2_with fail
  refine (K0.out _).mono ?_
  rintro e w1 ⟨rfl, o1, b1⟩
  simp only [World.size_alloc] at o1
  have p1 := Lib.hid (o0.out.below b1)
  have B1 := Lib.hid (B0.out.trans (b1.mono B0.out.size))
  have r1 := Lib.hid o1.rd
  clear o0 o1 b1 B0 x0
  go_wp2_with (at_builtin; refine append_bytes _ rfl (.tmp 4) (.tmp 9) rfl w.heap.size _ _ _ _ rfl p1.out _ _ _ _ rfl r1.out B1.out.size (by omega) ?_; intro a2 c2 w2 o2 g2; have P2 := Lib.hid o2; have B2 := Lib.hid (B1.out.grown g2 B1.out.size (fun k e => by simp [Value.ownBlock] at e; omega)); clear o2 g2 p1 r1 B1)
  have x1 := (X.out.below B2.out hlt).five.2.2.1
  have x2 := (X.out.below B2.out hlt).five.2.2.2.1
  go_region_held3 (fun W => W.cell? ⟨b, 1, none⟩ = some (.int .i64 fm) ∧ W.cell? ⟨b, 2, none⟩ = some (.int .i64 fi))
    (first | go_keep | (go_split_ands; exact ⟨keepB hb (by assumption) hlt, keepB hb (by assumption) hlt⟩))
    (first
      | (have q := P5; clear q; refine append_step _ rfl (.tmp 17) (.tmp 22) rfl w.heap.size _ _ _ _ rfl P5.out _ _ _ _ rfl r5.out B5.out.size (by omega) ?_; intro a6 c6 w6 o6 hb; have P6 := Lib.hid o6; have B6 := Lib.hid (B5.out.trans hb))
      | (have q := P3; clear q; refine append_step _ rfl (.tmp 11) (.tmp 16) rfl w.heap.size _ _ _ _ rfl P3.out _ _ _ _ rfl r3.out B3.out.size (by omega) ?_; intro a4 c4 w4 o4 hb; have P4 := Lib.hid o4; have B4 := Lib.hid (B3.out.trans hb))
      | (have q := P4; clear q; go_at_call 63; refine (K2.out _).mono ?_; rintro e w5 ⟨rfl, o5, b5⟩; have P5 := Lib.hid (P4.out.below b5); have r5 := Lib.hid o5.rd; have hb := b5.mono B4.out.size; have B5 := Lib.hid (B4.out.trans hb))
      | (go_at_call 63; refine (K1.out _).mono ?_; rintro e w3 ⟨rfl, o3, b3⟩; have P3 := Lib.hid (P2.out.drew.below b3); have r3 := Lib.hid o3.rd; have hb := b3.mono B2.out.drew.size; have B3 := Lib.hid (B2.out.drew.trans hb)))
  clear o3 b3 P3 r3 o4 P4 o5 b5 P5 r5 hb B2 B3 B4 B5 x1 x2 P2 o6 K1 K2 K0
  have x3 := (X.out.below B6.out hlt).five.2.2.2.2.1
  have x4 := (X.out.below B6.out hlt).five.2.2.2.2.2
  go_wp2_with fail
  go_region_held3 (fun W => W.cell? ⟨b, 3, none⟩ = some (.int .i64 tm) ∧ W.cell? ⟨b, 4, none⟩ = some (.int .i64 ti))
    (first | go_keep | (go_split_ands; exact ⟨keepB hb (by assumption) hlt, keepB hb (by assumption) hlt⟩))
    (first
      | (have q := P9; clear q; refine append_step _ rfl (.tmp 30) (.tmp 35) rfl w.heap.size _ _ _ _ rfl P9.out _ _ _ _ rfl r9.out B9.out.size (by omega) ?_; intro a10 c10 w10 o10 hb; have P10 := Lib.hid o10; have B10 := Lib.hid (B9.out.trans hb))
      | (have q := P7; clear q; refine append_step _ rfl (.tmp 24) (.tmp 29) rfl w.heap.size _ _ _ _ rfl P7.out _ _ _ _ rfl r7.out B7.out.size (by omega) ?_; intro a8 c8 w8 o8 hb; have P8 := Lib.hid o8; have B8 := Lib.hid (B7.out.trans hb))
      | (have q := P8; clear q; go_at_call 63; refine (K4.out _).mono ?_; rintro e w9 ⟨rfl, o9, b9⟩; have P9 := Lib.hid (P8.out.below b9); have r9 := Lib.hid o9.rd; have hb := b9.mono B8.out.size; have B9 := Lib.hid (B8.out.trans hb))
      | (go_at_call 63; refine (K3.out _).mono ?_; rintro e w7 ⟨rfl, o7, b7⟩; have P7 := Lib.hid (P6.out.drew.below b7); have r7 := Lib.hid o7.rd; have hb := b7.mono B6.out.drew.size; have B7 := Lib.hid (B6.out.drew.trans hb)))
  go_wp2
  go_ret
  exact ⟨a10, c10, rfl, P10.out, B10.out⟩
end Go.Proofs.Ytkneicepflkfhaa
