/-
  Contracts of the helpers of the laws that compare, mark and look at results with lists of pieces.
-/
import Derived.Test.YtimlobhlcmghfaaP6E
import Derived.Test.YtimlobhlcmghfaaP6F
namespace Go.Proofs.Ytimlobhlcmghfaa
open Go.ChangeShapes Go.WideShapes Go.ChangeAt Go.RowKit

set_option maxHeartbeats 1000000 in
theorem heldPieceS_any (a : Option Addr) (len cap k0 : Nat) (ps : List Pm) (w : World) (h : Pl w a len cap (markP k0 ps)) (hs : szP ps ≤ 2097152) (hk0 : k0 ≤ 100000000) :
    Calls Try.prog 131 #[.slice a len cap, .int .i64 k0] w fun e w' => e = .returned (.int .i64 (k0 + szP ps : Nat)) ∧ w = w' := by
  have HP := Lib.hid h
  have HS := Lib.hid hs
  have HL : Hid (ps.length = len) := by have := h.lb.length; rwa [markP_len] at this
  have hlm : len ≤ maxLen := Nat.le_trans h.lb.le h.lb.max
  unfold maxLen at hlm
  clear h hs
  go_enter Try.func131, Try.ntmps131
  go_wp2
  go_loopw [1, 5] (fun kk i wr => ∃ (j t : Nat), j ≤ len ∧ i = .int .i64 j ∧ kk = .int .i64 t ∧ t ≤ 200000000 ∧ Hid (t = k0 + szP (ps.take j)) ∧ w = wr) (fun _ i _ => len - (intOf i).toNat)
  case atStart => exact ⟨0, k0, Nat.zero_le _, rfl, rfl, by omega, by simp [Hid, szP, sumL], rfl⟩
  case round =>
    obtain ⟨j, t, hj, rfl, rfl, htb, hT, rfl⟩ := hrel
    by_cases hlt : j < len
    · obtain ⟨p, hp⟩ : ∃ p, ps[j]? = some p := ⟨_, List.getElem?_eq_getElem (by rw [HL.out]; exact hlt)⟩
      have hm := markP_at k0 j ps p hp
      have hT' := Lib.hid (szP_take_succ ps j p hp)
      have hle := Lib.hid (szP_take_le ps (j + 1))
      obtain ⟨b, off, p', ha, hp', c0, c1⟩ := HP.out.lb.at hlt
      rw [hm] at hp'
      cases hp'
      subst ha
      have D := HP.out.data _ (List.mem_of_getElem? hm)
      rw [← hT.out] at c0 D
      have hpl : p.l ≤ 2097152 := by have := HS.out; have := hle.out; have := hT'.out; omega
      have K := Lib.hid (heldByteS_any p.a p.l p.c (t + 1) w D hpl (by omega))
      have ec : ((t + 1 : Nat) : Int) = (t : Int) + 1 := by omega
      rw [ec] at K
      clear D hp hm
      obtain ⟨pk, pa, pl, pc, pz⟩ := p
      simp only at c0 c1 hT' hpl K
      have hn : ¬ ((t + 1 + pl : Nat) : Int) < 0 := by omega
      go_wp2_with fail
      refine K.out.mono ?_
      rintro e w2 ⟨rfl, rfl⟩
      have hV : Hid (t + 1 + pl = k0 + szP (ps.take (j + 1))) := by have := hT.out; have := hT'.out; simp only [Hid]; omega
      have hbd : t + 1 + pl ≤ 200000000 := by have := HS.out; have := hle.out; have := hV.out; omega
      clear K c0 c1 hT hT' hle
      go_wp2
      go_roundw
      case rel => exact ⟨j + 1, t + 1 + pl, by omega, by go_num, by go_num, hbd, hV.out, trivial⟩
      case measure => simp [intOf]; omega
    · obtain rfl : j = len := by omega
      have hV : Hid (t = k0 + szP ps) := by
        have e := hT.out
        rwa [List.take_of_length_le (by rw [HL.out]; exact Nat.le_refl _)] at e
      clear hT
      go_wp2
      go_ret
      exact ⟨ret_i (by rw [hV.out]), rfl⟩

/-- a result's pieces and bytes: all of them in blocks of their own, from lo to hi -/
structure PrO (w : World) (lo hi : Nat) (a : Option Addr) (len cap : Nat) (ps : List Pm) (b : Option Addr) (lb cb : Nat) (zb : List Int) : Prop where
  pl : PlO w lo hi a len cap ps
  own : Own w lo b lb cb zb
  hi : ∀ y, b = some y → y.block < hi
  ne : ∀ y, b = some y → (∀ x, a = some x → x.block ≠ y.block) ∧ ∀ p ∈ ps, ∀ x, p.a = some x → x.block ≠ y.block
theorem PrO.keep {w w' : World} {lo hi : Nat} {a : Option Addr} {len cap : Nat} {ps : List Pm} {b : Option Addr} {lb cb : Nat} {zb : List Int} (h : PrO w lo hi a len cap ps b lb cb zb) (hb : ∀ k, lo ≤ k → k < hi → k < w.heap.size → w'.heap[k]? = w.heap[k]?) : PrO w' lo hi a len cap ps b lb cb zb :=
  ⟨h.pl.keep hb, h.own.same (fun x hx => hb _ (h.own.lt x hx).1 (h.hi x hx) (h.own.lt x hx).2), h.hi, h.ne⟩
theorem PrO.below {w w' : World} {lo hi : Nat} {a : Option Addr} {len cap : Nat} {ps : List Pm} {b : Option Addr} {lb cb : Nat} {zb : List Int} (h : PrO w lo hi a len cap ps b lb cb zb) (hb : Below w.heap.size w w') : PrO w' lo hi a len cap ps b lb cb zb := h.keep fun k _ _ hk => hb.block k hk
theorem PrO.under {w w' : World} {lo hi B : Nat} {a : Option Addr} {len cap : Nat} {ps : List Pm} {b : Option Addr} {lb cb : Nat} {zb : List Int} (h : PrO w lo hi a len cap ps b lb cb zb) (hb : Below B w w') (hB : hi ≤ B) : PrO w' lo hi a len cap ps b lb cb zb := h.keep fun k _ hk _ => hb.block k (by omega)
theorem PrO.turn {w w' : World} {lo hi lo' hi' : Nat} {a : Option Addr} {len cap : Nat} {ps : List Pm} {b : Option Addr} {lb cb : Nat} {zb : List Int} (h : PrO w lo hi a len cap ps b lb cb zb) (ht : Turn lo' hi' w w') (hd : hi ≤ lo' ∨ hi' ≤ lo) : PrO w' lo hi a len cap ps b lb cb zb := h.keep fun k h1 h2 h3 => ht.block k h3 (by omega)
theorem PrO.drew {w : World} {lo hi : Nat} {a : Option Addr} {len cap : Nat} {ps : List Pm} {b : Option Addr} {lb cb : Nat} {zb : List Int} (h : PrO w lo hi a len cap ps b lb cb zb) : PrO w.drew lo hi a len cap ps b lb cb zb := h.below (Below.refl _ w).drew
theorem PrO.mono {w : World} {lo hi lo' hi' : Nat} {a : Option Addr} {len cap : Nat} {ps : List Pm} {b : Option Addr} {lb cb : Nat} {zb : List Int} (h : PrO w lo hi a len cap ps b lb cb zb) (h1 : lo' ≤ lo) (h2 : hi ≤ hi') : PrO w lo' hi' a len cap ps b lb cb zb :=
  ⟨h.pl.mono h1 h2, h.own.rebase h1, fun y hy => by have := h.hi y hy; omega, h.ne⟩
theorem PrO.noReady {w : World} {lo hi : Nat} {a : Option Addr} {len cap : Nat} {ps : List Pm} (h : PlO w lo hi a len cap ps) : PrO w lo hi a len cap ps none 0 0 [] := ⟨h, Own.nil _ _, fun _ hy => (by cases hy), fun _ hy => (by cases hy)⟩

set_option maxHeartbeats 1000000 in
theorem eqPieces_t (c : Int) (a a' : Option Addr) (la ca la' ca' : Nat) (ps qs : List Pm) (b b' : Option Addr) (lb cb lb' cb' : Nat) (zs : List Int) (w : World) (ha : Pl w a la ca ps) (ha' : Pl w a' la' ca' qs) (hv : vals ps = vals qs) (hb : Rd w b lb cb zs) (hb' : Rd w b' lb' cb' zs) :
    Calls Try.prog 46 #[.agg #[.int .i64 c, .slice a la ca, .slice b lb cb], .agg #[.int .i64 c, .slice a' la' ca', .slice b' lb' cb']] w fun e w' => e = .returned (.bool true) ∧ Below w.heap.size w w' := by
  have K := Lib.hid (fun W (hW : Below w.heap.size w W) => eqPieceS_any a a' la ca la' ca' ps qs W (ha.below hW) (ha'.below hW))
  rw [eqV_refl hv] at K
  have L := Lib.hid (fun W (hW : Below w.heap.size w W) => eqByteS_any b b' lb cb lb' cb' zs zs W (hb.below hW) (hb'.below hW))
  rw [show eqL zs zs = true from decide_eq_true rfl] at L
  have B0 := Lib.hid (((Below.refl w.heap.size w).alloc (Nat.le_refl _) (.cells #[.int .i64 c, .slice a la ca, .slice b lb cb] 28)).alloc (by simp) (.cells #[.int .i64 c, .slice a' la' ca', .slice b' lb' cb'] 28))
  have X0 := Lib.hid ((Box.new w 28 #[.int .i64 c, .slice a la ca, .slice b lb cb]).alloc (.cells #[.int .i64 c, .slice a' la' ca', .slice b' lb' cb'] 28))
  have Y0 := Lib.hid (Box.new (w.alloc (.cells #[.int .i64 c, .slice a la ca, .slice b lb cb] 28)) 28 #[.int .i64 c, .slice a' la' ca', .slice b' lb' cb'])
  clear ha ha' hb hb'
  go_enter Try.func46, Try.ntmps46
  go_wp2_with fail
  refine (K.out _ B0.out).mono ?_
  rintro e w1 ⟨rfl, b1⟩
  have B1 := Lib.hid (B0.out.trans (b1.mono B0.out.size))
  have X1 := X0.out.below b1 X0.out.lt
  have Y1 := Y0.out.below b1 Y0.out.lt
  simp only [World.size_alloc] at X1 Y1
  have x2 := X1.cell 2
  have y2 := Y1.cell 2
  clear b1 X1 Y1 X0 Y0 B0
  go_wp2_with fail
  refine (L.out _ B1.out).mono ?_
  rintro e w2 ⟨rfl, b2⟩
  have B2 := Lib.hid (B1.out.trans (b2.mono B1.out.size))
  clear b2 x2 y2 B1
  go_wp2
  go_ret
  exact ⟨rfl, B2.out⟩

set_option maxHeartbeats 1000000 in
theorem markPieces_any (lo hi : Nat) (c : Int) (a : Option Addr) (len cap k0 : Nat) (ps : List Pm) (b : Option Addr) (lb cb : Nat) (zb : List Int) (w : World) (h : PrO w lo hi a len cap ps b lb cb zb) (hw : hi ≤ w.heap.size) (hs : szP ps ≤ 2097152) (hlb : lb ≤ 2097152) (hk0 : k0 ≤ 1000000) :
    Calls Try.prog 51 #[.agg #[.int .i64 c, .slice a len cap, .slice b lb cb], .int .i64 k0] w fun e w' => e = .returned (.int .i64 (k0 + szP ps + lb : Nat)) ∧ PrO w' lo hi a len cap (markP k0 ps) b lb cb (marks (k0 + szP ps) lb) ∧ Turn lo hi w w' := by
  have H0 := Lib.hid (h.below ((Below.refl _ w).alloc (Nat.le_refl _) (.cells #[.int .i64 c, .slice a len cap, .slice b lb cb] 28)))
  have T0 := Lib.hid (Turn.of_below (lo := lo) (hi := hi) ((Below.refl _ w).alloc (Nat.le_refl _) (.cells #[.int .i64 c, .slice a len cap, .slice b lb cb] 28)))
  have K := Lib.hid (markPieceS_any lo hi a len cap k0 ps _ H0.out.pl hs (by omega))
  have X0 := Lib.hid (Box.new w 28 #[.int .i64 c, .slice a len cap, .slice b lb cb])
  clear h
  go_enter Try.func51, Try.ntmps51
  go_wp2_with fail
  refine K.out.mono ?_
  rintro e w1 ⟨rfl, p1, t1, n1⟩
  have X1 : Box w1 w.heap.size 28 #[.int .i64 c, .slice a len cap, .slice b lb cb] := (t1.block _ X0.out.lt (.inr hw)).trans X0.out
  have x2 := X1.cell 2
  have o1 : Own w1 lo b lb cb zb := H0.out.own.same (fun x hx => n1 _ (H0.out.own.lt x hx).2 (H0.out.ne x hx).1 (H0.out.ne x hx).2)
  have L := Lib.hid (markByteS_any b lb cb lo (k0 + szP ps) zb w1 o1 hlb (by omega))
  have P1 := Lib.hid p1
  have T1 := Lib.hid (T0.out.trans t1)
  have mem : Hid (∀ p ∈ markP k0 ps, ∃ q ∈ ps, q.a = p.a) := by
    intro p hp
    obtain ⟨i, hi⟩ := List.getElem?_of_mem hp
    have hlt : i < ps.length := by have := (List.getElem?_eq_some_iff.1 hi).1; rwa [markP_len] at this
    have e := markP_at k0 i ps _ (List.getElem?_eq_getElem hlt)
    rw [e] at hi
    cases hi
    exact ⟨_, List.getElem_mem hlt, rfl⟩
  clear p1 t1 n1 X1 X0 o1
  go_wp2_with fail
  refine L.out.mono ?_
  rintro e w2 ⟨rfl, o2, g2⟩
  have bk : ∀ k, (∀ x, b = some x → x.block ≠ k) → some k ≠ (Value.slice b lb cb).ownBlock := fun k hk e => by
    cases b with
    | none => simp [Value.ownBlock] at e
    | some x => simp [Value.ownBlock] at e; exact hk x rfl e.symm
  have T2 := Lib.hid (T1.out.trans (show Turn lo hi w1 w2 from ⟨g2.os, g2.tape, g2.output, g2.size, fun k hk hq => g2.block k hk (bk k (fun x hx => by
    have h1 := H0.out.own.lt x hx
    have h2 := H0.out.hi x hx
    omega))⟩))
  have Q2 : Hid (PrO w2 lo hi a len cap (markP k0 ps) b lb cb (marks (k0 + szP ps) lb)) := by
    have ha : ∀ x, a = some x → w2.heap[x.block]? = w1.heap[x.block]? := fun x hx => g2.block _ (by have := P1.out.fz; subst hx; exact this.lt) (bk _ (fun y hy e => (H0.out.ne y hy).1 x hx e.symm))
    refine ⟨⟨P1.out.lb.same ha, P1.out.fz.same ha, P1.out.blk, fun p hp => ⟨(P1.out.own p hp).1.same (fun x hx => g2.block _ ((P1.out.own p hp).1.lt x hx).2 (bk _ (fun y hy e => ?_))), (P1.out.own p hp).2⟩, P1.out.sep⟩, o2, H0.out.hi, fun y hy => ⟨(H0.out.ne y hy).1, fun p hp x hx => ?_⟩⟩
    · obtain ⟨q, hq, eq⟩ := mem.out p hp
      exact (H0.out.ne y hy).2 q hq x (eq.trans hx) e.symm
    · obtain ⟨q, hq, eq⟩ := mem.out p hp
      exact (H0.out.ne y hy).2 q hq x (eq.trans hx)
  clear o2 g2 bk L K P1 T1 x2 H0 T0 mem
  go_wp2
  go_ret
  exact ⟨ret_i rfl, Q2.out, T2.out⟩

set_option maxHeartbeats 1000000 in
theorem heldPieces_any (c : Int) (a : Option Addr) (len cap k0 : Nat) (ps : List Pm) (b : Option Addr) (lb cb : Nat) (w : World) (h : Pl w a len cap (markP k0 ps)) (hr : Rd w b lb cb (marks (k0 + szP ps) lb)) (hs : szP ps ≤ 2097152) (hlb : lb ≤ 2097152) (hk0 : k0 ≤ 1000000) :
    Calls Try.prog 52 #[.agg #[.int .i64 c, .slice a len cap, .slice b lb cb], .int .i64 k0] w fun e w' => e = .returned (.int .i64 (k0 + szP ps + lb : Nat)) ∧ Below w.heap.size w w' := by
  have B0 := Lib.hid ((Below.refl _ w).alloc (Nat.le_refl _) (.cells #[.int .i64 c, .slice a len cap, .slice b lb cb] 28))
  have K := Lib.hid (heldPieceS_any a len cap k0 ps _ (h.below B0.out) hs (by omega))
  have L := Lib.hid (heldByteS_any b lb cb (k0 + szP ps) _ (hr.below B0.out) hlb (by omega))
  have hn1 : ¬ ((k0 + szP ps : Nat) : Int) < 0 := by omega
  have hn2 : ¬ ((k0 + szP ps + lb : Nat) : Int) < 0 := by omega
  clear h hr
  go_enter Try.func52, Try.ntmps52
  go_wp2_with fail
  refine K.out.mono ?_
  rintro e w1 ⟨rfl, rfl⟩
  go_wp2_with fail
  refine L.out.mono ?_
  rintro e w1 ⟨rfl, rfl⟩
  go_wp2
  go_ret
  exact ⟨rfl, B0.out⟩
end Go.Proofs.Ytimlobhlcmghfaa
