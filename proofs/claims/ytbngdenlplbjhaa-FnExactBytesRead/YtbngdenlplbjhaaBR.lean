/-
  BytesRead, by values; the model's answers so.
-/
import Derived.Test.YtbngdenlplbjhaaXBytesRead
import Derived.Test.YtbngdenlplbjhaaApp
import Derived.Test.YtbngdenlplbjhaaAppR
import Derived.Lib.AppendZeros
namespace Go.Proofs.Ytbngdenlplbjhaa
open Go.ChangeShapes Go.WideShapes Go.ChangeAt Go.RowKit

def brQ (s : Int) (e : EventV) : Bool := e.f0 == 3 && e.f1 == s
def brL (s : Int) : List EventV → List ReplyV → List Int
  | e :: es, r :: rs => (if brQ s e = true then r.f2 else []) ++ brL s es rs
  | _, _ => []
theorem brL_nil (s : Int) (rs : List ReplyV) : brL s [] rs = [] := rfl
theorem brL_app (s : Int) : ∀ (es fs : List EventV) (rs qs : List ReplyV), es.length = rs.length → brL s (es ++ fs) (rs ++ qs) = brL s es rs ++ brL s fs qs
  | [], fs, [], qs, _ => rfl
  | e :: es, fs, r :: rs, qs, h => by
    simp only [List.cons_append, brL, brL_app s es fs rs qs (by simpa using h), List.append_assoc]
  | [], _, _ :: _, _, h => by simp at h
  | _ :: _, _, [], _, h => by simp at h
theorem brL_step (s : Int) {es : List EventV} {rs : List ReplyV} {k : Nat} {e : EventV} {r : ReplyV} (he : es[k]? = some e) (hr : rs[k]? = some r) : brL s (es.take (k + 1)) (rs.take (k + 1)) = brL s (es.take k) (rs.take k) ++ (if brQ s e = true then r.f2 else []) := by
  have h1 := (List.getElem?_eq_some_iff.1 he).1
  have h2 := (List.getElem?_eq_some_iff.1 hr).1
  rw [List.take_add_one, List.take_add_one, he, hr, brL_app s _ _ _ _ (by simp only [List.length_take]; omega)]
  simp [brL]
theorem brL_le (s : Int) : ∀ (es : List EventV) (rs : List ReplyV), (brL s es rs).length ≤ sw ReplyV.wt rs
  | [], rs => Nat.zero_le _
  | _ :: _, [] => Nat.le_refl _
  | e :: es, r :: rs => by
    have := brL_le s es rs
    simp only [brL, List.length_append, sw]
    split
    · simp only [ReplyV.wt]; omega
    · simp only [List.length_nil]; omega
def brC (s : Int) (es : List EventV) (rs : List ReplyV) : Int := if inB s 0 1 = true then (if es.length = rs.length then (if 700 < (brL s es rs).length then 2 else 0) else 1) else 3
def brV (s : Int) (es : List EventV) (rs : List ReplyV) : BytesResultV := ⟨brC s es rs, if brC s es rs = 0 then brL s es rs else []⟩
theorem brV_wt (s : Int) (es : List EventV) (rs : List ReplyV) : (brV s es rs).wt ≤ 1048576 := by
  unfold BytesResultV.wt brV
  dsimp only
  split
  · next h =>
    unfold brC at h
    split at h
    · split at h
      · split at h
        · simp at h
        · omega
      · simp at h
    · simp at h
  · simp
/-- an answer of bytes that this call owns -/
theorem brOut {w w' : World} {c : Int} {a : Option Addr} {l cp : Nat} {zs : List Int} {V : BytesResultV} {base : Nat} (hb : w.heap.size ≤ base) (o : Own w' base a l cp zs) (b : Below w.heap.size w w') (hV : V = ⟨c, zs⟩) :
    TOut BytesResultR.md BytesResultR.val V w (.returned (.agg #[.int .i64 c, .slice a l cp])) w' := by
  subst hV
  refine ⟨⟨c, ⟨a, l, cp, zs⟩⟩, rfl, o.rd, rfl, ⟨⟨?_, ?_⟩, ?_⟩, b⟩
  · show (sb a l).Nodup
    unfold sb
    split
    · exact List.nodup_nil
    · split
      · exact List.nodup_nil
      · exact List.pairwise_singleton _ _
  · intro k hk
    obtain ⟨p, e, _, rfl⟩ := mem_sb hk
    dsimp only at e
    subst e
    rcases o.row.2 with ⟨h1, _⟩ | ⟨g, c, cur, h1, _, h2, _⟩
    · cases h1
    · simp only [Value.slice.injEq] at h1
      obtain ⟨h1, _⟩ := h1
      cases h1
      exact ⟨_, _, h2⟩
  · intro k hk
    obtain ⟨p, e, _, rfl⟩ := mem_sb hk
    dsimp only at e
    have := (o.lt p e).1
    omega
theorem own_lit0 (w : World) (base : Nat) (hb : base ≤ w.heap.size) : Own (w.alloc (.cells #[] 5)) base (some ⟨w.heap.size, 0, none⟩) 0 0 [] := ⟨World.ownsRow_lit w #[] 0 hb (Nat.zero_le _) rfl, b8_nil⟩

set_option maxHeartbeats 4000000 in
theorem specBytesRead (p : PairR) (x : Lt EventR) (s : Int) (w : World) (h : PairR.ok w p) (h' : Lt.ok EventR.md w x) (hl : p.val.wt ≤ 1048576) :
    Calls Try.prog 22 #[.agg (PairR.cells p).toArray, .slice x.a x.l x.c, .int .i64 s] w (TOut BytesResultR.md BytesResultR.val (brV s (x.rs.map EventR.val) (p.f3.rs.map ReplyR.val)) w) := by
  obtain ⟨f0, f1, f2, ⟨ra, rl, rc, rs⟩⟩ := p
  obtain ⟨ea, el, ec, es⟩ := x
  show Calls Try.prog 22 #[.agg #[.int .i64 f0, .slice f1.a f1.l f1.c, .slice f2.a f2.l f2.c, .slice ra rl rc], .slice ea el ec, .int .i64 s] w _
  dsimp only
  have HR := Lib.hid (show Lt.ok ReplyR.md w ⟨ra, rl, rc, rs⟩ from h.2)
  have HE := Lib.hid h'
  have hrl : rs.length = rl := h.2.length
  have hel : es.length = el := h'.length
  have hwl : Hid (sw ReplyV.wt (rs.map ReplyR.val) ≤ 1048576) := by
    have e : (PairR.val ⟨f0, f1, f2, ⟨ra, rl, rc, rs⟩⟩).wt = wtL EndV.wt (f1.rs.map EndR.val) + wtL FlightV.wt (f2.rs.map FlightR.val) + wtL ReplyV.wt (rs.map ReplyR.val) := rfl
    rw [e] at hl
    simp only [wtL] at hl
    simp only [Hid]
    omega
  have hrm : rl ≤ 1048576 := by
    have e : (PairR.val ⟨f0, f1, f2, ⟨ra, rl, rc, rs⟩⟩).wt = wtL EndV.wt (f1.rs.map EndR.val) + wtL FlightV.wt (f2.rs.map FlightR.val) + wtL ReplyV.wt (rs.map ReplyR.val) := rfl
    rw [e] at hl
    simp only [wtL, List.length_map] at hl
    omega
  have hem : el ≤ maxLen := Nat.le_trans h'.le h'.max
  unfold maxLen at hem
  obtain ⟨V, hV⟩ : ∃ V, V = brV s (es.map EventR.val) (rs.map ReplyR.val) := ⟨_, rfl⟩
  rw [← hV]
  have HV := Lib.hid hV
  have HLR := Lib.hid hrl
  have HLE := Lib.hid hel
  clear h h' hl hV hrl hel
  have X0 := Lib.hid ((Box.new w 59 #[.int .i64 f0, .slice f1.a f1.l f1.c, .slice f2.a f2.l f2.c, .slice ra rl rc]).alloc (.cells #[.int .i64 0, .slice none 0 0] 53))
  have yy := Box.new (w.alloc (.cells #[.int .i64 f0, .slice f1.a f1.l f1.c, .slice f2.a f2.l f2.c, .slice ra rl rc] 59)) 53 #[.int .i64 0, .slice none 0 0]
  rw [World.size_alloc] at yy
  have Y0 := Lib.hid yy
  clear yy
  have B0 := Lib.hid (((Below.refl w.heap.size w).alloc (Nat.le_refl _) (.cells #[.int .i64 f0, .slice f1.a f1.l f1.c, .slice f2.a f2.l f2.c, .slice ra rl rc] 59)).alloc (by simp) (.cells #[.int .i64 0, .slice none 0 0] 53))
  by_cases hs : inB s 0 1 = true
  case neg =>
    have hV0 : Hid (V = ⟨3, []⟩) := by have e := HV.out; simp only [Hid]; rw [e]; unfold brV brC; rw [if_neg hs]; rfl
    have hi : inB s 0 1 = false := by simpa using hs
    go_enter Try.func22, Try.ntmps22
    go_wp2_with (go_at_call 59; refine (l1In_any _ _ _ _).mono ?_; rintro e w' ⟨rfl, rfl⟩)
    have Z := Box.new (w.alloc (.cells #[.int .i64 f0, .slice f1.a f1.l f1.c, .slice f2.a f2.l f2.c, .slice ra rl rc] 59)) 53 #[.int .i64 3, .slice none 0 0]
    have B1 := ((Below.refl w.heap.size w).alloc (Nat.le_refl _) (.cells #[.int .i64 f0, .slice f1.a f1.l f1.c, .slice f2.a f2.l f2.c, .slice ra rl rc] 59)).alloc (by simp) (.cells #[.int .i64 3, .slice none 0 0] 53)
    simp only [World.size_alloc] at Z
    refine bodyPost_ret (results_cell_row Try.results22 _ _ _ _ _ _ _ rfl Z Try.underlying53 rfl (by kernel_rfl)) rfl (brOut (Nat.le_refl _) (Own.nil _ _) B1 hV0.out)
  by_cases hl : es.length = rs.length
  case neg =>
    have hV0 : Hid (V = ⟨1, []⟩) := by have e := HV.out; simp only [Hid]; rw [e]; unfold brV brC; rw [if_pos hs, if_neg (by simpa using hl)]; rfl
    have hne : ((rl : Int) != (el : Int)) = true := by
      have h1 := HLR.out
      have h2 := HLE.out
      simp only [bne_iff_ne, ne_eq]
      omega
    go_enter Try.func22, Try.ntmps22
    go_wp2_with (go_at_call 59; refine (l1In_any _ _ _ _).mono ?_; rintro e w' ⟨rfl, rfl⟩)
    have Z := Box.new (w.alloc (.cells #[.int .i64 f0, .slice f1.a f1.l f1.c, .slice f2.a f2.l f2.c, .slice ra rl rc] 59)) 53 #[.int .i64 1, .slice none 0 0]
    have B1 := ((Below.refl w.heap.size w).alloc (Nat.le_refl _) (.cells #[.int .i64 f0, .slice f1.a f1.l f1.c, .slice f2.a f2.l f2.c, .slice ra rl rc] 59)).alloc (by simp) (.cells #[.int .i64 1, .slice none 0 0] 53)
    simp only [World.size_alloc] at Z
    refine bodyPost_ret (results_cell_row Try.results22 _ _ _ _ _ _ _ rfl Z Try.underlying53 rfl (by kernel_rfl)) rfl (brOut (Nat.le_refl _) (Own.nil _ _) B1 hV0.out)
  have hee : el = rl := by have h1 := HLR.out; have h2 := HLE.out; omega
  subst hee
  have hne : ((el : Int) != (el : Int)) = false := by simp
  obtain ⟨Z, hZ⟩ : ∃ Z, Z = brL s (es.map EventR.val) (rs.map ReplyR.val) := ⟨_, rfl⟩
  have HZ := Lib.hid hZ
  have hV1 : Hid ((700 < Z.length → V = ⟨2, []⟩) ∧ (¬ 700 < Z.length → V = ⟨0, Z⟩)) := by
    have e := HV.out
    have hll : (es.map EventR.val).length = (rs.map ReplyR.val).length := by simpa using hl
    simp only [Hid]
    rw [e]
    unfold brV brC
    rw [if_pos hs, if_pos hll, ← hZ]
    exact ⟨fun h => by rw [if_pos h]; rfl, fun h => by rw [if_neg h, if_pos rfl]⟩
  have hzl : Z.length ≤ 1048576 := by rw [hZ]; exact Nat.le_trans (brL_le s _ _) hwl.out
  clear hZ hl
  go_enter Try.func22, Try.ntmps22
  go_wp2_with (go_at_call 59; refine (l1In_any _ _ _ _).mono ?_; rintro e w' ⟨rfl, rfl⟩)
  have O0 := own_lit0 ((w.alloc (.cells #[.int .i64 f0, .slice f1.a f1.l f1.c, .slice f2.a f2.l f2.c, .slice ra el rc] 59)).alloc (.cells #[.int .i64 0, .slice none 0 0] 53)) (w.heap.size + 2) (by simp)
  have D0 := (Below.refl (w.heap.size + 2) ((w.alloc (.cells #[.int .i64 f0, .slice f1.a f1.l f1.c, .slice f2.a f2.l f2.c, .slice ra el rc] 59)).alloc (.cells #[.int .i64 0, .slice none 0 0] 53))).alloc (by simp) (.cells #[] 5)
  have SW : ((w.alloc (.cells #[.int .i64 f0, .slice f1.a f1.l f1.c, .slice f2.a f2.l f2.c, .slice ra el rc] 59)).alloc (.cells #[.int .i64 0, .slice none 0 0] 53)).heap.size = w.heap.size + 2 := by simp
  rw [SW] at O0
  have OO := Lib.hid O0
  have DD := Lib.hid D0
  have HSW := Lib.hid SW
  clear O0 D0 SW
  generalize hW1 : ((w.alloc (.cells #[.int .i64 f0, .slice f1.a f1.l f1.c, .slice f2.a f2.l f2.c, .slice ra el rc] 59)).alloc (.cells #[.int .i64 0, .slice none 0 0] 53)) = W1 at *
  clear hW1
  go_loopw [7, 8] (fun out i wr => ∃ (k l c : Nat) (a : Option Addr) (zs : List Int), k ≤ el ∧ i = .int .i64 k ∧ out = .slice a l c ∧ l ≤ 1048576 ∧ Hid (zs = brL s ((es.map EventR.val).take k) ((rs.map ReplyR.val).take k)) ∧ Hid (Own wr (w.heap.size + 2) a l c zs) ∧ Hid (Below (w.heap.size + 2) W1 wr)) (fun _ i _ => el - (intOf i).toNat)
  case atStart => exact ⟨0, 0, 0, _, [], Nat.zero_le _, rfl, by first | rfl | simp [HSW.out], by omega, rfl, OO.out, DD.out⟩
  case round =>
    obtain ⟨k, l, c, a, zs, hk, rfl, rfl, hl, hz, ho, hd⟩ := hrel
    clear OO DD
    have BB := Lib.hid (B0.out.trans (hd.out.mono (by omega)))
    have YY := Lib.hid (Y0.out.below hd.out (show w.heap.size + 1 < w.heap.size + 2 by omega))
    have x3 : wr.cell? ⟨w.heap.size, 3, none⟩ = some (.slice ra el rc) := (X0.out.below hd.out (show w.heap.size < w.heap.size + 2 by omega)).cell 3
    by_cases hlt : k < el
    · obtain ⟨b1, o1, pe, e1, hpe, r1, _⟩ := (HE.out.below (by decide) BB.out).at hlt
      obtain ⟨b2, o2, pr, e2, hpr, r2, dr⟩ := (HR.out.below (by decide) BB.out).at hlt
      dsimp only at e1 e2 hpe hpr
      subst e1
      subst e2
      have c0 : wr.cell? ⟨b1, o1 + k * 4, none⟩ = some (.int .i64 pe.f0) := r1 0 _ rfl
      have c1 : wr.cell? ⟨b1, o1 + k * 4 + 1, none⟩ = some (.int .i64 pe.f1) := r1 1 _ rfl
      have c2 : wr.cell? ⟨b2, o2 + k * 3 + 2, none⟩ = some (.slice pr.f2.a pr.f2.l pr.f2.c) := r2 2 _ rfl
      have RB := Lib.hid (show Rd wr pr.f2.a pr.f2.l pr.f2.c pr.f2.z from dr)
      have hst := brL_step s (es := es.map EventR.val) (rs := rs.map ReplyR.val) (k := k) (e := pe.val) (r := pr.val) (by rw [List.getElem?_map, hpe]; rfl) (by rw [List.getElem?_map, hpr]; rfl)
      rw [← hz.out] at hst
      have ST := Lib.hid hst
      have hle : (brL s ((es.map EventR.val).take (k + 1)) ((rs.map ReplyR.val).take (k + 1))).length ≤ 1048576 := Nat.le_trans (brL_le s _ _) (Nat.le_trans (sw_take_le _ _ _) hwl.out)
      have HLE2 := Lib.hid hle
      have hoc : zs.length = l := ho.out.length
      have HOC := Lib.hid hoc
      clear r1 r2 dr hst hle hpe hpr hoc
      by_cases q : (pe.f0 == 3 && pe.f1 == s) = true
      · rw [Bool.and_eq_true] at q
        obtain ⟨q0, q1⟩ := q
        have hq : Hid (brQ s pe.val = true) := by simp only [Hid, brQ, Bool.and_eq_true]; exact ⟨q0, q1⟩
        have hlb : pr.f2.z.length = pr.f2.l := RB.out.length
        have hbd : l + pr.f2.l ≤ 1048576 := by
          have h1 := HLE2.out
          rw [ST.out, if_pos hq.out, List.length_append, HOC.out] at h1
          have h2 : pr.val.f2.length = pr.f2.l := hlb
          omega
        have HLB := Lib.hid hlb
        clear hlb
        go_wp2_with (at_builtin; refine append_bytes _ rfl (.tmp 42) (.tmp 48) rfl (w.heap.size + 2) _ _ _ _ rfl ho.out _ _ _ _ rfl RB.out (by have := hd.out.size; have := HSW.out; omega) (by omega) ?_; intro a' c' w' o' g'; have P' := Lib.hid o'; have D' := Lib.hid (hd.out.grown g' (by have := hd.out.size; have := HSW.out; omega) (fun q e => own_blk ho.out q e)); clear o' g' c0 c1 c2 x3 BB YY)
        go_roundw
        case rel => exact ⟨k + 1, l + pr.f2.l, c', a', zs ++ pr.f2.z, by omega, by go_num, rfl, hbd, by simp only [Hid]; rw [ST.out, if_pos hq.out]; rfl, P'.out, D'.out⟩
        case measure => simp [intOf]; omega
      · have hq : Hid (¬ brQ s pe.val = true) := q
        rw [Bool.and_eq_true] at q
        by_cases q0 : (pe.f0 == 3) = true
        · have q1 : (pe.f1 == s) = false := by
            have : ¬ (pe.f1 == s) = true := fun h => q ⟨q0, h⟩
            simpa using this
          clear q
          go_wp2
          go_roundw
          case rel => exact ⟨k + 1, l, c, a, zs, by omega, by go_num, rfl, hl, by simp only [Hid]; rw [ST.out, if_neg hq.out, List.append_nil], ho.out, hd.out⟩
          case measure => simp [intOf]; omega
        · have q0 : (pe.f0 == 3) = false := by simpa using q0
          clear q
          go_wp2
          go_roundw
          case rel => exact ⟨k + 1, l, c, a, zs, by omega, by go_num, rfl, hl, by simp only [Hid]; rw [ST.out, if_neg hq.out, List.append_nil], ho.out, hd.out⟩
          case measure => simp [intOf]; omega
    · obtain rfl : k = el := by omega
      have hzz : Hid (zs = Z) := by
        have h1 := hz.out
        rw [List.take_of_length_le (by rw [List.length_map, HLE.out]; exact Nat.le_refl _), List.take_of_length_le (by rw [List.length_map, HLR.out]; exact Nat.le_refl _), ← HZ.out] at h1
        exact h1
      have hzl2 : Z.length = l := by rw [← hzz.out]; exact ho.out.length
      have HZL := Lib.hid hzl2
      clear hz hzl2
      by_cases hbig : 700 < l
      · have hV2 : Hid (V = ⟨2, []⟩) := hV1.out.1 (by rw [HZL.out]; exact hbig)
        have y0 := YY.out.cell 0
        have y1 := YY.out.cell 1
        have f0' := YY.out.frozen 0
        have f1' := YY.out.frozen 1
        go_wp2
        have Z9 := ((YY.out.putK 0 (.int .i64 2)).putK 1 (.slice none 0 0))
        have B9 := (BB.out.setCell (p := ⟨w.heap.size + 1, 0, none⟩) (show w.heap.size ≤ w.heap.size + 1 by omega) (.int .i64 2)).setCell (p := ⟨w.heap.size + 1, 1, none⟩) (show w.heap.size ≤ w.heap.size + 1 by omega) (.slice none 0 0)
        refine bodyPost_ret (results_cell_row Try.results22 _ _ _ _ _ _ _ rfl Z9 Try.underlying53 rfl (by kernel_rfl)) rfl (brOut (Nat.le_refl _) (Own.nil _ _) B9 hV2.out)
      · have hV2 : Hid (V = ⟨0, zs⟩) := by rw [hzz.out]; exact hV1.out.2 (by rw [HZL.out]; exact hbig)
        have hnb : ¬ (700 : Int) < (l : Int) := by omega
        have y0 := YY.out.cell 0
        have y1 := YY.out.cell 1
        have f0' := YY.out.frozen 0
        have f1' := YY.out.frozen 1
        go_wp2
        have Z9 := ((YY.out.putK 0 (.int .i64 0)).putK 1 (.slice a l c))
        have B9 := (BB.out.setCell (p := ⟨w.heap.size + 1, 0, none⟩) (show w.heap.size ≤ w.heap.size + 1 by omega) (.int .i64 0)).setCell (p := ⟨w.heap.size + 1, 1, none⟩) (show w.heap.size ≤ w.heap.size + 1 by omega) (.slice a l c)
        have o9 := (ho.out.setOther ⟨w.heap.size + 1, 0, none⟩ (.int .i64 0) (by rintro x hx; have := (ho.out.lt x hx).1; dsimp only; omega)).setOther ⟨w.heap.size + 1, 1, none⟩ (.slice a l c) (by rintro x hx; have := (ho.out.lt x hx).1; dsimp only; omega)
        refine bodyPost_ret (results_cell_row Try.results22 _ _ _ _ _ _ _ rfl Z9 Try.underlying53 rfl (by kernel_rfl)) rfl (brOut (by omega) o9 B9 hV2.out)
end Go.Proofs.Ytbngdenlplbjhaa
