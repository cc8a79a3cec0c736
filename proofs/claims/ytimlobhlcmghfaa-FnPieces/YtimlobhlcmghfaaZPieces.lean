/-
  A slice of bytes turned into a text: which text, and when two of them are the same.
  SameFrames of the model.
  PackFrame of the model, and the law FnExactPackFrame where the program's PackFrame answers so.
  The law FnExactPackFrame returns true, where the program's PackFrame answers as the model's does.
  The law FnExactSameFrames returns true, where the program's SameFrames answers as the model's does.
  bytes.Equal, and SameFrames of the program.
  SamePieces of the model and of the program.
  The law FnCuts.
-/
import Derived.Test.YtimlobhlcmghfaaMem
import Derived.Laws.BytesArg
import Derived.Lib.Bytes
import Derived.Test.YtimlobhlcmghfaaFrm
import Derived.Test.YtimlobhlcmghfaaP6E
import Derived.Test.YtimlobhlcmghfaaDr6
import Derived.Deep.RegionHeld3
namespace Go.Proofs.Ytimlobhlcmghfaa
open Go.ChangeShapes Go.WideShapes Go.ChangeAt Go.RowKit

theorem conv_rd {w : World} {a : Option Addr} {len cap : Nat} {zs : List Int} (h : Rd w a len cap zs) : (convert 22 9 (.slice a len cap)).run Try.prog w = .ok (.string (strOfNums zs)) w := by
  have hs := Try.underlying22
  have he := Try.underlying5
  have hd := Try.underlying9
  cases a with
  | none =>
    obtain ⟨rfl, rfl⟩ := h.nil rfl
    obtain rfl : zs = [] := List.length_eq_zero_iff.1 h.length
    rw [run_convert_bytes_nil w _ _ hs he _ _ _ hd]
    rfl
  | some x =>
    rcases h.cells with h0 | ⟨b, off, e, hc⟩
    · subst h0
      obtain rfl : zs = [] := List.length_eq_zero_iff.1 h.length
      have hl : (loadCells x 0).run Try.prog w = .ok (([] : List Int).map (Value.int .u8)).toArray w := by
        have := run_loadCells_list (P := Try.prog) w x [] (by simp)
        simpa using this
      rw [run_convert_bytes_string w _ _ _ _ 0 cap hs he hd, run_bytesToString w x 0 cap [] hl, foldl_push_bytes]
      simp [strOfNums, ByteArray.empty, ByteArray.emptyWithCapacity]
      rfl
    · cases e
      exact run_convert_bytes_arg w _ _ hs he b off len cap zs h.length hc _ hd

theorem nums_back {zs : List Int} (h : B8 zs) : (zs.map fun n => UInt8.ofNat n.toNat).map (fun b => (b.toNat : Int)) = zs := by
  rw [List.map_map]
  conv => rhs; rw [← List.map_id zs]
  apply List.map_congr_left
  intro n hn
  have := h n hn
  simp only [Function.comp_apply, UInt8.toNat_ofNat', id_eq]
  omega
theorem str_inj {za zb : List Int} (ha : B8 za) (hb : B8 zb) (h : strOfNums za = strOfNums zb) : za = zb := by
  have : (strOfNums za).data.toList = (strOfNums zb).data.toList := by rw [h]
  rw [strOfNums_data, strOfNums_data] at this
  rw [← nums_back ha, ← nums_back hb, this]
theorem str_ne {za zb : List Int} (ha : B8 za) (hb : B8 zb) (h : ¬ za = zb) : ((strOfNums za).toList == (strOfNums zb).toList) = false := by
  rw [Lib.strOfNums_toList, Lib.strOfNums_toList]
  have : ¬ Lib.bytesOf za = Lib.bytesOf zb := fun e => h (by rw [← nums_back ha, ← nums_back hb]; exact congrArg _ e)
  simpa using this
end Go.Proofs.Ytimlobhlcmghfaa

namespace Go.Proofs.Ytimlobhlcmghfaa
open Go.ChangeShapes Go.WideShapes Go.ChangeAt Go.RowKit

def sameB (to fr kd : Int) (zs : List Int) (to' fr' kd' : Int) (zs' : List Int) : Bool := decide (to = to') && decide (fr = fr') && decide (kd = kd') && eqL zs zs'

end Go.Proofs.Ytimlobhlcmghfaa

namespace Go.Proofs.Ytimlobhlcmghfaa
open Go.ChangeShapes Go.WideShapes Go.ChangeAt Go.RowKit

def frameL (to fr kd : Int) (zs : List Int) : List Int := be to 6 ++ be fr 6 ++ be kd 2 ++ zs
def FreshAny (w : World) (zs : List Int) (e : Ending) (w' : World) : Prop :=
  ∃ a' l' c', e = .returned (.slice a' l' c') ∧ Own w' w.heap.size a' l' c' zs ∧ Below w.heap.size w w'

def frameP (to fr kd : Int) (zs : List Int) : List Int := if frameC to fr kd zs.length = 0 then frameL to fr kd zs else []
theorem frameC_parts {to fr kd : Int} {n : Nat} (h : frameC to fr kd n = 0) : (0 ≤ to ∧ to < 281474976710656) ∧ (0 ≤ fr ∧ fr < 281474976710656) ∧ (0 ≤ kd ∧ kd < 281474976710656) ∧ n ≤ 600 := by
  unfold frameC at h
  split at h
  · rename_i hk
    split at h
    · simp only [frameB, macB, inB, Bool.and_eq_true, decide_eq_true_eq] at hk
      omega
    · omega
  · omega
theorem frameP_len (to fr kd : Int) (zs : List Int) : (frameP to fr kd zs).length ≤ 614 := by
  unfold frameP
  split
  · rename_i h
    have := (frameC_parts h).2.2.2
    simp [frameL, be_len]
    omega
  · simp

end Go.Proofs.Ytimlobhlcmghfaa

namespace Go.Proofs.Ytimlobhlcmghfaa
open Go.ChangeShapes Go.WideShapes Go.ChangeAt Go.RowKit

theorem own_rows {w : World} {b : Nat} {a : Option Addr} {l c : Nat} {z : List Int} (h : Own w b a l c z) (B : Nat) (hB : B ≤ b) : ∀ k, (Value.slice a l c).ownBlock = some k → B ≤ k := by
  intro k e
  cases a with
  | none => simp [Value.ownBlock] at e
  | some y => simp [Value.ownBlock] at e; have := h.lt y rfl; omega
theorem ne_of_gt_own {w w' : World} {b b' : Nat} {a a' : Option Addr} {l c l' c' : Nat} {z z' : List Int} (h : Own w b a l c z) (h' : Own w' b' a' l' c' z') (hle : w'.heap.size ≤ b) :
    ∀ x, a = some x → some x.block ≠ (Value.slice a' l' c').ownBlock := fun x hx => ne_block h' _ (.inr (Nat.le_trans hle (h.lt x hx).1))

theorem Box.drewB {w : World} {b : Nat} {t : TypeId} {vs : Array Value} (h : Box w b t vs) : Box w.drew b t vs := h

end Go.Proofs.Ytimlobhlcmghfaa

namespace Go.Proofs.Ytimlobhlcmghfaa
open Go.ChangeShapes Go.WideShapes Go.ChangeAt Go.RowKit

end Go.Proofs.Ytimlobhlcmghfaa

namespace Go.Proofs.Ytimlobhlcmghfaa
open Go.ChangeShapes Go.WideShapes Go.ChangeAt Go.RowKit

theorem equal_any (a : Option Addr) (len cap : Nat) (zs : List Int) (a' : Option Addr) (len' cap' : Nat) (zs' : List Int) (w : World) (hr : Rd w a len cap zs) (hr' : Rd w a' len' cap' zs') :
    Calls Try.prog 158 #[.slice a len cap, .slice a' len' cap'] w fun e w' => e = .returned (.bool (eqL zs zs')) ∧ w = w' := by
  have c1 := conv_rd hr
  have c2 := conv_rd hr'
  by_cases h3 : zs = zs'
  · subst h3
    have H : Hid (eqL zs zs = true) := by simp [Hid, eqL]
    clear hr hr'
    generalize strOfNums zs = s at *
    go_enter Try.func158, Try.ntmps158
    go_wp2
    go_ret
    exact ⟨ret_b H.out.symm, rfl⟩
  · have H : Hid (eqL zs zs' = false) := by simp [Hid, eqL, h3]
    have h5 := str_ne hr.b8 hr'.b8 h3
    clear hr hr' h3
    generalize strOfNums zs = s at *
    generalize strOfNums zs' = s' at *
    go_enter Try.func158, Try.ntmps158
    go_wp2
    go_ret
    exact ⟨ret_b H.out.symm, rfl⟩

end Go.Proofs.Ytimlobhlcmghfaa

namespace Go.Proofs.Ytimlobhlcmghfaa
open Go.ChangeShapes Go.WideShapes Go.ChangeAt Go.RowKit

set_option maxHeartbeats 1000000 in
theorem isSamePiece_any (k : Int) (a : Option Addr) (la ca : Nat) (za : List Int) (k' : Int) (b : Option Addr) (lb cb : Nat) (zb : List Int) (w : World) (ha : Rd w a la ca za) (hb : Rd w b lb cb zb) :
    Calls Try.prog 105 #[.agg #[.int .i64 k, .slice a la ca], .agg #[.int .i64 k', .slice b lb cb]] w fun e w' => e = .returned (.bool (eqP ⟨k, a, la, ca, za⟩ ⟨k', b, lb, cb, zb⟩)) ∧ Below w.heap.size w w' := by
  have B0 := Lib.hid (((Below.refl w.heap.size w).alloc (Nat.le_refl _) (.cells #[.int .i64 k, .slice a la ca] 133)).alloc (by simp) (.cells #[.int .i64 k', .slice b lb cb] 133))
  have K := Lib.hid (fun W (hW : Below w.heap.size w W) => equal_any a la ca za b lb cb zb W (ha.below hW) (hb.below hW))
  clear ha hb
  by_cases h0 : k = k'
  · subst h0
    have H : Hid (eqP ⟨k, a, la, ca, za⟩ ⟨k, b, lb, cb, zb⟩ = eqL za zb) := by simp [eqP, Pm.v, eqL, Hid]
    rw [H.out]
    clear H
    generalize eqL za zb = q at *
    go_enter Try.func105, Try.ntmps105
    go_wp2_with fail
    refine (K.out _ B0.out).mono ?_
    rintro e w1 ⟨rfl, rfl⟩
    go_wp2
    go_ret
    exact ⟨rfl, B0.out⟩
  · have H : Hid (eqP ⟨k, a, la, ca, za⟩ ⟨k', b, lb, cb, zb⟩ = false) := by simp [eqP, Pm.v, Hid, h0]
    rw [H.out]
    have e0 : (k == k') = false := by simpa using h0
    clear h0 H
    go_enter Try.func105, Try.ntmps105
    go_wp2
    go_ret
    exact ⟨rfl, B0.out⟩

set_option maxHeartbeats 2000000 in
theorem equalFunc_any (a b : Option Addr) (la ca lb cb : Nat) (ps qs : List Pm) (w : World) (ha : Pl w a la ca ps) (hb : Pl w b lb cb qs) :
    Calls Try.prog 104 #[.slice a la ca, .slice b lb cb, .func (.func 105) #[] #[]] w fun e w' => e = .returned (.bool (eqV ps qs)) ∧ Below w.heap.size w w' := by
  have ma : la ≤ maxLen := Nat.le_trans ha.lb.le ha.lb.max
  unfold maxLen at ma
  have HA := Lib.hid ha
  have HB := Lib.hid hb
  by_cases hll : la = lb
  · obtain rfl := hll
    have hlen : Hid (ps.length = qs.length) := ha.lb.length.trans hb.lb.length.symm
    clear ha hb
    have hne : (la != la) = false := by simp
    go_enter Try.func104, Try.ntmps104
    go_wp2
    go_loopw [17] (fun i wr => ∃ k : Nat, k ≤ la ∧ i = .int .i64 k ∧ Hid (∀ j, j < k → (vals ps)[j]? = (vals qs)[j]?) ∧ Hid (Below w.heap.size w wr)) (fun i _ => la - (intOf i).toNat)
    case atStart => exact ⟨0, Nat.zero_le _, rfl, fun j hj => absurd hj (by omega), Below.refl _ _⟩
    case round =>
      obtain ⟨k, hk, rfl, heq, hbel⟩ := hrel
      by_cases hlt : k < la
      · obtain ⟨b1, o1, p, rfl, hp, c0, c1⟩ := (HA.out.lb.below hbel.out).at hlt
        obtain ⟨b2, o2, q, rfl, hq, d0, d1⟩ := (HB.out.lb.below hbel.out).at hlt
        have R1 := Lib.hid ((HA.out.below hbel.out).data p (List.mem_of_getElem? hp))
        have R2 := Lib.hid ((HB.out.below hbel.out).data q (List.mem_of_getElem? hq))
        have E := Lib.hid (show eqP p q = true → (vals ps)[k]? = (vals qs)[k]? from fun h => by rw [vals_at hp, vals_at hq, of_decide_eq_true h])
        have F := Lib.hid (show eqP p q = false → eqV ps qs = false from fun h => by
          refine decide_eq_false fun e => of_decide_eq_false h ?_
          have := vals_at hp
          rw [e, vals_at hq] at this
          exact (Option.some.inj this).symm)
        clear hp hq
        obtain ⟨pk, pa, pl, pc, pz⟩ := p
        obtain ⟨qk, qa, ql, qc, qz⟩ := q
        simp only at c0 c1 d0 d1 R1 R2
        have d0' := keepB' ((Below.refl wr.heap.size wr).alloc (Nat.le_refl _) (.cells #[.int .i64 pk, .slice pa pl pc] 133)) d0
        have d1' := keepB' ((Below.refl wr.heap.size wr).alloc (Nat.le_refl _) (.cells #[.int .i64 pk, .slice pa pl pc] 133)) d1
        have KC := Lib.hid (isSamePiece_any pk pa pl pc pz qk qa ql qc qz _ ((R1.out.alloc (.cells #[.int .i64 pk, .slice pa pl pc] 133)).alloc (.cells #[.int .i64 qk, .slice qa ql qc] 133)) ((R2.out.alloc (.cells #[.int .i64 pk, .slice pa pl pc] 133)).alloc (.cells #[.int .i64 qk, .slice qa ql qc] 133)))
        have B1 := Lib.hid ((hbel.out.alloc hbel.out.size (.cells #[.int .i64 pk, .slice pa pl pc] 133)).alloc (by have := hbel.out.size; simp; omega) (.cells #[.int .i64 qk, .slice qa ql qc] 133))
        clear R1 R2 hbel
        cases hc : eqP ⟨pk, pa, pl, pc, pz⟩ ⟨qk, qa, ql, qc, qz⟩ with
        | true =>
          have E' : Hid ((vals ps)[k]? = (vals qs)[k]?) := E.out hc
          rw [hc] at KC
          clear E F hc
          go_wp2_with fail
          refine KC.out.mono ?_
          rintro e w10 ⟨rfl, b10⟩
          have B10 := Lib.hid (B1.out.trans (b10.mono B1.out.size))
          clear b10 B1 KC c0 c1 d0 d1 d0' d1'
          go_wp2
          go_roundw
          case rel => exact ⟨k + 1, by omega, by go_num, fun j hj => by
            by_cases hjk : j < k
            · exact heq.out j hjk
            · obtain rfl : j = k := by omega
              exact E'.out, B10.out⟩
          case measure => simp [intOf]; omega
        | false =>
          have F' : Hid (eqV ps qs = false) := F.out hc
          rw [hc] at KC
          clear E F hc
          go_wp2_with fail
          refine KC.out.mono ?_
          rintro e w10 ⟨rfl, b10⟩
          have B10 := Lib.hid (B1.out.trans (b10.mono B1.out.size))
          clear b10 B1 KC c0 c1 d0 d1 d0' d1'
          go_wp2
          go_ret
          exact ⟨ret_b F'.out.symm, B10.out⟩
      · obtain rfl : k = la := by omega
        have H : Hid (eqV ps qs = true) := eqV_refl (vals_eq hlen.out (fun j hj => heq.out j (by rw [HA.out.lb.length] at hj; exact hj)))
        go_wp2
        go_ret
        exact ⟨ret_b H.out.symm, hbel.out⟩
  · have hne : (la != lb) = true := by simpa using hll
    have H : Hid (eqV ps qs = false) := decide_eq_false fun e => hll (by
      have := congrArg List.length e
      rw [vals_len, vals_len, ha.lb.length, hb.lb.length] at this
      exact this)
    clear ha hb HA HB
    go_enter Try.func104, Try.ntmps104
    go_wp2
    go_ret
    exact ⟨ret_b H.out.symm, Below.refl _ _⟩
theorem implSamePieces (a b : Option Addr) (la ca lb cb : Nat) (ps qs : List Pm) (w : World) (ha : Pl w a la ca ps) (hb : Pl w b lb cb qs) :
    Calls Try.prog 21 #[.slice a la ca, .slice b lb cb] w fun e w' => e = .returned (.bool (eqV ps qs)) ∧ Below w.heap.size w w' := by
  have K := Lib.hid (equalFunc_any a b la ca lb cb ps qs w ha hb)
  clear ha hb
  go_enter Try.func21, Try.ntmps21
  go_wp2_with fail
  refine K.out.mono ?_
  rintro e w10 ⟨rfl, b10⟩
  go_wp2
  go_ret
  exact ⟨rfl, b10⟩

set_option maxHeartbeats 2000000 in
theorem specSamePieces (a b : Option Addr) (la ca lb cb : Nat) (ps qs : List Pm) (w : World) (ha : Pl w a la ca ps) (hb : Pl w b lb cb qs) :
    Calls Try.prog 27 #[.slice a la ca, .slice b lb cb] w fun e w' => e = .returned (.bool (eqV ps qs)) ∧ Below w.heap.size w w' := by
  have ma : la ≤ maxLen := Nat.le_trans ha.lb.le ha.lb.max
  unfold maxLen at ma
  have HA := Lib.hid ha
  have HB := Lib.hid hb
  by_cases hll : la = lb
  · obtain rfl := hll
    have hlen : Hid (ps.length = qs.length) := ha.lb.length.trans hb.lb.length.symm
    clear ha hb
    have hne : (la != la) = false := by simp
    go_enter Try.func27, Try.ntmps27
    go_wp2
    go_loopw [5] (fun i wr => ∃ k : Nat, k ≤ la ∧ i = .int .i64 k ∧ Hid (∀ j, j < k → (vals ps)[j]? = (vals qs)[j]?) ∧ Hid (Below w.heap.size w wr)) (fun i _ => la - (intOf i).toNat)
    case atStart => exact ⟨0, Nat.zero_le _, rfl, fun j hj => absurd hj (by omega), Below.refl _ _⟩
    case round =>
      obtain ⟨k, hk, rfl, heq, hbel⟩ := hrel
      by_cases hlt : k < la
      · obtain ⟨b1, o1, p, rfl, hp, c0, c1⟩ := (HA.out.lb.below hbel.out).at hlt
        obtain ⟨b2, o2, q, rfl, hq, d0, d1⟩ := (HB.out.lb.below hbel.out).at hlt
        have R1 := Lib.hid ((HA.out.below hbel.out).data p (List.mem_of_getElem? hp))
        have R2 := Lib.hid ((HB.out.below hbel.out).data q (List.mem_of_getElem? hq))
        have E := Lib.hid (show p.v = q.v → (vals ps)[k]? = (vals qs)[k]? from fun h => by rw [vals_at hp, vals_at hq, h])
        have F := Lib.hid (show p.v ≠ q.v → eqV ps qs = false from fun h => by
          refine decide_eq_false fun e => h ?_
          have := vals_at hp
          rw [e, vals_at hq] at this
          exact (Option.some.inj this).symm)
        clear hp hq
        obtain ⟨pk, pa, pl, pc, pz⟩ := p
        obtain ⟨qk, qa, ql, qc, qz⟩ := q
        simp only [Pm.v] at c0 c1 d0 d1 R1 R2 E F
        by_cases h0 : pk = qk
        · subst h0
          have s1 := fun n => conv_rd (R1.out.below (belowN (Below.refl _ wr) n))
          have s2 := fun n => conv_rd (R2.out.below (belowN (Below.refl _ wr) n))
          by_cases h1 : pz = qz
          · have E' : Hid ((vals ps)[k]? = (vals qs)[k]?) := E.out (by rw [h1])
            subst h1
            clear E F R1 R2
            generalize strOfNums pz = s at *
            go_wp2_with fail
            go_quiet (fail)
            go_wp2
            go_roundw
            case rel => exact ⟨k + 1, by omega, by go_num, fun j hj => by
              by_cases hjk : j < k
              · exact heq.out j hjk
              · obtain rfl : j = k := by omega
                exact E'.out, belowN hbel.out _⟩
            case measure => simp [intOf]; omega
          · have F' : Hid (eqV ps qs = false) := F.out (by intro e; exact h1 (congrArg Prod.snd e))
            have h5 := str_ne R1.out.b8 R2.out.b8 h1
            clear E F R1 R2 h1
            generalize strOfNums pz = s at *
            generalize strOfNums qz = s' at *
            go_wp2_with fail
            go_quiet (fail)
            go_wp2
            go_ret
            exact ⟨ret_b F'.out.symm, belowN hbel.out _⟩
        · have F' : Hid (eqV ps qs = false) := F.out (by intro e; exact h0 (congrArg Prod.fst e))
          have e0 : (pk != qk) = true := by simpa using h0
          clear E F R1 R2 h0
          go_wp2_with fail
          go_quiet (fail)
          go_wp2
          go_ret
          exact ⟨ret_b F'.out.symm, belowN hbel.out _⟩
      · obtain rfl : k = la := by omega
        have H : Hid (eqV ps qs = true) := eqV_refl (vals_eq hlen.out (fun j hj => heq.out j (by rw [HA.out.lb.length] at hj; exact hj)))
        go_wp2
        go_ret
        exact ⟨ret_b H.out.symm, hbel.out⟩
  · have hne : (la != lb) = true := by simpa using hll
    have H : Hid (eqV ps qs = false) := decide_eq_false fun e => hll (by
      have := congrArg List.length e
      rw [vals_len, vals_len, ha.lb.length, hb.lb.length] at this
      exact this)
    clear ha hb HA HB
    go_enter Try.func27, Try.ntmps27
    go_wp2
    go_ret
    exact ⟨ret_b H.out.symm, Below.refl _ _⟩
end Go.Proofs.Ytimlobhlcmghfaa

namespace Go.Proofs.Ytimlobhlcmghfaa
open Go.ChangeShapes Go.WideShapes Go.ChangeAt Go.RowKit

theorem lwBig6_f (a : Option Addr) (len cap : Nat) (w : World) (hl : len ≤ 1048576) : Calls Try.prog 14 #[.slice a len cap] w fun e w' => e = .returned (.bool false) ∧ w = w' := by
  have e1 : decide ((1048576 : Int) < len) = false := decide_eq_false (by omega)
  go_enter Try.func14, Try.ntmps14
  go_wp2
  go_ret
  exact ⟨rfl, rfl⟩
theorem lwBig6_t (a : Option Addr) (len cap : Nat) (w : World) (hl : ¬ len ≤ 1048576) : Calls Try.prog 14 #[.slice a len cap] w fun e w' => e = .returned (.bool true) ∧ w = w' := by
  have e1 : decide ((1048576 : Int) < len) = true := decide_eq_true (by omega)
  go_enter Try.func14, Try.ntmps14
  go_wp2
  go_ret
  exact ⟨rfl, rfl⟩
theorem field_pr0 (w : World) (c : Int) (a : Option Addr) (l k : Nat) (b : Option Addr) (m j : Nat) : (Instr.field 28 (.agg #[.int .i64 c, .slice a l k, .slice b m j]) 0).run Try.prog w = .ok (.int .i64 c) w := by
  simp [Instr.field, asAgg, go_sem]
theorem field_pr1 (w : World) (c : Int) (a : Option Addr) (l k : Nat) (b : Option Addr) (m j : Nat) : (Instr.field 28 (.agg #[.int .i64 c, .slice a l k, .slice b m j]) 1).run Try.prog w = .ok (.slice a l k) w := by
  simp [Instr.field, asAgg, go_sem]
def cnt6 (x y : Int) : Nat → Nat
  | 0 => 0
  | k + 1 => cnt6 x y k + (if 0 ≤ x + k ∧ x + k < y then 1 else 0)
theorem cnt6_eq (x y : Int) (hy : 0 ≤ y) (n : Nat) : cnt6 x y n = (mn (x + n) y - mx x 0).toNat := by
  induction n with
  | zero =>
    simp only [cnt6, mn, mx]
    split <;> split <;> omega
  | succ n ih =>
    rw [cnt6, ih]
    simp only [mn, mx]
    split <;> split <;> split <;> split <;> omega
theorem partV_len (x : Int) (zs : List Int) (y : Int) (hy : 0 ≤ y) : (partV x zs 0 y).2.length = cnt6 x y zs.length := by
  rw [cnt6_eq x y hy]
  by_cases hc : mn (x + zs.length) y ≤ mx x 0
  · rw [partV_none hc]
    simp only [List.length_nil]
    omega
  · obtain ⟨A, N, hN, hAN, eA, eE⟩ := part_nums hc
    rw [partV_some hc eA eE]
    simp only [List.length_take, List.length_drop]
    omega
theorem partV_place (x : Int) (zs : List Int) (y : Int) (hy : 0 ≤ y) (h : (partV x zs 0 y).2.length ≠ 0) : 0 ≤ (partV x zs 0 y).1 ∧ (partV x zs 0 y).1 + (partV x zs 0 y).2.length ≤ y := by
  by_cases hc : mn (x + zs.length) y ≤ mx x 0
  · rw [partV_none hc] at h
    exact absurd rfl h
  · have hl := partV_len x zs y hy
    rw [cnt6_eq x y hy] at hl
    have h1 : (partV x zs 0 y).1 = mx x 0 := by unfold partV; rw [if_neg hc]
    rw [hl, h1]
    have h2 : 0 ≤ mx x 0 := by unfold mx; split <;> omega
    have h3 : mn (x + zs.length) y ≤ y := by unfold mn; split <;> omega
    omega

end Go.Proofs.Ytimlobhlcmghfaa
