/-
  l6Put of the model, first part: which places have a byte, and which byte, in two arrays.
-/
import Derived.Test.YtimlobhlcmghfaaP6K
import Derived.Test.YtimlobhlcmghfaaPd6
namespace Go.Proofs.Ytimlobhlcmghfaa
open Go.ChangeShapes Go.WideShapes Go.ChangeAt Go.RowKit

def upd (f : Nat → Option Int) (n : Nat) (b : Int) : Nat → Option Int := fun m => if m = n then some b else f m
/-- k bytes of d from the place a on, over what is there -/
def lay (f : Nat → Option Int) (a : Nat) (d : List Int) (k : Nat) : Nat → Option Int := fun m => if a ≤ m ∧ m < a + k then d[m - a]? else f m
theorem lay_zero (f : Nat → Option Int) (a : Nat) (d : List Int) : lay f a d 0 = f := by
  funext m
  unfold lay
  rw [if_neg (by omega)]
theorem lay_succ (f : Nat → Option Int) (a : Nat) (d : List Int) (k : Nat) (b : Int) (h : d[k]? = some b) : upd (lay f a d k) (a + k) b = lay f a d (k + 1) := by
  funext m
  unfold upd lay
  by_cases c : m = a + k
  · subst c
    rw [if_pos rfl, if_pos (by omega), Nat.add_sub_cancel_left, h]
  · rw [if_neg c]
    by_cases c2 : a ≤ m ∧ m < a + k
    · rw [if_pos c2, if_pos (by omega)]
    · rw [if_neg c2, if_neg (by omega)]
def layAll (f : Nat → Option Int) : List Pc → (Nat → Option Int)
  | [] => f
  | p :: ps => layAll (lay f p.a p.d p.d.length) ps
theorem layAll_app (f : Nat → Option Int) (ps qs : List Pc) : layAll f (ps ++ qs) = layAll (layAll f ps) qs := by
  induction ps generalizing f with
  | nil => rfl
  | cons p ps ih => simp only [List.cons_append, layAll, ih]
theorem layAll_right {lo : Nat} {ps : List Pc} (h : right6 lo ps) (f : Nat → Option Int) (n : Nat) : layAll f ps n = (byteAt ps n).or (f n) := by
  induction ps generalizing lo f with
  | nil => simp [layAll, byteAt]
  | cons p ps ih =>
    rw [layAll, ih h.2.2]
    by_cases c : p.a ≤ n ∧ n < p.fin
    · rw [byteAt_in c, byteAt_below h.2.2 (by omega)]
      have hl : n - p.a < p.d.length := by unfold Pc.fin at c; omega
      unfold lay
      rw [if_pos (by unfold Pc.fin at c; omega), List.getElem?_eq_getElem hl]
      rfl
    · rw [byteAt_out c]
      unfold lay
      rw [if_neg (by unfold Pc.fin at c; omega)]
def noneF : Nat → Option Int := fun _ => none
theorem lay_put {ps : List Pc} {k : Nat} {d : List Int} (h : right6 0 ps) : layAll (lay noneF k d d.length) ps = putF ps k d := by
  funext n
  rw [layAll_right h, putF]
  congr 1
  unfold lay noneF
  by_cases c : k ≤ n
  · rw [if_pos c]
    by_cases c2 : n < k + d.length
    · rw [if_pos ⟨c, c2⟩]
    · rw [if_neg (by omega), List.getElem?_eq_none (by omega)]
  · rw [if_neg (by omega), if_neg c]
def F8 (f : Nat → Option Int) : Prop := ∀ n b, f n = some b → 0 ≤ b ∧ b ≤ 255
theorem F8.none : F8 noneF := fun _ _ h => by cases h
theorem F8.lay {f : Nat → Option Int} (h : F8 f) {d : List Int} (hd : B8 d) (a k : Nat) : F8 (lay f a d k) := by
  intro n b hb
  unfold Go.Proofs.Ytimlobhlcmghfaa.lay at hb
  split at hb
  · exact hd b (List.mem_of_getElem? hb)
  · exact h n b hb

/-- the two arrays: which places have a byte, and which -/
structure HA (w : World) (base h al : Nat) (f : Nat → Option Int) : Prop where
  hb : base ≤ h
  ab : base ≤ al
  ne : h ≠ al
  fh : Fz w (some ⟨h, 0, none⟩)
  fa : Fz w (some ⟨al, 0, none⟩)
  ch : ∀ n, n < 2000 → w.cell? ⟨h, n, none⟩ = some (.bool (f n).isSome)
  ca : ∀ n, n < 2000 → w.cell? ⟨al, n, none⟩ = some (.int .u8 ((f n).getD 0))
theorem HA.lt {w : World} {base h al : Nat} {f : Nat → Option Int} (H : HA w base h al f) : h < w.heap.size ∧ al < w.heap.size := ⟨H.fh.lt, H.fa.lt⟩
theorem HA.same {w w' : World} {base h al : Nat} {f : Nat → Option Int} (H : HA w base h al f) (h1 : w'.heap[h]? = w.heap[h]?) (h2 : w'.heap[al]? = w.heap[al]?) : HA w' base h al f :=
  ⟨H.hb, H.ab, H.ne, H.fh.same (fun x hx => by cases hx; exact h1), H.fa.same (fun x hx => by cases hx; exact h2), fun n hn => (same_cell (p := ⟨h, n, none⟩) h1).trans (H.ch n hn), fun n hn => (same_cell (p := ⟨al, n, none⟩) h2).trans (H.ca n hn)⟩
theorem HA.below {w w' : World} {base h al : Nat} {f : Nat → Option Int} (H : HA w base h al f) (hb : Below w.heap.size w w') : HA w' base h al f := H.same (hb.block _ H.lt.1) (hb.block _ H.lt.2)
theorem HA.put {w : World} {base h al : Nat} {f : Nat → Option Int} (H : HA w base h al f) (n : Nat) (hn : n < 2000) (b : Int) : HA ((w.setCell ⟨h, n, none⟩ (.bool true)).setCell ⟨al, n, none⟩ (.int .u8 b)) base h al (upd f n b) := by
  have hne := H.ne
  have e1 : ∀ m, (⟨al, n, none⟩ : Addr) ≠ ⟨h, m, none⟩ := fun m e => hne (Addr.mk.inj e).1.symm
  have e2 : ∀ m, (⟨h, n, none⟩ : Addr) ≠ ⟨al, m, none⟩ := fun m e => hne (Addr.mk.inj e).1
  refine ⟨H.hb, H.ab, H.ne, (H.fh.set n _).setOther _ _ (fun x hx => by cases hx; exact hne), (H.fa.setOther _ _ (fun x hx => by cases hx; exact fun e => hne e.symm)).set n _, fun m hm => ?_, fun m hm => ?_⟩
  · rw [setc_other (e1 m)]
    by_cases c : m = n
    · subst c
      rw [setc_same (H.ch m hm)]
      simp [upd]
    · rw [setc_other (addr_ne (fun e => c e.symm)), H.ch m hm]
      simp [upd, c]
  · by_cases c : m = n
    · subst c
      rw [setc_same ((setc_other (e2 m)).trans (H.ca m hm))]
      simp [upd]
    · rw [setc_other (addr_ne (fun e => c e.symm)), setc_other (e2 m), H.ca m hm]
      simp [upd, c]
theorem Try.infoBool : (Try.prog.info? 4).map (fun i => (i.zero, i.size, i.bytes)) = some (some (.bool false), 1, 1) := by kernel_rfl
def ofPc (p : Pc) : Int × List Int := ((p.a : Int), p.d)
def toPc (v : Int × List Int) : Pc := ⟨v.1.toNat, v.2⟩
theorem toPc_ofPc (p : Pc) : toPc (ofPc p) = p := by cases p; simp [toPc, ofPc]
theorem ofPc_toPc {v : Int × List Int} (h : 0 ≤ v.1) : ofPc (toPc v) = v := by
  obtain ⟨x, d⟩ := v
  simp only [toPc, ofPc] at *
  rw [Int.toNat_of_nonneg h]
theorem map_of_to {vs : List (Int × List Int)} (h : ∀ v ∈ vs, 0 ≤ v.1) : (vs.map toPc).map ofPc = vs := by
  rw [List.map_map]
  conv => rhs; rw [← List.map_id vs]
  apply List.map_congr_left
  intro v hv
  exact ofPc_toPc (h v hv)
end Go.Proofs.Ytimlobhlcmghfaa
