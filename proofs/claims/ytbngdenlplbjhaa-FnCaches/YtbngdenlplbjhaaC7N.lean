/-
  notesOf of the program.
-/
import Derived.Test.YtbngdenlplbjhaaM7
import Derived.Carry
namespace Go.Proofs.Ytbngdenlplbjhaa
open Go.ChangeShapes Go.WideShapes Go.ChangeAt Go.RowKit
open Go.ChangeMaps (setBlock)

def ntsF : Nat → List En → List Nt
  | _, [] => []
  | k, e :: es => ⟨e.i, e.m, e.u, (k : Int)⟩ :: ntsF (k + 1) es
def ips (es : List En) : List Int := es.map En.i
theorem ntsF_app (k : Nat) (es fs : List En) : ntsF k (es ++ fs) = ntsF k es ++ ntsF (k + es.length) fs := by
  induction es generalizing k with
  | nil => simp [ntsF]
  | cons e es ih => simp only [List.cons_append, ntsF, ih, List.length_cons]; rw [show k + 1 + es.length = k + (es.length + 1) by omega]
theorem ntsF_i (k : Nat) (es : List En) : (ntsF k es).map (·.i) = ips es := by
  induction es generalizing k with
  | nil => rfl
  | cons e es ih => simp only [ntsF, List.map_cons, ih, ips]
theorem ntsF_len (k : Nat) (es : List En) : (ntsF k es).length = es.length := by
  have := congrArg List.length (ntsF_i k es)
  simpa [ips] using this
/-- behind k entries the map holds a note a neighbour -/
structure Nf (k : Nat) (es : List En) (ns : List Nt) : Prop where
  le : ns.length ≤ k
  lt : ¬ (ips (es.take k)).Nodup → ns.length < k
  eq : (ips (es.take k)).Nodup → ns = ntsF 0 (es.take k)
  mem : ∀ x, x ∈ ns.map (·.i) ↔ x ∈ ips (es.take k)
theorem Nf.zero (es : List En) : Nf 0 es [] := ⟨Nat.le_refl _, fun h => absurd (by simp [ips]) h, fun _ => by simp [ntsF], fun x => by simp [ips]⟩
theorem ips_succ {es : List En} {k : Nat} {e : En} (h : es[k]? = some e) : ips (es.take (k + 1)) = ips (es.take k) ++ [e.i] := by rw [List.take_add_one, h]; simp [ips]
theorem nodup_snoc {l : List Int} {x : Int} : (l ++ [x]).Nodup ↔ l.Nodup ∧ x ∉ l := by
  rw [List.nodup_append]
  constructor
  · rintro ⟨h1, _, h3⟩
    exact ⟨h1, fun hx => h3 x hx x (by simp) rfl⟩
  · rintro ⟨h1, h2⟩
    exact ⟨h1, by simp, fun a ha b hb e => by simp at hb; subst hb; subst e; exact h2 ha⟩
theorem Nf.push {k : Nat} {es : List En} {ns : List Nt} (h : Nf k es ns) {e : En} (he : es[k]? = some e) (hne : ∀ q ∈ ns, q.i ≠ e.i) : Nf (k + 1) es (ns ++ [⟨e.i, e.m, e.u, (k : Int)⟩]) := by
  have hk : (es.take k).length = k := by have := (List.getElem?_eq_some_iff.1 he).1; rw [List.length_take]; omega
  have hx : e.i ∉ ips (es.take k) := fun hx => by
    obtain ⟨q, hq, hqi⟩ := List.mem_map.1 ((h.mem e.i).2 hx)
    exact hne q hq hqi
  refine ⟨by simp; exact h.le, fun hn => ?_, fun hn => ?_, fun x => ?_⟩
  · rw [ips_succ he, nodup_snoc] at hn
    have : ¬ (ips (es.take k)).Nodup := fun hh => hn ⟨hh, hx⟩
    have := h.lt this
    simp
    exact this
  · rw [ips_succ he, nodup_snoc] at hn
    rw [h.eq hn.1, List.take_add_one, he, ntsF_app, hk]
    simp [ntsF]
  · rw [ips_succ he, List.map_append, List.mem_append, List.mem_append, h.mem x]
    simp
theorem Nf.again {k : Nat} {es : List En} {ns ns' : List Nt} (h : Nf k es ns) {e : En} (he : es[k]? = some e) (hex : ∃ q ∈ ns, q.i = e.i) (hm : ns'.map (·.i) = ns.map (·.i)) : Nf (k + 1) es ns' := by
  have hx : e.i ∈ ips (es.take k) := by
    obtain ⟨q, hq, hqi⟩ := hex
    exact (h.mem e.i).1 (List.mem_map.2 ⟨q, hq, hqi⟩)
  have hl : ns'.length = ns.length := by have := congrArg List.length hm; simpa using this
  have hle := h.le
  refine ⟨by omega, fun _ => by omega, fun hn => ?_, fun x => ?_⟩
  · rw [ips_succ he, nodup_snoc] at hn
    exact absurd hx hn.2
  · rw [hm, h.mem x, ips_succ he, List.mem_append]
    constructor
    · exact .inl
    · rintro (h | h)
      · exact h
      · simp at h; subst h; exact hx

set_option maxHeartbeats 2000000 in
theorem notesOf_any (a : Option Addr) (len cap : Nat) (es : List En) (w : World) (h : Le w a len cap es) (hok : ∀ e ∈ es, okI e.i) :
    Calls Try.prog 41 #[.slice a len cap] w fun e w' => ∃ b ns ms clock, e = .returned (.map (some b)) ∧ Mp w' b ns ms clock ∧ w.heap.size ≤ b ∧ Nf len es ns ∧ Below w.heap.size w w' := by
  have HP := Lib.hid h
  have HO := Lib.hid hok
  have hlm : len ≤ maxLen := Nat.le_trans h.le h.max
  unfold maxLen at hlm
  have M0 := Lib.hid (Mp.new w)
  have B0 := Lib.hid ((Below.refl w.heap.size w).alloc (Nat.le_refl _) (.map #[] 0))
  clear h hok
  have hmm := @run_makeMap Try.prog
  go_enter Try.func41, Try.ntmps41
  go_wp2
  go_loopw [9] (fun i wr => ∃ (k : Nat) (ns : List Nt) (ms : Array MapEntry) (clock : Nat), k ≤ len ∧ i = .int .i64 k ∧ Hid (Mp wr w.heap.size ns ms clock) ∧ Hid (Nf k es ns) ∧ Hid (Below w.heap.size w wr)) (fun i _ => len - (intOf i).toNat)
  case atStart => exact ⟨0, [], _, _, Nat.zero_le _, rfl, M0.out, Nf.zero es, B0.out⟩
  case round =>
    obtain ⟨k, ns, ms, clock, hk, rfl, hM, hN, hB⟩ := hrel
    clear M0 B0
    by_cases hlt : k < len
    · obtain ⟨b, off, q, rfl, hp, c0, c1, c2⟩ := (HP.out.below hB.out).at hlt
      have hqo := HO.out q (List.mem_of_getElem? hp)
      have MW := Lib.hid (hM.out.alloc (.cells #[.int .i64 q.i, .int .i64 q.m, .int .i64 q.u] 43))
      have BW := Lib.hid (hB.out.alloc hB.out.size (.cells #[.int .i64 q.i, .int .i64 q.m, .int .i64 q.u] 43))
      obtain ⟨ms', clock', ns', hrun, hM', hN'⟩ : ∃ ms' clock' ns', (Instr.mapUpdate 80 (.map (some w.heap.size)) (KN q.i) (NV ⟨q.i, q.m, q.u, (k : Int)⟩)).run Try.prog (wr.alloc (.cells #[.int .i64 q.i, .int .i64 q.m, .int .i64 q.u] 43)) = .ok () (setBlock (wr.alloc (.cells #[.int .i64 q.i, .int .i64 q.m, .int .i64 q.u] 43)) w.heap.size (.map ms' clock')) ∧ Mp (setBlock (wr.alloc (.cells #[.int .i64 q.i, .int .i64 q.m, .int .i64 q.u] 43)) w.heap.size (.map ms' clock')) w.heap.size ns' ms' clock' ∧ Nf (k + 1) es ns' := by
        by_cases hex : ∃ x ∈ ns, x.i = q.i
        · obtain ⟨m1, k1, n1, r1, p1, e1⟩ := MW.out.again ⟨q.i, q.m, q.u, (k : Int)⟩ hqo hex
          exact ⟨m1, k1, n1, r1, p1, hN.out.again hp hex e1⟩
        · have hne : ∀ x ∈ ns, x.i ≠ q.i := fun x hx e => hex ⟨x, hx, e⟩
          obtain ⟨m1, k1, r1, p1⟩ := MW.out.push ⟨q.i, q.m, q.u, (k : Int)⟩ hqo hne
          exact ⟨m1, k1, _, r1, p1, hN.out.push hp hne⟩
      have M1 := Lib.hid hM'
      have N1 := Lib.hid hN'
      have B1 := Lib.hid (BW.out.grown (setBlock_grown _ w.heap.size (.map ms' clock')) BW.out.size (fun j e => by cases e; exact Nat.le_refl _))
      clear hM' hN' hM hN hB MW BW hp
      simp only [KN, NV] at hrun
      obtain ⟨qi, qm, qu⟩ := q
      simp only at c0 c1 c2 hrun M1 B1
      go_wp2
      go_roundw
      case rel => exact ⟨k + 1, ns', ms', clock', by omega, by go_num, M1.out, N1.out, B1.out⟩
      case measure => simp [intOf]; omega
    · obtain rfl : k = len := by omega
      go_wp2
      go_ret
      exact ⟨_, ns, ms, clock, rfl, hM.out, Nat.le_refl _, hN.out, hB.out⟩
end Go.Proofs.Ytbngdenlplbjhaa
