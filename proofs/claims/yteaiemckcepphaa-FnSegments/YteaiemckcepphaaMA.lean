/-
  Contracts of the functions of sequence numbers: SeqAdd, SeqDist, InWindow of the program and of the model answer by one and the same function of numbers.
  Slices of bytes: what it is that one reads as a list of numbers (Rd), that one owns its array (Own), and how both are kept; contracts of the helpers of the laws that copy, compare, mark and look at bytes.
  A slice of bytes that came in reads as bytes.
  What comes in as a struct of fields of one cell each is opened to its cells, whatever the number of fields; a slice of bytes in a field reads as bytes.
  A law for the walk: bytes appended to a slice that owns its array, whatever slice of bytes they come from.
  Contracts of slices.Grow of nil and of slices.Concat over slices of bytes: the answer owns an array of its own, and holds the bytes one behind the other.
  Contracts of the helpers of the laws that look at, compare and mark a result of bytes.
  Contracts of PackWord of the program and of the model: both answer by one and the same function of numbers, in an array of their own.
  Contracts of ReadWord of the program and of the model; the law FnExactReadWord returns true.
  Contracts of the model's ArpFault and of the helpers of the laws over questions and answers of addresses.
  Bytes appended to a slice that owns its array, as a step of a region that draws its order; and the bytes of a question or an answer of addresses by the model.
  The law FnExactPackWord returns true at every pair of int64.
  Contracts of the helpers of the laws over frames, and of the model's FrameFault; the law FnExactFrameFault where the program's FrameFault answers so.
  A slice of bytes turned into a text: which text, and when two of them are the same.
  SameFrames of the model.
  PackFrame of the model, and the law FnExactPackFrame where the program's PackFrame answers so.
  The law FnExactPackFrame returns true, where the program's PackFrame answers as the model's does.
  The law FnExactSameFrames returns true, where the program's SameFrames answers as the model's does.
  ReadFrame of the model.
  The law FnExactReadFrame returns true, where the program's ReadFrame answers as the model's does.
  Bytes copied into an array that lies in a block of cells; contracts of the program's addresses as arrays of bytes.
  The model's PacketFault, EchoFault and SamePackets.
-/
import Derived.Test.YteaiemckcepphaaRows
import Derived.WalkKit
import Derived.ProofKit
import Derived.Below
import Derived.Lib.Hide
import Derived.Deep.QuietTactic
import Derived.BigQuiet
import Derived.OpenShut
import Derived.Deep.Fields
import Derived.Laws.AppendOwnNone
import Derived.Lib.SliceRun
import Derived.Laws.CopyOwn
import Derived.Lib.AppendZeros
import Derived.Deep.RegionHeld3
import Derived.Deep.RegionLaw
import Derived.Laws.BytesArg
import Derived.Lib.Bytes
import Derived.Laws.Tables
namespace Go.Proofs.Yteaiemckcepphaa
open Go.ChangeShapes Go.WideShapes Go.ChangeAt Go.RowKit

/-- a sequence number -/
def sqB (s : Int) : Bool := decide (0 ≤ s ∧ s < 4294967296)
def inB (v a b : Int) : Bool := decide (a ≤ v ∧ v ≤ b)
def ir (c v : Int) : Value := .agg #[.int .i64 c, .int .i64 v]
def addC (s n : Int) : Int := if sqB s && inB n (-4294967296) 4294967296 then 0 else 3
def addV (s n : Int) : Int := if sqB s && inB n (-4294967296) 4294967296 then (s + n) % 4294967296 else 0

theorem sq_t {s : Int} (h : 0 ≤ s ∧ s < 4294967296) : sqB s = true := by simp only [sqB, h, and_self, decide_true]
theorem sq_f {s : Int} (h : ¬ (0 ≤ s ∧ s < 4294967296)) : sqB s = false := by simp only [sqB, h, decide_false]
theorem in_t {v a b : Int} (h : a ≤ v ∧ v ≤ b) : inB v a b = true := by simp only [inB, h, and_self, decide_true]
theorem in_f {v a b : Int} (h : ¬ (a ≤ v ∧ v ≤ b)) : inB v a b = false := by simp only [inB, h, decide_false]
theorem ret_b {a b : Bool} (h : a = b) : Ending.returned (.bool a) = .returned (.bool b) := by rw [h]
theorem ret_i {a b : Int} (h : a = b) : Ending.returned (.int .i64 a) = .returned (.int .i64 b) := by rw [h]
theorem ret_ir {a b c d : Int} (h : a = c) (k : b = d) : Ending.returned (.agg #[.int .i64 a, .int .i64 b]) = .returned (ir c d) := by rw [h, k]; rfl

theorem isSeq_any (s : Int) (w : World) : Calls Try.prog 88 #[.int .i64 s] w fun e w' => e = .returned (.bool (sqB s)) ∧ w = w' := by
  by_cases h1 : 0 ≤ s
  · by_cases h2 : s < 4294967296
    · have H := Lib.hid (sq_t ⟨h1, h2⟩)
      go_enter Try.func88, Try.ntmps88
      go_wp2
      go_ret
      exact ⟨ret_b H.out.symm, rfl⟩
    · have H := Lib.hid (sq_f (s := s) (by omega))
      go_enter Try.func88, Try.ntmps88
      go_wp2
      go_ret
      exact ⟨ret_b H.out.symm, rfl⟩
  · have H := Lib.hid (sq_f (s := s) (by omega))
    go_enter Try.func88, Try.ntmps88
    go_wp2
    go_ret
    exact ⟨ret_b H.out.symm, rfl⟩

theorem l1In_any (v a b : Int) (w : World) : Calls Try.prog 87 #[.int .i64 v, .int .i64 a, .int .i64 b] w fun e w' => e = .returned (.bool (inB v a b)) ∧ w = w' := by
  by_cases h1 : a ≤ v
  · by_cases h2 : v ≤ b
    · have H := Lib.hid (in_t ⟨h1, h2⟩)
      go_enter Try.func87, Try.ntmps87
      go_wp2
      go_ret
      exact ⟨ret_b H.out.symm, rfl⟩
    · have H := Lib.hid (in_f (v := v) (a := a) (b := b) (by omega))
      go_enter Try.func87, Try.ntmps87
      go_wp2
      go_ret
      exact ⟨ret_b H.out.symm, rfl⟩
  · have H := Lib.hid (in_f (v := v) (a := a) (b := b) (by omega))
    go_enter Try.func87, Try.ntmps87
    go_wp2
    go_ret
    exact ⟨ret_b H.out.symm, rfl⟩

theorem sq_in (s : Int) : inB s 0 4294967295 = sqB s := by
  unfold inB sqB; exact decide_eq_decide.2 (by omega)

theorem l1Seq_any (s : Int) (w : World) : Calls Try.prog 108 #[.int .i64 s] w fun e w' => e = .returned (.bool (sqB s)) ∧ w = w' := by
  have H := Lib.hid (sq_in s)
  go_enter Try.func108, Try.ntmps108
  go_wp2_with (go_at_call 87; refine (l1In_any _ _ _ _).mono ?_; rintro e w' ⟨rfl, rfl⟩)
  go_ret
  exact ⟨ret_b H.out, rfl⟩

theorem implAdd (s n : Int) (w : World) : Calls Try.prog 34 #[.int .i64 s, .int .i64 n] w fun e w' => e = .returned (ir (addC s n) (addV s n)) ∧ Below w.heap.size w w' := by
  by_cases h1 : 0 ≤ s ∧ s < 4294967296
  · have ha := sq_t h1
    obtain ⟨a1, a2⟩ := h1
    by_cases h2 : -4294967296 ≤ n ∧ n ≤ 4294967296
    · have H1 := Lib.hid (show addC s n = 0 by simp only [addC, ha, in_t h2, Bool.and_self, if_true])
      have H2 := Lib.hid (show addV s n = (s + n) % 4294967296 by simp only [addV, ha, in_t h2, Bool.and_self, if_true])
      obtain ⟨b1, b2⟩ := h2
      go_enter Try.func34, Try.ntmps34
      go_wp2_with (go_at_call 88; refine (isSeq_any _ _).mono ?_; rintro e w' ⟨rfl, rfl⟩)
      exact bodyPost_ret (v := .agg #[.int .i64 0, .int .i64 ((s + n) % 4294967296)]) (by simp [results, Try.results34, go_sem]) rfl ⟨ret_ir H1.out.symm H2.out.symm, ((Below.refl _ _).alloc (Nat.le_refl _) _)⟩
    · have H1 := Lib.hid (show addC s n = 3 by simp only [addC, ha, in_f h2, Bool.and_false, Bool.false_eq_true, if_false])
      have H2 := Lib.hid (show addV s n = 0 by simp only [addV, ha, in_f h2, Bool.and_false, Bool.false_eq_true, if_false])
      go_enter Try.func34, Try.ntmps34
      go_wp2_with (go_at_call 88; refine (isSeq_any _ _).mono ?_; rintro e w' ⟨rfl, rfl⟩)
      all_goals exact bodyPost_ret (v := .agg #[.int .i64 3, .int .i64 0]) (by simp [results, Try.results34, go_sem]) rfl ⟨ret_ir H1.out.symm H2.out.symm, ((Below.refl _ _).alloc (Nat.le_refl _) _)⟩
  · have ha := sq_f h1
    have H1 := Lib.hid (show addC s n = 3 by simp only [addC, ha, Bool.false_and, Bool.false_eq_true, if_false])
    have H2 := Lib.hid (show addV s n = 0 by simp only [addV, ha, Bool.false_and, Bool.false_eq_true, if_false])
    clear h1
    go_enter Try.func34, Try.ntmps34
    go_wp2_with (go_at_call 88; refine (isSeq_any _ _).mono ?_; rintro e w' ⟨rfl, rfl⟩)
    all_goals exact bodyPost_ret (v := .agg #[.int .i64 3, .int .i64 0]) (by simp [results, Try.results34, go_sem]) rfl ⟨ret_ir H1.out.symm H2.out.symm, ((Below.refl _ _).alloc (Nat.le_refl _) _)⟩

theorem l1Add_any (s n : Int) (w : World) (a1 : 0 ≤ s) (a2 : s < 4294967296) (b1 : -4294967296 ≤ n) (b2 : n ≤ 4294967296) : Calls Try.prog 109 #[.int .i64 s, .int .i64 n] w fun e w' => e = .returned (.int .i64 ((s + n) % 4294967296)) ∧ w = w' := by
  go_enter Try.func109, Try.ntmps109
  go_wp2
  go_ret
  exact ⟨ret_i (by omega), rfl⟩

/-! The way from one number to another. -/
def dist (f t : Int) : Int := if 2147483648 ≤ (t - f) % 4294967296 then (t - f) % 4294967296 - 4294967296 else (t - f) % 4294967296
def distC (f t : Int) : Int := if sqB f && sqB t then 0 else 3
def distV (f t : Int) : Int := if sqB f && sqB t then dist f t else 0
theorem dist_hi {f t : Int} (h : 2147483648 ≤ (t - f) % 4294967296) : dist f t = (t - f) % 4294967296 - 4294967296 := by unfold dist; rw [if_pos h]
theorem dist_lo {f t : Int} (h : ¬ 2147483648 ≤ (t - f) % 4294967296) : dist f t = (t - f) % 4294967296 := by unfold dist; rw [if_neg h]

theorem eqInt_t (c v : Int) (w : World) : Calls Try.prog 38 #[.agg #[.int .i64 c, .int .i64 v], .agg #[.int .i64 c, .int .i64 v]] w fun e w' => e = .returned (.bool true) ∧ Below w.heap.size w w' := by
  go_enter Try.func38, Try.ntmps38
  go_wp2
  go_ret
  exact ⟨rfl, ((Below.refl _ _).alloc (Nat.le_refl _) _).alloc (by simp) _⟩

theorem bcell {W w1 : World} (hb : Below W.heap.size W w1) : (∀ b o, b < W.heap.size → w1.cell? ⟨b, o, none⟩ = W.cell? ⟨b, o, none⟩) ∧ (∀ b o, b < W.heap.size → w1.frozen? ⟨b, o, none⟩ = W.frozen? ⟨b, o, none⟩) :=
  ⟨fun b o h => hb.cell (p := ⟨b, o, none⟩) h, fun b o h => hb.frozen (p := ⟨b, o, none⟩) h⟩

/-- what a struct of two cells, made ahead of a call, holds behind it -/
theorem two_cells {w1 w2 : World} {x y : Value} {t : TypeId} (hb : Below (w1.alloc (.cells #[x, y] t)).heap.size (w1.alloc (.cells #[x, y] t)) w2) :
    w1.heap.size < w2.heap.size ∧ w2.cell? ⟨w1.heap.size, 0, none⟩ = some x ∧ w2.cell? ⟨w1.heap.size, 1, none⟩ = some y := by
  have hz := hb.size
  simp only [World.size_alloc] at hz
  refine ⟨by omega, (hb.cell (p := ⟨w1.heap.size, 0, none⟩) (by simp)).trans (by simp), (hb.cell (p := ⟨w1.heap.size, 1, none⟩) (by simp)).trans (by simp)⟩

end Go.Proofs.Yteaiemckcepphaa

namespace Go.Proofs.Yteaiemckcepphaa
open Go.ChangeShapes Go.WideShapes Go.ChangeAt Go.RowKit

def B8 (zs : List Int) : Prop := ∀ n ∈ zs, 0 ≤ n ∧ n ≤ 255
/-- the slice reads as the bytes zs -/
structure Rd (w : World) (a : Option Addr) (len cap : Nat) (zs : List Int) : Prop where
  length : zs.length = len
  le : len ≤ cap
  max : cap ≤ maxLen
  b8 : B8 zs
  nil : a = none → len = 0 ∧ cap = 0
  cells : len = 0 ∨ ∃ b off, a = some ⟨b, off, none⟩ ∧ ∀ i, i < len → w.cell? ⟨b, off + i, none⟩ = some (.int .u8 (zs.getD i 0))
/-- the slice owns an array of its own, that begins at a block from base on, and it holds the bytes zs -/
structure Own (w : World) (base : Nat) (a : Option Addr) (len cap : Nat) (zs : List Int) : Prop where
  row : w.ownsRow base 5 1 (.slice a len cap) len (zs.map (.int .u8))
  b8 : B8 zs

theorem b8_nil : B8 [] := by intro n h; cases h
theorem b8_getD {zs : List Int} (h : B8 zs) (i : Nat) : 0 ≤ zs.getD i 0 ∧ zs.getD i 0 ≤ 255 := by
  rw [List.getD_eq_getElem?_getD]
  by_cases hi : i < zs.length
  · rw [List.getElem?_eq_getElem hi]; exact h _ (List.getElem_mem hi)
  · rw [List.getElem?_eq_none (by omega)]; simp
theorem b8_set {zs : List Int} (h : B8 zs) (i : Nat) (n : Int) (hn : 0 ≤ n ∧ n ≤ 255) : B8 (zs.set i n) := by
  intro m hm
  rcases List.mem_or_eq_of_mem_set hm with h' | rfl
  · exact h _ h'
  · exact hn
theorem b8_rep (k : Nat) : B8 (List.replicate k 0) := by
  intro n h
  obtain ⟨_, rfl⟩ := List.mem_replicate.1 h
  omega
theorem b8_app {a b : List Int} (h : B8 a) (k : B8 b) : B8 (a ++ b) := by
  intro n hn
  rcases List.mem_append.1 hn with h' | h'
  · exact h _ h'
  · exact k _ h'
theorem b8_take {a : List Int} (h : B8 a) (k : Nat) : B8 (a.take k) := fun n hn => h n (List.mem_of_mem_take hn)
theorem b8_drop {a : List Int} (h : B8 a) (k : Nat) : B8 (a.drop k) := fun n hn => h n (List.mem_of_mem_drop hn)

theorem Own.length {w : World} {base : Nat} {a : Option Addr} {len cap : Nat} {zs : List Int} (h : Own w base a len cap zs) : zs.length = len := by
  have := h.row.1; simpa using this
theorem Own.lt {w : World} {base : Nat} {a : Option Addr} {len cap : Nat} {zs : List Int} (h : Own w base a len cap zs) : ∀ x, a = some x → base ≤ x.block ∧ x.block < w.heap.size := by
  rintro x rfl
  exact h.row.lt x.block rfl
theorem Own.nil (w : World) (base : Nat) : Own w base none 0 0 [] := ⟨World.ownsRow_nil _ _ _ _, b8_nil⟩
theorem Own.max {w : World} {base : Nat} {a : Option Addr} {len cap : Nat} {zs : List Int} (h : Own w base a len cap zs) : len ≤ cap ∧ cap ≤ maxLen := by
  rcases h.row.2 with ⟨h', h0⟩ | ⟨g, c, cur, h', _, _, h1, h2, _⟩
  · simp only [Value.slice.injEq] at h'; obtain ⟨_, rfl, rfl⟩ := h'; exact ⟨Nat.le_refl _, Nat.zero_le _⟩
  · simp only [Value.slice.injEq, true_and] at h'; obtain ⟨_, rfl⟩ := h'; exact ⟨h1, h2⟩
theorem Own.shape {w : World} {base : Nat} {a : Option Addr} {len cap : Nat} {zs : List Int} (h : Own w base a len cap zs) : (a = none ∧ len = 0 ∧ cap = 0 ∧ zs = []) ∨ ∃ g, a = some ⟨g, 0, none⟩ := by
  rcases h.row.2 with ⟨h', h0⟩ | ⟨g, c, cur, h', _, _, h1, h2, _⟩
  · simp only [Value.slice.injEq] at h'; obtain ⟨rfl, rfl, rfl⟩ := h'; exact .inl ⟨rfl, rfl, rfl, List.length_eq_zero_iff.1 h.length⟩
  · simp only [Value.slice.injEq, true_and] at h'; obtain ⟨rfl, rfl⟩ := h'; exact .inr ⟨g, rfl⟩
theorem Own.cellAt {w : World} {base g : Nat} {len cap : Nat} {zs : List Int} (h : Own w base (some ⟨g, 0, none⟩) len cap zs) (i : Nat) (hi : i < len) : w.cell? ⟨g, i, none⟩ = some (.int .u8 (zs.getD i 0)) := by
  have := h.row.cellAt i (by simpa using hi)
  have hl := h.length
  rw [this, List.getElem?_map, List.getD_eq_getElem?_getD, List.getElem?_eq_getElem (by omega)]; rfl
theorem Own.frozenAt {w : World} {base g : Nat} {len cap : Nat} {zs : List Int} (h : Own w base (some ⟨g, 0, none⟩) len cap zs) (i : Nat) : w.frozen? ⟨g, i, none⟩ = false := h.row.frozenAt i
theorem Own.rd {w : World} {base : Nat} {a : Option Addr} {len cap : Nat} {zs : List Int} (h : Own w base a len cap zs) : Rd w a len cap zs := by
  refine ⟨h.length, h.max.1, h.max.2, h.b8, ?_, ?_⟩
  · rintro rfl
    rcases h.shape with ⟨_, h0, h1, _⟩ | ⟨g, e⟩
    · exact ⟨h0, h1⟩
    · cases e
  rcases h.shape with ⟨_, h0, _⟩ | ⟨g, rfl⟩
  · exact .inl h0
  · exact .inr ⟨g, 0, rfl, fun i hi => by rw [Nat.zero_add]; exact h.cellAt i hi⟩
theorem Own.grown {w w' : World} {base : Nat} {a : Option Addr} {len cap : Nat} {zs : List Int} {row : Option Nat} (h : Own w base a len cap zs) (hg : w.grownBy w' row) (hne : ∀ x, a = some x → some x.block ≠ row) : Own w' base a len cap zs := by
  refine ⟨h.row.kept hg ?_, h.b8⟩
  cases a with
  | none => exact .inl rfl
  | some x => exact .inr (hne x rfl)
theorem Own.below {w w' : World} {base : Nat} {a : Option Addr} {len cap : Nat} {zs : List Int} (h : Own w base a len cap zs) (hb : Below w.heap.size w w') : Own w' base a len cap zs :=
  h.grown (row := none) ⟨hb.os, hb.tape, hb.output, hb.size, fun k hk _ => hb.block k hk⟩ (fun _ _ => by simp)
theorem Own.alloc {w : World} {base : Nat} {a : Option Addr} {len cap : Nat} {zs : List Int} (h : Own w base a len cap zs) (o : Obj) : Own (w.alloc o) base a len cap zs := ⟨h.row.alloc o, h.b8⟩
theorem Own.set {w : World} {base g : Nat} {len cap : Nat} {zs : List Int} (h : Own w base (some ⟨g, 0, none⟩) len cap zs) (i : Nat) (n : Int) (hn : 0 ≤ n ∧ n ≤ 255) : Own (w.setCell ⟨g, i, none⟩ (.int .u8 n)) base (some ⟨g, 0, none⟩) len cap (zs.set i n) ∧ w.grownBy (w.setCell ⟨g, i, none⟩ (.int .u8 n)) (some g) := by
  have := h.row.stored i (.int .u8 n)
  rw [← List.map_set] at this
  exact ⟨⟨this.1, b8_set h.b8 i n hn⟩, this.2⟩
theorem Rd.below {w w' : World} {a : Option Addr} {len cap : Nat} {zs : List Int} (h : Rd w a len cap zs) (hb : Below w.heap.size w w') : Rd w' a len cap zs := by
  refine ⟨h.length, h.le, h.max, h.b8, h.nil, ?_⟩
  rcases h.cells with h0 | ⟨b, off, rfl, hc⟩
  · exact .inl h0
  · exact .inr ⟨b, off, rfl, fun i hi => (hb.cell (p := ⟨b, off + i, none⟩) (World.block_lt_of_cell? _ _ (hc i hi))).trans (hc i hi)⟩
theorem Rd.alloc {w : World} {a : Option Addr} {len cap : Nat} {zs : List Int} (h : Rd w a len cap zs) (o : Obj) : Rd (w.alloc o) a len cap zs :=
  h.below ((Below.refl _ _).alloc (Nat.le_refl _) o)
theorem Rd.getD_bd {w : World} {a : Option Addr} {len cap : Nat} {zs : List Int} (h : Rd w a len cap zs) (i : Nat) : 0 ≤ zs.getD i 0 ∧ zs.getD i 0 ≤ 255 := b8_getD h.b8 i
theorem below_of_grown {w w' : World} {row : Option Nat} {B : Nat} (hg : w.grownBy w' row) (hB : B ≤ w.heap.size) (hr : ∀ k, row = some k → B ≤ k) : Below B w w' := (Below.refl B w).grown hg hB hr
theorem grown_trans {a b c : World} {row : Option Nat} (h : a.grownBy b row) (k : b.grownBy c row) : a.grownBy c row :=
  ⟨k.os.trans h.os, k.tape.trans h.tape, k.output.trans h.output, Nat.le_trans h.size k.size, fun i hi hr => (k.block i (Nat.lt_of_lt_of_le hi h.size) hr).trans (h.block i hi hr)⟩
theorem grown_none {a b : World} {row : Option Nat} (h : a.grownBy b none) : a.grownBy b row :=
  ⟨h.os, h.tape, h.output, h.size, fun i hi _ => h.block i hi (by simp)⟩

theorem Own.drew {w : World} {base : Nat} {a : Option Addr} {len cap : Nat} {zs : List Int} (h : Own w base a len cap zs) : Own w.drew base a len cap zs := ⟨h.row.drew, h.b8⟩
theorem Rd.drew {w : World} {a : Option Addr} {len cap : Nat} {zs : List Int} (h : Rd w a len cap zs) : Rd w.drew a len cap zs := h.below (Below.refl _ w).drew
/-- a block that holds just these cells -/
def Box (w : World) (b : Nat) (t : TypeId) (vs : Array Value) : Prop := w.heap[b]? = some (.cells vs t (0, 0))
theorem Box.new (w : World) (t : TypeId) (vs : Array Value) : Box (w.alloc (.cells vs t)) w.heap.size t vs := heap_alloc_new w _
theorem Box.lt {w : World} {b : Nat} {t : TypeId} {vs : Array Value} (h : Box w b t vs) : b < w.heap.size := (Array.getElem?_eq_some_iff.1 h).1
theorem Box.grown {w w' : World} {b : Nat} {t : TypeId} {vs : Array Value} {row : Option Nat} (h : Box w b t vs) (hg : w.grownBy w' row) (hne : some b ≠ row) : Box w' b t vs := (hg.block b h.lt hne).trans h
theorem Box.below {w w' : World} {b B : Nat} {t : TypeId} {vs : Array Value} (h : Box w b t vs) (hb : Below B w w') (hB : b < B) : Box w' b t vs := (hb.block b hB).trans h
theorem Box.alloc {w : World} {b : Nat} {t : TypeId} {vs : Array Value} (h : Box w b t vs) (o : Obj) : Box (w.alloc o) b t vs := (Below.heap_alloc w o b h.lt).trans h
theorem Box.cell {w : World} {b : Nat} {t : TypeId} {vs : Array Value} (h : Box w b t vs) (i : Nat) : w.cell? ⟨b, i, none⟩ = vs[i]? := cell_of_row w b i vs t (0, 0) h
theorem Box.frozen {w : World} {b : Nat} {t : TypeId} {vs : Array Value} (h : Box w b t vs) (i : Nat) : w.frozen? ⟨b, i, none⟩ = false := frozen_of_row w b i vs t h
theorem Box.two {w : World} {b : Nat} {t : TypeId} {x y : Value} (h : Box w b t #[x, y]) : b < w.heap.size ∧ w.cell? ⟨b, 0, none⟩ = some x ∧ w.cell? ⟨b, 1, none⟩ = some y := ⟨h.lt, h.cell 0, h.cell 1⟩
theorem grown_of_below {w w' : World} (h : Below w.heap.size w w') (row : Option Nat) : w.grownBy w' row := ⟨h.os, h.tape, h.output, h.size, fun k hk _ => h.block k hk⟩

theorem Try.infoU8 : (Try.prog.info? 5).map (fun i => (i.zero, i.size, i.bytes)) = some (some (.int .u8 0), 1, 1) := by kernel_rfl

theorem take_set (zs : List Int) (k : Nat) (h : k < zs.length) : (zs.take k ++ List.replicate (zs.length - k) 0).set k (zs.getD k 0) = zs.take (k + 1) ++ List.replicate (zs.length - (k + 1)) 0 := by
  rw [List.set_append_right _ _ (by simp; omega)]
  rw [List.take_succ_eq_append_getElem h, List.getD_eq_getElem?_getD, List.getElem?_eq_getElem h]
  rw [show zs.length - k = (zs.length - (k + 1)) + 1 by omega, List.replicate_succ]
  have : k - (zs.take k).length = 0 := by simp; omega
  rw [this]
  simp only [List.set_cons_zero, Option.getD_some, List.append_assoc, List.cons_append, List.nil_append]

set_option maxHeartbeats 400000 in
theorem toByteS_any (a : Option Addr) (len cap : Nat) (zs : List Int) (w : World) (h : Rd w a len cap zs) (hl : len ≤ 1048576) :
    Calls Try.prog 43 #[.slice a len cap] w fun e w' => e = .returned (.slice (some ⟨w.heap.size, 0, none⟩) len len) ∧ Own w' w.heap.size (some ⟨w.heap.size, 0, none⟩) len len zs ∧ Below w.heap.size w w' := by
  obtain ⟨i0, hi, hz0, hz1, hz2⟩ := info_parts Try.infoU8
  have hzl := Lib.hid h.length
  have hm : len ≤ maxLen := by unfold maxLen; omega
  go_enter Try.func43, Try.ntmps43
  go_wp2_with (at_make; refine wpList_make_full _ rfl (.tmp 6) (.tmp 6) 22 rfl w.heap.size 5 i0 (.int .u8 0) 1 Try.underlying22 hi hz0 hz1 .i64 .i64 len len len rfl rfl rfl rfl (by rw [hz2]; omega) hm (Nat.le_refl _) ?_; intro w1 hown hgrow)
  have hO : Own w1 w.heap.size (some ⟨w.heap.size, 0, none⟩) len len (List.replicate len 0) := ⟨by have := hown; simp only [Nat.mul_one, Value.cells, toList_madeCells_one] at this; simpa using this, b8_rep _⟩
  have hB : Below w.heap.size w w1 := below_of_grown hgrow (Nat.le_refl _) (by simp)
  clear hown hgrow
  go_loopw [4] (fun i wr => ∃ k : Nat, k ≤ len ∧ i = .int .i64 k ∧ Own wr w.heap.size (some ⟨w.heap.size, 0, none⟩) len len (zs.take k ++ List.replicate (len - k) 0) ∧ Below w.heap.size w wr) (fun i _ => len - (intOf i).toNat)
  case atStart => exact ⟨0, Nat.zero_le _, rfl, by simpa using hO, hB⟩
  case round =>
    obtain ⟨k, hk, rfl, hown, hb⟩ := hrel
    clear hO hB
    by_cases hlt : k < len
    · rcases h.cells with h0 | ⟨b, off, rfl, hc⟩
      · omega
      · have hck := (hb.cell (p := ⟨b, off + k, none⟩) (World.block_lt_of_cell? _ _ (hc k hlt))).trans (hc k hlt)
        have hd := hown.cellAt k hlt
        have hf := hown.frozenAt k
        have hbd := h.getD_bd k
        have hset := hown.set k (zs.getD k 0) hbd
        have hts := take_set zs k (by have := hzl.out; omega)
        rw [hzl.out] at hts
        rw [hts] at hset
        have R := Lib.hid hset
        clear hset hts hown hc
        rw [List.getD_eq_getElem?_getD] at hck hd hbd R
        go_wp2
        go_roundw
        case rel => exact ⟨k + 1, by omega, by go_num, R.out.1, hb.grown R.out.2 hb.size (fun j e => by cases e; exact Nat.le_refl _)⟩
        case measure => simp [intOf]; omega
    · obtain rfl : k = len := by omega
      go_wp2
      go_ret
      exact ⟨rfl, by have := hown; rw [List.take_of_length_le (by have := hzl.out; omega)] at this; simpa using this, hb⟩

theorem belowN {B : Nat} {a w : World} (h : Below B a w) (n : Nat) : Below B a (w.drewN n) := ⟨h.os, h.tape, h.output, h.size, h.block⟩

theorem eq_iff (za zb : List Int) (h : za.length = zb.length) : (za = zb) ↔ ∀ i, i < za.length → za.getD i 0 = zb.getD i 0 := by
  constructor
  · rintro rfl i _; rfl
  · intro hh
    apply List.ext_getElem h
    intro i h1 h2
    have := hh i h1
    rwa [List.getD_eq_getElem?_getD, List.getD_eq_getElem?_getD, List.getElem?_eq_getElem h1, List.getElem?_eq_getElem h2] at this

def eqL (za zb : List Int) : Bool := decide (za = zb)

set_option maxHeartbeats 400000 in
theorem eqByteS_any (a b : Option Addr) (la ca lb cb : Nat) (za zb : List Int) (w : World) (ha : Rd w a la ca za) (hb : Rd w b lb cb zb) :
    Calls Try.prog 45 #[.slice a la ca, .slice b lb cb] w fun e w' => e = .returned (.bool (eqL za zb)) ∧ Below w.heap.size w w' := by
  have ma : la ≤ maxLen := Nat.le_trans ha.le ha.max
  unfold maxLen at ma
  have hla := Lib.hid ha.length
  have hlb := Lib.hid hb.length
  by_cases hll : la = lb
  · obtain rfl := hll
    have hne : (la != la) = false := by simp
    go_enter Try.func45, Try.ntmps45
    go_wp2
    go_loopw [5] (fun i wr => ∃ k : Nat, k ≤ la ∧ i = .int .i64 k ∧ Hid (∀ j, j < k → za.getD j 0 = zb.getD j 0) ∧ Below w.heap.size w wr) (fun i _ => la - (intOf i).toNat)
    case atStart => exact ⟨0, Nat.zero_le _, rfl, fun j hj => absurd hj (by omega), Below.refl _ _⟩
    case round =>
      obtain ⟨k, hk, rfl, heq, hbel⟩ := hrel
      by_cases hlt : k < la
      · rcases ha.cells with h0 | ⟨ba, oa, rfl, hca⟩
        · omega
        rcases hb.cells with h0 | ⟨bb, ob, rfl, hcb⟩
        · omega
        have h1 := (hbel.cell (p := ⟨ba, oa + k, none⟩) (World.block_lt_of_cell? _ _ (hca k hlt))).trans (hca k hlt)
        have h2 := (hbel.cell (p := ⟨bb, ob + k, none⟩) (World.block_lt_of_cell? _ _ (hcb k hlt))).trans (hcb k hlt)
        clear hca hcb
        by_cases he : za.getD k 0 = zb.getD k 0
        · have E := Lib.hid he
          rw [← he] at h2
          clear he
          generalize hX : za.getD k 0 = x at h1 h2
          clear hX
          go_wp2
          go_quiet (fail)
          go_wp2
          go_roundw
          case rel => exact ⟨k + 1, by omega, by go_num, fun j hj => by
            by_cases hjk : j < k
            · exact heq.out j hjk
            · obtain rfl : j = k := by omega
              exact E.out, belowN hbel _⟩
          case measure => simp [intOf]; omega
        · have E := Lib.hid he
          have hx : (za.getD k 0 != zb.getD k 0) = true := by simpa using he
          have F : Hid (eqL za zb = false) := by
            unfold eqL
            refine decide_eq_false ?_
            intro e
            exact he (by rw [e])
          clear he
          generalize za.getD k 0 = x at *
          generalize zb.getD k 0 = y at *
          go_wp2
          go_quiet (fail)
          go_wp2
          go_ret
          exact ⟨ret_b F.out.symm, belowN hbel _⟩
      · obtain rfl : k = la := by omega
        have F : Hid (eqL za zb = true) := by
          unfold eqL
          refine decide_eq_true ((eq_iff za zb (by have := hla.out; have := hlb.out; omega)).2 ?_)
          intro j hj
          exact heq.out j (by have := hla.out; omega)
        go_wp2
        go_ret
        exact ⟨ret_b F.out.symm, hbel⟩
  · have hne : (la != lb) = true := by simpa using hll
    have F : Hid (eqL za zb = false) := by
      unfold eqL
      refine decide_eq_false ?_
      intro e
      exact hll (by rw [← hla.out, ← hlb.out, e])
    go_enter Try.func45, Try.ntmps45
    go_wp2
    go_ret
    exact ⟨ret_b F.out.symm, Below.refl _ _⟩

/-- the marks that a call lays: k, k + 1 .. as bytes -/
def marks (k n : Nat) : List Int := (List.range n).map (fun j => (((k + j) % 256 : Nat) : Int))
theorem marks_len (k n : Nat) : (marks k n).length = n := by simp [marks]
theorem b8_marks (k n : Nat) : B8 (marks k n) := by
  intro x hx
  simp only [marks, List.mem_map, List.mem_range] at hx
  obtain ⟨j, _, rfl⟩ := hx
  omega
theorem marks_getD (k n j : Nat) (h : j < n) : (marks k n).getD j 0 = (((k + j) % 256 : Nat) : Int) := by
  rw [List.getD_eq_getElem?_getD, List.getElem?_eq_getElem (by rw [marks_len]; exact h)]
  simp [marks]
theorem marks_step (k j : Nat) (zs : List Int) (h : j < zs.length) : (marks k j ++ zs.drop j).set j (((k + j) % 256 : Nat) : Int) = marks k (j + 1) ++ zs.drop (j + 1) := by
  rw [List.set_append_right _ _ (by rw [marks_len]; exact Nat.le_refl _), marks_len, Nat.sub_self, List.drop_eq_getElem_cons h]
  simp only [List.set_cons_zero]
  unfold marks
  rw [List.range_succ, List.map_append]
  simp only [List.map_cons, List.map_nil, List.append_assoc, List.cons_append, List.nil_append]

set_option maxHeartbeats 400000 in
theorem markByteS_any (a : Option Addr) (len cap base k0 : Nat) (zs : List Int) (w : World) (h : Own w base a len cap zs) (hl : len ≤ 2097152) (hk0 : k0 ≤ 1000000000) :
    Calls Try.prog 46 #[.slice a len cap, .int .i64 k0] w fun e w' => e = .returned (.int .i64 (k0 + len : Nat)) ∧ Own w' base a len cap (marks k0 len) ∧ w.grownBy w' ((Value.slice a len cap).ownBlock) := by
  have hzl := Lib.hid h.length
  rcases h.shape with ⟨rfl, rfl, rfl, rfl⟩ | ⟨g, rfl⟩
  · go_enter Try.func46, Try.ntmps46
    go_wp2
    go_loopw [1, 5] (fun kk i wr => i = .int .i64 0 ∧ kk = .int .i64 k0 ∧ w = wr) (fun _ _ _ => 0)
    case atStart => exact ⟨rfl, rfl, rfl⟩
    case round =>
      obtain ⟨rfl, rfl, rfl⟩ := hrel
      go_wp2
      go_ret
      exact ⟨by go_num, h, World.grownBy.refl _ _⟩
  · go_enter Try.func46, Try.ntmps46
    go_wp2
    go_loopw [1, 5] (fun kk i wr => ∃ j : Nat, j ≤ len ∧ i = .int .i64 j ∧ kk = .int .i64 (k0 + j : Nat) ∧ Own wr base (some ⟨g, 0, none⟩) len cap (marks k0 j ++ zs.drop j) ∧ w.grownBy wr (some g)) (fun _ i _ => len - (intOf i).toNat)
    case atStart => exact ⟨0, Nat.zero_le _, rfl, rfl, by simpa [marks] using h, World.grownBy.refl _ _⟩
    case round =>
      obtain ⟨j, hj, rfl, rfl, hown, hgr⟩ := hrel
      by_cases hlt : j < len
      · have hc := hown.cellAt j hlt
        have hf := hown.frozenAt j
        have hset := hown.set j (((k0 + j) % 256 : Nat) : Int) (by omega)
        rw [marks_step k0 j zs (by have := hzl.out; omega)] at hset
        have R := Lib.hid hset
        clear hset hown h
        go_wp2
        go_roundw
        case rel => exact ⟨j + 1, by omega, by go_num, by go_num, R.out.1, grown_trans hgr R.out.2⟩
        case measure => simp [intOf]; omega
      · obtain rfl : j = len := by omega
        go_wp2
        go_ret
        exact ⟨by go_num, by have := hown; rw [List.drop_of_length_le (by have := hzl.out; omega)] at this; simpa using this, hgr⟩
end Go.Proofs.Yteaiemckcepphaa

namespace Go.Proofs.Yteaiemckcepphaa
open Go.ChangeShapes Go.WideShapes Go.ChangeAt Go.RowKit

theorem rd_of_row {w : World} {a : Option Addr} {len cap : Nat} {zs : List Int}
    (h : (a = none ∧ len = 0 ∧ cap = 0 ∧ zs = []) ∨ ∃ x, a = some x ∧ len ≤ cap ∧ cap ≤ maxLen ∧ zs.length = cap ∧ (∀ i, i < zs.length → w.cell? (x.add i) = some (.int .u8 (zs.getD i 0))) ∧ ∀ n ∈ zs, (Lit.int .u8 n).wf = true) :
    Rd w a len cap (zs.take len) := by
  rcases h with ⟨rfl, rfl, rfl, rfl⟩ | ⟨x, rfl, h1, h2, h3, h4, h5⟩
  · exact ⟨rfl, Nat.le_refl _, Nat.zero_le _, b8_nil, fun _ => ⟨rfl, rfl⟩, .inl rfl⟩
  · refine ⟨by simp; omega, h1, h2, fun n hn => bounds_u8 (h5 n (List.mem_of_mem_take hn)), by simp, ?_⟩
    by_cases h0 : len = 0
    · exact .inl h0
    · obtain ⟨b, off, spot⟩ := x
      have hs : spot = none := by
        have := h4 0 (by omega)
        simpa [Addr.add] using World.cell?_spot this
      subst hs
      refine .inr ⟨b, off, rfl, fun i hi => ?_⟩
      have := h4 i (by omega)
      rw [List.getD_eq_getElem?_getD, List.getElem?_take, if_pos hi, ← List.getD_eq_getElem?_getD]
      have e : (⟨b, off, none⟩ : Addr).add i = ⟨b, off + i, none⟩ := by
        unfold Addr.add
        split
        · next h => subst h; rfl
        · rfl
      rwa [e] at this
end Go.Proofs.Yteaiemckcepphaa

namespace Go.Proofs.Yteaiemckcepphaa
open Go.ChangeShapes Go.WideShapes Go.ChangeAt Go.RowKit Go.Deep

/-- each cell of the struct is what its field's type reads -/
theorem open_flat {H : Type} {enc : TypeId × Value → H} {P : Program} {w : World} {base : Nat} {spare : Nat → Bool} {held : Bool} {r : Reach} {b0 : Nat} {t : TypeId} {fs : Array Field} {v : Value} {d : DataW H} {p : List MemPlace}
    (hs : P.underlying t = some (.struct fs)) (hone : oneCellFields P fs = true) (hC : P.cellsOf t = fs.size) (hv : Value.okWide P w r b0 t v) (h : DataW.Trod enc P w base spare held t v d p) :
    ∃ cs : Array Value, v = .agg cs ∧ cs.size = fs.size ∧ ∀ (j : Nat) (f : Field), fs[j]? = some f → ∃ (c : Value) (y : DataW H × List MemPlace) (n : Nat), cs[j]? = some c ∧ DataW.trod enc P w base spare held n f.type [c] = some y := by
  obtain ⟨cs, rfl, hsz⟩ := okWide_struct hs hv
  obtain ⟨fuel, hf⟩ := h
  obtain ⟨xs, n, _, _, _, hlen, hg⟩ := DataW.trod_struct hs hf
  refine ⟨cs, rfl, hsz.trans hC, fun j f hj => ?_⟩
  obtain ⟨ho, hk⟩ := hone_of hone j f hj
  have hjl : j < fs.size := (Array.getElem?_eq_some_iff.1 hj).1
  have hjc : j < cs.size := by rw [hsz, hC]; exact hjl
  have h1 := hg j f hj
  rw [ho, hk] at h1
  have hd : List.take 1 (List.drop j (Value.agg cs).cells.toList) = [cs[j]] := by
    have hl : j < cs.toList.length := by simpa using hjc
    have : (Value.agg cs).cells.toList = cs.toList := by simp [Value.cells]
    rw [this, List.drop_eq_getElem_cons hl]
    simp
  rw [hd] at h1
  have hy : xs[j]? = some (xs[j]'(by omega)) := List.getElem?_eq_getElem (by omega)
  exact ⟨cs[j], _, n, Array.getElem?_eq_getElem hjc, h1.trans hy⟩

theorem field_int {H : Type} {enc : TypeId × Value → H} {P : Program} {w : World} {base : Nat} {spare : Nat → Bool} {held : Bool} {t : TypeId} {k : IntKind} {cs : Array Value} {j : Nat} (ht : P.underlying t = some (.int k))
    (h : ∃ (c : Value) (y : DataW H × List MemPlace) (n : Nat), cs[j]? = some c ∧ DataW.trod enc P w base spare held n t [c] = some y) : ∃ x, cs[j]? = some (.int k x) ∧ (Lit.int k x).wf = true := by
  obtain ⟨c, y, n, hc, hy⟩ := h
  obtain ⟨x, hx, _, hw⟩ := DataW.trod_int ht hy
  simp only [List.cons.injEq, and_true] at hx
  subst hx
  exact ⟨x, hc, hw⟩

theorem field_bool {H : Type} {enc : TypeId × Value → H} {P : Program} {w : World} {base : Nat} {spare : Nat → Bool} {held : Bool} {t : TypeId} {cs : Array Value} {j : Nat} (ht : P.underlying t = some .bool)
    (h : ∃ (c : Value) (y : DataW H × List MemPlace) (n : Nat), cs[j]? = some c ∧ DataW.trod enc P w base spare held n t [c] = some y) : ∃ x, cs[j]? = some (.bool x) := by
  obtain ⟨c, y, n, hc, hy⟩ := h
  obtain ⟨x, hx, _⟩ := DataW.trod_bool ht hy
  simp only [List.cons.injEq, and_true] at hx
  subst hx
  exact ⟨x, hc⟩

theorem field_bytes {H : Type} {enc : TypeId × Value → H} {w : World} {spare : Nat → Bool} {base : Nat} {held : Bool} {cs : Array Value} {j : Nat} {t : TypeId} (hu : Try.prog.underlying t = some (.slice 5)) (hsp : ∀ b, spare b = true)
    (h : ∃ (c : Value) (y : DataW H × List MemPlace) (n : Nat), cs[j]? = some c ∧ DataW.trod enc Try.prog w base spare held n t [c] = some y) : ∃ (a : Option Addr) (len cap : Nat) (zs : List Int), cs[j]? = some (.slice a len cap) ∧ Rd w a len cap zs := by
  obtain ⟨c, y, n, hc, hy⟩ := h
  rcases open_ints hu Try.underlying5 (by kernel_rfl) hy with ⟨hcs, _⟩ | ⟨x, l, c', zs, hcs, _, hl, hm, hz, _, hcell, hwz⟩
  · simp only [List.cons.injEq, and_true] at hcs
    subst hcs
    exact ⟨none, 0, 0, _, hc, rd_of_row (zs := []) (.inl ⟨rfl, rfl, rfl, rfl⟩)⟩
  · simp only [List.cons.injEq, and_true] at hcs
    subst hcs
    rw [hsp] at hz
    exact ⟨some x, l, c', _, hc, rd_of_row (.inr ⟨x, rfl, hl, hm, by simpa using hz, hcell, hwz⟩)⟩

theorem arr4 {cs : Array Value} {x0 x1 x2 x3 : Value} (h : cs.size = 4) (h0 : cs[0]? = some x0) (h1 : cs[1]? = some x1) (h2 : cs[2]? = some x2) (h3 : cs[3]? = some x3) : cs = #[x0, x1, x2, x3] := by
  apply Array.ext_getElem?
  intro i
  match i with
  | 0 => exact h0
  | 1 => exact h1
  | 2 => exact h2
  | 3 => exact h3
  | k + 4 => rw [Array.getElem?_eq_none (by omega)]; simp
theorem arr5 {cs : Array Value} {x0 x1 x2 x3 x4 : Value} (h : cs.size = 5) (h0 : cs[0]? = some x0) (h1 : cs[1]? = some x1) (h2 : cs[2]? = some x2) (h3 : cs[3]? = some x3) (h4 : cs[4]? = some x4) : cs = #[x0, x1, x2, x3, x4] := by
  apply Array.ext_getElem?
  intro i
  match i with
  | 0 => exact h0
  | 1 => exact h1
  | 2 => exact h2
  | 3 => exact h3
  | 4 => exact h4
  | k + 5 => rw [Array.getElem?_eq_none (by omega)]; simp
theorem arr3 {cs : Array Value} {x0 x1 x2 : Value} (h : cs.size = 3) (h0 : cs[0]? = some x0) (h1 : cs[1]? = some x1) (h2 : cs[2]? = some x2) : cs = #[x0, x1, x2] := by
  apply Array.ext_getElem?
  intro i
  match i with
  | 0 => exact h0
  | 1 => exact h1
  | 2 => exact h2
  | k + 3 => rw [Array.getElem?_eq_none (by omega)]; simp
theorem arr6 {cs : Array Value} {x0 x1 x2 x3 x4 x5 : Value} (h : cs.size = 6) (h0 : cs[0]? = some x0) (h1 : cs[1]? = some x1) (h2 : cs[2]? = some x2) (h3 : cs[3]? = some x3) (h4 : cs[4]? = some x4) (h5 : cs[5]? = some x5) : cs = #[x0, x1, x2, x3, x4, x5] := by
  apply Array.ext_getElem?
  intro i
  match i with
  | 0 => exact h0
  | 1 => exact h1
  | 2 => exact h2
  | 3 => exact h3
  | 4 => exact h4
  | 5 => exact h5
  | k + 6 => rw [Array.getElem?_eq_none (by omega)]; simp
theorem arr7 {cs : Array Value} {x0 x1 x2 x3 x4 x5 x6 : Value} (h : cs.size = 7) (h0 : cs[0]? = some x0) (h1 : cs[1]? = some x1) (h2 : cs[2]? = some x2) (h3 : cs[3]? = some x3) (h4 : cs[4]? = some x4) (h5 : cs[5]? = some x5) (h6 : cs[6]? = some x6) : cs = #[x0, x1, x2, x3, x4, x5, x6] := by
  apply Array.ext_getElem?
  intro i
  match i with
  | 0 => exact h0
  | 1 => exact h1
  | 2 => exact h2
  | 3 => exact h3
  | 4 => exact h4
  | 5 => exact h5
  | 6 => exact h6
  | k + 7 => rw [Array.getElem?_eq_none (by omega)]; simp
theorem arr8 {cs : Array Value} {x0 x1 x2 x3 x4 x5 x6 x7 : Value} (h : cs.size = 8) (h0 : cs[0]? = some x0) (h1 : cs[1]? = some x1) (h2 : cs[2]? = some x2) (h3 : cs[3]? = some x3) (h4 : cs[4]? = some x4) (h5 : cs[5]? = some x5) (h6 : cs[6]? = some x6) (h7 : cs[7]? = some x7) : cs = #[x0, x1, x2, x3, x4, x5, x6, x7] := by
  apply Array.ext_getElem?
  intro i
  match i with
  | 0 => exact h0
  | 1 => exact h1
  | 2 => exact h2
  | 3 => exact h3
  | 4 => exact h4
  | 5 => exact h5
  | 6 => exact h6
  | 7 => exact h7
  | k + 8 => rw [Array.getElem?_eq_none (by omega)]; simp
end Go.Proofs.Yteaiemckcepphaa

namespace Go.Proofs.Yteaiemckcepphaa
open Go.ChangeShapes Go.WideShapes Go.ChangeAt Go.RowKit

theorem addr_add (b off i : Nat) : (⟨b, off, none⟩ : Addr).add i = ⟨b, off + i, none⟩ := by
  unfold Addr.add
  split
  · next h => subst h; rfl
  · rfl
theorem map_cells {w : World} {b off : Nat} {zs : List Int} {len : Nat} (hl : zs.length = len) (hc : ∀ i, i < len → w.cell? ⟨b, off + i, none⟩ = some (.int .u8 (zs.getD i 0))) :
    ∀ j u, (zs.map (Value.int .u8))[j]? = some u → w.cell? ((⟨b, off, none⟩ : Addr).add j) = some u := by
  intro j u hu
  rw [List.getElem?_map] at hu
  by_cases hj : j < zs.length
  · rw [List.getElem?_eq_getElem hj] at hu
    rw [addr_add, hc j (by omega), List.getD_eq_getElem?_getD, List.getElem?_eq_getElem hj]
    simpa using hu
  · rw [List.getElem?_eq_none (by omega)] at hu
    simp at hu

theorem append_bytes (w : World) {ops : Array Oper} {rest : List Oper} {o : Oper} {ac : Act} {Q : Exit → Act → World → Prop} (hgd : o.guard = none) (s x : Operand)
    (ho : o.op = .call { callee := .builtin .append, args := #[s, x], argTypes := #[22, 22] })
    (base : Nat) (a : Option Addr) (len cap : Nat) (zs : List Int) (hs : ac.eval s = .slice a len cap) (hown : Own w base a len cap zs)
    (b : Option Addr) (lb cb : Nat) (ys : List Int) (hx : ac.eval x = .slice b lb cb) (hr : Rd w b lb cb ys) (hb : base ≤ w.heap.size) (hsz : len + lb ≤ 1099511627776)
    (h : ∀ a' c' w', Own w' base a' (len + lb) c' (zs ++ ys) → w.grownBy w' (Value.slice a len cap).ownBlock → wpList Try.prog ops Q rest (ac.put o.dst (.slice a' (len + lb) c')) w') : wpList Try.prog ops Q (o :: rest) ac w := by
  obtain ⟨i0, hi, hz0, hz1, hz2⟩ := info_parts Try.infoU8
  have hl := hown.length
  have hlb := hr.length
  cases b with
  | none =>
    obtain ⟨rfl, rfl⟩ := hr.nil rfl
    obtain rfl : ys = [] := List.length_eq_zero_iff.1 hlb
    refine wpList_append_own_none hgd s x 22 ho base 5 i0 1 Try.underlying22 hi _ _ _ hs hown.row hx ?_
    have := h a cap w (by simpa using hown) (World.grownBy.refl _ _)
    simpa using this
  | some ad =>
    refine wpList_append_own w hgd s x 22 ho base 5 i0 (.int .u8 0) 1 1 Try.underlying22 hi hz0 hz1 hz2 rfl (by decide) _ _ _ hs hown.row ad lb cb (ys.map (.int .u8)) hx (by simpa using hlb) ?_ (ints_oneCell _ _) (by unfold maxLen; omega) (by omega) hb ?_
    · rcases hr.cells with h0 | ⟨bb, off, e, hc⟩
      · intro j u hu
        obtain rfl : ys = [] := List.length_eq_zero_iff.1 (by omega)
        simp at hu
      · cases e
        exact map_cells hlb hc
    · intro v' w' ho' hg _
      have ho'' := ho'
      rw [← List.map_append] at ho''
      rcases ho'.2 with ⟨rfl, hn⟩ | ⟨g, c, cur, rfl, _⟩
      · obtain ⟨h1, h2⟩ : len = 0 ∧ lb = 0 := by omega
        have := h none 0 w' (by rw [hn] at ho''; exact ⟨by rw [hn]; exact ho'', b8_app hown.b8 hr.b8⟩) hg
        rw [hn] at this
        exact this
      · exact h _ c w' ⟨ho'', b8_app hown.b8 hr.b8⟩ hg

theorem Own.block {w : World} {base g len cap : Nat} {zs : List Int} (h : Own w base (some ⟨g, 0, none⟩) len cap zs) :
    ∃ cur : List Value, w.heap[g]? = some (.cells cur.toArray 5 (0, 0)) ∧ cur.length = cap ∧ cur.take len = zs.map (.int .u8) := by
  rcases h.row.2 with ⟨h', _⟩ | ⟨g', c, cur, h', _, hg, _, _, h4, h5⟩
  · simp at h'
  · simp only [Value.slice.injEq, Option.some.injEq, Addr.mk.injEq, and_true, true_and] at h'
    obtain ⟨rfl, rfl⟩ := h'
    exact ⟨cur.toList, by simpa using hg, by simpa using h4, by simpa using h5⟩
theorem Own.of_block {w : World} {base g len cap : Nat} {zs : List Int} {cur : List Value} (hg : w.heap[g]? = some (.cells cur.toArray 5 (0, 0))) (hc : cur.length = cap) (ht : cur.take len = zs.map (.int .u8)) (hb : base ≤ g) (hl : len ≤ cap) (hm : cap ≤ maxLen) (h8 : B8 zs) :
    Own w base (some ⟨g, 0, none⟩) len cap zs := by
  refine ⟨⟨by rw [← ht, List.length_take]; omega, .inr ⟨g, cap, cur.toArray, rfl, hb, hg, hl, hm, by simpa using hc, by simpa using ht⟩⟩, h8⟩
theorem splice_map {α β : Type} (f : α → β) (L : List α) (off : Nat) (cs : List α) : splice (L.map f) off (cs.map f) = (splice L off cs).map f := by
  simp [splice]
theorem splice_take {α : Type} (L : List α) (off len : Nat) (cs : List α) (h : off + cs.length ≤ len) (hl : len ≤ L.length) : (splice L off cs).take len = splice (L.take len) off cs := by
  unfold splice
  rw [List.take_append, List.take_append, List.take_take, List.length_take, List.drop_take]
  rw [List.take_of_length_le (l := cs) (by omega)]
  have e1 : min len off = off := by omega
  have e2 : min off L.length = off := by omega
  have e3 : min off len = off := by omega
  rw [e1, e2, List.take_take, e3, show len - off - cs.length = len - (off + cs.length) by omega]
theorem b8_splice {L : List Int} {off : Nat} {cs : List Int} (h : B8 L) (k : B8 cs) : B8 (splice L off cs) := b8_app (b8_take h _) (b8_app k (b8_drop h _))
theorem Own.splice {w w' : World} {base g len cap off : Nat} {zs ys : List Int} (h : Own w base (some ⟨g, 0, none⟩) len cap zs) {cur : List Value} (hcur : cur.length = cap) (ht : cur.take len = zs.map (.int .u8))
    (hg : w'.heap[g]? = some (.cells (Go.splice cur off (ys.map (.int .u8))).toArray 5 (0, 0))) (h8 : B8 ys) (hfit : off + ys.length ≤ len) : Own w' base (some ⟨g, 0, none⟩) len cap (Go.splice zs off ys) := by
  have hm := h.max
  refine Own.of_block hg (by rw [length_splice _ _ _ (by simp; omega)]; exact hcur) ?_ (h.lt _ rfl).1 hm.1 hm.2 (b8_splice h.b8 h8)
  rw [splice_take _ _ _ _ (by simpa using hfit) (by omega), ht, splice_map]

/-- bytes copied into a slice of an array of one's own, as a step of a region that draws its order -/
theorem copy_step (w : World) {ops : Array Oper} {o : Oper} {ac : Act} {K : Act → World → Prop} {Q : Exit → Act → World → Prop} {E : Prop} (hgd : o.guard = none) (d s : Operand)
    (ho : o.op = .call { callee := .builtin .copy, args := #[d, s], argTypes := #[22, 22] })
    (base g len cap off dl dc : Nat) (zs : List Int) (hown : Own w base (some ⟨g, 0, none⟩) len cap zs) (hd : ac.eval d = .slice (some ⟨g, off, none⟩) dl dc) (hdl : off + dl ≤ len)
    (b : Option Addr) (lb cb : Nat) (ys : List Int) (hs : ac.eval s = .slice b lb cb) (hr : Rd w b lb cb ys) (hfit : lb ≤ dl)
    (h : ∀ w', Own w' base (some ⟨g, 0, none⟩) len cap (Go.splice zs off ys) → w.grownBy w' (some g) → K (ac.put o.dst (goInt lb)) w') :
    if Region.wanted o (yielded ops ac.tmps) = true then Oper.wp Try.prog o ac w K Q else E := by
  have hw : Region.wanted o (yielded ops ac.tmps) = true := by simp [Region.wanted, hgd]
  have hu := Try.underlying22
  have hsz : (Try.prog.info? 5).map (·.size) = some 1 := by
    obtain ⟨i0, hi, hz0, hz1, hz2⟩ := info_parts Try.infoU8
    rw [hi]; simp [hz1]
  have hlb := hr.length
  obtain ⟨cur, hg, hcl, hct⟩ := hown.block
  have hm := hown.max
  rw [if_pos hw]
  by_cases h0 : lb = 0
  · have hrun := run_copy_none (P := Try.prog) w 22 22 o.type 5 (some ⟨g, off, none⟩) b dl dc lb cb hu hsz (by rw [h0]; exact Nat.zero_min _)
    obtain rfl : ys = [] := List.length_eq_zero_iff.1 (by omega)
    unfold Oper.wp
    simp [execOp, ho, resolve, invoke, builtin, hd, hs, hrun, Result.andThen]
    have := h w (by simpa [Go.splice] using hown) (World.grownBy.refl _ _)
    rw [h0] at this
    exact this
  · rcases hr.cells with h1 | ⟨bb, o2, rfl, hc⟩
    · omega
    · have hrun := run_copy_row (P := Try.prog) w 22 22 o.type 5 g off dl dc ⟨bb, o2, none⟩ lb cb cur.toArray 5 (ys.map (.int .u8)) hu hsz hg (by simp only [List.length_map]; rw [hlb]; exact (Nat.min_eq_left hfit).symm) (map_cells hlb hc) (by simp; omega) (ints_oneCell _ _)
      unfold Oper.wp
      simp only [List.length_map, hlb] at hrun
      simp [execOp, ho, resolve, invoke, builtin, hd, hs, hrun, Result.andThen]
      refine h _ ?_ ⟨rfl, rfl, rfl, by simp [World.setRow], fun k _ hk => setRow_other w g k _ (fun e => hk (by rw [e]))⟩
      refine hown.splice hcl hct ?_ hr.b8 (by omega)
      have := setRow_heap w g _ (Go.splice cur off (ys.map (.int .u8))).toArray _ _ hg
      simpa [Go.splice, hlb] using this

theorem own_lit (w : World) (base : Nat) (hb : base ≤ w.heap.size) : Own (w.alloc (.cells #[] 5)) base (some ⟨w.heap.size, 0, none⟩) 0 0 [] :=
  ⟨World.ownsRow_lit w #[] 0 hb (Nat.zero_le _) rfl, b8_nil⟩

/-- a slice of these bytes in an array of its own -/
def Fresh (w : World) (len : Nat) (zs : List Int) (e : Ending) (w' : World) : Prop :=
  ∃ a' c', e = .returned (.slice a' len c') ∧ Own w' w.heap.size a' len c' zs ∧ Below w.heap.size w w'

set_option maxHeartbeats 1000000 in
theorem l1Copy_any (a : Option Addr) (len cap : Nat) (zs : List Int) (w : World) (h : Rd w a len cap zs) (hl : len ≤ 1048576) :
    Calls Try.prog 68 #[.slice a len cap] w (Fresh w len zs) := by
  have o0 := own_lit w w.heap.size (Nat.le_refl _)
  have r0 := h.alloc (.cells #[] 5)
  go_enter Try.func68, Try.ntmps68
  go_wp2_with (at_builtin; refine append_bytes _ rfl (.tmp 3) (.tmp 4) rfl w.heap.size _ _ _ [] rfl o0 a len cap zs rfl r0 (by simp) (by omega) ?_; intro a' c' w' ho hg)
  go_ret
  refine ⟨a', c', by simp [Array.getD], by simpa using ho, ?_⟩
  exact ((Below.refl _ _).alloc (Nat.le_refl _) _).grown hg (by simp) (fun k e => by simp [Value.ownBlock] at e; omega)

end Go.Proofs.Yteaiemckcepphaa

namespace Go.Proofs.Yteaiemckcepphaa
open Go.ChangeShapes Go.WideShapes Go.ChangeAt Go.RowKit

/-- a slice and the bytes that it reads as -/
structure Sl where
  a : Option Addr
  len : Nat
  cap : Nat
  zs : List Int
def catZ (ss : List Sl) : List Int := ss.flatMap Sl.zs
def sumN : List Sl → Nat
  | [] => 0
  | s :: r => s.len + sumN r
theorem sumN_app : ∀ (a b : List Sl), sumN (a ++ b) = sumN a + sumN b
  | [], b => by simp [sumN]
  | s :: r, b => by simp [sumN, sumN_app r b]; omega
theorem sumN_take_succ (ss : List Sl) (k : Nat) (s : Sl) (h : ss[k]? = some s) : sumN (ss.take (k + 1)) = sumN (ss.take k) + s.len := by
  rw [List.take_add_one, h, sumN_app]
  simp [sumN]
theorem sumN_take_le (ss : List Sl) (k : Nat) : sumN (ss.take k) ≤ sumN ss := by
  have := sumN_app (ss.take k) (ss.drop k)
  rw [List.take_append_drop] at this
  omega
theorem catZ_take_succ (ss : List Sl) (k : Nat) (s : Sl) (h : ss[k]? = some s) : catZ (ss.take (k + 1)) = catZ (ss.take k) ++ s.zs := by
  unfold catZ
  rw [List.take_add_one, h]
  simp
/-- the slices lie one behind the other in the block g -/
def Sls (w : World) (g : Nat) (ss : List Sl) : Prop := ∀ i s, ss[i]? = some s → w.cell? ⟨g, i, none⟩ = some (.slice s.a s.len s.cap) ∧ Rd w s.a s.len s.cap s.zs
def FreshA (w : World) (zs : List Int) (e : Ending) (w' : World) : Prop :=
  ∃ a' l' c', e = .returned (.slice a' l' c') ∧ Own w' w.heap.size a' l' c' zs ∧ Below w.heap.size w w'

theorem keepB' {w w' : World} {p : Addr} {u : Value} (hb : Below w.heap.size w w') (h : w.cell? p = some u) : w'.cell? p = some u := (hb.cell (World.block_lt_of_cell? _ _ h)).trans h
theorem own_blk {w : World} {base : Nat} {a : Option Addr} {len cap : Nat} {zs : List Int} (h : Own w base a len cap zs) (k : Nat) (e : (Value.slice a len cap).ownBlock = some k) : base ≤ k := by
  cases a with
  | none => simp [Value.ownBlock] at e
  | some y => simp [Value.ownBlock] at e; have := (h.lt y rfl).1; omega
set_option maxHeartbeats 1000000 in
set_option maxRecDepth 20000 in
theorem grow_any (n : Nat) (w : World) (hn : n ≤ 1099511627776) :
    Calls Try.prog 93 #[.slice none 0 0, .int .i64 n] w fun e w' => ∃ a c, e = .returned (.slice a 0 c) ∧ Own w' w.heap.size a 0 c [] ∧ Below w.heap.size w w' := by
  obtain ⟨i0, hi, hz0, hz1, hz2⟩ := info_parts Try.infoU8
  by_cases h0 : n = 0
  · subst h0
    go_enter Try.func93, Try.ntmps93
    go_wp2
    go_ret
    exact ⟨none, 0, rfl, Own.nil _ _, Below.refl _ _⟩
  · have hrun := Lib.run_append_nil_zeros (P := Try.prog) w 22 3 22 5 i0 (.int .u8 0) .i64 .i64 Try.underlying22 Try.underlying3 hi hz0 n (by omega) (by omega) (by omega) (by rw [hz2]; omega)
    have hge := grownCap_ge w n 0 5
    have hle := grownCap_le_maxLen w n 0 5 (by unfold maxLen; omega)
    have hO : Own (w.drew.alloc (.cells (Builtin.zeroCells (Value.int .u8 0).cells n ++ Builtin.zeroCells (Value.int .u8 0).cells (grownCap w n 0 5 - n)) 5)) w.heap.size (some ⟨w.heap.size, 0, none⟩) 0 (grownCap w n 0 5) [] := by
      refine Own.of_block (cur := (Builtin.zeroCells (Value.int .u8 0).cells n ++ Builtin.zeroCells (Value.int .u8 0).cells (grownCap w n 0 5 - n)).toList) ?_ ?_ (by simp) (Nat.le_refl _) (Nat.zero_le _) hle b8_nil
      · rw [Array.toArray_toList]; exact heap_alloc_new w.drew _
      · rw [Array.length_toList, Array.size_append, size_zeroCells, size_zeroCells]; simp [Value.cells]; omega
    have O := Lib.hid hO
    have B := Lib.hid ((Below.refl w.heap.size w).drew.alloc (Nat.le_refl _) (.cells (Builtin.zeroCells (Value.int .u8 0).cells n ++ Builtin.zeroCells (Value.int .u8 0).cells (grownCap w n 0 5 - n)) 5))
    have R := Lib.hid hrun
    clear hO hrun
    generalize w.drew.alloc (.cells (Builtin.zeroCells (Value.int .u8 0).cells n ++ Builtin.zeroCells (Value.int .u8 0).cells (grownCap w n 0 5 - n)) 5) = w1 at *
    generalize grownCap w n 0 5 = c at *
    have hpos : 0 < n := by omega
    go_enter Try.func93, Try.ntmps93
    go_wp2_with (at_builtin; refine Lib.wpList_append_run _ rfl (.tmp 20) (.tmp 21) _ _ rfl _ _ rfl rfl _ _ R.out ?_)
    go_ret
    exact ⟨_, _, rfl, O.out, B.out⟩

set_option maxHeartbeats 2000000 in
theorem concat_any (g : Nat) (ss : List Sl) (w : World) (hs : Sls w g ss) (hn : ss.length ≤ 1000) (ht : sumN ss ≤ 1048576) :
    Calls Try.prog 55 #[.slice (some ⟨g, 0, none⟩) ss.length ss.length] w (FreshA w (catZ ss)) := by
  have HS := Lib.hid hs
  obtain ⟨n, hN⟩ : ∃ n, n = ss.length := ⟨_, rfl⟩
  rw [← hN] at hn ⊢
  have HN := Lib.hid hN
  have HT := Lib.hid ht
  have G := Lib.hid (fun (m : Nat) (hm : m ≤ 1048576) W => grow_any m W (by omega))
  clear hs hN ht
  go_enter Try.func55, Try.ntmps55
  go_wp2
  go_loopw [3, 11] (fun tot i wr => ∃ (k t : Nat), k ≤ n ∧ i = .int .i64 k ∧ tot = .int .i64 t ∧ t ≤ 1048576 ∧ Hid (t = sumN (ss.take k)) ∧ w = wr) (fun _ i _ => n - (intOf i).toNat)
  case atStart => exact ⟨0, 0, Nat.zero_le _, rfl, rfl, Nat.zero_le _, rfl, rfl⟩
  case round =>
    obtain ⟨k, t, hk, rfl, rfl, htb, hT, rfl⟩ := hrel
    by_cases hlt : k < n
    · obtain ⟨s, hsk⟩ : ∃ s, ss[k]? = some s := ⟨_, List.getElem?_eq_getElem (by rw [← HN.out]; exact hlt)⟩
      obtain ⟨hc, _⟩ := HS.out k s hsk
      have hT' : Hid (t + s.len = sumN (ss.take (k + 1))) := by rw [hT.out]; exact (sumN_take_succ ss k s hsk).symm
      have hb : t + s.len ≤ 1048576 := by have := sumN_take_le ss (k + 1); have := HT.out; have := hT'.out; omega
      clear hsk
      go_wp2
      go_roundw
      case rel => exact ⟨k + 1, t + s.len, by omega, by go_num, by go_num, hb, hT'.out, trivial⟩
      case measure => simp [intOf]; omega
    · obtain rfl : k = n := by omega
      go_wp2_with fail
      refine (G.out t htb _).mono ?_
      rintro e w1 ⟨a1, c1, rfl, o1, b1⟩
      have O1 := Lib.hid o1
      have B1 := Lib.hid b1
      clear o1 b1 hT
      go_wp2
      go_loopw [6, 27] (fun sl i wr => ∃ (j l c : Nat) (a : Option Addr), j ≤ k ∧ i = .int .i64 j ∧ sl = .slice a l c ∧ Hid (Own wr w.heap.size a l c (catZ (ss.take j))) ∧ Hid (l = sumN (ss.take j)) ∧ Hid (Below w.heap.size w wr)) (fun _ i _ => k - (intOf i).toNat)
      case atStart => exact ⟨0, 0, c1, a1, Nat.zero_le _, rfl, rfl, O1.out, rfl, B1.out⟩
      case round =>
        obtain ⟨j, l, c, a, hj, rfl, rfl, hO, hL, hB⟩ := hrel
        clear O1 B1
        by_cases hlt : j < k
        · obtain ⟨s, hsk⟩ : ∃ s, ss[j]? = some s := ⟨_, List.getElem?_eq_getElem (by rw [← HN.out]; exact hlt)⟩
          obtain ⟨hc0, hr0⟩ := HS.out j s hsk
          have hc := keepB' hB.out hc0
          have R := Lib.hid (hr0.below hB.out)
          have hL' : Hid (l + s.len = sumN (ss.take (j + 1))) := by rw [hL.out]; exact (sumN_take_succ ss j s hsk).symm
          have hZ : Hid (catZ (ss.take j) ++ s.zs = catZ (ss.take (j + 1))) := (catZ_take_succ ss j s hsk).symm
          have hb : l + s.len ≤ 1048576 := by have := sumN_take_le ss (j + 1); have := HT.out; have := hL'.out; omega
          clear hsk hc0 hr0
          go_wp2_with (at_builtin; refine append_bytes _ rfl (.tmp 31) (.tmp 32) rfl w.heap.size _ _ _ _ rfl hO.out _ _ _ _ rfl R.out hB.out.size (by omega) ?_; intro a2 c2 w2 o2 g2; have P2 := Lib.hid o2; have B2 := Lib.hid (hB.out.grown g2 hB.out.size (fun q e => own_blk hO.out q e)); clear o2 g2)
          go_roundw
          case rel => exact ⟨j + 1, l + s.len, c2, a2, by omega, by go_num, rfl, by rw [← hZ.out]; exact P2.out, hL'.out, B2.out⟩
          case measure => simp [intOf]; omega
        · obtain rfl : j = k := by omega
          go_wp2
          go_ret
          refine ⟨a, l, c, rfl, ?_, hB.out⟩
          have := hO.out
          rwa [List.take_of_length_le (by rw [← HN.out]; exact Nat.le_refl _)] at this
theorem sls_nil (w : World) (g : Nat) : Sls w g [] := by intro i s h; simp at h
theorem concat2 (g : Nat) (t : TypeId) (a0 a1 : Option Addr) (l0 c0 l1 c1 : Nat) (z0 z1 : List Int) (w : World) (hx : Box w g t #[.slice a0 l0 c0, .slice a1 l1 c1]) (h0 : Rd w a0 l0 c0 z0) (h1 : Rd w a1 l1 c1 z1) (hl : l0 + l1 ≤ 1048576) :
    Calls Try.prog 55 #[.slice (some ⟨g, 0, none⟩) 2 2] w (FreshA w (z0 ++ z1)) := by
  have := concat_any g [⟨a0, l0, c0, z0⟩, ⟨a1, l1, c1, z1⟩] w (by
    intro i s h
    match i with
    | 0 => simp at h; subst h; exact ⟨hx.cell 0, h0⟩
    | 1 => simp at h; subst h; exact ⟨hx.cell 1, h1⟩
    | k + 2 => simp at h) (by simp) (by simp [sumN]; omega)
  simpa [catZ] using this
theorem concat3 (g : Nat) (t : TypeId) (a0 a1 a2 : Option Addr) (l0 c0 l1 c1 l2 c2 : Nat) (z0 z1 z2 : List Int) (w : World) (hx : Box w g t #[.slice a0 l0 c0, .slice a1 l1 c1, .slice a2 l2 c2]) (h0 : Rd w a0 l0 c0 z0) (h1 : Rd w a1 l1 c1 z1) (h2 : Rd w a2 l2 c2 z2) (hl : l0 + l1 + l2 ≤ 1048576) :
    Calls Try.prog 55 #[.slice (some ⟨g, 0, none⟩) 3 3] w (FreshA w (z0 ++ (z1 ++ z2))) := by
  have := concat_any g [⟨a0, l0, c0, z0⟩, ⟨a1, l1, c1, z1⟩, ⟨a2, l2, c2, z2⟩] w (by
    intro i s h
    match i with
    | 0 => simp at h; subst h; exact ⟨hx.cell 0, h0⟩
    | 1 => simp at h; subst h; exact ⟨hx.cell 1, h1⟩
    | 2 => simp at h; subst h; exact ⟨hx.cell 2, h2⟩
    | k + 3 => simp at h) (by simp) (by simp [sumN]; omega)
  simpa [catZ] using this
theorem concat4 (g : Nat) (t : TypeId) (a0 a1 a2 a3 : Option Addr) (l0 c0 l1 c1 l2 c2 l3 c3 : Nat) (z0 z1 z2 z3 : List Int) (w : World) (hx : Box w g t #[.slice a0 l0 c0, .slice a1 l1 c1, .slice a2 l2 c2, .slice a3 l3 c3]) (h0 : Rd w a0 l0 c0 z0) (h1 : Rd w a1 l1 c1 z1) (h2 : Rd w a2 l2 c2 z2) (h3 : Rd w a3 l3 c3 z3) (hl : l0 + l1 + l2 + l3 ≤ 1048576) :
    Calls Try.prog 55 #[.slice (some ⟨g, 0, none⟩) 4 4] w (FreshA w (z0 ++ (z1 ++ (z2 ++ z3)))) := by
  have := concat_any g [⟨a0, l0, c0, z0⟩, ⟨a1, l1, c1, z1⟩, ⟨a2, l2, c2, z2⟩, ⟨a3, l3, c3, z3⟩] w (by
    intro i s h
    match i with
    | 0 => simp at h; subst h; exact ⟨hx.cell 0, h0⟩
    | 1 => simp at h; subst h; exact ⟨hx.cell 1, h1⟩
    | 2 => simp at h; subst h; exact ⟨hx.cell 2, h2⟩
    | 3 => simp at h; subst h; exact ⟨hx.cell 3, h3⟩
    | k + 4 => simp at h) (by simp) (by simp [sumN]; omega)
  simpa [catZ] using this
/-- a part of a block of cells that reads as bytes -/
theorem Rd.of_box {w : World} {b off len : Nat} {t : TypeId} {vs : Array Value} {zs : List Int} (hx : Box w b t vs) (hl : zs.length = len) (hm : len ≤ maxLen) (h8 : B8 zs) (hc : ∀ i, i < len → vs[off + i]? = some (.int .u8 (zs.getD i 0))) : Rd w (some ⟨b, off, none⟩) len len zs :=
  ⟨hl, Nat.le_refl _, hm, h8, by simp, .inr ⟨b, off, rfl, fun i hi => (hx.cell (off + i)).trans (hc i hi)⟩⟩
end Go.Proofs.Yteaiemckcepphaa

namespace Go.Proofs.Yteaiemckcepphaa
open Go.ChangeShapes Go.WideShapes Go.ChangeAt Go.RowKit

set_option maxHeartbeats 400000 in
theorem heldByteS_any (a : Option Addr) (len cap k0 : Nat) (w : World) (h : Rd w a len cap (marks k0 len)) (hl : len ≤ 2097152) (hk0 : k0 ≤ 1000000000) :
    Calls Try.prog 90 #[.slice a len cap, .int .i64 k0] w fun e w' => e = .returned (.int .i64 (k0 + len : Nat)) ∧ w = w' := by
  go_enter Try.func90, Try.ntmps90
  go_wp2
  go_loopw [1, 5] (fun kk i wr => ∃ j : Nat, j ≤ len ∧ i = .int .i64 j ∧ kk = .int .i64 (k0 + j : Nat) ∧ w = wr) (fun _ i _ => len - (intOf i).toNat)
  case atStart => exact ⟨0, Nat.zero_le _, rfl, rfl, rfl⟩
  case round =>
    obtain ⟨j, hj, rfl, rfl, rfl⟩ := hrel
    by_cases hlt : j < len
    · rcases h.cells with h0 | ⟨b, off, rfl, hc⟩
      · omega
      have hcj := hc j hlt
      rw [marks_getD k0 len j hlt] at hcj
      clear hc h
      go_wp2
      go_roundw
      case rel => exact ⟨j + 1, by omega, by go_num, by go_num, by trivial⟩
      case measure => simp [intOf]; omega
    · obtain rfl : j = len := by omega
      go_wp2
      go_ret
      exact ⟨by go_num, rfl⟩

theorem eqBytes_any (c d : Int) (a b : Option Addr) (la ca lb cb : Nat) (za zb : List Int) (w : World) (ha : Rd w a la ca za) (hb : Rd w b lb cb zb) (hcd : c = d) (hz : za = zb) :
    Calls Try.prog 39 #[.agg #[.int .i64 c, .slice a la ca], .agg #[.int .i64 d, .slice b lb cb]] w fun e w' => e = .returned (.bool true) ∧ Below w.heap.size w w' := by
  subst hcd
  subst hz
  have hq : eqL za za = true := decide_eq_true rfl
  have K := Lib.hid (fun W (hW : Below w.heap.size w W) => eqByteS_any a b la ca lb cb za za W (ha.below hW) (hb.below hW))
  rw [hq] at K
  go_enter Try.func39, Try.ntmps39
  go_wp2_with fail
  refine (K.out _ (((Below.refl _ _).alloc (Nat.le_refl _) _).alloc (by simp) _)).mono ?_
  rintro e w1 ⟨rfl, hb1⟩
  go_wp2
  go_ret
  exact ⟨rfl, (((Below.refl _ _).alloc (Nat.le_refl _) _).alloc (by simp) _).trans (hb1.mono (by simp; omega))⟩

theorem grown_alloc {w : World} (o : Obj) (row : Option Nat) : w.grownBy (w.alloc o) row := World.grownBy_alloc w o row

theorem markBytes_any (c : Int) (a : Option Addr) (len cap base k0 : Nat) (zs : List Int) (w : World) (h : Own w base a len cap zs) (hl : len ≤ 2097152) (hk0 : k0 ≤ 1000000000) :
    Calls Try.prog 41 #[.agg #[.int .i64 c, .slice a len cap], .int .i64 k0] w fun e w' => e = .returned (.int .i64 (k0 + len : Nat)) ∧ Own w' base a len cap (marks k0 len) ∧ w.grownBy w' ((Value.slice a len cap).ownBlock) := by
  have K := Lib.hid (fun o => markByteS_any a len cap base k0 zs (w.alloc o) (h.alloc o) hl hk0)
  go_enter Try.func41, Try.ntmps41
  go_wp2_with fail
  refine (K.out _).mono ?_
  rintro e w1 ⟨rfl, ho, hg⟩
  go_wp2
  go_ret
  exact ⟨rfl, ho, grown_trans (grown_alloc _ _) hg⟩

theorem heldBytes_any (c : Int) (a : Option Addr) (len cap k0 : Nat) (w : World) (h : Rd w a len cap (marks k0 len)) (hl : len ≤ 2097152) (hk0 : k0 ≤ 1000000000) :
    Calls Try.prog 42 #[.agg #[.int .i64 c, .slice a len cap], .int .i64 k0] w fun e w' => e = .returned (.int .i64 (k0 + len : Nat)) ∧ Below w.heap.size w w' := by
  have K := Lib.hid (fun o => heldByteS_any a len cap k0 (w.alloc o) (h.alloc o) hl hk0)
  go_enter Try.func42, Try.ntmps42
  go_wp2_with fail
  refine (K.out _).mono ?_
  rintro e w1 ⟨rfl, rfl⟩
  have hn : ¬ ((k0 + len : Nat) : Int) < 0 := by omega
  go_wp2
  go_ret
  exact ⟨rfl, (Below.refl _ _).alloc (Nat.le_refl _) _⟩
end Go.Proofs.Yteaiemckcepphaa

namespace Go.Proofs.Yteaiemckcepphaa
open Go.ChangeShapes Go.WideShapes Go.ChangeAt Go.RowKit

/-- a number in k bytes, the highest one first -/
def be (n : Int) : Nat → List Int
  | 0 => []
  | k + 1 => be (n / 256) k ++ [n % 256]
theorem be_len : ∀ (k : Nat) (n : Int), (be n k).length = k
  | 0, _ => rfl
  | k + 1, n => by simp [be, be_len k]
theorem b8_be : ∀ (k : Nat) (n : Int), B8 (be n k)
  | 0, _ => b8_nil
  | k + 1, n => by
    unfold be
    refine b8_app (b8_be k _) ?_
    intro x hx
    simp only [List.mem_singleton] at hx
    subst hx
    omega
def pwOk (n size : Int) : Bool := inB size 1 6 && decide (0 ≤ n) && decide (n < 256 ^ size.toNat)
def pwC (n size : Int) : Int := if pwOk n size then 0 else 3
def pwB (n size : Int) : List Int := if pwOk n size then be n size.toNat else []

theorem isWord_any (s : Int) (w : World) : Calls Try.prog 97 #[.int .i64 s] w fun e w' => e = .returned (.bool (inB s 1 6)) ∧ w = w' := by
  by_cases h1 : 1 ≤ s
  · by_cases h2 : s ≤ 6
    · have H := Lib.hid (in_t ⟨h1, h2⟩)
      go_enter Try.func97, Try.ntmps97
      go_wp2
      go_ret
      exact ⟨ret_b H.out.symm, rfl⟩
    · have H := Lib.hid (in_f (v := s) (a := 1) (b := 6) (by omega))
      go_enter Try.func97, Try.ntmps97
      go_wp2
      go_ret
      exact ⟨ret_b H.out.symm, rfl⟩
  · have H := Lib.hid (in_f (v := s) (a := 1) (b := 6) (by omega))
    go_enter Try.func97, Try.ntmps97
    go_wp2
    go_ret
    exact ⟨ret_b H.out.symm, rfl⟩

/-- what PackWord leaves: the code, the bytes in an array of its own -/
def Packed (w : World) (c : Int) (zs : List Int) (e : Ending) (w' : World) : Prop :=
  ∃ a len cap, e = .returned (.agg #[.int .i64 c, .slice a len cap]) ∧ Own w' w.heap.size a len cap zs ∧ Below w.heap.size w w'

theorem be_step (m : Int) (r : Nat) (tail : List Int) : be m (r + 1) ++ tail = be (m / 256) r ++ (m % 256 :: tail) := by simp [be]
theorem rep_set (r : Nat) (x : Int) (tail : List Int) : (List.replicate (r + 1) 0 ++ tail).set r x = List.replicate r 0 ++ (x :: tail) := by
  rw [List.replicate_succ', List.append_assoc, List.set_append_right _ _ (by simp)]
  simp

/-- the struct of the result, made first, behind what was done to another block -/
theorem res_cells {w W0 wr : World} {x y : Value} {t : TypeId} {row : Option Nat} (H0 : W0 = w.alloc (.cells #[x, y] t)) (hg : W0.grownBy wr row) (hne : row ≠ some w.heap.size) :
    w.heap.size < wr.heap.size ∧ wr.cell? ⟨w.heap.size, 0, none⟩ = some x ∧ wr.cell? ⟨w.heap.size, 1, none⟩ = some y ∧ wr.frozen? ⟨w.heap.size, 0, none⟩ = false ∧ wr.frozen? ⟨w.heap.size, 1, none⟩ = false := by
  subst H0
  have hz := hg.size
  simp only [World.size_alloc] at hz
  have hb := hg.block w.heap.size (by simp) (fun e => hne e.symm)
  exact ⟨by omega, (World.cell?_of_block (a := ⟨w.heap.size, 0, none⟩) hb).trans (by simp), (World.cell?_of_block (a := ⟨w.heap.size, 1, none⟩) hb).trans (by simp),
    (World.frozen?_of_block (a := ⟨w.heap.size, 0, none⟩) hb).trans (by simp), (World.frozen?_of_block (a := ⟨w.heap.size, 1, none⟩) hb).trans (by simp)⟩
theorem below_res {w W0 wr : World} {o : Obj} {row : Option Nat} (H0 : W0 = w.alloc o) (hg : W0.grownBy wr row) (hr : ∀ k, row = some k → w.heap.size ≤ k) : Below w.heap.size w wr := by
  subst H0
  exact ((Below.refl _ _).alloc (Nat.le_refl _) _).grown hg (by simp) hr

theorem grown_setCell (w : World) (a : Addr) (u : Value) : w.grownBy (w.setCell a u) (some a.block) :=
  ⟨rfl, rfl, rfl, by simp, fun k _ hk => heap_setCell_other w a k u (fun e => hk (by simp [e]))⟩
theorem Own.setOther {w : World} {base : Nat} {a : Option Addr} {len cap : Nat} {zs : List Int} (h : Own w base a len cap zs) (p : Addr) (u : Value) (hne : ∀ x, a = some x → x.block ≠ p.block) : Own (w.setCell p u) base a len cap zs :=
  h.grown (grown_setCell w p u) (fun x hx e => hne x hx (by simpa using e))
theorem pow_le6 (S : Nat) (h1 : 1 ≤ S) (h2 : S ≤ 6) : (256 : Int) ^ S ≤ 281474976710656 := by
  obtain rfl | rfl | rfl | rfl | rfl | rfl : S = 1 ∨ S = 2 ∨ S = 3 ∨ S = 4 ∨ S = 5 ∨ S = 6 := by omega
  all_goals decide +kernel

theorem pow_wrap (S : Nat) (h1 : 1 ≤ S) (h2 : S ≤ 6) : wrap64 (2 ^ (8 * S)) = (256 : Int) ^ S := by
  obtain rfl | rfl | rfl | rfl | rfl | rfl : S = 1 ∨ S = 2 ∨ S = 3 ∨ S = 4 ∨ S = 5 ∨ S = 6 := by omega
  all_goals decide +kernel

set_option maxHeartbeats 1000000 in
theorem implPack_ok (n : Int) (S : Nat) (w : World) (h0 : 0 ≤ n) (hS : 1 ≤ S ∧ S ≤ 6) (hn : n < 256 ^ S) :
    Calls Try.prog 59 #[.int .i64 n, .int .i64 S] w (Packed w 0 (be n S)) := by
  obtain ⟨i0, hi, hz0, hz1, hz2⟩ := info_parts Try.infoU8
  have hin : inB S 1 6 = true := in_t (by omega)
  have e1 : decide (n < 0) = false := decide_eq_false (by omega)
  obtain ⟨hS1, hS2⟩ := hS
  have e2 : decide (wrap64 (2 ^ (8 * S)) ≤ n) = false := decide_eq_false (by rw [pow_wrap S hS1 hS2]; omega)
  have hn6 : n < 281474976710656 := by have := pow_le6 S hS1 hS2; omega
  clear hn
  obtain ⟨W0, hW0⟩ : ∃ W0, W0 = w.alloc (.cells #[.int .i64 0, .slice none 0 0] 29) := ⟨_, rfl⟩
  have H0 := Lib.hid hW0
  clear hW0
  go_enter Try.func59, Try.ntmps59
  go_wp2_with (first | (go_at_call 97; refine (isWord_any _ _).mono ?_; rintro e w' ⟨rfl, rfl⟩) | (at_make; refine wpList_make_full _ rfl (.tmp 22) (.tmp 22) 22 rfl w.heap.size 5 i0 (.int .u8 0) 1 Try.underlying22 hi hz0 hz1 .i64 .i64 S S S rfl rfl rfl rfl (by rw [hz2]; omega) (by unfold maxLen; omega) (by simp) ?_; intro w1 hown hgrow))
  rw [← H0.out] at hgrow hown
  have hsz : W0.heap.size = w.heap.size + 1 := by rw [H0.out]; simp
  rw [hsz] at hown
  have hO : Own w1 w.heap.size (some ⟨w.heap.size + 1, 0, none⟩) S S (List.replicate S 0 ++ []) := ⟨by have := hown; simp only [Nat.mul_one, Value.cells, toList_madeCells_one] at this; simpa using this, b8_app (b8_rep _) b8_nil⟩
  have hg := Lib.hid hgrow
  have HS := Lib.hid hsz
  clear hown hgrow hsz
  go_loopw [0, 6] (fun nn at' wr => ∃ (r : Nat) (m : Int) (tail : List Int), r ≤ S ∧ at' = .int .i64 (r - 1 : Int) ∧ nn = .int .i64 m ∧ 0 ≤ m ∧ m ≤ n ∧ Hid (be n S = be m r ++ tail) ∧ B8 tail ∧ Own wr w.heap.size (some ⟨w.heap.size + 1, 0, none⟩) S S (List.replicate r 0 ++ tail) ∧ W0.grownBy wr (some (w.heap.size + 1))) (fun _ at' _ => (intOf at' + 1).toNat)
  case atStart => exact ⟨S, n, [], Nat.le_refl _, rfl, rfl, h0, Int.le_refl _, (List.append_nil _).symm, b8_nil, hO, grown_none hg.out⟩
  case round =>
    obtain ⟨r, m, tail, hr, rfl, rfl, hm0, hmn, hbe, htl, hown, hgr⟩ := hrel
    cases r with
    | zero =>
      obtain ⟨hz, c0, c1, f0, f1⟩ := res_cells H0.out hgr (by simp)
      have hB := below_res H0.out hgr (fun k e => by cases e; omega)
      have HB := Lib.hid hbe.out
      clear hO hbe
      go_wp2
      refine bodyPost_ret (v := .agg #[.int .i64 0, .slice (some ⟨w.heap.size + 1, 0, none⟩) S S]) (by simp [results, Try.results59, go_sem, c0, c1]) rfl ⟨_, _, _, rfl, ?_, (hB.setCell (Nat.le_refl _) _).setCell (Nat.le_refl _) _⟩
      have hz : be n S = List.replicate 0 0 ++ tail := HB.out
      rw [hz]
      exact (hown.setOther _ _ (by rintro x hx; cases hx; simp)).setOther _ _ (by rintro x hx; cases hx; simp)
    | succ r =>
      have hc := hown.cellAt r (by omega)
      have hf := hown.frozenAt r
      have R := Lib.hid (hown.set r (m % 256) (by omega))
      clear hown hO
      go_wp2
      go_roundw
      case rel => exact ⟨r, m / 256, m % 256 :: tail, by omega, by go_num, by go_num, by omega, by omega, by rw [hbe.out]; exact be_step m r tail, b8_app (a := [m % 256]) (by intro x hx; simp only [List.mem_singleton] at hx; subst hx; omega) htl, by rw [← rep_set]; exact R.out.1, grown_trans hgr R.out.2⟩
      case measure => simp [intOf]

theorem packed_no {w : World} {o : Obj} {e : Ending} (he : e = .returned (.agg #[.int .i64 3, .slice none 0 0])) : Packed w 3 [] e (w.alloc o) :=
  ⟨none, 0, 0, he, Own.nil _ _, (Below.refl _ _).alloc (Nat.le_refl _) _⟩

set_option maxHeartbeats 1000000 in
theorem implPack_no (n s : Int) (w : World) (h : pwOk n s = false) :
    Calls Try.prog 59 #[.int .i64 n, .int .i64 s] w (Packed w 3 []) := by
  by_cases h1 : 1 ≤ s ∧ s ≤ 6
  · have hi := in_t h1
    obtain ⟨S, rfl⟩ := Int.eq_ofNat_of_zero_le (show 0 ≤ s by omega)
    by_cases h2 : 0 ≤ n
    · have h3 : ¬ n < 256 ^ S := by
        intro h3
        simp [pwOk, hi, h2, h3] at h
      have e1 : decide (n < 0) = false := decide_eq_false (by omega)
      have e2 : decide (wrap64 (2 ^ (8 * S)) ≤ n) = true := decide_eq_true (by rw [pow_wrap S (by omega) (by omega)]; omega)
      obtain ⟨hS1, hS2⟩ := h1
      clear h h3
      go_enter Try.func59, Try.ntmps59
      go_wp2_with (first | (go_at_call 97; refine (isWord_any _ _).mono ?_; rintro e w' ⟨rfl, rfl⟩))
      all_goals exact bodyPost_ret (v := .agg #[.int .i64 3, .slice none 0 0]) (by simp [results, Try.results59, go_sem]) rfl (packed_no rfl)
    · have e1 : decide (n < 0) = true := decide_eq_true (by omega)
      clear h h1 h2
      go_enter Try.func59, Try.ntmps59
      go_wp2_with (first | (go_at_call 97; refine (isWord_any _ _).mono ?_; rintro e w' ⟨rfl, rfl⟩))
      all_goals exact bodyPost_ret (v := .agg #[.int .i64 3, .slice none 0 0]) (by simp [results, Try.results59, go_sem]) rfl (packed_no rfl)
  · have hi := in_f h1
    clear h h1
    go_enter Try.func59, Try.ntmps59
    go_wp2_with (first | (go_at_call 97; refine (isWord_any _ _).mono ?_; rintro e w' ⟨rfl, rfl⟩))
    all_goals exact bodyPost_ret (v := .agg #[.int .i64 3, .slice none 0 0]) (by simp [results, Try.results59, go_sem]) rfl (packed_no rfl)

theorem pwOk_parts {n s : Int} (h : pwOk n s = true) : ∃ S : Nat, s = S ∧ 1 ≤ S ∧ S ≤ 6 ∧ 0 ≤ n ∧ n < 256 ^ S := by
  simp only [pwOk, inB, Bool.and_eq_true, decide_eq_true_eq] at h
  obtain ⟨S, rfl⟩ := Int.eq_ofNat_of_zero_le (show 0 ≤ s by omega)
  exact ⟨S, rfl, by omega, by omega, h.1.2, by simpa using h.2⟩

theorem implPack (n s : Int) (w : World) : Calls Try.prog 59 #[.int .i64 n, .int .i64 s] w (Packed w (pwC n s) (pwB n s)) := by
  cases h : pwOk n s with
  | true =>
    simp only [pwC, pwB, h, if_true]
    obtain ⟨S, rfl, h1, h2, h3, h4⟩ := pwOk_parts h
    exact implPack_ok n S w h3 ⟨h1, h2⟩ h4
  | false =>
    simp only [pwC, pwB, h, Bool.false_eq_true, if_false]
    exact implPack_no n s w h

set_option maxHeartbeats 1000000 in
theorem l1Pack_any (n : Int) (S : Nat) (w : World) (h0 : 0 ≤ n) (hS2 : S ≤ 1000) (hn6 : n < 281474976710656) :
    Calls Try.prog 99 #[.int .i64 n, .int .i64 S] w fun e w' => e = .returned (.slice (some ⟨w.heap.size, 0, none⟩) S S) ∧ Own w' w.heap.size (some ⟨w.heap.size, 0, none⟩) S S (be n S) ∧ Below w.heap.size w w' := by
  obtain ⟨i0, hi, hz0, hz1, hz2⟩ := info_parts Try.infoU8
  go_enter Try.func99, Try.ntmps99
  go_wp2_with (at_make; refine wpList_make_full _ rfl (.tmp 7) (.tmp 7) 22 rfl w.heap.size 5 i0 (.int .u8 0) 1 Try.underlying22 hi hz0 hz1 .i64 .i64 S S S rfl rfl rfl rfl (by rw [hz2]; omega) (by unfold maxLen; omega) (Nat.le_refl _) ?_; intro w1 hown hgrow)
  have hO : Own w1 w.heap.size (some ⟨w.heap.size, 0, none⟩) S S (List.replicate S 0 ++ []) := ⟨by have := hown; simp only [Nat.mul_one, Value.cells, toList_madeCells_one] at this; simpa using this, b8_app (b8_rep _) b8_nil⟩
  have hg := Lib.hid hgrow
  clear hown hgrow
  go_loopw [0, 6] (fun nn at' wr => ∃ (r : Nat) (m : Int) (tail : List Int), r ≤ S ∧ at' = .int .i64 (r - 1 : Int) ∧ nn = .int .i64 m ∧ 0 ≤ m ∧ m ≤ n ∧ Hid (be n S = be m r ++ tail) ∧ B8 tail ∧ Own wr w.heap.size (some ⟨w.heap.size, 0, none⟩) S S (List.replicate r 0 ++ tail) ∧ w.grownBy wr (some w.heap.size)) (fun _ at' _ => (intOf at' + 1).toNat)
  case atStart => exact ⟨S, n, [], Nat.le_refl _, rfl, rfl, h0, Int.le_refl _, (List.append_nil _).symm, b8_nil, hO, grown_none hg.out⟩
  case round =>
    obtain ⟨r, m, tail, hr, rfl, rfl, hm0, hmn, hbe, htl, hown, hgr⟩ := hrel
    cases r with
    | zero =>
      have HB := Lib.hid hbe.out
      clear hO hbe
      go_wp2
      go_ret
      have hz : be n S = List.replicate 0 0 ++ tail := HB.out
      refine ⟨rfl, ?_, below_of_grown hgr (Nat.le_refl _) (fun k e => by cases e; exact Nat.le_refl _)⟩
      rw [hz]
      exact hown
    | succ r =>
      have hc := hown.cellAt r (by omega)
      have hf := hown.frozenAt r
      have R := Lib.hid (hown.set r (m % 256) (by omega))
      clear hown hO
      go_wp2
      go_roundw
      case rel => exact ⟨r, m / 256, m % 256 :: tail, by omega, by go_num, by go_num, by omega, by omega, by rw [hbe.out]; exact be_step m r tail, b8_app (a := [m % 256]) (by intro x hx; simp only [List.mem_singleton] at hx; subst hx; omega) htl, by rw [← rep_set]; exact R.out.1, grown_trans hgr R.out.2⟩
      case measure => simp [intOf]

theorem div_pow (n : Int) (k : Nat) : n / 256 ^ k / 256 = n / 256 ^ (k + 1) := by
  rw [Int.ediv_ediv_of_nonneg (by exact Int.pow_nonneg (by omega)), Int.pow_succ]
theorem div_zero_iff (n : Int) (k : Nat) (h : 0 ≤ n) : n / 256 ^ k = 0 ↔ n < 256 ^ k := by
  have hp : (0 : Int) < 256 ^ k := Int.pow_pos (by omega)
  constructor
  · intro e
    have := Int.lt_ediv_add_one_mul_self n hp
    rw [e] at this
    omega
  · intro e
    exact Int.ediv_eq_zero_of_lt h e
theorem div_le (n : Int) (k : Nat) (h : 0 ≤ n) : 0 ≤ n / 256 ^ k ∧ n / 256 ^ k ≤ n := by
  have hp : (0 : Int) < 256 ^ k := Int.pow_pos (by omega)
  exact ⟨Int.ediv_nonneg h (by omega), Int.ediv_le_self _ h⟩

theorem i64_hi {n : Int} (h : (Lit.int .i64 n).wf = true) : n ≤ 9223372036854775807 := (bounds_i64 h).2
theorem wrap_div (m : Int) (h0 : 0 ≤ m) (h1 : m ≤ 9223372036854775807) : wrap64 (m.tdiv 256) = m / 256 := by
  rw [Int.tdiv_eq_ediv_of_nonneg h0]
  exact IntWalk.wrap64_in (m / 256) (by omega)
theorem Own.rebase {w : World} {base base' : Nat} {a : Option Addr} {len cap : Nat} {zs : List Int} (h : Own w base a len cap zs) (hb : base' ≤ base) : Own w base' a len cap zs := by
  refine ⟨⟨h.row.1, ?_⟩, h.b8⟩
  rcases h.row.2 with h' | ⟨g, c, cur, h1, h2, h3⟩
  · exact .inl h'
  · exact .inr ⟨g, c, cur, h1, Nat.le_trans hb h2, h3⟩

end Go.Proofs.Yteaiemckcepphaa

namespace Go.Proofs.Yteaiemckcepphaa
open Go.ChangeShapes Go.WideShapes Go.ChangeAt Go.RowKit

/-- the number of k bytes from a place on -/
def rdTo (zs : List Int) (at' : Nat) : Nat → Int
  | 0 => 0
  | k + 1 => rdTo zs at' k * 256 + zs.getD (at' + k) 0
theorem rdTo_bd (zs : List Int) (at' : Nat) (h : B8 zs) : ∀ k, 0 ≤ rdTo zs at' k ∧ rdTo zs at' k < 256 ^ k
  | 0 => by simp [rdTo]
  | k + 1 => by
    have ih := rdTo_bd zs at' h k
    have hb := b8_getD h (at' + k)
    simp only [rdTo, Int.pow_succ]
    omega
theorem rdTo_5 (zs : List Int) (at' : Nat) (h : B8 zs) (k : Nat) (hk : k ≤ 5) : 0 ≤ rdTo zs at' k ∧ rdTo zs at' k < 1099511627776 := by
  have := rdTo_bd zs at' h k
  obtain rfl | rfl | rfl | rfl | rfl | rfl : k = 0 ∨ k = 1 ∨ k = 2 ∨ k = 3 ∨ k = 4 ∨ k = 5 := by omega
  all_goals (simp only [Int.reducePow] at this; omega)
def rwOk (len at' size : Int) : Bool := inB size 1 6 && decide (0 ≤ at' ∧ at' ≤ len - size)
def rwC (zs : List Int) (at' size : Int) : Int := if rwOk zs.length at' size then 0 else 3
def rwV (zs : List Int) (at' size : Int) : Int := if rwOk zs.length at' size then rdTo zs at'.toNat size.toNat else 0

def hasB (len at' size : Int) : Bool := decide (0 ≤ at' ∧ at' ≤ len - size)
theorem has_t {len at' size : Int} (h : 0 ≤ at' ∧ at' ≤ len - size) : hasB len at' size = true := decide_eq_true h
theorem has_f {len at' size : Int} (h : ¬ (0 ≤ at' ∧ at' ≤ len - size)) : hasB len at' size = false := decide_eq_false h

theorem hasBytes_any (a : Option Addr) (len cap : Nat) (at' size : Int) (w : World) (hl : len ≤ maxLen) (h1 : 0 ≤ size) (h2 : size ≤ 1000000) :
    Calls Try.prog 111 #[.slice a len cap, .int .i64 at', .int .i64 size] w fun e w' => e = .returned (.bool (hasB len at' size)) ∧ w = w' := by
  unfold maxLen at hl
  by_cases ha : 0 ≤ at'
  · by_cases hb : at' ≤ len - size
    · have H := Lib.hid (has_t ⟨ha, hb⟩)
      go_enter Try.func111, Try.ntmps111
      go_wp2
      go_ret
      exact ⟨ret_b H.out.symm, rfl⟩
    · have H := Lib.hid (has_f (len := len) (at' := at') (size := size) (by omega))
      have hd : decide (at' ≤ len - size) = false := decide_eq_false hb
      clear hb
      go_enter Try.func111, Try.ntmps111
      go_wp2
      go_ret
      exact ⟨ret_b H.out.symm, rfl⟩
  · have H := Lib.hid (has_f (len := len) (at' := at') (size := size) (by omega))
    go_enter Try.func111, Try.ntmps111
    go_wp2
    go_ret
    exact ⟨ret_b H.out.symm, rfl⟩

set_option maxHeartbeats 1000000 in
theorem implRead_ok (a : Option Addr) (len cap A S : Nat) (zs : List Int) (w : World) (h : Rd w a len cap zs) (hS1 : 1 ≤ S) (hS2 : S ≤ 6) (hA : A + S ≤ len) :
    Calls Try.prog 101 #[.slice a len cap, .int .i64 A, .int .i64 S] w fun e w' => e = .returned (ir 0 (rdTo zs A S)) ∧ Below w.heap.size w w' := by
  have hle := h.le
  have hmx := h.max
  have hml : len ≤ maxLen := Nat.le_trans hle hmx
  unfold maxLen at hmx
  rcases h.cells with h0 | ⟨b, off, rfl, hc⟩
  · omega
  have hin : inB S 1 6 = true := in_t (by omega)
  have hhs : hasB len A S = true := has_t (by omega)
  obtain ⟨W0, hW0⟩ : ∃ W0, W0 = w.alloc (.cells #[.int .i64 0, .int .i64 0] 46) := ⟨_, rfl⟩
  have hc' : ∀ i, i < len → W0.cell? ⟨b, off + i, none⟩ = some (.int .u8 (zs.getD i 0)) := fun i hi => by
    rw [hW0, World.cell?_alloc_past _ _ _ (World.block_lt_of_cell? _ _ (hc i hi))]; exact hc i hi
  have HC := Lib.hid hc'
  have h8 := Lib.hid h.b8
  have HW := Lib.hid hW0
  clear hc hc' h hW0
  go_enter Try.func101, Try.ntmps101
  go_wp2_with (first | (go_at_call 97; refine (isWord_any _ _).mono ?_; rintro e w' ⟨rfl, rfl⟩) | (go_at_call 111; refine (hasBytes_any _ _ _ _ _ _ hml (by omega) (by omega)).mono ?_; rintro e w' ⟨rfl, rfl⟩))
  go_loopw [7, 28] (fun n i wr => ∃ (k : Nat) (m : Int), k ≤ S ∧ i = .int .i64 k ∧ n = .int .i64 m ∧ Hid (m = rdTo zs A k) ∧ Hid (W0 = wr)) (fun _ i _ => S - (intOf i).toNat)
  case atStart => exact ⟨0, 0, Nat.zero_le _, rfl, rfl, rfl, HW.out⟩
  case round =>
    obtain ⟨k, m, hk, rfl, rfl, hm, hW⟩ := hrel
    obtain rfl : W0 = wr := hW.out
    by_cases hlt : k < S
    · have hck := HC.out (A + k) (by omega)
      have hbd := b8_getD h8.out (A + k)
      have hmb : 0 ≤ m ∧ m < 1099511627776 := by rw [hm.out]; exact rdTo_5 zs A h8.out k (by omega)
      have hst : Hid (m * 256 + zs.getD (A + k) 0 = rdTo zs A (k + 1)) := by rw [hm.out]; rfl
      clear hW hm
      generalize zs.getD (A + k) 0 = x at *
      rw [← Nat.add_assoc] at hck
      go_wp2
      go_roundw
      case rel => exact ⟨k + 1, m * 256 + x, by omega, by go_num, by go_num, hst.out, trivial⟩
      case measure => simp [intOf]; omega
    · obtain rfl : k = S := by omega
      clear hW
      obtain ⟨hz, c0, c1, f0, f1⟩ := res_cells HW.out (World.grownBy.refl W0 none) (by simp)
      have hB := below_res HW.out (World.grownBy.refl W0 none) (by simp)
      go_wp2
      refine bodyPost_ret (v := .agg #[.int .i64 0, .int .i64 m]) (by simp [results, Try.results101, go_sem, c0, c1]) rfl ⟨ret_ir rfl hm.out, (hB.setCell (Nat.le_refl _) _).setCell (Nat.le_refl _) _⟩

set_option maxHeartbeats 1000000 in
theorem implRead (a : Option Addr) (len cap : Nat) (at' size : Int) (zs : List Int) (w : World) (h : Rd w a len cap zs) :
    Calls Try.prog 101 #[.slice a len cap, .int .i64 at', .int .i64 size] w fun e w' => e = .returned (ir (rwC zs at' size) (rwV zs at' size)) ∧ Below w.heap.size w w' := by
  cases hk : rwOk len at' size with
  | true =>
    have H := hk
    simp only [rwOk, inB, Bool.and_eq_true, decide_eq_true_eq] at hk
    obtain ⟨S, rfl⟩ := Int.eq_ofNat_of_zero_le (show 0 ≤ size by omega)
    obtain ⟨A, rfl⟩ := Int.eq_ofNat_of_zero_le (show 0 ≤ at' by omega)
    simp only [rwC, rwV, h.length, H, if_true, Int.toNat_natCast]
    exact implRead_ok a len cap A S zs w h (by omega) (by omega) (by omega)
  | false =>
    have hml : len ≤ maxLen := Nat.le_trans h.le h.max
    simp only [rwC, rwV, h.length, hk, Bool.false_eq_true, if_false]
    by_cases h1 : 1 ≤ size ∧ size ≤ 6
    · have hi := in_t h1
      have hh : hasB len at' size = false := by
        simp only [rwOk, hi, Bool.true_and] at hk
        exact hk
      clear hk h
      go_enter Try.func101, Try.ntmps101
      go_wp2_with (first | (go_at_call 97; refine (isWord_any _ _).mono ?_; rintro e w' ⟨rfl, rfl⟩) | (go_at_call 111; refine (hasBytes_any _ _ _ _ _ _ hml (by omega) (by omega)).mono ?_; rintro e w' ⟨rfl, rfl⟩))
      all_goals exact bodyPost_ret (v := .agg #[.int .i64 3, .int .i64 0]) (by simp [results, Try.results101, go_sem]) rfl ⟨rfl, ((Below.refl _ _).alloc (Nat.le_refl _) _)⟩
    · have hi := in_f h1
      clear hk h h1
      go_enter Try.func101, Try.ntmps101
      go_wp2_with (first | (go_at_call 97; refine (isWord_any _ _).mono ?_; rintro e w' ⟨rfl, rfl⟩))
      all_goals exact bodyPost_ret (v := .agg #[.int .i64 3, .int .i64 0]) (by simp [results, Try.results101, go_sem]) rfl ⟨rfl, ((Below.refl _ _).alloc (Nat.le_refl _) _)⟩

set_option maxHeartbeats 1000000 in
theorem l1Read_any (a : Option Addr) (len cap A S : Nat) (zs : List Int) (w : World) (h : Rd w a len cap zs) (hS2 : S ≤ 6) (hA : A + S ≤ len) :
    Calls Try.prog 106 #[.slice a len cap, .int .i64 A, .int .i64 S] w fun e w' => e = .returned (.int .i64 (rdTo zs A S)) ∧ w = w' := by
  have hle := h.le
  have hmx := h.max
  unfold maxLen at hmx
  have h8 := Lib.hid h.b8
  go_enter Try.func106, Try.ntmps106
  go_wp2
  go_loopw [7, 8] (fun n i wr => ∃ (k : Nat) (m : Int), k ≤ S ∧ i = .int .i64 k ∧ n = .int .i64 m ∧ Hid (m = rdTo zs A k) ∧ Hid (w = wr)) (fun _ i _ => S - (intOf i).toNat)
  case atStart => exact ⟨0, 0, Nat.zero_le _, rfl, rfl, rfl, rfl⟩
  case round =>
    obtain ⟨k, m, hk, rfl, rfl, hm, hW⟩ := hrel
    obtain rfl : w = wr := hW.out
    by_cases hlt : k < S
    · rcases h.cells with h0 | ⟨b, off, rfl, hc⟩
      · omega
      have hck := hc (A + k) (by omega)
      have hbd := b8_getD h8.out (A + k)
      have hmb : 0 ≤ m ∧ m < 1099511627776 := by rw [hm.out]; exact rdTo_5 zs A h8.out k (by omega)
      have hst : Hid (m * 256 + zs.getD (A + k) 0 = rdTo zs A (k + 1)) := by rw [hm.out]; rfl
      clear hW hm h hc
      generalize zs.getD (A + k) 0 = x at *
      have i1 : (0 : Int) ≤ (A : Int) + k := by omega
      have i2 : (A : Int) + k < len := by omega
      have i3 : ((A : Int) + k).toNat = A + k := by omega
      go_wp2
      go_roundw
      case rel => exact ⟨k + 1, m * 256 + x, by omega, by go_num, by go_num, hst.out, trivial⟩
      case measure => simp [intOf]; omega
    · obtain rfl : k = S := by omega
      clear hW
      go_wp2
      go_ret
      exact ⟨ret_i hm.out, rfl⟩

end Go.Proofs.Yteaiemckcepphaa

namespace Go.Proofs.Yteaiemckcepphaa
open Go.ChangeShapes Go.WideShapes Go.ChangeAt Go.RowKit

def macB (n : Int) : Bool := inB n 0 281474976710655
def ipB (n : Int) : Bool := inB n 0 4294967295
def arpV (op fm fi tm ti : Int) : Value := .agg #[.int .i64 op, .int .i64 fm, .int .i64 fi, .int .i64 tm, .int .i64 ti]
def arpB (op fm fi tm ti : Int) : Bool := inB op 1 2 && macB fm && macB tm && ipB fi && ipB ti
def arpC (op fm fi tm ti : Int) : Int := if arpB op fm fi tm ti then 0 else 3

theorem l2Ip_any (n : Int) (w : World) : Calls Try.prog 60 #[.int .i64 n] w fun e w' => e = .returned (.bool (ipB n)) ∧ w = w' := by
  go_enter Try.func60, Try.ntmps60
  go_wp2_with (go_at_call 87; refine (l1In_any _ _ _ _).mono ?_; rintro e w' ⟨rfl, rfl⟩)
  go_ret
  exact ⟨rfl, rfl⟩

theorem Box.five {w : World} {b : Nat} {t : TypeId} {x y z u v : Value} (h : Box w b t #[x, y, z, u, v]) : b < w.heap.size ∧ w.cell? ⟨b, 0, none⟩ = some x ∧ w.cell? ⟨b, 1, none⟩ = some y ∧ w.cell? ⟨b, 2, none⟩ = some z ∧ w.cell? ⟨b, 3, none⟩ = some u ∧ w.cell? ⟨b, 4, none⟩ = some v := ⟨h.lt, h.cell 0, h.cell 1, h.cell 2, h.cell 3, h.cell 4⟩

end Go.Proofs.Yteaiemckcepphaa

namespace Go.Proofs.Yteaiemckcepphaa
open Go.ChangeShapes Go.WideShapes Go.ChangeAt Go.RowKit

theorem run_append_bytes (w : World) (ty : TypeId) (base : Nat) (a : Option Addr) (len cap : Nat) (zs : List Int) (hown : Own w base a len cap zs)
    (b : Option Addr) (lb cb : Nat) (ys : List Int) (hr : Rd w b lb cb ys) (hb : base ≤ w.heap.size) (hsz : len + lb ≤ 1099511627776) :
    ∃ a' c' w', (Builtin.append_ #[22, 22] ty #[.slice a len cap, .slice b lb cb]).run Try.prog w = .ok (.slice a' (len + lb) c') w' ∧ Own w' base a' (len + lb) c' (zs ++ ys) ∧ w.grownBy w' (Value.slice a len cap).ownBlock := by
  obtain ⟨i0, hi, hz0, hz1, hz2⟩ := info_parts Try.infoU8
  have hl := hown.length
  have hlb := hr.length
  cases b with
  | none =>
    obtain ⟨rfl, rfl⟩ := hr.nil rfl
    obtain rfl : ys = [] := List.length_eq_zero_iff.1 hlb
    have hrun := run_append_owned_none (P := Try.prog) (w := w) base 22 ty 5 i0 1 Try.underlying22 hi _ _ _ hown.row
    exact ⟨a, cap, w, hrun, by simpa using hown, World.grownBy.refl _ _⟩
  | some ad =>
    obtain ⟨v', w', hrun, ho', hg, _⟩ := run_append_own (P := Try.prog) w base 22 ty 5 i0 (.int .u8 0) 1 1 Try.underlying22 hi hz0 hz1 hz2 rfl (by decide) _ _ _ hown.row ad lb cb (ys.map (.int .u8)) (by simpa using hlb) (by
      rcases hr.cells with h0 | ⟨bb, off, e, hc⟩
      · intro j u hu
        obtain rfl : ys = [] := List.length_eq_zero_iff.1 (by omega)
        simp at hu
      · cases e
        exact map_cells hlb hc) (ints_oneCell _ _) (by unfold maxLen; omega) (by omega) hb
    have ho'' := ho'
    rw [← List.map_append] at ho''
    rcases ho'.2 with ⟨rfl, hn⟩ | ⟨g, c, cur, rfl, _⟩
    · rw [hn] at ho''
      exact ⟨none, 0, w', by rw [hrun, hn], by rw [hn]; exact ⟨ho'', b8_app hown.b8 hr.b8⟩, hg⟩
    · exact ⟨_, c, w', hrun, ⟨ho'', b8_app hown.b8 hr.b8⟩, hg⟩

theorem append_step (w : World) {ops : Array Oper} {o : Oper} {ac : Act} {K : Act → World → Prop} {Q : Exit → Act → World → Prop} {E : Prop} (hgd : o.guard = none) (s x : Operand)
    (ho : o.op = .call { callee := .builtin .append, args := #[s, x], argTypes := #[22, 22] })
    (base : Nat) (a : Option Addr) (len cap : Nat) (zs : List Int) (hs : ac.eval s = .slice a len cap) (hown : Own w base a len cap zs)
    (b : Option Addr) (lb cb : Nat) (ys : List Int) (hx : ac.eval x = .slice b lb cb) (hr : Rd w b lb cb ys) (hb : base ≤ w.heap.size) (hsz : len + lb ≤ 1099511627776)
    (h : ∀ a' c' w', Own w' base a' (len + lb) c' (zs ++ ys) → Below base w w' → K (ac.put o.dst (.slice a' (len + lb) c')) w') :
    if Region.wanted o (yielded ops ac.tmps) = true then Oper.wp Try.prog o ac w K Q else E := by
  have hw : Region.wanted o (yielded ops ac.tmps) = true := by simp [Region.wanted, hgd]
  rw [if_pos hw]
  obtain ⟨a', c', w', hrun, ho', hg⟩ := run_append_bytes w o.type base a len cap zs hown b lb cb ys hr hb hsz
  unfold Oper.wp execOp
  simp only [ho, resolve, invoke, builtin, Sem.run_bind, Sem.run_pure, Result.andThen_ok, List.map_toArray, List.map_cons, List.map_nil, hs, hx, hrun]
  refine h a' c' w' ho' (below_of_grown hg hb fun k e => ?_)
  cases a with
  | none => simp [Value.ownBlock] at e
  | some y =>
    simp [Value.ownBlock] at e
    have := (hown.lt y rfl).1
    omega

theorem keepB {B : Nat} {W w1 : World} (hb : Below B W w1) {p : Addr} {u : Value} (h : W.cell? p = some u) (hp : p.block < B) : w1.cell? p = some u := (hb.cell hp).trans h
theorem own_lit6 (w : World) (base : Nat) (hb : base ≤ w.heap.size) : Own (w.alloc (.cells #[.int .u8 0, .int .u8 1, .int .u8 8, .int .u8 0, .int .u8 6, .int .u8 4] 5)) base (some ⟨w.heap.size, 0, none⟩) 6 6 [0, 1, 8, 0, 6, 4] :=
  ⟨World.ownsRow_lit w #[.int .u8 0, .int .u8 1, .int .u8 8, .int .u8 0, .int .u8 6, .int .u8 4] 6 hb (by unfold maxLen; omega) rfl, by intro n hn; simp at hn; omega⟩

def arpL (op fm fi tm ti : Int) : List Int := [0, 1, 8, 0, 6, 4] ++ be op 2 ++ be fm 6 ++ be fi 4 ++ be tm 6 ++ be ti 4

theorem l1Pack_lit (n s : Int) (S : Nat) (w : World) (hs : (S : Int) = s) (h : 0 ≤ n ∧ n < 281474976710656) (hS : S ≤ 6) :
    Calls Try.prog 99 #[.int .i64 n, .int .i64 s] w fun e w' => e = .returned (.slice (some ⟨w.heap.size, 0, none⟩) S S) ∧ Own w' w.heap.size (some ⟨w.heap.size, 0, none⟩) S S (be n S) ∧ Below w.heap.size w w' := by
  subst hs
  exact l1Pack_any n S w h.1 (by omega) h.2

end Go.Proofs.Yteaiemckcepphaa

namespace Go.Proofs.Yteaiemckcepphaa
open Go.ChangeShapes Go.WideShapes Go.ChangeAt Go.RowKit

theorem pwB_len (n s : Int) : (pwB n s).length ≤ 6 := by
  unfold pwB
  split
  · rename_i h
    obtain ⟨S, rfl, h1, h2, _⟩ := pwOk_parts h
    rw [be_len]; simpa using h2
  · simp

theorem ne_of_lt_own {w w' : World} {b b' : Nat} {a a' : Option Addr} {l c l' c' : Nat} {z z' : List Int} (h : Own w b a l c z) (h' : Own w' b' a' l' c' z') (hle : w.heap.size ≤ b') :
    ∀ x, a = some x → some x.block ≠ (Value.slice a' l' c').ownBlock := by
  intro x hx e
  have h1 := h.lt x hx
  cases a' with
  | none => simp [Value.ownBlock] at e
  | some y =>
    have h2 := h'.lt y rfl
    simp [Value.ownBlock] at e
    omega

/-- another block than the one of a slice that lies between two bounds -/
theorem ne_block {w : World} {b : Nat} {a : Option Addr} {l c : Nat} {z : List Int} (h : Own w b a l c z) (k : Nat) (hk : k < b ∨ w.heap.size ≤ k) : some k ≠ (Value.slice a l c).ownBlock := by
  intro e
  cases a with
  | none => simp [Value.ownBlock] at e
  | some y =>
    have h2 := h.lt y rfl
    simp [Value.ownBlock] at e
    omega

end Go.Proofs.Yteaiemckcepphaa

namespace Go.Proofs.Yteaiemckcepphaa
open Go.ChangeShapes Go.WideShapes Go.ChangeAt Go.RowKit

theorem Box.four {w : World} {b : Nat} {t : TypeId} {x y z u : Value} (h : Box w b t #[x, y, z, u]) : b < w.heap.size ∧ w.cell? ⟨b, 0, none⟩ = some x ∧ w.cell? ⟨b, 1, none⟩ = some y ∧ w.cell? ⟨b, 2, none⟩ = some z ∧ w.cell? ⟨b, 3, none⟩ = some u := ⟨h.lt, h.cell 0, h.cell 1, h.cell 2, h.cell 3⟩

theorem szByteS_t (a : Option Addr) (len cap : Nat) (l : Int) (w : World) (h : (len : Int) ≤ l) (hl : l ≤ 1048576) :
    Calls Try.prog 89 #[.slice a len cap, .int .i64 l] w fun e w' => e = .returned (.int .i64 (l - len)) ∧ w = w' := by
  have e1 : decide (l - len < 0) = false := decide_eq_false (by omega)
  go_enter Try.func89, Try.ntmps89
  go_wp2
  go_ret
  exact ⟨rfl, rfl⟩
theorem szByteS_f (a : Option Addr) (len cap : Nat) (l : Int) (w : World) (h : ¬ (len : Int) ≤ l) (h0 : 0 ≤ l) (hl : l ≤ 1048576) (hm : len ≤ maxLen) :
    Calls Try.prog 89 #[.slice a len cap, .int .i64 l] w fun e w' => e = .returned (.int .i64 (-1)) ∧ w = w' := by
  unfold maxLen at hm
  have e1 : decide (l - len < 0) = true := decide_eq_true (by omega)
  go_enter Try.func89, Try.ntmps89
  go_wp2
  go_ret
  exact ⟨rfl, rfl⟩
/-- a frame of these numbers and bytes whose body is of this call's own -/
def FrameOut (w : World) (to fr kd : Int) (zs : List Int) (e : Ending) (w' : World) : Prop :=
  ∃ a' l' c', e = .returned (.agg #[.int .i64 to, .int .i64 fr, .int .i64 kd, .slice a' l' c']) ∧ Own w' w.heap.size a' l' c' zs ∧ Below w.heap.size w w'

theorem keepK {W w1 : World} (hb : Below W.heap.size W w1) {p : Addr} {u : Value} (h : W.cell? p = some u) : w1.cell? p = some u := (hb.cell (World.block_lt_of_cell? _ _ h)).trans h

def frameB (to fr kd : Int) : Bool := macB to && macB fr && inB kd 0 65535
def frameC (to fr kd : Int) (n : Nat) : Int := if frameB to fr kd then (if n ≤ 600 then 0 else 2) else 3

end Go.Proofs.Yteaiemckcepphaa

namespace Go.Proofs.Yteaiemckcepphaa
open Go.ChangeShapes Go.WideShapes Go.ChangeAt Go.RowKit

theorem conv_rd {w : World} {a : Option Addr} {len cap : Nat} {zs : List Int} (h : Rd w a len cap zs) : (convert 22 9 (.slice a len cap)).run Try.prog w = .ok (.string (strOfNums zs)) w := by
  have hs := Try.underlying22
  have he := Try.underlying5
  have hd := Try.underlying9
  cases a with
  | none =>
    obtain ⟨rfl, rfl⟩ := h.nil rfl
    obtain rfl : zs = [] := List.length_eq_zero_iff.1 h.length
    rw [run_convert_bytes_nil w _ _ hs he _ _ _ hd]
    rfl
  | some x =>
    rcases h.cells with h0 | ⟨b, off, e, hc⟩
    · subst h0
      obtain rfl : zs = [] := List.length_eq_zero_iff.1 h.length
      have hl : (loadCells x 0).run Try.prog w = .ok (([] : List Int).map (Value.int .u8)).toArray w := by
        have := run_loadCells_list (P := Try.prog) w x [] (by simp)
        simpa using this
      rw [run_convert_bytes_string w _ _ _ _ 0 cap hs he hd, run_bytesToString w x 0 cap [] hl, foldl_push_bytes]
      simp [strOfNums, ByteArray.empty, ByteArray.emptyWithCapacity]
      rfl
    · cases e
      exact run_convert_bytes_arg w _ _ hs he b off len cap zs h.length hc _ hd

theorem nums_back {zs : List Int} (h : B8 zs) : (zs.map fun n => UInt8.ofNat n.toNat).map (fun b => (b.toNat : Int)) = zs := by
  rw [List.map_map]
  conv => rhs; rw [← List.map_id zs]
  apply List.map_congr_left
  intro n hn
  have := h n hn
  simp only [Function.comp_apply, UInt8.toNat_ofNat', id_eq]
  omega
theorem str_inj {za zb : List Int} (ha : B8 za) (hb : B8 zb) (h : strOfNums za = strOfNums zb) : za = zb := by
  have : (strOfNums za).data.toList = (strOfNums zb).data.toList := by rw [h]
  rw [strOfNums_data, strOfNums_data] at this
  rw [← nums_back ha, ← nums_back hb, this]
theorem str_ne {za zb : List Int} (ha : B8 za) (hb : B8 zb) (h : ¬ za = zb) : ((strOfNums za).toList == (strOfNums zb).toList) = false := by
  rw [Lib.strOfNums_toList, Lib.strOfNums_toList]
  have : ¬ Lib.bytesOf za = Lib.bytesOf zb := fun e => h (by rw [← nums_back ha, ← nums_back hb]; exact congrArg _ e)
  simpa using this
end Go.Proofs.Yteaiemckcepphaa

namespace Go.Proofs.Yteaiemckcepphaa
open Go.ChangeShapes Go.WideShapes Go.ChangeAt Go.RowKit

def sameB (to fr kd : Int) (zs : List Int) (to' fr' kd' : Int) (zs' : List Int) : Bool := decide (to = to') && decide (fr = fr') && decide (kd = kd') && eqL zs zs'

end Go.Proofs.Yteaiemckcepphaa

namespace Go.Proofs.Yteaiemckcepphaa
open Go.ChangeShapes Go.WideShapes Go.ChangeAt Go.RowKit

def frameL (to fr kd : Int) (zs : List Int) : List Int := be to 6 ++ be fr 6 ++ be kd 2 ++ zs
def FreshAny (w : World) (zs : List Int) (e : Ending) (w' : World) : Prop :=
  ∃ a' l' c', e = .returned (.slice a' l' c') ∧ Own w' w.heap.size a' l' c' zs ∧ Below w.heap.size w w'

def frameP (to fr kd : Int) (zs : List Int) : List Int := if frameC to fr kd zs.length = 0 then frameL to fr kd zs else []
theorem frameC_parts {to fr kd : Int} {n : Nat} (h : frameC to fr kd n = 0) : (0 ≤ to ∧ to < 281474976710656) ∧ (0 ≤ fr ∧ fr < 281474976710656) ∧ (0 ≤ kd ∧ kd < 281474976710656) ∧ n ≤ 600 := by
  unfold frameC at h
  split at h
  · rename_i hk
    split at h
    · simp only [frameB, macB, inB, Bool.and_eq_true, decide_eq_true_eq] at hk
      omega
    · omega
  · omega
theorem frameP_len (to fr kd : Int) (zs : List Int) : (frameP to fr kd zs).length ≤ 614 := by
  unfold frameP
  split
  · rename_i h
    have := (frameC_parts h).2.2.2
    simp [frameL, be_len]
    omega
  · simp

end Go.Proofs.Yteaiemckcepphaa

namespace Go.Proofs.Yteaiemckcepphaa
open Go.ChangeShapes Go.WideShapes Go.ChangeAt Go.RowKit

theorem own_rows {w : World} {b : Nat} {a : Option Addr} {l c : Nat} {z : List Int} (h : Own w b a l c z) (B : Nat) (hB : B ≤ b) : ∀ k, (Value.slice a l c).ownBlock = some k → B ≤ k := by
  intro k e
  cases a with
  | none => simp [Value.ownBlock] at e
  | some y => simp [Value.ownBlock] at e; have := h.lt y rfl; omega
theorem ne_of_gt_own {w w' : World} {b b' : Nat} {a a' : Option Addr} {l c l' c' : Nat} {z z' : List Int} (h : Own w b a l c z) (h' : Own w' b' a' l' c' z') (hle : w'.heap.size ≤ b) :
    ∀ x, a = some x → some x.block ≠ (Value.slice a' l' c').ownBlock := fun x hx => ne_block h' _ (.inr (Nat.le_trans hle (h.lt x hx).1))

theorem Box.drewB {w : World} {b : Nat} {t : TypeId} {vs : Array Value} (h : Box w b t vs) : Box w.drew b t vs := h

end Go.Proofs.Yteaiemckcepphaa

namespace Go.Proofs.Yteaiemckcepphaa
open Go.ChangeShapes Go.WideShapes Go.ChangeAt Go.RowKit

end Go.Proofs.Yteaiemckcepphaa

namespace Go.Proofs.Yteaiemckcepphaa
open Go.ChangeShapes Go.WideShapes Go.ChangeAt Go.RowKit

/-- a frame's result: the code, the numbers, the body of its own -/
def FrameRes (w : World) (c to fr kd : Int) (zs : List Int) (e : Ending) (w' : World) : Prop :=
  ∃ a' l' c', e = .returned (.agg #[.int .i64 c, .int .i64 to, .int .i64 fr, .int .i64 kd, .slice a' l' c']) ∧ Own w' w.heap.size a' l' c' zs ∧ Below w.heap.size w w'
def rfOk (n : Nat) : Bool := decide (14 ≤ n ∧ n ≤ 614)

theorem l1Read_lit (a : Option Addr) (len cap : Nat) (A S : Nat) (x s : Int) (zs : List Int) (w : World) (h : Rd w a len cap zs) (hx : (A : Int) = x) (hs : (S : Int) = s) (hS2 : S ≤ 6) (hA : A + S ≤ len) :
    Calls Try.prog 106 #[.slice a len cap, .int .i64 x, .int .i64 s] w fun e w' => e = .returned (.int .i64 (rdTo zs A S)) ∧ w = w' := by
  subst hx; subst hs
  exact l1Read_any a len cap A S zs w h hS2 hA

theorem Rd.from {w : World} {b off len cap : Nat} {zs : List Int} (h : Rd w (some ⟨b, off, none⟩) len cap zs) (A off' l' c' : Nat) (hA : A ≤ len) (ho : off' = off + A) (hl : l' = len - A) (hc : c' = cap - A) : Rd w (some ⟨b, off', none⟩) l' c' (zs.drop A) := by
  subst ho; subst hl; subst hc
  have hle := h.le
  have hmx := h.max
  have hlen := h.length
  by_cases h0 : len - A = 0
  · exact ⟨by simp; omega, by omega, by omega, b8_drop h.b8 _, by simp, .inl h0⟩
  refine ⟨by simp; omega, by omega, by omega, b8_drop h.b8 _, by simp, .inr ⟨b, off + A, rfl, fun i hi => ?_⟩⟩
  rcases h.cells with h0 | ⟨bb, o, e, hcell⟩
  · omega
  · cases e
    have := hcell (A + i) (by omega)
    rw [Nat.add_assoc, this, List.getD_eq_getElem?_getD, List.getD_eq_getElem?_getD, List.getElem?_drop]

theorem Rd.fromIf {w : World} {b off len cap : Nat} {zs : List Int} (h : Rd w (some ⟨b, off, none⟩) len cap zs) (A : Nat) (hA : A ≤ len) : Rd w (if cap = A then some ⟨b, off, none⟩ else some ⟨b, off + A, none⟩) (len - A) (cap - A) (zs.drop A) := by
  split
  · have hle := h.le
    have hmx := h.max
    have hlen := h.length
    exact ⟨by simp; omega, by omega, by omega, b8_drop h.b8 _, by simp, .inl (by omega)⟩
  · exact h.from A _ _ _ hA rfl rfl rfl

theorem Rd.upto {w : World} {b off len cap : Nat} {zs : List Int} (h : Rd w (some ⟨b, off, none⟩) len cap zs) (n : Nat) (hn : n ≤ len) : Rd w (some ⟨b, off, none⟩) n cap (zs.take n) := by
  have hle := h.le
  have hmx := h.max
  have hlen := h.length
  refine ⟨by simp; omega, by omega, hmx, b8_take h.b8 _, by simp, ?_⟩
  rcases h.cells with h0 | ⟨bb, o, e, hcell⟩
  · exact .inl (by omega)
  · cases e
    refine .inr ⟨b, off, rfl, fun i hi => ?_⟩
    rw [hcell i (by omega), List.getD_eq_getElem?_getD, List.getD_eq_getElem?_getD, List.getElem?_take, if_pos hi]

end Go.Proofs.Yteaiemckcepphaa

namespace Go.Proofs.Yteaiemckcepphaa
open Go.ChangeShapes Go.WideShapes Go.ChangeAt Go.RowKit

end Go.Proofs.Yteaiemckcepphaa

namespace Go.Proofs.Yteaiemckcepphaa
open Go.ChangeShapes Go.WideShapes Go.ChangeAt Go.RowKit

theorem run_copy_box (w : World) (ty : TypeId) (b off dl dc : Nat) (t : TypeId) (vs : Array Value) (hx : Box w b t vs) (hfit : off + dl ≤ vs.size) (s : Option Addr) (ls cs : Nat) (ys : List Int) (hr : Rd w s ls cs ys) (hdl : 0 < dl ∧ dl ≤ ls) (es : List Int) (he : ys.take dl = es) :
    ∃ w', (Builtin.copy_ #[22, 22] ty #[.slice (some ⟨b, off, none⟩) dl dc, .slice s ls cs]).run Try.prog w = .ok (goInt dl) w' ∧ Box w' b t (Go.splice vs.toList off (es.map (.int .u8))).toArray ∧ w.grownBy w' (some b) := by
  have hu := Try.underlying22
  have hsz : (Try.prog.info? 5).map (·.size) = some 1 := by
    obtain ⟨i0, hi, hz0, hz1, hz2⟩ := info_parts Try.infoU8
    rw [hi]; simp [hz1]
  have hl := hr.length
  have hel : es.length = dl := by rw [← he, List.length_take]; omega
  rcases hr.cells with h0 | ⟨bb, o2, rfl, hc⟩
  · omega
  have hsrc : ∀ j v, (es.map (Value.int .u8))[j]? = some v → w.cell? ((⟨bb, o2, none⟩ : Addr).add j) = some v := by
    intro j v hv
    refine map_cells hl hc j v ?_
    rw [← he, List.map_take, List.getElem?_take] at hv
    split at hv
    · exact hv
    · cases hv
  have hrun := run_copy_row (P := Try.prog) w 22 22 ty 5 b off dl dc ⟨bb, o2, none⟩ ls cs vs t (es.map (.int .u8)) hu hsz hx (by rw [List.length_map, hel]; exact (Nat.min_eq_right hdl.2).symm) hsrc (by rw [List.length_map, hel]; exact hfit) (ints_oneCell _ _)
  rw [List.length_map, hel] at hrun
  refine ⟨_, hrun, ?_, ⟨rfl, rfl, rfl, by simp [World.setRow], fun k _ hk => setRow_other w b k _ (fun e => hk (by rw [e]))⟩⟩
  have := setRow_heap w b _ (Go.splice vs.toList off (es.map (.int .u8))).toArray _ _ hx
  unfold Box
  simpa [Go.splice, hel] using this

theorem copyBox_step (w : World) {ops : Array Oper} {o : Oper} {ac : Act} {K : Act → World → Prop} {Q : Exit → Act → World → Prop} {E : Prop} (hgd : o.guard = none) (d s : Operand)
    (ho : o.op = .call { callee := .builtin .copy, args := #[d, s], argTypes := #[22, 22] })
    (b off dl dc : Nat) (t : TypeId) (vs : Array Value) (hx : Box w b t vs) (hd : ac.eval d = .slice (some ⟨b, off, none⟩) dl dc) (hfit : off + dl ≤ vs.size)
    (a : Option Addr) (la ca : Nat) (ys : List Int) (hs : ac.eval s = .slice a la ca) (hr : Rd w a la ca ys) (hdl : 0 < dl ∧ dl ≤ la) (es : List Int) (he : ys.take dl = es)
    (h : ∀ w', Box w' b t (Go.splice vs.toList off (es.map (.int .u8))).toArray → w.grownBy w' (some b) → K (ac.put o.dst (goInt dl)) w') :
    if Region.wanted o (yielded ops ac.tmps) = true then Oper.wp Try.prog o ac w K Q else E := by
  have hw : Region.wanted o (yielded ops ac.tmps) = true := by simp [Region.wanted, hgd]
  rw [if_pos hw]
  obtain ⟨w', hrun, hb, hg⟩ := run_copy_box w o.type b off dl dc t vs hx hfit a la ca ys hr hdl es he
  unfold Oper.wp execOp
  simp only [ho, resolve, invoke, builtin, Sem.run_bind, Sem.run_pure, Result.andThen_ok, List.map_toArray, List.map_cons, List.map_nil, hd, hs, hrun]
  exact h w' hb hg

theorem copyBox_list (w : World) {ops : Array Oper} {rest : List Oper} {o : Oper} {ac : Act} {Q : Exit → Act → World → Prop} (hgd : o.guard = none) (d s : Operand)
    (ho : o.op = .call { callee := .builtin .copy, args := #[d, s], argTypes := #[22, 22] })
    (b off dl dc : Nat) (t : TypeId) (vs : Array Value) (hx : Box w b t vs) (hd : ac.eval d = .slice (some ⟨b, off, none⟩) dl dc) (hfit : off + dl ≤ vs.size)
    (a : Option Addr) (la ca : Nat) (ys : List Int) (hs : ac.eval s = .slice a la ca) (hr : Rd w a la ca ys) (hdl : 0 < dl ∧ dl ≤ la) (es : List Int) (he : ys.take dl = es)
    (h : ∀ w', Box w' b t (Go.splice vs.toList off (es.map (.int .u8))).toArray → w.grownBy w' (some b) → wpList Try.prog ops Q rest (ac.put o.dst (goInt dl)) w') :
    wpList Try.prog ops Q (o :: rest) ac w := by
  refine wpList_plain hgd fun K hK => ?_
  obtain ⟨w', hrun, hb, hg⟩ := run_copy_box w o.type b off dl dc t vs hx hfit a la ca ys hr hdl es he
  unfold Oper.wp execOp
  simp only [ho, resolve, invoke, builtin, Sem.run_bind, Sem.run_pure, Result.andThen_ok, List.map_toArray, List.map_cons, List.map_nil, hd, hs, hrun]
  exact hK _ _ (h w' hb hg)

theorem Box.six {w : World} {b : Nat} {t : TypeId} {x0 x1 x2 x3 x4 x5 : Value} (h : Box w b t #[x0, x1, x2, x3, x4, x5]) : b < w.heap.size ∧ w.cell? ⟨b, 0, none⟩ = some x0 ∧ w.cell? ⟨b, 1, none⟩ = some x1 ∧ w.cell? ⟨b, 2, none⟩ = some x2 ∧ w.cell? ⟨b, 3, none⟩ = some x3 ∧ w.cell? ⟨b, 4, none⟩ = some x4 ∧ w.cell? ⟨b, 5, none⟩ = some x5 := ⟨h.lt, h.cell 0, h.cell 1, h.cell 2, h.cell 3, h.cell 4, h.cell 5⟩
/-- a whole struct stored into its block, as a step of a region that draws its order -/
theorem storeBox_step (w : World) {ops : Array Oper} {o : Oper} {ac : Act} {K : Act → World → Prop} {Q : Exit → Act → World → Prop} {E : Prop} (hgd : o.guard = none) (ty : TypeId) (x y : Operand)
    (ho : o.op = .store ty x y) (b : Nat) (t : TypeId) (vs us : Array Value) (hx : Box w b t vs) (ex : ac.eval x = .pointer (some ⟨b, 0, none⟩)) (ey : ac.eval y = .agg us)
    (hi : (Try.prog.info? ty).map (·.size) = some us.size) (hs : vs.size = us.size) (h1 : us.all (·.oneCell') = true)
    (h : ∀ w', Box w' b t us → w.grownBy w' (some b) → K (ac.put o.dst undef) w') :
    if Region.wanted o (yielded ops ac.tmps) = true then Oper.wp Try.prog o ac w K Q else E := by
  have hw : Region.wanted o (yielded ops ac.tmps) = true := by simp [Region.wanted, hgd]
  rw [if_pos hw]
  refine wp_store_row ty x y ho b us ex ey t vs hx hi hs h1 (h _ (setRow_heap w b _ us _ _ hx) ?_)
  exact ⟨rfl, rfl, rfl, by simp [World.setRow], fun k _ hk => setRow_other w b k _ (fun e => hk (by rw [e]))⟩
theorem storeBox_list (w : World) {ops : Array Oper} {rest : List Oper} {o : Oper} {ac : Act} {Q : Exit → Act → World → Prop} (hgd : o.guard = none) (ty : TypeId) (x y : Operand)
    (ho : o.op = .store ty x y) (b : Nat) (t : TypeId) (vs us : Array Value) (hx : Box w b t vs) (ex : ac.eval x = .pointer (some ⟨b, 0, none⟩)) (ey : ac.eval y = .agg us)
    (hi : (Try.prog.info? ty).map (·.size) = some us.size) (hs : vs.size = us.size) (h1 : us.all (·.oneCell') = true)
    (h : ∀ w', Box w' b t us → w.grownBy w' (some b) → wpList Try.prog ops Q rest (ac.put o.dst undef) w') : wpList Try.prog ops Q (o :: rest) ac w := by
  refine wpList_store_row hgd ty x y ho b us ex ey t vs hx hi hs h1 (h _ (setRow_heap w b _ us _ _ hx) ?_)
  exact ⟨rfl, rfl, rfl, by simp [World.setRow], fun k _ hk => setRow_other w b k _ (fun e => hk (by rw [e]))⟩
theorem fld_br (w : World) (c : Int) (a : Option Addr) (l k : Nat) : (Instr.field 29 (.agg #[.int .i64 c, .slice a l k]) 1).run Try.prog w = .ok (.slice a l k) w := by
  simp [Instr.field, asAgg, go_sem]
theorem fld_ir (w : World) (c v : Int) : (Instr.field 46 (.agg #[.int .i64 c, .int .i64 v]) 1).run Try.prog w = .ok (.int .i64 v) w := by
  simp [Instr.field, asAgg, go_sem]

theorem b8_6 {y0 y1 y2 y3 y4 y5 : Int} {n : Int} {k : Nat} (h : be n k = [y0, y1, y2, y3, y4, y5]) : B8 [y0, y1, y2, y3, y4, y5] := by rw [← h]; exact b8_be k n

end Go.Proofs.Yteaiemckcepphaa

namespace Go.Proofs.Yteaiemckcepphaa
open Go.ChangeShapes Go.WideShapes Go.ChangeAt Go.RowKit

def packB (kf kt kp kl : Int) : Bool := ipB kf && ipB kt && inB kp 0 255 && inB kl 1 255
def packC (kf kt kp kl : Int) (n : Nat) : Int := if packB kf kt kp kl then (if n ≤ 560 then 0 else 2) else 3

def echoB (ei es : Int) : Bool := inB ei 0 65535 && inB es 0 65535
def echoC (ei es : Int) (n : Nat) : Int := if echoB ei es then (if n ≤ 552 then 0 else 2) else 3

def sameP (kf kt kp kl : Int) (zs : List Int) (kf' kt' kp' kl' : Int) (zs' : List Int) : Bool := decide (kf = kf') && decide (kt = kt') && decide (kp = kp') && decide (kl = kl') && eqL zs zs'

end Go.Proofs.Yteaiemckcepphaa
