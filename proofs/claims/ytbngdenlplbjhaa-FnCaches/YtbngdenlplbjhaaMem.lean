/-
  Slices of bytes: what it is that one reads as a list of numbers (Rd), that one owns its array (Own), and how both are kept; contracts of the helpers of the laws that copy, compare, mark and look at bytes.
-/
import Derived.Test.YtbngdenlplbjhaaNum
import Derived.Deep.QuietTactic
import Derived.BigQuiet
namespace Go.Proofs.Ytbngdenlplbjhaa
open Go.ChangeShapes Go.WideShapes Go.ChangeAt Go.RowKit

def B8 (zs : List Int) : Prop := ∀ n ∈ zs, 0 ≤ n ∧ n ≤ 255
/-- the slice reads as the bytes zs -/
structure Rd (w : World) (a : Option Addr) (len cap : Nat) (zs : List Int) : Prop where
  length : zs.length = len
  le : len ≤ cap
  max : cap ≤ maxLen
  b8 : B8 zs
  nil : a = none → len = 0 ∧ cap = 0
  cells : len = 0 ∨ ∃ b off, a = some ⟨b, off, none⟩ ∧ ∀ i, i < len → w.cell? ⟨b, off + i, none⟩ = some (.int .u8 (zs.getD i 0))
/-- the slice owns an array of its own, that begins at a block from base on, and it holds the bytes zs -/
structure Own (w : World) (base : Nat) (a : Option Addr) (len cap : Nat) (zs : List Int) : Prop where
  row : w.ownsRow base 5 1 (.slice a len cap) len (zs.map (.int .u8))
  b8 : B8 zs

theorem b8_nil : B8 [] := by intro n h; cases h
theorem b8_getD {zs : List Int} (h : B8 zs) (i : Nat) : 0 ≤ zs.getD i 0 ∧ zs.getD i 0 ≤ 255 := by
  rw [List.getD_eq_getElem?_getD]
  by_cases hi : i < zs.length
  · rw [List.getElem?_eq_getElem hi]; exact h _ (List.getElem_mem hi)
  · rw [List.getElem?_eq_none (by omega)]; simp
theorem b8_set {zs : List Int} (h : B8 zs) (i : Nat) (n : Int) (hn : 0 ≤ n ∧ n ≤ 255) : B8 (zs.set i n) := by
  intro m hm
  rcases List.mem_or_eq_of_mem_set hm with h' | rfl
  · exact h _ h'
  · exact hn
theorem b8_rep (k : Nat) : B8 (List.replicate k 0) := by
  intro n h
  obtain ⟨_, rfl⟩ := List.mem_replicate.1 h
  omega
theorem b8_app {a b : List Int} (h : B8 a) (k : B8 b) : B8 (a ++ b) := by
  intro n hn
  rcases List.mem_append.1 hn with h' | h'
  · exact h _ h'
  · exact k _ h'
theorem b8_take {a : List Int} (h : B8 a) (k : Nat) : B8 (a.take k) := fun n hn => h n (List.mem_of_mem_take hn)
theorem b8_drop {a : List Int} (h : B8 a) (k : Nat) : B8 (a.drop k) := fun n hn => h n (List.mem_of_mem_drop hn)

theorem Own.length {w : World} {base : Nat} {a : Option Addr} {len cap : Nat} {zs : List Int} (h : Own w base a len cap zs) : zs.length = len := by
  have := h.row.1; simpa using this
theorem Own.lt {w : World} {base : Nat} {a : Option Addr} {len cap : Nat} {zs : List Int} (h : Own w base a len cap zs) : ∀ x, a = some x → base ≤ x.block ∧ x.block < w.heap.size := by
  rintro x rfl
  exact h.row.lt x.block rfl
theorem Own.nil (w : World) (base : Nat) : Own w base none 0 0 [] := ⟨World.ownsRow_nil _ _ _ _, b8_nil⟩
theorem Own.max {w : World} {base : Nat} {a : Option Addr} {len cap : Nat} {zs : List Int} (h : Own w base a len cap zs) : len ≤ cap ∧ cap ≤ maxLen := by
  rcases h.row.2 with ⟨h', h0⟩ | ⟨g, c, cur, h', _, _, h1, h2, _⟩
  · simp only [Value.slice.injEq] at h'; obtain ⟨_, rfl, rfl⟩ := h'; exact ⟨Nat.le_refl _, Nat.zero_le _⟩
  · simp only [Value.slice.injEq, true_and] at h'; obtain ⟨_, rfl⟩ := h'; exact ⟨h1, h2⟩
theorem Own.shape {w : World} {base : Nat} {a : Option Addr} {len cap : Nat} {zs : List Int} (h : Own w base a len cap zs) : (a = none ∧ len = 0 ∧ cap = 0 ∧ zs = []) ∨ ∃ g, a = some ⟨g, 0, none⟩ := by
  rcases h.row.2 with ⟨h', h0⟩ | ⟨g, c, cur, h', _, _, h1, h2, _⟩
  · simp only [Value.slice.injEq] at h'; obtain ⟨rfl, rfl, rfl⟩ := h'; exact .inl ⟨rfl, rfl, rfl, List.length_eq_zero_iff.1 h.length⟩
  · simp only [Value.slice.injEq, true_and] at h'; obtain ⟨rfl, rfl⟩ := h'; exact .inr ⟨g, rfl⟩
theorem Own.cellAt {w : World} {base g : Nat} {len cap : Nat} {zs : List Int} (h : Own w base (some ⟨g, 0, none⟩) len cap zs) (i : Nat) (hi : i < len) : w.cell? ⟨g, i, none⟩ = some (.int .u8 (zs.getD i 0)) := by
  have := h.row.cellAt i (by simpa using hi)
  have hl := h.length
  rw [this, List.getElem?_map, List.getD_eq_getElem?_getD, List.getElem?_eq_getElem (by omega)]; rfl
theorem Own.frozenAt {w : World} {base g : Nat} {len cap : Nat} {zs : List Int} (h : Own w base (some ⟨g, 0, none⟩) len cap zs) (i : Nat) : w.frozen? ⟨g, i, none⟩ = false := h.row.frozenAt i
theorem Own.rd {w : World} {base : Nat} {a : Option Addr} {len cap : Nat} {zs : List Int} (h : Own w base a len cap zs) : Rd w a len cap zs := by
  refine ⟨h.length, h.max.1, h.max.2, h.b8, ?_, ?_⟩
  · rintro rfl
    rcases h.shape with ⟨_, h0, h1, _⟩ | ⟨g, e⟩
    · exact ⟨h0, h1⟩
    · cases e
  rcases h.shape with ⟨_, h0, _⟩ | ⟨g, rfl⟩
  · exact .inl h0
  · exact .inr ⟨g, 0, rfl, fun i hi => by rw [Nat.zero_add]; exact h.cellAt i hi⟩
theorem Own.grown {w w' : World} {base : Nat} {a : Option Addr} {len cap : Nat} {zs : List Int} {row : Option Nat} (h : Own w base a len cap zs) (hg : w.grownBy w' row) (hne : ∀ x, a = some x → some x.block ≠ row) : Own w' base a len cap zs := by
  refine ⟨h.row.kept hg ?_, h.b8⟩
  cases a with
  | none => exact .inl rfl
  | some x => exact .inr (hne x rfl)
theorem Own.below {w w' : World} {base : Nat} {a : Option Addr} {len cap : Nat} {zs : List Int} (h : Own w base a len cap zs) (hb : Below w.heap.size w w') : Own w' base a len cap zs :=
  h.grown (row := none) ⟨hb.os, hb.tape, hb.output, hb.size, fun k hk _ => hb.block k hk⟩ (fun _ _ => by simp)
theorem Own.alloc {w : World} {base : Nat} {a : Option Addr} {len cap : Nat} {zs : List Int} (h : Own w base a len cap zs) (o : Obj) : Own (w.alloc o) base a len cap zs := ⟨h.row.alloc o, h.b8⟩
theorem Own.set {w : World} {base g : Nat} {len cap : Nat} {zs : List Int} (h : Own w base (some ⟨g, 0, none⟩) len cap zs) (i : Nat) (n : Int) (hn : 0 ≤ n ∧ n ≤ 255) : Own (w.setCell ⟨g, i, none⟩ (.int .u8 n)) base (some ⟨g, 0, none⟩) len cap (zs.set i n) ∧ w.grownBy (w.setCell ⟨g, i, none⟩ (.int .u8 n)) (some g) := by
  have := h.row.stored i (.int .u8 n)
  rw [← List.map_set] at this
  exact ⟨⟨this.1, b8_set h.b8 i n hn⟩, this.2⟩
theorem Rd.below {w w' : World} {a : Option Addr} {len cap : Nat} {zs : List Int} (h : Rd w a len cap zs) (hb : Below w.heap.size w w') : Rd w' a len cap zs := by
  refine ⟨h.length, h.le, h.max, h.b8, h.nil, ?_⟩
  rcases h.cells with h0 | ⟨b, off, rfl, hc⟩
  · exact .inl h0
  · exact .inr ⟨b, off, rfl, fun i hi => (hb.cell (p := ⟨b, off + i, none⟩) (World.block_lt_of_cell? _ _ (hc i hi))).trans (hc i hi)⟩
theorem Rd.alloc {w : World} {a : Option Addr} {len cap : Nat} {zs : List Int} (h : Rd w a len cap zs) (o : Obj) : Rd (w.alloc o) a len cap zs :=
  h.below ((Below.refl _ _).alloc (Nat.le_refl _) o)
theorem Rd.getD_bd {w : World} {a : Option Addr} {len cap : Nat} {zs : List Int} (h : Rd w a len cap zs) (i : Nat) : 0 ≤ zs.getD i 0 ∧ zs.getD i 0 ≤ 255 := b8_getD h.b8 i
theorem below_of_grown {w w' : World} {row : Option Nat} {B : Nat} (hg : w.grownBy w' row) (hB : B ≤ w.heap.size) (hr : ∀ k, row = some k → B ≤ k) : Below B w w' := (Below.refl B w).grown hg hB hr
theorem grown_trans {a b c : World} {row : Option Nat} (h : a.grownBy b row) (k : b.grownBy c row) : a.grownBy c row :=
  ⟨k.os.trans h.os, k.tape.trans h.tape, k.output.trans h.output, Nat.le_trans h.size k.size, fun i hi hr => (k.block i (Nat.lt_of_lt_of_le hi h.size) hr).trans (h.block i hi hr)⟩
theorem grown_none {a b : World} {row : Option Nat} (h : a.grownBy b none) : a.grownBy b row :=
  ⟨h.os, h.tape, h.output, h.size, fun i hi _ => h.block i hi (by simp)⟩

theorem Own.drew {w : World} {base : Nat} {a : Option Addr} {len cap : Nat} {zs : List Int} (h : Own w base a len cap zs) : Own w.drew base a len cap zs := ⟨h.row.drew, h.b8⟩
theorem Rd.drew {w : World} {a : Option Addr} {len cap : Nat} {zs : List Int} (h : Rd w a len cap zs) : Rd w.drew a len cap zs := h.below (Below.refl _ w).drew
/-- a block that holds just these cells -/
def Box (w : World) (b : Nat) (t : TypeId) (vs : Array Value) : Prop := w.heap[b]? = some (.cells vs t (0, 0))
theorem Box.new (w : World) (t : TypeId) (vs : Array Value) : Box (w.alloc (.cells vs t)) w.heap.size t vs := heap_alloc_new w _
theorem Box.lt {w : World} {b : Nat} {t : TypeId} {vs : Array Value} (h : Box w b t vs) : b < w.heap.size := (Array.getElem?_eq_some_iff.1 h).1
theorem Box.grown {w w' : World} {b : Nat} {t : TypeId} {vs : Array Value} {row : Option Nat} (h : Box w b t vs) (hg : w.grownBy w' row) (hne : some b ≠ row) : Box w' b t vs := (hg.block b h.lt hne).trans h
theorem Box.below {w w' : World} {b B : Nat} {t : TypeId} {vs : Array Value} (h : Box w b t vs) (hb : Below B w w') (hB : b < B) : Box w' b t vs := (hb.block b hB).trans h
theorem Box.alloc {w : World} {b : Nat} {t : TypeId} {vs : Array Value} (h : Box w b t vs) (o : Obj) : Box (w.alloc o) b t vs := (Below.heap_alloc w o b h.lt).trans h
theorem Box.cell {w : World} {b : Nat} {t : TypeId} {vs : Array Value} (h : Box w b t vs) (i : Nat) : w.cell? ⟨b, i, none⟩ = vs[i]? := cell_of_row w b i vs t (0, 0) h
theorem Box.frozen {w : World} {b : Nat} {t : TypeId} {vs : Array Value} (h : Box w b t vs) (i : Nat) : w.frozen? ⟨b, i, none⟩ = false := frozen_of_row w b i vs t h
theorem Box.two {w : World} {b : Nat} {t : TypeId} {x y : Value} (h : Box w b t #[x, y]) : b < w.heap.size ∧ w.cell? ⟨b, 0, none⟩ = some x ∧ w.cell? ⟨b, 1, none⟩ = some y := ⟨h.lt, h.cell 0, h.cell 1⟩
theorem grown_of_below {w w' : World} (h : Below w.heap.size w w') (row : Option Nat) : w.grownBy w' row := ⟨h.os, h.tape, h.output, h.size, fun k hk _ => h.block k hk⟩

theorem Try.infoU8 : (Try.prog.info? 5).map (fun i => (i.zero, i.size, i.bytes)) = some (some (.int .u8 0), 1, 1) := by kernel_rfl

theorem take_set (zs : List Int) (k : Nat) (h : k < zs.length) : (zs.take k ++ List.replicate (zs.length - k) 0).set k (zs.getD k 0) = zs.take (k + 1) ++ List.replicate (zs.length - (k + 1)) 0 := by
  rw [List.set_append_right _ _ (by simp; omega)]
  rw [List.take_succ_eq_append_getElem h, List.getD_eq_getElem?_getD, List.getElem?_eq_getElem h]
  rw [show zs.length - k = (zs.length - (k + 1)) + 1 by omega, List.replicate_succ]
  have : k - (zs.take k).length = 0 := by simp; omega
  rw [this]
  simp only [List.set_cons_zero, Option.getD_some, List.append_assoc, List.cons_append, List.nil_append]

set_option maxHeartbeats 400000 in
theorem toByteS_any (a : Option Addr) (len cap : Nat) (zs : List Int) (w : World) (h : Rd w a len cap zs) (hl : len ≤ 1048576) :
    Calls Try.prog 88 #[.slice a len cap] w fun e w' => e = .returned (.slice (some ⟨w.heap.size, 0, none⟩) len len) ∧ Own w' w.heap.size (some ⟨w.heap.size, 0, none⟩) len len zs ∧ Below w.heap.size w w' := by
  obtain ⟨i0, hi, hz0, hz1, hz2⟩ := info_parts Try.infoU8
  have hzl := Lib.hid h.length
  have hm : len ≤ maxLen := by unfold maxLen; omega
  go_enter Try.func88, Try.ntmps88
  go_wp2_with (at_make; refine wpList_make_full _ rfl (.tmp 6) (.tmp 6) 22 rfl w.heap.size 5 i0 (.int .u8 0) 1 Try.underlying22 hi hz0 hz1 .i64 .i64 len len len rfl rfl rfl rfl (by rw [hz2]; omega) hm (Nat.le_refl _) ?_; intro w1 hown hgrow)
  have hO : Own w1 w.heap.size (some ⟨w.heap.size, 0, none⟩) len len (List.replicate len 0) := ⟨by have := hown; simp only [Nat.mul_one, Value.cells, toList_madeCells_one] at this; simpa using this, b8_rep _⟩
  have hB : Below w.heap.size w w1 := below_of_grown hgrow (Nat.le_refl _) (by simp)
  clear hown hgrow
  go_loopw [4] (fun i wr => ∃ k : Nat, k ≤ len ∧ i = .int .i64 k ∧ Own wr w.heap.size (some ⟨w.heap.size, 0, none⟩) len len (zs.take k ++ List.replicate (len - k) 0) ∧ Below w.heap.size w wr) (fun i _ => len - (intOf i).toNat)
  case atStart => exact ⟨0, Nat.zero_le _, rfl, by simpa using hO, hB⟩
  case round =>
    obtain ⟨k, hk, rfl, hown, hb⟩ := hrel
    clear hO hB
    by_cases hlt : k < len
    · rcases h.cells with h0 | ⟨b, off, rfl, hc⟩
      · omega
      · have hck := (hb.cell (p := ⟨b, off + k, none⟩) (World.block_lt_of_cell? _ _ (hc k hlt))).trans (hc k hlt)
        have hd := hown.cellAt k hlt
        have hf := hown.frozenAt k
        have hbd := h.getD_bd k
        have hset := hown.set k (zs.getD k 0) hbd
        have hts := take_set zs k (by have := hzl.out; omega)
        rw [hzl.out] at hts
        rw [hts] at hset
        have R := Lib.hid hset
        clear hset hts hown hc
        rw [List.getD_eq_getElem?_getD] at hck hd hbd R
        go_wp2
        go_roundw
        case rel => exact ⟨k + 1, by omega, by go_num, R.out.1, hb.grown R.out.2 hb.size (fun j e => by cases e; exact Nat.le_refl _)⟩
        case measure => simp [intOf]; omega
    · obtain rfl : k = len := by omega
      go_wp2
      go_ret
      exact ⟨rfl, by have := hown; rw [List.take_of_length_le (by have := hzl.out; omega)] at this; simpa using this, hb⟩

theorem belowN {B : Nat} {a w : World} (h : Below B a w) (n : Nat) : Below B a (w.drewN n) := ⟨h.os, h.tape, h.output, h.size, h.block⟩

theorem eq_iff (za zb : List Int) (h : za.length = zb.length) : (za = zb) ↔ ∀ i, i < za.length → za.getD i 0 = zb.getD i 0 := by
  constructor
  · rintro rfl i _; rfl
  · intro hh
    apply List.ext_getElem h
    intro i h1 h2
    have := hh i h1
    rwa [List.getD_eq_getElem?_getD, List.getD_eq_getElem?_getD, List.getElem?_eq_getElem h1, List.getElem?_eq_getElem h2] at this

def eqL (za zb : List Int) : Bool := decide (za = zb)

set_option maxHeartbeats 400000 in
theorem eqByteS_any (a b : Option Addr) (la ca lb cb : Nat) (za zb : List Int) (w : World) (ha : Rd w a la ca za) (hb : Rd w b lb cb zb) :
    Calls Try.prog 65 #[.slice a la ca, .slice b lb cb] w fun e w' => e = .returned (.bool (eqL za zb)) ∧ Below w.heap.size w w' := by
  have ma : la ≤ maxLen := Nat.le_trans ha.le ha.max
  unfold maxLen at ma
  have hla := Lib.hid ha.length
  have hlb := Lib.hid hb.length
  by_cases hll : la = lb
  · obtain rfl := hll
    have hne : (la != la) = false := by simp
    go_enter Try.func65, Try.ntmps65
    go_wp2
    go_loopw [5] (fun i wr => ∃ k : Nat, k ≤ la ∧ i = .int .i64 k ∧ Hid (∀ j, j < k → za.getD j 0 = zb.getD j 0) ∧ Below w.heap.size w wr) (fun i _ => la - (intOf i).toNat)
    case atStart => exact ⟨0, Nat.zero_le _, rfl, fun j hj => absurd hj (by omega), Below.refl _ _⟩
    case round =>
      obtain ⟨k, hk, rfl, heq, hbel⟩ := hrel
      by_cases hlt : k < la
      · rcases ha.cells with h0 | ⟨ba, oa, rfl, hca⟩
        · omega
        rcases hb.cells with h0 | ⟨bb, ob, rfl, hcb⟩
        · omega
        have h1 := (hbel.cell (p := ⟨ba, oa + k, none⟩) (World.block_lt_of_cell? _ _ (hca k hlt))).trans (hca k hlt)
        have h2 := (hbel.cell (p := ⟨bb, ob + k, none⟩) (World.block_lt_of_cell? _ _ (hcb k hlt))).trans (hcb k hlt)
        clear hca hcb
        by_cases he : za.getD k 0 = zb.getD k 0
        · have E := Lib.hid he
          rw [← he] at h2
          clear he
          generalize hX : za.getD k 0 = x at h1 h2
          clear hX
          go_wp2
          go_quiet (fail)
          go_wp2
          go_roundw
          case rel => exact ⟨k + 1, by omega, by go_num, fun j hj => by
            by_cases hjk : j < k
            · exact heq.out j hjk
            · obtain rfl : j = k := by omega
              exact E.out, belowN hbel _⟩
          case measure => simp [intOf]; omega
        · have E := Lib.hid he
          have hx : (za.getD k 0 != zb.getD k 0) = true := by simpa using he
          have F : Hid (eqL za zb = false) := by
            unfold eqL
            refine decide_eq_false ?_
            intro e
            exact he (by rw [e])
          clear he
          generalize za.getD k 0 = x at *
          generalize zb.getD k 0 = y at *
          go_wp2
          go_quiet (fail)
          go_wp2
          go_ret
          exact ⟨ret_b F.out.symm, belowN hbel _⟩
      · obtain rfl : k = la := by omega
        have F : Hid (eqL za zb = true) := by
          unfold eqL
          refine decide_eq_true ((eq_iff za zb (by have := hla.out; have := hlb.out; omega)).2 ?_)
          intro j hj
          exact heq.out j (by have := hla.out; omega)
        go_wp2
        go_ret
        exact ⟨ret_b F.out.symm, hbel⟩
  · have hne : (la != lb) = true := by simpa using hll
    have F : Hid (eqL za zb = false) := by
      unfold eqL
      refine decide_eq_false ?_
      intro e
      exact hll (by rw [← hla.out, ← hlb.out, e])
    go_enter Try.func65, Try.ntmps65
    go_wp2
    go_ret
    exact ⟨ret_b F.out.symm, Below.refl _ _⟩

/-- the marks that a call lays: k, k + 1 .. as bytes -/
def marks (k n : Nat) : List Int := (List.range n).map (fun j => (((k + j) % 256 : Nat) : Int))
theorem marks_len (k n : Nat) : (marks k n).length = n := by simp [marks]
theorem b8_marks (k n : Nat) : B8 (marks k n) := by
  intro x hx
  simp only [marks, List.mem_map, List.mem_range] at hx
  obtain ⟨j, _, rfl⟩ := hx
  omega
theorem marks_getD (k n j : Nat) (h : j < n) : (marks k n).getD j 0 = (((k + j) % 256 : Nat) : Int) := by
  rw [List.getD_eq_getElem?_getD, List.getElem?_eq_getElem (by rw [marks_len]; exact h)]
  simp [marks]
theorem marks_step (k j : Nat) (zs : List Int) (h : j < zs.length) : (marks k j ++ zs.drop j).set j (((k + j) % 256 : Nat) : Int) = marks k (j + 1) ++ zs.drop (j + 1) := by
  rw [List.set_append_right _ _ (by rw [marks_len]; exact Nat.le_refl _), marks_len, Nat.sub_self, List.drop_eq_getElem_cons h]
  simp only [List.set_cons_zero]
  unfold marks
  rw [List.range_succ, List.map_append]
  simp only [List.map_cons, List.map_nil, List.append_assoc, List.cons_append, List.nil_append]

set_option maxHeartbeats 400000 in
theorem markByteS_any (a : Option Addr) (len cap base k0 : Nat) (zs : List Int) (w : World) (h : Own w base a len cap zs) (hl : len ≤ 2097152) (hk0 : k0 ≤ 1000000000) :
    Calls Try.prog 73 #[.slice a len cap, .int .i64 k0] w fun e w' => e = .returned (.int .i64 (k0 + len : Nat)) ∧ Own w' base a len cap (marks k0 len) ∧ w.grownBy w' ((Value.slice a len cap).ownBlock) := by
  have hzl := Lib.hid h.length
  rcases h.shape with ⟨rfl, rfl, rfl, rfl⟩ | ⟨g, rfl⟩
  · go_enter Try.func73, Try.ntmps73
    go_wp2
    go_loopw [1, 5] (fun kk i wr => i = .int .i64 0 ∧ kk = .int .i64 k0 ∧ w = wr) (fun _ _ _ => 0)
    case atStart => exact ⟨rfl, rfl, rfl⟩
    case round =>
      obtain ⟨rfl, rfl, rfl⟩ := hrel
      go_wp2
      go_ret
      exact ⟨by go_num, h, World.grownBy.refl _ _⟩
  · go_enter Try.func73, Try.ntmps73
    go_wp2
    go_loopw [1, 5] (fun kk i wr => ∃ j : Nat, j ≤ len ∧ i = .int .i64 j ∧ kk = .int .i64 (k0 + j : Nat) ∧ Own wr base (some ⟨g, 0, none⟩) len cap (marks k0 j ++ zs.drop j) ∧ w.grownBy wr (some g)) (fun _ i _ => len - (intOf i).toNat)
    case atStart => exact ⟨0, Nat.zero_le _, rfl, rfl, by simpa [marks] using h, World.grownBy.refl _ _⟩
    case round =>
      obtain ⟨j, hj, rfl, rfl, hown, hgr⟩ := hrel
      by_cases hlt : j < len
      · have hc := hown.cellAt j hlt
        have hf := hown.frozenAt j
        have hset := hown.set j (((k0 + j) % 256 : Nat) : Int) (by omega)
        rw [marks_step k0 j zs (by have := hzl.out; omega)] at hset
        have R := Lib.hid hset
        clear hset hown h
        go_wp2
        go_roundw
        case rel => exact ⟨j + 1, by omega, by go_num, by go_num, R.out.1, grown_trans hgr R.out.2⟩
        case measure => simp [intOf]; omega
      · obtain rfl : j = len := by omega
        go_wp2
        go_ret
        exact ⟨by go_num, by have := hown; rw [List.drop_of_length_le (by have := hzl.out; omega)] at this; simpa using this, hgr⟩
end Go.Proofs.Ytbngdenlplbjhaa
