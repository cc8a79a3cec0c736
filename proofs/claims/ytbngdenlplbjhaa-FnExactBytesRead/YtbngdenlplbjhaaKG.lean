/-
  Sums over rows, rows when they are marked, lists of zeros; a whole struct loaded out of a list and stored into one.
-/
import Derived.Test.YtbngdenlplbjhaaK8B
namespace Go.Proofs.Ytbngdenlplbjhaa
open Go.ChangeShapes Go.WideShapes Go.ChangeAt Go.RowKit

def sw {α : Type} (f : α → Nat) : List α → Nat
  | [] => 0
  | p :: ps => f p + sw f ps
theorem sw_app {α : Type} (f : α → Nat) : ∀ ls rs : List α, sw f (ls ++ rs) = sw f ls + sw f rs
  | [], rs => by simp [sw]
  | p :: ls, rs => by simp [sw, sw_app f ls rs]; omega
theorem sw_succ {α : Type} (f : α → Nat) {rs : List α} {k : Nat} {p : α} (h : rs[k]? = some p) : sw f (rs.take (k + 1)) = sw f (rs.take k) + f p := by
  rw [List.take_add_one, h, sw_app]
  simp [sw]
theorem sw_take_le {α : Type} (f : α → Nat) (rs : List α) (k : Nat) : sw f (rs.take k) ≤ sw f rs := by
  have := sw_app f (rs.take k) (rs.drop k)
  rw [List.take_append_drop] at this
  omega
theorem sw_mem {α : Type} (f : α → Nat) {rs : List α} {p : α} (h : p ∈ rs) : f p ≤ sw f rs := by
  induction rs with
  | nil => cases h
  | cons q rs ih =>
    rcases List.mem_cons.1 h with rfl | h
    · simp [sw]
    · have := ih h; simp only [sw]; omega
theorem sw_map {α β : Type} (f : β → Nat) (g : α → β) : ∀ rs : List α, sw f (rs.map g) = sw (fun p => f (g p)) rs
  | [] => rfl
  | p :: rs => by simp only [List.map_cons, sw, sw_map f g rs]
theorem sw_le {α : Type} {f g : α → Nat} (c : Nat) : ∀ {rs : List α}, (∀ p ∈ rs, f p ≤ c + c * g p) → sw f rs ≤ c * (rs.length + sw g rs)
  | [], _ => by simp [sw]
  | p :: rs, h => by
    have h1 := h p (List.mem_cons_self ..)
    have h2 := sw_le (f := f) (g := g) c (rs := rs) (fun q hq => h q (List.mem_cons_of_mem _ hq))
    simp only [sw, List.length_cons]
    have e : c * (rs.length + 1 + (g p + sw g rs)) = c * (rs.length + sw g rs) + (c + c * g p) := by
      rw [show rs.length + 1 + (g p + sw g rs) = (rs.length + sw g rs) + (1 + g p) by omega, Nat.mul_add c (rs.length + sw g rs), Nat.mul_add c 1, Nat.mul_one]
    omega
/-- how much a list counts where it is sized -/
def wtL {α : Type} (f : α → Nat) (vs : List α) : Nat := vs.length + sw f vs
theorem wtL_map {α β : Type} (f : β → Nat) (g : α → β) (rs : List α) : wtL f (rs.map g) = rs.length + sw (fun p => f (g p)) rs := by unfold wtL; rw [List.length_map, sw_map]
/-- what is left, or -1 -/
def szR (n l : Nat) : Int := if n ≤ l then ((l - n : Nat) : Int) else -1
theorem szR_t {n l : Nat} (h : n ≤ l) : szR n l = ((l - n : Nat) : Int) := if_pos h
theorem szR_f {n l : Nat} (h : ¬ n ≤ l) : szR n l = -1 := if_neg h

theorem szByteS_any (y : Yt) (l : Nat) (w : World) (h : Yt.ok w y) (hl : l ≤ 1048576) :
    Calls Try.prog 84 #[.slice y.a y.l y.c, .int .i64 l] w fun e w' => e = .returned (.int .i64 (szR y.z.length l)) ∧ Below w.heap.size w w' := by
  by_cases hs : y.z.length ≤ l
  · rw [szR_t hs]; exact szByteS_yt y l w h hs hl
  · rw [szR_f hs]; exact szByteS_yf y l w h hs hl

/-- the rows when they are marked from k on, each by f, that lays g of it -/
def markRs {α : Type} (f : Nat → α → α) (g : α → Nat) : Nat → List α → List α
  | _, [] => []
  | k, p :: ps => f k p :: markRs f g (k + g p) ps
theorem markRs_len {α : Type} (f : Nat → α → α) (g : α → Nat) : ∀ (k : Nat) (rs : List α), (markRs f g k rs).length = rs.length
  | _, [] => rfl
  | k, p :: ps => by simp only [markRs, List.length_cons, markRs_len f g _ ps]
theorem markRs_app {α : Type} (f : Nat → α → α) (g : α → Nat) : ∀ (k : Nat) (ls rs : List α), markRs f g k (ls ++ rs) = markRs f g k ls ++ markRs f g (k + sw g ls) rs
  | k, [], rs => by simp [markRs, sw]
  | k, p :: ls, rs => by
    simp only [List.cons_append, markRs, markRs_app f g _ ls rs, sw]
    rw [show k + g p + sw g ls = k + (g p + sw g ls) by omega]
theorem row_split {α : Type} {rs : List α} {k : Nat} {p : α} (h : rs[k]? = some p) : rs = rs.take k ++ (p :: rs.drop (k + 1)) ∧ (rs.take k).length = k := by
  have hlt := (List.getElem?_eq_some_iff.1 h).1
  exact ⟨by rw [← (List.getElem?_eq_some_iff.1 h).2, ← List.drop_eq_getElem_cons hlt, List.take_append_drop], by rw [List.length_take]; omega⟩
theorem markRs_at {α : Type} (f : Nat → α → α) (g : α → Nat) (k0 : Nat) {rs : List α} {k : Nat} {p : α} (h : rs[k]? = some p) : (markRs f g k0 rs)[k]? = some (f (k0 + sw g (rs.take k)) p) := by
  obtain ⟨e, hk⟩ := row_split h
  conv => lhs; rw [e, markRs_app, markRs]
  rw [List.getElem?_append_right (by rw [markRs_len]; omega), markRs_len, hk, Nat.sub_self]
  rfl
theorem markRs_step {α : Type} (f : Nat → α → α) (g : α → Nat) (k0 : Nat) {rs : List α} {k : Nat} {p : α} (h : rs[k]? = some p) : (markRs f g k0 (rs.take k) ++ rs.drop k).set k (f (k0 + sw g (rs.take k)) p) = markRs f g k0 (rs.take (k + 1)) ++ rs.drop (k + 1) := by
  have hlt := (List.getElem?_eq_some_iff.1 h).1
  obtain ⟨_, hk⟩ := row_split h
  rw [List.set_append_right _ _ (by rw [markRs_len]; omega), markRs_len, hk, Nat.sub_self, List.drop_eq_getElem_cons hlt, (List.getElem?_eq_some_iff.1 h).2, List.set_cons_zero, List.take_add_one, h, Option.toList_some, markRs_app]
  simp [markRs]
theorem markRs_left {α : Type} (f : Nat → α → α) (g : α → Nat) (k0 : Nat) {rs : List α} {k : Nat} {p : α} (h : rs[k]? = some p) : (markRs f g k0 (rs.take k) ++ rs.drop k)[k]? = some p := by
  obtain ⟨_, hk⟩ := row_split h
  rw [List.getElem?_append_right (by rw [markRs_len]; omega), markRs_len, hk, Nat.sub_self, List.getElem?_drop, Nat.add_zero, h]
theorem markRs_blks {α : Type} {M : Md α} (f : Nat → α → α) (g : α → Nat) (hf : ∀ k p, M.blks (f k p) = M.blks p) : ∀ (k : Nat) (rs : List α), (markRs f g k rs).flatMap M.blks = rs.flatMap M.blks
  | _, [] => rfl
  | k, p :: ps => by simp only [markRs, List.flatMap_cons, hf, markRs_blks f g hf _ ps]
def Lt.mark {α : Type} (f : Nat → α → α) (g : α → Nat) (k : Nat) (x : Lt α) : Lt α := { x with rs := markRs f g k x.rs }
theorem Lt.mark_blks {α : Type} {M : Md α} (f : Nat → α → α) (g : α → Nat) (hf : ∀ k p, M.blks (f k p) = M.blks p) (k : Nat) (x : Lt α) : Lt.blks M (Lt.mark f g k x) = Lt.blks M x := by
  unfold Lt.blks Lt.mark
  dsimp only
  rw [markRs_blks f g hf]

theorem belowStep {a b c : World} (h : Below a.heap.size a b) (k : Below b.heap.size b c) : Below a.heap.size a c := h.trans (k.mono h.size)
theorem app2 {α : Type} {a b c d : List α} (h : a = b) (k : c = d) : a ++ c = b ++ d := by rw [h, k]

/-- rows of zeros -/
theorem madeCells_at (zs : Array Value) (n i j : Nat) (hj : j < zs.size) (hi : i < n) : (madeCells zs (n * zs.size)).toList[i * zs.size + j]? = zs[j]? := by
  have h1 : i * zs.size + j < n * zs.size := by
    have : (i + 1) * zs.size ≤ n * zs.size := Nat.mul_le_mul_right _ hi
    rw [Nat.succ_mul] at this
    omega
  have h2 : (i * zs.size + j) % zs.size = j := by rw [Nat.mul_comm, Nat.mul_add_mod, Nat.mod_eq_of_lt hj]
  simp [madeCells, h1, h2, hj]
theorem Lt.made {α : Type} {M : Md α} {w w1 : World} {base n : Nat} {ty : TypeId} {zs : Array Value} (z : α) (hz : M.cells z = zs.toList) (hok : M.ok w1 z) (hb : M.blks z = []) (hs : M.n = zs.size)
    (h : w1.ownsRow base ty M.n (.slice (some ⟨w.heap.size, 0, none⟩) n n) n (madeCells zs (n * M.n)).toList) :
    Lt.ok M w1 ⟨some ⟨w.heap.size, 0, none⟩, n, n, List.replicate n z⟩ ∧ New w.heap.size w1 (Lt.blks M ⟨some ⟨w.heap.size, 0, none⟩, n, n, List.replicate n z⟩) := by
  have hm : n ≤ maxLen := by
    rcases h.2 with ⟨h1, _⟩ | ⟨g, c, cur, h1, _, _, _, h2, _⟩
    · cases h1
    · simp only [Value.slice.injEq, true_and] at h1
      omega
  have hfl : (List.replicate n z).flatMap M.blks = [] := by
    rw [List.flatMap_eq_nil_iff]
    intro p hp'
    rw [(List.mem_replicate.1 hp').2]
    exact hb
  refine ⟨⟨by simp, Nat.le_refl _, hm, by simp, .inr ⟨_, 0, rfl, fun i p hi j u hu => ?_⟩, fun p hp' => ?_⟩, ?_⟩
  · have hi' : i < n := by have := (List.getElem?_eq_some_iff.1 hi).1; simpa using this
    rw [List.getElem?_replicate, if_pos hi'] at hi
    cases hi
    rw [hz] at hu
    have hj : j < zs.size := by have := (List.getElem?_eq_some_iff.1 hu).1; simpa using this
    have hlt : i * M.n + j < n * M.n := by
      have : (i + 1) * M.n ≤ n * M.n := Nat.mul_le_mul_right _ hi'
      rw [Nat.succ_mul] at this
      omega
    rw [Nat.zero_add, h.cellAt (i * M.n + j) hlt, hs, madeCells_at zs n i j hj hi']
    simpa using hu
  · rw [(List.mem_replicate.1 hp').2]
    exact hok
  · unfold Lt.blks
    dsimp only
    rw [hfl, List.append_nil]
    refine ⟨⟨?_, fun b hb' => ?_⟩, fun b hb' => ?_⟩
    · unfold sb; dsimp only; split
      · exact List.nodup_nil
      · exact List.pairwise_singleton _ _
    · obtain ⟨p, e, _, rfl⟩ := mem_sb hb'
      cases e
      rcases h.2 with ⟨h1, _⟩ | ⟨g, c, cur, h1, _, h2, _⟩
      · cases h1
      · simp only [Value.slice.injEq] at h1
        obtain ⟨h1, _⟩ := h1
        cases h1
        exact ⟨_, _, h2⟩
    · obtain ⟨p, e, _, rfl⟩ := mem_sb hb'
      cases e
      exact Nat.le_refl _

/-- a whole row stored -/
theorem setCells_block (b : Nat) : ∀ (vs : List Value) (o : Nat) (w : World) (k : Nat), k ≠ b → (w.setCells b o vs).heap[k]? = w.heap[k]?
  | [], _, _, _, _ => rfl
  | v :: vs, o, w, k, h => by
    rw [World.setCells, setCells_block b vs (o + 1) _ k h]
    exact heap_setCell_other w ⟨b, o, none⟩ k v h
theorem setCells_os (b : Nat) : ∀ (vs : List Value) (o : Nat) (w : World), (w.setCells b o vs).os = w.os ∧ (w.setCells b o vs).tape = w.tape ∧ (w.setCells b o vs).output = w.output ∧ (w.setCells b o vs).heap.size = w.heap.size
  | [], _, _ => ⟨rfl, rfl, rfl, rfl⟩
  | v :: vs, o, w => by
    rw [World.setCells]
    obtain ⟨h1, h2, h3, h4⟩ := setCells_os b vs (o + 1) (w.setCell ⟨b, o, none⟩ v)
    exact ⟨h1, h2, h3, by rw [h4, World.size_setCell]⟩
theorem setCells_unf (b : Nat) : ∀ (vs : List Value) (o : Nat) (w : World) (k : Nat), unf w k → unf (w.setCells b o vs) k
  | [], _, _, _, h => h
  | v :: vs, o, _, k, h => setCells_unf b vs (o + 1) _ k (h.set b o v)
theorem chg_setCells (b o : Nat) (vs : List Value) (w : World) : Chg [b] w (w.setCells b o vs) := by
  obtain ⟨h1, h2, h3, h4⟩ := setCells_os b vs o w
  exact ⟨h1, h2, h3, by omega, fun k _ hn => setCells_block b vs o w k (fun e => hn (List.mem_singleton.2 e)), fun k hk => setCells_unf b vs o w k hk⟩
theorem chg_set (b o : Nat) (v : Value) (w : World) : Chg [b] w (w.setCell ⟨b, o, none⟩ v) := by
  have g := grown_setCell w ⟨b, o, none⟩ v
  exact ⟨g.os, g.tape, g.output, g.size, fun k hk hn => heap_setCell_other w ⟨b, o, none⟩ k v (fun e => hn (List.mem_singleton.2 e)), fun k hk => hk.set b o v⟩
theorem Chg.set {bs : List Nat} {w w' : World} (h : Chg bs w w') (b o : Nat) (v : Value) (hb : b ∈ bs) : Chg bs w (w'.setCell ⟨b, o, none⟩ v) :=
  h.trans ((chg_set b o v w').mono (fun k hk => by rw [List.mem_singleton.1 hk]; exact hb))
theorem Chg.boxed {bs : List Nat} {w w1 w' : World} {b : Nat} {t : TypeId} {us : Array Value} (h : Chg bs w w1) (x : Box w' b t us) (g : w1.grownBy w' (some b)) (hb : b ∈ bs) : Chg bs w w' :=
  h.trans ⟨g.os, g.tape, g.output, g.size, fun k hk hn => g.block k hk (fun e => by cases e; exact hn hb), fun k hk => by
    by_cases e : k = b
    · subst e; exact ⟨_, _, x⟩
    · exact hk.same (g.block k hk.lt (fun e' => e (Option.some.inj e')))⟩
theorem Box.putK {w : World} {b : Nat} {t : TypeId} {vs : Array Value} (h : Box w b t vs) (i : Nat) (v : Value) : Box (w.setCell ⟨b, i, none⟩ v) b t (vs.setIfInBounds i v) := by
  have hlt := h.lt
  have h' : w.heap[b] = .cells vs t (0, 0) := by unfold Box at h; simpa [Array.getElem?_eq_getElem hlt] using h
  show (w.heap.modify b _)[b]? = _
  rw [Array.getElem?_eq_getElem (by simpa using hlt), Array.getElem_modify_self, h']
  rfl
def putAll (vs : Array Value) : Nat → List Value → Array Value
  | _, [] => vs
  | o, c :: cs => putAll (vs.setIfInBounds o c) (o + 1) cs
theorem Box.putCells {b : Nat} {t : TypeId} : ∀ (cs : List Value) (o : Nat) {w : World} {vs : Array Value}, Box w b t vs → Box (w.setCells b o cs) b t (putAll vs o cs)
  | [], _, _, _, h => h
  | c :: cs, o, _, _, h => Box.putCells cs (o + 1) (h.putK o c)
theorem Box.thereK {w : World} {b : Nat} {t : TypeId} {vs : Array Value} (h : Box w b t vs) (o n : Nat) (hn : o + n ≤ vs.size) : w.there b o n := fun j hj =>
  ⟨by rw [h.cell, Array.getElem?_eq_getElem (by omega)]; rfl, h.frozen _⟩
theorem Box.off {w : World} {b : Nat} {t : TypeId} {vs : Array Value} (h : Box w b t vs) (p : Addr) (v : Value) (hp : b ≠ p.block) : Box (w.setCell p v) b t vs := (heap_setCell_other w p b v hp).trans h
theorem Box.chg {bs : List Nat} {w w' : World} {b : Nat} {t : TypeId} {vs : Array Value} (h : Box w b t vs) (hc : Chg bs w w') (hb : b ∉ bs) : Box w' b t vs := (hc.block b h.lt hb).trans h
theorem Box.unf {w : World} {b : Nat} {t : TypeId} {vs : Array Value} (h : Box w b t vs) : unf w b := ⟨_, _, h⟩
/-- a whole struct loaded out of its block -/
theorem getBox_list (w : World) {ops : Array Oper} {rest : List Oper} {o : Oper} {ac : Act} {Q : Exit → Act → World → Prop} (hgd : o.guard = none) (ty : TypeId) (x : Operand)
    (ho : o.op = .load ty x) (b : Nat) (t : TypeId) (vs : Array Value) (hx : Box w b t vs) (ex : ac.eval x = .pointer (some ⟨b, 0, none⟩)) (d : TypeDesc) (hd : (match d with | .struct _ | .array _ _ => true | _ => false) = true) (hu : Try.prog.underlying ty = some d)
    (hi : (Try.prog.info? ty).map (·.size) = some vs.size)
    (h : wpList Try.prog ops Q rest (ac.put o.dst (.agg vs)) w) : wpList Try.prog ops Q (o :: rest) ac w := by
  refine wpList_plain hgd fun K hK => ?_
  have hrun := run_loadVar_row (P := Try.prog) w b t ty vs (0, 0) d hx hu (by cases d <;> first | rfl | exact hd) hi
  unfold Oper.wp execOp
  simp only [ho, ex, Instr.loadAt, Instr.sureAddr, Sem.run_bind, Sem.run_pure, Result.andThen_ok, hrun]
  exact hK _ _ h
theorem setBox_list (w : World) {ops : Array Oper} {rest : List Oper} {o : Oper} {ac : Act} {Q : Exit → Act → World → Prop} (hgd : o.guard = none) (ty : TypeId) (x y : Operand)
    (ho : o.op = .store ty x y) (b : Nat) (t : TypeId) (vs us : Array Value) (hx : Box w b t vs) (ex : ac.eval x = .pointer (some ⟨b, 0, none⟩)) (ey : ac.eval y = .agg us)
    (hi : (Try.prog.info? ty).map (·.size) = some us.size) (hs : vs.size = us.size) (h1 : us.all (·.oneCell') = true)
    (h : ∀ w', Box w' b t us → w.grownBy w' (some b) → wpList Try.prog ops Q rest (ac.put o.dst undef) w') : wpList Try.prog ops Q (o :: rest) ac w := by
  refine wpList_store_row hgd ty x y ho b us ex ey t vs hx hi hs h1 (h _ (setRow_heap w b _ us _ _ hx) ?_)
  exact ⟨rfl, rfl, rfl, by simp [World.setRow], fun k _ hk => setRow_other w b k _ (fun e => hk (by rw [e]))⟩
theorem Row.one {cs : List Value} (h : ∀ u ∈ cs, u.oneCell' = true) : cs.toArray.all (·.oneCell') = true := all_oneCell_toArray h
theorem Row.there {w : World} {b o : Nat} {cs : List Value} {n : Nat} (h : Row w b o cs) (hu : unf w b) (hn : n = cs.length) : w.there b o n := by
  subst hn
  exact fun j hj => ⟨World.rangeAt.isSome h j hj, hu.at _⟩
end Go.Proofs.Ytbngdenlplbjhaa
