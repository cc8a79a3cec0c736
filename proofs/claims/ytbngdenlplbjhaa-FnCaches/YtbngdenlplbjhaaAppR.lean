/-
  Bytes appended to a slice that owns its array, as a step of a region that draws its order; and the bytes of a question or an answer of addresses by the model.
-/
import Derived.Test.YtbngdenlplbjhaaApp
import Derived.Test.YtbngdenlplbjhaaArp
import Derived.Deep.RegionHeld3
import Derived.Deep.RegionLaw
namespace Go.Proofs.Ytbngdenlplbjhaa
open Go.ChangeShapes Go.WideShapes Go.ChangeAt Go.RowKit

theorem run_append_bytes (w : World) (ty : TypeId) (base : Nat) (a : Option Addr) (len cap : Nat) (zs : List Int) (hown : Own w base a len cap zs)
    (b : Option Addr) (lb cb : Nat) (ys : List Int) (hr : Rd w b lb cb ys) (hb : base ≤ w.heap.size) (hsz : len + lb ≤ 1099511627776) :
    ∃ a' c' w', (Builtin.append_ #[22, 22] ty #[.slice a len cap, .slice b lb cb]).run Try.prog w = .ok (.slice a' (len + lb) c') w' ∧ Own w' base a' (len + lb) c' (zs ++ ys) ∧ w.grownBy w' (Value.slice a len cap).ownBlock := by
  obtain ⟨i0, hi, hz0, hz1, hz2⟩ := info_parts Try.infoU8
  have hl := hown.length
  have hlb := hr.length
  cases b with
  | none =>
    obtain ⟨rfl, rfl⟩ := hr.nil rfl
    obtain rfl : ys = [] := List.length_eq_zero_iff.1 hlb
    have hrun := run_append_owned_none (P := Try.prog) (w := w) base 22 ty 5 i0 1 Try.underlying22 hi _ _ _ hown.row
    exact ⟨a, cap, w, hrun, by simpa using hown, World.grownBy.refl _ _⟩
  | some ad =>
    obtain ⟨v', w', hrun, ho', hg, _⟩ := run_append_own (P := Try.prog) w base 22 ty 5 i0 (.int .u8 0) 1 1 Try.underlying22 hi hz0 hz1 hz2 rfl (by decide) _ _ _ hown.row ad lb cb (ys.map (.int .u8)) (by simpa using hlb) (by
      rcases hr.cells with h0 | ⟨bb, off, e, hc⟩
      · intro j u hu
        obtain rfl : ys = [] := List.length_eq_zero_iff.1 (by omega)
        simp at hu
      · cases e
        exact map_cells hlb hc) (ints_oneCell _ _) (by unfold maxLen; omega) (by omega) hb
    have ho'' := ho'
    rw [← List.map_append] at ho''
    rcases ho'.2 with ⟨rfl, hn⟩ | ⟨g, c, cur, rfl, _⟩
    · rw [hn] at ho''
      exact ⟨none, 0, w', by rw [hrun, hn], by rw [hn]; exact ⟨ho'', b8_app hown.b8 hr.b8⟩, hg⟩
    · exact ⟨_, c, w', hrun, ⟨ho'', b8_app hown.b8 hr.b8⟩, hg⟩

theorem append_step (w : World) {ops : Array Oper} {o : Oper} {ac : Act} {K : Act → World → Prop} {Q : Exit → Act → World → Prop} {E : Prop} (hgd : o.guard = none) (s x : Operand)
    (ho : o.op = .call { callee := .builtin .append, args := #[s, x], argTypes := #[22, 22] })
    (base : Nat) (a : Option Addr) (len cap : Nat) (zs : List Int) (hs : ac.eval s = .slice a len cap) (hown : Own w base a len cap zs)
    (b : Option Addr) (lb cb : Nat) (ys : List Int) (hx : ac.eval x = .slice b lb cb) (hr : Rd w b lb cb ys) (hb : base ≤ w.heap.size) (hsz : len + lb ≤ 1099511627776)
    (h : ∀ a' c' w', Own w' base a' (len + lb) c' (zs ++ ys) → Below base w w' → K (ac.put o.dst (.slice a' (len + lb) c')) w') :
    if Region.wanted o (yielded ops ac.tmps) = true then Oper.wp Try.prog o ac w K Q else E := by
  have hw : Region.wanted o (yielded ops ac.tmps) = true := by simp [Region.wanted, hgd]
  rw [if_pos hw]
  obtain ⟨a', c', w', hrun, ho', hg⟩ := run_append_bytes w o.type base a len cap zs hown b lb cb ys hr hb hsz
  unfold Oper.wp execOp
  simp only [ho, resolve, invoke, builtin, Sem.run_bind, Sem.run_pure, Result.andThen_ok, List.map_toArray, List.map_cons, List.map_nil, hs, hx, hrun]
  refine h a' c' w' ho' (below_of_grown hg hb fun k e => ?_)
  cases a with
  | none => simp [Value.ownBlock] at e
  | some y =>
    simp [Value.ownBlock] at e
    have := (hown.lt y rfl).1
    omega

theorem keepB {B : Nat} {W w1 : World} (hb : Below B W w1) {p : Addr} {u : Value} (h : W.cell? p = some u) (hp : p.block < B) : w1.cell? p = some u := (hb.cell hp).trans h
theorem own_lit6 (w : World) (base : Nat) (hb : base ≤ w.heap.size) : Own (w.alloc (.cells #[.int .u8 0, .int .u8 1, .int .u8 8, .int .u8 0, .int .u8 6, .int .u8 4] 5)) base (some ⟨w.heap.size, 0, none⟩) 6 6 [0, 1, 8, 0, 6, 4] :=
  ⟨World.ownsRow_lit w #[.int .u8 0, .int .u8 1, .int .u8 8, .int .u8 0, .int .u8 6, .int .u8 4] 6 hb (by unfold maxLen; omega) rfl, by intro n hn; simp at hn; omega⟩

def arpL (op fm fi tm ti : Int) : List Int := [0, 1, 8, 0, 6, 4] ++ be op 2 ++ be fm 6 ++ be fi 4 ++ be tm 6 ++ be ti 4

end Go.Proofs.Ytbngdenlplbjhaa
