/-
  inOrder, out of the contract of slices.Collect over maps.Keys.
-/
import Derived.Test.YtbngdenlplbjhaaC7Q
namespace Go.Proofs.Ytbngdenlplbjhaa
open Go.ChangeShapes Go.WideShapes Go.ChangeAt Go.RowKit
open Go.ChangeMaps (setBlock)

/-- the keys of a map, in whatever order -/
def KeysOut (ns : List Nt) (W : World) (e : Ending) (w' : World) : Prop :=
  ∃ ps : List Nt, ps.Perm ns ∧ ((ps = [] ∧ e = .returned (.slice none 0 0)) ∨ ∃ g cap, e = .returned (.slice (some ⟨g, 0, none⟩) ps.length cap) ∧ Nw w' W.heap.size g ps.length cap ps) ∧ Below W.heap.size W w'
def ColC : Prop := ∀ (W : World) (bx b : Nat) (ns : List Nt) (ms : Array MapEntry) (clock : Nat), Box W bx 80 #[.map (some b)] → Mp W b ns ms clock → ns.length ≤ 4 →
  Calls Try.prog 94 #[.func (.func 96) #[] #[.pointer (some ⟨bx, 0, none⟩)]] W (KeysOut ns W)

set_option maxHeartbeats 2000000 in
theorem insertN_nil (c : Value) (w : World) : Calls Try.prog 109 #[.slice none 0 0, .int .i64 0, .int .i64 0, c] w fun e w' => e = .returned (.tuple #[]) ∧ w = w' := by
  go_enter Try.func109, Try.ntmps109
  go_wp2
  go_loopw [8] (fun i wr => i = .int .i64 1 ∧ w = wr) (fun _ _ => 0)
  case atStart => exact ⟨rfl, rfl⟩
  case round =>
    obtain ⟨rfl, rfl⟩ := hrel
    go_wp2
    exact bodyPost_end (results_none (fn := Try.f109) (by kernel_rfl) _ _ _) (by rfl) ⟨rfl, rfl⟩
set_option maxHeartbeats 4000000 in
theorem pdqN_nil (c : Value) (L : Int) (w : World) : Calls Try.prog 104 #[.slice none 0 0, .int .i64 0, .int .i64 0, .int .i64 L, c] w fun e w' => e = .returned (.tuple #[]) ∧ w = w' := by
  have K := Lib.hid (insertN_nil c w)
  go_enter Try.func104, Try.ntmps104
  go_wp2_with fail
  go_loopw [1, 2, 3, 10, 11] (fun a b l x y wr => a = .int .i64 0 ∧ b = .int .i64 0 ∧ l = .int .i64 L ∧ x = .bool true ∧ y = .bool true ∧ w = wr) (fun _ _ _ _ _ _ => 0)
  case atStart => exact ⟨rfl, rfl, rfl, rfl, rfl, rfl⟩
  case round =>
    obtain ⟨rfl, rfl, rfl, rfl, rfl, rfl⟩ := hrel
    go_wp2_with fail
    refine K.out.mono ?_
    rintro e w1 ⟨rfl, hh⟩
    have HH := Lib.hid hh
    clear hh K
    go_wp2
    exact bodyPost_ret (v := .tuple #[]) (results_none rfl _ _ _) rfl ⟨rfl, HH.out⟩
set_option maxHeartbeats 4000000 in
theorem sortN_nil (c : Value) (w : World) : Calls Try.prog 95 #[.slice none 0 0, c] w fun e w' => e = .returned (.tuple #[]) ∧ w = w' := by
  have K := Lib.hid (fun L => pdqN_nil c L w)
  have KL := Lib.hid (len_any 0 (by omega) w)
  go_enter Try.func95, Try.ntmps95
  go_wp2_with fail
  refine KL.out.mono ?_
  rintro e w1 ⟨⟨m, rfl⟩, rfl⟩
  go_wp2_with fail
  refine (K.out m).mono ?_
  rintro e w1 ⟨rfl, hh⟩
  have HH := Lib.hid hh
  clear hh K
  go_wp2
  go_end0
  exact ⟨rfl, HH.out⟩

theorem Nw.nb {w : World} {base g n cap : Nat} {ns : List Nt} (h : Nw w base g n cap ns) : Nb w (some ⟨g, 0, none⟩) n cap (ns.map (·.i)) := by
  rcases h.row.2 with ⟨h0, _⟩ | ⟨g', c, cur, h1, h2, h3, h4, h5, _⟩
  · simp at h0
  · simp only [Value.slice.injEq, Option.some.injEq, true_and] at h1
    obtain ⟨hh, rfl⟩ := h1
    cases hh
    refine ⟨by rw [List.length_map]; exact h.length, h4, h5, fun x hx => ?_, .inr ⟨g, 0, rfl, fun i x hx => ?_⟩⟩
    · cases hx
      exact ⟨_, _, h3⟩
    · rw [List.getElem?_map] at hx
      obtain ⟨q, hq, rfl⟩ := Option.map_eq_some_iff.1 hx
      rw [Nat.zero_add]
      exact h.at hq
theorem Nb.nil0 (w : World) : Nb w none 0 0 [] := ⟨rfl, Nat.le_refl _, Nat.zero_le _, fun _ hx => (by cases hx), .inl rfl⟩

set_option maxHeartbeats 4000000 in
theorem sortedFunc_any (hC : ColC) (bx by' b : Nat) (t : TypeId) (ns : List Nt) (ms : Array MapEntry) (clock : Nat) (w : World) (hx : Box w bx t #[.map (some b)]) (hy : Box w by' 80 #[.map (some b)]) (hm : Mp w b ns ms clock) (h4 : ns.length ≤ 4) (hu : Up ns) :
    Calls Try.prog 78 #[.func (.func 96) #[] #[.pointer (some ⟨by', 0, none⟩)], .func (.func 76) #[] #[.pointer (some ⟨bx, 0, none⟩)]] w fun e w' => ∃ a len cap, e = .returned (.slice a len cap) ∧ Nb w' a len cap (ns.map (·.i)) ∧ Below w.heap.size w w' := by
  have KC := Lib.hid (hC w by' b ns ms clock hy hm h4)
  have HX := Lib.hid hx
  have HM := Lib.hid hm
  have H4 := Lib.hid h4
  have HU := Lib.hid hu
  clear hC hx hy hm h4 hu
  go_enter Try.func78, Try.ntmps78
  go_wp2_with fail
  refine KC.out.mono ?_
  rintro e w1 ⟨ps, hp, hps, b1⟩
  have HP := Lib.hid hp
  rcases hps with ⟨rfl, rfl⟩ | ⟨g, cap, rfl, hw⟩
  · have K := Lib.hid (sortN_nil (.func (.func 76) #[] #[.pointer (some ⟨bx, 0, none⟩)]) w1)
    have B1 := Lib.hid b1
    have HN : Hid (ns = []) := List.Perm.eq_nil hp.symm
    clear b1 hp KC
    go_wp2_with fail
    refine K.out.mono ?_
    rintro e w2 ⟨rfl, rfl⟩
    go_wp2
    go_ret
    exact ⟨_, _, _, rfl, by rw [HN.out]; exact Nb.nil0 _, B1.out⟩
  · have hg := hw.lt
    have hlen : ps.length ≤ 4 := by rw [hp.length_eq]; exact H4.out
    have K := Lib.hid (sortN_any bx b t ns ms clock g ps.length cap w.heap.size ps w1 hw hlen (HX.out.below b1 HX.out.lt) (HM.out.below b1) (by have := HX.out.lt; omega) (by have := HM.out.lt; omega) (fun q hq => hp.mem_iff.1 hq))
    have B1 := Lib.hid b1
    clear b1 hp KC hw
    generalize ps.length = n at *
    go_wp2_with fail
    refine K.out.mono ?_
    rintro e w2 ⟨rfl, ss, hss, hr, hw2, ht⟩
    have HS : Hid (ss = ns) := rise_uniq HU.out (hss.trans HP.out) hr
    have W2 := Lib.hid hw2
    have B2 := Lib.hid (B1.out.trans ((ht.mono (lo' := w.heap.size) hg.1 (Nat.le_refl _)).below B1.out.size))
    clear hss hr hw2 ht K
    go_wp2
    go_ret
    exact ⟨_, _, _, rfl, by rw [← HS.out]; exact W2.out.nb, B2.out⟩
set_option maxHeartbeats 1000000 in
theorem inOrder_any (hC : ColC) : OrdC := by
  intro w b ns ms clock hm h4 hu
  have B0 := Lib.hid ((Below.refl w.heap.size w).alloc (Nat.le_refl _) (.cells #[.map (some b)] 80))
  have X0 := Lib.hid (Box.new w 80 #[.map (some b)])
  have M0 := Lib.hid (hm.below B0.out)
  have HB := Lib.hid hm.lt
  have HC := Lib.hid hC
  have H4 := Lib.hid h4
  have HU := Lib.hid hu
  have x0 := X0.out.cell 0
  clear hm hC h4 hu
  go_enter Try.func42, Try.ntmps42
  go_wp2_with fail
  refine (keysOf_any b _).mono ?_
  rintro e w1 ⟨rfl, y1, b1⟩
  simp only [World.size_alloc] at y1 ⊢
  have K := Lib.hid (sortedFunc_any HC.out w.heap.size (w.heap.size + 1) b 80 ns ms clock w1 (X0.out.below b1 X0.out.lt) y1 (M0.out.below b1) H4.out HU.out)
  have B1 := Lib.hid (B0.out.trans (b1.mono B0.out.size))
  clear b1 y1
  go_wp2_with fail
  refine K.out.mono ?_
  rintro e w2 ⟨a2, n2, c2, rfl, o2, b2⟩
  have O2 := Lib.hid o2
  have B2 := Lib.hid (B1.out.trans (b2.mono B1.out.size))
  clear o2 b2 K
  go_wp2
  go_ret
  exact ⟨_, _, _, rfl, O2.out, B2.out⟩
end Go.Proofs.Ytbngdenlplbjhaa
