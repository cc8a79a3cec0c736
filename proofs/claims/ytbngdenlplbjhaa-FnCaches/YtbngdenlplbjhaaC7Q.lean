/-
  slices.SortFunc of a short list of neighbours.
-/
import Derived.Test.YtbngdenlplbjhaaC7P
namespace Go.Proofs.Ytbngdenlplbjhaa
open Go.ChangeShapes Go.WideShapes Go.ChangeAt Go.RowKit
open Go.ChangeMaps (setBlock)

set_option maxRecDepth 20000 in
set_option maxHeartbeats 4000000 in
theorem len64_any (n : Nat) (hn : n ≤ 4) (w : World) : Calls Try.prog 118 #[.int .u64 n] w fun e w' => (∃ m, e = .returned (.int .i64 m)) ∧ w = w' := by
  have hh : n = 0 ∨ n = 1 ∨ n = 2 ∨ n = 3 ∨ n = 4 := by omega
  rcases hh with rfl | rfl | rfl | rfl | rfl
  all_goals
    go_enter Try.func118, Try.ntmps118
    go_wp2
    go_ret
    exact ⟨⟨_, rfl⟩, rfl⟩
theorem len_any (n : Nat) (hn : n ≤ 4) (w : World) : Calls Try.prog 105 #[.int .u64 n] w fun e w' => (∃ m, e = .returned (.int .i64 m)) ∧ w = w' := by
  have K := Lib.hid (len64_any n hn w)
  go_enter Try.func105, Try.ntmps105
  go_wp2_with fail
  refine K.out.mono ?_
  rintro e w1 ⟨⟨m, rfl⟩, rfl⟩
  go_wp2
  go_ret
  exact ⟨⟨_, rfl⟩, rfl⟩

def SortedN (base g n cap : Nat) (ps : List Nt) (w : World) (e : Ending) (w' : World) : Prop := e = .returned (.tuple #[]) ∧ ∃ ss, ss.Perm ps ∧ riseN ss ∧ Nw w' base g n cap ss ∧ Turn g (g + 1) w w'
set_option maxHeartbeats 4000000 in
theorem pdqN_any (bx b : Nat) (t : TypeId) (N0 : List Nt) (ms : Array MapEntry) (clock : Nat) (g n cap base : Nat) (ps : List Nt) (w : World) (L : Int) (h : Nw w base g n cap ps) (hn : n ≤ 4) (hx : Box w bx t #[.map (some b)]) (hm : Mp w b N0 ms clock) (hbx : bx ≠ g) (hb : b ≠ g) (hmem : ∀ q ∈ ps, q ∈ N0) :
    Calls Try.prog 104 #[.slice (some ⟨g, 0, none⟩) n cap, .int .i64 0, .int .i64 n, .int .i64 L, .func (.func 76) #[] #[.pointer (some ⟨bx, 0, none⟩)]] w (SortedN base g n cap ps w) := by
  have K := Lib.hid (insertN_any bx b t N0 ms clock g n cap base ps w h (by omega) hx hm hbx hb hmem)
  have h12 : (n : Int) ≤ 12 := by omega
  have h0 : IntKind.i64.wrap ((n : Int) - 0) = n := (IntWalk.i64_in _ (by omega)).trans (by omega)
  have h0' : IntKind.i64.wrap (n : Int) = n := IntWalk.i64_in _ (by omega)
  clear h hx hm
  go_enter Try.func104, Try.ntmps104
  go_wp2_with fail
  go_loopw [1, 2, 3, 10, 11] (fun a b l x y wr => a = .int .i64 0 ∧ b = .int .i64 n ∧ l = .int .i64 L ∧ x = .bool true ∧ y = .bool true ∧ w = wr) (fun _ _ _ _ _ _ => 0)
  case atStart => exact ⟨rfl, rfl, rfl, rfl, rfl, rfl⟩
  case round =>
    obtain ⟨rfl, rfl, rfl, rfl, rfl, rfl⟩ := hrel
    go_wp2_with fail
    refine K.out.mono ?_
    rintro e w1 ⟨rfl, hh⟩
    have HH := Lib.hid hh
    clear hh K
    go_wp2
    go_end0
    exact ⟨rfl, HH.out⟩
set_option maxHeartbeats 4000000 in
theorem sortN_any (bx b : Nat) (t : TypeId) (N0 : List Nt) (ms : Array MapEntry) (clock : Nat) (g n cap base : Nat) (ps : List Nt) (w : World) (h : Nw w base g n cap ps) (hn : n ≤ 4) (hx : Box w bx t #[.map (some b)]) (hm : Mp w b N0 ms clock) (hbx : bx ≠ g) (hb : b ≠ g) (hmem : ∀ q ∈ ps, q ∈ N0) :
    Calls Try.prog 95 #[.slice (some ⟨g, 0, none⟩) n cap, .func (.func 76) #[] #[.pointer (some ⟨bx, 0, none⟩)]] w (SortedN base g n cap ps w) := by
  have K := Lib.hid (fun L => pdqN_any bx b t N0 ms clock g n cap base ps w L h hn hx hm hbx hb hmem)
  have KL := Lib.hid (len_any n hn w)
  have hcv : IntKind.u64.wrap (n : Int) = n := IntWalk.u64_in _ (by omega)
  clear h hx hm
  go_enter Try.func95, Try.ntmps95
  go_wp2_with fail
  refine KL.out.mono ?_
  rintro e w1 ⟨⟨m, rfl⟩, rfl⟩
  go_wp2_with fail
  refine (K.out m).mono ?_
  rintro e w1 ⟨rfl, hh⟩
  have HH := Lib.hid hh
  clear hh K
  go_wp2
  go_end0
  exact ⟨rfl, HH.out⟩
end Go.Proofs.Ytbngdenlplbjhaa
