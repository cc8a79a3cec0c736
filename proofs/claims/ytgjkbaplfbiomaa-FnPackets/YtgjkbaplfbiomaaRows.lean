/-
  No cell of these rows narrows 'for every input' (looked for: loops, veiled, ifaces, maps, wideKeys, modest, calm, conditions, laid).
  DERIVED. THE GIVEN ROWS OF THIS SEAT. 8 by the template 'for every input the law returns true; each argument reads behind the call as it read before'; 0 by the template 'total and deterministic' (their statements: YtgjkbaplfbiomaaTotals.lean).
  GIVEN WITH THE SEED: the statements are not yours to turn. If you find one false, say at which input.
  Laid BY PROGRAM, IN A SANDBOX (cutbox-rows.mjs): the forced cells as the released guide's own fill.sh prints them over the translation 9caede5435ee14da… (all of the seat's roots in one cut). By AI agents, Wed Nov 11 2026. No macro, syntax, notation, axiom, sorry.
-/
import Derived.Test.YtgjkbaplfbiomaaChecked
import GoSem.Claim
import GoSem.ClaimJoined
import GoSem.ClaimMapViews
import Derived.JoinedTies
import Derived.KernelRfl
namespace Go.Proofs.Ytgjkbaplfbiomaa
/- THE CELL 'sum', in the pinned program and in every row, IS THE sha256 OF THE DUMP (.gsa) THAT YtgjkbaplfbiomaaProg.lean LOADS. Nothing in Lean hashes anything: it is a label: what it is worth is what the hold of that sum in a sandbox is worth. -/
noncomputable def Try.pinned : Pinned := { name := "ytgjkbaplfbiomaa", sum := "9caede5435ee14da680b9e8dd29072db4ad9ddacb8aec029998ee22a68ddd3c6", checked := Try.checked }
namespace Rows
def none {H : Type} : Left H := { results := [], args := [] }

/-- 'laws.FnPackets': WHATEVER THE INPUT: true; the input reads as it did. -/
def fnPacketsSpec : ChangeSpec := { name := "fnPackets", fn := fun _ => fun
  | [d] => { results := [.lit (.bool true)], args := [d] }
  | _ => none }
def fnPacketsRow : OpenClaim := { program := "ytgjkbaplfbiomaa", sum := "9caede5435ee14da680b9e8dd29072db4ad9ddacb8aec029998ee22a68ddd3c6", func := "loop.example/g00726/laws.FnPackets", spec := "fnPackets", unfollowed := true, recurses := true, apart := false }
def FnPacketsSaid : Prop := fnPacketsRow.holds Try.pinned (OpenSpec.ofChange fnPacketsSpec)

/-- ITS FALSE NEIGHBOUR: 'it returns false'. Refute it at one input. -/
def fnPacketsWrong : ChangeSpec := { name := "fnPackets", fn := fun _ => fun
  | [d] => { results := [.lit (.bool false)], args := [d] }
  | _ => none }
def FnPacketsWrongFalsely : Prop := fnPacketsRow.holds Try.pinned (OpenSpec.ofChange fnPacketsWrong)

/-- 'laws.FnExactPacketFault': WHATEVER THE INPUT: true; the input reads as it did. -/
def fnExactPacketFaultSpec : ChangeSpec := { name := "fnExactPacketFault", fn := fun _ => fun
  | [d] => { results := [.lit (.bool true)], args := [d] }
  | _ => none }
def fnExactPacketFaultRow : OpenClaim := { program := "ytgjkbaplfbiomaa", sum := "9caede5435ee14da680b9e8dd29072db4ad9ddacb8aec029998ee22a68ddd3c6", func := "loop.example/g00726/laws.FnExactPacketFault", spec := "fnExactPacketFault", apart := false }
def FnExactPacketFaultSaid : Prop := fnExactPacketFaultRow.holds Try.pinned (OpenSpec.ofChange fnExactPacketFaultSpec)

/-- ITS FALSE NEIGHBOUR: 'it returns false'. Refute it at one input. -/
def fnExactPacketFaultWrong : ChangeSpec := { name := "fnExactPacketFault", fn := fun _ => fun
  | [d] => { results := [.lit (.bool false)], args := [d] }
  | _ => none }
def FnExactPacketFaultWrongFalsely : Prop := fnExactPacketFaultRow.holds Try.pinned (OpenSpec.ofChange fnExactPacketFaultWrong)

/-- 'laws.FnExactPackPacket': WHATEVER THE INPUT: true; the input reads as it did. -/
def fnExactPackPacketSpec : ChangeSpec := { name := "fnExactPackPacket", fn := fun _ => fun
  | [d] => { results := [.lit (.bool true)], args := [d] }
  | _ => none }
def fnExactPackPacketRow : OpenClaim := { program := "ytgjkbaplfbiomaa", sum := "9caede5435ee14da680b9e8dd29072db4ad9ddacb8aec029998ee22a68ddd3c6", func := "loop.example/g00726/laws.FnExactPackPacket", spec := "fnExactPackPacket", unfollowed := true, recurses := true, apart := false }
def FnExactPackPacketSaid : Prop := fnExactPackPacketRow.holds Try.pinned (OpenSpec.ofChange fnExactPackPacketSpec)

/-- ITS FALSE NEIGHBOUR: 'it returns false'. Refute it at one input. -/
def fnExactPackPacketWrong : ChangeSpec := { name := "fnExactPackPacket", fn := fun _ => fun
  | [d] => { results := [.lit (.bool false)], args := [d] }
  | _ => none }
def FnExactPackPacketWrongFalsely : Prop := fnExactPackPacketRow.holds Try.pinned (OpenSpec.ofChange fnExactPackPacketWrong)

/-- 'laws.FnExactReadPacket': WHATEVER THE INPUT: true; the input reads as it did. -/
def fnExactReadPacketSpec : ChangeSpec := { name := "fnExactReadPacket", fn := fun _ => fun
  | [d] => { results := [.lit (.bool true)], args := [d] }
  | _ => none }
def fnExactReadPacketRow : OpenClaim := { program := "ytgjkbaplfbiomaa", sum := "9caede5435ee14da680b9e8dd29072db4ad9ddacb8aec029998ee22a68ddd3c6", func := "loop.example/g00726/laws.FnExactReadPacket", spec := "fnExactReadPacket", unfollowed := true, recurses := true, apart := false }
def FnExactReadPacketSaid : Prop := fnExactReadPacketRow.holds Try.pinned (OpenSpec.ofChange fnExactReadPacketSpec)

/-- ITS FALSE NEIGHBOUR: 'it returns false'. Refute it at one input. -/
def fnExactReadPacketWrong : ChangeSpec := { name := "fnExactReadPacket", fn := fun _ => fun
  | [d] => { results := [.lit (.bool false)], args := [d] }
  | _ => none }
def FnExactReadPacketWrongFalsely : Prop := fnExactReadPacketRow.holds Try.pinned (OpenSpec.ofChange fnExactReadPacketWrong)

/-- 'laws.FnExactEchoFault': WHATEVER THE INPUT: true; the input reads as it did. -/
def fnExactEchoFaultSpec : ChangeSpec := { name := "fnExactEchoFault", fn := fun _ => fun
  | [d] => { results := [.lit (.bool true)], args := [d] }
  | _ => none }
def fnExactEchoFaultRow : OpenClaim := { program := "ytgjkbaplfbiomaa", sum := "9caede5435ee14da680b9e8dd29072db4ad9ddacb8aec029998ee22a68ddd3c6", func := "loop.example/g00726/laws.FnExactEchoFault", spec := "fnExactEchoFault", apart := false }
def FnExactEchoFaultSaid : Prop := fnExactEchoFaultRow.holds Try.pinned (OpenSpec.ofChange fnExactEchoFaultSpec)

/-- ITS FALSE NEIGHBOUR: 'it returns false'. Refute it at one input. -/
def fnExactEchoFaultWrong : ChangeSpec := { name := "fnExactEchoFault", fn := fun _ => fun
  | [d] => { results := [.lit (.bool false)], args := [d] }
  | _ => none }
def FnExactEchoFaultWrongFalsely : Prop := fnExactEchoFaultRow.holds Try.pinned (OpenSpec.ofChange fnExactEchoFaultWrong)

/-- 'laws.FnExactPackEcho': WHATEVER THE INPUT: true; the input reads as it did. -/
def fnExactPackEchoSpec : ChangeSpec := { name := "fnExactPackEcho", fn := fun _ => fun
  | [d] => { results := [.lit (.bool true)], args := [d] }
  | _ => none }
def fnExactPackEchoRow : OpenClaim := { program := "ytgjkbaplfbiomaa", sum := "9caede5435ee14da680b9e8dd29072db4ad9ddacb8aec029998ee22a68ddd3c6", func := "loop.example/g00726/laws.FnExactPackEcho", spec := "fnExactPackEcho", unfollowed := true, recurses := true, apart := false }
def FnExactPackEchoSaid : Prop := fnExactPackEchoRow.holds Try.pinned (OpenSpec.ofChange fnExactPackEchoSpec)

/-- ITS FALSE NEIGHBOUR: 'it returns false'. Refute it at one input. -/
def fnExactPackEchoWrong : ChangeSpec := { name := "fnExactPackEcho", fn := fun _ => fun
  | [d] => { results := [.lit (.bool false)], args := [d] }
  | _ => none }
def FnExactPackEchoWrongFalsely : Prop := fnExactPackEchoRow.holds Try.pinned (OpenSpec.ofChange fnExactPackEchoWrong)

/-- 'laws.FnExactReadEcho': WHATEVER THE INPUT: true; the input reads as it did. -/
def fnExactReadEchoSpec : ChangeSpec := { name := "fnExactReadEcho", fn := fun _ => fun
  | [d] => { results := [.lit (.bool true)], args := [d] }
  | _ => none }
def fnExactReadEchoRow : OpenClaim := { program := "ytgjkbaplfbiomaa", sum := "9caede5435ee14da680b9e8dd29072db4ad9ddacb8aec029998ee22a68ddd3c6", func := "loop.example/g00726/laws.FnExactReadEcho", spec := "fnExactReadEcho", unfollowed := true, recurses := true, apart := false }
def FnExactReadEchoSaid : Prop := fnExactReadEchoRow.holds Try.pinned (OpenSpec.ofChange fnExactReadEchoSpec)

/-- ITS FALSE NEIGHBOUR: 'it returns false'. Refute it at one input. -/
def fnExactReadEchoWrong : ChangeSpec := { name := "fnExactReadEcho", fn := fun _ => fun
  | [d] => { results := [.lit (.bool false)], args := [d] }
  | _ => none }
def FnExactReadEchoWrongFalsely : Prop := fnExactReadEchoRow.holds Try.pinned (OpenSpec.ofChange fnExactReadEchoWrong)

/-- 'laws.FnExactSamePackets': WHATEVER THE INPUT: true; the input reads as it did. -/
def fnExactSamePacketsSpec : ChangeSpec := { name := "fnExactSamePackets", fn := fun _ => fun
  | [d1, d2] => { results := [.lit (.bool true)], args := [d1, d2] }
  | _ => none }
def fnExactSamePacketsRow : OpenClaim := { program := "ytgjkbaplfbiomaa", sum := "9caede5435ee14da680b9e8dd29072db4ad9ddacb8aec029998ee22a68ddd3c6", func := "loop.example/g00726/laws.FnExactSamePackets", spec := "fnExactSamePackets", apart := false }
def FnExactSamePacketsSaid : Prop := fnExactSamePacketsRow.holds Try.pinned (OpenSpec.ofChange fnExactSamePacketsSpec)

/-- ITS FALSE NEIGHBOUR: 'it returns false'. Refute it at one input. -/
def fnExactSamePacketsWrong : ChangeSpec := { name := "fnExactSamePackets", fn := fun _ => fun
  | [d1, d2] => { results := [.lit (.bool false)], args := [d1, d2] }
  | _ => none }
def FnExactSamePacketsWrongFalsely : Prop := fnExactSamePacketsRow.holds Try.pinned (OpenSpec.ofChange fnExactSamePacketsWrong)

/- THE SECOND FORM. 'bulk': how many values and letters a reading holds, each counted each time it is reached (what is shared counts as often as it is met; a slice's spare places count too). A statement '..UptoSaid' is the law's where the arguments, and the package variables that the reading takes, are together of bulk at most 1048576: NARROWER than '..Said'. Prove '..Said' where nothing that the law and all that it calls make is longer than what came in: it says more and counts as full. Else prove '..UptoSaid'. A law counts once. -/
mutual
def uptoBulk {H : Type} : DataW H → Nat
  | .lit (.string bytes) => bytes.length + 1
  | .lit _ => 1
  | .nil => 1
  | .ptr d => uptoBulk d + 1
  | .slice elems spare => uptoBulkAll elems + uptoBulkAll spare + 1
  | .agg parts => uptoBulkAll parts + 1
  | .iface _ d => uptoBulk d + 1
  | .map entries => uptoBulkEntries entries + 1
  | .held _ => 1
def uptoBulkAll {H : Type} : List (DataW H) → Nat
  | [] => 0
  | d :: r => uptoBulk d + uptoBulkAll r
def uptoBulkEntries {H : Type} : List (Lit × DataW H) → Nat
  | [] => 0
  | x :: r => uptoBulkEntry x + uptoBulkEntries r
def uptoBulkEntry {H : Type} : Lit × DataW H → Nat
  | (.string bytes, d) => bytes.length + uptoBulk d + 1
  | (_, d) => uptoBulk d + 1
 end
def uptoSmall : (H : Type) → List (DataW H) → Bool := fun _ ds => decide (uptoBulkAll ds ≤ 1048576)
def OpenSpec.upto (s : _root_.Go.ChangeSpec) : _root_.Go.OpenSpec := { _root_.Go.OpenSpec.ofChange s with cond := some uptoSmall }

/-- 'laws.FnPackets', WHERE WHAT IT READS IS OF BULK AT MOST 1048576: true; the input reads as it did. -/
def fnPacketsUptoRow : OpenClaim := { program := "ytgjkbaplfbiomaa", sum := "9caede5435ee14da680b9e8dd29072db4ad9ddacb8aec029998ee22a68ddd3c6", func := "loop.example/g00726/laws.FnPackets", spec := "fnPackets", unfollowed := true, recurses := true, apart := false, narrowed := true }
def FnPacketsUptoSaid : Prop := fnPacketsUptoRow.holds Try.pinned (OpenSpec.upto fnPacketsSpec)

/-- 'laws.FnExactPacketFault', WHERE WHAT IT READS IS OF BULK AT MOST 1048576: true; the input reads as it did. -/
def fnExactPacketFaultUptoRow : OpenClaim := { program := "ytgjkbaplfbiomaa", sum := "9caede5435ee14da680b9e8dd29072db4ad9ddacb8aec029998ee22a68ddd3c6", func := "loop.example/g00726/laws.FnExactPacketFault", spec := "fnExactPacketFault", apart := false, narrowed := true }
def FnExactPacketFaultUptoSaid : Prop := fnExactPacketFaultUptoRow.holds Try.pinned (OpenSpec.upto fnExactPacketFaultSpec)

/-- 'laws.FnExactPackPacket', WHERE WHAT IT READS IS OF BULK AT MOST 1048576: true; the input reads as it did. -/
def fnExactPackPacketUptoRow : OpenClaim := { program := "ytgjkbaplfbiomaa", sum := "9caede5435ee14da680b9e8dd29072db4ad9ddacb8aec029998ee22a68ddd3c6", func := "loop.example/g00726/laws.FnExactPackPacket", spec := "fnExactPackPacket", unfollowed := true, recurses := true, apart := false, narrowed := true }
def FnExactPackPacketUptoSaid : Prop := fnExactPackPacketUptoRow.holds Try.pinned (OpenSpec.upto fnExactPackPacketSpec)

/-- 'laws.FnExactReadPacket', WHERE WHAT IT READS IS OF BULK AT MOST 1048576: true; the input reads as it did. -/
def fnExactReadPacketUptoRow : OpenClaim := { program := "ytgjkbaplfbiomaa", sum := "9caede5435ee14da680b9e8dd29072db4ad9ddacb8aec029998ee22a68ddd3c6", func := "loop.example/g00726/laws.FnExactReadPacket", spec := "fnExactReadPacket", unfollowed := true, recurses := true, apart := false, narrowed := true }
def FnExactReadPacketUptoSaid : Prop := fnExactReadPacketUptoRow.holds Try.pinned (OpenSpec.upto fnExactReadPacketSpec)

/-- 'laws.FnExactEchoFault', WHERE WHAT IT READS IS OF BULK AT MOST 1048576: true; the input reads as it did. -/
def fnExactEchoFaultUptoRow : OpenClaim := { program := "ytgjkbaplfbiomaa", sum := "9caede5435ee14da680b9e8dd29072db4ad9ddacb8aec029998ee22a68ddd3c6", func := "loop.example/g00726/laws.FnExactEchoFault", spec := "fnExactEchoFault", apart := false, narrowed := true }
def FnExactEchoFaultUptoSaid : Prop := fnExactEchoFaultUptoRow.holds Try.pinned (OpenSpec.upto fnExactEchoFaultSpec)

/-- 'laws.FnExactPackEcho', WHERE WHAT IT READS IS OF BULK AT MOST 1048576: true; the input reads as it did. -/
def fnExactPackEchoUptoRow : OpenClaim := { program := "ytgjkbaplfbiomaa", sum := "9caede5435ee14da680b9e8dd29072db4ad9ddacb8aec029998ee22a68ddd3c6", func := "loop.example/g00726/laws.FnExactPackEcho", spec := "fnExactPackEcho", unfollowed := true, recurses := true, apart := false, narrowed := true }
def FnExactPackEchoUptoSaid : Prop := fnExactPackEchoUptoRow.holds Try.pinned (OpenSpec.upto fnExactPackEchoSpec)

/-- 'laws.FnExactReadEcho', WHERE WHAT IT READS IS OF BULK AT MOST 1048576: true; the input reads as it did. -/
def fnExactReadEchoUptoRow : OpenClaim := { program := "ytgjkbaplfbiomaa", sum := "9caede5435ee14da680b9e8dd29072db4ad9ddacb8aec029998ee22a68ddd3c6", func := "loop.example/g00726/laws.FnExactReadEcho", spec := "fnExactReadEcho", unfollowed := true, recurses := true, apart := false, narrowed := true }
def FnExactReadEchoUptoSaid : Prop := fnExactReadEchoUptoRow.holds Try.pinned (OpenSpec.upto fnExactReadEchoSpec)

/-- 'laws.FnExactSamePackets', WHERE WHAT IT READS IS OF BULK AT MOST 1048576: true; the input reads as it did. -/
def fnExactSamePacketsUptoRow : OpenClaim := { program := "ytgjkbaplfbiomaa", sum := "9caede5435ee14da680b9e8dd29072db4ad9ddacb8aec029998ee22a68ddd3c6", func := "loop.example/g00726/laws.FnExactSamePackets", spec := "fnExactSamePackets", apart := false, narrowed := true }
def FnExactSamePacketsUptoSaid : Prop := fnExactSamePacketsUptoRow.holds Try.pinned (OpenSpec.upto fnExactSamePacketsSpec)

end Rows
end Go.Proofs.Ytgjkbaplfbiomaa
