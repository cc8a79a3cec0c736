/-
  No cell of these rows narrows 'for every input' (looked for: loops, veiled, ifaces, maps, wideKeys, modest, calm, conditions, laid).
  DERIVED. THE GIVEN ROWS OF THIS SEAT. 7 by the template 'for every input the law returns true; each argument reads behind the call as it read before'; 0 by the template 'total and deterministic' (their statements: YtkneicepflkfhaaTotals.lean).
  GIVEN WITH THE SEED: the statements are not yours to turn. If you find one false, say at which input.
  Laid BY PROGRAM, IN A SANDBOX (cutbox-rows.mjs): the forced cells as the released guide's own fill.sh prints them over the translation 0af2e31db364ab54… (all of the seat's roots in one cut). By AI agents, Wed Nov 11 2026. No macro, syntax, notation, axiom, sorry.
-/
import Derived.Test.YtkneicepflkfhaaChecked
import GoSem.Claim
import GoSem.ClaimJoined
import GoSem.ClaimMapViews
import Derived.JoinedTies
import Derived.KernelRfl
namespace Go.Proofs.Ytkneicepflkfhaa
/- THE CELL 'sum', in the pinned program and in every row, IS THE sha256 OF THE DUMP (.gsa) THAT YtkneicepflkfhaaProg.lean LOADS. Nothing in Lean hashes anything: it is a label: what it is worth is what the hold of that sum in a sandbox is worth. -/
noncomputable def Try.pinned : Pinned := { name := "ytkneicepflkfhaa", sum := "0af2e31db364ab54ffcbddfeea8297d0670fa27eeca8cad0cc0d3ed14dfdf14d", checked := Try.checked }
namespace Rows
def none {H : Type} : Left H := { results := [], args := [] }

/-- 'laws.FnExactFrameFault': WHATEVER THE INPUT: true; the input reads as it did. -/
def fnExactFrameFaultSpec : ChangeSpec := { name := "fnExactFrameFault", fn := fun _ => fun
  | [d] => { results := [.lit (.bool true)], args := [d] }
  | _ => none }
def fnExactFrameFaultRow : OpenClaim := { program := "ytkneicepflkfhaa", sum := "0af2e31db364ab54ffcbddfeea8297d0670fa27eeca8cad0cc0d3ed14dfdf14d", func := "loop.example/g00726/laws.FnExactFrameFault", spec := "fnExactFrameFault", apart := false }
def FnExactFrameFaultSaid : Prop := fnExactFrameFaultRow.holds Try.pinned (OpenSpec.ofChange fnExactFrameFaultSpec)

/-- ITS FALSE NEIGHBOUR: 'it returns false'. Refute it at one input. -/
def fnExactFrameFaultWrong : ChangeSpec := { name := "fnExactFrameFault", fn := fun _ => fun
  | [d] => { results := [.lit (.bool false)], args := [d] }
  | _ => none }
def FnExactFrameFaultWrongFalsely : Prop := fnExactFrameFaultRow.holds Try.pinned (OpenSpec.ofChange fnExactFrameFaultWrong)

/-- 'laws.FnExactPackFrame': WHATEVER THE INPUT: true; the input reads as it did. -/
def fnExactPackFrameSpec : ChangeSpec := { name := "fnExactPackFrame", fn := fun _ => fun
  | [d] => { results := [.lit (.bool true)], args := [d] }
  | _ => none }
def fnExactPackFrameRow : OpenClaim := { program := "ytkneicepflkfhaa", sum := "0af2e31db364ab54ffcbddfeea8297d0670fa27eeca8cad0cc0d3ed14dfdf14d", func := "loop.example/g00726/laws.FnExactPackFrame", spec := "fnExactPackFrame", apart := false }
def FnExactPackFrameSaid : Prop := fnExactPackFrameRow.holds Try.pinned (OpenSpec.ofChange fnExactPackFrameSpec)

/-- ITS FALSE NEIGHBOUR: 'it returns false'. Refute it at one input. -/
def fnExactPackFrameWrong : ChangeSpec := { name := "fnExactPackFrame", fn := fun _ => fun
  | [d] => { results := [.lit (.bool false)], args := [d] }
  | _ => none }
def FnExactPackFrameWrongFalsely : Prop := fnExactPackFrameRow.holds Try.pinned (OpenSpec.ofChange fnExactPackFrameWrong)

/-- 'laws.FnExactReadFrame': WHATEVER THE INPUT: true; the input reads as it did. -/
def fnExactReadFrameSpec : ChangeSpec := { name := "fnExactReadFrame", fn := fun _ => fun
  | [d] => { results := [.lit (.bool true)], args := [d] }
  | _ => none }
def fnExactReadFrameRow : OpenClaim := { program := "ytkneicepflkfhaa", sum := "0af2e31db364ab54ffcbddfeea8297d0670fa27eeca8cad0cc0d3ed14dfdf14d", func := "loop.example/g00726/laws.FnExactReadFrame", spec := "fnExactReadFrame", apart := false }
def FnExactReadFrameSaid : Prop := fnExactReadFrameRow.holds Try.pinned (OpenSpec.ofChange fnExactReadFrameSpec)

/-- ITS FALSE NEIGHBOUR: 'it returns false'. Refute it at one input. -/
def fnExactReadFrameWrong : ChangeSpec := { name := "fnExactReadFrame", fn := fun _ => fun
  | [d] => { results := [.lit (.bool false)], args := [d] }
  | _ => none }
def FnExactReadFrameWrongFalsely : Prop := fnExactReadFrameRow.holds Try.pinned (OpenSpec.ofChange fnExactReadFrameWrong)

/-- 'laws.FnExactArpFault': WHATEVER THE INPUT: true; the input reads as it did. -/
def fnExactArpFaultSpec : ChangeSpec := { name := "fnExactArpFault", fn := fun _ => fun
  | [d] => { results := [.lit (.bool true)], args := [d] }
  | _ => none }
def fnExactArpFaultRow : OpenClaim := { program := "ytkneicepflkfhaa", sum := "0af2e31db364ab54ffcbddfeea8297d0670fa27eeca8cad0cc0d3ed14dfdf14d", func := "loop.example/g00726/laws.FnExactArpFault", spec := "fnExactArpFault", apart := false }
def FnExactArpFaultSaid : Prop := fnExactArpFaultRow.holds Try.pinned (OpenSpec.ofChange fnExactArpFaultSpec)

/-- ITS FALSE NEIGHBOUR: 'it returns false'. Refute it at one input. -/
def fnExactArpFaultWrong : ChangeSpec := { name := "fnExactArpFault", fn := fun _ => fun
  | [d] => { results := [.lit (.bool false)], args := [d] }
  | _ => none }
def FnExactArpFaultWrongFalsely : Prop := fnExactArpFaultRow.holds Try.pinned (OpenSpec.ofChange fnExactArpFaultWrong)

/-- 'laws.FnExactPackArp': WHATEVER THE INPUT: true; the input reads as it did. -/
def fnExactPackArpSpec : ChangeSpec := { name := "fnExactPackArp", fn := fun _ => fun
  | [d] => { results := [.lit (.bool true)], args := [d] }
  | _ => none }
def fnExactPackArpRow : OpenClaim := { program := "ytkneicepflkfhaa", sum := "0af2e31db364ab54ffcbddfeea8297d0670fa27eeca8cad0cc0d3ed14dfdf14d", func := "loop.example/g00726/laws.FnExactPackArp", spec := "fnExactPackArp", apart := false }
def FnExactPackArpSaid : Prop := fnExactPackArpRow.holds Try.pinned (OpenSpec.ofChange fnExactPackArpSpec)

/-- ITS FALSE NEIGHBOUR: 'it returns false'. Refute it at one input. -/
def fnExactPackArpWrong : ChangeSpec := { name := "fnExactPackArp", fn := fun _ => fun
  | [d] => { results := [.lit (.bool false)], args := [d] }
  | _ => none }
def FnExactPackArpWrongFalsely : Prop := fnExactPackArpRow.holds Try.pinned (OpenSpec.ofChange fnExactPackArpWrong)

/-- 'laws.FnExactReadArp': WHATEVER THE INPUT: true; the input reads as it did. -/
def fnExactReadArpSpec : ChangeSpec := { name := "fnExactReadArp", fn := fun _ => fun
  | [d] => { results := [.lit (.bool true)], args := [d] }
  | _ => none }
def fnExactReadArpRow : OpenClaim := { program := "ytkneicepflkfhaa", sum := "0af2e31db364ab54ffcbddfeea8297d0670fa27eeca8cad0cc0d3ed14dfdf14d", func := "loop.example/g00726/laws.FnExactReadArp", spec := "fnExactReadArp", apart := false }
def FnExactReadArpSaid : Prop := fnExactReadArpRow.holds Try.pinned (OpenSpec.ofChange fnExactReadArpSpec)

/-- ITS FALSE NEIGHBOUR: 'it returns false'. Refute it at one input. -/
def fnExactReadArpWrong : ChangeSpec := { name := "fnExactReadArp", fn := fun _ => fun
  | [d] => { results := [.lit (.bool false)], args := [d] }
  | _ => none }
def FnExactReadArpWrongFalsely : Prop := fnExactReadArpRow.holds Try.pinned (OpenSpec.ofChange fnExactReadArpWrong)

/-- 'laws.FnExactSameFrames': WHATEVER THE INPUT: true; the input reads as it did. -/
def fnExactSameFramesSpec : ChangeSpec := { name := "fnExactSameFrames", fn := fun _ => fun
  | [d1, d2] => { results := [.lit (.bool true)], args := [d1, d2] }
  | _ => none }
def fnExactSameFramesRow : OpenClaim := { program := "ytkneicepflkfhaa", sum := "0af2e31db364ab54ffcbddfeea8297d0670fa27eeca8cad0cc0d3ed14dfdf14d", func := "loop.example/g00726/laws.FnExactSameFrames", spec := "fnExactSameFrames", apart := false }
def FnExactSameFramesSaid : Prop := fnExactSameFramesRow.holds Try.pinned (OpenSpec.ofChange fnExactSameFramesSpec)

/-- ITS FALSE NEIGHBOUR: 'it returns false'. Refute it at one input. -/
def fnExactSameFramesWrong : ChangeSpec := { name := "fnExactSameFrames", fn := fun _ => fun
  | [d1, d2] => { results := [.lit (.bool false)], args := [d1, d2] }
  | _ => none }
def FnExactSameFramesWrongFalsely : Prop := fnExactSameFramesRow.holds Try.pinned (OpenSpec.ofChange fnExactSameFramesWrong)

/- THE SECOND FORM. 'bulk': how many values and letters a reading holds, each counted each time it is reached (what is shared counts as often as it is met; a slice's spare places count too). A statement '..UptoSaid' is the law's where the arguments, and the package variables that the reading takes, are together of bulk at most 1048576: NARROWER than '..Said'. Prove '..Said' where nothing that the law and all that it calls make is longer than what came in: it says more and counts as full. Else prove '..UptoSaid'. A law counts once. -/
mutual
def uptoBulk {H : Type} : DataW H → Nat
  | .lit (.string bytes) => bytes.length + 1
  | .lit _ => 1
  | .nil => 1
  | .ptr d => uptoBulk d + 1
  | .slice elems spare => uptoBulkAll elems + uptoBulkAll spare + 1
  | .agg parts => uptoBulkAll parts + 1
  | .iface _ d => uptoBulk d + 1
  | .map entries => uptoBulkEntries entries + 1
  | .held _ => 1
def uptoBulkAll {H : Type} : List (DataW H) → Nat
  | [] => 0
  | d :: r => uptoBulk d + uptoBulkAll r
def uptoBulkEntries {H : Type} : List (Lit × DataW H) → Nat
  | [] => 0
  | x :: r => uptoBulkEntry x + uptoBulkEntries r
def uptoBulkEntry {H : Type} : Lit × DataW H → Nat
  | (.string bytes, d) => bytes.length + uptoBulk d + 1
  | (_, d) => uptoBulk d + 1
 end
def uptoSmall : (H : Type) → List (DataW H) → Bool := fun _ ds => decide (uptoBulkAll ds ≤ 1048576)
def OpenSpec.upto (s : _root_.Go.ChangeSpec) : _root_.Go.OpenSpec := { _root_.Go.OpenSpec.ofChange s with cond := some uptoSmall }

/-- 'laws.FnExactFrameFault', WHERE WHAT IT READS IS OF BULK AT MOST 1048576: true; the input reads as it did. -/
def fnExactFrameFaultUptoRow : OpenClaim := { program := "ytkneicepflkfhaa", sum := "0af2e31db364ab54ffcbddfeea8297d0670fa27eeca8cad0cc0d3ed14dfdf14d", func := "loop.example/g00726/laws.FnExactFrameFault", spec := "fnExactFrameFault", apart := false, narrowed := true }
def FnExactFrameFaultUptoSaid : Prop := fnExactFrameFaultUptoRow.holds Try.pinned (OpenSpec.upto fnExactFrameFaultSpec)

/-- 'laws.FnExactPackFrame', WHERE WHAT IT READS IS OF BULK AT MOST 1048576: true; the input reads as it did. -/
def fnExactPackFrameUptoRow : OpenClaim := { program := "ytkneicepflkfhaa", sum := "0af2e31db364ab54ffcbddfeea8297d0670fa27eeca8cad0cc0d3ed14dfdf14d", func := "loop.example/g00726/laws.FnExactPackFrame", spec := "fnExactPackFrame", apart := false, narrowed := true }
def FnExactPackFrameUptoSaid : Prop := fnExactPackFrameUptoRow.holds Try.pinned (OpenSpec.upto fnExactPackFrameSpec)

/-- 'laws.FnExactReadFrame', WHERE WHAT IT READS IS OF BULK AT MOST 1048576: true; the input reads as it did. -/
def fnExactReadFrameUptoRow : OpenClaim := { program := "ytkneicepflkfhaa", sum := "0af2e31db364ab54ffcbddfeea8297d0670fa27eeca8cad0cc0d3ed14dfdf14d", func := "loop.example/g00726/laws.FnExactReadFrame", spec := "fnExactReadFrame", apart := false, narrowed := true }
def FnExactReadFrameUptoSaid : Prop := fnExactReadFrameUptoRow.holds Try.pinned (OpenSpec.upto fnExactReadFrameSpec)

/-- 'laws.FnExactArpFault', WHERE WHAT IT READS IS OF BULK AT MOST 1048576: true; the input reads as it did. -/
def fnExactArpFaultUptoRow : OpenClaim := { program := "ytkneicepflkfhaa", sum := "0af2e31db364ab54ffcbddfeea8297d0670fa27eeca8cad0cc0d3ed14dfdf14d", func := "loop.example/g00726/laws.FnExactArpFault", spec := "fnExactArpFault", apart := false, narrowed := true }
def FnExactArpFaultUptoSaid : Prop := fnExactArpFaultUptoRow.holds Try.pinned (OpenSpec.upto fnExactArpFaultSpec)

/-- 'laws.FnExactPackArp', WHERE WHAT IT READS IS OF BULK AT MOST 1048576: true; the input reads as it did. -/
def fnExactPackArpUptoRow : OpenClaim := { program := "ytkneicepflkfhaa", sum := "0af2e31db364ab54ffcbddfeea8297d0670fa27eeca8cad0cc0d3ed14dfdf14d", func := "loop.example/g00726/laws.FnExactPackArp", spec := "fnExactPackArp", apart := false, narrowed := true }
def FnExactPackArpUptoSaid : Prop := fnExactPackArpUptoRow.holds Try.pinned (OpenSpec.upto fnExactPackArpSpec)

/-- 'laws.FnExactReadArp', WHERE WHAT IT READS IS OF BULK AT MOST 1048576: true; the input reads as it did. -/
def fnExactReadArpUptoRow : OpenClaim := { program := "ytkneicepflkfhaa", sum := "0af2e31db364ab54ffcbddfeea8297d0670fa27eeca8cad0cc0d3ed14dfdf14d", func := "loop.example/g00726/laws.FnExactReadArp", spec := "fnExactReadArp", apart := false, narrowed := true }
def FnExactReadArpUptoSaid : Prop := fnExactReadArpUptoRow.holds Try.pinned (OpenSpec.upto fnExactReadArpSpec)

/-- 'laws.FnExactSameFrames', WHERE WHAT IT READS IS OF BULK AT MOST 1048576: true; the input reads as it did. -/
def fnExactSameFramesUptoRow : OpenClaim := { program := "ytkneicepflkfhaa", sum := "0af2e31db364ab54ffcbddfeea8297d0670fa27eeca8cad0cc0d3ed14dfdf14d", func := "loop.example/g00726/laws.FnExactSameFrames", spec := "fnExactSameFrames", apart := false, narrowed := true }
def FnExactSameFramesUptoSaid : Prop := fnExactSameFramesUptoRow.holds Try.pinned (OpenSpec.upto fnExactSameFramesSpec)

end Rows
end Go.Proofs.Ytkneicepflkfhaa
