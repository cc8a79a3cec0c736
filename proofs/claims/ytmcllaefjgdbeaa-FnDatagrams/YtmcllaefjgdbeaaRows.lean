/-
  No cell of these rows narrows 'for every input' (looked for: loops, veiled, ifaces, maps, wideKeys, modest, calm, conditions, laid).
  DERIVED. THE GIVEN ROWS OF THIS SEAT. 6 by the template 'for every input the law returns true; each argument reads behind the call as it read before'; 0 by the template 'total and deterministic' (their statements: YtmcllaefjgdbeaaTotals.lean).
  GIVEN WITH THE SEED: the statements are not yours to turn. If you find one false, say at which input.
  Laid BY PROGRAM, IN A SANDBOX (cutbox-rows.mjs): the forced cells as the released guide's own fill.sh prints them over the translation 2bcf359445d4af8a… (all of the seat's roots in one cut). By AI agents, Wed Nov 11 2026. No macro, syntax, notation, axiom, sorry.
-/
import Derived.Test.YtmcllaefjgdbeaaChecked
import GoSem.Claim
import GoSem.ClaimJoined
import GoSem.ClaimMapViews
import Derived.JoinedTies
import Derived.KernelRfl
namespace Go.Proofs.Ytmcllaefjgdbeaa
/- THE CELL 'sum', in the pinned program and in every row, IS THE sha256 OF THE DUMP (.gsa) THAT YtmcllaefjgdbeaaProg.lean LOADS. Nothing in Lean hashes anything: it is a label: what it is worth is what the hold of that sum in a sandbox is worth. -/
noncomputable def Try.pinned : Pinned := { name := "ytmcllaefjgdbeaa", sum := "2bcf359445d4af8a6ba4805a9ebea65134e9c0d1240e085c330c666c26065126", checked := Try.checked }
namespace Rows
def none {H : Type} : Left H := { results := [], args := [] }

/-- 'laws.FnDatagrams': WHATEVER THE INPUT: true; the input reads as it did. -/
def fnDatagramsSpec : ChangeSpec := { name := "fnDatagrams", fn := fun _ => fun
  | [d] => { results := [.lit (.bool true)], args := [d] }
  | _ => none }
def fnDatagramsRow : OpenClaim := { program := "ytmcllaefjgdbeaa", sum := "2bcf359445d4af8a6ba4805a9ebea65134e9c0d1240e085c330c666c26065126", func := "loop.example/g00726/laws.FnDatagrams", spec := "fnDatagrams", unfollowed := true, recurses := true, apart := false }
def FnDatagramsSaid : Prop := fnDatagramsRow.holds Try.pinned (OpenSpec.ofChange fnDatagramsSpec)

/-- ITS FALSE NEIGHBOUR: 'it returns false'. Refute it at one input. -/
def fnDatagramsWrong : ChangeSpec := { name := "fnDatagrams", fn := fun _ => fun
  | [d] => { results := [.lit (.bool false)], args := [d] }
  | _ => none }
def FnDatagramsWrongFalsely : Prop := fnDatagramsRow.holds Try.pinned (OpenSpec.ofChange fnDatagramsWrong)

/-- 'laws.FnExactPseudoHead': WHATEVER THE INPUT: true; the input reads as it did. -/
def fnExactPseudoHeadSpec : ChangeSpec := { name := "fnExactPseudoHead", fn := fun _ => fun
  | [d1, d2, d3, d4] => { results := [.lit (.bool true)], args := [d1, d2, d3, d4] }
  | _ => none }
def fnExactPseudoHeadRow : OpenClaim := { program := "ytmcllaefjgdbeaa", sum := "2bcf359445d4af8a6ba4805a9ebea65134e9c0d1240e085c330c666c26065126", func := "loop.example/g00726/laws.FnExactPseudoHead", spec := "fnExactPseudoHead", apart := false }
def FnExactPseudoHeadSaid : Prop := fnExactPseudoHeadRow.holds Try.pinned (OpenSpec.ofChange fnExactPseudoHeadSpec)

/-- ITS FALSE NEIGHBOUR: 'it returns false'. Refute it at one input. -/
def fnExactPseudoHeadWrong : ChangeSpec := { name := "fnExactPseudoHead", fn := fun _ => fun
  | [d1, d2, d3, d4] => { results := [.lit (.bool false)], args := [d1, d2, d3, d4] }
  | _ => none }
def FnExactPseudoHeadWrongFalsely : Prop := fnExactPseudoHeadRow.holds Try.pinned (OpenSpec.ofChange fnExactPseudoHeadWrong)

/-- 'laws.FnExactDatagramFault': WHATEVER THE INPUT: true; the input reads as it did. -/
def fnExactDatagramFaultSpec : ChangeSpec := { name := "fnExactDatagramFault", fn := fun _ => fun
  | [d] => { results := [.lit (.bool true)], args := [d] }
  | _ => none }
def fnExactDatagramFaultRow : OpenClaim := { program := "ytmcllaefjgdbeaa", sum := "2bcf359445d4af8a6ba4805a9ebea65134e9c0d1240e085c330c666c26065126", func := "loop.example/g00726/laws.FnExactDatagramFault", spec := "fnExactDatagramFault", apart := false }
def FnExactDatagramFaultSaid : Prop := fnExactDatagramFaultRow.holds Try.pinned (OpenSpec.ofChange fnExactDatagramFaultSpec)

/-- ITS FALSE NEIGHBOUR: 'it returns false'. Refute it at one input. -/
def fnExactDatagramFaultWrong : ChangeSpec := { name := "fnExactDatagramFault", fn := fun _ => fun
  | [d] => { results := [.lit (.bool false)], args := [d] }
  | _ => none }
def FnExactDatagramFaultWrongFalsely : Prop := fnExactDatagramFaultRow.holds Try.pinned (OpenSpec.ofChange fnExactDatagramFaultWrong)

/-- 'laws.FnExactPackDatagram': WHATEVER THE INPUT: true; the input reads as it did. -/
def fnExactPackDatagramSpec : ChangeSpec := { name := "fnExactPackDatagram", fn := fun _ => fun
  | [d1, d2, d3] => { results := [.lit (.bool true)], args := [d1, d2, d3] }
  | _ => none }
def fnExactPackDatagramRow : OpenClaim := { program := "ytmcllaefjgdbeaa", sum := "2bcf359445d4af8a6ba4805a9ebea65134e9c0d1240e085c330c666c26065126", func := "loop.example/g00726/laws.FnExactPackDatagram", spec := "fnExactPackDatagram", unfollowed := true, recurses := true, apart := false }
def FnExactPackDatagramSaid : Prop := fnExactPackDatagramRow.holds Try.pinned (OpenSpec.ofChange fnExactPackDatagramSpec)

/-- ITS FALSE NEIGHBOUR: 'it returns false'. Refute it at one input. -/
def fnExactPackDatagramWrong : ChangeSpec := { name := "fnExactPackDatagram", fn := fun _ => fun
  | [d1, d2, d3] => { results := [.lit (.bool false)], args := [d1, d2, d3] }
  | _ => none }
def FnExactPackDatagramWrongFalsely : Prop := fnExactPackDatagramRow.holds Try.pinned (OpenSpec.ofChange fnExactPackDatagramWrong)

/-- 'laws.FnExactReadDatagram': WHATEVER THE INPUT: true; the input reads as it did. -/
def fnExactReadDatagramSpec : ChangeSpec := { name := "fnExactReadDatagram", fn := fun _ => fun
  | [d1, d2, d3] => { results := [.lit (.bool true)], args := [d1, d2, d3] }
  | _ => none }
def fnExactReadDatagramRow : OpenClaim := { program := "ytmcllaefjgdbeaa", sum := "2bcf359445d4af8a6ba4805a9ebea65134e9c0d1240e085c330c666c26065126", func := "loop.example/g00726/laws.FnExactReadDatagram", spec := "fnExactReadDatagram", unfollowed := true, recurses := true, apart := false }
def FnExactReadDatagramSaid : Prop := fnExactReadDatagramRow.holds Try.pinned (OpenSpec.ofChange fnExactReadDatagramSpec)

/-- ITS FALSE NEIGHBOUR: 'it returns false'. Refute it at one input. -/
def fnExactReadDatagramWrong : ChangeSpec := { name := "fnExactReadDatagram", fn := fun _ => fun
  | [d1, d2, d3] => { results := [.lit (.bool false)], args := [d1, d2, d3] }
  | _ => none }
def FnExactReadDatagramWrongFalsely : Prop := fnExactReadDatagramRow.holds Try.pinned (OpenSpec.ofChange fnExactReadDatagramWrong)

/-- 'laws.FnExactSameDatagrams': WHATEVER THE INPUT: true; the input reads as it did. -/
def fnExactSameDatagramsSpec : ChangeSpec := { name := "fnExactSameDatagrams", fn := fun _ => fun
  | [d1, d2] => { results := [.lit (.bool true)], args := [d1, d2] }
  | _ => none }
def fnExactSameDatagramsRow : OpenClaim := { program := "ytmcllaefjgdbeaa", sum := "2bcf359445d4af8a6ba4805a9ebea65134e9c0d1240e085c330c666c26065126", func := "loop.example/g00726/laws.FnExactSameDatagrams", spec := "fnExactSameDatagrams", apart := false }
def FnExactSameDatagramsSaid : Prop := fnExactSameDatagramsRow.holds Try.pinned (OpenSpec.ofChange fnExactSameDatagramsSpec)

/-- ITS FALSE NEIGHBOUR: 'it returns false'. Refute it at one input. -/
def fnExactSameDatagramsWrong : ChangeSpec := { name := "fnExactSameDatagrams", fn := fun _ => fun
  | [d1, d2] => { results := [.lit (.bool false)], args := [d1, d2] }
  | _ => none }
def FnExactSameDatagramsWrongFalsely : Prop := fnExactSameDatagramsRow.holds Try.pinned (OpenSpec.ofChange fnExactSameDatagramsWrong)

/- THE SECOND FORM. 'bulk': how many values and letters a reading holds, each counted each time it is reached (what is shared counts as often as it is met; a slice's spare places count too). A statement '..UptoSaid' is the law's where the arguments, and the package variables that the reading takes, are together of bulk at most 1048576: NARROWER than '..Said'. Prove '..Said' where nothing that the law and all that it calls make is longer than what came in: it says more and counts as full. Else prove '..UptoSaid'. A law counts once. -/
mutual
def uptoBulk {H : Type} : DataW H → Nat
  | .lit (.string bytes) => bytes.length + 1
  | .lit _ => 1
  | .nil => 1
  | .ptr d => uptoBulk d + 1
  | .slice elems spare => uptoBulkAll elems + uptoBulkAll spare + 1
  | .agg parts => uptoBulkAll parts + 1
  | .iface _ d => uptoBulk d + 1
  | .map entries => uptoBulkEntries entries + 1
  | .held _ => 1
def uptoBulkAll {H : Type} : List (DataW H) → Nat
  | [] => 0
  | d :: r => uptoBulk d + uptoBulkAll r
def uptoBulkEntries {H : Type} : List (Lit × DataW H) → Nat
  | [] => 0
  | x :: r => uptoBulkEntry x + uptoBulkEntries r
def uptoBulkEntry {H : Type} : Lit × DataW H → Nat
  | (.string bytes, d) => bytes.length + uptoBulk d + 1
  | (_, d) => uptoBulk d + 1
 end
def uptoSmall : (H : Type) → List (DataW H) → Bool := fun _ ds => decide (uptoBulkAll ds ≤ 1048576)
def OpenSpec.upto (s : _root_.Go.ChangeSpec) : _root_.Go.OpenSpec := { _root_.Go.OpenSpec.ofChange s with cond := some uptoSmall }

/-- 'laws.FnDatagrams', WHERE WHAT IT READS IS OF BULK AT MOST 1048576: true; the input reads as it did. -/
def fnDatagramsUptoRow : OpenClaim := { program := "ytmcllaefjgdbeaa", sum := "2bcf359445d4af8a6ba4805a9ebea65134e9c0d1240e085c330c666c26065126", func := "loop.example/g00726/laws.FnDatagrams", spec := "fnDatagrams", unfollowed := true, recurses := true, apart := false, narrowed := true }
def FnDatagramsUptoSaid : Prop := fnDatagramsUptoRow.holds Try.pinned (OpenSpec.upto fnDatagramsSpec)

/-- 'laws.FnExactPseudoHead', WHERE WHAT IT READS IS OF BULK AT MOST 1048576: true; the input reads as it did. -/
def fnExactPseudoHeadUptoRow : OpenClaim := { program := "ytmcllaefjgdbeaa", sum := "2bcf359445d4af8a6ba4805a9ebea65134e9c0d1240e085c330c666c26065126", func := "loop.example/g00726/laws.FnExactPseudoHead", spec := "fnExactPseudoHead", apart := false, narrowed := true }
def FnExactPseudoHeadUptoSaid : Prop := fnExactPseudoHeadUptoRow.holds Try.pinned (OpenSpec.upto fnExactPseudoHeadSpec)

/-- 'laws.FnExactDatagramFault', WHERE WHAT IT READS IS OF BULK AT MOST 1048576: true; the input reads as it did. -/
def fnExactDatagramFaultUptoRow : OpenClaim := { program := "ytmcllaefjgdbeaa", sum := "2bcf359445d4af8a6ba4805a9ebea65134e9c0d1240e085c330c666c26065126", func := "loop.example/g00726/laws.FnExactDatagramFault", spec := "fnExactDatagramFault", apart := false, narrowed := true }
def FnExactDatagramFaultUptoSaid : Prop := fnExactDatagramFaultUptoRow.holds Try.pinned (OpenSpec.upto fnExactDatagramFaultSpec)

/-- 'laws.FnExactPackDatagram', WHERE WHAT IT READS IS OF BULK AT MOST 1048576: true; the input reads as it did. -/
def fnExactPackDatagramUptoRow : OpenClaim := { program := "ytmcllaefjgdbeaa", sum := "2bcf359445d4af8a6ba4805a9ebea65134e9c0d1240e085c330c666c26065126", func := "loop.example/g00726/laws.FnExactPackDatagram", spec := "fnExactPackDatagram", unfollowed := true, recurses := true, apart := false, narrowed := true }
def FnExactPackDatagramUptoSaid : Prop := fnExactPackDatagramUptoRow.holds Try.pinned (OpenSpec.upto fnExactPackDatagramSpec)

/-- 'laws.FnExactReadDatagram', WHERE WHAT IT READS IS OF BULK AT MOST 1048576: true; the input reads as it did. -/
def fnExactReadDatagramUptoRow : OpenClaim := { program := "ytmcllaefjgdbeaa", sum := "2bcf359445d4af8a6ba4805a9ebea65134e9c0d1240e085c330c666c26065126", func := "loop.example/g00726/laws.FnExactReadDatagram", spec := "fnExactReadDatagram", unfollowed := true, recurses := true, apart := false, narrowed := true }
def FnExactReadDatagramUptoSaid : Prop := fnExactReadDatagramUptoRow.holds Try.pinned (OpenSpec.upto fnExactReadDatagramSpec)

/-- 'laws.FnExactSameDatagrams', WHERE WHAT IT READS IS OF BULK AT MOST 1048576: true; the input reads as it did. -/
def fnExactSameDatagramsUptoRow : OpenClaim := { program := "ytmcllaefjgdbeaa", sum := "2bcf359445d4af8a6ba4805a9ebea65134e9c0d1240e085c330c666c26065126", func := "loop.example/g00726/laws.FnExactSameDatagrams", spec := "fnExactSameDatagrams", apart := false, narrowed := true }
def FnExactSameDatagramsUptoSaid : Prop := fnExactSameDatagramsUptoRow.holds Try.pinned (OpenSpec.upto fnExactSameDatagramsSpec)

end Rows
end Go.Proofs.Ytmcllaefjgdbeaa
