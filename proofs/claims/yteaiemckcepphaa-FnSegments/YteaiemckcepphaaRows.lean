/-
  No cell of these rows narrows 'for every input' (looked for: loops, veiled, ifaces, maps, wideKeys, modest, calm, conditions, laid).
  DERIVED. THE GIVEN ROWS OF THIS SEAT. 9 by the template 'for every input the law returns true; each argument reads behind the call as it read before'; 0 by the template 'total and deterministic' (their statements: YteaiemckcepphaaTotals.lean).
  GIVEN WITH THE SEED: the statements are not yours to turn. If you find one false, say at which input.
  Laid BY PROGRAM, IN A SANDBOX (cutbox-rows.mjs): the forced cells as the released guide's own fill.sh prints them over the translation 7c3c979f7a03e190… (all of the seat's roots in one cut). By AI agents, Wed Nov 11 2026. No macro, syntax, notation, axiom, sorry.
-/
import Derived.Test.YteaiemckcepphaaChecked
import GoSem.Claim
import GoSem.ClaimJoined
import GoSem.ClaimMapViews
import Derived.JoinedTies
import Derived.KernelRfl
namespace Go.Proofs.Yteaiemckcepphaa
/- THE CELL 'sum', in the pinned program and in every row, IS THE sha256 OF THE DUMP (.gsa) THAT YteaiemckcepphaaProg.lean LOADS. Nothing in Lean hashes anything: it is a label: what it is worth is what the hold of that sum in a sandbox is worth. -/
noncomputable def Try.pinned : Pinned := { name := "yteaiemckcepphaa", sum := "7c3c979f7a03e19050553ee0507f7e13c12ef64a2099c1dc3819ac1400b0a151", checked := Try.checked }
namespace Rows
def none {H : Type} : Left H := { results := [], args := [] }

/-- 'laws.FnSegments': WHATEVER THE INPUT: true; the input reads as it did. -/
def fnSegmentsSpec : ChangeSpec := { name := "fnSegments", fn := fun _ => fun
  | [d] => { results := [.lit (.bool true)], args := [d] }
  | _ => none }
def fnSegmentsRow : OpenClaim := { program := "yteaiemckcepphaa", sum := "7c3c979f7a03e19050553ee0507f7e13c12ef64a2099c1dc3819ac1400b0a151", func := "loop.example/g00726/laws.FnSegments", spec := "fnSegments", unfollowed := true, recurses := true, apart := false }
def FnSegmentsSaid : Prop := fnSegmentsRow.holds Try.pinned (OpenSpec.ofChange fnSegmentsSpec)

/-- ITS FALSE NEIGHBOUR: 'it returns false'. Refute it at one input. -/
def fnSegmentsWrong : ChangeSpec := { name := "fnSegments", fn := fun _ => fun
  | [d] => { results := [.lit (.bool false)], args := [d] }
  | _ => none }
def FnSegmentsWrongFalsely : Prop := fnSegmentsRow.holds Try.pinned (OpenSpec.ofChange fnSegmentsWrong)

/-- 'laws.FnResets': WHATEVER THE INPUT: true; the input reads as it did. -/
def fnResetsSpec : ChangeSpec := { name := "fnResets", fn := fun _ => fun
  | [d] => { results := [.lit (.bool true)], args := [d] }
  | _ => none }
def fnResetsRow : OpenClaim := { program := "yteaiemckcepphaa", sum := "7c3c979f7a03e19050553ee0507f7e13c12ef64a2099c1dc3819ac1400b0a151", func := "loop.example/g00726/laws.FnResets", spec := "fnResets", apart := false }
def FnResetsSaid : Prop := fnResetsRow.holds Try.pinned (OpenSpec.ofChange fnResetsSpec)

/-- ITS FALSE NEIGHBOUR: 'it returns false'. Refute it at one input. -/
def fnResetsWrong : ChangeSpec := { name := "fnResets", fn := fun _ => fun
  | [d] => { results := [.lit (.bool false)], args := [d] }
  | _ => none }
def FnResetsWrongFalsely : Prop := fnResetsRow.holds Try.pinned (OpenSpec.ofChange fnResetsWrong)

/-- 'laws.FnExactSegmentFault': WHATEVER THE INPUT: true; the input reads as it did. -/
def fnExactSegmentFaultSpec : ChangeSpec := { name := "fnExactSegmentFault", fn := fun _ => fun
  | [d] => { results := [.lit (.bool true)], args := [d] }
  | _ => none }
def fnExactSegmentFaultRow : OpenClaim := { program := "yteaiemckcepphaa", sum := "7c3c979f7a03e19050553ee0507f7e13c12ef64a2099c1dc3819ac1400b0a151", func := "loop.example/g00726/laws.FnExactSegmentFault", spec := "fnExactSegmentFault", apart := false }
def FnExactSegmentFaultSaid : Prop := fnExactSegmentFaultRow.holds Try.pinned (OpenSpec.ofChange fnExactSegmentFaultSpec)

/-- ITS FALSE NEIGHBOUR: 'it returns false'. Refute it at one input. -/
def fnExactSegmentFaultWrong : ChangeSpec := { name := "fnExactSegmentFault", fn := fun _ => fun
  | [d] => { results := [.lit (.bool false)], args := [d] }
  | _ => none }
def FnExactSegmentFaultWrongFalsely : Prop := fnExactSegmentFaultRow.holds Try.pinned (OpenSpec.ofChange fnExactSegmentFaultWrong)

/-- 'laws.FnExactSegmentSize': WHATEVER THE INPUT: true; the input reads as it did. -/
def fnExactSegmentSizeSpec : ChangeSpec := { name := "fnExactSegmentSize", fn := fun _ => fun
  | [d] => { results := [.lit (.bool true)], args := [d] }
  | _ => none }
def fnExactSegmentSizeRow : OpenClaim := { program := "yteaiemckcepphaa", sum := "7c3c979f7a03e19050553ee0507f7e13c12ef64a2099c1dc3819ac1400b0a151", func := "loop.example/g00726/laws.FnExactSegmentSize", spec := "fnExactSegmentSize", apart := false }
def FnExactSegmentSizeSaid : Prop := fnExactSegmentSizeRow.holds Try.pinned (OpenSpec.ofChange fnExactSegmentSizeSpec)

/-- ITS FALSE NEIGHBOUR: 'it returns false'. Refute it at one input. -/
def fnExactSegmentSizeWrong : ChangeSpec := { name := "fnExactSegmentSize", fn := fun _ => fun
  | [d] => { results := [.lit (.bool false)], args := [d] }
  | _ => none }
def FnExactSegmentSizeWrongFalsely : Prop := fnExactSegmentSizeRow.holds Try.pinned (OpenSpec.ofChange fnExactSegmentSizeWrong)

/-- 'laws.FnExactHasFlag': WHATEVER THE INPUT: true; the input reads as it did. -/
def fnExactHasFlagSpec : ChangeSpec := { name := "fnExactHasFlag", fn := fun _ => fun
  | [d1, d2] => { results := [.lit (.bool true)], args := [d1, d2] }
  | _ => none }
def fnExactHasFlagRow : OpenClaim := { program := "yteaiemckcepphaa", sum := "7c3c979f7a03e19050553ee0507f7e13c12ef64a2099c1dc3819ac1400b0a151", func := "loop.example/g00726/laws.FnExactHasFlag", spec := "fnExactHasFlag", apart := false }
def FnExactHasFlagSaid : Prop := fnExactHasFlagRow.holds Try.pinned (OpenSpec.ofChange fnExactHasFlagSpec)

/-- ITS FALSE NEIGHBOUR: 'it returns false'. Refute it at one input. -/
def fnExactHasFlagWrong : ChangeSpec := { name := "fnExactHasFlag", fn := fun _ => fun
  | [d1, d2] => { results := [.lit (.bool false)], args := [d1, d2] }
  | _ => none }
def FnExactHasFlagWrongFalsely : Prop := fnExactHasFlagRow.holds Try.pinned (OpenSpec.ofChange fnExactHasFlagWrong)

/-- 'laws.FnExactPackSegment': WHATEVER THE INPUT: true; the input reads as it did. -/
def fnExactPackSegmentSpec : ChangeSpec := { name := "fnExactPackSegment", fn := fun _ => fun
  | [d1, d2, d3] => { results := [.lit (.bool true)], args := [d1, d2, d3] }
  | _ => none }
def fnExactPackSegmentRow : OpenClaim := { program := "yteaiemckcepphaa", sum := "7c3c979f7a03e19050553ee0507f7e13c12ef64a2099c1dc3819ac1400b0a151", func := "loop.example/g00726/laws.FnExactPackSegment", spec := "fnExactPackSegment", unfollowed := true, recurses := true, apart := false }
def FnExactPackSegmentSaid : Prop := fnExactPackSegmentRow.holds Try.pinned (OpenSpec.ofChange fnExactPackSegmentSpec)

/-- ITS FALSE NEIGHBOUR: 'it returns false'. Refute it at one input. -/
def fnExactPackSegmentWrong : ChangeSpec := { name := "fnExactPackSegment", fn := fun _ => fun
  | [d1, d2, d3] => { results := [.lit (.bool false)], args := [d1, d2, d3] }
  | _ => none }
def FnExactPackSegmentWrongFalsely : Prop := fnExactPackSegmentRow.holds Try.pinned (OpenSpec.ofChange fnExactPackSegmentWrong)

/-- 'laws.FnExactReadSegment': WHATEVER THE INPUT: true; the input reads as it did. -/
def fnExactReadSegmentSpec : ChangeSpec := { name := "fnExactReadSegment", fn := fun _ => fun
  | [d1, d2, d3] => { results := [.lit (.bool true)], args := [d1, d2, d3] }
  | _ => none }
def fnExactReadSegmentRow : OpenClaim := { program := "yteaiemckcepphaa", sum := "7c3c979f7a03e19050553ee0507f7e13c12ef64a2099c1dc3819ac1400b0a151", func := "loop.example/g00726/laws.FnExactReadSegment", spec := "fnExactReadSegment", unfollowed := true, recurses := true, apart := false }
def FnExactReadSegmentSaid : Prop := fnExactReadSegmentRow.holds Try.pinned (OpenSpec.ofChange fnExactReadSegmentSpec)

/-- ITS FALSE NEIGHBOUR: 'it returns false'. Refute it at one input. -/
def fnExactReadSegmentWrong : ChangeSpec := { name := "fnExactReadSegment", fn := fun _ => fun
  | [d1, d2, d3] => { results := [.lit (.bool false)], args := [d1, d2, d3] }
  | _ => none }
def FnExactReadSegmentWrongFalsely : Prop := fnExactReadSegmentRow.holds Try.pinned (OpenSpec.ofChange fnExactReadSegmentWrong)

/-- 'laws.FnExactResetFor': WHATEVER THE INPUT: true; the input reads as it did. -/
def fnExactResetForSpec : ChangeSpec := { name := "fnExactResetFor", fn := fun _ => fun
  | [d] => { results := [.lit (.bool true)], args := [d] }
  | _ => none }
def fnExactResetForRow : OpenClaim := { program := "yteaiemckcepphaa", sum := "7c3c979f7a03e19050553ee0507f7e13c12ef64a2099c1dc3819ac1400b0a151", func := "loop.example/g00726/laws.FnExactResetFor", spec := "fnExactResetFor", apart := false }
def FnExactResetForSaid : Prop := fnExactResetForRow.holds Try.pinned (OpenSpec.ofChange fnExactResetForSpec)

/-- ITS FALSE NEIGHBOUR: 'it returns false'. Refute it at one input. -/
def fnExactResetForWrong : ChangeSpec := { name := "fnExactResetFor", fn := fun _ => fun
  | [d] => { results := [.lit (.bool false)], args := [d] }
  | _ => none }
def FnExactResetForWrongFalsely : Prop := fnExactResetForRow.holds Try.pinned (OpenSpec.ofChange fnExactResetForWrong)

/-- 'laws.FnExactSameSegments': WHATEVER THE INPUT: true; the input reads as it did. -/
def fnExactSameSegmentsSpec : ChangeSpec := { name := "fnExactSameSegments", fn := fun _ => fun
  | [d1, d2] => { results := [.lit (.bool true)], args := [d1, d2] }
  | _ => none }
def fnExactSameSegmentsRow : OpenClaim := { program := "yteaiemckcepphaa", sum := "7c3c979f7a03e19050553ee0507f7e13c12ef64a2099c1dc3819ac1400b0a151", func := "loop.example/g00726/laws.FnExactSameSegments", spec := "fnExactSameSegments", apart := false }
def FnExactSameSegmentsSaid : Prop := fnExactSameSegmentsRow.holds Try.pinned (OpenSpec.ofChange fnExactSameSegmentsSpec)

/-- ITS FALSE NEIGHBOUR: 'it returns false'. Refute it at one input. -/
def fnExactSameSegmentsWrong : ChangeSpec := { name := "fnExactSameSegments", fn := fun _ => fun
  | [d1, d2] => { results := [.lit (.bool false)], args := [d1, d2] }
  | _ => none }
def FnExactSameSegmentsWrongFalsely : Prop := fnExactSameSegmentsRow.holds Try.pinned (OpenSpec.ofChange fnExactSameSegmentsWrong)

/- THE SECOND FORM. 'bulk': how many values and letters a reading holds, each counted each time it is reached (what is shared counts as often as it is met; a slice's spare places count too). A statement '..UptoSaid' is the law's where the arguments, and the package variables that the reading takes, are together of bulk at most 1048576: NARROWER than '..Said'. Prove '..Said' where nothing that the law and all that it calls make is longer than what came in: it says more and counts as full. Else prove '..UptoSaid'. A law counts once. -/
mutual
def uptoBulk {H : Type} : DataW H → Nat
  | .lit (.string bytes) => bytes.length + 1
  | .lit _ => 1
  | .nil => 1
  | .ptr d => uptoBulk d + 1
  | .slice elems spare => uptoBulkAll elems + uptoBulkAll spare + 1
  | .agg parts => uptoBulkAll parts + 1
  | .iface _ d => uptoBulk d + 1
  | .map entries => uptoBulkEntries entries + 1
  | .held _ => 1
def uptoBulkAll {H : Type} : List (DataW H) → Nat
  | [] => 0
  | d :: r => uptoBulk d + uptoBulkAll r
def uptoBulkEntries {H : Type} : List (Lit × DataW H) → Nat
  | [] => 0
  | x :: r => uptoBulkEntry x + uptoBulkEntries r
def uptoBulkEntry {H : Type} : Lit × DataW H → Nat
  | (.string bytes, d) => bytes.length + uptoBulk d + 1
  | (_, d) => uptoBulk d + 1
 end
def uptoSmall : (H : Type) → List (DataW H) → Bool := fun _ ds => decide (uptoBulkAll ds ≤ 1048576)
def OpenSpec.upto (s : _root_.Go.ChangeSpec) : _root_.Go.OpenSpec := { _root_.Go.OpenSpec.ofChange s with cond := some uptoSmall }

/-- 'laws.FnSegments', WHERE WHAT IT READS IS OF BULK AT MOST 1048576: true; the input reads as it did. -/
def fnSegmentsUptoRow : OpenClaim := { program := "yteaiemckcepphaa", sum := "7c3c979f7a03e19050553ee0507f7e13c12ef64a2099c1dc3819ac1400b0a151", func := "loop.example/g00726/laws.FnSegments", spec := "fnSegments", unfollowed := true, recurses := true, apart := false, narrowed := true }
def FnSegmentsUptoSaid : Prop := fnSegmentsUptoRow.holds Try.pinned (OpenSpec.upto fnSegmentsSpec)

/-- 'laws.FnResets', WHERE WHAT IT READS IS OF BULK AT MOST 1048576: true; the input reads as it did. -/
def fnResetsUptoRow : OpenClaim := { program := "yteaiemckcepphaa", sum := "7c3c979f7a03e19050553ee0507f7e13c12ef64a2099c1dc3819ac1400b0a151", func := "loop.example/g00726/laws.FnResets", spec := "fnResets", apart := false, narrowed := true }
def FnResetsUptoSaid : Prop := fnResetsUptoRow.holds Try.pinned (OpenSpec.upto fnResetsSpec)

/-- 'laws.FnExactSegmentFault', WHERE WHAT IT READS IS OF BULK AT MOST 1048576: true; the input reads as it did. -/
def fnExactSegmentFaultUptoRow : OpenClaim := { program := "yteaiemckcepphaa", sum := "7c3c979f7a03e19050553ee0507f7e13c12ef64a2099c1dc3819ac1400b0a151", func := "loop.example/g00726/laws.FnExactSegmentFault", spec := "fnExactSegmentFault", apart := false, narrowed := true }
def FnExactSegmentFaultUptoSaid : Prop := fnExactSegmentFaultUptoRow.holds Try.pinned (OpenSpec.upto fnExactSegmentFaultSpec)

/-- 'laws.FnExactSegmentSize', WHERE WHAT IT READS IS OF BULK AT MOST 1048576: true; the input reads as it did. -/
def fnExactSegmentSizeUptoRow : OpenClaim := { program := "yteaiemckcepphaa", sum := "7c3c979f7a03e19050553ee0507f7e13c12ef64a2099c1dc3819ac1400b0a151", func := "loop.example/g00726/laws.FnExactSegmentSize", spec := "fnExactSegmentSize", apart := false, narrowed := true }
def FnExactSegmentSizeUptoSaid : Prop := fnExactSegmentSizeUptoRow.holds Try.pinned (OpenSpec.upto fnExactSegmentSizeSpec)

/-- 'laws.FnExactHasFlag', WHERE WHAT IT READS IS OF BULK AT MOST 1048576: true; the input reads as it did. -/
def fnExactHasFlagUptoRow : OpenClaim := { program := "yteaiemckcepphaa", sum := "7c3c979f7a03e19050553ee0507f7e13c12ef64a2099c1dc3819ac1400b0a151", func := "loop.example/g00726/laws.FnExactHasFlag", spec := "fnExactHasFlag", apart := false, narrowed := true }
def FnExactHasFlagUptoSaid : Prop := fnExactHasFlagUptoRow.holds Try.pinned (OpenSpec.upto fnExactHasFlagSpec)

/-- 'laws.FnExactPackSegment', WHERE WHAT IT READS IS OF BULK AT MOST 1048576: true; the input reads as it did. -/
def fnExactPackSegmentUptoRow : OpenClaim := { program := "yteaiemckcepphaa", sum := "7c3c979f7a03e19050553ee0507f7e13c12ef64a2099c1dc3819ac1400b0a151", func := "loop.example/g00726/laws.FnExactPackSegment", spec := "fnExactPackSegment", unfollowed := true, recurses := true, apart := false, narrowed := true }
def FnExactPackSegmentUptoSaid : Prop := fnExactPackSegmentUptoRow.holds Try.pinned (OpenSpec.upto fnExactPackSegmentSpec)

/-- 'laws.FnExactReadSegment', WHERE WHAT IT READS IS OF BULK AT MOST 1048576: true; the input reads as it did. -/
def fnExactReadSegmentUptoRow : OpenClaim := { program := "yteaiemckcepphaa", sum := "7c3c979f7a03e19050553ee0507f7e13c12ef64a2099c1dc3819ac1400b0a151", func := "loop.example/g00726/laws.FnExactReadSegment", spec := "fnExactReadSegment", unfollowed := true, recurses := true, apart := false, narrowed := true }
def FnExactReadSegmentUptoSaid : Prop := fnExactReadSegmentUptoRow.holds Try.pinned (OpenSpec.upto fnExactReadSegmentSpec)

/-- 'laws.FnExactResetFor', WHERE WHAT IT READS IS OF BULK AT MOST 1048576: true; the input reads as it did. -/
def fnExactResetForUptoRow : OpenClaim := { program := "yteaiemckcepphaa", sum := "7c3c979f7a03e19050553ee0507f7e13c12ef64a2099c1dc3819ac1400b0a151", func := "loop.example/g00726/laws.FnExactResetFor", spec := "fnExactResetFor", apart := false, narrowed := true }
def FnExactResetForUptoSaid : Prop := fnExactResetForUptoRow.holds Try.pinned (OpenSpec.upto fnExactResetForSpec)

/-- 'laws.FnExactSameSegments', WHERE WHAT IT READS IS OF BULK AT MOST 1048576: true; the input reads as it did. -/
def fnExactSameSegmentsUptoRow : OpenClaim := { program := "yteaiemckcepphaa", sum := "7c3c979f7a03e19050553ee0507f7e13c12ef64a2099c1dc3819ac1400b0a151", func := "loop.example/g00726/laws.FnExactSameSegments", spec := "fnExactSameSegments", apart := false, narrowed := true }
def FnExactSameSegmentsUptoSaid : Prop := fnExactSameSegmentsUptoRow.holds Try.pinned (OpenSpec.upto fnExactSameSegmentsSpec)

end Rows
end Go.Proofs.Yteaiemckcepphaa
