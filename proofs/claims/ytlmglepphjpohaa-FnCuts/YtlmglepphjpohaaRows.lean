/-
  No cell of these rows narrows 'for every input' (looked for: loops, veiled, ifaces, maps, wideKeys, modest, calm, conditions, laid).
  DERIVED. THE GIVEN ROWS OF THIS SEAT. 8 by the template 'for every input the law returns true; each argument reads behind the call as it read before'; 0 by the template 'total and deterministic' (their statements: YtlmglepphjpohaaTotals.lean).
  GIVEN WITH THE SEED: the statements are not yours to turn. If you find one false, say at which input.
  Laid BY PROGRAM, IN A SANDBOX (cutbox-rows.mjs): the forced cells as the released guide's own fill.sh prints them over the translation 7e60c3718ebc4170… (all of the seat's roots in one cut). By AI agents, Wed Nov 11 2026. No macro, syntax, notation, axiom, sorry.
-/
import Derived.Test.YtlmglepphjpohaaChecked
import GoSem.Claim
import GoSem.ClaimJoined
import GoSem.ClaimMapViews
import Derived.JoinedTies
import Derived.KernelRfl
namespace Go.Proofs.Ytlmglepphjpohaa
/- THE CELL 'sum', in the pinned program and in every row, IS THE sha256 OF THE DUMP (.gsa) THAT YtlmglepphjpohaaProg.lean LOADS. Nothing in Lean hashes anything: it is a label: what it is worth is what the hold of that sum in a sandbox is worth. -/
noncomputable def Try.pinned : Pinned := { name := "ytlmglepphjpohaa", sum := "7e60c3718ebc41703d080dc781c4b9079f997c75d3e4fdc085901a94ad231122", checked := Try.checked }
namespace Rows
def none {H : Type} : Left H := { results := [], args := [] }

/-- 'laws.FnPieces': WHATEVER THE INPUT: true; the input reads as it did. -/
def fnPiecesSpec : ChangeSpec := { name := "fnPieces", fn := fun _ => fun
  | [d] => { results := [.lit (.bool true)], args := [d] }
  | _ => none }
def fnPiecesRow : OpenClaim := { program := "ytlmglepphjpohaa", sum := "7e60c3718ebc41703d080dc781c4b9079f997c75d3e4fdc085901a94ad231122", func := "loop.example/g00726/laws.FnPieces", spec := "fnPieces", unfollowed := true, recurses := true, apart := false }
def FnPiecesSaid : Prop := fnPiecesRow.holds Try.pinned (OpenSpec.ofChange fnPiecesSpec)

/-- ITS FALSE NEIGHBOUR: 'it returns false'. Refute it at one input. -/
def fnPiecesWrong : ChangeSpec := { name := "fnPieces", fn := fun _ => fun
  | [d] => { results := [.lit (.bool false)], args := [d] }
  | _ => none }
def FnPiecesWrongFalsely : Prop := fnPiecesRow.holds Try.pinned (OpenSpec.ofChange fnPiecesWrong)

/-- 'laws.FnCuts': WHATEVER THE INPUT: true; the input reads as it did. -/
def fnCutsSpec : ChangeSpec := { name := "fnCuts", fn := fun _ => fun
  | [d] => { results := [.lit (.bool true)], args := [d] }
  | _ => none }
def fnCutsRow : OpenClaim := { program := "ytlmglepphjpohaa", sum := "7e60c3718ebc41703d080dc781c4b9079f997c75d3e4fdc085901a94ad231122", func := "loop.example/g00726/laws.FnCuts", spec := "fnCuts", unfollowed := true, recurses := true, apart := false }
def FnCutsSaid : Prop := fnCutsRow.holds Try.pinned (OpenSpec.ofChange fnCutsSpec)

/-- ITS FALSE NEIGHBOUR: 'it returns false'. Refute it at one input. -/
def fnCutsWrong : ChangeSpec := { name := "fnCuts", fn := fun _ => fun
  | [d] => { results := [.lit (.bool false)], args := [d] }
  | _ => none }
def FnCutsWrongFalsely : Prop := fnCutsRow.holds Try.pinned (OpenSpec.ofChange fnCutsWrong)

/-- 'laws.FnExactPiecesFault': WHATEVER THE INPUT: true; the input reads as it did. -/
def fnExactPiecesFaultSpec : ChangeSpec := { name := "fnExactPiecesFault", fn := fun _ => fun
  | [d] => { results := [.lit (.bool true)], args := [d] }
  | _ => none }
def fnExactPiecesFaultRow : OpenClaim := { program := "ytlmglepphjpohaa", sum := "7e60c3718ebc41703d080dc781c4b9079f997c75d3e4fdc085901a94ad231122", func := "loop.example/g00726/laws.FnExactPiecesFault", spec := "fnExactPiecesFault", apart := false }
def FnExactPiecesFaultSaid : Prop := fnExactPiecesFaultRow.holds Try.pinned (OpenSpec.ofChange fnExactPiecesFaultSpec)

/-- ITS FALSE NEIGHBOUR: 'it returns false'. Refute it at one input. -/
def fnExactPiecesFaultWrong : ChangeSpec := { name := "fnExactPiecesFault", fn := fun _ => fun
  | [d] => { results := [.lit (.bool false)], args := [d] }
  | _ => none }
def FnExactPiecesFaultWrongFalsely : Prop := fnExactPiecesFaultRow.holds Try.pinned (OpenSpec.ofChange fnExactPiecesFaultWrong)

/-- 'laws.FnExactPutPiece': WHATEVER THE INPUT: true; the input reads as it did. -/
def fnExactPutPieceSpec : ChangeSpec := { name := "fnExactPutPiece", fn := fun _ => fun
  | [d1, d2, d3] => { results := [.lit (.bool true)], args := [d1, d2, d3] }
  | _ => none }
def fnExactPutPieceRow : OpenClaim := { program := "ytlmglepphjpohaa", sum := "7e60c3718ebc41703d080dc781c4b9079f997c75d3e4fdc085901a94ad231122", func := "loop.example/g00726/laws.FnExactPutPiece", spec := "fnExactPutPiece", unfollowed := true, recurses := true, apart := false }
def FnExactPutPieceSaid : Prop := fnExactPutPieceRow.holds Try.pinned (OpenSpec.ofChange fnExactPutPieceSpec)

/-- ITS FALSE NEIGHBOUR: 'it returns false'. Refute it at one input. -/
def fnExactPutPieceWrong : ChangeSpec := { name := "fnExactPutPiece", fn := fun _ => fun
  | [d1, d2, d3] => { results := [.lit (.bool false)], args := [d1, d2, d3] }
  | _ => none }
def FnExactPutPieceWrongFalsely : Prop := fnExactPutPieceRow.holds Try.pinned (OpenSpec.ofChange fnExactPutPieceWrong)

/-- 'laws.FnExactTakeReady': WHATEVER THE INPUT: true; the input reads as it did. -/
def fnExactTakeReadySpec : ChangeSpec := { name := "fnExactTakeReady", fn := fun _ => fun
  | [d] => { results := [.lit (.bool true)], args := [d] }
  | _ => none }
def fnExactTakeReadyRow : OpenClaim := { program := "ytlmglepphjpohaa", sum := "7e60c3718ebc41703d080dc781c4b9079f997c75d3e4fdc085901a94ad231122", func := "loop.example/g00726/laws.FnExactTakeReady", spec := "fnExactTakeReady", apart := false }
def FnExactTakeReadySaid : Prop := fnExactTakeReadyRow.holds Try.pinned (OpenSpec.ofChange fnExactTakeReadySpec)

/-- ITS FALSE NEIGHBOUR: 'it returns false'. Refute it at one input. -/
def fnExactTakeReadyWrong : ChangeSpec := { name := "fnExactTakeReady", fn := fun _ => fun
  | [d] => { results := [.lit (.bool false)], args := [d] }
  | _ => none }
def FnExactTakeReadyWrongFalsely : Prop := fnExactTakeReadyRow.holds Try.pinned (OpenSpec.ofChange fnExactTakeReadyWrong)

/-- 'laws.FnExactHeldIn': WHATEVER THE INPUT: true; the input reads as it did. -/
def fnExactHeldInSpec : ChangeSpec := { name := "fnExactHeldIn", fn := fun _ => fun
  | [d] => { results := [.lit (.bool true)], args := [d] }
  | _ => none }
def fnExactHeldInRow : OpenClaim := { program := "ytlmglepphjpohaa", sum := "7e60c3718ebc41703d080dc781c4b9079f997c75d3e4fdc085901a94ad231122", func := "loop.example/g00726/laws.FnExactHeldIn", spec := "fnExactHeldIn", apart := false }
def FnExactHeldInSaid : Prop := fnExactHeldInRow.holds Try.pinned (OpenSpec.ofChange fnExactHeldInSpec)

/-- ITS FALSE NEIGHBOUR: 'it returns false'. Refute it at one input. -/
def fnExactHeldInWrong : ChangeSpec := { name := "fnExactHeldIn", fn := fun _ => fun
  | [d] => { results := [.lit (.bool false)], args := [d] }
  | _ => none }
def FnExactHeldInWrongFalsely : Prop := fnExactHeldInRow.holds Try.pinned (OpenSpec.ofChange fnExactHeldInWrong)

/-- 'laws.FnExactCutPiece': WHATEVER THE INPUT: true; the input reads as it did. -/
def fnExactCutPieceSpec : ChangeSpec := { name := "fnExactCutPiece", fn := fun _ => fun
  | [d1, d2, d3] => { results := [.lit (.bool true)], args := [d1, d2, d3] }
  | _ => none }
def fnExactCutPieceRow : OpenClaim := { program := "ytlmglepphjpohaa", sum := "7e60c3718ebc41703d080dc781c4b9079f997c75d3e4fdc085901a94ad231122", func := "loop.example/g00726/laws.FnExactCutPiece", spec := "fnExactCutPiece", apart := false }
def FnExactCutPieceSaid : Prop := fnExactCutPieceRow.holds Try.pinned (OpenSpec.ofChange fnExactCutPieceSpec)

/-- ITS FALSE NEIGHBOUR: 'it returns false'. Refute it at one input. -/
def fnExactCutPieceWrong : ChangeSpec := { name := "fnExactCutPiece", fn := fun _ => fun
  | [d1, d2, d3] => { results := [.lit (.bool false)], args := [d1, d2, d3] }
  | _ => none }
def FnExactCutPieceWrongFalsely : Prop := fnExactCutPieceRow.holds Try.pinned (OpenSpec.ofChange fnExactCutPieceWrong)

/-- 'laws.FnExactSamePieces': WHATEVER THE INPUT: true; the input reads as it did. -/
def fnExactSamePiecesSpec : ChangeSpec := { name := "fnExactSamePieces", fn := fun _ => fun
  | [d1, d2] => { results := [.lit (.bool true)], args := [d1, d2] }
  | _ => none }
def fnExactSamePiecesRow : OpenClaim := { program := "ytlmglepphjpohaa", sum := "7e60c3718ebc41703d080dc781c4b9079f997c75d3e4fdc085901a94ad231122", func := "loop.example/g00726/laws.FnExactSamePieces", spec := "fnExactSamePieces", unfollowed := true, recurses := true, apart := false }
def FnExactSamePiecesSaid : Prop := fnExactSamePiecesRow.holds Try.pinned (OpenSpec.ofChange fnExactSamePiecesSpec)

/-- ITS FALSE NEIGHBOUR: 'it returns false'. Refute it at one input. -/
def fnExactSamePiecesWrong : ChangeSpec := { name := "fnExactSamePieces", fn := fun _ => fun
  | [d1, d2] => { results := [.lit (.bool false)], args := [d1, d2] }
  | _ => none }
def FnExactSamePiecesWrongFalsely : Prop := fnExactSamePiecesRow.holds Try.pinned (OpenSpec.ofChange fnExactSamePiecesWrong)

/- THE SECOND FORM. 'bulk': how many values and letters a reading holds, each counted each time it is reached (what is shared counts as often as it is met; a slice's spare places count too). A statement '..UptoSaid' is the law's where the arguments, and the package variables that the reading takes, are together of bulk at most 1048576: NARROWER than '..Said'. Prove '..Said' where nothing that the law and all that it calls make is longer than what came in: it says more and counts as full. Else prove '..UptoSaid'. A law counts once. -/
mutual
def uptoBulk {H : Type} : DataW H → Nat
  | .lit (.string bytes) => bytes.length + 1
  | .lit _ => 1
  | .nil => 1
  | .ptr d => uptoBulk d + 1
  | .slice elems spare => uptoBulkAll elems + uptoBulkAll spare + 1
  | .agg parts => uptoBulkAll parts + 1
  | .iface _ d => uptoBulk d + 1
  | .map entries => uptoBulkEntries entries + 1
  | .held _ => 1
def uptoBulkAll {H : Type} : List (DataW H) → Nat
  | [] => 0
  | d :: r => uptoBulk d + uptoBulkAll r
def uptoBulkEntries {H : Type} : List (Lit × DataW H) → Nat
  | [] => 0
  | x :: r => uptoBulkEntry x + uptoBulkEntries r
def uptoBulkEntry {H : Type} : Lit × DataW H → Nat
  | (.string bytes, d) => bytes.length + uptoBulk d + 1
  | (_, d) => uptoBulk d + 1
 end
def uptoSmall : (H : Type) → List (DataW H) → Bool := fun _ ds => decide (uptoBulkAll ds ≤ 1048576)
def OpenSpec.upto (s : _root_.Go.ChangeSpec) : _root_.Go.OpenSpec := { _root_.Go.OpenSpec.ofChange s with cond := some uptoSmall }

/-- 'laws.FnPieces', WHERE WHAT IT READS IS OF BULK AT MOST 1048576: true; the input reads as it did. -/
def fnPiecesUptoRow : OpenClaim := { program := "ytlmglepphjpohaa", sum := "7e60c3718ebc41703d080dc781c4b9079f997c75d3e4fdc085901a94ad231122", func := "loop.example/g00726/laws.FnPieces", spec := "fnPieces", unfollowed := true, recurses := true, apart := false, narrowed := true }
def FnPiecesUptoSaid : Prop := fnPiecesUptoRow.holds Try.pinned (OpenSpec.upto fnPiecesSpec)

/-- 'laws.FnCuts', WHERE WHAT IT READS IS OF BULK AT MOST 1048576: true; the input reads as it did. -/
def fnCutsUptoRow : OpenClaim := { program := "ytlmglepphjpohaa", sum := "7e60c3718ebc41703d080dc781c4b9079f997c75d3e4fdc085901a94ad231122", func := "loop.example/g00726/laws.FnCuts", spec := "fnCuts", unfollowed := true, recurses := true, apart := false, narrowed := true }
def FnCutsUptoSaid : Prop := fnCutsUptoRow.holds Try.pinned (OpenSpec.upto fnCutsSpec)

/-- 'laws.FnExactPiecesFault', WHERE WHAT IT READS IS OF BULK AT MOST 1048576: true; the input reads as it did. -/
def fnExactPiecesFaultUptoRow : OpenClaim := { program := "ytlmglepphjpohaa", sum := "7e60c3718ebc41703d080dc781c4b9079f997c75d3e4fdc085901a94ad231122", func := "loop.example/g00726/laws.FnExactPiecesFault", spec := "fnExactPiecesFault", apart := false, narrowed := true }
def FnExactPiecesFaultUptoSaid : Prop := fnExactPiecesFaultUptoRow.holds Try.pinned (OpenSpec.upto fnExactPiecesFaultSpec)

/-- 'laws.FnExactPutPiece', WHERE WHAT IT READS IS OF BULK AT MOST 1048576: true; the input reads as it did. -/
def fnExactPutPieceUptoRow : OpenClaim := { program := "ytlmglepphjpohaa", sum := "7e60c3718ebc41703d080dc781c4b9079f997c75d3e4fdc085901a94ad231122", func := "loop.example/g00726/laws.FnExactPutPiece", spec := "fnExactPutPiece", unfollowed := true, recurses := true, apart := false, narrowed := true }
def FnExactPutPieceUptoSaid : Prop := fnExactPutPieceUptoRow.holds Try.pinned (OpenSpec.upto fnExactPutPieceSpec)

/-- 'laws.FnExactTakeReady', WHERE WHAT IT READS IS OF BULK AT MOST 1048576: true; the input reads as it did. -/
def fnExactTakeReadyUptoRow : OpenClaim := { program := "ytlmglepphjpohaa", sum := "7e60c3718ebc41703d080dc781c4b9079f997c75d3e4fdc085901a94ad231122", func := "loop.example/g00726/laws.FnExactTakeReady", spec := "fnExactTakeReady", apart := false, narrowed := true }
def FnExactTakeReadyUptoSaid : Prop := fnExactTakeReadyUptoRow.holds Try.pinned (OpenSpec.upto fnExactTakeReadySpec)

/-- 'laws.FnExactHeldIn', WHERE WHAT IT READS IS OF BULK AT MOST 1048576: true; the input reads as it did. -/
def fnExactHeldInUptoRow : OpenClaim := { program := "ytlmglepphjpohaa", sum := "7e60c3718ebc41703d080dc781c4b9079f997c75d3e4fdc085901a94ad231122", func := "loop.example/g00726/laws.FnExactHeldIn", spec := "fnExactHeldIn", apart := false, narrowed := true }
def FnExactHeldInUptoSaid : Prop := fnExactHeldInUptoRow.holds Try.pinned (OpenSpec.upto fnExactHeldInSpec)

/-- 'laws.FnExactCutPiece', WHERE WHAT IT READS IS OF BULK AT MOST 1048576: true; the input reads as it did. -/
def fnExactCutPieceUptoRow : OpenClaim := { program := "ytlmglepphjpohaa", sum := "7e60c3718ebc41703d080dc781c4b9079f997c75d3e4fdc085901a94ad231122", func := "loop.example/g00726/laws.FnExactCutPiece", spec := "fnExactCutPiece", apart := false, narrowed := true }
def FnExactCutPieceUptoSaid : Prop := fnExactCutPieceUptoRow.holds Try.pinned (OpenSpec.upto fnExactCutPieceSpec)

/-- 'laws.FnExactSamePieces', WHERE WHAT IT READS IS OF BULK AT MOST 1048576: true; the input reads as it did. -/
def fnExactSamePiecesUptoRow : OpenClaim := { program := "ytlmglepphjpohaa", sum := "7e60c3718ebc41703d080dc781c4b9079f997c75d3e4fdc085901a94ad231122", func := "loop.example/g00726/laws.FnExactSamePieces", spec := "fnExactSamePieces", unfollowed := true, recurses := true, apart := false, narrowed := true }
def FnExactSamePiecesUptoSaid : Prop := fnExactSamePiecesUptoRow.holds Try.pinned (OpenSpec.upto fnExactSamePiecesSpec)

end Rows
end Go.Proofs.Ytlmglepphjpohaa
