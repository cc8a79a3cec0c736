/-
  No cell of these rows narrows 'for every input' (looked for: loops, veiled, ifaces, maps, wideKeys, modest, calm, conditions, laid).
  DERIVED. THE GIVEN ROWS OF THIS SEAT. 11 by the template 'for every input the law returns true; each argument reads behind the call as it read before'; 0 by the template 'total and deterministic' (their statements: YtimlobhlcmghfaaTotals.lean).
  GIVEN WITH THE SEED: the statements are not yours to turn. If you find one false, say at which input.
  Laid BY PROGRAM, IN A SANDBOX (cutbox-rows.mjs): the forced cells as the released guide's own fill.sh prints them over the translation dc510a1c21fe5333… (all of the seat's roots in one cut). By AI agents, Wed Nov 11 2026. No macro, syntax, notation, axiom, sorry.
-/
import Derived.Test.YtimlobhlcmghfaaChecked
import GoSem.Claim
import GoSem.ClaimJoined
import GoSem.ClaimMapViews
import Derived.JoinedTies
import Derived.KernelRfl
namespace Go.Proofs.Ytimlobhlcmghfaa
/- THE CELL 'sum', in the pinned program and in every row, IS THE sha256 OF THE DUMP (.gsa) THAT YtimlobhlcmghfaaProg.lean LOADS. Nothing in Lean hashes anything: it is a label: what it is worth is what the hold of that sum in a sandbox is worth. -/
noncomputable def Try.pinned : Pinned := { name := "ytimlobhlcmghfaa", sum := "dc510a1c21fe53331299ccee007543e5c1ff87937bffb0e9c6feebdda152fc88", checked := Try.checked }
namespace Rows
def none {H : Type} : Left H := { results := [], args := [] }

/-- 'laws.FnPieces': WHATEVER THE INPUT: true; the input reads as it did. -/
def fnPiecesSpec : ChangeSpec := { name := "fnPieces", fn := fun _ => fun
  | [d] => { results := [.lit (.bool true)], args := [d] }
  | _ => none }
def fnPiecesRow : OpenClaim := { program := "ytimlobhlcmghfaa", sum := "dc510a1c21fe53331299ccee007543e5c1ff87937bffb0e9c6feebdda152fc88", func := "loop.example/g00726/laws.FnPieces", spec := "fnPieces", unfollowed := true, recurses := true, plainKeys := false, apart := false }
def FnPiecesSaid : Prop := fnPiecesRow.holds Try.pinned (OpenSpec.ofChange fnPiecesSpec)

/-- ITS FALSE NEIGHBOUR: 'it returns false'. Refute it at one input. -/
def fnPiecesWrong : ChangeSpec := { name := "fnPieces", fn := fun _ => fun
  | [d] => { results := [.lit (.bool false)], args := [d] }
  | _ => none }
def FnPiecesWrongFalsely : Prop := fnPiecesRow.holds Try.pinned (OpenSpec.ofChange fnPiecesWrong)

/-- 'laws.FnCaches': WHATEVER THE INPUT: true; the input reads as it did. -/
def fnCachesSpec : ChangeSpec := { name := "fnCaches", fn := fun _ => fun
  | [d] => { results := [.lit (.bool true)], args := [d] }
  | _ => none }
def fnCachesRow : OpenClaim := { program := "ytimlobhlcmghfaa", sum := "dc510a1c21fe53331299ccee007543e5c1ff87937bffb0e9c6feebdda152fc88", func := "loop.example/g00726/laws.FnCaches", spec := "fnCaches", unfollowed := true, recurses := true, plainKeys := false, apart := false }
def FnCachesSaid : Prop := fnCachesRow.holds Try.pinned (OpenSpec.ofChange fnCachesSpec)

/-- ITS FALSE NEIGHBOUR: 'it returns false'. Refute it at one input. -/
def fnCachesWrong : ChangeSpec := { name := "fnCaches", fn := fun _ => fun
  | [d] => { results := [.lit (.bool false)], args := [d] }
  | _ => none }
def FnCachesWrongFalsely : Prop := fnCachesRow.holds Try.pinned (OpenSpec.ofChange fnCachesWrong)

/-- 'laws.FnExactPutPiece': WHATEVER THE INPUT: true; the input reads as it did. -/
def fnExactPutPieceSpec : ChangeSpec := { name := "fnExactPutPiece", fn := fun _ => fun
  | [d1, d2, d3] => { results := [.lit (.bool true)], args := [d1, d2, d3] }
  | _ => none }
def fnExactPutPieceRow : OpenClaim := { program := "ytimlobhlcmghfaa", sum := "dc510a1c21fe53331299ccee007543e5c1ff87937bffb0e9c6feebdda152fc88", func := "loop.example/g00726/laws.FnExactPutPiece", spec := "fnExactPutPiece", unfollowed := true, recurses := true, plainKeys := false, apart := false }
def FnExactPutPieceSaid : Prop := fnExactPutPieceRow.holds Try.pinned (OpenSpec.ofChange fnExactPutPieceSpec)

/-- ITS FALSE NEIGHBOUR: 'it returns false'. Refute it at one input. -/
def fnExactPutPieceWrong : ChangeSpec := { name := "fnExactPutPiece", fn := fun _ => fun
  | [d1, d2, d3] => { results := [.lit (.bool false)], args := [d1, d2, d3] }
  | _ => none }
def FnExactPutPieceWrongFalsely : Prop := fnExactPutPieceRow.holds Try.pinned (OpenSpec.ofChange fnExactPutPieceWrong)

/-- 'laws.FnExactTakeReady': WHATEVER THE INPUT: true; the input reads as it did. -/
def fnExactTakeReadySpec : ChangeSpec := { name := "fnExactTakeReady", fn := fun _ => fun
  | [d] => { results := [.lit (.bool true)], args := [d] }
  | _ => none }
def fnExactTakeReadyRow : OpenClaim := { program := "ytimlobhlcmghfaa", sum := "dc510a1c21fe53331299ccee007543e5c1ff87937bffb0e9c6feebdda152fc88", func := "loop.example/g00726/laws.FnExactTakeReady", spec := "fnExactTakeReady", plainKeys := false, apart := false }
def FnExactTakeReadySaid : Prop := fnExactTakeReadyRow.holds Try.pinned (OpenSpec.ofChange fnExactTakeReadySpec)

/-- ITS FALSE NEIGHBOUR: 'it returns false'. Refute it at one input. -/
def fnExactTakeReadyWrong : ChangeSpec := { name := "fnExactTakeReady", fn := fun _ => fun
  | [d] => { results := [.lit (.bool false)], args := [d] }
  | _ => none }
def FnExactTakeReadyWrongFalsely : Prop := fnExactTakeReadyRow.holds Try.pinned (OpenSpec.ofChange fnExactTakeReadyWrong)

/-- 'laws.FnExactLearnEntry': WHATEVER THE INPUT: true; the input reads as it did. -/
def fnExactLearnEntrySpec : ChangeSpec := { name := "fnExactLearnEntry", fn := fun _ => fun
  | [d1, d2, d3, d4] => { results := [.lit (.bool true)], args := [d1, d2, d3, d4] }
  | _ => none }
def fnExactLearnEntryRow : OpenClaim := { program := "ytimlobhlcmghfaa", sum := "dc510a1c21fe53331299ccee007543e5c1ff87937bffb0e9c6feebdda152fc88", func := "loop.example/g00726/laws.FnExactLearnEntry", spec := "fnExactLearnEntry", unfollowed := true, recurses := true, plainKeys := false, apart := false }
def FnExactLearnEntrySaid : Prop := fnExactLearnEntryRow.holds Try.pinned (OpenSpec.ofChange fnExactLearnEntrySpec)

/-- ITS FALSE NEIGHBOUR: 'it returns false'. Refute it at one input. -/
def fnExactLearnEntryWrong : ChangeSpec := { name := "fnExactLearnEntry", fn := fun _ => fun
  | [d1, d2, d3, d4] => { results := [.lit (.bool false)], args := [d1, d2, d3, d4] }
  | _ => none }
def FnExactLearnEntryWrongFalsely : Prop := fnExactLearnEntryRow.holds Try.pinned (OpenSpec.ofChange fnExactLearnEntryWrong)

/-- 'laws.FnExactEndFault': WHATEVER THE INPUT: true; the input reads as it did. -/
def fnExactEndFaultSpec : ChangeSpec := { name := "fnExactEndFault", fn := fun _ => fun
  | [d] => { results := [.lit (.bool true)], args := [d] }
  | _ => none }
def fnExactEndFaultRow : OpenClaim := { program := "ytimlobhlcmghfaa", sum := "dc510a1c21fe53331299ccee007543e5c1ff87937bffb0e9c6feebdda152fc88", func := "loop.example/g00726/laws.FnExactEndFault", spec := "fnExactEndFault", plainKeys := false, apart := false }
def FnExactEndFaultSaid : Prop := fnExactEndFaultRow.holds Try.pinned (OpenSpec.ofChange fnExactEndFaultSpec)

/-- ITS FALSE NEIGHBOUR: 'it returns false'. Refute it at one input. -/
def fnExactEndFaultWrong : ChangeSpec := { name := "fnExactEndFault", fn := fun _ => fun
  | [d] => { results := [.lit (.bool false)], args := [d] }
  | _ => none }
def FnExactEndFaultWrongFalsely : Prop := fnExactEndFaultRow.holds Try.pinned (OpenSpec.ofChange fnExactEndFaultWrong)

/-- 'laws.FnExactEventFault': WHATEVER THE INPUT: true; the input reads as it did. -/
def fnExactEventFaultSpec : ChangeSpec := { name := "fnExactEventFault", fn := fun _ => fun
  | [d] => { results := [.lit (.bool true)], args := [d] }
  | _ => none }
def fnExactEventFaultRow : OpenClaim := { program := "ytimlobhlcmghfaa", sum := "dc510a1c21fe53331299ccee007543e5c1ff87937bffb0e9c6feebdda152fc88", func := "loop.example/g00726/laws.FnExactEventFault", spec := "fnExactEventFault", plainKeys := false, apart := false }
def FnExactEventFaultSaid : Prop := fnExactEventFaultRow.holds Try.pinned (OpenSpec.ofChange fnExactEventFaultSpec)

/-- ITS FALSE NEIGHBOUR: 'it returns false'. Refute it at one input. -/
def fnExactEventFaultWrong : ChangeSpec := { name := "fnExactEventFault", fn := fun _ => fun
  | [d] => { results := [.lit (.bool false)], args := [d] }
  | _ => none }
def FnExactEventFaultWrongFalsely : Prop := fnExactEventFaultRow.holds Try.pinned (OpenSpec.ofChange fnExactEventFaultWrong)

/-- 'laws.FnExactBytesRead': WHATEVER THE INPUT: true; the input reads as it did. -/
def fnExactBytesReadSpec : ChangeSpec := { name := "fnExactBytesRead", fn := fun _ => fun
  | [d1, d2, d3] => { results := [.lit (.bool true)], args := [d1, d2, d3] }
  | _ => none }
def fnExactBytesReadRow : OpenClaim := { program := "ytimlobhlcmghfaa", sum := "dc510a1c21fe53331299ccee007543e5c1ff87937bffb0e9c6feebdda152fc88", func := "loop.example/g00726/laws.FnExactBytesRead", spec := "fnExactBytesRead", plainKeys := false, apart := false }
def FnExactBytesReadSaid : Prop := fnExactBytesReadRow.holds Try.pinned (OpenSpec.ofChange fnExactBytesReadSpec)

/-- ITS FALSE NEIGHBOUR: 'it returns false'. Refute it at one input. -/
def fnExactBytesReadWrong : ChangeSpec := { name := "fnExactBytesRead", fn := fun _ => fun
  | [d1, d2, d3] => { results := [.lit (.bool false)], args := [d1, d2, d3] }
  | _ => none }
def FnExactBytesReadWrongFalsely : Prop := fnExactBytesReadRow.holds Try.pinned (OpenSpec.ofChange fnExactBytesReadWrong)

/-- 'laws.FnExactIsOver': WHATEVER THE INPUT: true; the input reads as it did. -/
def fnExactIsOverSpec : ChangeSpec := { name := "fnExactIsOver", fn := fun _ => fun
  | [d] => { results := [.lit (.bool true)], args := [d] }
  | _ => none }
def fnExactIsOverRow : OpenClaim := { program := "ytimlobhlcmghfaa", sum := "dc510a1c21fe53331299ccee007543e5c1ff87937bffb0e9c6feebdda152fc88", func := "loop.example/g00726/laws.FnExactIsOver", spec := "fnExactIsOver", plainKeys := false, apart := false }
def FnExactIsOverSaid : Prop := fnExactIsOverRow.holds Try.pinned (OpenSpec.ofChange fnExactIsOverSpec)

/-- ITS FALSE NEIGHBOUR: 'it returns false'. Refute it at one input. -/
def fnExactIsOverWrong : ChangeSpec := { name := "fnExactIsOver", fn := fun _ => fun
  | [d] => { results := [.lit (.bool false)], args := [d] }
  | _ => none }
def FnExactIsOverWrongFalsely : Prop := fnExactIsOverRow.holds Try.pinned (OpenSpec.ofChange fnExactIsOverWrong)

/-- 'laws.FnExactSameEnds': WHATEVER THE INPUT: true; the input reads as it did. -/
def fnExactSameEndsSpec : ChangeSpec := { name := "fnExactSameEnds", fn := fun _ => fun
  | [d1, d2] => { results := [.lit (.bool true)], args := [d1, d2] }
  | _ => none }
def fnExactSameEndsRow : OpenClaim := { program := "ytimlobhlcmghfaa", sum := "dc510a1c21fe53331299ccee007543e5c1ff87937bffb0e9c6feebdda152fc88", func := "loop.example/g00726/laws.FnExactSameEnds", spec := "fnExactSameEnds", unfollowed := true, recurses := true, plainKeys := false, apart := false }
def FnExactSameEndsSaid : Prop := fnExactSameEndsRow.holds Try.pinned (OpenSpec.ofChange fnExactSameEndsSpec)

/-- ITS FALSE NEIGHBOUR: 'it returns false'. Refute it at one input. -/
def fnExactSameEndsWrong : ChangeSpec := { name := "fnExactSameEnds", fn := fun _ => fun
  | [d1, d2] => { results := [.lit (.bool false)], args := [d1, d2] }
  | _ => none }
def FnExactSameEndsWrongFalsely : Prop := fnExactSameEndsRow.holds Try.pinned (OpenSpec.ofChange fnExactSameEndsWrong)

/-- 'laws.FnExactSamePairs': WHATEVER THE INPUT: true; the input reads as it did. -/
def fnExactSamePairsSpec : ChangeSpec := { name := "fnExactSamePairs", fn := fun _ => fun
  | [d1, d2] => { results := [.lit (.bool true)], args := [d1, d2] }
  | _ => none }
def fnExactSamePairsRow : OpenClaim := { program := "ytimlobhlcmghfaa", sum := "dc510a1c21fe53331299ccee007543e5c1ff87937bffb0e9c6feebdda152fc88", func := "loop.example/g00726/laws.FnExactSamePairs", spec := "fnExactSamePairs", unfollowed := true, recurses := true, plainKeys := false, apart := false }
def FnExactSamePairsSaid : Prop := fnExactSamePairsRow.holds Try.pinned (OpenSpec.ofChange fnExactSamePairsSpec)

/-- ITS FALSE NEIGHBOUR: 'it returns false'. Refute it at one input. -/
def fnExactSamePairsWrong : ChangeSpec := { name := "fnExactSamePairs", fn := fun _ => fun
  | [d1, d2] => { results := [.lit (.bool false)], args := [d1, d2] }
  | _ => none }
def FnExactSamePairsWrongFalsely : Prop := fnExactSamePairsRow.holds Try.pinned (OpenSpec.ofChange fnExactSamePairsWrong)

/- THE SECOND FORM. 'bulk': how many values and letters a reading holds, each counted each time it is reached (what is shared counts as often as it is met; a slice's spare places count too). A statement '..UptoSaid' is the law's where the arguments, and the package variables that the reading takes, are together of bulk at most 1048576: NARROWER than '..Said'. Prove '..Said' where nothing that the law and all that it calls make is longer than what came in: it says more and counts as full. Else prove '..UptoSaid'. A law counts once. -/
mutual
def uptoBulk {H : Type} : DataW H → Nat
  | .lit (.string bytes) => bytes.length + 1
  | .lit _ => 1
  | .nil => 1
  | .ptr d => uptoBulk d + 1
  | .slice elems spare => uptoBulkAll elems + uptoBulkAll spare + 1
  | .agg parts => uptoBulkAll parts + 1
  | .iface _ d => uptoBulk d + 1
  | .map entries => uptoBulkEntries entries + 1
  | .held _ => 1
def uptoBulkAll {H : Type} : List (DataW H) → Nat
  | [] => 0
  | d :: r => uptoBulk d + uptoBulkAll r
def uptoBulkEntries {H : Type} : List (Lit × DataW H) → Nat
  | [] => 0
  | x :: r => uptoBulkEntry x + uptoBulkEntries r
def uptoBulkEntry {H : Type} : Lit × DataW H → Nat
  | (.string bytes, d) => bytes.length + uptoBulk d + 1
  | (_, d) => uptoBulk d + 1
 end
def uptoSmall : (H : Type) → List (DataW H) → Bool := fun _ ds => decide (uptoBulkAll ds ≤ 1048576)
def OpenSpec.upto (s : _root_.Go.ChangeSpec) : _root_.Go.OpenSpec := { _root_.Go.OpenSpec.ofChange s with cond := some uptoSmall }

/-- 'laws.FnPieces', WHERE WHAT IT READS IS OF BULK AT MOST 1048576: true; the input reads as it did. -/
def fnPiecesUptoRow : OpenClaim := { program := "ytimlobhlcmghfaa", sum := "dc510a1c21fe53331299ccee007543e5c1ff87937bffb0e9c6feebdda152fc88", func := "loop.example/g00726/laws.FnPieces", spec := "fnPieces", unfollowed := true, recurses := true, plainKeys := false, apart := false, narrowed := true }
def FnPiecesUptoSaid : Prop := fnPiecesUptoRow.holds Try.pinned (OpenSpec.upto fnPiecesSpec)

/-- 'laws.FnCaches', WHERE WHAT IT READS IS OF BULK AT MOST 1048576: true; the input reads as it did. -/
def fnCachesUptoRow : OpenClaim := { program := "ytimlobhlcmghfaa", sum := "dc510a1c21fe53331299ccee007543e5c1ff87937bffb0e9c6feebdda152fc88", func := "loop.example/g00726/laws.FnCaches", spec := "fnCaches", unfollowed := true, recurses := true, plainKeys := false, apart := false, narrowed := true }
def FnCachesUptoSaid : Prop := fnCachesUptoRow.holds Try.pinned (OpenSpec.upto fnCachesSpec)

/-- 'laws.FnExactPutPiece', WHERE WHAT IT READS IS OF BULK AT MOST 1048576: true; the input reads as it did. -/
def fnExactPutPieceUptoRow : OpenClaim := { program := "ytimlobhlcmghfaa", sum := "dc510a1c21fe53331299ccee007543e5c1ff87937bffb0e9c6feebdda152fc88", func := "loop.example/g00726/laws.FnExactPutPiece", spec := "fnExactPutPiece", unfollowed := true, recurses := true, plainKeys := false, apart := false, narrowed := true }
def FnExactPutPieceUptoSaid : Prop := fnExactPutPieceUptoRow.holds Try.pinned (OpenSpec.upto fnExactPutPieceSpec)

/-- 'laws.FnExactTakeReady', WHERE WHAT IT READS IS OF BULK AT MOST 1048576: true; the input reads as it did. -/
def fnExactTakeReadyUptoRow : OpenClaim := { program := "ytimlobhlcmghfaa", sum := "dc510a1c21fe53331299ccee007543e5c1ff87937bffb0e9c6feebdda152fc88", func := "loop.example/g00726/laws.FnExactTakeReady", spec := "fnExactTakeReady", plainKeys := false, apart := false, narrowed := true }
def FnExactTakeReadyUptoSaid : Prop := fnExactTakeReadyUptoRow.holds Try.pinned (OpenSpec.upto fnExactTakeReadySpec)

/-- 'laws.FnExactLearnEntry', WHERE WHAT IT READS IS OF BULK AT MOST 1048576: true; the input reads as it did. -/
def fnExactLearnEntryUptoRow : OpenClaim := { program := "ytimlobhlcmghfaa", sum := "dc510a1c21fe53331299ccee007543e5c1ff87937bffb0e9c6feebdda152fc88", func := "loop.example/g00726/laws.FnExactLearnEntry", spec := "fnExactLearnEntry", unfollowed := true, recurses := true, plainKeys := false, apart := false, narrowed := true }
def FnExactLearnEntryUptoSaid : Prop := fnExactLearnEntryUptoRow.holds Try.pinned (OpenSpec.upto fnExactLearnEntrySpec)

/-- 'laws.FnExactEndFault', WHERE WHAT IT READS IS OF BULK AT MOST 1048576: true; the input reads as it did. -/
def fnExactEndFaultUptoRow : OpenClaim := { program := "ytimlobhlcmghfaa", sum := "dc510a1c21fe53331299ccee007543e5c1ff87937bffb0e9c6feebdda152fc88", func := "loop.example/g00726/laws.FnExactEndFault", spec := "fnExactEndFault", plainKeys := false, apart := false, narrowed := true }
def FnExactEndFaultUptoSaid : Prop := fnExactEndFaultUptoRow.holds Try.pinned (OpenSpec.upto fnExactEndFaultSpec)

/-- 'laws.FnExactEventFault', WHERE WHAT IT READS IS OF BULK AT MOST 1048576: true; the input reads as it did. -/
def fnExactEventFaultUptoRow : OpenClaim := { program := "ytimlobhlcmghfaa", sum := "dc510a1c21fe53331299ccee007543e5c1ff87937bffb0e9c6feebdda152fc88", func := "loop.example/g00726/laws.FnExactEventFault", spec := "fnExactEventFault", plainKeys := false, apart := false, narrowed := true }
def FnExactEventFaultUptoSaid : Prop := fnExactEventFaultUptoRow.holds Try.pinned (OpenSpec.upto fnExactEventFaultSpec)

/-- 'laws.FnExactBytesRead', WHERE WHAT IT READS IS OF BULK AT MOST 1048576: true; the input reads as it did. -/
def fnExactBytesReadUptoRow : OpenClaim := { program := "ytimlobhlcmghfaa", sum := "dc510a1c21fe53331299ccee007543e5c1ff87937bffb0e9c6feebdda152fc88", func := "loop.example/g00726/laws.FnExactBytesRead", spec := "fnExactBytesRead", plainKeys := false, apart := false, narrowed := true }
def FnExactBytesReadUptoSaid : Prop := fnExactBytesReadUptoRow.holds Try.pinned (OpenSpec.upto fnExactBytesReadSpec)

/-- 'laws.FnExactIsOver', WHERE WHAT IT READS IS OF BULK AT MOST 1048576: true; the input reads as it did. -/
def fnExactIsOverUptoRow : OpenClaim := { program := "ytimlobhlcmghfaa", sum := "dc510a1c21fe53331299ccee007543e5c1ff87937bffb0e9c6feebdda152fc88", func := "loop.example/g00726/laws.FnExactIsOver", spec := "fnExactIsOver", plainKeys := false, apart := false, narrowed := true }
def FnExactIsOverUptoSaid : Prop := fnExactIsOverUptoRow.holds Try.pinned (OpenSpec.upto fnExactIsOverSpec)

/-- 'laws.FnExactSameEnds', WHERE WHAT IT READS IS OF BULK AT MOST 1048576: true; the input reads as it did. -/
def fnExactSameEndsUptoRow : OpenClaim := { program := "ytimlobhlcmghfaa", sum := "dc510a1c21fe53331299ccee007543e5c1ff87937bffb0e9c6feebdda152fc88", func := "loop.example/g00726/laws.FnExactSameEnds", spec := "fnExactSameEnds", unfollowed := true, recurses := true, plainKeys := false, apart := false, narrowed := true }
def FnExactSameEndsUptoSaid : Prop := fnExactSameEndsUptoRow.holds Try.pinned (OpenSpec.upto fnExactSameEndsSpec)

/-- 'laws.FnExactSamePairs', WHERE WHAT IT READS IS OF BULK AT MOST 1048576: true; the input reads as it did. -/
def fnExactSamePairsUptoRow : OpenClaim := { program := "ytimlobhlcmghfaa", sum := "dc510a1c21fe53331299ccee007543e5c1ff87937bffb0e9c6feebdda152fc88", func := "loop.example/g00726/laws.FnExactSamePairs", spec := "fnExactSamePairs", unfollowed := true, recurses := true, plainKeys := false, apart := false, narrowed := true }
def FnExactSamePairsUptoSaid : Prop := fnExactSamePairsUptoRow.holds Try.pinned (OpenSpec.upto fnExactSamePairsSpec)

end Rows
end Go.Proofs.Ytimlobhlcmghfaa
