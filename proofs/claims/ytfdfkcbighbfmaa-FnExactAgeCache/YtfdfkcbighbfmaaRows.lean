/-
  No cell of these rows narrows 'for every input' (looked for: loops, veiled, ifaces, maps, wideKeys, modest, calm, conditions, laid).
  DERIVED. THE GIVEN ROWS OF THIS SEAT. 11 by the template 'for every input the law returns true; each argument reads behind the call as it read before'; 0 by the template 'total and deterministic' (their statements: YtfdfkcbighbfmaaTotals.lean).
  GIVEN WITH THE SEED: the statements are not yours to turn. If you find one false, say at which input.
  Laid BY PROGRAM, IN A SANDBOX (cutbox-rows.mjs): the forced cells as the released guide's own fill.sh prints them over the translation 1d621a13418609b5… (all of the seat's roots in one cut). By AI agents, Wed Nov 11 2026. No macro, syntax, notation, axiom, sorry.
-/
import Derived.Test.YtfdfkcbighbfmaaChecked
import GoSem.Claim
import GoSem.ClaimJoined
import GoSem.ClaimMapViews
import Derived.JoinedTies
import Derived.KernelRfl
namespace Go.Proofs.Ytfdfkcbighbfmaa
/- THE CELL 'sum', in the pinned program and in every row, IS THE sha256 OF THE DUMP (.gsa) THAT YtfdfkcbighbfmaaProg.lean LOADS. Nothing in Lean hashes anything: it is a label: what it is worth is what the hold of that sum in a sandbox is worth. -/
noncomputable def Try.pinned : Pinned := { name := "ytfdfkcbighbfmaa", sum := "1d621a13418609b5c5c54bc6e12f180a018423442969babfe46f404faaa6ef05", checked := Try.checked }
namespace Rows
def none {H : Type} : Left H := { results := [], args := [] }

/-- 'laws.FnPieces': WHATEVER THE INPUT: true; the input reads as it did. -/
def fnPiecesSpec : ChangeSpec := { name := "fnPieces", fn := fun _ => fun
  | [d] => { results := [.lit (.bool true)], args := [d] }
  | _ => none }
def fnPiecesRow : OpenClaim := { program := "ytfdfkcbighbfmaa", sum := "1d621a13418609b5c5c54bc6e12f180a018423442969babfe46f404faaa6ef05", func := "loop.example/g00726/laws.FnPieces", spec := "fnPieces", unfollowed := true, recurses := true, plainKeys := false, apart := false }
def FnPiecesSaid : Prop := fnPiecesRow.holds Try.pinned (OpenSpec.ofChange fnPiecesSpec)

/-- ITS FALSE NEIGHBOUR: 'it returns false'. Refute it at one input. -/
def fnPiecesWrong : ChangeSpec := { name := "fnPieces", fn := fun _ => fun
  | [d] => { results := [.lit (.bool false)], args := [d] }
  | _ => none }
def FnPiecesWrongFalsely : Prop := fnPiecesRow.holds Try.pinned (OpenSpec.ofChange fnPiecesWrong)

/-- 'laws.FnCaches': WHATEVER THE INPUT: true; the input reads as it did. -/
def fnCachesSpec : ChangeSpec := { name := "fnCaches", fn := fun _ => fun
  | [d] => { results := [.lit (.bool true)], args := [d] }
  | _ => none }
def fnCachesRow : OpenClaim := { program := "ytfdfkcbighbfmaa", sum := "1d621a13418609b5c5c54bc6e12f180a018423442969babfe46f404faaa6ef05", func := "loop.example/g00726/laws.FnCaches", spec := "fnCaches", unfollowed := true, recurses := true, plainKeys := false, apart := false }
def FnCachesSaid : Prop := fnCachesRow.holds Try.pinned (OpenSpec.ofChange fnCachesSpec)

/-- ITS FALSE NEIGHBOUR: 'it returns false'. Refute it at one input. -/
def fnCachesWrong : ChangeSpec := { name := "fnCaches", fn := fun _ => fun
  | [d] => { results := [.lit (.bool false)], args := [d] }
  | _ => none }
def FnCachesWrongFalsely : Prop := fnCachesRow.holds Try.pinned (OpenSpec.ofChange fnCachesWrong)

/-- 'laws.FnHops': WHATEVER THE INPUT: true; the input reads as it did. -/
def fnHopsSpec : ChangeSpec := { name := "fnHops", fn := fun _ => fun
  | [d] => { results := [.lit (.bool true)], args := [d] }
  | _ => none }
def fnHopsRow : OpenClaim := { program := "ytfdfkcbighbfmaa", sum := "1d621a13418609b5c5c54bc6e12f180a018423442969babfe46f404faaa6ef05", func := "loop.example/g00726/laws.FnHops", spec := "fnHops", plainKeys := false, apart := false }
def FnHopsSaid : Prop := fnHopsRow.holds Try.pinned (OpenSpec.ofChange fnHopsSpec)

/-- ITS FALSE NEIGHBOUR: 'it returns false'. Refute it at one input. -/
def fnHopsWrong : ChangeSpec := { name := "fnHops", fn := fun _ => fun
  | [d] => { results := [.lit (.bool false)], args := [d] }
  | _ => none }
def FnHopsWrongFalsely : Prop := fnHopsRow.holds Try.pinned (OpenSpec.ofChange fnHopsWrong)

/-- 'laws.FnExactPutPiece': WHATEVER THE INPUT: true; the input reads as it did. -/
def fnExactPutPieceSpec : ChangeSpec := { name := "fnExactPutPiece", fn := fun _ => fun
  | [d1, d2, d3] => { results := [.lit (.bool true)], args := [d1, d2, d3] }
  | _ => none }
def fnExactPutPieceRow : OpenClaim := { program := "ytfdfkcbighbfmaa", sum := "1d621a13418609b5c5c54bc6e12f180a018423442969babfe46f404faaa6ef05", func := "loop.example/g00726/laws.FnExactPutPiece", spec := "fnExactPutPiece", unfollowed := true, recurses := true, plainKeys := false, apart := false }
def FnExactPutPieceSaid : Prop := fnExactPutPieceRow.holds Try.pinned (OpenSpec.ofChange fnExactPutPieceSpec)

/-- ITS FALSE NEIGHBOUR: 'it returns false'. Refute it at one input. -/
def fnExactPutPieceWrong : ChangeSpec := { name := "fnExactPutPiece", fn := fun _ => fun
  | [d1, d2, d3] => { results := [.lit (.bool false)], args := [d1, d2, d3] }
  | _ => none }
def FnExactPutPieceWrongFalsely : Prop := fnExactPutPieceRow.holds Try.pinned (OpenSpec.ofChange fnExactPutPieceWrong)

/-- 'laws.FnExactCacheFault': WHATEVER THE INPUT: true; the input reads as it did. -/
def fnExactCacheFaultSpec : ChangeSpec := { name := "fnExactCacheFault", fn := fun _ => fun
  | [d] => { results := [.lit (.bool true)], args := [d] }
  | _ => none }
def fnExactCacheFaultRow : OpenClaim := { program := "ytfdfkcbighbfmaa", sum := "1d621a13418609b5c5c54bc6e12f180a018423442969babfe46f404faaa6ef05", func := "loop.example/g00726/laws.FnExactCacheFault", spec := "fnExactCacheFault", plainKeys := false, apart := false }
def FnExactCacheFaultSaid : Prop := fnExactCacheFaultRow.holds Try.pinned (OpenSpec.ofChange fnExactCacheFaultSpec)

/-- ITS FALSE NEIGHBOUR: 'it returns false'. Refute it at one input. -/
def fnExactCacheFaultWrong : ChangeSpec := { name := "fnExactCacheFault", fn := fun _ => fun
  | [d] => { results := [.lit (.bool false)], args := [d] }
  | _ => none }
def FnExactCacheFaultWrongFalsely : Prop := fnExactCacheFaultRow.holds Try.pinned (OpenSpec.ofChange fnExactCacheFaultWrong)

/-- 'laws.FnExactLearnEntry': WHATEVER THE INPUT: true; the input reads as it did. -/
def fnExactLearnEntrySpec : ChangeSpec := { name := "fnExactLearnEntry", fn := fun _ => fun
  | [d1, d2, d3, d4] => { results := [.lit (.bool true)], args := [d1, d2, d3, d4] }
  | _ => none }
def fnExactLearnEntryRow : OpenClaim := { program := "ytfdfkcbighbfmaa", sum := "1d621a13418609b5c5c54bc6e12f180a018423442969babfe46f404faaa6ef05", func := "loop.example/g00726/laws.FnExactLearnEntry", spec := "fnExactLearnEntry", unfollowed := true, recurses := true, plainKeys := false, apart := false }
def FnExactLearnEntrySaid : Prop := fnExactLearnEntryRow.holds Try.pinned (OpenSpec.ofChange fnExactLearnEntrySpec)

/-- ITS FALSE NEIGHBOUR: 'it returns false'. Refute it at one input. -/
def fnExactLearnEntryWrong : ChangeSpec := { name := "fnExactLearnEntry", fn := fun _ => fun
  | [d1, d2, d3, d4] => { results := [.lit (.bool false)], args := [d1, d2, d3, d4] }
  | _ => none }
def FnExactLearnEntryWrongFalsely : Prop := fnExactLearnEntryRow.holds Try.pinned (OpenSpec.ofChange fnExactLearnEntryWrong)

/-- 'laws.FnExactFindEntry': WHATEVER THE INPUT: true; the input reads as it did. -/
def fnExactFindEntrySpec : ChangeSpec := { name := "fnExactFindEntry", fn := fun _ => fun
  | [d1, d2, d3] => { results := [.lit (.bool true)], args := [d1, d2, d3] }
  | _ => none }
def fnExactFindEntryRow : OpenClaim := { program := "ytfdfkcbighbfmaa", sum := "1d621a13418609b5c5c54bc6e12f180a018423442969babfe46f404faaa6ef05", func := "loop.example/g00726/laws.FnExactFindEntry", spec := "fnExactFindEntry", plainKeys := false, apart := false }
def FnExactFindEntrySaid : Prop := fnExactFindEntryRow.holds Try.pinned (OpenSpec.ofChange fnExactFindEntrySpec)

/-- ITS FALSE NEIGHBOUR: 'it returns false'. Refute it at one input. -/
def fnExactFindEntryWrong : ChangeSpec := { name := "fnExactFindEntry", fn := fun _ => fun
  | [d1, d2, d3] => { results := [.lit (.bool false)], args := [d1, d2, d3] }
  | _ => none }
def FnExactFindEntryWrongFalsely : Prop := fnExactFindEntryRow.holds Try.pinned (OpenSpec.ofChange fnExactFindEntryWrong)

/-- 'laws.FnExactAgeCache': WHATEVER THE INPUT: true; the input reads as it did. -/
def fnExactAgeCacheSpec : ChangeSpec := { name := "fnExactAgeCache", fn := fun _ => fun
  | [d1, d2] => { results := [.lit (.bool true)], args := [d1, d2] }
  | _ => none }
def fnExactAgeCacheRow : OpenClaim := { program := "ytfdfkcbighbfmaa", sum := "1d621a13418609b5c5c54bc6e12f180a018423442969babfe46f404faaa6ef05", func := "loop.example/g00726/laws.FnExactAgeCache", spec := "fnExactAgeCache", unfollowed := true, recurses := true, plainKeys := false, apart := false }
def FnExactAgeCacheSaid : Prop := fnExactAgeCacheRow.holds Try.pinned (OpenSpec.ofChange fnExactAgeCacheSpec)

/-- ITS FALSE NEIGHBOUR: 'it returns false'. Refute it at one input. -/
def fnExactAgeCacheWrong : ChangeSpec := { name := "fnExactAgeCache", fn := fun _ => fun
  | [d1, d2] => { results := [.lit (.bool false)], args := [d1, d2] }
  | _ => none }
def FnExactAgeCacheWrongFalsely : Prop := fnExactAgeCacheRow.holds Try.pinned (OpenSpec.ofChange fnExactAgeCacheWrong)

/-- 'laws.FnExactRouteFault': WHATEVER THE INPUT: true; the input reads as it did. -/
def fnExactRouteFaultSpec : ChangeSpec := { name := "fnExactRouteFault", fn := fun _ => fun
  | [d] => { results := [.lit (.bool true)], args := [d] }
  | _ => none }
def fnExactRouteFaultRow : OpenClaim := { program := "ytfdfkcbighbfmaa", sum := "1d621a13418609b5c5c54bc6e12f180a018423442969babfe46f404faaa6ef05", func := "loop.example/g00726/laws.FnExactRouteFault", spec := "fnExactRouteFault", plainKeys := false, apart := false }
def FnExactRouteFaultSaid : Prop := fnExactRouteFaultRow.holds Try.pinned (OpenSpec.ofChange fnExactRouteFaultSpec)

/-- ITS FALSE NEIGHBOUR: 'it returns false'. Refute it at one input. -/
def fnExactRouteFaultWrong : ChangeSpec := { name := "fnExactRouteFault", fn := fun _ => fun
  | [d] => { results := [.lit (.bool false)], args := [d] }
  | _ => none }
def FnExactRouteFaultWrongFalsely : Prop := fnExactRouteFaultRow.holds Try.pinned (OpenSpec.ofChange fnExactRouteFaultWrong)

/-- 'laws.FnExactNextHop': WHATEVER THE INPUT: true; the input reads as it did. -/
def fnExactNextHopSpec : ChangeSpec := { name := "fnExactNextHop", fn := fun _ => fun
  | [d1, d2] => { results := [.lit (.bool true)], args := [d1, d2] }
  | _ => none }
def fnExactNextHopRow : OpenClaim := { program := "ytfdfkcbighbfmaa", sum := "1d621a13418609b5c5c54bc6e12f180a018423442969babfe46f404faaa6ef05", func := "loop.example/g00726/laws.FnExactNextHop", spec := "fnExactNextHop", plainKeys := false, apart := false }
def FnExactNextHopSaid : Prop := fnExactNextHopRow.holds Try.pinned (OpenSpec.ofChange fnExactNextHopSpec)

/-- ITS FALSE NEIGHBOUR: 'it returns false'. Refute it at one input. -/
def fnExactNextHopWrong : ChangeSpec := { name := "fnExactNextHop", fn := fun _ => fun
  | [d1, d2] => { results := [.lit (.bool false)], args := [d1, d2] }
  | _ => none }
def FnExactNextHopWrongFalsely : Prop := fnExactNextHopRow.holds Try.pinned (OpenSpec.ofChange fnExactNextHopWrong)

/-- 'laws.FnExactSameCaches': WHATEVER THE INPUT: true; the input reads as it did. -/
def fnExactSameCachesSpec : ChangeSpec := { name := "fnExactSameCaches", fn := fun _ => fun
  | [d1, d2] => { results := [.lit (.bool true)], args := [d1, d2] }
  | _ => none }
def fnExactSameCachesRow : OpenClaim := { program := "ytfdfkcbighbfmaa", sum := "1d621a13418609b5c5c54bc6e12f180a018423442969babfe46f404faaa6ef05", func := "loop.example/g00726/laws.FnExactSameCaches", spec := "fnExactSameCaches", plainKeys := false, apart := false }
def FnExactSameCachesSaid : Prop := fnExactSameCachesRow.holds Try.pinned (OpenSpec.ofChange fnExactSameCachesSpec)

/-- ITS FALSE NEIGHBOUR: 'it returns false'. Refute it at one input. -/
def fnExactSameCachesWrong : ChangeSpec := { name := "fnExactSameCaches", fn := fun _ => fun
  | [d1, d2] => { results := [.lit (.bool false)], args := [d1, d2] }
  | _ => none }
def FnExactSameCachesWrongFalsely : Prop := fnExactSameCachesRow.holds Try.pinned (OpenSpec.ofChange fnExactSameCachesWrong)

/- THE SECOND FORM. 'bulk': how many values and letters a reading holds, each counted each time it is reached (what is shared counts as often as it is met; a slice's spare places count too). A statement '..UptoSaid' is the law's where the arguments, and the package variables that the reading takes, are together of bulk at most 1048576: NARROWER than '..Said'. Prove '..Said' where nothing that the law and all that it calls make is longer than what came in: it says more and counts as full. Else prove '..UptoSaid'. A law counts once. -/
mutual
def uptoBulk {H : Type} : DataW H → Nat
  | .lit (.string bytes) => bytes.length + 1
  | .lit _ => 1
  | .nil => 1
  | .ptr d => uptoBulk d + 1
  | .slice elems spare => uptoBulkAll elems + uptoBulkAll spare + 1
  | .agg parts => uptoBulkAll parts + 1
  | .iface _ d => uptoBulk d + 1
  | .map entries => uptoBulkEntries entries + 1
  | .held _ => 1
def uptoBulkAll {H : Type} : List (DataW H) → Nat
  | [] => 0
  | d :: r => uptoBulk d + uptoBulkAll r
def uptoBulkEntries {H : Type} : List (Lit × DataW H) → Nat
  | [] => 0
  | x :: r => uptoBulkEntry x + uptoBulkEntries r
def uptoBulkEntry {H : Type} : Lit × DataW H → Nat
  | (.string bytes, d) => bytes.length + uptoBulk d + 1
  | (_, d) => uptoBulk d + 1
 end
def uptoSmall : (H : Type) → List (DataW H) → Bool := fun _ ds => decide (uptoBulkAll ds ≤ 1048576)
def OpenSpec.upto (s : _root_.Go.ChangeSpec) : _root_.Go.OpenSpec := { _root_.Go.OpenSpec.ofChange s with cond := some uptoSmall }

/-- 'laws.FnPieces', WHERE WHAT IT READS IS OF BULK AT MOST 1048576: true; the input reads as it did. -/
def fnPiecesUptoRow : OpenClaim := { program := "ytfdfkcbighbfmaa", sum := "1d621a13418609b5c5c54bc6e12f180a018423442969babfe46f404faaa6ef05", func := "loop.example/g00726/laws.FnPieces", spec := "fnPieces", unfollowed := true, recurses := true, plainKeys := false, apart := false, narrowed := true }
def FnPiecesUptoSaid : Prop := fnPiecesUptoRow.holds Try.pinned (OpenSpec.upto fnPiecesSpec)

/-- 'laws.FnCaches', WHERE WHAT IT READS IS OF BULK AT MOST 1048576: true; the input reads as it did. -/
def fnCachesUptoRow : OpenClaim := { program := "ytfdfkcbighbfmaa", sum := "1d621a13418609b5c5c54bc6e12f180a018423442969babfe46f404faaa6ef05", func := "loop.example/g00726/laws.FnCaches", spec := "fnCaches", unfollowed := true, recurses := true, plainKeys := false, apart := false, narrowed := true }
def FnCachesUptoSaid : Prop := fnCachesUptoRow.holds Try.pinned (OpenSpec.upto fnCachesSpec)

/-- 'laws.FnHops', WHERE WHAT IT READS IS OF BULK AT MOST 1048576: true; the input reads as it did. -/
def fnHopsUptoRow : OpenClaim := { program := "ytfdfkcbighbfmaa", sum := "1d621a13418609b5c5c54bc6e12f180a018423442969babfe46f404faaa6ef05", func := "loop.example/g00726/laws.FnHops", spec := "fnHops", plainKeys := false, apart := false, narrowed := true }
def FnHopsUptoSaid : Prop := fnHopsUptoRow.holds Try.pinned (OpenSpec.upto fnHopsSpec)

/-- 'laws.FnExactPutPiece', WHERE WHAT IT READS IS OF BULK AT MOST 1048576: true; the input reads as it did. -/
def fnExactPutPieceUptoRow : OpenClaim := { program := "ytfdfkcbighbfmaa", sum := "1d621a13418609b5c5c54bc6e12f180a018423442969babfe46f404faaa6ef05", func := "loop.example/g00726/laws.FnExactPutPiece", spec := "fnExactPutPiece", unfollowed := true, recurses := true, plainKeys := false, apart := false, narrowed := true }
def FnExactPutPieceUptoSaid : Prop := fnExactPutPieceUptoRow.holds Try.pinned (OpenSpec.upto fnExactPutPieceSpec)

/-- 'laws.FnExactCacheFault', WHERE WHAT IT READS IS OF BULK AT MOST 1048576: true; the input reads as it did. -/
def fnExactCacheFaultUptoRow : OpenClaim := { program := "ytfdfkcbighbfmaa", sum := "1d621a13418609b5c5c54bc6e12f180a018423442969babfe46f404faaa6ef05", func := "loop.example/g00726/laws.FnExactCacheFault", spec := "fnExactCacheFault", plainKeys := false, apart := false, narrowed := true }
def FnExactCacheFaultUptoSaid : Prop := fnExactCacheFaultUptoRow.holds Try.pinned (OpenSpec.upto fnExactCacheFaultSpec)

/-- 'laws.FnExactLearnEntry', WHERE WHAT IT READS IS OF BULK AT MOST 1048576: true; the input reads as it did. -/
def fnExactLearnEntryUptoRow : OpenClaim := { program := "ytfdfkcbighbfmaa", sum := "1d621a13418609b5c5c54bc6e12f180a018423442969babfe46f404faaa6ef05", func := "loop.example/g00726/laws.FnExactLearnEntry", spec := "fnExactLearnEntry", unfollowed := true, recurses := true, plainKeys := false, apart := false, narrowed := true }
def FnExactLearnEntryUptoSaid : Prop := fnExactLearnEntryUptoRow.holds Try.pinned (OpenSpec.upto fnExactLearnEntrySpec)

/-- 'laws.FnExactFindEntry', WHERE WHAT IT READS IS OF BULK AT MOST 1048576: true; the input reads as it did. -/
def fnExactFindEntryUptoRow : OpenClaim := { program := "ytfdfkcbighbfmaa", sum := "1d621a13418609b5c5c54bc6e12f180a018423442969babfe46f404faaa6ef05", func := "loop.example/g00726/laws.FnExactFindEntry", spec := "fnExactFindEntry", plainKeys := false, apart := false, narrowed := true }
def FnExactFindEntryUptoSaid : Prop := fnExactFindEntryUptoRow.holds Try.pinned (OpenSpec.upto fnExactFindEntrySpec)

/-- 'laws.FnExactAgeCache', WHERE WHAT IT READS IS OF BULK AT MOST 1048576: true; the input reads as it did. -/
def fnExactAgeCacheUptoRow : OpenClaim := { program := "ytfdfkcbighbfmaa", sum := "1d621a13418609b5c5c54bc6e12f180a018423442969babfe46f404faaa6ef05", func := "loop.example/g00726/laws.FnExactAgeCache", spec := "fnExactAgeCache", unfollowed := true, recurses := true, plainKeys := false, apart := false, narrowed := true }
def FnExactAgeCacheUptoSaid : Prop := fnExactAgeCacheUptoRow.holds Try.pinned (OpenSpec.upto fnExactAgeCacheSpec)

/-- 'laws.FnExactRouteFault', WHERE WHAT IT READS IS OF BULK AT MOST 1048576: true; the input reads as it did. -/
def fnExactRouteFaultUptoRow : OpenClaim := { program := "ytfdfkcbighbfmaa", sum := "1d621a13418609b5c5c54bc6e12f180a018423442969babfe46f404faaa6ef05", func := "loop.example/g00726/laws.FnExactRouteFault", spec := "fnExactRouteFault", plainKeys := false, apart := false, narrowed := true }
def FnExactRouteFaultUptoSaid : Prop := fnExactRouteFaultUptoRow.holds Try.pinned (OpenSpec.upto fnExactRouteFaultSpec)

/-- 'laws.FnExactNextHop', WHERE WHAT IT READS IS OF BULK AT MOST 1048576: true; the input reads as it did. -/
def fnExactNextHopUptoRow : OpenClaim := { program := "ytfdfkcbighbfmaa", sum := "1d621a13418609b5c5c54bc6e12f180a018423442969babfe46f404faaa6ef05", func := "loop.example/g00726/laws.FnExactNextHop", spec := "fnExactNextHop", plainKeys := false, apart := false, narrowed := true }
def FnExactNextHopUptoSaid : Prop := fnExactNextHopUptoRow.holds Try.pinned (OpenSpec.upto fnExactNextHopSpec)

/-- 'laws.FnExactSameCaches', WHERE WHAT IT READS IS OF BULK AT MOST 1048576: true; the input reads as it did. -/
def fnExactSameCachesUptoRow : OpenClaim := { program := "ytfdfkcbighbfmaa", sum := "1d621a13418609b5c5c54bc6e12f180a018423442969babfe46f404faaa6ef05", func := "loop.example/g00726/laws.FnExactSameCaches", spec := "fnExactSameCaches", plainKeys := false, apart := false, narrowed := true }
def FnExactSameCachesUptoSaid : Prop := fnExactSameCachesUptoRow.holds Try.pinned (OpenSpec.upto fnExactSameCachesSpec)

end Rows
end Go.Proofs.Ytfdfkcbighbfmaa
