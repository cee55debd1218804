/-
  No cell of these rows narrows 'for every input' (looked for: loops, veiled, ifaces, maps, wideKeys, modest, calm, conditions, laid).
  DERIVED. THE GIVEN ROWS OF THIS SEAT. 13 by the template 'for every input the law returns true; each argument reads behind the call as it read before'; 0 by the template 'total and deterministic' (their statements: YtnclfdfnhhicdaaTotals.lean).
  GIVEN WITH THE SEED: the statements are not yours to turn. If you find one false, say at which input.
  Laid BY PROGRAM, IN A SANDBOX (cutbox-rows.mjs): the forced cells as the released guide's own fill.sh prints them over the translation 5ef16c0ebe1db5f1… (all of the seat's roots in one cut). By AI agents, Wed Nov 11 2026. No macro, syntax, notation, axiom, sorry.
-/
import Derived.Test.YtnclfdfnhhicdaaChecked
import GoSem.Claim
import GoSem.ClaimJoined
import GoSem.ClaimMapViews
import Derived.JoinedTies
import Derived.KernelRfl
namespace Go.Proofs.Ytnclfdfnhhicdaa
/- THE CELL 'sum', in the pinned program and in every row, IS THE sha256 OF THE DUMP (.gsa) THAT YtnclfdfnhhicdaaProg.lean LOADS. Nothing in Lean hashes anything: it is a label: what it is worth is what the hold of that sum in a sandbox is worth. -/
noncomputable def Try.pinned : Pinned := { name := "ytnclfdfnhhicdaa", sum := "5ef16c0ebe1db5f175dabfbc400c55ab09f8fb47a7b9fd332007418a0cf275c3", checked := Try.checked }
namespace Rows
def none {H : Type} : Left H := { results := [], args := [] }

/-- 'laws.FnExactIsSearch': WHATEVER THE INPUT: true; the input reads as it did. -/
def fnExactIsSearchSpec : ChangeSpec := { name := "fnExactIsSearch", fn := fun _ => fun
  | [d1, d2, d3] => { results := [.lit (.bool true)], args := [d1, d2, d3] }
  | _ => none }
def fnExactIsSearchRow : OpenClaim := { program := "ytnclfdfnhhicdaa", sum := "5ef16c0ebe1db5f175dabfbc400c55ab09f8fb47a7b9fd332007418a0cf275c3", func := "loop.example/g01148/laws.FnExactIsSearch", spec := "fnExactIsSearch", plainKeys := false, apart := false }
def FnExactIsSearchSaid : Prop := fnExactIsSearchRow.holds Try.pinned (OpenSpec.ofChange fnExactIsSearchSpec)

/-- ITS FALSE NEIGHBOUR: 'it returns false'. Refute it at one input. -/
def fnExactIsSearchWrong : ChangeSpec := { name := "fnExactIsSearch", fn := fun _ => fun
  | [d1, d2, d3] => { results := [.lit (.bool false)], args := [d1, d2, d3] }
  | _ => none }
def FnExactIsSearchWrongFalsely : Prop := fnExactIsSearchRow.holds Try.pinned (OpenSpec.ofChange fnExactIsSearchWrong)

/-- 'laws.FnExactSearchTimes': WHATEVER THE INPUT: true; the input reads as it did. -/
def fnExactSearchTimesSpec : ChangeSpec := { name := "fnExactSearchTimes", fn := fun _ => fun
  | [d1, d2, d3, d4] => { results := [.lit (.bool true)], args := [d1, d2, d3, d4] }
  | _ => none }
def fnExactSearchTimesRow : OpenClaim := { program := "ytnclfdfnhhicdaa", sum := "5ef16c0ebe1db5f175dabfbc400c55ab09f8fb47a7b9fd332007418a0cf275c3", func := "loop.example/g01148/laws.FnExactSearchTimes", spec := "fnExactSearchTimes", unfollowed := true, recurses := true, plainKeys := false, apart := false }
def FnExactSearchTimesSaid : Prop := fnExactSearchTimesRow.holds Try.pinned (OpenSpec.ofChange fnExactSearchTimesSpec)

/-- ITS FALSE NEIGHBOUR: 'it returns false'. Refute it at one input. -/
def fnExactSearchTimesWrong : ChangeSpec := { name := "fnExactSearchTimes", fn := fun _ => fun
  | [d1, d2, d3, d4] => { results := [.lit (.bool false)], args := [d1, d2, d3, d4] }
  | _ => none }
def FnExactSearchTimesWrongFalsely : Prop := fnExactSearchTimesRow.holds Try.pinned (OpenSpec.ofChange fnExactSearchTimesWrong)

/-- 'laws.FnExactMirrorSearch': WHATEVER THE INPUT: true; the input reads as it did. -/
def fnExactMirrorSearchSpec : ChangeSpec := { name := "fnExactMirrorSearch", fn := fun _ => fun
  | [d1, d2] => { results := [.lit (.bool true)], args := [d1, d2] }
  | _ => none }
def fnExactMirrorSearchRow : OpenClaim := { program := "ytnclfdfnhhicdaa", sum := "5ef16c0ebe1db5f175dabfbc400c55ab09f8fb47a7b9fd332007418a0cf275c3", func := "loop.example/g01148/laws.FnExactMirrorSearch", spec := "fnExactMirrorSearch", unfollowed := true, recurses := true, plainKeys := false, apart := false }
def FnExactMirrorSearchSaid : Prop := fnExactMirrorSearchRow.holds Try.pinned (OpenSpec.ofChange fnExactMirrorSearchSpec)

/-- ITS FALSE NEIGHBOUR: 'it returns false'. Refute it at one input. -/
def fnExactMirrorSearchWrong : ChangeSpec := { name := "fnExactMirrorSearch", fn := fun _ => fun
  | [d1, d2] => { results := [.lit (.bool false)], args := [d1, d2] }
  | _ => none }
def FnExactMirrorSearchWrongFalsely : Prop := fnExactMirrorSearchRow.holds Try.pinned (OpenSpec.ofChange fnExactMirrorSearchWrong)

/-- 'laws.FnExactTurnCount': WHATEVER THE INPUT: true; the input reads as it did. -/
def fnExactTurnCountSpec : ChangeSpec := { name := "fnExactTurnCount", fn := fun _ => fun
  | [d1, d2, d3] => { results := [.lit (.bool true)], args := [d1, d2, d3] }
  | _ => none }
def fnExactTurnCountRow : OpenClaim := { program := "ytnclfdfnhhicdaa", sum := "5ef16c0ebe1db5f175dabfbc400c55ab09f8fb47a7b9fd332007418a0cf275c3", func := "loop.example/g01148/laws.FnExactTurnCount", spec := "fnExactTurnCount", plainKeys := false, apart := false }
def FnExactTurnCountSaid : Prop := fnExactTurnCountRow.holds Try.pinned (OpenSpec.ofChange fnExactTurnCountSpec)

/-- ITS FALSE NEIGHBOUR: 'it returns false'. Refute it at one input. -/
def fnExactTurnCountWrong : ChangeSpec := { name := "fnExactTurnCount", fn := fun _ => fun
  | [d1, d2, d3] => { results := [.lit (.bool false)], args := [d1, d2, d3] }
  | _ => none }
def FnExactTurnCountWrongFalsely : Prop := fnExactTurnCountRow.holds Try.pinned (OpenSpec.ofChange fnExactTurnCountWrong)

/-- 'laws.FnExactSearchLoad': WHATEVER THE INPUT: true; the input reads as it did. -/
def fnExactSearchLoadSpec : ChangeSpec := { name := "fnExactSearchLoad", fn := fun _ => fun
  | [d1, d2, d3, d4] => { results := [.lit (.bool true)], args := [d1, d2, d3, d4] }
  | _ => none }
def fnExactSearchLoadRow : OpenClaim := { program := "ytnclfdfnhhicdaa", sum := "5ef16c0ebe1db5f175dabfbc400c55ab09f8fb47a7b9fd332007418a0cf275c3", func := "loop.example/g01148/laws.FnExactSearchLoad", spec := "fnExactSearchLoad", unfollowed := true, recurses := true, plainKeys := false, apart := false }
def FnExactSearchLoadSaid : Prop := fnExactSearchLoadRow.holds Try.pinned (OpenSpec.ofChange fnExactSearchLoadSpec)

/-- ITS FALSE NEIGHBOUR: 'it returns false'. Refute it at one input. -/
def fnExactSearchLoadWrong : ChangeSpec := { name := "fnExactSearchLoad", fn := fun _ => fun
  | [d1, d2, d3, d4] => { results := [.lit (.bool false)], args := [d1, d2, d3, d4] }
  | _ => none }
def FnExactSearchLoadWrongFalsely : Prop := fnExactSearchLoadRow.holds Try.pinned (OpenSpec.ofChange fnExactSearchLoadWrong)

/-- 'laws.FnExactDoublingSearch': WHATEVER THE INPUT: true; the input reads as it did. -/
def fnExactDoublingSearchSpec : ChangeSpec := { name := "fnExactDoublingSearch", fn := fun _ => fun
  | [d1, d2] => { results := [.lit (.bool true)], args := [d1, d2] }
  | _ => none }
def fnExactDoublingSearchRow : OpenClaim := { program := "ytnclfdfnhhicdaa", sum := "5ef16c0ebe1db5f175dabfbc400c55ab09f8fb47a7b9fd332007418a0cf275c3", func := "loop.example/g01148/laws.FnExactDoublingSearch", spec := "fnExactDoublingSearch", plainKeys := false, apart := false }
def FnExactDoublingSearchSaid : Prop := fnExactDoublingSearchRow.holds Try.pinned (OpenSpec.ofChange fnExactDoublingSearchSpec)

/-- ITS FALSE NEIGHBOUR: 'it returns false'. Refute it at one input. -/
def fnExactDoublingSearchWrong : ChangeSpec := { name := "fnExactDoublingSearch", fn := fun _ => fun
  | [d1, d2] => { results := [.lit (.bool false)], args := [d1, d2] }
  | _ => none }
def FnExactDoublingSearchWrongFalsely : Prop := fnExactDoublingSearchRow.holds Try.pinned (OpenSpec.ofChange fnExactDoublingSearchWrong)

/-- 'laws.FnExactSearchWalk': WHATEVER THE INPUT: true; the input reads as it did. -/
def fnExactSearchWalkSpec : ChangeSpec := { name := "fnExactSearchWalk", fn := fun _ => fun
  | [d1, d2, d3] => { results := [.lit (.bool true)], args := [d1, d2, d3] }
  | _ => none }
def fnExactSearchWalkRow : OpenClaim := { program := "ytnclfdfnhhicdaa", sum := "5ef16c0ebe1db5f175dabfbc400c55ab09f8fb47a7b9fd332007418a0cf275c3", func := "loop.example/g01148/laws.FnExactSearchWalk", spec := "fnExactSearchWalk", unfollowed := true, recurses := true, plainKeys := false, apart := false }
def FnExactSearchWalkSaid : Prop := fnExactSearchWalkRow.holds Try.pinned (OpenSpec.ofChange fnExactSearchWalkSpec)

/-- ITS FALSE NEIGHBOUR: 'it returns false'. Refute it at one input. -/
def fnExactSearchWalkWrong : ChangeSpec := { name := "fnExactSearchWalk", fn := fun _ => fun
  | [d1, d2, d3] => { results := [.lit (.bool false)], args := [d1, d2, d3] }
  | _ => none }
def FnExactSearchWalkWrongFalsely : Prop := fnExactSearchWalkRow.holds Try.pinned (OpenSpec.ofChange fnExactSearchWalkWrong)

/-- 'laws.FnExactWorstPlace': WHATEVER THE INPUT: true; the input reads as it did. -/
def fnExactWorstPlaceSpec : ChangeSpec := { name := "fnExactWorstPlace", fn := fun _ => fun
  | [d1, d2, d3, d4] => { results := [.lit (.bool true)], args := [d1, d2, d3, d4] }
  | _ => none }
def fnExactWorstPlaceRow : OpenClaim := { program := "ytnclfdfnhhicdaa", sum := "5ef16c0ebe1db5f175dabfbc400c55ab09f8fb47a7b9fd332007418a0cf275c3", func := "loop.example/g01148/laws.FnExactWorstPlace", spec := "fnExactWorstPlace", unfollowed := true, recurses := true, plainKeys := false, apart := false }
def FnExactWorstPlaceSaid : Prop := fnExactWorstPlaceRow.holds Try.pinned (OpenSpec.ofChange fnExactWorstPlaceSpec)

/-- ITS FALSE NEIGHBOUR: 'it returns false'. Refute it at one input. -/
def fnExactWorstPlaceWrong : ChangeSpec := { name := "fnExactWorstPlace", fn := fun _ => fun
  | [d1, d2, d3, d4] => { results := [.lit (.bool false)], args := [d1, d2, d3, d4] }
  | _ => none }
def FnExactWorstPlaceWrongFalsely : Prop := fnExactWorstPlaceRow.holds Try.pinned (OpenSpec.ofChange fnExactWorstPlaceWrong)

/-- 'laws.FnExactSearchRatio': WHATEVER THE INPUT: true; the input reads as it did. -/
def fnExactSearchRatioSpec : ChangeSpec := { name := "fnExactSearchRatio", fn := fun _ => fun
  | [d1, d2, d3, d4] => { results := [.lit (.bool true)], args := [d1, d2, d3, d4] }
  | _ => none }
def fnExactSearchRatioRow : OpenClaim := { program := "ytnclfdfnhhicdaa", sum := "5ef16c0ebe1db5f175dabfbc400c55ab09f8fb47a7b9fd332007418a0cf275c3", func := "loop.example/g01148/laws.FnExactSearchRatio", spec := "fnExactSearchRatio", unfollowed := true, recurses := true, plainKeys := false, apart := false }
def FnExactSearchRatioSaid : Prop := fnExactSearchRatioRow.holds Try.pinned (OpenSpec.ofChange fnExactSearchRatioSpec)

/-- ITS FALSE NEIGHBOUR: 'it returns false'. Refute it at one input. -/
def fnExactSearchRatioWrong : ChangeSpec := { name := "fnExactSearchRatio", fn := fun _ => fun
  | [d1, d2, d3, d4] => { results := [.lit (.bool false)], args := [d1, d2, d3, d4] }
  | _ => none }
def FnExactSearchRatioWrongFalsely : Prop := fnExactSearchRatioRow.holds Try.pinned (OpenSpec.ofChange fnExactSearchRatioWrong)

/-- 'laws.FnExactAllSearches': WHATEVER THE INPUT: true; the input reads as it did. -/
def fnExactAllSearchesSpec : ChangeSpec := { name := "fnExactAllSearches", fn := fun _ => fun
  | [d1, d2] => { results := [.lit (.bool true)], args := [d1, d2] }
  | _ => none }
def fnExactAllSearchesRow : OpenClaim := { program := "ytnclfdfnhhicdaa", sum := "5ef16c0ebe1db5f175dabfbc400c55ab09f8fb47a7b9fd332007418a0cf275c3", func := "loop.example/g01148/laws.FnExactAllSearches", spec := "fnExactAllSearches", recurses := true, plainKeys := false, apart := false }
def FnExactAllSearchesSaid : Prop := fnExactAllSearchesRow.holds Try.pinned (OpenSpec.ofChange fnExactAllSearchesSpec)

/-- ITS FALSE NEIGHBOUR: 'it returns false'. Refute it at one input. -/
def fnExactAllSearchesWrong : ChangeSpec := { name := "fnExactAllSearches", fn := fun _ => fun
  | [d1, d2] => { results := [.lit (.bool false)], args := [d1, d2] }
  | _ => none }
def FnExactAllSearchesWrongFalsely : Prop := fnExactAllSearchesRow.holds Try.pinned (OpenSpec.ofChange fnExactAllSearchesWrong)

/-- 'laws.FnExactLeastLoad': WHATEVER THE INPUT: true; the input reads as it did. -/
def fnExactLeastLoadSpec : ChangeSpec := { name := "fnExactLeastLoad", fn := fun _ => fun
  | [d1, d2, d3] => { results := [.lit (.bool true)], args := [d1, d2, d3] }
  | _ => none }
def fnExactLeastLoadRow : OpenClaim := { program := "ytnclfdfnhhicdaa", sum := "5ef16c0ebe1db5f175dabfbc400c55ab09f8fb47a7b9fd332007418a0cf275c3", func := "loop.example/g01148/laws.FnExactLeastLoad", spec := "fnExactLeastLoad", recurses := true, plainKeys := false, apart := false }
def FnExactLeastLoadSaid : Prop := fnExactLeastLoadRow.holds Try.pinned (OpenSpec.ofChange fnExactLeastLoadSpec)

/-- ITS FALSE NEIGHBOUR: 'it returns false'. Refute it at one input. -/
def fnExactLeastLoadWrong : ChangeSpec := { name := "fnExactLeastLoad", fn := fun _ => fun
  | [d1, d2, d3] => { results := [.lit (.bool false)], args := [d1, d2, d3] }
  | _ => none }
def FnExactLeastLoadWrongFalsely : Prop := fnExactLeastLoadRow.holds Try.pinned (OpenSpec.ofChange fnExactLeastLoadWrong)

/-- 'laws.FnExactBestSearch': WHATEVER THE INPUT: true; the input reads as it did. -/
def fnExactBestSearchSpec : ChangeSpec := { name := "fnExactBestSearch", fn := fun _ => fun
  | [d1, d2, d3] => { results := [.lit (.bool true)], args := [d1, d2, d3] }
  | _ => none }
def fnExactBestSearchRow : OpenClaim := { program := "ytnclfdfnhhicdaa", sum := "5ef16c0ebe1db5f175dabfbc400c55ab09f8fb47a7b9fd332007418a0cf275c3", func := "loop.example/g01148/laws.FnExactBestSearch", spec := "fnExactBestSearch", unfollowed := true, recurses := true, plainKeys := false, apart := false }
def FnExactBestSearchSaid : Prop := fnExactBestSearchRow.holds Try.pinned (OpenSpec.ofChange fnExactBestSearchSpec)

/-- ITS FALSE NEIGHBOUR: 'it returns false'. Refute it at one input. -/
def fnExactBestSearchWrong : ChangeSpec := { name := "fnExactBestSearch", fn := fun _ => fun
  | [d1, d2, d3] => { results := [.lit (.bool false)], args := [d1, d2, d3] }
  | _ => none }
def FnExactBestSearchWrongFalsely : Prop := fnExactBestSearchRow.holds Try.pinned (OpenSpec.ofChange fnExactBestSearchWrong)

/-- 'laws.FnExactMirrorWalk': WHATEVER THE INPUT: true; the input reads as it did. -/
def fnExactMirrorWalkSpec : ChangeSpec := { name := "fnExactMirrorWalk", fn := fun _ => fun
  | [d1, d2] => { results := [.lit (.bool true)], args := [d1, d2] }
  | _ => none }
def fnExactMirrorWalkRow : OpenClaim := { program := "ytnclfdfnhhicdaa", sum := "5ef16c0ebe1db5f175dabfbc400c55ab09f8fb47a7b9fd332007418a0cf275c3", func := "loop.example/g01148/laws.FnExactMirrorWalk", spec := "fnExactMirrorWalk", unfollowed := true, recurses := true, plainKeys := false, apart := false }
def FnExactMirrorWalkSaid : Prop := fnExactMirrorWalkRow.holds Try.pinned (OpenSpec.ofChange fnExactMirrorWalkSpec)

/-- ITS FALSE NEIGHBOUR: 'it returns false'. Refute it at one input. -/
def fnExactMirrorWalkWrong : ChangeSpec := { name := "fnExactMirrorWalk", fn := fun _ => fun
  | [d1, d2] => { results := [.lit (.bool false)], args := [d1, d2] }
  | _ => none }
def FnExactMirrorWalkWrongFalsely : Prop := fnExactMirrorWalkRow.holds Try.pinned (OpenSpec.ofChange fnExactMirrorWalkWrong)

/- THE SECOND FORM. 'bulk': how many values and letters a reading holds, each counted each time it is reached (what is shared counts as often as it is met; a slice's spare places count too). A statement '..UptoSaid' is the law's where the arguments, and the package variables that the reading takes, are together of bulk at most 1048576: NARROWER than '..Said'. Prove '..Said' where nothing that the law and all that it calls make is longer than what came in: it says more and counts as full. Else prove '..UptoSaid'. A law counts once. -/
mutual
def uptoBulk {H : Type} : DataW H → Nat
  | .lit (.string bytes) => bytes.length + 1
  | .lit _ => 1
  | .nil => 1
  | .ptr d => uptoBulk d + 1
  | .slice elems spare => uptoBulkAll elems + uptoBulkAll spare + 1
  | .agg parts => uptoBulkAll parts + 1
  | .iface _ d => uptoBulk d + 1
  | .map entries => uptoBulkEntries entries + 1
  | .held _ => 1
def uptoBulkAll {H : Type} : List (DataW H) → Nat
  | [] => 0
  | d :: r => uptoBulk d + uptoBulkAll r
def uptoBulkEntries {H : Type} : List (Lit × DataW H) → Nat
  | [] => 0
  | x :: r => uptoBulkEntry x + uptoBulkEntries r
def uptoBulkEntry {H : Type} : Lit × DataW H → Nat
  | (.string bytes, d) => bytes.length + uptoBulk d + 1
  | (_, d) => uptoBulk d + 1
 end
def uptoSmall : (H : Type) → List (DataW H) → Bool := fun _ ds => decide (uptoBulkAll ds ≤ 1048576)
def OpenSpec.upto (s : _root_.Go.ChangeSpec) : _root_.Go.OpenSpec := { _root_.Go.OpenSpec.ofChange s with cond := some uptoSmall }

/-- 'laws.FnExactIsSearch', WHERE WHAT IT READS IS OF BULK AT MOST 1048576: true; the input reads as it did. -/
def fnExactIsSearchUptoRow : OpenClaim := { program := "ytnclfdfnhhicdaa", sum := "5ef16c0ebe1db5f175dabfbc400c55ab09f8fb47a7b9fd332007418a0cf275c3", func := "loop.example/g01148/laws.FnExactIsSearch", spec := "fnExactIsSearch", plainKeys := false, apart := false, narrowed := true }
def FnExactIsSearchUptoSaid : Prop := fnExactIsSearchUptoRow.holds Try.pinned (OpenSpec.upto fnExactIsSearchSpec)

/-- 'laws.FnExactSearchTimes', WHERE WHAT IT READS IS OF BULK AT MOST 1048576: true; the input reads as it did. -/
def fnExactSearchTimesUptoRow : OpenClaim := { program := "ytnclfdfnhhicdaa", sum := "5ef16c0ebe1db5f175dabfbc400c55ab09f8fb47a7b9fd332007418a0cf275c3", func := "loop.example/g01148/laws.FnExactSearchTimes", spec := "fnExactSearchTimes", unfollowed := true, recurses := true, plainKeys := false, apart := false, narrowed := true }
def FnExactSearchTimesUptoSaid : Prop := fnExactSearchTimesUptoRow.holds Try.pinned (OpenSpec.upto fnExactSearchTimesSpec)

/-- 'laws.FnExactMirrorSearch', WHERE WHAT IT READS IS OF BULK AT MOST 1048576: true; the input reads as it did. -/
def fnExactMirrorSearchUptoRow : OpenClaim := { program := "ytnclfdfnhhicdaa", sum := "5ef16c0ebe1db5f175dabfbc400c55ab09f8fb47a7b9fd332007418a0cf275c3", func := "loop.example/g01148/laws.FnExactMirrorSearch", spec := "fnExactMirrorSearch", unfollowed := true, recurses := true, plainKeys := false, apart := false, narrowed := true }
def FnExactMirrorSearchUptoSaid : Prop := fnExactMirrorSearchUptoRow.holds Try.pinned (OpenSpec.upto fnExactMirrorSearchSpec)

/-- 'laws.FnExactTurnCount', WHERE WHAT IT READS IS OF BULK AT MOST 1048576: true; the input reads as it did. -/
def fnExactTurnCountUptoRow : OpenClaim := { program := "ytnclfdfnhhicdaa", sum := "5ef16c0ebe1db5f175dabfbc400c55ab09f8fb47a7b9fd332007418a0cf275c3", func := "loop.example/g01148/laws.FnExactTurnCount", spec := "fnExactTurnCount", plainKeys := false, apart := false, narrowed := true }
def FnExactTurnCountUptoSaid : Prop := fnExactTurnCountUptoRow.holds Try.pinned (OpenSpec.upto fnExactTurnCountSpec)

/-- 'laws.FnExactSearchLoad', WHERE WHAT IT READS IS OF BULK AT MOST 1048576: true; the input reads as it did. -/
def fnExactSearchLoadUptoRow : OpenClaim := { program := "ytnclfdfnhhicdaa", sum := "5ef16c0ebe1db5f175dabfbc400c55ab09f8fb47a7b9fd332007418a0cf275c3", func := "loop.example/g01148/laws.FnExactSearchLoad", spec := "fnExactSearchLoad", unfollowed := true, recurses := true, plainKeys := false, apart := false, narrowed := true }
def FnExactSearchLoadUptoSaid : Prop := fnExactSearchLoadUptoRow.holds Try.pinned (OpenSpec.upto fnExactSearchLoadSpec)

/-- 'laws.FnExactDoublingSearch', WHERE WHAT IT READS IS OF BULK AT MOST 1048576: true; the input reads as it did. -/
def fnExactDoublingSearchUptoRow : OpenClaim := { program := "ytnclfdfnhhicdaa", sum := "5ef16c0ebe1db5f175dabfbc400c55ab09f8fb47a7b9fd332007418a0cf275c3", func := "loop.example/g01148/laws.FnExactDoublingSearch", spec := "fnExactDoublingSearch", plainKeys := false, apart := false, narrowed := true }
def FnExactDoublingSearchUptoSaid : Prop := fnExactDoublingSearchUptoRow.holds Try.pinned (OpenSpec.upto fnExactDoublingSearchSpec)

/-- 'laws.FnExactSearchWalk', WHERE WHAT IT READS IS OF BULK AT MOST 1048576: true; the input reads as it did. -/
def fnExactSearchWalkUptoRow : OpenClaim := { program := "ytnclfdfnhhicdaa", sum := "5ef16c0ebe1db5f175dabfbc400c55ab09f8fb47a7b9fd332007418a0cf275c3", func := "loop.example/g01148/laws.FnExactSearchWalk", spec := "fnExactSearchWalk", unfollowed := true, recurses := true, plainKeys := false, apart := false, narrowed := true }
def FnExactSearchWalkUptoSaid : Prop := fnExactSearchWalkUptoRow.holds Try.pinned (OpenSpec.upto fnExactSearchWalkSpec)

/-- 'laws.FnExactWorstPlace', WHERE WHAT IT READS IS OF BULK AT MOST 1048576: true; the input reads as it did. -/
def fnExactWorstPlaceUptoRow : OpenClaim := { program := "ytnclfdfnhhicdaa", sum := "5ef16c0ebe1db5f175dabfbc400c55ab09f8fb47a7b9fd332007418a0cf275c3", func := "loop.example/g01148/laws.FnExactWorstPlace", spec := "fnExactWorstPlace", unfollowed := true, recurses := true, plainKeys := false, apart := false, narrowed := true }
def FnExactWorstPlaceUptoSaid : Prop := fnExactWorstPlaceUptoRow.holds Try.pinned (OpenSpec.upto fnExactWorstPlaceSpec)

/-- 'laws.FnExactSearchRatio', WHERE WHAT IT READS IS OF BULK AT MOST 1048576: true; the input reads as it did. -/
def fnExactSearchRatioUptoRow : OpenClaim := { program := "ytnclfdfnhhicdaa", sum := "5ef16c0ebe1db5f175dabfbc400c55ab09f8fb47a7b9fd332007418a0cf275c3", func := "loop.example/g01148/laws.FnExactSearchRatio", spec := "fnExactSearchRatio", unfollowed := true, recurses := true, plainKeys := false, apart := false, narrowed := true }
def FnExactSearchRatioUptoSaid : Prop := fnExactSearchRatioUptoRow.holds Try.pinned (OpenSpec.upto fnExactSearchRatioSpec)

/-- 'laws.FnExactAllSearches', WHERE WHAT IT READS IS OF BULK AT MOST 1048576: true; the input reads as it did. -/
def fnExactAllSearchesUptoRow : OpenClaim := { program := "ytnclfdfnhhicdaa", sum := "5ef16c0ebe1db5f175dabfbc400c55ab09f8fb47a7b9fd332007418a0cf275c3", func := "loop.example/g01148/laws.FnExactAllSearches", spec := "fnExactAllSearches", recurses := true, plainKeys := false, apart := false, narrowed := true }
def FnExactAllSearchesUptoSaid : Prop := fnExactAllSearchesUptoRow.holds Try.pinned (OpenSpec.upto fnExactAllSearchesSpec)

/-- 'laws.FnExactLeastLoad', WHERE WHAT IT READS IS OF BULK AT MOST 1048576: true; the input reads as it did. -/
def fnExactLeastLoadUptoRow : OpenClaim := { program := "ytnclfdfnhhicdaa", sum := "5ef16c0ebe1db5f175dabfbc400c55ab09f8fb47a7b9fd332007418a0cf275c3", func := "loop.example/g01148/laws.FnExactLeastLoad", spec := "fnExactLeastLoad", recurses := true, plainKeys := false, apart := false, narrowed := true }
def FnExactLeastLoadUptoSaid : Prop := fnExactLeastLoadUptoRow.holds Try.pinned (OpenSpec.upto fnExactLeastLoadSpec)

/-- 'laws.FnExactBestSearch', WHERE WHAT IT READS IS OF BULK AT MOST 1048576: true; the input reads as it did. -/
def fnExactBestSearchUptoRow : OpenClaim := { program := "ytnclfdfnhhicdaa", sum := "5ef16c0ebe1db5f175dabfbc400c55ab09f8fb47a7b9fd332007418a0cf275c3", func := "loop.example/g01148/laws.FnExactBestSearch", spec := "fnExactBestSearch", unfollowed := true, recurses := true, plainKeys := false, apart := false, narrowed := true }
def FnExactBestSearchUptoSaid : Prop := fnExactBestSearchUptoRow.holds Try.pinned (OpenSpec.upto fnExactBestSearchSpec)

/-- 'laws.FnExactMirrorWalk', WHERE WHAT IT READS IS OF BULK AT MOST 1048576: true; the input reads as it did. -/
def fnExactMirrorWalkUptoRow : OpenClaim := { program := "ytnclfdfnhhicdaa", sum := "5ef16c0ebe1db5f175dabfbc400c55ab09f8fb47a7b9fd332007418a0cf275c3", func := "loop.example/g01148/laws.FnExactMirrorWalk", spec := "fnExactMirrorWalk", unfollowed := true, recurses := true, plainKeys := false, apart := false, narrowed := true }
def FnExactMirrorWalkUptoSaid : Prop := fnExactMirrorWalkUptoRow.holds Try.pinned (OpenSpec.upto fnExactMirrorWalkSpec)

end Rows
end Go.Proofs.Ytnclfdfnhhicdaa
