/-
  No cell of these rows narrows 'for every input' (looked for: loops, veiled, ifaces, maps, wideKeys, modest, calm, conditions, laid).
  DERIVED. THE GIVEN ROWS OF THIS SEAT. 16 by the template 'for every input the law returns true; each argument reads behind the call as it read before'; 0 by the template 'total and deterministic' (their statements: YtijhbhjapcfddaaTotals.lean).
  GIVEN WITH THE SEED: the statements are not yours to turn. If you find one false, say at which input.
  Laid BY PROGRAM, IN A SANDBOX (cutbox-rows.mjs): the forced cells as the released guide's own fill.sh prints them over the translation af39aa9405962c95… (all of the seat's roots in one cut). By AI agents, Wed Nov 11 2026. No macro, syntax, notation, axiom, sorry.
-/
import Derived.Test.YtijhbhjapcfddaaChecked
import GoSem.Claim
import GoSem.ClaimJoined
import GoSem.ClaimMapViews
import Derived.JoinedTies
import Derived.KernelRfl
namespace Go.Proofs.Ytijhbhjapcfddaa
/- THE CELL 'sum', in the pinned program and in every row, IS THE sha256 OF THE DUMP (.gsa) THAT YtijhbhjapcfddaaProg.lean LOADS. Nothing in Lean hashes anything: it is a label: what it is worth is what the hold of that sum in a sandbox is worth. -/
noncomputable def Try.pinned : Pinned := { name := "ytijhbhjapcfddaa", sum := "af39aa9405962c957d603c5160d2d79315e60c86d611e802859e2d557a6760f0", checked := Try.checked }
namespace Rows
def none {H : Type} : Left H := { results := [], args := [] }

/-- 'laws.FnExactAreExplorers': WHATEVER THE INPUT: true; the input reads as it did. -/
def fnExactAreExplorersSpec : ChangeSpec := { name := "fnExactAreExplorers", fn := fun _ => fun
  | [d1, d2] => { results := [.lit (.bool true)], args := [d1, d2] }
  | _ => none }
def fnExactAreExplorersRow : OpenClaim := { program := "ytijhbhjapcfddaa", sum := "af39aa9405962c957d603c5160d2d79315e60c86d611e802859e2d557a6760f0", func := "loop.example/g01148/laws.FnExactAreExplorers", spec := "fnExactAreExplorers", plainKeys := false, apart := false }
def FnExactAreExplorersSaid : Prop := fnExactAreExplorersRow.holds Try.pinned (OpenSpec.ofChange fnExactAreExplorersSpec)

/-- ITS FALSE NEIGHBOUR: 'it returns false'. Refute it at one input. -/
def fnExactAreExplorersWrong : ChangeSpec := { name := "fnExactAreExplorers", fn := fun _ => fun
  | [d1, d2] => { results := [.lit (.bool false)], args := [d1, d2] }
  | _ => none }
def FnExactAreExplorersWrongFalsely : Prop := fnExactAreExplorersRow.holds Try.pinned (OpenSpec.ofChange fnExactAreExplorersWrong)

/-- 'laws.FnExactRunPlaces': WHATEVER THE INPUT: true; the input reads as it did. -/
def fnExactRunPlacesSpec : ChangeSpec := { name := "fnExactRunPlaces", fn := fun _ => fun
  | [d1, d2, d3] => { results := [.lit (.bool true)], args := [d1, d2, d3] }
  | _ => none }
def fnExactRunPlacesRow : OpenClaim := { program := "ytijhbhjapcfddaa", sum := "af39aa9405962c957d603c5160d2d79315e60c86d611e802859e2d557a6760f0", func := "loop.example/g01148/laws.FnExactRunPlaces", spec := "fnExactRunPlaces", plainKeys := false, apart := false }
def FnExactRunPlacesSaid : Prop := fnExactRunPlacesRow.holds Try.pinned (OpenSpec.ofChange fnExactRunPlacesSpec)

/-- ITS FALSE NEIGHBOUR: 'it returns false'. Refute it at one input. -/
def fnExactRunPlacesWrong : ChangeSpec := { name := "fnExactRunPlaces", fn := fun _ => fun
  | [d1, d2, d3] => { results := [.lit (.bool false)], args := [d1, d2, d3] }
  | _ => none }
def FnExactRunPlacesWrongFalsely : Prop := fnExactRunPlacesRow.holds Try.pinned (OpenSpec.ofChange fnExactRunPlacesWrong)

/-- 'laws.FnExactRunTime': WHATEVER THE INPUT: true; the input reads as it did. -/
def fnExactRunTimeSpec : ChangeSpec := { name := "fnExactRunTime", fn := fun _ => fun
  | [d1, d2, d3, d4, d5] => { results := [.lit (.bool true)], args := [d1, d2, d3, d4, d5] }
  | _ => none }
def fnExactRunTimeRow : OpenClaim := { program := "ytijhbhjapcfddaa", sum := "af39aa9405962c957d603c5160d2d79315e60c86d611e802859e2d557a6760f0", func := "loop.example/g01148/laws.FnExactRunTime", spec := "fnExactRunTime", unfollowed := true, recurses := true, plainKeys := false, apart := false }
def FnExactRunTimeSaid : Prop := fnExactRunTimeRow.holds Try.pinned (OpenSpec.ofChange fnExactRunTimeSpec)

/-- ITS FALSE NEIGHBOUR: 'it returns false'. Refute it at one input. -/
def fnExactRunTimeWrong : ChangeSpec := { name := "fnExactRunTime", fn := fun _ => fun
  | [d1, d2, d3, d4, d5] => { results := [.lit (.bool false)], args := [d1, d2, d3, d4, d5] }
  | _ => none }
def FnExactRunTimeWrongFalsely : Prop := fnExactRunTimeRow.holds Try.pinned (OpenSpec.ofChange fnExactRunTimeWrong)

/-- 'laws.FnExactReachTime': WHATEVER THE INPUT: true; the input reads as it did. -/
def fnExactReachTimeSpec : ChangeSpec := { name := "fnExactReachTime", fn := fun _ => fun
  | [d1, d2] => { results := [.lit (.bool true)], args := [d1, d2] }
  | _ => none }
def fnExactReachTimeRow : OpenClaim := { program := "ytijhbhjapcfddaa", sum := "af39aa9405962c957d603c5160d2d79315e60c86d611e802859e2d557a6760f0", func := "loop.example/g01148/laws.FnExactReachTime", spec := "fnExactReachTime", unfollowed := true, recurses := true, plainKeys := false, apart := false }
def FnExactReachTimeSaid : Prop := fnExactReachTimeRow.holds Try.pinned (OpenSpec.ofChange fnExactReachTimeSpec)

/-- ITS FALSE NEIGHBOUR: 'it returns false'. Refute it at one input. -/
def fnExactReachTimeWrong : ChangeSpec := { name := "fnExactReachTime", fn := fun _ => fun
  | [d1, d2] => { results := [.lit (.bool false)], args := [d1, d2] }
  | _ => none }
def FnExactReachTimeWrongFalsely : Prop := fnExactReachTimeRow.holds Try.pinned (OpenSpec.ofChange fnExactReachTimeWrong)

/-- 'laws.FnExactReturnTime': WHATEVER THE INPUT: true; the input reads as it did. -/
def fnExactReturnTimeSpec : ChangeSpec := { name := "fnExactReturnTime", fn := fun _ => fun
  | [d1, d2] => { results := [.lit (.bool true)], args := [d1, d2] }
  | _ => none }
def fnExactReturnTimeRow : OpenClaim := { program := "ytijhbhjapcfddaa", sum := "af39aa9405962c957d603c5160d2d79315e60c86d611e802859e2d557a6760f0", func := "loop.example/g01148/laws.FnExactReturnTime", spec := "fnExactReturnTime", unfollowed := true, recurses := true, plainKeys := false, apart := false }
def FnExactReturnTimeSaid : Prop := fnExactReturnTimeRow.holds Try.pinned (OpenSpec.ofChange fnExactReturnTimeSpec)

/-- ITS FALSE NEIGHBOUR: 'it returns false'. Refute it at one input. -/
def fnExactReturnTimeWrong : ChangeSpec := { name := "fnExactReturnTime", fn := fun _ => fun
  | [d1, d2] => { results := [.lit (.bool false)], args := [d1, d2] }
  | _ => none }
def FnExactReturnTimeWrongFalsely : Prop := fnExactReturnTimeRow.holds Try.pinned (OpenSpec.ofChange fnExactReturnTimeWrong)

/-- 'laws.FnExactTakenRuns': WHATEVER THE INPUT: true; the input reads as it did. -/
def fnExactTakenRunsSpec : ChangeSpec := { name := "fnExactTakenRuns", fn := fun _ => fun
  | [d1, d2, d3, d4, d5, d6] => { results := [.lit (.bool true)], args := [d1, d2, d3, d4, d5, d6] }
  | _ => none }
def fnExactTakenRunsRow : OpenClaim := { program := "ytijhbhjapcfddaa", sum := "af39aa9405962c957d603c5160d2d79315e60c86d611e802859e2d557a6760f0", func := "loop.example/g01148/laws.FnExactTakenRuns", spec := "fnExactTakenRuns", unfollowed := true, recurses := true, plainKeys := false, apart := false }
def FnExactTakenRunsSaid : Prop := fnExactTakenRunsRow.holds Try.pinned (OpenSpec.ofChange fnExactTakenRunsSpec)

/-- ITS FALSE NEIGHBOUR: 'it returns false'. Refute it at one input. -/
def fnExactTakenRunsWrong : ChangeSpec := { name := "fnExactTakenRuns", fn := fun _ => fun
  | [d1, d2, d3, d4, d5, d6] => { results := [.lit (.bool false)], args := [d1, d2, d3, d4, d5, d6] }
  | _ => none }
def FnExactTakenRunsWrongFalsely : Prop := fnExactTakenRunsRow.holds Try.pinned (OpenSpec.ofChange fnExactTakenRunsWrong)

/-- 'laws.FnExactFirstOrder': WHATEVER THE INPUT: true; the input reads as it did. -/
def fnExactFirstOrderSpec : ChangeSpec := { name := "fnExactFirstOrder", fn := fun _ => fun
  | [d1, d2, d3, d4] => { results := [.lit (.bool true)], args := [d1, d2, d3, d4] }
  | _ => none }
def fnExactFirstOrderRow : OpenClaim := { program := "ytijhbhjapcfddaa", sum := "af39aa9405962c957d603c5160d2d79315e60c86d611e802859e2d557a6760f0", func := "loop.example/g01148/laws.FnExactFirstOrder", spec := "fnExactFirstOrder", unfollowed := true, recurses := true, plainKeys := false, apart := false }
def FnExactFirstOrderSaid : Prop := fnExactFirstOrderRow.holds Try.pinned (OpenSpec.ofChange fnExactFirstOrderSpec)

/-- ITS FALSE NEIGHBOUR: 'it returns false'. Refute it at one input. -/
def fnExactFirstOrderWrong : ChangeSpec := { name := "fnExactFirstOrder", fn := fun _ => fun
  | [d1, d2, d3, d4] => { results := [.lit (.bool false)], args := [d1, d2, d3, d4] }
  | _ => none }
def FnExactFirstOrderWrongFalsely : Prop := fnExactFirstOrderRow.holds Try.pinned (OpenSpec.ofChange fnExactFirstOrderWrong)

/-- 'laws.FnExactCanReach': WHATEVER THE INPUT: true; the input reads as it did. -/
def fnExactCanReachSpec : ChangeSpec := { name := "fnExactCanReach", fn := fun _ => fun
  | [d1, d2, d3] => { results := [.lit (.bool true)], args := [d1, d2, d3] }
  | _ => none }
def fnExactCanReachRow : OpenClaim := { program := "ytijhbhjapcfddaa", sum := "af39aa9405962c957d603c5160d2d79315e60c86d611e802859e2d557a6760f0", func := "loop.example/g01148/laws.FnExactCanReach", spec := "fnExactCanReach", unfollowed := true, recurses := true, plainKeys := false, apart := false }
def FnExactCanReachSaid : Prop := fnExactCanReachRow.holds Try.pinned (OpenSpec.ofChange fnExactCanReachSpec)

/-- ITS FALSE NEIGHBOUR: 'it returns false'. Refute it at one input. -/
def fnExactCanReachWrong : ChangeSpec := { name := "fnExactCanReach", fn := fun _ => fun
  | [d1, d2, d3] => { results := [.lit (.bool false)], args := [d1, d2, d3] }
  | _ => none }
def FnExactCanReachWrongFalsely : Prop := fnExactCanReachRow.holds Try.pinned (OpenSpec.ofChange fnExactCanReachWrong)

/-- 'laws.FnExactExploreBound': WHATEVER THE INPUT: true; the input reads as it did. -/
def fnExactExploreBoundSpec : ChangeSpec := { name := "fnExactExploreBound", fn := fun _ => fun
  | [d1, d2] => { results := [.lit (.bool true)], args := [d1, d2] }
  | _ => none }
def fnExactExploreBoundRow : OpenClaim := { program := "ytijhbhjapcfddaa", sum := "af39aa9405962c957d603c5160d2d79315e60c86d611e802859e2d557a6760f0", func := "loop.example/g01148/laws.FnExactExploreBound", spec := "fnExactExploreBound", plainKeys := false, apart := false }
def FnExactExploreBoundSaid : Prop := fnExactExploreBoundRow.holds Try.pinned (OpenSpec.ofChange fnExactExploreBoundSpec)

/-- ITS FALSE NEIGHBOUR: 'it returns false'. Refute it at one input. -/
def fnExactExploreBoundWrong : ChangeSpec := { name := "fnExactExploreBound", fn := fun _ => fun
  | [d1, d2] => { results := [.lit (.bool false)], args := [d1, d2] }
  | _ => none }
def FnExactExploreBoundWrongFalsely : Prop := fnExactExploreBoundRow.holds Try.pinned (OpenSpec.ofChange fnExactExploreBoundWrong)

/-- 'laws.FnExactLeaveTimes': WHATEVER THE INPUT: true; the input reads as it did. -/
def fnExactLeaveTimesSpec : ChangeSpec := { name := "fnExactLeaveTimes", fn := fun _ => fun
  | [d1, d2] => { results := [.lit (.bool true)], args := [d1, d2] }
  | _ => none }
def fnExactLeaveTimesRow : OpenClaim := { program := "ytijhbhjapcfddaa", sum := "af39aa9405962c957d603c5160d2d79315e60c86d611e802859e2d557a6760f0", func := "loop.example/g01148/laws.FnExactLeaveTimes", spec := "fnExactLeaveTimes", unfollowed := true, recurses := true, plainKeys := false, apart := false }
def FnExactLeaveTimesSaid : Prop := fnExactLeaveTimesRow.holds Try.pinned (OpenSpec.ofChange fnExactLeaveTimesSpec)

/-- ITS FALSE NEIGHBOUR: 'it returns false'. Refute it at one input. -/
def fnExactLeaveTimesWrong : ChangeSpec := { name := "fnExactLeaveTimes", fn := fun _ => fun
  | [d1, d2] => { results := [.lit (.bool false)], args := [d1, d2] }
  | _ => none }
def FnExactLeaveTimesWrongFalsely : Prop := fnExactLeaveTimesRow.holds Try.pinned (OpenSpec.ofChange fnExactLeaveTimesWrong)

/-- 'laws.FnExactWorstLeave': WHATEVER THE INPUT: true; the input reads as it did. -/
def fnExactWorstLeaveSpec : ChangeSpec := { name := "fnExactWorstLeave", fn := fun _ => fun
  | [d1, d2] => { results := [.lit (.bool true)], args := [d1, d2] }
  | _ => none }
def fnExactWorstLeaveRow : OpenClaim := { program := "ytijhbhjapcfddaa", sum := "af39aa9405962c957d603c5160d2d79315e60c86d611e802859e2d557a6760f0", func := "loop.example/g01148/laws.FnExactWorstLeave", spec := "fnExactWorstLeave", unfollowed := true, recurses := true, plainKeys := false, apart := false }
def FnExactWorstLeaveSaid : Prop := fnExactWorstLeaveRow.holds Try.pinned (OpenSpec.ofChange fnExactWorstLeaveSpec)

/-- ITS FALSE NEIGHBOUR: 'it returns false'. Refute it at one input. -/
def fnExactWorstLeaveWrong : ChangeSpec := { name := "fnExactWorstLeave", fn := fun _ => fun
  | [d1, d2] => { results := [.lit (.bool false)], args := [d1, d2] }
  | _ => none }
def FnExactWorstLeaveWrongFalsely : Prop := fnExactWorstLeaveRow.holds Try.pinned (OpenSpec.ofChange fnExactWorstLeaveWrong)

/-- 'laws.FnExactSplitWalks': WHATEVER THE INPUT: true; the input reads as it did. -/
def fnExactSplitWalksSpec : ChangeSpec := { name := "fnExactSplitWalks", fn := fun _ => fun
  | [d1, d2] => { results := [.lit (.bool true)], args := [d1, d2] }
  | _ => none }
def fnExactSplitWalksRow : OpenClaim := { program := "ytijhbhjapcfddaa", sum := "af39aa9405962c957d603c5160d2d79315e60c86d611e802859e2d557a6760f0", func := "loop.example/g01148/laws.FnExactSplitWalks", spec := "fnExactSplitWalks", unfollowed := true, recurses := true, plainKeys := false, apart := false }
def FnExactSplitWalksSaid : Prop := fnExactSplitWalksRow.holds Try.pinned (OpenSpec.ofChange fnExactSplitWalksSpec)

/-- ITS FALSE NEIGHBOUR: 'it returns false'. Refute it at one input. -/
def fnExactSplitWalksWrong : ChangeSpec := { name := "fnExactSplitWalks", fn := fun _ => fun
  | [d1, d2] => { results := [.lit (.bool false)], args := [d1, d2] }
  | _ => none }
def FnExactSplitWalksWrongFalsely : Prop := fnExactSplitWalksRow.holds Try.pinned (OpenSpec.ofChange fnExactSplitWalksWrong)

/-- 'laws.FnExactCoverTime': WHATEVER THE INPUT: true; the input reads as it did. -/
def fnExactCoverTimeSpec : ChangeSpec := { name := "fnExactCoverTime", fn := fun _ => fun
  | [d1, d2] => { results := [.lit (.bool true)], args := [d1, d2] }
  | _ => none }
def fnExactCoverTimeRow : OpenClaim := { program := "ytijhbhjapcfddaa", sum := "af39aa9405962c957d603c5160d2d79315e60c86d611e802859e2d557a6760f0", func := "loop.example/g01148/laws.FnExactCoverTime", spec := "fnExactCoverTime", unfollowed := true, recurses := true, plainKeys := false, apart := false }
def FnExactCoverTimeSaid : Prop := fnExactCoverTimeRow.holds Try.pinned (OpenSpec.ofChange fnExactCoverTimeSpec)

/-- ITS FALSE NEIGHBOUR: 'it returns false'. Refute it at one input. -/
def fnExactCoverTimeWrong : ChangeSpec := { name := "fnExactCoverTime", fn := fun _ => fun
  | [d1, d2] => { results := [.lit (.bool false)], args := [d1, d2] }
  | _ => none }
def FnExactCoverTimeWrongFalsely : Prop := fnExactCoverTimeRow.holds Try.pinned (OpenSpec.ofChange fnExactCoverTimeWrong)

/-- 'laws.FnExactVisitTimes': WHATEVER THE INPUT: true; the input reads as it did. -/
def fnExactVisitTimesSpec : ChangeSpec := { name := "fnExactVisitTimes", fn := fun _ => fun
  | [d1, d2, d3] => { results := [.lit (.bool true)], args := [d1, d2, d3] }
  | _ => none }
def fnExactVisitTimesRow : OpenClaim := { program := "ytijhbhjapcfddaa", sum := "af39aa9405962c957d603c5160d2d79315e60c86d611e802859e2d557a6760f0", func := "loop.example/g01148/laws.FnExactVisitTimes", spec := "fnExactVisitTimes", unfollowed := true, recurses := true, plainKeys := false, apart := false }
def FnExactVisitTimesSaid : Prop := fnExactVisitTimesRow.holds Try.pinned (OpenSpec.ofChange fnExactVisitTimesSpec)

/-- ITS FALSE NEIGHBOUR: 'it returns false'. Refute it at one input. -/
def fnExactVisitTimesWrong : ChangeSpec := { name := "fnExactVisitTimes", fn := fun _ => fun
  | [d1, d2, d3] => { results := [.lit (.bool false)], args := [d1, d2, d3] }
  | _ => none }
def FnExactVisitTimesWrongFalsely : Prop := fnExactVisitTimesRow.holds Try.pinned (OpenSpec.ofChange fnExactVisitTimesWrong)

/-- 'laws.FnExactIdleTimes': WHATEVER THE INPUT: true; the input reads as it did. -/
def fnExactIdleTimesSpec : ChangeSpec := { name := "fnExactIdleTimes", fn := fun _ => fun
  | [d1, d2] => { results := [.lit (.bool true)], args := [d1, d2] }
  | _ => none }
def fnExactIdleTimesRow : OpenClaim := { program := "ytijhbhjapcfddaa", sum := "af39aa9405962c957d603c5160d2d79315e60c86d611e802859e2d557a6760f0", func := "loop.example/g01148/laws.FnExactIdleTimes", spec := "fnExactIdleTimes", unfollowed := true, recurses := true, plainKeys := false, apart := false }
def FnExactIdleTimesSaid : Prop := fnExactIdleTimesRow.holds Try.pinned (OpenSpec.ofChange fnExactIdleTimesSpec)

/-- ITS FALSE NEIGHBOUR: 'it returns false'. Refute it at one input. -/
def fnExactIdleTimesWrong : ChangeSpec := { name := "fnExactIdleTimes", fn := fun _ => fun
  | [d1, d2] => { results := [.lit (.bool false)], args := [d1, d2] }
  | _ => none }
def FnExactIdleTimesWrongFalsely : Prop := fnExactIdleTimesRow.holds Try.pinned (OpenSpec.ofChange fnExactIdleTimesWrong)

/-- 'laws.FnExactPauseOf': WHATEVER THE INPUT: true; the input reads as it did. -/
def fnExactPauseOfSpec : ChangeSpec := { name := "fnExactPauseOf", fn := fun _ => fun
  | [d1, d2] => { results := [.lit (.bool true)], args := [d1, d2] }
  | _ => none }
def fnExactPauseOfRow : OpenClaim := { program := "ytijhbhjapcfddaa", sum := "af39aa9405962c957d603c5160d2d79315e60c86d611e802859e2d557a6760f0", func := "loop.example/g01148/laws.FnExactPauseOf", spec := "fnExactPauseOf", unfollowed := true, recurses := true, plainKeys := false, apart := false }
def FnExactPauseOfSaid : Prop := fnExactPauseOfRow.holds Try.pinned (OpenSpec.ofChange fnExactPauseOfSpec)

/-- ITS FALSE NEIGHBOUR: 'it returns false'. Refute it at one input. -/
def fnExactPauseOfWrong : ChangeSpec := { name := "fnExactPauseOf", fn := fun _ => fun
  | [d1, d2] => { results := [.lit (.bool false)], args := [d1, d2] }
  | _ => none }
def FnExactPauseOfWrongFalsely : Prop := fnExactPauseOfRow.holds Try.pinned (OpenSpec.ofChange fnExactPauseOfWrong)

/- THE SECOND FORM. 'bulk': how many values and letters a reading holds, each counted each time it is reached (what is shared counts as often as it is met; a slice's spare places count too). A statement '..UptoSaid' is the law's where the arguments, and the package variables that the reading takes, are together of bulk at most 1048576: NARROWER than '..Said'. Prove '..Said' where nothing that the law and all that it calls make is longer than what came in: it says more and counts as full. Else prove '..UptoSaid'. A law counts once. -/
mutual
def uptoBulk {H : Type} : DataW H → Nat
  | .lit (.string bytes) => bytes.length + 1
  | .lit _ => 1
  | .nil => 1
  | .ptr d => uptoBulk d + 1
  | .slice elems spare => uptoBulkAll elems + uptoBulkAll spare + 1
  | .agg parts => uptoBulkAll parts + 1
  | .iface _ d => uptoBulk d + 1
  | .map entries => uptoBulkEntries entries + 1
  | .held _ => 1
def uptoBulkAll {H : Type} : List (DataW H) → Nat
  | [] => 0
  | d :: r => uptoBulk d + uptoBulkAll r
def uptoBulkEntries {H : Type} : List (Lit × DataW H) → Nat
  | [] => 0
  | x :: r => uptoBulkEntry x + uptoBulkEntries r
def uptoBulkEntry {H : Type} : Lit × DataW H → Nat
  | (.string bytes, d) => bytes.length + uptoBulk d + 1
  | (_, d) => uptoBulk d + 1
 end
def uptoSmall : (H : Type) → List (DataW H) → Bool := fun _ ds => decide (uptoBulkAll ds ≤ 1048576)
def OpenSpec.upto (s : _root_.Go.ChangeSpec) : _root_.Go.OpenSpec := { _root_.Go.OpenSpec.ofChange s with cond := some uptoSmall }

/-- 'laws.FnExactAreExplorers', WHERE WHAT IT READS IS OF BULK AT MOST 1048576: true; the input reads as it did. -/
def fnExactAreExplorersUptoRow : OpenClaim := { program := "ytijhbhjapcfddaa", sum := "af39aa9405962c957d603c5160d2d79315e60c86d611e802859e2d557a6760f0", func := "loop.example/g01148/laws.FnExactAreExplorers", spec := "fnExactAreExplorers", plainKeys := false, apart := false, narrowed := true }
def FnExactAreExplorersUptoSaid : Prop := fnExactAreExplorersUptoRow.holds Try.pinned (OpenSpec.upto fnExactAreExplorersSpec)

/-- 'laws.FnExactRunPlaces', WHERE WHAT IT READS IS OF BULK AT MOST 1048576: true; the input reads as it did. -/
def fnExactRunPlacesUptoRow : OpenClaim := { program := "ytijhbhjapcfddaa", sum := "af39aa9405962c957d603c5160d2d79315e60c86d611e802859e2d557a6760f0", func := "loop.example/g01148/laws.FnExactRunPlaces", spec := "fnExactRunPlaces", plainKeys := false, apart := false, narrowed := true }
def FnExactRunPlacesUptoSaid : Prop := fnExactRunPlacesUptoRow.holds Try.pinned (OpenSpec.upto fnExactRunPlacesSpec)

/-- 'laws.FnExactRunTime', WHERE WHAT IT READS IS OF BULK AT MOST 1048576: true; the input reads as it did. -/
def fnExactRunTimeUptoRow : OpenClaim := { program := "ytijhbhjapcfddaa", sum := "af39aa9405962c957d603c5160d2d79315e60c86d611e802859e2d557a6760f0", func := "loop.example/g01148/laws.FnExactRunTime", spec := "fnExactRunTime", unfollowed := true, recurses := true, plainKeys := false, apart := false, narrowed := true }
def FnExactRunTimeUptoSaid : Prop := fnExactRunTimeUptoRow.holds Try.pinned (OpenSpec.upto fnExactRunTimeSpec)

/-- 'laws.FnExactReachTime', WHERE WHAT IT READS IS OF BULK AT MOST 1048576: true; the input reads as it did. -/
def fnExactReachTimeUptoRow : OpenClaim := { program := "ytijhbhjapcfddaa", sum := "af39aa9405962c957d603c5160d2d79315e60c86d611e802859e2d557a6760f0", func := "loop.example/g01148/laws.FnExactReachTime", spec := "fnExactReachTime", unfollowed := true, recurses := true, plainKeys := false, apart := false, narrowed := true }
def FnExactReachTimeUptoSaid : Prop := fnExactReachTimeUptoRow.holds Try.pinned (OpenSpec.upto fnExactReachTimeSpec)

/-- 'laws.FnExactReturnTime', WHERE WHAT IT READS IS OF BULK AT MOST 1048576: true; the input reads as it did. -/
def fnExactReturnTimeUptoRow : OpenClaim := { program := "ytijhbhjapcfddaa", sum := "af39aa9405962c957d603c5160d2d79315e60c86d611e802859e2d557a6760f0", func := "loop.example/g01148/laws.FnExactReturnTime", spec := "fnExactReturnTime", unfollowed := true, recurses := true, plainKeys := false, apart := false, narrowed := true }
def FnExactReturnTimeUptoSaid : Prop := fnExactReturnTimeUptoRow.holds Try.pinned (OpenSpec.upto fnExactReturnTimeSpec)

/-- 'laws.FnExactTakenRuns', WHERE WHAT IT READS IS OF BULK AT MOST 1048576: true; the input reads as it did. -/
def fnExactTakenRunsUptoRow : OpenClaim := { program := "ytijhbhjapcfddaa", sum := "af39aa9405962c957d603c5160d2d79315e60c86d611e802859e2d557a6760f0", func := "loop.example/g01148/laws.FnExactTakenRuns", spec := "fnExactTakenRuns", unfollowed := true, recurses := true, plainKeys := false, apart := false, narrowed := true }
def FnExactTakenRunsUptoSaid : Prop := fnExactTakenRunsUptoRow.holds Try.pinned (OpenSpec.upto fnExactTakenRunsSpec)

/-- 'laws.FnExactFirstOrder', WHERE WHAT IT READS IS OF BULK AT MOST 1048576: true; the input reads as it did. -/
def fnExactFirstOrderUptoRow : OpenClaim := { program := "ytijhbhjapcfddaa", sum := "af39aa9405962c957d603c5160d2d79315e60c86d611e802859e2d557a6760f0", func := "loop.example/g01148/laws.FnExactFirstOrder", spec := "fnExactFirstOrder", unfollowed := true, recurses := true, plainKeys := false, apart := false, narrowed := true }
def FnExactFirstOrderUptoSaid : Prop := fnExactFirstOrderUptoRow.holds Try.pinned (OpenSpec.upto fnExactFirstOrderSpec)

/-- 'laws.FnExactCanReach', WHERE WHAT IT READS IS OF BULK AT MOST 1048576: true; the input reads as it did. -/
def fnExactCanReachUptoRow : OpenClaim := { program := "ytijhbhjapcfddaa", sum := "af39aa9405962c957d603c5160d2d79315e60c86d611e802859e2d557a6760f0", func := "loop.example/g01148/laws.FnExactCanReach", spec := "fnExactCanReach", unfollowed := true, recurses := true, plainKeys := false, apart := false, narrowed := true }
def FnExactCanReachUptoSaid : Prop := fnExactCanReachUptoRow.holds Try.pinned (OpenSpec.upto fnExactCanReachSpec)

/-- 'laws.FnExactExploreBound', WHERE WHAT IT READS IS OF BULK AT MOST 1048576: true; the input reads as it did. -/
def fnExactExploreBoundUptoRow : OpenClaim := { program := "ytijhbhjapcfddaa", sum := "af39aa9405962c957d603c5160d2d79315e60c86d611e802859e2d557a6760f0", func := "loop.example/g01148/laws.FnExactExploreBound", spec := "fnExactExploreBound", plainKeys := false, apart := false, narrowed := true }
def FnExactExploreBoundUptoSaid : Prop := fnExactExploreBoundUptoRow.holds Try.pinned (OpenSpec.upto fnExactExploreBoundSpec)

/-- 'laws.FnExactLeaveTimes', WHERE WHAT IT READS IS OF BULK AT MOST 1048576: true; the input reads as it did. -/
def fnExactLeaveTimesUptoRow : OpenClaim := { program := "ytijhbhjapcfddaa", sum := "af39aa9405962c957d603c5160d2d79315e60c86d611e802859e2d557a6760f0", func := "loop.example/g01148/laws.FnExactLeaveTimes", spec := "fnExactLeaveTimes", unfollowed := true, recurses := true, plainKeys := false, apart := false, narrowed := true }
def FnExactLeaveTimesUptoSaid : Prop := fnExactLeaveTimesUptoRow.holds Try.pinned (OpenSpec.upto fnExactLeaveTimesSpec)

/-- 'laws.FnExactWorstLeave', WHERE WHAT IT READS IS OF BULK AT MOST 1048576: true; the input reads as it did. -/
def fnExactWorstLeaveUptoRow : OpenClaim := { program := "ytijhbhjapcfddaa", sum := "af39aa9405962c957d603c5160d2d79315e60c86d611e802859e2d557a6760f0", func := "loop.example/g01148/laws.FnExactWorstLeave", spec := "fnExactWorstLeave", unfollowed := true, recurses := true, plainKeys := false, apart := false, narrowed := true }
def FnExactWorstLeaveUptoSaid : Prop := fnExactWorstLeaveUptoRow.holds Try.pinned (OpenSpec.upto fnExactWorstLeaveSpec)

/-- 'laws.FnExactSplitWalks', WHERE WHAT IT READS IS OF BULK AT MOST 1048576: true; the input reads as it did. -/
def fnExactSplitWalksUptoRow : OpenClaim := { program := "ytijhbhjapcfddaa", sum := "af39aa9405962c957d603c5160d2d79315e60c86d611e802859e2d557a6760f0", func := "loop.example/g01148/laws.FnExactSplitWalks", spec := "fnExactSplitWalks", unfollowed := true, recurses := true, plainKeys := false, apart := false, narrowed := true }
def FnExactSplitWalksUptoSaid : Prop := fnExactSplitWalksUptoRow.holds Try.pinned (OpenSpec.upto fnExactSplitWalksSpec)

/-- 'laws.FnExactCoverTime', WHERE WHAT IT READS IS OF BULK AT MOST 1048576: true; the input reads as it did. -/
def fnExactCoverTimeUptoRow : OpenClaim := { program := "ytijhbhjapcfddaa", sum := "af39aa9405962c957d603c5160d2d79315e60c86d611e802859e2d557a6760f0", func := "loop.example/g01148/laws.FnExactCoverTime", spec := "fnExactCoverTime", unfollowed := true, recurses := true, plainKeys := false, apart := false, narrowed := true }
def FnExactCoverTimeUptoSaid : Prop := fnExactCoverTimeUptoRow.holds Try.pinned (OpenSpec.upto fnExactCoverTimeSpec)

/-- 'laws.FnExactVisitTimes', WHERE WHAT IT READS IS OF BULK AT MOST 1048576: true; the input reads as it did. -/
def fnExactVisitTimesUptoRow : OpenClaim := { program := "ytijhbhjapcfddaa", sum := "af39aa9405962c957d603c5160d2d79315e60c86d611e802859e2d557a6760f0", func := "loop.example/g01148/laws.FnExactVisitTimes", spec := "fnExactVisitTimes", unfollowed := true, recurses := true, plainKeys := false, apart := false, narrowed := true }
def FnExactVisitTimesUptoSaid : Prop := fnExactVisitTimesUptoRow.holds Try.pinned (OpenSpec.upto fnExactVisitTimesSpec)

/-- 'laws.FnExactIdleTimes', WHERE WHAT IT READS IS OF BULK AT MOST 1048576: true; the input reads as it did. -/
def fnExactIdleTimesUptoRow : OpenClaim := { program := "ytijhbhjapcfddaa", sum := "af39aa9405962c957d603c5160d2d79315e60c86d611e802859e2d557a6760f0", func := "loop.example/g01148/laws.FnExactIdleTimes", spec := "fnExactIdleTimes", unfollowed := true, recurses := true, plainKeys := false, apart := false, narrowed := true }
def FnExactIdleTimesUptoSaid : Prop := fnExactIdleTimesUptoRow.holds Try.pinned (OpenSpec.upto fnExactIdleTimesSpec)

/-- 'laws.FnExactPauseOf', WHERE WHAT IT READS IS OF BULK AT MOST 1048576: true; the input reads as it did. -/
def fnExactPauseOfUptoRow : OpenClaim := { program := "ytijhbhjapcfddaa", sum := "af39aa9405962c957d603c5160d2d79315e60c86d611e802859e2d557a6760f0", func := "loop.example/g01148/laws.FnExactPauseOf", spec := "fnExactPauseOf", unfollowed := true, recurses := true, plainKeys := false, apart := false, narrowed := true }
def FnExactPauseOfUptoSaid : Prop := fnExactPauseOfUptoRow.holds Try.pinned (OpenSpec.upto fnExactPauseOfSpec)

end Rows
end Go.Proofs.Ytijhbhjapcfddaa
