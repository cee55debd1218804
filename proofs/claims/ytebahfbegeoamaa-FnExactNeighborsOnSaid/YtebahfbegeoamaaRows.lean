/-
  No cell of these rows narrows 'for every input' (looked for: loops, veiled, ifaces, maps, wideKeys, modest, calm, conditions, laid).
  DERIVED. THE GIVEN ROWS OF THIS SEAT. 13 by the template 'for every input the law returns true; each argument reads behind the call as it read before'; 0 by the template 'total and deterministic' (their statements: YtebahfbegeoamaaTotals.lean).
  GIVEN WITH THE SEED: the statements are not yours to turn. If you find one false, say at which input.
  Laid BY PROGRAM, IN A SANDBOX (cutbox-rows.mjs): the forced cells as the released guide's own fill.sh prints them over the translation 0eaf3b5694b95898… (all of the seat's roots in one cut). By AI agents, Wed Nov 11 2026. No macro, syntax, notation, axiom, sorry.
-/
import Derived.Test.YtebahfbegeoamaaChecked
import GoSem.Claim
import GoSem.ClaimJoined
import GoSem.ClaimMapViews
import Derived.JoinedTies
import Derived.KernelRfl
namespace Go.Proofs.Ytebahfbegeoamaa
/- THE CELL 'sum', in the pinned program and in every row, IS THE sha256 OF THE DUMP (.gsa) THAT YtebahfbegeoamaaProg.lean LOADS. Nothing in Lean hashes anything: it is a label: what it is worth is what the hold of that sum in a sandbox is worth. -/
noncomputable def Try.pinned : Pinned := { name := "ytebahfbegeoamaa", sum := "0eaf3b5694b95898509dee0133deeb818eebd68ca8136e0c2482af5f3c2dfbd9", checked := Try.checked }
namespace Rows
def none {H : Type} : Left H := { results := [], args := [] }

/-- 'laws.FnExactIsRoad': WHATEVER THE INPUT: true; the input reads as it did. -/
def fnExactIsRoadSpec : ChangeSpec := { name := "fnExactIsRoad", fn := fun _ => fun
  | [d] => { results := [.lit (.bool true)], args := [d] }
  | _ => none }
def fnExactIsRoadRow : OpenClaim := { program := "ytebahfbegeoamaa", sum := "0eaf3b5694b95898509dee0133deeb818eebd68ca8136e0c2482af5f3c2dfbd9", func := "loop.example/g01148/laws.FnExactIsRoad", spec := "fnExactIsRoad", apart := false }
def FnExactIsRoadSaid : Prop := fnExactIsRoadRow.holds Try.pinned (OpenSpec.ofChange fnExactIsRoadSpec)

/-- ITS FALSE NEIGHBOUR: 'it returns false'. Refute it at one input. -/
def fnExactIsRoadWrong : ChangeSpec := { name := "fnExactIsRoad", fn := fun _ => fun
  | [d] => { results := [.lit (.bool false)], args := [d] }
  | _ => none }
def FnExactIsRoadWrongFalsely : Prop := fnExactIsRoadRow.holds Try.pinned (OpenSpec.ofChange fnExactIsRoadWrong)

/-- 'laws.FnExactNeighborsOn': WHATEVER THE INPUT: true; the input reads as it did. -/
def fnExactNeighborsOnSpec : ChangeSpec := { name := "fnExactNeighborsOn", fn := fun _ => fun
  | [d1, d2] => { results := [.lit (.bool true)], args := [d1, d2] }
  | _ => none }
def fnExactNeighborsOnRow : OpenClaim := { program := "ytebahfbegeoamaa", sum := "0eaf3b5694b95898509dee0133deeb818eebd68ca8136e0c2482af5f3c2dfbd9", func := "loop.example/g01148/laws.FnExactNeighborsOn", spec := "fnExactNeighborsOn", unfollowed := true, recurses := true, apart := false }
def FnExactNeighborsOnSaid : Prop := fnExactNeighborsOnRow.holds Try.pinned (OpenSpec.ofChange fnExactNeighborsOnSpec)

/-- ITS FALSE NEIGHBOUR: 'it returns false'. Refute it at one input. -/
def fnExactNeighborsOnWrong : ChangeSpec := { name := "fnExactNeighborsOn", fn := fun _ => fun
  | [d1, d2] => { results := [.lit (.bool false)], args := [d1, d2] }
  | _ => none }
def FnExactNeighborsOnWrongFalsely : Prop := fnExactNeighborsOnRow.holds Try.pinned (OpenSpec.ofChange fnExactNeighborsOnWrong)

/-- 'laws.FnExactGapOf': WHATEVER THE INPUT: true; the input reads as it did. -/
def fnExactGapOfSpec : ChangeSpec := { name := "fnExactGapOf", fn := fun _ => fun
  | [d1, d2, d3] => { results := [.lit (.bool true)], args := [d1, d2, d3] }
  | _ => none }
def fnExactGapOfRow : OpenClaim := { program := "ytebahfbegeoamaa", sum := "0eaf3b5694b95898509dee0133deeb818eebd68ca8136e0c2482af5f3c2dfbd9", func := "loop.example/g01148/laws.FnExactGapOf", spec := "fnExactGapOf", apart := false }
def FnExactGapOfSaid : Prop := fnExactGapOfRow.holds Try.pinned (OpenSpec.ofChange fnExactGapOfSpec)

/-- ITS FALSE NEIGHBOUR: 'it returns false'. Refute it at one input. -/
def fnExactGapOfWrong : ChangeSpec := { name := "fnExactGapOf", fn := fun _ => fun
  | [d1, d2, d3] => { results := [.lit (.bool false)], args := [d1, d2, d3] }
  | _ => none }
def FnExactGapOfWrongFalsely : Prop := fnExactGapOfRow.holds Try.pinned (OpenSpec.ofChange fnExactGapOfWrong)

/-- 'laws.FnExactIsWalk': WHATEVER THE INPUT: true; the input reads as it did. -/
def fnExactIsWalkSpec : ChangeSpec := { name := "fnExactIsWalk", fn := fun _ => fun
  | [d1, d2] => { results := [.lit (.bool true)], args := [d1, d2] }
  | _ => none }
def fnExactIsWalkRow : OpenClaim := { program := "ytebahfbegeoamaa", sum := "0eaf3b5694b95898509dee0133deeb818eebd68ca8136e0c2482af5f3c2dfbd9", func := "loop.example/g01148/laws.FnExactIsWalk", spec := "fnExactIsWalk", unfollowed := true, recurses := true, apart := false }
def FnExactIsWalkSaid : Prop := fnExactIsWalkRow.holds Try.pinned (OpenSpec.ofChange fnExactIsWalkSpec)

/-- ITS FALSE NEIGHBOUR: 'it returns false'. Refute it at one input. -/
def fnExactIsWalkWrong : ChangeSpec := { name := "fnExactIsWalk", fn := fun _ => fun
  | [d1, d2] => { results := [.lit (.bool false)], args := [d1, d2] }
  | _ => none }
def FnExactIsWalkWrongFalsely : Prop := fnExactIsWalkRow.holds Try.pinned (OpenSpec.ofChange fnExactIsWalkWrong)

/-- 'laws.FnExactPlaceAt': WHATEVER THE INPUT: true; the input reads as it did. -/
def fnExactPlaceAtSpec : ChangeSpec := { name := "fnExactPlaceAt", fn := fun _ => fun
  | [d1, d2, d3] => { results := [.lit (.bool true)], args := [d1, d2, d3] }
  | _ => none }
def fnExactPlaceAtRow : OpenClaim := { program := "ytebahfbegeoamaa", sum := "0eaf3b5694b95898509dee0133deeb818eebd68ca8136e0c2482af5f3c2dfbd9", func := "loop.example/g01148/laws.FnExactPlaceAt", spec := "fnExactPlaceAt", unfollowed := true, recurses := true, apart := false }
def FnExactPlaceAtSaid : Prop := fnExactPlaceAtRow.holds Try.pinned (OpenSpec.ofChange fnExactPlaceAtSpec)

/-- ITS FALSE NEIGHBOUR: 'it returns false'. Refute it at one input. -/
def fnExactPlaceAtWrong : ChangeSpec := { name := "fnExactPlaceAt", fn := fun _ => fun
  | [d1, d2, d3] => { results := [.lit (.bool false)], args := [d1, d2, d3] }
  | _ => none }
def FnExactPlaceAtWrongFalsely : Prop := fnExactPlaceAtRow.holds Try.pinned (OpenSpec.ofChange fnExactPlaceAtWrong)

/-- 'laws.FnExactFirstVisits': WHATEVER THE INPUT: true; the input reads as it did. -/
def fnExactFirstVisitsSpec : ChangeSpec := { name := "fnExactFirstVisits", fn := fun _ => fun
  | [d1, d2] => { results := [.lit (.bool true)], args := [d1, d2] }
  | _ => none }
def fnExactFirstVisitsRow : OpenClaim := { program := "ytebahfbegeoamaa", sum := "0eaf3b5694b95898509dee0133deeb818eebd68ca8136e0c2482af5f3c2dfbd9", func := "loop.example/g01148/laws.FnExactFirstVisits", spec := "fnExactFirstVisits", unfollowed := true, recurses := true, apart := false }
def FnExactFirstVisitsSaid : Prop := fnExactFirstVisitsRow.holds Try.pinned (OpenSpec.ofChange fnExactFirstVisitsSpec)

/-- ITS FALSE NEIGHBOUR: 'it returns false'. Refute it at one input. -/
def fnExactFirstVisitsWrong : ChangeSpec := { name := "fnExactFirstVisits", fn := fun _ => fun
  | [d1, d2] => { results := [.lit (.bool false)], args := [d1, d2] }
  | _ => none }
def FnExactFirstVisitsWrongFalsely : Prop := fnExactFirstVisitsRow.holds Try.pinned (OpenSpec.ofChange fnExactFirstVisitsWrong)

/-- 'laws.FnExactCoverTime': WHATEVER THE INPUT: true; the input reads as it did. -/
def fnExactCoverTimeSpec : ChangeSpec := { name := "fnExactCoverTime", fn := fun _ => fun
  | [d1, d2] => { results := [.lit (.bool true)], args := [d1, d2] }
  | _ => none }
def fnExactCoverTimeRow : OpenClaim := { program := "ytebahfbegeoamaa", sum := "0eaf3b5694b95898509dee0133deeb818eebd68ca8136e0c2482af5f3c2dfbd9", func := "loop.example/g01148/laws.FnExactCoverTime", spec := "fnExactCoverTime", unfollowed := true, recurses := true, apart := false }
def FnExactCoverTimeSaid : Prop := fnExactCoverTimeRow.holds Try.pinned (OpenSpec.ofChange fnExactCoverTimeSpec)

/-- ITS FALSE NEIGHBOUR: 'it returns false'. Refute it at one input. -/
def fnExactCoverTimeWrong : ChangeSpec := { name := "fnExactCoverTime", fn := fun _ => fun
  | [d1, d2] => { results := [.lit (.bool false)], args := [d1, d2] }
  | _ => none }
def FnExactCoverTimeWrongFalsely : Prop := fnExactCoverTimeRow.holds Try.pinned (OpenSpec.ofChange fnExactCoverTimeWrong)

/-- 'laws.FnExactStepCount': WHATEVER THE INPUT: true; the input reads as it did. -/
def fnExactStepCountSpec : ChangeSpec := { name := "fnExactStepCount", fn := fun _ => fun
  | [d1, d2] => { results := [.lit (.bool true)], args := [d1, d2] }
  | _ => none }
def fnExactStepCountRow : OpenClaim := { program := "ytebahfbegeoamaa", sum := "0eaf3b5694b95898509dee0133deeb818eebd68ca8136e0c2482af5f3c2dfbd9", func := "loop.example/g01148/laws.FnExactStepCount", spec := "fnExactStepCount", unfollowed := true, recurses := true, apart := false }
def FnExactStepCountSaid : Prop := fnExactStepCountRow.holds Try.pinned (OpenSpec.ofChange fnExactStepCountSpec)

/-- ITS FALSE NEIGHBOUR: 'it returns false'. Refute it at one input. -/
def fnExactStepCountWrong : ChangeSpec := { name := "fnExactStepCount", fn := fun _ => fun
  | [d1, d2] => { results := [.lit (.bool false)], args := [d1, d2] }
  | _ => none }
def FnExactStepCountWrongFalsely : Prop := fnExactStepCountRow.holds Try.pinned (OpenSpec.ofChange fnExactStepCountWrong)

/-- 'laws.FnExactTurnTimes': WHATEVER THE INPUT: true; the input reads as it did. -/
def fnExactTurnTimesSpec : ChangeSpec := { name := "fnExactTurnTimes", fn := fun _ => fun
  | [d1, d2] => { results := [.lit (.bool true)], args := [d1, d2] }
  | _ => none }
def fnExactTurnTimesRow : OpenClaim := { program := "ytebahfbegeoamaa", sum := "0eaf3b5694b95898509dee0133deeb818eebd68ca8136e0c2482af5f3c2dfbd9", func := "loop.example/g01148/laws.FnExactTurnTimes", spec := "fnExactTurnTimes", unfollowed := true, recurses := true, apart := false }
def FnExactTurnTimesSaid : Prop := fnExactTurnTimesRow.holds Try.pinned (OpenSpec.ofChange fnExactTurnTimesSpec)

/-- ITS FALSE NEIGHBOUR: 'it returns false'. Refute it at one input. -/
def fnExactTurnTimesWrong : ChangeSpec := { name := "fnExactTurnTimes", fn := fun _ => fun
  | [d1, d2] => { results := [.lit (.bool false)], args := [d1, d2] }
  | _ => none }
def FnExactTurnTimesWrongFalsely : Prop := fnExactTurnTimesRow.holds Try.pinned (OpenSpec.ofChange fnExactTurnTimesWrong)

/-- 'laws.FnExactMirrorWalk': WHATEVER THE INPUT: true; the input reads as it did. -/
def fnExactMirrorWalkSpec : ChangeSpec := { name := "fnExactMirrorWalk", fn := fun _ => fun
  | [d1, d2] => { results := [.lit (.bool true)], args := [d1, d2] }
  | _ => none }
def fnExactMirrorWalkRow : OpenClaim := { program := "ytebahfbegeoamaa", sum := "0eaf3b5694b95898509dee0133deeb818eebd68ca8136e0c2482af5f3c2dfbd9", func := "loop.example/g01148/laws.FnExactMirrorWalk", spec := "fnExactMirrorWalk", unfollowed := true, recurses := true, apart := false }
def FnExactMirrorWalkSaid : Prop := fnExactMirrorWalkRow.holds Try.pinned (OpenSpec.ofChange fnExactMirrorWalkSpec)

/-- ITS FALSE NEIGHBOUR: 'it returns false'. Refute it at one input. -/
def fnExactMirrorWalkWrong : ChangeSpec := { name := "fnExactMirrorWalk", fn := fun _ => fun
  | [d1, d2] => { results := [.lit (.bool false)], args := [d1, d2] }
  | _ => none }
def FnExactMirrorWalkWrongFalsely : Prop := fnExactMirrorWalkRow.holds Try.pinned (OpenSpec.ofChange fnExactMirrorWalkWrong)

/-- 'laws.FnExactShiftWalk': WHATEVER THE INPUT: true; the input reads as it did. -/
def fnExactShiftWalkSpec : ChangeSpec := { name := "fnExactShiftWalk", fn := fun _ => fun
  | [d1, d2, d3] => { results := [.lit (.bool true)], args := [d1, d2, d3] }
  | _ => none }
def fnExactShiftWalkRow : OpenClaim := { program := "ytebahfbegeoamaa", sum := "0eaf3b5694b95898509dee0133deeb818eebd68ca8136e0c2482af5f3c2dfbd9", func := "loop.example/g01148/laws.FnExactShiftWalk", spec := "fnExactShiftWalk", unfollowed := true, recurses := true, apart := false }
def FnExactShiftWalkSaid : Prop := fnExactShiftWalkRow.holds Try.pinned (OpenSpec.ofChange fnExactShiftWalkSpec)

/-- ITS FALSE NEIGHBOUR: 'it returns false'. Refute it at one input. -/
def fnExactShiftWalkWrong : ChangeSpec := { name := "fnExactShiftWalk", fn := fun _ => fun
  | [d1, d2, d3] => { results := [.lit (.bool false)], args := [d1, d2, d3] }
  | _ => none }
def FnExactShiftWalkWrongFalsely : Prop := fnExactShiftWalkRow.holds Try.pinned (OpenSpec.ofChange fnExactShiftWalkWrong)

/-- 'laws.FnExactBackWalk': WHATEVER THE INPUT: true; the input reads as it did. -/
def fnExactBackWalkSpec : ChangeSpec := { name := "fnExactBackWalk", fn := fun _ => fun
  | [d1, d2] => { results := [.lit (.bool true)], args := [d1, d2] }
  | _ => none }
def fnExactBackWalkRow : OpenClaim := { program := "ytebahfbegeoamaa", sum := "0eaf3b5694b95898509dee0133deeb818eebd68ca8136e0c2482af5f3c2dfbd9", func := "loop.example/g01148/laws.FnExactBackWalk", spec := "fnExactBackWalk", unfollowed := true, recurses := true, apart := false }
def FnExactBackWalkSaid : Prop := fnExactBackWalkRow.holds Try.pinned (OpenSpec.ofChange fnExactBackWalkSpec)

/-- ITS FALSE NEIGHBOUR: 'it returns false'. Refute it at one input. -/
def fnExactBackWalkWrong : ChangeSpec := { name := "fnExactBackWalk", fn := fun _ => fun
  | [d1, d2] => { results := [.lit (.bool false)], args := [d1, d2] }
  | _ => none }
def FnExactBackWalkWrongFalsely : Prop := fnExactBackWalkRow.holds Try.pinned (OpenSpec.ofChange fnExactBackWalkWrong)

/-- 'laws.FnWalks': WHATEVER THE INPUT: true; the input reads as it did. -/
def fnWalksSpec : ChangeSpec := { name := "fnWalks", fn := fun _ => fun
  | [d] => { results := [.lit (.bool true)], args := [d] }
  | _ => none }
def fnWalksRow : OpenClaim := { program := "ytebahfbegeoamaa", sum := "0eaf3b5694b95898509dee0133deeb818eebd68ca8136e0c2482af5f3c2dfbd9", func := "loop.example/g01148/laws.FnWalks", spec := "fnWalks", unfollowed := true, recurses := true, apart := false }
def FnWalksSaid : Prop := fnWalksRow.holds Try.pinned (OpenSpec.ofChange fnWalksSpec)

/-- ITS FALSE NEIGHBOUR: 'it returns false'. Refute it at one input. -/
def fnWalksWrong : ChangeSpec := { name := "fnWalks", fn := fun _ => fun
  | [d] => { results := [.lit (.bool false)], args := [d] }
  | _ => none }
def FnWalksWrongFalsely : Prop := fnWalksRow.holds Try.pinned (OpenSpec.ofChange fnWalksWrong)

/- THE SECOND FORM. 'bulk': how many values and letters a reading holds, each counted each time it is reached (what is shared counts as often as it is met; a slice's spare places count too). A statement '..UptoSaid' is the law's where the arguments, and the package variables that the reading takes, are together of bulk at most 1048576: NARROWER than '..Said'. Prove '..Said' where nothing that the law and all that it calls make is longer than what came in: it says more and counts as full. Else prove '..UptoSaid'. A law counts once. -/
mutual
def uptoBulk {H : Type} : DataW H → Nat
  | .lit (.string bytes) => bytes.length + 1
  | .lit _ => 1
  | .nil => 1
  | .ptr d => uptoBulk d + 1
  | .slice elems spare => uptoBulkAll elems + uptoBulkAll spare + 1
  | .agg parts => uptoBulkAll parts + 1
  | .iface _ d => uptoBulk d + 1
  | .map entries => uptoBulkEntries entries + 1
  | .held _ => 1
def uptoBulkAll {H : Type} : List (DataW H) → Nat
  | [] => 0
  | d :: r => uptoBulk d + uptoBulkAll r
def uptoBulkEntries {H : Type} : List (Lit × DataW H) → Nat
  | [] => 0
  | x :: r => uptoBulkEntry x + uptoBulkEntries r
def uptoBulkEntry {H : Type} : Lit × DataW H → Nat
  | (.string bytes, d) => bytes.length + uptoBulk d + 1
  | (_, d) => uptoBulk d + 1
 end
def uptoSmall : (H : Type) → List (DataW H) → Bool := fun _ ds => decide (uptoBulkAll ds ≤ 1048576)
def OpenSpec.upto (s : _root_.Go.ChangeSpec) : _root_.Go.OpenSpec := { _root_.Go.OpenSpec.ofChange s with cond := some uptoSmall }

/-- 'laws.FnExactIsRoad', WHERE WHAT IT READS IS OF BULK AT MOST 1048576: true; the input reads as it did. -/
def fnExactIsRoadUptoRow : OpenClaim := { program := "ytebahfbegeoamaa", sum := "0eaf3b5694b95898509dee0133deeb818eebd68ca8136e0c2482af5f3c2dfbd9", func := "loop.example/g01148/laws.FnExactIsRoad", spec := "fnExactIsRoad", apart := false, narrowed := true }
def FnExactIsRoadUptoSaid : Prop := fnExactIsRoadUptoRow.holds Try.pinned (OpenSpec.upto fnExactIsRoadSpec)

/-- 'laws.FnExactNeighborsOn', WHERE WHAT IT READS IS OF BULK AT MOST 1048576: true; the input reads as it did. -/
def fnExactNeighborsOnUptoRow : OpenClaim := { program := "ytebahfbegeoamaa", sum := "0eaf3b5694b95898509dee0133deeb818eebd68ca8136e0c2482af5f3c2dfbd9", func := "loop.example/g01148/laws.FnExactNeighborsOn", spec := "fnExactNeighborsOn", unfollowed := true, recurses := true, apart := false, narrowed := true }
def FnExactNeighborsOnUptoSaid : Prop := fnExactNeighborsOnUptoRow.holds Try.pinned (OpenSpec.upto fnExactNeighborsOnSpec)

/-- 'laws.FnExactGapOf', WHERE WHAT IT READS IS OF BULK AT MOST 1048576: true; the input reads as it did. -/
def fnExactGapOfUptoRow : OpenClaim := { program := "ytebahfbegeoamaa", sum := "0eaf3b5694b95898509dee0133deeb818eebd68ca8136e0c2482af5f3c2dfbd9", func := "loop.example/g01148/laws.FnExactGapOf", spec := "fnExactGapOf", apart := false, narrowed := true }
def FnExactGapOfUptoSaid : Prop := fnExactGapOfUptoRow.holds Try.pinned (OpenSpec.upto fnExactGapOfSpec)

/-- 'laws.FnExactIsWalk', WHERE WHAT IT READS IS OF BULK AT MOST 1048576: true; the input reads as it did. -/
def fnExactIsWalkUptoRow : OpenClaim := { program := "ytebahfbegeoamaa", sum := "0eaf3b5694b95898509dee0133deeb818eebd68ca8136e0c2482af5f3c2dfbd9", func := "loop.example/g01148/laws.FnExactIsWalk", spec := "fnExactIsWalk", unfollowed := true, recurses := true, apart := false, narrowed := true }
def FnExactIsWalkUptoSaid : Prop := fnExactIsWalkUptoRow.holds Try.pinned (OpenSpec.upto fnExactIsWalkSpec)

/-- 'laws.FnExactPlaceAt', WHERE WHAT IT READS IS OF BULK AT MOST 1048576: true; the input reads as it did. -/
def fnExactPlaceAtUptoRow : OpenClaim := { program := "ytebahfbegeoamaa", sum := "0eaf3b5694b95898509dee0133deeb818eebd68ca8136e0c2482af5f3c2dfbd9", func := "loop.example/g01148/laws.FnExactPlaceAt", spec := "fnExactPlaceAt", unfollowed := true, recurses := true, apart := false, narrowed := true }
def FnExactPlaceAtUptoSaid : Prop := fnExactPlaceAtUptoRow.holds Try.pinned (OpenSpec.upto fnExactPlaceAtSpec)

/-- 'laws.FnExactFirstVisits', WHERE WHAT IT READS IS OF BULK AT MOST 1048576: true; the input reads as it did. -/
def fnExactFirstVisitsUptoRow : OpenClaim := { program := "ytebahfbegeoamaa", sum := "0eaf3b5694b95898509dee0133deeb818eebd68ca8136e0c2482af5f3c2dfbd9", func := "loop.example/g01148/laws.FnExactFirstVisits", spec := "fnExactFirstVisits", unfollowed := true, recurses := true, apart := false, narrowed := true }
def FnExactFirstVisitsUptoSaid : Prop := fnExactFirstVisitsUptoRow.holds Try.pinned (OpenSpec.upto fnExactFirstVisitsSpec)

/-- 'laws.FnExactCoverTime', WHERE WHAT IT READS IS OF BULK AT MOST 1048576: true; the input reads as it did. -/
def fnExactCoverTimeUptoRow : OpenClaim := { program := "ytebahfbegeoamaa", sum := "0eaf3b5694b95898509dee0133deeb818eebd68ca8136e0c2482af5f3c2dfbd9", func := "loop.example/g01148/laws.FnExactCoverTime", spec := "fnExactCoverTime", unfollowed := true, recurses := true, apart := false, narrowed := true }
def FnExactCoverTimeUptoSaid : Prop := fnExactCoverTimeUptoRow.holds Try.pinned (OpenSpec.upto fnExactCoverTimeSpec)

/-- 'laws.FnExactStepCount', WHERE WHAT IT READS IS OF BULK AT MOST 1048576: true; the input reads as it did. -/
def fnExactStepCountUptoRow : OpenClaim := { program := "ytebahfbegeoamaa", sum := "0eaf3b5694b95898509dee0133deeb818eebd68ca8136e0c2482af5f3c2dfbd9", func := "loop.example/g01148/laws.FnExactStepCount", spec := "fnExactStepCount", unfollowed := true, recurses := true, apart := false, narrowed := true }
def FnExactStepCountUptoSaid : Prop := fnExactStepCountUptoRow.holds Try.pinned (OpenSpec.upto fnExactStepCountSpec)

/-- 'laws.FnExactTurnTimes', WHERE WHAT IT READS IS OF BULK AT MOST 1048576: true; the input reads as it did. -/
def fnExactTurnTimesUptoRow : OpenClaim := { program := "ytebahfbegeoamaa", sum := "0eaf3b5694b95898509dee0133deeb818eebd68ca8136e0c2482af5f3c2dfbd9", func := "loop.example/g01148/laws.FnExactTurnTimes", spec := "fnExactTurnTimes", unfollowed := true, recurses := true, apart := false, narrowed := true }
def FnExactTurnTimesUptoSaid : Prop := fnExactTurnTimesUptoRow.holds Try.pinned (OpenSpec.upto fnExactTurnTimesSpec)

/-- 'laws.FnExactMirrorWalk', WHERE WHAT IT READS IS OF BULK AT MOST 1048576: true; the input reads as it did. -/
def fnExactMirrorWalkUptoRow : OpenClaim := { program := "ytebahfbegeoamaa", sum := "0eaf3b5694b95898509dee0133deeb818eebd68ca8136e0c2482af5f3c2dfbd9", func := "loop.example/g01148/laws.FnExactMirrorWalk", spec := "fnExactMirrorWalk", unfollowed := true, recurses := true, apart := false, narrowed := true }
def FnExactMirrorWalkUptoSaid : Prop := fnExactMirrorWalkUptoRow.holds Try.pinned (OpenSpec.upto fnExactMirrorWalkSpec)

/-- 'laws.FnExactShiftWalk', WHERE WHAT IT READS IS OF BULK AT MOST 1048576: true; the input reads as it did. -/
def fnExactShiftWalkUptoRow : OpenClaim := { program := "ytebahfbegeoamaa", sum := "0eaf3b5694b95898509dee0133deeb818eebd68ca8136e0c2482af5f3c2dfbd9", func := "loop.example/g01148/laws.FnExactShiftWalk", spec := "fnExactShiftWalk", unfollowed := true, recurses := true, apart := false, narrowed := true }
def FnExactShiftWalkUptoSaid : Prop := fnExactShiftWalkUptoRow.holds Try.pinned (OpenSpec.upto fnExactShiftWalkSpec)

/-- 'laws.FnExactBackWalk', WHERE WHAT IT READS IS OF BULK AT MOST 1048576: true; the input reads as it did. -/
def fnExactBackWalkUptoRow : OpenClaim := { program := "ytebahfbegeoamaa", sum := "0eaf3b5694b95898509dee0133deeb818eebd68ca8136e0c2482af5f3c2dfbd9", func := "loop.example/g01148/laws.FnExactBackWalk", spec := "fnExactBackWalk", unfollowed := true, recurses := true, apart := false, narrowed := true }
def FnExactBackWalkUptoSaid : Prop := fnExactBackWalkUptoRow.holds Try.pinned (OpenSpec.upto fnExactBackWalkSpec)

/-- 'laws.FnWalks', WHERE WHAT IT READS IS OF BULK AT MOST 1048576: true; the input reads as it did. -/
def fnWalksUptoRow : OpenClaim := { program := "ytebahfbegeoamaa", sum := "0eaf3b5694b95898509dee0133deeb818eebd68ca8136e0c2482af5f3c2dfbd9", func := "loop.example/g01148/laws.FnWalks", spec := "fnWalks", unfollowed := true, recurses := true, apart := false, narrowed := true }
def FnWalksUptoSaid : Prop := fnWalksUptoRow.holds Try.pinned (OpenSpec.upto fnWalksSpec)

end Rows
end Go.Proofs.Ytebahfbegeoamaa
