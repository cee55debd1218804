/-
  No cell of these rows narrows 'for every input' (looked for: loops, veiled, ifaces, maps, wideKeys, modest, calm, conditions, laid).
  DERIVED. THE GIVEN ROWS OF THIS SEAT. 9 by the template 'for every input the law returns true; each argument reads behind the call as it read before'; 0 by the template 'total and deterministic' (their statements: YtebahfbegeoamabTotals.lean).
  GIVEN WITH THE SEED: the statements are not yours to turn. If you find one false, say at which input.
  Laid BY PROGRAM, IN A SANDBOX (cutbox-rows.mjs): the forced cells as the released guide's own fill.sh prints them over the translation 8ec5b2064d5bd516… (all of the seat's roots in one cut). By AI agents, Wed Nov 11 2026. No macro, syntax, notation, axiom, sorry.
-/
import Derived.Test.YtebahfbegeoamabChecked
import GoSem.Claim
import GoSem.ClaimJoined
import GoSem.ClaimMapViews
import Derived.JoinedTies
import Derived.KernelRfl
namespace Go.Proofs.Ytebahfbegeoamab
/- THE CELL 'sum', in the pinned program and in every row, IS THE sha256 OF THE DUMP (.gsa) THAT YtebahfbegeoamabProg.lean LOADS. Nothing in Lean hashes anything: it is a label: what it is worth is what the hold of that sum in a sandbox is worth. -/
noncomputable def Try.pinned : Pinned := { name := "ytebahfbegeoamab", sum := "8ec5b2064d5bd516ca76a790bf170432c33fa5506ecc6dea68ca2a3d62556ee8", checked := Try.checked }
namespace Rows
def none {H : Type} : Left H := { results := [], args := [] }

/-- 'laws.FnExactJoinWalks': WHATEVER THE INPUT: true; the input reads as it did. -/
def fnExactJoinWalksSpec : ChangeSpec := { name := "fnExactJoinWalks", fn := fun _ => fun
  | [d1, d2, d3] => { results := [.lit (.bool true)], args := [d1, d2, d3] }
  | _ => none }
def fnExactJoinWalksRow : OpenClaim := { program := "ytebahfbegeoamab", sum := "8ec5b2064d5bd516ca76a790bf170432c33fa5506ecc6dea68ca2a3d62556ee8", func := "loop.example/g01148/laws.FnExactJoinWalks", spec := "fnExactJoinWalks", unfollowed := true, recurses := true, apart := false }
def FnExactJoinWalksSaid : Prop := fnExactJoinWalksRow.holds Try.pinned (OpenSpec.ofChange fnExactJoinWalksSpec)

/-- ITS FALSE NEIGHBOUR: 'it returns false'. Refute it at one input. -/
def fnExactJoinWalksWrong : ChangeSpec := { name := "fnExactJoinWalks", fn := fun _ => fun
  | [d1, d2, d3] => { results := [.lit (.bool false)], args := [d1, d2, d3] }
  | _ => none }
def FnExactJoinWalksWrongFalsely : Prop := fnExactJoinWalksRow.holds Try.pinned (OpenSpec.ofChange fnExactJoinWalksWrong)

/-- 'laws.FnExactWaitWalk': WHATEVER THE INPUT: true; the input reads as it did. -/
def fnExactWaitWalkSpec : ChangeSpec := { name := "fnExactWaitWalk", fn := fun _ => fun
  | [d1, d2, d3, d4] => { results := [.lit (.bool true)], args := [d1, d2, d3, d4] }
  | _ => none }
def fnExactWaitWalkRow : OpenClaim := { program := "ytebahfbegeoamab", sum := "8ec5b2064d5bd516ca76a790bf170432c33fa5506ecc6dea68ca2a3d62556ee8", func := "loop.example/g01148/laws.FnExactWaitWalk", spec := "fnExactWaitWalk", unfollowed := true, recurses := true, apart := false }
def FnExactWaitWalkSaid : Prop := fnExactWaitWalkRow.holds Try.pinned (OpenSpec.ofChange fnExactWaitWalkSpec)

/-- ITS FALSE NEIGHBOUR: 'it returns false'. Refute it at one input. -/
def fnExactWaitWalkWrong : ChangeSpec := { name := "fnExactWaitWalk", fn := fun _ => fun
  | [d1, d2, d3, d4] => { results := [.lit (.bool false)], args := [d1, d2, d3, d4] }
  | _ => none }
def FnExactWaitWalkWrongFalsely : Prop := fnExactWaitWalkRow.holds Try.pinned (OpenSpec.ofChange fnExactWaitWalkWrong)

/-- 'laws.FnExactStraightWalk': WHATEVER THE INPUT: true; the input reads as it did. -/
def fnExactStraightWalkSpec : ChangeSpec := { name := "fnExactStraightWalk", fn := fun _ => fun
  | [d1, d2, d3] => { results := [.lit (.bool true)], args := [d1, d2, d3] }
  | _ => none }
def fnExactStraightWalkRow : OpenClaim := { program := "ytebahfbegeoamab", sum := "8ec5b2064d5bd516ca76a790bf170432c33fa5506ecc6dea68ca2a3d62556ee8", func := "loop.example/g01148/laws.FnExactStraightWalk", spec := "fnExactStraightWalk", unfollowed := true, recurses := true, apart := false }
def FnExactStraightWalkSaid : Prop := fnExactStraightWalkRow.holds Try.pinned (OpenSpec.ofChange fnExactStraightWalkSpec)

/-- ITS FALSE NEIGHBOUR: 'it returns false'. Refute it at one input. -/
def fnExactStraightWalkWrong : ChangeSpec := { name := "fnExactStraightWalk", fn := fun _ => fun
  | [d1, d2, d3] => { results := [.lit (.bool false)], args := [d1, d2, d3] }
  | _ => none }
def FnExactStraightWalkWrongFalsely : Prop := fnExactStraightWalkRow.holds Try.pinned (OpenSpec.ofChange fnExactStraightWalkWrong)

/-- 'laws.FnExactSweepWalk': WHATEVER THE INPUT: true; the input reads as it did. -/
def fnExactSweepWalkSpec : ChangeSpec := { name := "fnExactSweepWalk", fn := fun _ => fun
  | [d1, d2] => { results := [.lit (.bool true)], args := [d1, d2] }
  | _ => none }
def fnExactSweepWalkRow : OpenClaim := { program := "ytebahfbegeoamab", sum := "8ec5b2064d5bd516ca76a790bf170432c33fa5506ecc6dea68ca2a3d62556ee8", func := "loop.example/g01148/laws.FnExactSweepWalk", spec := "fnExactSweepWalk", unfollowed := true, recurses := true, apart := false }
def FnExactSweepWalkSaid : Prop := fnExactSweepWalkRow.holds Try.pinned (OpenSpec.ofChange fnExactSweepWalkSpec)

/-- ITS FALSE NEIGHBOUR: 'it returns false'. Refute it at one input. -/
def fnExactSweepWalkWrong : ChangeSpec := { name := "fnExactSweepWalk", fn := fun _ => fun
  | [d1, d2] => { results := [.lit (.bool false)], args := [d1, d2] }
  | _ => none }
def FnExactSweepWalkWrongFalsely : Prop := fnExactSweepWalkRow.holds Try.pinned (OpenSpec.ofChange fnExactSweepWalkWrong)

/-- 'laws.FnExactTourTime': WHATEVER THE INPUT: true; the input reads as it did. -/
def fnExactTourTimeSpec : ChangeSpec := { name := "fnExactTourTime", fn := fun _ => fun
  | [d1, d2, d3] => { results := [.lit (.bool true)], args := [d1, d2, d3] }
  | _ => none }
def fnExactTourTimeRow : OpenClaim := { program := "ytebahfbegeoamab", sum := "8ec5b2064d5bd516ca76a790bf170432c33fa5506ecc6dea68ca2a3d62556ee8", func := "loop.example/g01148/laws.FnExactTourTime", spec := "fnExactTourTime", apart := false }
def FnExactTourTimeSaid : Prop := fnExactTourTimeRow.holds Try.pinned (OpenSpec.ofChange fnExactTourTimeSpec)

/-- ITS FALSE NEIGHBOUR: 'it returns false'. Refute it at one input. -/
def fnExactTourTimeWrong : ChangeSpec := { name := "fnExactTourTime", fn := fun _ => fun
  | [d1, d2, d3] => { results := [.lit (.bool false)], args := [d1, d2, d3] }
  | _ => none }
def FnExactTourTimeWrongFalsely : Prop := fnExactTourTimeRow.holds Try.pinned (OpenSpec.ofChange fnExactTourTimeWrong)

/-- 'laws.FnExactMeetTimes': WHATEVER THE INPUT: true; the input reads as it did. -/
def fnExactMeetTimesSpec : ChangeSpec := { name := "fnExactMeetTimes", fn := fun _ => fun
  | [d1, d2, d3] => { results := [.lit (.bool true)], args := [d1, d2, d3] }
  | _ => none }
def fnExactMeetTimesRow : OpenClaim := { program := "ytebahfbegeoamab", sum := "8ec5b2064d5bd516ca76a790bf170432c33fa5506ecc6dea68ca2a3d62556ee8", func := "loop.example/g01148/laws.FnExactMeetTimes", spec := "fnExactMeetTimes", unfollowed := true, recurses := true, apart := false }
def FnExactMeetTimesSaid : Prop := fnExactMeetTimesRow.holds Try.pinned (OpenSpec.ofChange fnExactMeetTimesSpec)

/-- ITS FALSE NEIGHBOUR: 'it returns false'. Refute it at one input. -/
def fnExactMeetTimesWrong : ChangeSpec := { name := "fnExactMeetTimes", fn := fun _ => fun
  | [d1, d2, d3] => { results := [.lit (.bool false)], args := [d1, d2, d3] }
  | _ => none }
def FnExactMeetTimesWrongFalsely : Prop := fnExactMeetTimesRow.holds Try.pinned (OpenSpec.ofChange fnExactMeetTimesWrong)

/-- 'laws.FnExactPassTimes': WHATEVER THE INPUT: true; the input reads as it did. -/
def fnExactPassTimesSpec : ChangeSpec := { name := "fnExactPassTimes", fn := fun _ => fun
  | [d1, d2, d3] => { results := [.lit (.bool true)], args := [d1, d2, d3] }
  | _ => none }
def fnExactPassTimesRow : OpenClaim := { program := "ytebahfbegeoamab", sum := "8ec5b2064d5bd516ca76a790bf170432c33fa5506ecc6dea68ca2a3d62556ee8", func := "loop.example/g01148/laws.FnExactPassTimes", spec := "fnExactPassTimes", unfollowed := true, recurses := true, apart := false }
def FnExactPassTimesSaid : Prop := fnExactPassTimesRow.holds Try.pinned (OpenSpec.ofChange fnExactPassTimesSpec)

/-- ITS FALSE NEIGHBOUR: 'it returns false'. Refute it at one input. -/
def fnExactPassTimesWrong : ChangeSpec := { name := "fnExactPassTimes", fn := fun _ => fun
  | [d1, d2, d3] => { results := [.lit (.bool false)], args := [d1, d2, d3] }
  | _ => none }
def FnExactPassTimesWrongFalsely : Prop := fnExactPassTimesRow.holds Try.pinned (OpenSpec.ofChange fnExactPassTimesWrong)

/-- 'laws.FnGaps': WHATEVER THE INPUT: true; the input reads as it did. -/
def fnGapsSpec : ChangeSpec := { name := "fnGaps", fn := fun _ => fun
  | [d] => { results := [.lit (.bool true)], args := [d] }
  | _ => none }
def fnGapsRow : OpenClaim := { program := "ytebahfbegeoamab", sum := "8ec5b2064d5bd516ca76a790bf170432c33fa5506ecc6dea68ca2a3d62556ee8", func := "loop.example/g01148/laws.FnGaps", spec := "fnGaps", unfollowed := true, recurses := true, apart := false }
def FnGapsSaid : Prop := fnGapsRow.holds Try.pinned (OpenSpec.ofChange fnGapsSpec)

/-- ITS FALSE NEIGHBOUR: 'it returns false'. Refute it at one input. -/
def fnGapsWrong : ChangeSpec := { name := "fnGaps", fn := fun _ => fun
  | [d] => { results := [.lit (.bool false)], args := [d] }
  | _ => none }
def FnGapsWrongFalsely : Prop := fnGapsRow.holds Try.pinned (OpenSpec.ofChange fnGapsWrong)

/-- 'laws.FnTours': WHATEVER THE INPUT: true; the input reads as it did. -/
def fnToursSpec : ChangeSpec := { name := "fnTours", fn := fun _ => fun
  | [d] => { results := [.lit (.bool true)], args := [d] }
  | _ => none }
def fnToursRow : OpenClaim := { program := "ytebahfbegeoamab", sum := "8ec5b2064d5bd516ca76a790bf170432c33fa5506ecc6dea68ca2a3d62556ee8", func := "loop.example/g01148/laws.FnTours", spec := "fnTours", unfollowed := true, recurses := true, apart := false }
def FnToursSaid : Prop := fnToursRow.holds Try.pinned (OpenSpec.ofChange fnToursSpec)

/-- ITS FALSE NEIGHBOUR: 'it returns false'. Refute it at one input. -/
def fnToursWrong : ChangeSpec := { name := "fnTours", fn := fun _ => fun
  | [d] => { results := [.lit (.bool false)], args := [d] }
  | _ => none }
def FnToursWrongFalsely : Prop := fnToursRow.holds Try.pinned (OpenSpec.ofChange fnToursWrong)

/- THE SECOND FORM. 'bulk': how many values and letters a reading holds, each counted each time it is reached (what is shared counts as often as it is met; a slice's spare places count too). A statement '..UptoSaid' is the law's where the arguments, and the package variables that the reading takes, are together of bulk at most 1048576: NARROWER than '..Said'. Prove '..Said' where nothing that the law and all that it calls make is longer than what came in: it says more and counts as full. Else prove '..UptoSaid'. A law counts once. -/
mutual
def uptoBulk {H : Type} : DataW H → Nat
  | .lit (.string bytes) => bytes.length + 1
  | .lit _ => 1
  | .nil => 1
  | .ptr d => uptoBulk d + 1
  | .slice elems spare => uptoBulkAll elems + uptoBulkAll spare + 1
  | .agg parts => uptoBulkAll parts + 1
  | .iface _ d => uptoBulk d + 1
  | .map entries => uptoBulkEntries entries + 1
  | .held _ => 1
def uptoBulkAll {H : Type} : List (DataW H) → Nat
  | [] => 0
  | d :: r => uptoBulk d + uptoBulkAll r
def uptoBulkEntries {H : Type} : List (Lit × DataW H) → Nat
  | [] => 0
  | x :: r => uptoBulkEntry x + uptoBulkEntries r
def uptoBulkEntry {H : Type} : Lit × DataW H → Nat
  | (.string bytes, d) => bytes.length + uptoBulk d + 1
  | (_, d) => uptoBulk d + 1
 end
def uptoSmall : (H : Type) → List (DataW H) → Bool := fun _ ds => decide (uptoBulkAll ds ≤ 1048576)
def OpenSpec.upto (s : _root_.Go.ChangeSpec) : _root_.Go.OpenSpec := { _root_.Go.OpenSpec.ofChange s with cond := some uptoSmall }

/-- 'laws.FnExactJoinWalks', WHERE WHAT IT READS IS OF BULK AT MOST 1048576: true; the input reads as it did. -/
def fnExactJoinWalksUptoRow : OpenClaim := { program := "ytebahfbegeoamab", sum := "8ec5b2064d5bd516ca76a790bf170432c33fa5506ecc6dea68ca2a3d62556ee8", func := "loop.example/g01148/laws.FnExactJoinWalks", spec := "fnExactJoinWalks", unfollowed := true, recurses := true, apart := false, narrowed := true }
def FnExactJoinWalksUptoSaid : Prop := fnExactJoinWalksUptoRow.holds Try.pinned (OpenSpec.upto fnExactJoinWalksSpec)

/-- 'laws.FnExactWaitWalk', WHERE WHAT IT READS IS OF BULK AT MOST 1048576: true; the input reads as it did. -/
def fnExactWaitWalkUptoRow : OpenClaim := { program := "ytebahfbegeoamab", sum := "8ec5b2064d5bd516ca76a790bf170432c33fa5506ecc6dea68ca2a3d62556ee8", func := "loop.example/g01148/laws.FnExactWaitWalk", spec := "fnExactWaitWalk", unfollowed := true, recurses := true, apart := false, narrowed := true }
def FnExactWaitWalkUptoSaid : Prop := fnExactWaitWalkUptoRow.holds Try.pinned (OpenSpec.upto fnExactWaitWalkSpec)

/-- 'laws.FnExactStraightWalk', WHERE WHAT IT READS IS OF BULK AT MOST 1048576: true; the input reads as it did. -/
def fnExactStraightWalkUptoRow : OpenClaim := { program := "ytebahfbegeoamab", sum := "8ec5b2064d5bd516ca76a790bf170432c33fa5506ecc6dea68ca2a3d62556ee8", func := "loop.example/g01148/laws.FnExactStraightWalk", spec := "fnExactStraightWalk", unfollowed := true, recurses := true, apart := false, narrowed := true }
def FnExactStraightWalkUptoSaid : Prop := fnExactStraightWalkUptoRow.holds Try.pinned (OpenSpec.upto fnExactStraightWalkSpec)

/-- 'laws.FnExactSweepWalk', WHERE WHAT IT READS IS OF BULK AT MOST 1048576: true; the input reads as it did. -/
def fnExactSweepWalkUptoRow : OpenClaim := { program := "ytebahfbegeoamab", sum := "8ec5b2064d5bd516ca76a790bf170432c33fa5506ecc6dea68ca2a3d62556ee8", func := "loop.example/g01148/laws.FnExactSweepWalk", spec := "fnExactSweepWalk", unfollowed := true, recurses := true, apart := false, narrowed := true }
def FnExactSweepWalkUptoSaid : Prop := fnExactSweepWalkUptoRow.holds Try.pinned (OpenSpec.upto fnExactSweepWalkSpec)

/-- 'laws.FnExactTourTime', WHERE WHAT IT READS IS OF BULK AT MOST 1048576: true; the input reads as it did. -/
def fnExactTourTimeUptoRow : OpenClaim := { program := "ytebahfbegeoamab", sum := "8ec5b2064d5bd516ca76a790bf170432c33fa5506ecc6dea68ca2a3d62556ee8", func := "loop.example/g01148/laws.FnExactTourTime", spec := "fnExactTourTime", apart := false, narrowed := true }
def FnExactTourTimeUptoSaid : Prop := fnExactTourTimeUptoRow.holds Try.pinned (OpenSpec.upto fnExactTourTimeSpec)

/-- 'laws.FnExactMeetTimes', WHERE WHAT IT READS IS OF BULK AT MOST 1048576: true; the input reads as it did. -/
def fnExactMeetTimesUptoRow : OpenClaim := { program := "ytebahfbegeoamab", sum := "8ec5b2064d5bd516ca76a790bf170432c33fa5506ecc6dea68ca2a3d62556ee8", func := "loop.example/g01148/laws.FnExactMeetTimes", spec := "fnExactMeetTimes", unfollowed := true, recurses := true, apart := false, narrowed := true }
def FnExactMeetTimesUptoSaid : Prop := fnExactMeetTimesUptoRow.holds Try.pinned (OpenSpec.upto fnExactMeetTimesSpec)

/-- 'laws.FnExactPassTimes', WHERE WHAT IT READS IS OF BULK AT MOST 1048576: true; the input reads as it did. -/
def fnExactPassTimesUptoRow : OpenClaim := { program := "ytebahfbegeoamab", sum := "8ec5b2064d5bd516ca76a790bf170432c33fa5506ecc6dea68ca2a3d62556ee8", func := "loop.example/g01148/laws.FnExactPassTimes", spec := "fnExactPassTimes", unfollowed := true, recurses := true, apart := false, narrowed := true }
def FnExactPassTimesUptoSaid : Prop := fnExactPassTimesUptoRow.holds Try.pinned (OpenSpec.upto fnExactPassTimesSpec)

/-- 'laws.FnGaps', WHERE WHAT IT READS IS OF BULK AT MOST 1048576: true; the input reads as it did. -/
def fnGapsUptoRow : OpenClaim := { program := "ytebahfbegeoamab", sum := "8ec5b2064d5bd516ca76a790bf170432c33fa5506ecc6dea68ca2a3d62556ee8", func := "loop.example/g01148/laws.FnGaps", spec := "fnGaps", unfollowed := true, recurses := true, apart := false, narrowed := true }
def FnGapsUptoSaid : Prop := fnGapsUptoRow.holds Try.pinned (OpenSpec.upto fnGapsSpec)

/-- 'laws.FnTours', WHERE WHAT IT READS IS OF BULK AT MOST 1048576: true; the input reads as it did. -/
def fnToursUptoRow : OpenClaim := { program := "ytebahfbegeoamab", sum := "8ec5b2064d5bd516ca76a790bf170432c33fa5506ecc6dea68ca2a3d62556ee8", func := "loop.example/g01148/laws.FnTours", spec := "fnTours", unfollowed := true, recurses := true, apart := false, narrowed := true }
def FnToursUptoSaid : Prop := fnToursUptoRow.holds Try.pinned (OpenSpec.upto fnToursSpec)

end Rows
end Go.Proofs.Ytebahfbegeoamab
