/-
  No cell of these rows narrows 'for every input' (looked for: loops, veiled, ifaces, maps, wideKeys, modest, calm, conditions, laid).
  DERIVED. THE GIVEN ROWS OF THIS SEAT. 12 by the template 'for every input the law returns true; each argument reads behind the call as it read before'; 0 by the template 'total and deterministic' (their statements: YtefjignlhlpndaaTotals.lean).
  GIVEN WITH THE SEED: the statements are not yours to turn. If you find one false, say at which input.
  Laid BY PROGRAM, IN A SANDBOX (cutbox-rows.mjs): the forced cells as the released guide's own fill.sh prints them over the translation fe0b0832cf7c6b34… (all of the seat's roots in one cut). By AI agents, Wed Nov 11 2026. No macro, syntax, notation, axiom, sorry.
-/
import Derived.Test.YtefjignlhlpndaaChecked
import GoSem.Claim
import GoSem.ClaimJoined
import GoSem.ClaimMapViews
import Derived.JoinedTies
import Derived.KernelRfl
namespace Go.Proofs.Ytefjignlhlpndaa
/- THE CELL 'sum', in the pinned program and in every row, IS THE sha256 OF THE DUMP (.gsa) THAT YtefjignlhlpndaaProg.lean LOADS. Nothing in Lean hashes anything: it is a label: what it is worth is what the hold of that sum in a sandbox is worth. -/
noncomputable def Try.pinned : Pinned := { name := "ytefjignlhlpndaa", sum := "fe0b0832cf7c6b34f6ca216fb0e2270cfd3d3a6d28764e0ee11de6394a3ca2c0", checked := Try.checked }
namespace Rows
def none {H : Type} : Left H := { results := [], args := [] }

/-- 'laws.FnExactIsPatrol': WHATEVER THE INPUT: true; the input reads as it did. -/
def fnExactIsPatrolSpec : ChangeSpec := { name := "fnExactIsPatrol", fn := fun _ => fun
  | [d1, d2] => { results := [.lit (.bool true)], args := [d1, d2] }
  | _ => none }
def fnExactIsPatrolRow : OpenClaim := { program := "ytefjignlhlpndaa", sum := "fe0b0832cf7c6b34f6ca216fb0e2270cfd3d3a6d28764e0ee11de6394a3ca2c0", func := "loop.example/g01148/laws.FnExactIsPatrol", spec := "fnExactIsPatrol", unfollowed := true, recurses := true, plainKeys := false, apart := false }
def FnExactIsPatrolSaid : Prop := fnExactIsPatrolRow.holds Try.pinned (OpenSpec.ofChange fnExactIsPatrolSpec)

/-- ITS FALSE NEIGHBOUR: 'it returns false'. Refute it at one input. -/
def fnExactIsPatrolWrong : ChangeSpec := { name := "fnExactIsPatrol", fn := fun _ => fun
  | [d1, d2] => { results := [.lit (.bool false)], args := [d1, d2] }
  | _ => none }
def FnExactIsPatrolWrongFalsely : Prop := fnExactIsPatrolRow.holds Try.pinned (OpenSpec.ofChange fnExactIsPatrolWrong)

/-- 'laws.FnExactPauseBound': WHATEVER THE INPUT: true; the input reads as it did. -/
def fnExactPauseBoundSpec : ChangeSpec := { name := "fnExactPauseBound", fn := fun _ => fun
  | [d1, d2] => { results := [.lit (.bool true)], args := [d1, d2] }
  | _ => none }
def fnExactPauseBoundRow : OpenClaim := { program := "ytefjignlhlpndaa", sum := "fe0b0832cf7c6b34f6ca216fb0e2270cfd3d3a6d28764e0ee11de6394a3ca2c0", func := "loop.example/g01148/laws.FnExactPauseBound", spec := "fnExactPauseBound", plainKeys := false, apart := false }
def FnExactPauseBoundSaid : Prop := fnExactPauseBoundRow.holds Try.pinned (OpenSpec.ofChange fnExactPauseBoundSpec)

/-- ITS FALSE NEIGHBOUR: 'it returns false'. Refute it at one input. -/
def fnExactPauseBoundWrong : ChangeSpec := { name := "fnExactPauseBound", fn := fun _ => fun
  | [d1, d2] => { results := [.lit (.bool false)], args := [d1, d2] }
  | _ => none }
def FnExactPauseBoundWrongFalsely : Prop := fnExactPauseBoundRow.holds Try.pinned (OpenSpec.ofChange fnExactPauseBoundWrong)

/-- 'laws.FnExactRingPatrol': WHATEVER THE INPUT: true; the input reads as it did. -/
def fnExactRingPatrolSpec : ChangeSpec := { name := "fnExactRingPatrol", fn := fun _ => fun
  | [d1, d2] => { results := [.lit (.bool true)], args := [d1, d2] }
  | _ => none }
def fnExactRingPatrolRow : OpenClaim := { program := "ytefjignlhlpndaa", sum := "fe0b0832cf7c6b34f6ca216fb0e2270cfd3d3a6d28764e0ee11de6394a3ca2c0", func := "loop.example/g01148/laws.FnExactRingPatrol", spec := "fnExactRingPatrol", unfollowed := true, recurses := true, plainKeys := false, apart := false }
def FnExactRingPatrolSaid : Prop := fnExactRingPatrolRow.holds Try.pinned (OpenSpec.ofChange fnExactRingPatrolSpec)

/-- ITS FALSE NEIGHBOUR: 'it returns false'. Refute it at one input. -/
def fnExactRingPatrolWrong : ChangeSpec := { name := "fnExactRingPatrol", fn := fun _ => fun
  | [d1, d2] => { results := [.lit (.bool false)], args := [d1, d2] }
  | _ => none }
def FnExactRingPatrolWrongFalsely : Prop := fnExactRingPatrolRow.holds Try.pinned (OpenSpec.ofChange fnExactRingPatrolWrong)

/-- 'laws.FnExactPartPatrol': WHATEVER THE INPUT: true; the input reads as it did. -/
def fnExactPartPatrolSpec : ChangeSpec := { name := "fnExactPartPatrol", fn := fun _ => fun
  | [d1, d2] => { results := [.lit (.bool true)], args := [d1, d2] }
  | _ => none }
def fnExactPartPatrolRow : OpenClaim := { program := "ytefjignlhlpndaa", sum := "fe0b0832cf7c6b34f6ca216fb0e2270cfd3d3a6d28764e0ee11de6394a3ca2c0", func := "loop.example/g01148/laws.FnExactPartPatrol", spec := "fnExactPartPatrol", unfollowed := true, recurses := true, plainKeys := false, apart := false }
def FnExactPartPatrolSaid : Prop := fnExactPartPatrolRow.holds Try.pinned (OpenSpec.ofChange fnExactPartPatrolSpec)

/-- ITS FALSE NEIGHBOUR: 'it returns false'. Refute it at one input. -/
def fnExactPartPatrolWrong : ChangeSpec := { name := "fnExactPartPatrol", fn := fun _ => fun
  | [d1, d2] => { results := [.lit (.bool false)], args := [d1, d2] }
  | _ => none }
def FnExactPartPatrolWrongFalsely : Prop := fnExactPartPatrolRow.holds Try.pinned (OpenSpec.ofChange fnExactPartPatrolWrong)

/-- 'laws.FnExactShiftPatrol': WHATEVER THE INPUT: true; the input reads as it did. -/
def fnExactShiftPatrolSpec : ChangeSpec := { name := "fnExactShiftPatrol", fn := fun _ => fun
  | [d1, d2, d3] => { results := [.lit (.bool true)], args := [d1, d2, d3] }
  | _ => none }
def fnExactShiftPatrolRow : OpenClaim := { program := "ytefjignlhlpndaa", sum := "fe0b0832cf7c6b34f6ca216fb0e2270cfd3d3a6d28764e0ee11de6394a3ca2c0", func := "loop.example/g01148/laws.FnExactShiftPatrol", spec := "fnExactShiftPatrol", unfollowed := true, recurses := true, plainKeys := false, apart := false }
def FnExactShiftPatrolSaid : Prop := fnExactShiftPatrolRow.holds Try.pinned (OpenSpec.ofChange fnExactShiftPatrolSpec)

/-- ITS FALSE NEIGHBOUR: 'it returns false'. Refute it at one input. -/
def fnExactShiftPatrolWrong : ChangeSpec := { name := "fnExactShiftPatrol", fn := fun _ => fun
  | [d1, d2, d3] => { results := [.lit (.bool false)], args := [d1, d2, d3] }
  | _ => none }
def FnExactShiftPatrolWrongFalsely : Prop := fnExactShiftPatrolRow.holds Try.pinned (OpenSpec.ofChange fnExactShiftPatrolWrong)

/-- 'laws.FnExactMirrorPatrol': WHATEVER THE INPUT: true; the input reads as it did. -/
def fnExactMirrorPatrolSpec : ChangeSpec := { name := "fnExactMirrorPatrol", fn := fun _ => fun
  | [d1, d2] => { results := [.lit (.bool true)], args := [d1, d2] }
  | _ => none }
def fnExactMirrorPatrolRow : OpenClaim := { program := "ytefjignlhlpndaa", sum := "fe0b0832cf7c6b34f6ca216fb0e2270cfd3d3a6d28764e0ee11de6394a3ca2c0", func := "loop.example/g01148/laws.FnExactMirrorPatrol", spec := "fnExactMirrorPatrol", unfollowed := true, recurses := true, plainKeys := false, apart := false }
def FnExactMirrorPatrolSaid : Prop := fnExactMirrorPatrolRow.holds Try.pinned (OpenSpec.ofChange fnExactMirrorPatrolSpec)

/-- ITS FALSE NEIGHBOUR: 'it returns false'. Refute it at one input. -/
def fnExactMirrorPatrolWrong : ChangeSpec := { name := "fnExactMirrorPatrol", fn := fun _ => fun
  | [d1, d2] => { results := [.lit (.bool false)], args := [d1, d2] }
  | _ => none }
def FnExactMirrorPatrolWrongFalsely : Prop := fnExactMirrorPatrolRow.holds Try.pinned (OpenSpec.ofChange fnExactMirrorPatrolWrong)

/-- 'laws.FnExactBackPatrol': WHATEVER THE INPUT: true; the input reads as it did. -/
def fnExactBackPatrolSpec : ChangeSpec := { name := "fnExactBackPatrol", fn := fun _ => fun
  | [d1, d2] => { results := [.lit (.bool true)], args := [d1, d2] }
  | _ => none }
def fnExactBackPatrolRow : OpenClaim := { program := "ytefjignlhlpndaa", sum := "fe0b0832cf7c6b34f6ca216fb0e2270cfd3d3a6d28764e0ee11de6394a3ca2c0", func := "loop.example/g01148/laws.FnExactBackPatrol", spec := "fnExactBackPatrol", unfollowed := true, recurses := true, plainKeys := false, apart := false }
def FnExactBackPatrolSaid : Prop := fnExactBackPatrolRow.holds Try.pinned (OpenSpec.ofChange fnExactBackPatrolSpec)

/-- ITS FALSE NEIGHBOUR: 'it returns false'. Refute it at one input. -/
def fnExactBackPatrolWrong : ChangeSpec := { name := "fnExactBackPatrol", fn := fun _ => fun
  | [d1, d2] => { results := [.lit (.bool false)], args := [d1, d2] }
  | _ => none }
def FnExactBackPatrolWrongFalsely : Prop := fnExactBackPatrolRow.holds Try.pinned (OpenSpec.ofChange fnExactBackPatrolWrong)

/-- 'laws.FnExactJoinPatrols': WHATEVER THE INPUT: true; the input reads as it did. -/
def fnExactJoinPatrolsSpec : ChangeSpec := { name := "fnExactJoinPatrols", fn := fun _ => fun
  | [d1, d2, d3] => { results := [.lit (.bool true)], args := [d1, d2, d3] }
  | _ => none }
def fnExactJoinPatrolsRow : OpenClaim := { program := "ytefjignlhlpndaa", sum := "fe0b0832cf7c6b34f6ca216fb0e2270cfd3d3a6d28764e0ee11de6394a3ca2c0", func := "loop.example/g01148/laws.FnExactJoinPatrols", spec := "fnExactJoinPatrols", unfollowed := true, recurses := true, plainKeys := false, apart := false }
def FnExactJoinPatrolsSaid : Prop := fnExactJoinPatrolsRow.holds Try.pinned (OpenSpec.ofChange fnExactJoinPatrolsSpec)

/-- ITS FALSE NEIGHBOUR: 'it returns false'. Refute it at one input. -/
def fnExactJoinPatrolsWrong : ChangeSpec := { name := "fnExactJoinPatrols", fn := fun _ => fun
  | [d1, d2, d3] => { results := [.lit (.bool false)], args := [d1, d2, d3] }
  | _ => none }
def FnExactJoinPatrolsWrongFalsely : Prop := fnExactJoinPatrolsRow.holds Try.pinned (OpenSpec.ofChange fnExactJoinPatrolsWrong)

/-- 'laws.FnExactVisitTimes': WHATEVER THE INPUT: true; the input reads as it did. -/
def fnExactVisitTimesSpec : ChangeSpec := { name := "fnExactVisitTimes", fn := fun _ => fun
  | [d1, d2, d3] => { results := [.lit (.bool true)], args := [d1, d2, d3] }
  | _ => none }
def fnExactVisitTimesRow : OpenClaim := { program := "ytefjignlhlpndaa", sum := "fe0b0832cf7c6b34f6ca216fb0e2270cfd3d3a6d28764e0ee11de6394a3ca2c0", func := "loop.example/g01148/laws.FnExactVisitTimes", spec := "fnExactVisitTimes", unfollowed := true, recurses := true, plainKeys := false, apart := false }
def FnExactVisitTimesSaid : Prop := fnExactVisitTimesRow.holds Try.pinned (OpenSpec.ofChange fnExactVisitTimesSpec)

/-- ITS FALSE NEIGHBOUR: 'it returns false'. Refute it at one input. -/
def fnExactVisitTimesWrong : ChangeSpec := { name := "fnExactVisitTimes", fn := fun _ => fun
  | [d1, d2, d3] => { results := [.lit (.bool false)], args := [d1, d2, d3] }
  | _ => none }
def FnExactVisitTimesWrongFalsely : Prop := fnExactVisitTimesRow.holds Try.pinned (OpenSpec.ofChange fnExactVisitTimesWrong)

/-- 'laws.FnExactIdleTimes': WHATEVER THE INPUT: true; the input reads as it did. -/
def fnExactIdleTimesSpec : ChangeSpec := { name := "fnExactIdleTimes", fn := fun _ => fun
  | [d1, d2] => { results := [.lit (.bool true)], args := [d1, d2] }
  | _ => none }
def fnExactIdleTimesRow : OpenClaim := { program := "ytefjignlhlpndaa", sum := "fe0b0832cf7c6b34f6ca216fb0e2270cfd3d3a6d28764e0ee11de6394a3ca2c0", func := "loop.example/g01148/laws.FnExactIdleTimes", spec := "fnExactIdleTimes", unfollowed := true, recurses := true, plainKeys := false, apart := false }
def FnExactIdleTimesSaid : Prop := fnExactIdleTimesRow.holds Try.pinned (OpenSpec.ofChange fnExactIdleTimesSpec)

/-- ITS FALSE NEIGHBOUR: 'it returns false'. Refute it at one input. -/
def fnExactIdleTimesWrong : ChangeSpec := { name := "fnExactIdleTimes", fn := fun _ => fun
  | [d1, d2] => { results := [.lit (.bool false)], args := [d1, d2] }
  | _ => none }
def FnExactIdleTimesWrongFalsely : Prop := fnExactIdleTimesRow.holds Try.pinned (OpenSpec.ofChange fnExactIdleTimesWrong)

/-- 'laws.FnExactPauseOf': WHATEVER THE INPUT: true; the input reads as it did. -/
def fnExactPauseOfSpec : ChangeSpec := { name := "fnExactPauseOf", fn := fun _ => fun
  | [d1, d2] => { results := [.lit (.bool true)], args := [d1, d2] }
  | _ => none }
def fnExactPauseOfRow : OpenClaim := { program := "ytefjignlhlpndaa", sum := "fe0b0832cf7c6b34f6ca216fb0e2270cfd3d3a6d28764e0ee11de6394a3ca2c0", func := "loop.example/g01148/laws.FnExactPauseOf", spec := "fnExactPauseOf", unfollowed := true, recurses := true, plainKeys := false, apart := false }
def FnExactPauseOfSaid : Prop := fnExactPauseOfRow.holds Try.pinned (OpenSpec.ofChange fnExactPauseOfSpec)

/-- ITS FALSE NEIGHBOUR: 'it returns false'. Refute it at one input. -/
def fnExactPauseOfWrong : ChangeSpec := { name := "fnExactPauseOf", fn := fun _ => fun
  | [d1, d2] => { results := [.lit (.bool false)], args := [d1, d2] }
  | _ => none }
def FnExactPauseOfWrongFalsely : Prop := fnExactPauseOfRow.holds Try.pinned (OpenSpec.ofChange fnExactPauseOfWrong)

/-- 'laws.FnExactGuardsNeeded': WHATEVER THE INPUT: true; the input reads as it did. -/
def fnExactGuardsNeededSpec : ChangeSpec := { name := "fnExactGuardsNeeded", fn := fun _ => fun
  | [d1, d2] => { results := [.lit (.bool true)], args := [d1, d2] }
  | _ => none }
def fnExactGuardsNeededRow : OpenClaim := { program := "ytefjignlhlpndaa", sum := "fe0b0832cf7c6b34f6ca216fb0e2270cfd3d3a6d28764e0ee11de6394a3ca2c0", func := "loop.example/g01148/laws.FnExactGuardsNeeded", spec := "fnExactGuardsNeeded", unfollowed := true, recurses := true, plainKeys := false, apart := false }
def FnExactGuardsNeededSaid : Prop := fnExactGuardsNeededRow.holds Try.pinned (OpenSpec.ofChange fnExactGuardsNeededSpec)

/-- ITS FALSE NEIGHBOUR: 'it returns false'. Refute it at one input. -/
def fnExactGuardsNeededWrong : ChangeSpec := { name := "fnExactGuardsNeeded", fn := fun _ => fun
  | [d1, d2] => { results := [.lit (.bool false)], args := [d1, d2] }
  | _ => none }
def FnExactGuardsNeededWrongFalsely : Prop := fnExactGuardsNeededRow.holds Try.pinned (OpenSpec.ofChange fnExactGuardsNeededWrong)

/- THE SECOND FORM. 'bulk': how many values and letters a reading holds, each counted each time it is reached (what is shared counts as often as it is met; a slice's spare places count too). A statement '..UptoSaid' is the law's where the arguments, and the package variables that the reading takes, are together of bulk at most 1048576: NARROWER than '..Said'. Prove '..Said' where nothing that the law and all that it calls make is longer than what came in: it says more and counts as full. Else prove '..UptoSaid'. A law counts once. -/
mutual
def uptoBulk {H : Type} : DataW H → Nat
  | .lit (.string bytes) => bytes.length + 1
  | .lit _ => 1
  | .nil => 1
  | .ptr d => uptoBulk d + 1
  | .slice elems spare => uptoBulkAll elems + uptoBulkAll spare + 1
  | .agg parts => uptoBulkAll parts + 1
  | .iface _ d => uptoBulk d + 1
  | .map entries => uptoBulkEntries entries + 1
  | .held _ => 1
def uptoBulkAll {H : Type} : List (DataW H) → Nat
  | [] => 0
  | d :: r => uptoBulk d + uptoBulkAll r
def uptoBulkEntries {H : Type} : List (Lit × DataW H) → Nat
  | [] => 0
  | x :: r => uptoBulkEntry x + uptoBulkEntries r
def uptoBulkEntry {H : Type} : Lit × DataW H → Nat
  | (.string bytes, d) => bytes.length + uptoBulk d + 1
  | (_, d) => uptoBulk d + 1
 end
def uptoSmall : (H : Type) → List (DataW H) → Bool := fun _ ds => decide (uptoBulkAll ds ≤ 1048576)
def OpenSpec.upto (s : _root_.Go.ChangeSpec) : _root_.Go.OpenSpec := { _root_.Go.OpenSpec.ofChange s with cond := some uptoSmall }

/-- 'laws.FnExactIsPatrol', WHERE WHAT IT READS IS OF BULK AT MOST 1048576: true; the input reads as it did. -/
def fnExactIsPatrolUptoRow : OpenClaim := { program := "ytefjignlhlpndaa", sum := "fe0b0832cf7c6b34f6ca216fb0e2270cfd3d3a6d28764e0ee11de6394a3ca2c0", func := "loop.example/g01148/laws.FnExactIsPatrol", spec := "fnExactIsPatrol", unfollowed := true, recurses := true, plainKeys := false, apart := false, narrowed := true }
def FnExactIsPatrolUptoSaid : Prop := fnExactIsPatrolUptoRow.holds Try.pinned (OpenSpec.upto fnExactIsPatrolSpec)

/-- 'laws.FnExactPauseBound', WHERE WHAT IT READS IS OF BULK AT MOST 1048576: true; the input reads as it did. -/
def fnExactPauseBoundUptoRow : OpenClaim := { program := "ytefjignlhlpndaa", sum := "fe0b0832cf7c6b34f6ca216fb0e2270cfd3d3a6d28764e0ee11de6394a3ca2c0", func := "loop.example/g01148/laws.FnExactPauseBound", spec := "fnExactPauseBound", plainKeys := false, apart := false, narrowed := true }
def FnExactPauseBoundUptoSaid : Prop := fnExactPauseBoundUptoRow.holds Try.pinned (OpenSpec.upto fnExactPauseBoundSpec)

/-- 'laws.FnExactRingPatrol', WHERE WHAT IT READS IS OF BULK AT MOST 1048576: true; the input reads as it did. -/
def fnExactRingPatrolUptoRow : OpenClaim := { program := "ytefjignlhlpndaa", sum := "fe0b0832cf7c6b34f6ca216fb0e2270cfd3d3a6d28764e0ee11de6394a3ca2c0", func := "loop.example/g01148/laws.FnExactRingPatrol", spec := "fnExactRingPatrol", unfollowed := true, recurses := true, plainKeys := false, apart := false, narrowed := true }
def FnExactRingPatrolUptoSaid : Prop := fnExactRingPatrolUptoRow.holds Try.pinned (OpenSpec.upto fnExactRingPatrolSpec)

/-- 'laws.FnExactPartPatrol', WHERE WHAT IT READS IS OF BULK AT MOST 1048576: true; the input reads as it did. -/
def fnExactPartPatrolUptoRow : OpenClaim := { program := "ytefjignlhlpndaa", sum := "fe0b0832cf7c6b34f6ca216fb0e2270cfd3d3a6d28764e0ee11de6394a3ca2c0", func := "loop.example/g01148/laws.FnExactPartPatrol", spec := "fnExactPartPatrol", unfollowed := true, recurses := true, plainKeys := false, apart := false, narrowed := true }
def FnExactPartPatrolUptoSaid : Prop := fnExactPartPatrolUptoRow.holds Try.pinned (OpenSpec.upto fnExactPartPatrolSpec)

/-- 'laws.FnExactShiftPatrol', WHERE WHAT IT READS IS OF BULK AT MOST 1048576: true; the input reads as it did. -/
def fnExactShiftPatrolUptoRow : OpenClaim := { program := "ytefjignlhlpndaa", sum := "fe0b0832cf7c6b34f6ca216fb0e2270cfd3d3a6d28764e0ee11de6394a3ca2c0", func := "loop.example/g01148/laws.FnExactShiftPatrol", spec := "fnExactShiftPatrol", unfollowed := true, recurses := true, plainKeys := false, apart := false, narrowed := true }
def FnExactShiftPatrolUptoSaid : Prop := fnExactShiftPatrolUptoRow.holds Try.pinned (OpenSpec.upto fnExactShiftPatrolSpec)

/-- 'laws.FnExactMirrorPatrol', WHERE WHAT IT READS IS OF BULK AT MOST 1048576: true; the input reads as it did. -/
def fnExactMirrorPatrolUptoRow : OpenClaim := { program := "ytefjignlhlpndaa", sum := "fe0b0832cf7c6b34f6ca216fb0e2270cfd3d3a6d28764e0ee11de6394a3ca2c0", func := "loop.example/g01148/laws.FnExactMirrorPatrol", spec := "fnExactMirrorPatrol", unfollowed := true, recurses := true, plainKeys := false, apart := false, narrowed := true }
def FnExactMirrorPatrolUptoSaid : Prop := fnExactMirrorPatrolUptoRow.holds Try.pinned (OpenSpec.upto fnExactMirrorPatrolSpec)

/-- 'laws.FnExactBackPatrol', WHERE WHAT IT READS IS OF BULK AT MOST 1048576: true; the input reads as it did. -/
def fnExactBackPatrolUptoRow : OpenClaim := { program := "ytefjignlhlpndaa", sum := "fe0b0832cf7c6b34f6ca216fb0e2270cfd3d3a6d28764e0ee11de6394a3ca2c0", func := "loop.example/g01148/laws.FnExactBackPatrol", spec := "fnExactBackPatrol", unfollowed := true, recurses := true, plainKeys := false, apart := false, narrowed := true }
def FnExactBackPatrolUptoSaid : Prop := fnExactBackPatrolUptoRow.holds Try.pinned (OpenSpec.upto fnExactBackPatrolSpec)

/-- 'laws.FnExactJoinPatrols', WHERE WHAT IT READS IS OF BULK AT MOST 1048576: true; the input reads as it did. -/
def fnExactJoinPatrolsUptoRow : OpenClaim := { program := "ytefjignlhlpndaa", sum := "fe0b0832cf7c6b34f6ca216fb0e2270cfd3d3a6d28764e0ee11de6394a3ca2c0", func := "loop.example/g01148/laws.FnExactJoinPatrols", spec := "fnExactJoinPatrols", unfollowed := true, recurses := true, plainKeys := false, apart := false, narrowed := true }
def FnExactJoinPatrolsUptoSaid : Prop := fnExactJoinPatrolsUptoRow.holds Try.pinned (OpenSpec.upto fnExactJoinPatrolsSpec)

/-- 'laws.FnExactVisitTimes', WHERE WHAT IT READS IS OF BULK AT MOST 1048576: true; the input reads as it did. -/
def fnExactVisitTimesUptoRow : OpenClaim := { program := "ytefjignlhlpndaa", sum := "fe0b0832cf7c6b34f6ca216fb0e2270cfd3d3a6d28764e0ee11de6394a3ca2c0", func := "loop.example/g01148/laws.FnExactVisitTimes", spec := "fnExactVisitTimes", unfollowed := true, recurses := true, plainKeys := false, apart := false, narrowed := true }
def FnExactVisitTimesUptoSaid : Prop := fnExactVisitTimesUptoRow.holds Try.pinned (OpenSpec.upto fnExactVisitTimesSpec)

/-- 'laws.FnExactIdleTimes', WHERE WHAT IT READS IS OF BULK AT MOST 1048576: true; the input reads as it did. -/
def fnExactIdleTimesUptoRow : OpenClaim := { program := "ytefjignlhlpndaa", sum := "fe0b0832cf7c6b34f6ca216fb0e2270cfd3d3a6d28764e0ee11de6394a3ca2c0", func := "loop.example/g01148/laws.FnExactIdleTimes", spec := "fnExactIdleTimes", unfollowed := true, recurses := true, plainKeys := false, apart := false, narrowed := true }
def FnExactIdleTimesUptoSaid : Prop := fnExactIdleTimesUptoRow.holds Try.pinned (OpenSpec.upto fnExactIdleTimesSpec)

/-- 'laws.FnExactPauseOf', WHERE WHAT IT READS IS OF BULK AT MOST 1048576: true; the input reads as it did. -/
def fnExactPauseOfUptoRow : OpenClaim := { program := "ytefjignlhlpndaa", sum := "fe0b0832cf7c6b34f6ca216fb0e2270cfd3d3a6d28764e0ee11de6394a3ca2c0", func := "loop.example/g01148/laws.FnExactPauseOf", spec := "fnExactPauseOf", unfollowed := true, recurses := true, plainKeys := false, apart := false, narrowed := true }
def FnExactPauseOfUptoSaid : Prop := fnExactPauseOfUptoRow.holds Try.pinned (OpenSpec.upto fnExactPauseOfSpec)

/-- 'laws.FnExactGuardsNeeded', WHERE WHAT IT READS IS OF BULK AT MOST 1048576: true; the input reads as it did. -/
def fnExactGuardsNeededUptoRow : OpenClaim := { program := "ytefjignlhlpndaa", sum := "fe0b0832cf7c6b34f6ca216fb0e2270cfd3d3a6d28764e0ee11de6394a3ca2c0", func := "loop.example/g01148/laws.FnExactGuardsNeeded", spec := "fnExactGuardsNeeded", unfollowed := true, recurses := true, plainKeys := false, apart := false, narrowed := true }
def FnExactGuardsNeededUptoSaid : Prop := fnExactGuardsNeededUptoRow.holds Try.pinned (OpenSpec.upto fnExactGuardsNeededSpec)

end Rows
end Go.Proofs.Ytefjignlhlpndaa
