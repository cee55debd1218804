/-
  No cell of these rows narrows 'for every input' (looked for: loops, veiled, ifaces, maps, wideKeys, modest, calm, conditions, laid).
  DERIVED. THE GIVEN ROWS OF THIS SEAT. 16 by the template 'for every input the law returns true; each argument reads behind the call as it read before'; 0 by the template 'total and deterministic' (their statements: YthbmiigndhoopaaTotals.lean).
  GIVEN WITH THE SEED: the statements are not yours to turn. If you find one false, say at which input.
  Laid BY PROGRAM, IN A SANDBOX (cutbox-rows.mjs): the forced cells as the released guide's own fill.sh prints them over the translation 4bd22f38a9c5a520… (all of the seat's roots in one cut). By AI agents, Wed Nov 11 2026. No macro, syntax, notation, axiom, sorry.
-/
import Derived.Test.YthbmiigndhoopaaChecked
import GoSem.Claim
import GoSem.ClaimJoined
import GoSem.ClaimMapViews
import Derived.JoinedTies
import Derived.KernelRfl
namespace Go.Proofs.Ythbmiigndhoopaa
/- THE CELL 'sum', in the pinned program and in every row, IS THE sha256 OF THE DUMP (.gsa) THAT YthbmiigndhoopaaProg.lean LOADS. Nothing in Lean hashes anything: it is a label: what it is worth is what the hold of that sum in a sandbox is worth. -/
noncomputable def Try.pinned : Pinned := { name := "ythbmiigndhoopaa", sum := "4bd22f38a9c5a520879c4ad00c190929c5f4e32332bd08a7130d185a7d67fa18", checked := Try.checked }
namespace Rows
def none {H : Type} : Left H := { results := [], args := [] }

/-- 'laws.FnExactIsLane': WHATEVER THE INPUT: true; the input reads as it did. -/
def fnExactIsLaneSpec : ChangeSpec := { name := "fnExactIsLane", fn := fun _ => fun
  | [d] => { results := [.lit (.bool true)], args := [d] }
  | _ => none }
def fnExactIsLaneRow : OpenClaim := { program := "ythbmiigndhoopaa", sum := "4bd22f38a9c5a520879c4ad00c190929c5f4e32332bd08a7130d185a7d67fa18", func := "loop.example/g01148/laws.FnExactIsLane", spec := "fnExactIsLane", apart := false }
def FnExactIsLaneSaid : Prop := fnExactIsLaneRow.holds Try.pinned (OpenSpec.ofChange fnExactIsLaneSpec)

/-- ITS FALSE NEIGHBOUR: 'it returns false'. Refute it at one input. -/
def fnExactIsLaneWrong : ChangeSpec := { name := "fnExactIsLane", fn := fun _ => fun
  | [d] => { results := [.lit (.bool false)], args := [d] }
  | _ => none }
def FnExactIsLaneWrongFalsely : Prop := fnExactIsLaneRow.holds Try.pinned (OpenSpec.ofChange fnExactIsLaneWrong)

/-- 'laws.FnExactTurnLane': WHATEVER THE INPUT: true; the input reads as it did. -/
def fnExactTurnLaneSpec : ChangeSpec := { name := "fnExactTurnLane", fn := fun _ => fun
  | [d] => { results := [.lit (.bool true)], args := [d] }
  | _ => none }
def fnExactTurnLaneRow : OpenClaim := { program := "ythbmiigndhoopaa", sum := "4bd22f38a9c5a520879c4ad00c190929c5f4e32332bd08a7130d185a7d67fa18", func := "loop.example/g01148/laws.FnExactTurnLane", spec := "fnExactTurnLane", apart := false }
def FnExactTurnLaneSaid : Prop := fnExactTurnLaneRow.holds Try.pinned (OpenSpec.ofChange fnExactTurnLaneSpec)

/-- ITS FALSE NEIGHBOUR: 'it returns false'. Refute it at one input. -/
def fnExactTurnLaneWrong : ChangeSpec := { name := "fnExactTurnLane", fn := fun _ => fun
  | [d] => { results := [.lit (.bool false)], args := [d] }
  | _ => none }
def FnExactTurnLaneWrongFalsely : Prop := fnExactTurnLaneRow.holds Try.pinned (OpenSpec.ofChange fnExactTurnLaneWrong)

/-- 'laws.FnExactLaneAfter': WHATEVER THE INPUT: true; the input reads as it did. -/
def fnExactLaneAfterSpec : ChangeSpec := { name := "fnExactLaneAfter", fn := fun _ => fun
  | [d1, d2] => { results := [.lit (.bool true)], args := [d1, d2] }
  | _ => none }
def fnExactLaneAfterRow : OpenClaim := { program := "ythbmiigndhoopaa", sum := "4bd22f38a9c5a520879c4ad00c190929c5f4e32332bd08a7130d185a7d67fa18", func := "loop.example/g01148/laws.FnExactLaneAfter", spec := "fnExactLaneAfter", apart := false }
def FnExactLaneAfterSaid : Prop := fnExactLaneAfterRow.holds Try.pinned (OpenSpec.ofChange fnExactLaneAfterSpec)

/-- ITS FALSE NEIGHBOUR: 'it returns false'. Refute it at one input. -/
def fnExactLaneAfterWrong : ChangeSpec := { name := "fnExactLaneAfter", fn := fun _ => fun
  | [d1, d2] => { results := [.lit (.bool false)], args := [d1, d2] }
  | _ => none }
def FnExactLaneAfterWrongFalsely : Prop := fnExactLaneAfterRow.holds Try.pinned (OpenSpec.ofChange fnExactLaneAfterWrong)

/-- 'laws.FnExactFlowsOf': WHATEVER THE INPUT: true; the input reads as it did. -/
def fnExactFlowsOfSpec : ChangeSpec := { name := "fnExactFlowsOf", fn := fun _ => fun
  | [d1, d2] => { results := [.lit (.bool true)], args := [d1, d2] }
  | _ => none }
def fnExactFlowsOfRow : OpenClaim := { program := "ythbmiigndhoopaa", sum := "4bd22f38a9c5a520879c4ad00c190929c5f4e32332bd08a7130d185a7d67fa18", func := "loop.example/g01148/laws.FnExactFlowsOf", spec := "fnExactFlowsOf", apart := false }
def FnExactFlowsOfSaid : Prop := fnExactFlowsOfRow.holds Try.pinned (OpenSpec.ofChange fnExactFlowsOfSpec)

/-- ITS FALSE NEIGHBOUR: 'it returns false'. Refute it at one input. -/
def fnExactFlowsOfWrong : ChangeSpec := { name := "fnExactFlowsOf", fn := fun _ => fun
  | [d1, d2] => { results := [.lit (.bool false)], args := [d1, d2] }
  | _ => none }
def FnExactFlowsOfWrongFalsely : Prop := fnExactFlowsOfRow.holds Try.pinned (OpenSpec.ofChange fnExactFlowsOfWrong)

/-- 'laws.FnExactLastFlow': WHATEVER THE INPUT: true; the input reads as it did. -/
def fnExactLastFlowSpec : ChangeSpec := { name := "fnExactLastFlow", fn := fun _ => fun
  | [d] => { results := [.lit (.bool true)], args := [d] }
  | _ => none }
def fnExactLastFlowRow : OpenClaim := { program := "ythbmiigndhoopaa", sum := "4bd22f38a9c5a520879c4ad00c190929c5f4e32332bd08a7130d185a7d67fa18", func := "loop.example/g01148/laws.FnExactLastFlow", spec := "fnExactLastFlow", apart := false }
def FnExactLastFlowSaid : Prop := fnExactLastFlowRow.holds Try.pinned (OpenSpec.ofChange fnExactLastFlowSpec)

/-- ITS FALSE NEIGHBOUR: 'it returns false'. Refute it at one input. -/
def fnExactLastFlowWrong : ChangeSpec := { name := "fnExactLastFlow", fn := fun _ => fun
  | [d] => { results := [.lit (.bool false)], args := [d] }
  | _ => none }
def FnExactLastFlowWrongFalsely : Prop := fnExactLastFlowRow.holds Try.pinned (OpenSpec.ofChange fnExactLastFlowWrong)

/-- 'laws.FnExactCalmTurn': WHATEVER THE INPUT: true; the input reads as it did. -/
def fnExactCalmTurnSpec : ChangeSpec := { name := "fnExactCalmTurn", fn := fun _ => fun
  | [d] => { results := [.lit (.bool true)], args := [d] }
  | _ => none }
def fnExactCalmTurnRow : OpenClaim := { program := "ythbmiigndhoopaa", sum := "4bd22f38a9c5a520879c4ad00c190929c5f4e32332bd08a7130d185a7d67fa18", func := "loop.example/g01148/laws.FnExactCalmTurn", spec := "fnExactCalmTurn", apart := false }
def FnExactCalmTurnSaid : Prop := fnExactCalmTurnRow.holds Try.pinned (OpenSpec.ofChange fnExactCalmTurnSpec)

/-- ITS FALSE NEIGHBOUR: 'it returns false'. Refute it at one input. -/
def fnExactCalmTurnWrong : ChangeSpec := { name := "fnExactCalmTurn", fn := fun _ => fun
  | [d] => { results := [.lit (.bool false)], args := [d] }
  | _ => none }
def FnExactCalmTurnWrongFalsely : Prop := fnExactCalmTurnRow.holds Try.pinned (OpenSpec.ofChange fnExactCalmTurnWrong)

/-- 'laws.FnExactCarPlaces': WHATEVER THE INPUT: true; the input reads as it did. -/
def fnExactCarPlacesSpec : ChangeSpec := { name := "fnExactCarPlaces", fn := fun _ => fun
  | [d1, d2] => { results := [.lit (.bool true)], args := [d1, d2] }
  | _ => none }
def fnExactCarPlacesRow : OpenClaim := { program := "ythbmiigndhoopaa", sum := "4bd22f38a9c5a520879c4ad00c190929c5f4e32332bd08a7130d185a7d67fa18", func := "loop.example/g01148/laws.FnExactCarPlaces", spec := "fnExactCarPlaces", apart := false }
def FnExactCarPlacesSaid : Prop := fnExactCarPlacesRow.holds Try.pinned (OpenSpec.ofChange fnExactCarPlacesSpec)

/-- ITS FALSE NEIGHBOUR: 'it returns false'. Refute it at one input. -/
def fnExactCarPlacesWrong : ChangeSpec := { name := "fnExactCarPlaces", fn := fun _ => fun
  | [d1, d2] => { results := [.lit (.bool false)], args := [d1, d2] }
  | _ => none }
def FnExactCarPlacesWrongFalsely : Prop := fnExactCarPlacesRow.holds Try.pinned (OpenSpec.ofChange fnExactCarPlacesWrong)

/-- 'laws.FnExactTurnAround': WHATEVER THE INPUT: true; the input reads as it did. -/
def fnExactTurnAroundSpec : ChangeSpec := { name := "fnExactTurnAround", fn := fun _ => fun
  | [d] => { results := [.lit (.bool true)], args := [d] }
  | _ => none }
def fnExactTurnAroundRow : OpenClaim := { program := "ythbmiigndhoopaa", sum := "4bd22f38a9c5a520879c4ad00c190929c5f4e32332bd08a7130d185a7d67fa18", func := "loop.example/g01148/laws.FnExactTurnAround", spec := "fnExactTurnAround", unfollowed := true, recurses := true, apart := false }
def FnExactTurnAroundSaid : Prop := fnExactTurnAroundRow.holds Try.pinned (OpenSpec.ofChange fnExactTurnAroundSpec)

/-- ITS FALSE NEIGHBOUR: 'it returns false'. Refute it at one input. -/
def fnExactTurnAroundWrong : ChangeSpec := { name := "fnExactTurnAround", fn := fun _ => fun
  | [d] => { results := [.lit (.bool false)], args := [d] }
  | _ => none }
def FnExactTurnAroundWrongFalsely : Prop := fnExactTurnAroundRow.holds Try.pinned (OpenSpec.ofChange fnExactTurnAroundWrong)

/-- 'laws.FnExactJamsOf': WHATEVER THE INPUT: true; the input reads as it did. -/
def fnExactJamsOfSpec : ChangeSpec := { name := "fnExactJamsOf", fn := fun _ => fun
  | [d] => { results := [.lit (.bool true)], args := [d] }
  | _ => none }
def fnExactJamsOfRow : OpenClaim := { program := "ythbmiigndhoopaa", sum := "4bd22f38a9c5a520879c4ad00c190929c5f4e32332bd08a7130d185a7d67fa18", func := "loop.example/g01148/laws.FnExactJamsOf", spec := "fnExactJamsOf", apart := false }
def FnExactJamsOfSaid : Prop := fnExactJamsOfRow.holds Try.pinned (OpenSpec.ofChange fnExactJamsOfSpec)

/-- ITS FALSE NEIGHBOUR: 'it returns false'. Refute it at one input. -/
def fnExactJamsOfWrong : ChangeSpec := { name := "fnExactJamsOf", fn := fun _ => fun
  | [d] => { results := [.lit (.bool false)], args := [d] }
  | _ => none }
def FnExactJamsOfWrongFalsely : Prop := fnExactJamsOfRow.holds Try.pinned (OpenSpec.ofChange fnExactJamsOfWrong)

/-- 'laws.FnExactIsWire': WHATEVER THE INPUT: true; the input reads as it did. -/
def fnExactIsWireSpec : ChangeSpec := { name := "fnExactIsWire", fn := fun _ => fun
  | [d] => { results := [.lit (.bool true)], args := [d] }
  | _ => none }
def fnExactIsWireRow : OpenClaim := { program := "ythbmiigndhoopaa", sum := "4bd22f38a9c5a520879c4ad00c190929c5f4e32332bd08a7130d185a7d67fa18", func := "loop.example/g01148/laws.FnExactIsWire", spec := "fnExactIsWire", apart := false }
def FnExactIsWireSaid : Prop := fnExactIsWireRow.holds Try.pinned (OpenSpec.ofChange fnExactIsWireSpec)

/-- ITS FALSE NEIGHBOUR: 'it returns false'. Refute it at one input. -/
def fnExactIsWireWrong : ChangeSpec := { name := "fnExactIsWire", fn := fun _ => fun
  | [d] => { results := [.lit (.bool false)], args := [d] }
  | _ => none }
def FnExactIsWireWrongFalsely : Prop := fnExactIsWireRow.holds Try.pinned (OpenSpec.ofChange fnExactIsWireWrong)

/-- 'laws.FnExactShadeTimes': WHATEVER THE INPUT: true; the input reads as it did. -/
def fnExactShadeTimesSpec : ChangeSpec := { name := "fnExactShadeTimes", fn := fun _ => fun
  | [d] => { results := [.lit (.bool true)], args := [d] }
  | _ => none }
def fnExactShadeTimesRow : OpenClaim := { program := "ythbmiigndhoopaa", sum := "4bd22f38a9c5a520879c4ad00c190929c5f4e32332bd08a7130d185a7d67fa18", func := "loop.example/g01148/laws.FnExactShadeTimes", spec := "fnExactShadeTimes", apart := false }
def FnExactShadeTimesSaid : Prop := fnExactShadeTimesRow.holds Try.pinned (OpenSpec.ofChange fnExactShadeTimesSpec)

/-- ITS FALSE NEIGHBOUR: 'it returns false'. Refute it at one input. -/
def fnExactShadeTimesWrong : ChangeSpec := { name := "fnExactShadeTimes", fn := fun _ => fun
  | [d] => { results := [.lit (.bool false)], args := [d] }
  | _ => none }
def FnExactShadeTimesWrongFalsely : Prop := fnExactShadeTimesRow.holds Try.pinned (OpenSpec.ofChange fnExactShadeTimesWrong)

/-- 'laws.FnExactLastFall': WHATEVER THE INPUT: true; the input reads as it did. -/
def fnExactLastFallSpec : ChangeSpec := { name := "fnExactLastFall", fn := fun _ => fun
  | [d] => { results := [.lit (.bool true)], args := [d] }
  | _ => none }
def fnExactLastFallRow : OpenClaim := { program := "ythbmiigndhoopaa", sum := "4bd22f38a9c5a520879c4ad00c190929c5f4e32332bd08a7130d185a7d67fa18", func := "loop.example/g01148/laws.FnExactLastFall", spec := "fnExactLastFall", apart := false }
def FnExactLastFallSaid : Prop := fnExactLastFallRow.holds Try.pinned (OpenSpec.ofChange fnExactLastFallSpec)

/-- ITS FALSE NEIGHBOUR: 'it returns false'. Refute it at one input. -/
def fnExactLastFallWrong : ChangeSpec := { name := "fnExactLastFall", fn := fun _ => fun
  | [d] => { results := [.lit (.bool false)], args := [d] }
  | _ => none }
def FnExactLastFallWrongFalsely : Prop := fnExactLastFallRow.holds Try.pinned (OpenSpec.ofChange fnExactLastFallWrong)

/-- 'laws.FnExactFallsOf': WHATEVER THE INPUT: true; the input reads as it did. -/
def fnExactFallsOfSpec : ChangeSpec := { name := "fnExactFallsOf", fn := fun _ => fun
  | [d] => { results := [.lit (.bool true)], args := [d] }
  | _ => none }
def fnExactFallsOfRow : OpenClaim := { program := "ythbmiigndhoopaa", sum := "4bd22f38a9c5a520879c4ad00c190929c5f4e32332bd08a7130d185a7d67fa18", func := "loop.example/g01148/laws.FnExactFallsOf", spec := "fnExactFallsOf", apart := false }
def FnExactFallsOfSaid : Prop := fnExactFallsOfRow.holds Try.pinned (OpenSpec.ofChange fnExactFallsOfSpec)

/-- ITS FALSE NEIGHBOUR: 'it returns false'. Refute it at one input. -/
def fnExactFallsOfWrong : ChangeSpec := { name := "fnExactFallsOf", fn := fun _ => fun
  | [d] => { results := [.lit (.bool false)], args := [d] }
  | _ => none }
def FnExactFallsOfWrongFalsely : Prop := fnExactFallsOfRow.holds Try.pinned (OpenSpec.ofChange fnExactFallsOfWrong)

/-- 'laws.FnExactCountMeets': WHATEVER THE INPUT: true; the input reads as it did. -/
def fnExactCountMeetsSpec : ChangeSpec := { name := "fnExactCountMeets", fn := fun _ => fun
  | [d] => { results := [.lit (.bool true)], args := [d] }
  | _ => none }
def fnExactCountMeetsRow : OpenClaim := { program := "ythbmiigndhoopaa", sum := "4bd22f38a9c5a520879c4ad00c190929c5f4e32332bd08a7130d185a7d67fa18", func := "loop.example/g01148/laws.FnExactCountMeets", spec := "fnExactCountMeets", apart := false }
def FnExactCountMeetsSaid : Prop := fnExactCountMeetsRow.holds Try.pinned (OpenSpec.ofChange fnExactCountMeetsSpec)

/-- ITS FALSE NEIGHBOUR: 'it returns false'. Refute it at one input. -/
def fnExactCountMeetsWrong : ChangeSpec := { name := "fnExactCountMeets", fn := fun _ => fun
  | [d] => { results := [.lit (.bool false)], args := [d] }
  | _ => none }
def FnExactCountMeetsWrongFalsely : Prop := fnExactCountMeetsRow.holds Try.pinned (OpenSpec.ofChange fnExactCountMeetsWrong)

/-- 'laws.FnExactBeadsAt': WHATEVER THE INPUT: true; the input reads as it did. -/
def fnExactBeadsAtSpec : ChangeSpec := { name := "fnExactBeadsAt", fn := fun _ => fun
  | [d1, d2] => { results := [.lit (.bool true)], args := [d1, d2] }
  | _ => none }
def fnExactBeadsAtRow : OpenClaim := { program := "ythbmiigndhoopaa", sum := "4bd22f38a9c5a520879c4ad00c190929c5f4e32332bd08a7130d185a7d67fa18", func := "loop.example/g01148/laws.FnExactBeadsAt", spec := "fnExactBeadsAt", recurses := true, apart := false }
def FnExactBeadsAtSaid : Prop := fnExactBeadsAtRow.holds Try.pinned (OpenSpec.ofChange fnExactBeadsAtSpec)

/-- ITS FALSE NEIGHBOUR: 'it returns false'. Refute it at one input. -/
def fnExactBeadsAtWrong : ChangeSpec := { name := "fnExactBeadsAt", fn := fun _ => fun
  | [d1, d2] => { results := [.lit (.bool false)], args := [d1, d2] }
  | _ => none }
def FnExactBeadsAtWrongFalsely : Prop := fnExactBeadsAtRow.holds Try.pinned (OpenSpec.ofChange fnExactBeadsAtWrong)

/-- 'laws.FnExactMirrorWire': WHATEVER THE INPUT: true; the input reads as it did. -/
def fnExactMirrorWireSpec : ChangeSpec := { name := "fnExactMirrorWire", fn := fun _ => fun
  | [d] => { results := [.lit (.bool true)], args := [d] }
  | _ => none }
def fnExactMirrorWireRow : OpenClaim := { program := "ythbmiigndhoopaa", sum := "4bd22f38a9c5a520879c4ad00c190929c5f4e32332bd08a7130d185a7d67fa18", func := "loop.example/g01148/laws.FnExactMirrorWire", spec := "fnExactMirrorWire", unfollowed := true, recurses := true, apart := false }
def FnExactMirrorWireSaid : Prop := fnExactMirrorWireRow.holds Try.pinned (OpenSpec.ofChange fnExactMirrorWireSpec)

/-- ITS FALSE NEIGHBOUR: 'it returns false'. Refute it at one input. -/
def fnExactMirrorWireWrong : ChangeSpec := { name := "fnExactMirrorWire", fn := fun _ => fun
  | [d] => { results := [.lit (.bool false)], args := [d] }
  | _ => none }
def FnExactMirrorWireWrongFalsely : Prop := fnExactMirrorWireRow.holds Try.pinned (OpenSpec.ofChange fnExactMirrorWireWrong)

/- THE SECOND FORM. 'bulk': how many values and letters a reading holds, each counted each time it is reached (what is shared counts as often as it is met; a slice's spare places count too). A statement '..UptoSaid' is the law's where the arguments, and the package variables that the reading takes, are together of bulk at most 1048576: NARROWER than '..Said'. Prove '..Said' where nothing that the law and all that it calls make is longer than what came in: it says more and counts as full. Else prove '..UptoSaid'. A law counts once. -/
mutual
def uptoBulk {H : Type} : DataW H → Nat
  | .lit (.string bytes) => bytes.length + 1
  | .lit _ => 1
  | .nil => 1
  | .ptr d => uptoBulk d + 1
  | .slice elems spare => uptoBulkAll elems + uptoBulkAll spare + 1
  | .agg parts => uptoBulkAll parts + 1
  | .iface _ d => uptoBulk d + 1
  | .map entries => uptoBulkEntries entries + 1
  | .held _ => 1
def uptoBulkAll {H : Type} : List (DataW H) → Nat
  | [] => 0
  | d :: r => uptoBulk d + uptoBulkAll r
def uptoBulkEntries {H : Type} : List (Lit × DataW H) → Nat
  | [] => 0
  | x :: r => uptoBulkEntry x + uptoBulkEntries r
def uptoBulkEntry {H : Type} : Lit × DataW H → Nat
  | (.string bytes, d) => bytes.length + uptoBulk d + 1
  | (_, d) => uptoBulk d + 1
 end
def uptoSmall : (H : Type) → List (DataW H) → Bool := fun _ ds => decide (uptoBulkAll ds ≤ 1048576)
def OpenSpec.upto (s : _root_.Go.ChangeSpec) : _root_.Go.OpenSpec := { _root_.Go.OpenSpec.ofChange s with cond := some uptoSmall }

/-- 'laws.FnExactIsLane', WHERE WHAT IT READS IS OF BULK AT MOST 1048576: true; the input reads as it did. -/
def fnExactIsLaneUptoRow : OpenClaim := { program := "ythbmiigndhoopaa", sum := "4bd22f38a9c5a520879c4ad00c190929c5f4e32332bd08a7130d185a7d67fa18", func := "loop.example/g01148/laws.FnExactIsLane", spec := "fnExactIsLane", apart := false, narrowed := true }
def FnExactIsLaneUptoSaid : Prop := fnExactIsLaneUptoRow.holds Try.pinned (OpenSpec.upto fnExactIsLaneSpec)

/-- 'laws.FnExactTurnLane', WHERE WHAT IT READS IS OF BULK AT MOST 1048576: true; the input reads as it did. -/
def fnExactTurnLaneUptoRow : OpenClaim := { program := "ythbmiigndhoopaa", sum := "4bd22f38a9c5a520879c4ad00c190929c5f4e32332bd08a7130d185a7d67fa18", func := "loop.example/g01148/laws.FnExactTurnLane", spec := "fnExactTurnLane", apart := false, narrowed := true }
def FnExactTurnLaneUptoSaid : Prop := fnExactTurnLaneUptoRow.holds Try.pinned (OpenSpec.upto fnExactTurnLaneSpec)

/-- 'laws.FnExactLaneAfter', WHERE WHAT IT READS IS OF BULK AT MOST 1048576: true; the input reads as it did. -/
def fnExactLaneAfterUptoRow : OpenClaim := { program := "ythbmiigndhoopaa", sum := "4bd22f38a9c5a520879c4ad00c190929c5f4e32332bd08a7130d185a7d67fa18", func := "loop.example/g01148/laws.FnExactLaneAfter", spec := "fnExactLaneAfter", apart := false, narrowed := true }
def FnExactLaneAfterUptoSaid : Prop := fnExactLaneAfterUptoRow.holds Try.pinned (OpenSpec.upto fnExactLaneAfterSpec)

/-- 'laws.FnExactFlowsOf', WHERE WHAT IT READS IS OF BULK AT MOST 1048576: true; the input reads as it did. -/
def fnExactFlowsOfUptoRow : OpenClaim := { program := "ythbmiigndhoopaa", sum := "4bd22f38a9c5a520879c4ad00c190929c5f4e32332bd08a7130d185a7d67fa18", func := "loop.example/g01148/laws.FnExactFlowsOf", spec := "fnExactFlowsOf", apart := false, narrowed := true }
def FnExactFlowsOfUptoSaid : Prop := fnExactFlowsOfUptoRow.holds Try.pinned (OpenSpec.upto fnExactFlowsOfSpec)

/-- 'laws.FnExactLastFlow', WHERE WHAT IT READS IS OF BULK AT MOST 1048576: true; the input reads as it did. -/
def fnExactLastFlowUptoRow : OpenClaim := { program := "ythbmiigndhoopaa", sum := "4bd22f38a9c5a520879c4ad00c190929c5f4e32332bd08a7130d185a7d67fa18", func := "loop.example/g01148/laws.FnExactLastFlow", spec := "fnExactLastFlow", apart := false, narrowed := true }
def FnExactLastFlowUptoSaid : Prop := fnExactLastFlowUptoRow.holds Try.pinned (OpenSpec.upto fnExactLastFlowSpec)

/-- 'laws.FnExactCalmTurn', WHERE WHAT IT READS IS OF BULK AT MOST 1048576: true; the input reads as it did. -/
def fnExactCalmTurnUptoRow : OpenClaim := { program := "ythbmiigndhoopaa", sum := "4bd22f38a9c5a520879c4ad00c190929c5f4e32332bd08a7130d185a7d67fa18", func := "loop.example/g01148/laws.FnExactCalmTurn", spec := "fnExactCalmTurn", apart := false, narrowed := true }
def FnExactCalmTurnUptoSaid : Prop := fnExactCalmTurnUptoRow.holds Try.pinned (OpenSpec.upto fnExactCalmTurnSpec)

/-- 'laws.FnExactCarPlaces', WHERE WHAT IT READS IS OF BULK AT MOST 1048576: true; the input reads as it did. -/
def fnExactCarPlacesUptoRow : OpenClaim := { program := "ythbmiigndhoopaa", sum := "4bd22f38a9c5a520879c4ad00c190929c5f4e32332bd08a7130d185a7d67fa18", func := "loop.example/g01148/laws.FnExactCarPlaces", spec := "fnExactCarPlaces", apart := false, narrowed := true }
def FnExactCarPlacesUptoSaid : Prop := fnExactCarPlacesUptoRow.holds Try.pinned (OpenSpec.upto fnExactCarPlacesSpec)

/-- 'laws.FnExactTurnAround', WHERE WHAT IT READS IS OF BULK AT MOST 1048576: true; the input reads as it did. -/
def fnExactTurnAroundUptoRow : OpenClaim := { program := "ythbmiigndhoopaa", sum := "4bd22f38a9c5a520879c4ad00c190929c5f4e32332bd08a7130d185a7d67fa18", func := "loop.example/g01148/laws.FnExactTurnAround", spec := "fnExactTurnAround", unfollowed := true, recurses := true, apart := false, narrowed := true }
def FnExactTurnAroundUptoSaid : Prop := fnExactTurnAroundUptoRow.holds Try.pinned (OpenSpec.upto fnExactTurnAroundSpec)

/-- 'laws.FnExactJamsOf', WHERE WHAT IT READS IS OF BULK AT MOST 1048576: true; the input reads as it did. -/
def fnExactJamsOfUptoRow : OpenClaim := { program := "ythbmiigndhoopaa", sum := "4bd22f38a9c5a520879c4ad00c190929c5f4e32332bd08a7130d185a7d67fa18", func := "loop.example/g01148/laws.FnExactJamsOf", spec := "fnExactJamsOf", apart := false, narrowed := true }
def FnExactJamsOfUptoSaid : Prop := fnExactJamsOfUptoRow.holds Try.pinned (OpenSpec.upto fnExactJamsOfSpec)

/-- 'laws.FnExactIsWire', WHERE WHAT IT READS IS OF BULK AT MOST 1048576: true; the input reads as it did. -/
def fnExactIsWireUptoRow : OpenClaim := { program := "ythbmiigndhoopaa", sum := "4bd22f38a9c5a520879c4ad00c190929c5f4e32332bd08a7130d185a7d67fa18", func := "loop.example/g01148/laws.FnExactIsWire", spec := "fnExactIsWire", apart := false, narrowed := true }
def FnExactIsWireUptoSaid : Prop := fnExactIsWireUptoRow.holds Try.pinned (OpenSpec.upto fnExactIsWireSpec)

/-- 'laws.FnExactShadeTimes', WHERE WHAT IT READS IS OF BULK AT MOST 1048576: true; the input reads as it did. -/
def fnExactShadeTimesUptoRow : OpenClaim := { program := "ythbmiigndhoopaa", sum := "4bd22f38a9c5a520879c4ad00c190929c5f4e32332bd08a7130d185a7d67fa18", func := "loop.example/g01148/laws.FnExactShadeTimes", spec := "fnExactShadeTimes", apart := false, narrowed := true }
def FnExactShadeTimesUptoSaid : Prop := fnExactShadeTimesUptoRow.holds Try.pinned (OpenSpec.upto fnExactShadeTimesSpec)

/-- 'laws.FnExactLastFall', WHERE WHAT IT READS IS OF BULK AT MOST 1048576: true; the input reads as it did. -/
def fnExactLastFallUptoRow : OpenClaim := { program := "ythbmiigndhoopaa", sum := "4bd22f38a9c5a520879c4ad00c190929c5f4e32332bd08a7130d185a7d67fa18", func := "loop.example/g01148/laws.FnExactLastFall", spec := "fnExactLastFall", apart := false, narrowed := true }
def FnExactLastFallUptoSaid : Prop := fnExactLastFallUptoRow.holds Try.pinned (OpenSpec.upto fnExactLastFallSpec)

/-- 'laws.FnExactFallsOf', WHERE WHAT IT READS IS OF BULK AT MOST 1048576: true; the input reads as it did. -/
def fnExactFallsOfUptoRow : OpenClaim := { program := "ythbmiigndhoopaa", sum := "4bd22f38a9c5a520879c4ad00c190929c5f4e32332bd08a7130d185a7d67fa18", func := "loop.example/g01148/laws.FnExactFallsOf", spec := "fnExactFallsOf", apart := false, narrowed := true }
def FnExactFallsOfUptoSaid : Prop := fnExactFallsOfUptoRow.holds Try.pinned (OpenSpec.upto fnExactFallsOfSpec)

/-- 'laws.FnExactCountMeets', WHERE WHAT IT READS IS OF BULK AT MOST 1048576: true; the input reads as it did. -/
def fnExactCountMeetsUptoRow : OpenClaim := { program := "ythbmiigndhoopaa", sum := "4bd22f38a9c5a520879c4ad00c190929c5f4e32332bd08a7130d185a7d67fa18", func := "loop.example/g01148/laws.FnExactCountMeets", spec := "fnExactCountMeets", apart := false, narrowed := true }
def FnExactCountMeetsUptoSaid : Prop := fnExactCountMeetsUptoRow.holds Try.pinned (OpenSpec.upto fnExactCountMeetsSpec)

/-- 'laws.FnExactBeadsAt', WHERE WHAT IT READS IS OF BULK AT MOST 1048576: true; the input reads as it did. -/
def fnExactBeadsAtUptoRow : OpenClaim := { program := "ythbmiigndhoopaa", sum := "4bd22f38a9c5a520879c4ad00c190929c5f4e32332bd08a7130d185a7d67fa18", func := "loop.example/g01148/laws.FnExactBeadsAt", spec := "fnExactBeadsAt", recurses := true, apart := false, narrowed := true }
def FnExactBeadsAtUptoSaid : Prop := fnExactBeadsAtUptoRow.holds Try.pinned (OpenSpec.upto fnExactBeadsAtSpec)

/-- 'laws.FnExactMirrorWire', WHERE WHAT IT READS IS OF BULK AT MOST 1048576: true; the input reads as it did. -/
def fnExactMirrorWireUptoRow : OpenClaim := { program := "ythbmiigndhoopaa", sum := "4bd22f38a9c5a520879c4ad00c190929c5f4e32332bd08a7130d185a7d67fa18", func := "loop.example/g01148/laws.FnExactMirrorWire", spec := "fnExactMirrorWire", unfollowed := true, recurses := true, apart := false, narrowed := true }
def FnExactMirrorWireUptoSaid : Prop := fnExactMirrorWireUptoRow.holds Try.pinned (OpenSpec.upto fnExactMirrorWireSpec)

end Rows
end Go.Proofs.Ythbmiigndhoopaa
