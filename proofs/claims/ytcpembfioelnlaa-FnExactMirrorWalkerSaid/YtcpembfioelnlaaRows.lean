/-
  No cell of these rows narrows 'for every input' (looked for: loops, veiled, ifaces, maps, wideKeys, modest, calm, conditions, laid).
  DERIVED. THE GIVEN ROWS OF THIS SEAT. 6 by the template 'for every input the law returns true; each argument reads behind the call as it read before'; 0 by the template 'total and deterministic' (their statements: YtcpembfioelnlaaTotals.lean).
  GIVEN WITH THE SEED: the statements are not yours to turn. If you find one false, say at which input.
  Laid BY PROGRAM, IN A SANDBOX (cutbox-rows.mjs): the forced cells as the released guide's own fill.sh prints them over the translation ab04de0fae485be2… (all of the seat's roots in one cut). By AI agents, Wed Nov 11 2026. No macro, syntax, notation, axiom, sorry.
-/
import Derived.Test.YtcpembfioelnlaaChecked
import GoSem.Claim
import GoSem.ClaimJoined
import GoSem.ClaimMapViews
import Derived.JoinedTies
import Derived.KernelRfl
namespace Go.Proofs.Ytcpembfioelnlaa
/- THE CELL 'sum', in the pinned program and in every row, IS THE sha256 OF THE DUMP (.gsa) THAT YtcpembfioelnlaaProg.lean LOADS. Nothing in Lean hashes anything: it is a label: what it is worth is what the hold of that sum in a sandbox is worth. -/
noncomputable def Try.pinned : Pinned := { name := "ytcpembfioelnlaa", sum := "ab04de0fae485be25fdff3626fe35150c53a8c9dc26dea8d250555214a0cf831", checked := Try.checked }
namespace Rows
def none {H : Type} : Left H := { results := [], args := [] }

/-- 'laws.FnExactIsWalker': WHATEVER THE INPUT: true; the input reads as it did. -/
def fnExactIsWalkerSpec : ChangeSpec := { name := "fnExactIsWalker", fn := fun _ => fun
  | [d1, d2] => { results := [.lit (.bool true)], args := [d1, d2] }
  | _ => none }
def fnExactIsWalkerRow : OpenClaim := { program := "ytcpembfioelnlaa", sum := "ab04de0fae485be25fdff3626fe35150c53a8c9dc26dea8d250555214a0cf831", func := "loop.example/g01148/laws.FnExactIsWalker", spec := "fnExactIsWalker", apart := false }
def FnExactIsWalkerSaid : Prop := fnExactIsWalkerRow.holds Try.pinned (OpenSpec.ofChange fnExactIsWalkerSpec)

/-- ITS FALSE NEIGHBOUR: 'it returns false'. Refute it at one input. -/
def fnExactIsWalkerWrong : ChangeSpec := { name := "fnExactIsWalker", fn := fun _ => fun
  | [d1, d2] => { results := [.lit (.bool false)], args := [d1, d2] }
  | _ => none }
def FnExactIsWalkerWrongFalsely : Prop := fnExactIsWalkerRow.holds Try.pinned (OpenSpec.ofChange fnExactIsWalkerWrong)

/-- 'laws.FnExactWalkOf': WHATEVER THE INPUT: true; the input reads as it did. -/
def fnExactWalkOfSpec : ChangeSpec := { name := "fnExactWalkOf", fn := fun _ => fun
  | [d1, d2, d3] => { results := [.lit (.bool true)], args := [d1, d2, d3] }
  | _ => none }
def fnExactWalkOfRow : OpenClaim := { program := "ytcpembfioelnlaa", sum := "ab04de0fae485be25fdff3626fe35150c53a8c9dc26dea8d250555214a0cf831", func := "loop.example/g01148/laws.FnExactWalkOf", spec := "fnExactWalkOf", apart := false }
def FnExactWalkOfSaid : Prop := fnExactWalkOfRow.holds Try.pinned (OpenSpec.ofChange fnExactWalkOfSpec)

/-- ITS FALSE NEIGHBOUR: 'it returns false'. Refute it at one input. -/
def fnExactWalkOfWrong : ChangeSpec := { name := "fnExactWalkOf", fn := fun _ => fun
  | [d1, d2, d3] => { results := [.lit (.bool false)], args := [d1, d2, d3] }
  | _ => none }
def FnExactWalkOfWrongFalsely : Prop := fnExactWalkOfRow.holds Try.pinned (OpenSpec.ofChange fnExactWalkOfWrong)

/-- 'laws.FnExactMirrorWalker': WHATEVER THE INPUT: true; the input reads as it did. -/
def fnExactMirrorWalkerSpec : ChangeSpec := { name := "fnExactMirrorWalker", fn := fun _ => fun
  | [d1, d2] => { results := [.lit (.bool true)], args := [d1, d2] }
  | _ => none }
def fnExactMirrorWalkerRow : OpenClaim := { program := "ytcpembfioelnlaa", sum := "ab04de0fae485be25fdff3626fe35150c53a8c9dc26dea8d250555214a0cf831", func := "loop.example/g01148/laws.FnExactMirrorWalker", spec := "fnExactMirrorWalker", apart := false }
def FnExactMirrorWalkerSaid : Prop := fnExactMirrorWalkerRow.holds Try.pinned (OpenSpec.ofChange fnExactMirrorWalkerSpec)

/-- ITS FALSE NEIGHBOUR: 'it returns false'. Refute it at one input. -/
def fnExactMirrorWalkerWrong : ChangeSpec := { name := "fnExactMirrorWalker", fn := fun _ => fun
  | [d1, d2] => { results := [.lit (.bool false)], args := [d1, d2] }
  | _ => none }
def FnExactMirrorWalkerWrongFalsely : Prop := fnExactMirrorWalkerRow.holds Try.pinned (OpenSpec.ofChange fnExactMirrorWalkerWrong)

/-- 'laws.FnExactLabelMoves': WHATEVER THE INPUT: true; the input reads as it did. -/
def fnExactLabelMovesSpec : ChangeSpec := { name := "fnExactLabelMoves", fn := fun _ => fun
  | [d1, d2] => { results := [.lit (.bool true)], args := [d1, d2] }
  | _ => none }
def fnExactLabelMovesRow : OpenClaim := { program := "ytcpembfioelnlaa", sum := "ab04de0fae485be25fdff3626fe35150c53a8c9dc26dea8d250555214a0cf831", func := "loop.example/g01148/laws.FnExactLabelMoves", spec := "fnExactLabelMoves", apart := false }
def FnExactLabelMovesSaid : Prop := fnExactLabelMovesRow.holds Try.pinned (OpenSpec.ofChange fnExactLabelMovesSpec)

/-- ITS FALSE NEIGHBOUR: 'it returns false'. Refute it at one input. -/
def fnExactLabelMovesWrong : ChangeSpec := { name := "fnExactLabelMoves", fn := fun _ => fun
  | [d1, d2] => { results := [.lit (.bool false)], args := [d1, d2] }
  | _ => none }
def FnExactLabelMovesWrongFalsely : Prop := fnExactLabelMovesRow.holds Try.pinned (OpenSpec.ofChange fnExactLabelMovesWrong)

/-- 'laws.FnExactDoubleLabel': WHATEVER THE INPUT: true; the input reads as it did. -/
def fnExactDoubleLabelSpec : ChangeSpec := { name := "fnExactDoubleLabel", fn := fun _ => fun
  | [d] => { results := [.lit (.bool true)], args := [d] }
  | _ => none }
def fnExactDoubleLabelRow : OpenClaim := { program := "ytcpembfioelnlaa", sum := "ab04de0fae485be25fdff3626fe35150c53a8c9dc26dea8d250555214a0cf831", func := "loop.example/g01148/laws.FnExactDoubleLabel", spec := "fnExactDoubleLabel", apart := false }
def FnExactDoubleLabelSaid : Prop := fnExactDoubleLabelRow.holds Try.pinned (OpenSpec.ofChange fnExactDoubleLabelSpec)

/-- ITS FALSE NEIGHBOUR: 'it returns false'. Refute it at one input. -/
def fnExactDoubleLabelWrong : ChangeSpec := { name := "fnExactDoubleLabel", fn := fun _ => fun
  | [d] => { results := [.lit (.bool false)], args := [d] }
  | _ => none }
def FnExactDoubleLabelWrongFalsely : Prop := fnExactDoubleLabelRow.holds Try.pinned (OpenSpec.ofChange fnExactDoubleLabelWrong)

/-- 'laws.FnExactShiftWalk': WHATEVER THE INPUT: true; the input reads as it did. -/
def fnExactShiftWalkSpec : ChangeSpec := { name := "fnExactShiftWalk", fn := fun _ => fun
  | [d1, d2, d3] => { results := [.lit (.bool true)], args := [d1, d2, d3] }
  | _ => none }
def fnExactShiftWalkRow : OpenClaim := { program := "ytcpembfioelnlaa", sum := "ab04de0fae485be25fdff3626fe35150c53a8c9dc26dea8d250555214a0cf831", func := "loop.example/g01148/laws.FnExactShiftWalk", spec := "fnExactShiftWalk", unfollowed := true, recurses := true, apart := false }
def FnExactShiftWalkSaid : Prop := fnExactShiftWalkRow.holds Try.pinned (OpenSpec.ofChange fnExactShiftWalkSpec)

/-- ITS FALSE NEIGHBOUR: 'it returns false'. Refute it at one input. -/
def fnExactShiftWalkWrong : ChangeSpec := { name := "fnExactShiftWalk", fn := fun _ => fun
  | [d1, d2, d3] => { results := [.lit (.bool false)], args := [d1, d2, d3] }
  | _ => none }
def FnExactShiftWalkWrongFalsely : Prop := fnExactShiftWalkRow.holds Try.pinned (OpenSpec.ofChange fnExactShiftWalkWrong)

/- THE SECOND FORM. 'bulk': how many values and letters a reading holds, each counted each time it is reached (what is shared counts as often as it is met; a slice's spare places count too). A statement '..UptoSaid' is the law's where the arguments, and the package variables that the reading takes, are together of bulk at most 1048576: NARROWER than '..Said'. Prove '..Said' where nothing that the law and all that it calls make is longer than what came in: it says more and counts as full. Else prove '..UptoSaid'. A law counts once. -/
mutual
def uptoBulk {H : Type} : DataW H → Nat
  | .lit (.string bytes) => bytes.length + 1
  | .lit _ => 1
  | .nil => 1
  | .ptr d => uptoBulk d + 1
  | .slice elems spare => uptoBulkAll elems + uptoBulkAll spare + 1
  | .agg parts => uptoBulkAll parts + 1
  | .iface _ d => uptoBulk d + 1
  | .map entries => uptoBulkEntries entries + 1
  | .held _ => 1
def uptoBulkAll {H : Type} : List (DataW H) → Nat
  | [] => 0
  | d :: r => uptoBulk d + uptoBulkAll r
def uptoBulkEntries {H : Type} : List (Lit × DataW H) → Nat
  | [] => 0
  | x :: r => uptoBulkEntry x + uptoBulkEntries r
def uptoBulkEntry {H : Type} : Lit × DataW H → Nat
  | (.string bytes, d) => bytes.length + uptoBulk d + 1
  | (_, d) => uptoBulk d + 1
 end
def uptoSmall : (H : Type) → List (DataW H) → Bool := fun _ ds => decide (uptoBulkAll ds ≤ 1048576)
def OpenSpec.upto (s : _root_.Go.ChangeSpec) : _root_.Go.OpenSpec := { _root_.Go.OpenSpec.ofChange s with cond := some uptoSmall }

/-- 'laws.FnExactIsWalker', WHERE WHAT IT READS IS OF BULK AT MOST 1048576: true; the input reads as it did. -/
def fnExactIsWalkerUptoRow : OpenClaim := { program := "ytcpembfioelnlaa", sum := "ab04de0fae485be25fdff3626fe35150c53a8c9dc26dea8d250555214a0cf831", func := "loop.example/g01148/laws.FnExactIsWalker", spec := "fnExactIsWalker", apart := false, narrowed := true }
def FnExactIsWalkerUptoSaid : Prop := fnExactIsWalkerUptoRow.holds Try.pinned (OpenSpec.upto fnExactIsWalkerSpec)

/-- 'laws.FnExactWalkOf', WHERE WHAT IT READS IS OF BULK AT MOST 1048576: true; the input reads as it did. -/
def fnExactWalkOfUptoRow : OpenClaim := { program := "ytcpembfioelnlaa", sum := "ab04de0fae485be25fdff3626fe35150c53a8c9dc26dea8d250555214a0cf831", func := "loop.example/g01148/laws.FnExactWalkOf", spec := "fnExactWalkOf", apart := false, narrowed := true }
def FnExactWalkOfUptoSaid : Prop := fnExactWalkOfUptoRow.holds Try.pinned (OpenSpec.upto fnExactWalkOfSpec)

/-- 'laws.FnExactMirrorWalker', WHERE WHAT IT READS IS OF BULK AT MOST 1048576: true; the input reads as it did. -/
def fnExactMirrorWalkerUptoRow : OpenClaim := { program := "ytcpembfioelnlaa", sum := "ab04de0fae485be25fdff3626fe35150c53a8c9dc26dea8d250555214a0cf831", func := "loop.example/g01148/laws.FnExactMirrorWalker", spec := "fnExactMirrorWalker", apart := false, narrowed := true }
def FnExactMirrorWalkerUptoSaid : Prop := fnExactMirrorWalkerUptoRow.holds Try.pinned (OpenSpec.upto fnExactMirrorWalkerSpec)

/-- 'laws.FnExactLabelMoves', WHERE WHAT IT READS IS OF BULK AT MOST 1048576: true; the input reads as it did. -/
def fnExactLabelMovesUptoRow : OpenClaim := { program := "ytcpembfioelnlaa", sum := "ab04de0fae485be25fdff3626fe35150c53a8c9dc26dea8d250555214a0cf831", func := "loop.example/g01148/laws.FnExactLabelMoves", spec := "fnExactLabelMoves", apart := false, narrowed := true }
def FnExactLabelMovesUptoSaid : Prop := fnExactLabelMovesUptoRow.holds Try.pinned (OpenSpec.upto fnExactLabelMovesSpec)

/-- 'laws.FnExactDoubleLabel', WHERE WHAT IT READS IS OF BULK AT MOST 1048576: true; the input reads as it did. -/
def fnExactDoubleLabelUptoRow : OpenClaim := { program := "ytcpembfioelnlaa", sum := "ab04de0fae485be25fdff3626fe35150c53a8c9dc26dea8d250555214a0cf831", func := "loop.example/g01148/laws.FnExactDoubleLabel", spec := "fnExactDoubleLabel", apart := false, narrowed := true }
def FnExactDoubleLabelUptoSaid : Prop := fnExactDoubleLabelUptoRow.holds Try.pinned (OpenSpec.upto fnExactDoubleLabelSpec)

/-- 'laws.FnExactShiftWalk', WHERE WHAT IT READS IS OF BULK AT MOST 1048576: true; the input reads as it did. -/
def fnExactShiftWalkUptoRow : OpenClaim := { program := "ytcpembfioelnlaa", sum := "ab04de0fae485be25fdff3626fe35150c53a8c9dc26dea8d250555214a0cf831", func := "loop.example/g01148/laws.FnExactShiftWalk", spec := "fnExactShiftWalk", unfollowed := true, recurses := true, apart := false, narrowed := true }
def FnExactShiftWalkUptoSaid : Prop := fnExactShiftWalkUptoRow.holds Try.pinned (OpenSpec.upto fnExactShiftWalkSpec)

end Rows
end Go.Proofs.Ytcpembfioelnlaa
