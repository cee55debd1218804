/-
  No cell of these rows narrows 'for every input' (looked for: loops, veiled, ifaces, maps, wideKeys, modest, calm, conditions, laid).
  DERIVED. THE GIVEN ROWS OF THIS SEAT. 7 by the template 'for every input the law returns true; each argument reads behind the call as it read before'; 0 by the template 'total and deterministic' (their statements: YtekahkeddpngpaaTotals.lean).
  GIVEN WITH THE SEED: the statements are not yours to turn. If you find one false, say at which input.
  Laid BY PROGRAM, IN A SANDBOX (cutbox-rows.mjs): the forced cells as the released guide's own fill.sh prints them over the translation 53b1324d1899630d… (all of the seat's roots in one cut). By AI agents, Wed Nov 11 2026. No macro, syntax, notation, axiom, sorry.
-/
import Derived.Test.YtekahkeddpngpaaChecked
import GoSem.Claim
import GoSem.ClaimJoined
import GoSem.ClaimMapViews
import Derived.JoinedTies
import Derived.KernelRfl
namespace Go.Proofs.Ytekahkeddpngpaa
/- THE CELL 'sum', in the pinned program and in every row, IS THE sha256 OF THE DUMP (.gsa) THAT YtekahkeddpngpaaProg.lean LOADS. Nothing in Lean hashes anything: it is a label: what it is worth is what the hold of that sum in a sandbox is worth. -/
noncomputable def Try.pinned : Pinned := { name := "ytekahkeddpngpaa", sum := "53b1324d1899630d380de8359aa9a46d27752e661985ee525bc641e728d73f78", checked := Try.checked }
namespace Rows
def none {H : Type} : Left H := { results := [], args := [] }

/-- 'laws.FnExactReachTime': WHATEVER THE INPUT: true; the input reads as it did. -/
def fnExactReachTimeSpec : ChangeSpec := { name := "fnExactReachTime", fn := fun _ => fun
  | [d1, d2] => { results := [.lit (.bool true)], args := [d1, d2] }
  | _ => none }
def fnExactReachTimeRow : OpenClaim := { program := "ytekahkeddpngpaa", sum := "53b1324d1899630d380de8359aa9a46d27752e661985ee525bc641e728d73f78", func := "loop.example/g01148/laws.FnExactReachTime", spec := "fnExactReachTime", unfollowed := true, recurses := true, plainKeys := false, apart := false }
def FnExactReachTimeSaid : Prop := fnExactReachTimeRow.holds Try.pinned (OpenSpec.ofChange fnExactReachTimeSpec)

/-- ITS FALSE NEIGHBOUR: 'it returns false'. Refute it at one input. -/
def fnExactReachTimeWrong : ChangeSpec := { name := "fnExactReachTime", fn := fun _ => fun
  | [d1, d2] => { results := [.lit (.bool false)], args := [d1, d2] }
  | _ => none }
def FnExactReachTimeWrongFalsely : Prop := fnExactReachTimeRow.holds Try.pinned (OpenSpec.ofChange fnExactReachTimeWrong)

/-- 'laws.FnExactReturnTime': WHATEVER THE INPUT: true; the input reads as it did. -/
def fnExactReturnTimeSpec : ChangeSpec := { name := "fnExactReturnTime", fn := fun _ => fun
  | [d1, d2] => { results := [.lit (.bool true)], args := [d1, d2] }
  | _ => none }
def fnExactReturnTimeRow : OpenClaim := { program := "ytekahkeddpngpaa", sum := "53b1324d1899630d380de8359aa9a46d27752e661985ee525bc641e728d73f78", func := "loop.example/g01148/laws.FnExactReturnTime", spec := "fnExactReturnTime", unfollowed := true, recurses := true, plainKeys := false, apart := false }
def FnExactReturnTimeSaid : Prop := fnExactReturnTimeRow.holds Try.pinned (OpenSpec.ofChange fnExactReturnTimeSpec)

/-- ITS FALSE NEIGHBOUR: 'it returns false'. Refute it at one input. -/
def fnExactReturnTimeWrong : ChangeSpec := { name := "fnExactReturnTime", fn := fun _ => fun
  | [d1, d2] => { results := [.lit (.bool false)], args := [d1, d2] }
  | _ => none }
def FnExactReturnTimeWrongFalsely : Prop := fnExactReturnTimeRow.holds Try.pinned (OpenSpec.ofChange fnExactReturnTimeWrong)

/-- 'laws.FnExactFirstOrder': WHATEVER THE INPUT: true; the input reads as it did. -/
def fnExactFirstOrderSpec : ChangeSpec := { name := "fnExactFirstOrder", fn := fun _ => fun
  | [d1, d2, d3, d4] => { results := [.lit (.bool true)], args := [d1, d2, d3, d4] }
  | _ => none }
def fnExactFirstOrderRow : OpenClaim := { program := "ytekahkeddpngpaa", sum := "53b1324d1899630d380de8359aa9a46d27752e661985ee525bc641e728d73f78", func := "loop.example/g01148/laws.FnExactFirstOrder", spec := "fnExactFirstOrder", unfollowed := true, recurses := true, plainKeys := false, apart := false }
def FnExactFirstOrderSaid : Prop := fnExactFirstOrderRow.holds Try.pinned (OpenSpec.ofChange fnExactFirstOrderSpec)

/-- ITS FALSE NEIGHBOUR: 'it returns false'. Refute it at one input. -/
def fnExactFirstOrderWrong : ChangeSpec := { name := "fnExactFirstOrder", fn := fun _ => fun
  | [d1, d2, d3, d4] => { results := [.lit (.bool false)], args := [d1, d2, d3, d4] }
  | _ => none }
def FnExactFirstOrderWrongFalsely : Prop := fnExactFirstOrderRow.holds Try.pinned (OpenSpec.ofChange fnExactFirstOrderWrong)

/-- 'laws.FnExactCanReach': WHATEVER THE INPUT: true; the input reads as it did. -/
def fnExactCanReachSpec : ChangeSpec := { name := "fnExactCanReach", fn := fun _ => fun
  | [d1, d2, d3] => { results := [.lit (.bool true)], args := [d1, d2, d3] }
  | _ => none }
def fnExactCanReachRow : OpenClaim := { program := "ytekahkeddpngpaa", sum := "53b1324d1899630d380de8359aa9a46d27752e661985ee525bc641e728d73f78", func := "loop.example/g01148/laws.FnExactCanReach", spec := "fnExactCanReach", unfollowed := true, recurses := true, plainKeys := false, apart := false }
def FnExactCanReachSaid : Prop := fnExactCanReachRow.holds Try.pinned (OpenSpec.ofChange fnExactCanReachSpec)

/-- ITS FALSE NEIGHBOUR: 'it returns false'. Refute it at one input. -/
def fnExactCanReachWrong : ChangeSpec := { name := "fnExactCanReach", fn := fun _ => fun
  | [d1, d2, d3] => { results := [.lit (.bool false)], args := [d1, d2, d3] }
  | _ => none }
def FnExactCanReachWrongFalsely : Prop := fnExactCanReachRow.holds Try.pinned (OpenSpec.ofChange fnExactCanReachWrong)

/-- 'laws.FnExactLeastPrice': WHATEVER THE INPUT: true; the input reads as it did. -/
def fnExactLeastPriceSpec : ChangeSpec := { name := "fnExactLeastPrice", fn := fun _ => fun
  | [d1, d2, d3, d4] => { results := [.lit (.bool true)], args := [d1, d2, d3, d4] }
  | _ => none }
def fnExactLeastPriceRow : OpenClaim := { program := "ytekahkeddpngpaa", sum := "53b1324d1899630d380de8359aa9a46d27752e661985ee525bc641e728d73f78", func := "loop.example/g01148/laws.FnExactLeastPrice", spec := "fnExactLeastPrice", unfollowed := true, recurses := true, plainKeys := false, apart := false }
def FnExactLeastPriceSaid : Prop := fnExactLeastPriceRow.holds Try.pinned (OpenSpec.ofChange fnExactLeastPriceSpec)

/-- ITS FALSE NEIGHBOUR: 'it returns false'. Refute it at one input. -/
def fnExactLeastPriceWrong : ChangeSpec := { name := "fnExactLeastPrice", fn := fun _ => fun
  | [d1, d2, d3, d4] => { results := [.lit (.bool false)], args := [d1, d2, d3, d4] }
  | _ => none }
def FnExactLeastPriceWrongFalsely : Prop := fnExactLeastPriceRow.holds Try.pinned (OpenSpec.ofChange fnExactLeastPriceWrong)

/-- 'laws.FnExactFirstArrival': WHATEVER THE INPUT: true; the input reads as it did. -/
def fnExactFirstArrivalSpec : ChangeSpec := { name := "fnExactFirstArrival", fn := fun _ => fun
  | [d1, d2, d3, d4] => { results := [.lit (.bool true)], args := [d1, d2, d3, d4] }
  | _ => none }
def fnExactFirstArrivalRow : OpenClaim := { program := "ytekahkeddpngpaa", sum := "53b1324d1899630d380de8359aa9a46d27752e661985ee525bc641e728d73f78", func := "loop.example/g01148/laws.FnExactFirstArrival", spec := "fnExactFirstArrival", unfollowed := true, recurses := true, plainKeys := false, apart := false }
def FnExactFirstArrivalSaid : Prop := fnExactFirstArrivalRow.holds Try.pinned (OpenSpec.ofChange fnExactFirstArrivalSpec)

/-- ITS FALSE NEIGHBOUR: 'it returns false'. Refute it at one input. -/
def fnExactFirstArrivalWrong : ChangeSpec := { name := "fnExactFirstArrival", fn := fun _ => fun
  | [d1, d2, d3, d4] => { results := [.lit (.bool false)], args := [d1, d2, d3, d4] }
  | _ => none }
def FnExactFirstArrivalWrongFalsely : Prop := fnExactFirstArrivalRow.holds Try.pinned (OpenSpec.ofChange fnExactFirstArrivalWrong)

/-- 'laws.FnExactFewestCarriers': WHATEVER THE INPUT: true; the input reads as it did. -/
def fnExactFewestCarriersSpec : ChangeSpec := { name := "fnExactFewestCarriers", fn := fun _ => fun
  | [d1, d2, d3, d4] => { results := [.lit (.bool true)], args := [d1, d2, d3, d4] }
  | _ => none }
def fnExactFewestCarriersRow : OpenClaim := { program := "ytekahkeddpngpaa", sum := "53b1324d1899630d380de8359aa9a46d27752e661985ee525bc641e728d73f78", func := "loop.example/g01148/laws.FnExactFewestCarriers", spec := "fnExactFewestCarriers", plainKeys := false, apart := false }
def FnExactFewestCarriersSaid : Prop := fnExactFewestCarriersRow.holds Try.pinned (OpenSpec.ofChange fnExactFewestCarriersSpec)

/-- ITS FALSE NEIGHBOUR: 'it returns false'. Refute it at one input. -/
def fnExactFewestCarriersWrong : ChangeSpec := { name := "fnExactFewestCarriers", fn := fun _ => fun
  | [d1, d2, d3, d4] => { results := [.lit (.bool false)], args := [d1, d2, d3, d4] }
  | _ => none }
def FnExactFewestCarriersWrongFalsely : Prop := fnExactFewestCarriersRow.holds Try.pinned (OpenSpec.ofChange fnExactFewestCarriersWrong)

/- THE SECOND FORM. 'bulk': how many values and letters a reading holds, each counted each time it is reached (what is shared counts as often as it is met; a slice's spare places count too). A statement '..UptoSaid' is the law's where the arguments, and the package variables that the reading takes, are together of bulk at most 1048576: NARROWER than '..Said'. Prove '..Said' where nothing that the law and all that it calls make is longer than what came in: it says more and counts as full. Else prove '..UptoSaid'. A law counts once. -/
mutual
def uptoBulk {H : Type} : DataW H → Nat
  | .lit (.string bytes) => bytes.length + 1
  | .lit _ => 1
  | .nil => 1
  | .ptr d => uptoBulk d + 1
  | .slice elems spare => uptoBulkAll elems + uptoBulkAll spare + 1
  | .agg parts => uptoBulkAll parts + 1
  | .iface _ d => uptoBulk d + 1
  | .map entries => uptoBulkEntries entries + 1
  | .held _ => 1
def uptoBulkAll {H : Type} : List (DataW H) → Nat
  | [] => 0
  | d :: r => uptoBulk d + uptoBulkAll r
def uptoBulkEntries {H : Type} : List (Lit × DataW H) → Nat
  | [] => 0
  | x :: r => uptoBulkEntry x + uptoBulkEntries r
def uptoBulkEntry {H : Type} : Lit × DataW H → Nat
  | (.string bytes, d) => bytes.length + uptoBulk d + 1
  | (_, d) => uptoBulk d + 1
 end
def uptoSmall : (H : Type) → List (DataW H) → Bool := fun _ ds => decide (uptoBulkAll ds ≤ 1048576)
def OpenSpec.upto (s : _root_.Go.ChangeSpec) : _root_.Go.OpenSpec := { _root_.Go.OpenSpec.ofChange s with cond := some uptoSmall }

/-- 'laws.FnExactReachTime', WHERE WHAT IT READS IS OF BULK AT MOST 1048576: true; the input reads as it did. -/
def fnExactReachTimeUptoRow : OpenClaim := { program := "ytekahkeddpngpaa", sum := "53b1324d1899630d380de8359aa9a46d27752e661985ee525bc641e728d73f78", func := "loop.example/g01148/laws.FnExactReachTime", spec := "fnExactReachTime", unfollowed := true, recurses := true, plainKeys := false, apart := false, narrowed := true }
def FnExactReachTimeUptoSaid : Prop := fnExactReachTimeUptoRow.holds Try.pinned (OpenSpec.upto fnExactReachTimeSpec)

/-- 'laws.FnExactReturnTime', WHERE WHAT IT READS IS OF BULK AT MOST 1048576: true; the input reads as it did. -/
def fnExactReturnTimeUptoRow : OpenClaim := { program := "ytekahkeddpngpaa", sum := "53b1324d1899630d380de8359aa9a46d27752e661985ee525bc641e728d73f78", func := "loop.example/g01148/laws.FnExactReturnTime", spec := "fnExactReturnTime", unfollowed := true, recurses := true, plainKeys := false, apart := false, narrowed := true }
def FnExactReturnTimeUptoSaid : Prop := fnExactReturnTimeUptoRow.holds Try.pinned (OpenSpec.upto fnExactReturnTimeSpec)

/-- 'laws.FnExactFirstOrder', WHERE WHAT IT READS IS OF BULK AT MOST 1048576: true; the input reads as it did. -/
def fnExactFirstOrderUptoRow : OpenClaim := { program := "ytekahkeddpngpaa", sum := "53b1324d1899630d380de8359aa9a46d27752e661985ee525bc641e728d73f78", func := "loop.example/g01148/laws.FnExactFirstOrder", spec := "fnExactFirstOrder", unfollowed := true, recurses := true, plainKeys := false, apart := false, narrowed := true }
def FnExactFirstOrderUptoSaid : Prop := fnExactFirstOrderUptoRow.holds Try.pinned (OpenSpec.upto fnExactFirstOrderSpec)

/-- 'laws.FnExactCanReach', WHERE WHAT IT READS IS OF BULK AT MOST 1048576: true; the input reads as it did. -/
def fnExactCanReachUptoRow : OpenClaim := { program := "ytekahkeddpngpaa", sum := "53b1324d1899630d380de8359aa9a46d27752e661985ee525bc641e728d73f78", func := "loop.example/g01148/laws.FnExactCanReach", spec := "fnExactCanReach", unfollowed := true, recurses := true, plainKeys := false, apart := false, narrowed := true }
def FnExactCanReachUptoSaid : Prop := fnExactCanReachUptoRow.holds Try.pinned (OpenSpec.upto fnExactCanReachSpec)

/-- 'laws.FnExactLeastPrice', WHERE WHAT IT READS IS OF BULK AT MOST 1048576: true; the input reads as it did. -/
def fnExactLeastPriceUptoRow : OpenClaim := { program := "ytekahkeddpngpaa", sum := "53b1324d1899630d380de8359aa9a46d27752e661985ee525bc641e728d73f78", func := "loop.example/g01148/laws.FnExactLeastPrice", spec := "fnExactLeastPrice", unfollowed := true, recurses := true, plainKeys := false, apart := false, narrowed := true }
def FnExactLeastPriceUptoSaid : Prop := fnExactLeastPriceUptoRow.holds Try.pinned (OpenSpec.upto fnExactLeastPriceSpec)

/-- 'laws.FnExactFirstArrival', WHERE WHAT IT READS IS OF BULK AT MOST 1048576: true; the input reads as it did. -/
def fnExactFirstArrivalUptoRow : OpenClaim := { program := "ytekahkeddpngpaa", sum := "53b1324d1899630d380de8359aa9a46d27752e661985ee525bc641e728d73f78", func := "loop.example/g01148/laws.FnExactFirstArrival", spec := "fnExactFirstArrival", unfollowed := true, recurses := true, plainKeys := false, apart := false, narrowed := true }
def FnExactFirstArrivalUptoSaid : Prop := fnExactFirstArrivalUptoRow.holds Try.pinned (OpenSpec.upto fnExactFirstArrivalSpec)

/-- 'laws.FnExactFewestCarriers', WHERE WHAT IT READS IS OF BULK AT MOST 1048576: true; the input reads as it did. -/
def fnExactFewestCarriersUptoRow : OpenClaim := { program := "ytekahkeddpngpaa", sum := "53b1324d1899630d380de8359aa9a46d27752e661985ee525bc641e728d73f78", func := "loop.example/g01148/laws.FnExactFewestCarriers", spec := "fnExactFewestCarriers", plainKeys := false, apart := false, narrowed := true }
def FnExactFewestCarriersUptoSaid : Prop := fnExactFewestCarriersUptoRow.holds Try.pinned (OpenSpec.upto fnExactFewestCarriersSpec)

end Rows
end Go.Proofs.Ytekahkeddpngpaa
