/-
  No cell of these rows narrows 'for every input' (looked for: loops, veiled, ifaces, maps, wideKeys, modest, calm, conditions, laid).
  DERIVED. THE GIVEN ROWS OF THIS SEAT. 16 by the template 'for every input the law returns true; each argument reads behind the call as it read before'; 0 by the template 'total and deterministic' (their statements: YtgchodielkodeaaTotals.lean).
  GIVEN WITH THE SEED: the statements are not yours to turn. If you find one false, say at which input.
  Laid BY PROGRAM, IN A SANDBOX (cutbox-rows.mjs): the forced cells as the released guide's own fill.sh prints them over the translation d8e2fd41a5bfdce7… (all of the seat's roots in one cut). By AI agents, Wed Nov 11 2026. No macro, syntax, notation, axiom, sorry.
-/
import Derived.Test.YtgchodielkodeaaChecked
import GoSem.Claim
import GoSem.ClaimJoined
import GoSem.ClaimMapViews
import Derived.JoinedTies
import Derived.KernelRfl
namespace Go.Proofs.Ytgchodielkodeaa
/- THE CELL 'sum', in the pinned program and in every row, IS THE sha256 OF THE DUMP (.gsa) THAT YtgchodielkodeaaProg.lean LOADS. Nothing in Lean hashes anything: it is a label: what it is worth is what the hold of that sum in a sandbox is worth. -/
noncomputable def Try.pinned : Pinned := { name := "ytgchodielkodeaa", sum := "d8e2fd41a5bfdce74b1289d15f88025f79414dedc67b7850b5f7218623b24932", checked := Try.checked }
namespace Rows
def none {H : Type} : Left H := { results := [], args := [] }

/-- 'laws.FnExactAreCarriers': WHATEVER THE INPUT: true; the input reads as it did. -/
def fnExactAreCarriersSpec : ChangeSpec := { name := "fnExactAreCarriers", fn := fun _ => fun
  | [d1, d2] => { results := [.lit (.bool true)], args := [d1, d2] }
  | _ => none }
def fnExactAreCarriersRow : OpenClaim := { program := "ytgchodielkodeaa", sum := "d8e2fd41a5bfdce74b1289d15f88025f79414dedc67b7850b5f7218623b24932", func := "loop.example/g01148/laws.FnExactAreCarriers", spec := "fnExactAreCarriers", plainKeys := false, apart := false }
def FnExactAreCarriersSaid : Prop := fnExactAreCarriersRow.holds Try.pinned (OpenSpec.ofChange fnExactAreCarriersSpec)

/-- ITS FALSE NEIGHBOUR: 'it returns false'. Refute it at one input. -/
def fnExactAreCarriersWrong : ChangeSpec := { name := "fnExactAreCarriers", fn := fun _ => fun
  | [d1, d2] => { results := [.lit (.bool false)], args := [d1, d2] }
  | _ => none }
def FnExactAreCarriersWrongFalsely : Prop := fnExactAreCarriersRow.holds Try.pinned (OpenSpec.ofChange fnExactAreCarriersWrong)

/-- 'laws.FnExactLegEnd': WHATEVER THE INPUT: true; the input reads as it did. -/
def fnExactLegEndSpec : ChangeSpec := { name := "fnExactLegEnd", fn := fun _ => fun
  | [d1, d2, d3] => { results := [.lit (.bool true)], args := [d1, d2, d3] }
  | _ => none }
def fnExactLegEndRow : OpenClaim := { program := "ytgchodielkodeaa", sum := "d8e2fd41a5bfdce74b1289d15f88025f79414dedc67b7850b5f7218623b24932", func := "loop.example/g01148/laws.FnExactLegEnd", spec := "fnExactLegEnd", plainKeys := false, apart := false }
def FnExactLegEndSaid : Prop := fnExactLegEndRow.holds Try.pinned (OpenSpec.ofChange fnExactLegEndSpec)

/-- ITS FALSE NEIGHBOUR: 'it returns false'. Refute it at one input. -/
def fnExactLegEndWrong : ChangeSpec := { name := "fnExactLegEnd", fn := fun _ => fun
  | [d1, d2, d3] => { results := [.lit (.bool false)], args := [d1, d2, d3] }
  | _ => none }
def FnExactLegEndWrongFalsely : Prop := fnExactLegEndRow.holds Try.pinned (OpenSpec.ofChange fnExactLegEndWrong)

/-- 'laws.FnExactOrderReach': WHATEVER THE INPUT: true; the input reads as it did. -/
def fnExactOrderReachSpec : ChangeSpec := { name := "fnExactOrderReach", fn := fun _ => fun
  | [d1, d2, d3, d4] => { results := [.lit (.bool true)], args := [d1, d2, d3, d4] }
  | _ => none }
def fnExactOrderReachRow : OpenClaim := { program := "ytgchodielkodeaa", sum := "d8e2fd41a5bfdce74b1289d15f88025f79414dedc67b7850b5f7218623b24932", func := "loop.example/g01148/laws.FnExactOrderReach", spec := "fnExactOrderReach", plainKeys := false, apart := false }
def FnExactOrderReachSaid : Prop := fnExactOrderReachRow.holds Try.pinned (OpenSpec.ofChange fnExactOrderReachSpec)

/-- ITS FALSE NEIGHBOUR: 'it returns false'. Refute it at one input. -/
def fnExactOrderReachWrong : ChangeSpec := { name := "fnExactOrderReach", fn := fun _ => fun
  | [d1, d2, d3, d4] => { results := [.lit (.bool false)], args := [d1, d2, d3, d4] }
  | _ => none }
def FnExactOrderReachWrongFalsely : Prop := fnExactOrderReachRow.holds Try.pinned (OpenSpec.ofChange fnExactOrderReachWrong)

/-- 'laws.FnExactGreatestReach': WHATEVER THE INPUT: true; the input reads as it did. -/
def fnExactGreatestReachSpec : ChangeSpec := { name := "fnExactGreatestReach", fn := fun _ => fun
  | [d1, d2, d3] => { results := [.lit (.bool true)], args := [d1, d2, d3] }
  | _ => none }
def fnExactGreatestReachRow : OpenClaim := { program := "ytgchodielkodeaa", sum := "d8e2fd41a5bfdce74b1289d15f88025f79414dedc67b7850b5f7218623b24932", func := "loop.example/g01148/laws.FnExactGreatestReach", spec := "fnExactGreatestReach", unfollowed := true, recurses := true, plainKeys := false, apart := false }
def FnExactGreatestReachSaid : Prop := fnExactGreatestReachRow.holds Try.pinned (OpenSpec.ofChange fnExactGreatestReachSpec)

/-- ITS FALSE NEIGHBOUR: 'it returns false'. Refute it at one input. -/
def fnExactGreatestReachWrong : ChangeSpec := { name := "fnExactGreatestReach", fn := fun _ => fun
  | [d1, d2, d3] => { results := [.lit (.bool false)], args := [d1, d2, d3] }
  | _ => none }
def FnExactGreatestReachWrongFalsely : Prop := fnExactGreatestReachRow.holds Try.pinned (OpenSpec.ofChange fnExactGreatestReachWrong)

/-- 'laws.FnExactReachOrder': WHATEVER THE INPUT: true; the input reads as it did. -/
def fnExactReachOrderSpec : ChangeSpec := { name := "fnExactReachOrder", fn := fun _ => fun
  | [d1, d2, d3, d4] => { results := [.lit (.bool true)], args := [d1, d2, d3, d4] }
  | _ => none }
def fnExactReachOrderRow : OpenClaim := { program := "ytgchodielkodeaa", sum := "d8e2fd41a5bfdce74b1289d15f88025f79414dedc67b7850b5f7218623b24932", func := "loop.example/g01148/laws.FnExactReachOrder", spec := "fnExactReachOrder", plainKeys := false, apart := false }
def FnExactReachOrderSaid : Prop := fnExactReachOrderRow.holds Try.pinned (OpenSpec.ofChange fnExactReachOrderSpec)

/-- ITS FALSE NEIGHBOUR: 'it returns false'. Refute it at one input. -/
def fnExactReachOrderWrong : ChangeSpec := { name := "fnExactReachOrder", fn := fun _ => fun
  | [d1, d2, d3, d4] => { results := [.lit (.bool false)], args := [d1, d2, d3, d4] }
  | _ => none }
def FnExactReachOrderWrongFalsely : Prop := fnExactReachOrderRow.holds Try.pinned (OpenSpec.ofChange fnExactReachOrderWrong)

/-- 'laws.FnExactIsRelay': WHATEVER THE INPUT: true; the input reads as it did. -/
def fnExactIsRelaySpec : ChangeSpec := { name := "fnExactIsRelay", fn := fun _ => fun
  | [d1, d2, d3, d4, d5] => { results := [.lit (.bool true)], args := [d1, d2, d3, d4, d5] }
  | _ => none }
def fnExactIsRelayRow : OpenClaim := { program := "ytgchodielkodeaa", sum := "d8e2fd41a5bfdce74b1289d15f88025f79414dedc67b7850b5f7218623b24932", func := "loop.example/g01148/laws.FnExactIsRelay", spec := "fnExactIsRelay", plainKeys := false, apart := false }
def FnExactIsRelaySaid : Prop := fnExactIsRelayRow.holds Try.pinned (OpenSpec.ofChange fnExactIsRelaySpec)

/-- ITS FALSE NEIGHBOUR: 'it returns false'. Refute it at one input. -/
def fnExactIsRelayWrong : ChangeSpec := { name := "fnExactIsRelay", fn := fun _ => fun
  | [d1, d2, d3, d4, d5] => { results := [.lit (.bool false)], args := [d1, d2, d3, d4, d5] }
  | _ => none }
def FnExactIsRelayWrongFalsely : Prop := fnExactIsRelayRow.holds Try.pinned (OpenSpec.ofChange fnExactIsRelayWrong)

/-- 'laws.FnExactRelayPrice': WHATEVER THE INPUT: true; the input reads as it did. -/
def fnExactRelayPriceSpec : ChangeSpec := { name := "fnExactRelayPrice", fn := fun _ => fun
  | [d1, d2, d3, d4, d5] => { results := [.lit (.bool true)], args := [d1, d2, d3, d4, d5] }
  | _ => none }
def fnExactRelayPriceRow : OpenClaim := { program := "ytgchodielkodeaa", sum := "d8e2fd41a5bfdce74b1289d15f88025f79414dedc67b7850b5f7218623b24932", func := "loop.example/g01148/laws.FnExactRelayPrice", spec := "fnExactRelayPrice", unfollowed := true, recurses := true, plainKeys := false, apart := false }
def FnExactRelayPriceSaid : Prop := fnExactRelayPriceRow.holds Try.pinned (OpenSpec.ofChange fnExactRelayPriceSpec)

/-- ITS FALSE NEIGHBOUR: 'it returns false'. Refute it at one input. -/
def fnExactRelayPriceWrong : ChangeSpec := { name := "fnExactRelayPrice", fn := fun _ => fun
  | [d1, d2, d3, d4, d5] => { results := [.lit (.bool false)], args := [d1, d2, d3, d4, d5] }
  | _ => none }
def FnExactRelayPriceWrongFalsely : Prop := fnExactRelayPriceRow.holds Try.pinned (OpenSpec.ofChange fnExactRelayPriceWrong)

/-- 'laws.FnExactRelayArrival': WHATEVER THE INPUT: true; the input reads as it did. -/
def fnExactRelayArrivalSpec : ChangeSpec := { name := "fnExactRelayArrival", fn := fun _ => fun
  | [d1, d2, d3, d4, d5] => { results := [.lit (.bool true)], args := [d1, d2, d3, d4, d5] }
  | _ => none }
def fnExactRelayArrivalRow : OpenClaim := { program := "ytgchodielkodeaa", sum := "d8e2fd41a5bfdce74b1289d15f88025f79414dedc67b7850b5f7218623b24932", func := "loop.example/g01148/laws.FnExactRelayArrival", spec := "fnExactRelayArrival", unfollowed := true, recurses := true, plainKeys := false, apart := false }
def FnExactRelayArrivalSaid : Prop := fnExactRelayArrivalRow.holds Try.pinned (OpenSpec.ofChange fnExactRelayArrivalSpec)

/-- ITS FALSE NEIGHBOUR: 'it returns false'. Refute it at one input. -/
def fnExactRelayArrivalWrong : ChangeSpec := { name := "fnExactRelayArrival", fn := fun _ => fun
  | [d1, d2, d3, d4, d5] => { results := [.lit (.bool false)], args := [d1, d2, d3, d4, d5] }
  | _ => none }
def FnExactRelayArrivalWrongFalsely : Prop := fnExactRelayArrivalRow.holds Try.pinned (OpenSpec.ofChange fnExactRelayArrivalWrong)

/-- 'laws.FnExactLeastPrice': WHATEVER THE INPUT: true; the input reads as it did. -/
def fnExactLeastPriceSpec : ChangeSpec := { name := "fnExactLeastPrice", fn := fun _ => fun
  | [d1, d2, d3, d4] => { results := [.lit (.bool true)], args := [d1, d2, d3, d4] }
  | _ => none }
def fnExactLeastPriceRow : OpenClaim := { program := "ytgchodielkodeaa", sum := "d8e2fd41a5bfdce74b1289d15f88025f79414dedc67b7850b5f7218623b24932", func := "loop.example/g01148/laws.FnExactLeastPrice", spec := "fnExactLeastPrice", unfollowed := true, recurses := true, plainKeys := false, apart := false }
def FnExactLeastPriceSaid : Prop := fnExactLeastPriceRow.holds Try.pinned (OpenSpec.ofChange fnExactLeastPriceSpec)

/-- ITS FALSE NEIGHBOUR: 'it returns false'. Refute it at one input. -/
def fnExactLeastPriceWrong : ChangeSpec := { name := "fnExactLeastPrice", fn := fun _ => fun
  | [d1, d2, d3, d4] => { results := [.lit (.bool false)], args := [d1, d2, d3, d4] }
  | _ => none }
def FnExactLeastPriceWrongFalsely : Prop := fnExactLeastPriceRow.holds Try.pinned (OpenSpec.ofChange fnExactLeastPriceWrong)

/-- 'laws.FnExactFirstArrival': WHATEVER THE INPUT: true; the input reads as it did. -/
def fnExactFirstArrivalSpec : ChangeSpec := { name := "fnExactFirstArrival", fn := fun _ => fun
  | [d1, d2, d3, d4] => { results := [.lit (.bool true)], args := [d1, d2, d3, d4] }
  | _ => none }
def fnExactFirstArrivalRow : OpenClaim := { program := "ytgchodielkodeaa", sum := "d8e2fd41a5bfdce74b1289d15f88025f79414dedc67b7850b5f7218623b24932", func := "loop.example/g01148/laws.FnExactFirstArrival", spec := "fnExactFirstArrival", unfollowed := true, recurses := true, plainKeys := false, apart := false }
def FnExactFirstArrivalSaid : Prop := fnExactFirstArrivalRow.holds Try.pinned (OpenSpec.ofChange fnExactFirstArrivalSpec)

/-- ITS FALSE NEIGHBOUR: 'it returns false'. Refute it at one input. -/
def fnExactFirstArrivalWrong : ChangeSpec := { name := "fnExactFirstArrival", fn := fun _ => fun
  | [d1, d2, d3, d4] => { results := [.lit (.bool false)], args := [d1, d2, d3, d4] }
  | _ => none }
def FnExactFirstArrivalWrongFalsely : Prop := fnExactFirstArrivalRow.holds Try.pinned (OpenSpec.ofChange fnExactFirstArrivalWrong)

/-- 'laws.FnExactExtraRange': WHATEVER THE INPUT: true; the input reads as it did. -/
def fnExactExtraRangeSpec : ChangeSpec := { name := "fnExactExtraRange", fn := fun _ => fun
  | [d1, d2, d3, d4] => { results := [.lit (.bool true)], args := [d1, d2, d3, d4] }
  | _ => none }
def fnExactExtraRangeRow : OpenClaim := { program := "ytgchodielkodeaa", sum := "d8e2fd41a5bfdce74b1289d15f88025f79414dedc67b7850b5f7218623b24932", func := "loop.example/g01148/laws.FnExactExtraRange", spec := "fnExactExtraRange", unfollowed := true, recurses := true, plainKeys := false, apart := false }
def FnExactExtraRangeSaid : Prop := fnExactExtraRangeRow.holds Try.pinned (OpenSpec.ofChange fnExactExtraRangeSpec)

/-- ITS FALSE NEIGHBOUR: 'it returns false'. Refute it at one input. -/
def fnExactExtraRangeWrong : ChangeSpec := { name := "fnExactExtraRange", fn := fun _ => fun
  | [d1, d2, d3, d4] => { results := [.lit (.bool false)], args := [d1, d2, d3, d4] }
  | _ => none }
def FnExactExtraRangeWrongFalsely : Prop := fnExactExtraRangeRow.holds Try.pinned (OpenSpec.ofChange fnExactExtraRangeWrong)

/-- 'laws.FnExactFewestCarriers': WHATEVER THE INPUT: true; the input reads as it did. -/
def fnExactFewestCarriersSpec : ChangeSpec := { name := "fnExactFewestCarriers", fn := fun _ => fun
  | [d1, d2, d3, d4] => { results := [.lit (.bool true)], args := [d1, d2, d3, d4] }
  | _ => none }
def fnExactFewestCarriersRow : OpenClaim := { program := "ytgchodielkodeaa", sum := "d8e2fd41a5bfdce74b1289d15f88025f79414dedc67b7850b5f7218623b24932", func := "loop.example/g01148/laws.FnExactFewestCarriers", spec := "fnExactFewestCarriers", plainKeys := false, apart := false }
def FnExactFewestCarriersSaid : Prop := fnExactFewestCarriersRow.holds Try.pinned (OpenSpec.ofChange fnExactFewestCarriersSpec)

/-- ITS FALSE NEIGHBOUR: 'it returns false'. Refute it at one input. -/
def fnExactFewestCarriersWrong : ChangeSpec := { name := "fnExactFewestCarriers", fn := fun _ => fun
  | [d1, d2, d3, d4] => { results := [.lit (.bool false)], args := [d1, d2, d3, d4] }
  | _ => none }
def FnExactFewestCarriersWrongFalsely : Prop := fnExactFewestCarriersRow.holds Try.pinned (OpenSpec.ofChange fnExactFewestCarriersWrong)

/-- 'laws.FnExactReachTime': WHATEVER THE INPUT: true; the input reads as it did. -/
def fnExactReachTimeSpec : ChangeSpec := { name := "fnExactReachTime", fn := fun _ => fun
  | [d1, d2] => { results := [.lit (.bool true)], args := [d1, d2] }
  | _ => none }
def fnExactReachTimeRow : OpenClaim := { program := "ytgchodielkodeaa", sum := "d8e2fd41a5bfdce74b1289d15f88025f79414dedc67b7850b5f7218623b24932", func := "loop.example/g01148/laws.FnExactReachTime", spec := "fnExactReachTime", unfollowed := true, recurses := true, plainKeys := false, apart := false }
def FnExactReachTimeSaid : Prop := fnExactReachTimeRow.holds Try.pinned (OpenSpec.ofChange fnExactReachTimeSpec)

/-- ITS FALSE NEIGHBOUR: 'it returns false'. Refute it at one input. -/
def fnExactReachTimeWrong : ChangeSpec := { name := "fnExactReachTime", fn := fun _ => fun
  | [d1, d2] => { results := [.lit (.bool false)], args := [d1, d2] }
  | _ => none }
def FnExactReachTimeWrongFalsely : Prop := fnExactReachTimeRow.holds Try.pinned (OpenSpec.ofChange fnExactReachTimeWrong)

/-- 'laws.FnExactReturnTime': WHATEVER THE INPUT: true; the input reads as it did. -/
def fnExactReturnTimeSpec : ChangeSpec := { name := "fnExactReturnTime", fn := fun _ => fun
  | [d1, d2] => { results := [.lit (.bool true)], args := [d1, d2] }
  | _ => none }
def fnExactReturnTimeRow : OpenClaim := { program := "ytgchodielkodeaa", sum := "d8e2fd41a5bfdce74b1289d15f88025f79414dedc67b7850b5f7218623b24932", func := "loop.example/g01148/laws.FnExactReturnTime", spec := "fnExactReturnTime", unfollowed := true, recurses := true, plainKeys := false, apart := false }
def FnExactReturnTimeSaid : Prop := fnExactReturnTimeRow.holds Try.pinned (OpenSpec.ofChange fnExactReturnTimeSpec)

/-- ITS FALSE NEIGHBOUR: 'it returns false'. Refute it at one input. -/
def fnExactReturnTimeWrong : ChangeSpec := { name := "fnExactReturnTime", fn := fun _ => fun
  | [d1, d2] => { results := [.lit (.bool false)], args := [d1, d2] }
  | _ => none }
def FnExactReturnTimeWrongFalsely : Prop := fnExactReturnTimeRow.holds Try.pinned (OpenSpec.ofChange fnExactReturnTimeWrong)

/-- 'laws.FnExactFirstOrder': WHATEVER THE INPUT: true; the input reads as it did. -/
def fnExactFirstOrderSpec : ChangeSpec := { name := "fnExactFirstOrder", fn := fun _ => fun
  | [d1, d2, d3, d4] => { results := [.lit (.bool true)], args := [d1, d2, d3, d4] }
  | _ => none }
def fnExactFirstOrderRow : OpenClaim := { program := "ytgchodielkodeaa", sum := "d8e2fd41a5bfdce74b1289d15f88025f79414dedc67b7850b5f7218623b24932", func := "loop.example/g01148/laws.FnExactFirstOrder", spec := "fnExactFirstOrder", unfollowed := true, recurses := true, plainKeys := false, apart := false }
def FnExactFirstOrderSaid : Prop := fnExactFirstOrderRow.holds Try.pinned (OpenSpec.ofChange fnExactFirstOrderSpec)

/-- ITS FALSE NEIGHBOUR: 'it returns false'. Refute it at one input. -/
def fnExactFirstOrderWrong : ChangeSpec := { name := "fnExactFirstOrder", fn := fun _ => fun
  | [d1, d2, d3, d4] => { results := [.lit (.bool false)], args := [d1, d2, d3, d4] }
  | _ => none }
def FnExactFirstOrderWrongFalsely : Prop := fnExactFirstOrderRow.holds Try.pinned (OpenSpec.ofChange fnExactFirstOrderWrong)

/-- 'laws.FnExactCanReach': WHATEVER THE INPUT: true; the input reads as it did. -/
def fnExactCanReachSpec : ChangeSpec := { name := "fnExactCanReach", fn := fun _ => fun
  | [d1, d2, d3] => { results := [.lit (.bool true)], args := [d1, d2, d3] }
  | _ => none }
def fnExactCanReachRow : OpenClaim := { program := "ytgchodielkodeaa", sum := "d8e2fd41a5bfdce74b1289d15f88025f79414dedc67b7850b5f7218623b24932", func := "loop.example/g01148/laws.FnExactCanReach", spec := "fnExactCanReach", unfollowed := true, recurses := true, plainKeys := false, apart := false }
def FnExactCanReachSaid : Prop := fnExactCanReachRow.holds Try.pinned (OpenSpec.ofChange fnExactCanReachSpec)

/-- ITS FALSE NEIGHBOUR: 'it returns false'. Refute it at one input. -/
def fnExactCanReachWrong : ChangeSpec := { name := "fnExactCanReach", fn := fun _ => fun
  | [d1, d2, d3] => { results := [.lit (.bool false)], args := [d1, d2, d3] }
  | _ => none }
def FnExactCanReachWrongFalsely : Prop := fnExactCanReachRow.holds Try.pinned (OpenSpec.ofChange fnExactCanReachWrong)

/- THE SECOND FORM. 'bulk': how many values and letters a reading holds, each counted each time it is reached (what is shared counts as often as it is met; a slice's spare places count too). A statement '..UptoSaid' is the law's where the arguments, and the package variables that the reading takes, are together of bulk at most 1048576: NARROWER than '..Said'. Prove '..Said' where nothing that the law and all that it calls make is longer than what came in: it says more and counts as full. Else prove '..UptoSaid'. A law counts once. -/
mutual
def uptoBulk {H : Type} : DataW H → Nat
  | .lit (.string bytes) => bytes.length + 1
  | .lit _ => 1
  | .nil => 1
  | .ptr d => uptoBulk d + 1
  | .slice elems spare => uptoBulkAll elems + uptoBulkAll spare + 1
  | .agg parts => uptoBulkAll parts + 1
  | .iface _ d => uptoBulk d + 1
  | .map entries => uptoBulkEntries entries + 1
  | .held _ => 1
def uptoBulkAll {H : Type} : List (DataW H) → Nat
  | [] => 0
  | d :: r => uptoBulk d + uptoBulkAll r
def uptoBulkEntries {H : Type} : List (Lit × DataW H) → Nat
  | [] => 0
  | x :: r => uptoBulkEntry x + uptoBulkEntries r
def uptoBulkEntry {H : Type} : Lit × DataW H → Nat
  | (.string bytes, d) => bytes.length + uptoBulk d + 1
  | (_, d) => uptoBulk d + 1
 end
def uptoSmall : (H : Type) → List (DataW H) → Bool := fun _ ds => decide (uptoBulkAll ds ≤ 1048576)
def OpenSpec.upto (s : _root_.Go.ChangeSpec) : _root_.Go.OpenSpec := { _root_.Go.OpenSpec.ofChange s with cond := some uptoSmall }

/-- 'laws.FnExactAreCarriers', WHERE WHAT IT READS IS OF BULK AT MOST 1048576: true; the input reads as it did. -/
def fnExactAreCarriersUptoRow : OpenClaim := { program := "ytgchodielkodeaa", sum := "d8e2fd41a5bfdce74b1289d15f88025f79414dedc67b7850b5f7218623b24932", func := "loop.example/g01148/laws.FnExactAreCarriers", spec := "fnExactAreCarriers", plainKeys := false, apart := false, narrowed := true }
def FnExactAreCarriersUptoSaid : Prop := fnExactAreCarriersUptoRow.holds Try.pinned (OpenSpec.upto fnExactAreCarriersSpec)

/-- 'laws.FnExactLegEnd', WHERE WHAT IT READS IS OF BULK AT MOST 1048576: true; the input reads as it did. -/
def fnExactLegEndUptoRow : OpenClaim := { program := "ytgchodielkodeaa", sum := "d8e2fd41a5bfdce74b1289d15f88025f79414dedc67b7850b5f7218623b24932", func := "loop.example/g01148/laws.FnExactLegEnd", spec := "fnExactLegEnd", plainKeys := false, apart := false, narrowed := true }
def FnExactLegEndUptoSaid : Prop := fnExactLegEndUptoRow.holds Try.pinned (OpenSpec.upto fnExactLegEndSpec)

/-- 'laws.FnExactOrderReach', WHERE WHAT IT READS IS OF BULK AT MOST 1048576: true; the input reads as it did. -/
def fnExactOrderReachUptoRow : OpenClaim := { program := "ytgchodielkodeaa", sum := "d8e2fd41a5bfdce74b1289d15f88025f79414dedc67b7850b5f7218623b24932", func := "loop.example/g01148/laws.FnExactOrderReach", spec := "fnExactOrderReach", plainKeys := false, apart := false, narrowed := true }
def FnExactOrderReachUptoSaid : Prop := fnExactOrderReachUptoRow.holds Try.pinned (OpenSpec.upto fnExactOrderReachSpec)

/-- 'laws.FnExactGreatestReach', WHERE WHAT IT READS IS OF BULK AT MOST 1048576: true; the input reads as it did. -/
def fnExactGreatestReachUptoRow : OpenClaim := { program := "ytgchodielkodeaa", sum := "d8e2fd41a5bfdce74b1289d15f88025f79414dedc67b7850b5f7218623b24932", func := "loop.example/g01148/laws.FnExactGreatestReach", spec := "fnExactGreatestReach", unfollowed := true, recurses := true, plainKeys := false, apart := false, narrowed := true }
def FnExactGreatestReachUptoSaid : Prop := fnExactGreatestReachUptoRow.holds Try.pinned (OpenSpec.upto fnExactGreatestReachSpec)

/-- 'laws.FnExactReachOrder', WHERE WHAT IT READS IS OF BULK AT MOST 1048576: true; the input reads as it did. -/
def fnExactReachOrderUptoRow : OpenClaim := { program := "ytgchodielkodeaa", sum := "d8e2fd41a5bfdce74b1289d15f88025f79414dedc67b7850b5f7218623b24932", func := "loop.example/g01148/laws.FnExactReachOrder", spec := "fnExactReachOrder", plainKeys := false, apart := false, narrowed := true }
def FnExactReachOrderUptoSaid : Prop := fnExactReachOrderUptoRow.holds Try.pinned (OpenSpec.upto fnExactReachOrderSpec)

/-- 'laws.FnExactIsRelay', WHERE WHAT IT READS IS OF BULK AT MOST 1048576: true; the input reads as it did. -/
def fnExactIsRelayUptoRow : OpenClaim := { program := "ytgchodielkodeaa", sum := "d8e2fd41a5bfdce74b1289d15f88025f79414dedc67b7850b5f7218623b24932", func := "loop.example/g01148/laws.FnExactIsRelay", spec := "fnExactIsRelay", plainKeys := false, apart := false, narrowed := true }
def FnExactIsRelayUptoSaid : Prop := fnExactIsRelayUptoRow.holds Try.pinned (OpenSpec.upto fnExactIsRelaySpec)

/-- 'laws.FnExactRelayPrice', WHERE WHAT IT READS IS OF BULK AT MOST 1048576: true; the input reads as it did. -/
def fnExactRelayPriceUptoRow : OpenClaim := { program := "ytgchodielkodeaa", sum := "d8e2fd41a5bfdce74b1289d15f88025f79414dedc67b7850b5f7218623b24932", func := "loop.example/g01148/laws.FnExactRelayPrice", spec := "fnExactRelayPrice", unfollowed := true, recurses := true, plainKeys := false, apart := false, narrowed := true }
def FnExactRelayPriceUptoSaid : Prop := fnExactRelayPriceUptoRow.holds Try.pinned (OpenSpec.upto fnExactRelayPriceSpec)

/-- 'laws.FnExactRelayArrival', WHERE WHAT IT READS IS OF BULK AT MOST 1048576: true; the input reads as it did. -/
def fnExactRelayArrivalUptoRow : OpenClaim := { program := "ytgchodielkodeaa", sum := "d8e2fd41a5bfdce74b1289d15f88025f79414dedc67b7850b5f7218623b24932", func := "loop.example/g01148/laws.FnExactRelayArrival", spec := "fnExactRelayArrival", unfollowed := true, recurses := true, plainKeys := false, apart := false, narrowed := true }
def FnExactRelayArrivalUptoSaid : Prop := fnExactRelayArrivalUptoRow.holds Try.pinned (OpenSpec.upto fnExactRelayArrivalSpec)

/-- 'laws.FnExactLeastPrice', WHERE WHAT IT READS IS OF BULK AT MOST 1048576: true; the input reads as it did. -/
def fnExactLeastPriceUptoRow : OpenClaim := { program := "ytgchodielkodeaa", sum := "d8e2fd41a5bfdce74b1289d15f88025f79414dedc67b7850b5f7218623b24932", func := "loop.example/g01148/laws.FnExactLeastPrice", spec := "fnExactLeastPrice", unfollowed := true, recurses := true, plainKeys := false, apart := false, narrowed := true }
def FnExactLeastPriceUptoSaid : Prop := fnExactLeastPriceUptoRow.holds Try.pinned (OpenSpec.upto fnExactLeastPriceSpec)

/-- 'laws.FnExactFirstArrival', WHERE WHAT IT READS IS OF BULK AT MOST 1048576: true; the input reads as it did. -/
def fnExactFirstArrivalUptoRow : OpenClaim := { program := "ytgchodielkodeaa", sum := "d8e2fd41a5bfdce74b1289d15f88025f79414dedc67b7850b5f7218623b24932", func := "loop.example/g01148/laws.FnExactFirstArrival", spec := "fnExactFirstArrival", unfollowed := true, recurses := true, plainKeys := false, apart := false, narrowed := true }
def FnExactFirstArrivalUptoSaid : Prop := fnExactFirstArrivalUptoRow.holds Try.pinned (OpenSpec.upto fnExactFirstArrivalSpec)

/-- 'laws.FnExactExtraRange', WHERE WHAT IT READS IS OF BULK AT MOST 1048576: true; the input reads as it did. -/
def fnExactExtraRangeUptoRow : OpenClaim := { program := "ytgchodielkodeaa", sum := "d8e2fd41a5bfdce74b1289d15f88025f79414dedc67b7850b5f7218623b24932", func := "loop.example/g01148/laws.FnExactExtraRange", spec := "fnExactExtraRange", unfollowed := true, recurses := true, plainKeys := false, apart := false, narrowed := true }
def FnExactExtraRangeUptoSaid : Prop := fnExactExtraRangeUptoRow.holds Try.pinned (OpenSpec.upto fnExactExtraRangeSpec)

/-- 'laws.FnExactFewestCarriers', WHERE WHAT IT READS IS OF BULK AT MOST 1048576: true; the input reads as it did. -/
def fnExactFewestCarriersUptoRow : OpenClaim := { program := "ytgchodielkodeaa", sum := "d8e2fd41a5bfdce74b1289d15f88025f79414dedc67b7850b5f7218623b24932", func := "loop.example/g01148/laws.FnExactFewestCarriers", spec := "fnExactFewestCarriers", plainKeys := false, apart := false, narrowed := true }
def FnExactFewestCarriersUptoSaid : Prop := fnExactFewestCarriersUptoRow.holds Try.pinned (OpenSpec.upto fnExactFewestCarriersSpec)

/-- 'laws.FnExactReachTime', WHERE WHAT IT READS IS OF BULK AT MOST 1048576: true; the input reads as it did. -/
def fnExactReachTimeUptoRow : OpenClaim := { program := "ytgchodielkodeaa", sum := "d8e2fd41a5bfdce74b1289d15f88025f79414dedc67b7850b5f7218623b24932", func := "loop.example/g01148/laws.FnExactReachTime", spec := "fnExactReachTime", unfollowed := true, recurses := true, plainKeys := false, apart := false, narrowed := true }
def FnExactReachTimeUptoSaid : Prop := fnExactReachTimeUptoRow.holds Try.pinned (OpenSpec.upto fnExactReachTimeSpec)

/-- 'laws.FnExactReturnTime', WHERE WHAT IT READS IS OF BULK AT MOST 1048576: true; the input reads as it did. -/
def fnExactReturnTimeUptoRow : OpenClaim := { program := "ytgchodielkodeaa", sum := "d8e2fd41a5bfdce74b1289d15f88025f79414dedc67b7850b5f7218623b24932", func := "loop.example/g01148/laws.FnExactReturnTime", spec := "fnExactReturnTime", unfollowed := true, recurses := true, plainKeys := false, apart := false, narrowed := true }
def FnExactReturnTimeUptoSaid : Prop := fnExactReturnTimeUptoRow.holds Try.pinned (OpenSpec.upto fnExactReturnTimeSpec)

/-- 'laws.FnExactFirstOrder', WHERE WHAT IT READS IS OF BULK AT MOST 1048576: true; the input reads as it did. -/
def fnExactFirstOrderUptoRow : OpenClaim := { program := "ytgchodielkodeaa", sum := "d8e2fd41a5bfdce74b1289d15f88025f79414dedc67b7850b5f7218623b24932", func := "loop.example/g01148/laws.FnExactFirstOrder", spec := "fnExactFirstOrder", unfollowed := true, recurses := true, plainKeys := false, apart := false, narrowed := true }
def FnExactFirstOrderUptoSaid : Prop := fnExactFirstOrderUptoRow.holds Try.pinned (OpenSpec.upto fnExactFirstOrderSpec)

/-- 'laws.FnExactCanReach', WHERE WHAT IT READS IS OF BULK AT MOST 1048576: true; the input reads as it did. -/
def fnExactCanReachUptoRow : OpenClaim := { program := "ytgchodielkodeaa", sum := "d8e2fd41a5bfdce74b1289d15f88025f79414dedc67b7850b5f7218623b24932", func := "loop.example/g01148/laws.FnExactCanReach", spec := "fnExactCanReach", unfollowed := true, recurses := true, plainKeys := false, apart := false, narrowed := true }
def FnExactCanReachUptoSaid : Prop := fnExactCanReachUptoRow.holds Try.pinned (OpenSpec.upto fnExactCanReachSpec)

end Rows
end Go.Proofs.Ytgchodielkodeaa
