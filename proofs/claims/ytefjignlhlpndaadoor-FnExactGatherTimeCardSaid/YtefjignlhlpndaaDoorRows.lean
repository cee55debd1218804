/-
  NARROWER THAN 'FOR EVERY INPUT', by the rows' own cells (each row's printed sentence says how): FnExactMeetTable: laid · FnExactGatherTime: laid.
  DERIVED. THE GIVEN ROWS OF THIS SEAT. 2 by the template 'for every input the law returns true; each argument reads behind the call as it read before'; 0 by the template 'total and deterministic' (their statements: YtefjignlhlpndaaDoorTotals.lean).
  GIVEN WITH THE SEED: the statements are not yours to turn. If you find one false, say at which input.
  Laid BY PROGRAM, IN A SANDBOX (cutbox-rows.mjs): the forced cells as the released guide's own fill.sh prints them over the translation cbd9a3acfc843c65… (all of the seat's roots in one cut). By AI agents, Wed Nov 11 2026. No macro, syntax, notation, axiom, sorry.
-/
import Derived.Test.YtefjignlhlpndaaDoorChecked
import GoSem.Claim
import GoSem.ClaimJoined
import GoSem.ClaimMapViews
import Derived.JoinedTies
import Derived.KernelRfl
namespace Go.Proofs.YtefjignlhlpndaaDoor
/- THE CELL 'sum', in the pinned program and in every row, IS THE sha256 OF THE DUMP (.gsa) THAT YtefjignlhlpndaaDoorProg.lean LOADS. Nothing in Lean hashes anything: it is a label: what it is worth is what the hold of that sum in a sandbox is worth. -/
noncomputable def Tryd.pinned : Pinned := { name := "ytefjignlhlpndaadoor", sum := "cbd9a3acfc843c65cf935cc2b2d0fd3b32b06c1a6a135b6f69811b51a8f36373", checked := Tryd.checked }
namespace Rows
def none {H : Type} : Left H := { results := [], args := [] }

/- WHAT THE LISTED PACKAGE-LEVEL VARIABLES READ AS WHEN THE CALL BEGINS. Each datum BY PROGRAM (the guide's laid-datum.mjs) off the statement by which the dump's own 'gosem.cut.vars' lays the variable. In a bare row this is a premise. The card (YtefjignlhlpndaaDoorCards.lean) ties it to the program's text. -/
def laid_loop_example_g01148_impl_noMeeting {H : Type} : DataW H := .agg [.lit (.int .i64 (-1)), .lit (.int .i64 (-1))]

/-- 'laws.FnExactMeetTable': WHATEVER THE INPUT: true; the input reads as it did. -/
def fnExactMeetTableSpec : ChangeSpec := { name := "fnExactMeetTable", vars := ["loop.example/g01148/impl.noMeeting"], fn := fun _ => fun
  | [d1, d2, d3, g1] => { results := [.lit (.bool true)], args := [d1, d2, d3], vars := [g1] }
  | _ => none }
def fnExactMeetTableRow : OpenClaim := { program := "ytefjignlhlpndaadoor", sum := "cbd9a3acfc843c65cf935cc2b2d0fd3b32b06c1a6a135b6f69811b51a8f36373", func := "loop.example/g01148/laws.FnExactMeetTable", spec := "fnExactMeetTable", named := ["loop.example/g01148/impl.noMeeting"], apart := false, laid := [("loop.example/g01148/impl.noMeeting", laid_loop_example_g01148_impl_noMeeting)] }
def FnExactMeetTableSaid : Prop := fnExactMeetTableRow.holds Tryd.pinned (OpenSpec.ofChange fnExactMeetTableSpec)

/-- ITS FALSE NEIGHBOUR: 'it returns false'. Refute it at one input. -/
def fnExactMeetTableWrong : ChangeSpec := { name := "fnExactMeetTable", vars := ["loop.example/g01148/impl.noMeeting"], fn := fun _ => fun
  | [d1, d2, d3, g1] => { results := [.lit (.bool false)], args := [d1, d2, d3], vars := [g1] }
  | _ => none }
def FnExactMeetTableWrongFalsely : Prop := fnExactMeetTableRow.holds Tryd.pinned (OpenSpec.ofChange fnExactMeetTableWrong)

/-- 'laws.FnExactGatherTime': WHATEVER THE INPUT: true; the input reads as it did. -/
def fnExactGatherTimeSpec : ChangeSpec := { name := "fnExactGatherTime", vars := ["loop.example/g01148/impl.noMeeting"], fn := fun _ => fun
  | [d1, d2, g1] => { results := [.lit (.bool true)], args := [d1, d2], vars := [g1] }
  | _ => none }
def fnExactGatherTimeRow : OpenClaim := { program := "ytefjignlhlpndaadoor", sum := "cbd9a3acfc843c65cf935cc2b2d0fd3b32b06c1a6a135b6f69811b51a8f36373", func := "loop.example/g01148/laws.FnExactGatherTime", spec := "fnExactGatherTime", named := ["loop.example/g01148/impl.noMeeting"], apart := false, laid := [("loop.example/g01148/impl.noMeeting", laid_loop_example_g01148_impl_noMeeting)] }
def FnExactGatherTimeSaid : Prop := fnExactGatherTimeRow.holds Tryd.pinned (OpenSpec.ofChange fnExactGatherTimeSpec)

/-- ITS FALSE NEIGHBOUR: 'it returns false'. Refute it at one input. -/
def fnExactGatherTimeWrong : ChangeSpec := { name := "fnExactGatherTime", vars := ["loop.example/g01148/impl.noMeeting"], fn := fun _ => fun
  | [d1, d2, g1] => { results := [.lit (.bool false)], args := [d1, d2], vars := [g1] }
  | _ => none }
def FnExactGatherTimeWrongFalsely : Prop := fnExactGatherTimeRow.holds Tryd.pinned (OpenSpec.ofChange fnExactGatherTimeWrong)

/- THE SECOND FORM. 'bulk': how many values and letters a reading holds, each counted each time it is reached (what is shared counts as often as it is met; a slice's spare places count too). A statement '..UptoSaid' is the law's where the arguments, and the package variables that the reading takes, are together of bulk at most 1048576: NARROWER than '..Said'. Prove '..Said' where nothing that the law and all that it calls make is longer than what came in: it says more and counts as full. Else prove '..UptoSaid'. A law counts once. -/
mutual
def uptoBulk {H : Type} : DataW H → Nat
  | .lit (.string bytes) => bytes.length + 1
  | .lit _ => 1
  | .nil => 1
  | .ptr d => uptoBulk d + 1
  | .slice elems spare => uptoBulkAll elems + uptoBulkAll spare + 1
  | .agg parts => uptoBulkAll parts + 1
  | .iface _ d => uptoBulk d + 1
  | .map entries => uptoBulkEntries entries + 1
  | .held _ => 1
def uptoBulkAll {H : Type} : List (DataW H) → Nat
  | [] => 0
  | d :: r => uptoBulk d + uptoBulkAll r
def uptoBulkEntries {H : Type} : List (Lit × DataW H) → Nat
  | [] => 0
  | x :: r => uptoBulkEntry x + uptoBulkEntries r
def uptoBulkEntry {H : Type} : Lit × DataW H → Nat
  | (.string bytes, d) => bytes.length + uptoBulk d + 1
  | (_, d) => uptoBulk d + 1
 end
def uptoSmall : (H : Type) → List (DataW H) → Bool := fun _ ds => decide (uptoBulkAll ds ≤ 1048576)
def OpenSpec.upto (s : _root_.Go.ChangeSpec) : _root_.Go.OpenSpec := { _root_.Go.OpenSpec.ofChange s with cond := some uptoSmall }

/-- 'laws.FnExactMeetTable', WHERE WHAT IT READS IS OF BULK AT MOST 1048576: true; the input reads as it did. -/
def fnExactMeetTableUptoRow : OpenClaim := { program := "ytefjignlhlpndaadoor", sum := "cbd9a3acfc843c65cf935cc2b2d0fd3b32b06c1a6a135b6f69811b51a8f36373", func := "loop.example/g01148/laws.FnExactMeetTable", spec := "fnExactMeetTable", named := ["loop.example/g01148/impl.noMeeting"], apart := false, laid := [("loop.example/g01148/impl.noMeeting", laid_loop_example_g01148_impl_noMeeting)], narrowed := true }
def FnExactMeetTableUptoSaid : Prop := fnExactMeetTableUptoRow.holds Tryd.pinned (OpenSpec.upto fnExactMeetTableSpec)

/-- 'laws.FnExactGatherTime', WHERE WHAT IT READS IS OF BULK AT MOST 1048576: true; the input reads as it did. -/
def fnExactGatherTimeUptoRow : OpenClaim := { program := "ytefjignlhlpndaadoor", sum := "cbd9a3acfc843c65cf935cc2b2d0fd3b32b06c1a6a135b6f69811b51a8f36373", func := "loop.example/g01148/laws.FnExactGatherTime", spec := "fnExactGatherTime", named := ["loop.example/g01148/impl.noMeeting"], apart := false, laid := [("loop.example/g01148/impl.noMeeting", laid_loop_example_g01148_impl_noMeeting)], narrowed := true }
def FnExactGatherTimeUptoSaid : Prop := fnExactGatherTimeUptoRow.holds Tryd.pinned (OpenSpec.upto fnExactGatherTimeSpec)

end Rows
end Go.Proofs.YtefjignlhlpndaaDoor
