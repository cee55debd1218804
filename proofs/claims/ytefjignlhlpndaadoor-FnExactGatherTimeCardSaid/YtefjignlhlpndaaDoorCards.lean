/-
  DERIVED. GIVEN WITH THE SEED: THE CARDS: each row of YtefjignlhlpndaaDoorRows.lean that lists a variable, with what it lists TIED to the program's text (the seventh form; the later family's looks); each row that meets fmt, with fmt's text TOLD by the authors' own Lean function (tested against real Go, not proved from fmt's source: count such statements apart). THE CARD IS WHAT COUNTS. Prove the row's statement (the work); the ties are given (YtefjignlhlpndaaDoorTie.lean); close each card by the builder's one call (the guide's Derived/Test/ToyasCard.lean, 'card_holds'). Laid BY PROGRAM, IN A SANDBOX (cutbox-door.mjs). By AI agents, Wed Nov 11 2026. No macro, syntax, notation, axiom, sorry.
-/
import Derived.Test.YtefjignlhlpndaaDoorRows
import GoSem.ClaimSeven
namespace Go.Proofs.YtefjignlhlpndaaDoor
namespace Rows

/-- THE TIED CARD OF 'laws.FnExactMeetTable'. -/
def fnExactMeetTableCard : Claim7 := { stood := { row := fnExactMeetTableRow, standIns := [], harness := (true, "b84912980e5d595c6a811bcbd9ad58174c94d5c2f1e9ee60b7fd7acbc366db3c"), looks := false }, kinds := [], alts := [], laidByText := true, laidKinds := [.data], laidTests := true, laidLooks := .later }
def FnExactMeetTableCardSaid : Prop := Claim7.holds Tryd.pinned (.plain (OpenSpec.ofChange fnExactMeetTableSpec)) fnExactMeetTableCard

/-- THE TIED CARD OF 'laws.FnExactGatherTime'. -/
def fnExactGatherTimeCard : Claim7 := { stood := { row := fnExactGatherTimeRow, standIns := [], harness := (true, "b84912980e5d595c6a811bcbd9ad58174c94d5c2f1e9ee60b7fd7acbc366db3c"), looks := false }, kinds := [], alts := [], laidByText := true, laidKinds := [.data], laidTests := true, laidLooks := .later }
def FnExactGatherTimeCardSaid : Prop := Claim7.holds Tryd.pinned (.plain (OpenSpec.ofChange fnExactGatherTimeSpec)) fnExactGatherTimeCard

/-- THE SECOND FORM's CARD OF 'laws.FnExactMeetTable'. -/
def fnExactMeetTableUptoCard : Claim7 := { stood := { row := fnExactMeetTableUptoRow, standIns := [], harness := (true, "b84912980e5d595c6a811bcbd9ad58174c94d5c2f1e9ee60b7fd7acbc366db3c"), looks := false }, kinds := [], alts := [], laidByText := true, laidKinds := [.data], laidTests := true, laidLooks := .later }
def FnExactMeetTableUptoCardSaid : Prop := Claim7.holds Tryd.pinned (.plain (OpenSpec.upto fnExactMeetTableSpec)) fnExactMeetTableUptoCard

/-- THE SECOND FORM's CARD OF 'laws.FnExactGatherTime'. -/
def fnExactGatherTimeUptoCard : Claim7 := { stood := { row := fnExactGatherTimeUptoRow, standIns := [], harness := (true, "b84912980e5d595c6a811bcbd9ad58174c94d5c2f1e9ee60b7fd7acbc366db3c"), looks := false }, kinds := [], alts := [], laidByText := true, laidKinds := [.data], laidTests := true, laidLooks := .later }
def FnExactGatherTimeUptoCardSaid : Prop := Claim7.holds Tryd.pinned (.plain (OpenSpec.upto fnExactGatherTimeSpec)) fnExactGatherTimeUptoCard
end Rows
end Go.Proofs.YtefjignlhlpndaaDoor
