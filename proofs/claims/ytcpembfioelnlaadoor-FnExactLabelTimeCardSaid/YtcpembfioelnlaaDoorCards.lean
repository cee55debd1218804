/-
  DERIVED. GIVEN WITH THE SEED: THE CARDS: each row of YtcpembfioelnlaaDoorRows.lean that lists a variable, with what it lists TIED to the program's text (the seventh form; the later family's looks); each row that meets fmt, with fmt's text TOLD by the authors' own Lean function (tested against real Go, not proved from fmt's source: count such statements apart). THE CARD IS WHAT COUNTS. Prove the row's statement (the work); the ties are given (YtcpembfioelnlaaDoorTie.lean); close each card by the builder's one call (the guide's Derived/Test/ToyasCard.lean, 'card_holds'). Laid BY PROGRAM, IN A SANDBOX (cutbox-door.mjs). By AI agents, Wed Nov 11 2026. No macro, syntax, notation, axiom, sorry.
-/
import Derived.Test.YtcpembfioelnlaaDoorRows
import GoSem.ClaimSeven
namespace Go.Proofs.YtcpembfioelnlaaDoor
namespace Rows

/-- THE TIED CARD OF 'laws.FnExactMeetTime'. -/
def fnExactMeetTimeCard : Claim7 := { stood := { row := fnExactMeetTimeRow, standIns := [], harness := (true, "f139d241204925727a672e607187572138f3e7aca7e9cfedc9b43fc8289e9e33"), looks := false }, kinds := [], alts := [], laidByText := true, laidKinds := [.data], laidTests := true, laidLooks := .later }
def FnExactMeetTimeCardSaid : Prop := Claim7.holds Tryd.pinned (.plain (OpenSpec.ofChange fnExactMeetTimeSpec)) fnExactMeetTimeCard

/-- THE TIED CARD OF 'laws.FnExactMeetPlace'. -/
def fnExactMeetPlaceCard : Claim7 := { stood := { row := fnExactMeetPlaceRow, standIns := [], harness := (true, "f139d241204925727a672e607187572138f3e7aca7e9cfedc9b43fc8289e9e33"), looks := false }, kinds := [], alts := [], laidByText := true, laidKinds := [.data], laidTests := true, laidLooks := .later }
def FnExactMeetPlaceCardSaid : Prop := Claim7.holds Tryd.pinned (.plain (OpenSpec.ofChange fnExactMeetPlaceSpec)) fnExactMeetPlaceCard

/-- THE TIED CARD OF 'laws.FnExactGatherTime'. -/
def fnExactGatherTimeCard : Claim7 := { stood := { row := fnExactGatherTimeRow, standIns := [], harness := (true, "f139d241204925727a672e607187572138f3e7aca7e9cfedc9b43fc8289e9e33"), looks := false }, kinds := [], alts := [], laidByText := true, laidKinds := [.data], laidTests := true, laidLooks := .later }
def FnExactGatherTimeCardSaid : Prop := Claim7.holds Tryd.pinned (.plain (OpenSpec.ofChange fnExactGatherTimeSpec)) fnExactGatherTimeCard

/-- THE TIED CARD OF 'laws.FnExactMeetTable'. -/
def fnExactMeetTableCard : Claim7 := { stood := { row := fnExactMeetTableRow, standIns := [], harness := (true, "f139d241204925727a672e607187572138f3e7aca7e9cfedc9b43fc8289e9e33"), looks := false }, kinds := [], alts := [], laidByText := true, laidKinds := [.data], laidTests := true, laidLooks := .later }
def FnExactMeetTableCardSaid : Prop := Claim7.holds Tryd.pinned (.plain (OpenSpec.ofChange fnExactMeetTableSpec)) fnExactMeetTableCard

/-- THE TIED CARD OF 'laws.FnExactWorstMeet'. -/
def fnExactWorstMeetCard : Claim7 := { stood := { row := fnExactWorstMeetRow, standIns := [], harness := (true, "f139d241204925727a672e607187572138f3e7aca7e9cfedc9b43fc8289e9e33"), looks := false }, kinds := [], alts := [], laidByText := true, laidKinds := [.data], laidTests := true, laidLooks := .later }
def FnExactWorstMeetCardSaid : Prop := Claim7.holds Tryd.pinned (.plain (OpenSpec.ofChange fnExactWorstMeetSpec)) fnExactWorstMeetCard

/-- THE TIED CARD OF 'laws.FnExactLabelTime'. -/
def fnExactLabelTimeCard : Claim7 := { stood := { row := fnExactLabelTimeRow, standIns := [], harness := (true, "f139d241204925727a672e607187572138f3e7aca7e9cfedc9b43fc8289e9e33"), looks := false }, kinds := [], alts := [], laidByText := true, laidKinds := [.data], laidTests := true, laidLooks := .later }
def FnExactLabelTimeCardSaid : Prop := Claim7.holds Tryd.pinned (.plain (OpenSpec.ofChange fnExactLabelTimeSpec)) fnExactLabelTimeCard

/-- THE TIED CARD OF 'laws.FnExactBestPlans'. -/
def fnExactBestPlansCard : Claim7 := { stood := { row := fnExactBestPlansRow, standIns := [], harness := (true, "f139d241204925727a672e607187572138f3e7aca7e9cfedc9b43fc8289e9e33"), looks := false }, kinds := [], alts := [], laidByText := true, laidKinds := [.data], laidTests := true, laidLooks := .later }
def FnExactBestPlansCardSaid : Prop := Claim7.holds Tryd.pinned (.plain (OpenSpec.ofChange fnExactBestPlansSpec)) fnExactBestPlansCard

/-- THE SECOND FORM's CARD OF 'laws.FnExactMeetTime'. -/
def fnExactMeetTimeUptoCard : Claim7 := { stood := { row := fnExactMeetTimeUptoRow, standIns := [], harness := (true, "f139d241204925727a672e607187572138f3e7aca7e9cfedc9b43fc8289e9e33"), looks := false }, kinds := [], alts := [], laidByText := true, laidKinds := [.data], laidTests := true, laidLooks := .later }
def FnExactMeetTimeUptoCardSaid : Prop := Claim7.holds Tryd.pinned (.plain (OpenSpec.upto fnExactMeetTimeSpec)) fnExactMeetTimeUptoCard

/-- THE SECOND FORM's CARD OF 'laws.FnExactMeetPlace'. -/
def fnExactMeetPlaceUptoCard : Claim7 := { stood := { row := fnExactMeetPlaceUptoRow, standIns := [], harness := (true, "f139d241204925727a672e607187572138f3e7aca7e9cfedc9b43fc8289e9e33"), looks := false }, kinds := [], alts := [], laidByText := true, laidKinds := [.data], laidTests := true, laidLooks := .later }
def FnExactMeetPlaceUptoCardSaid : Prop := Claim7.holds Tryd.pinned (.plain (OpenSpec.upto fnExactMeetPlaceSpec)) fnExactMeetPlaceUptoCard

/-- THE SECOND FORM's CARD OF 'laws.FnExactGatherTime'. -/
def fnExactGatherTimeUptoCard : Claim7 := { stood := { row := fnExactGatherTimeUptoRow, standIns := [], harness := (true, "f139d241204925727a672e607187572138f3e7aca7e9cfedc9b43fc8289e9e33"), looks := false }, kinds := [], alts := [], laidByText := true, laidKinds := [.data], laidTests := true, laidLooks := .later }
def FnExactGatherTimeUptoCardSaid : Prop := Claim7.holds Tryd.pinned (.plain (OpenSpec.upto fnExactGatherTimeSpec)) fnExactGatherTimeUptoCard

/-- THE SECOND FORM's CARD OF 'laws.FnExactMeetTable'. -/
def fnExactMeetTableUptoCard : Claim7 := { stood := { row := fnExactMeetTableUptoRow, standIns := [], harness := (true, "f139d241204925727a672e607187572138f3e7aca7e9cfedc9b43fc8289e9e33"), looks := false }, kinds := [], alts := [], laidByText := true, laidKinds := [.data], laidTests := true, laidLooks := .later }
def FnExactMeetTableUptoCardSaid : Prop := Claim7.holds Tryd.pinned (.plain (OpenSpec.upto fnExactMeetTableSpec)) fnExactMeetTableUptoCard

/-- THE SECOND FORM's CARD OF 'laws.FnExactWorstMeet'. -/
def fnExactWorstMeetUptoCard : Claim7 := { stood := { row := fnExactWorstMeetUptoRow, standIns := [], harness := (true, "f139d241204925727a672e607187572138f3e7aca7e9cfedc9b43fc8289e9e33"), looks := false }, kinds := [], alts := [], laidByText := true, laidKinds := [.data], laidTests := true, laidLooks := .later }
def FnExactWorstMeetUptoCardSaid : Prop := Claim7.holds Tryd.pinned (.plain (OpenSpec.upto fnExactWorstMeetSpec)) fnExactWorstMeetUptoCard

/-- THE SECOND FORM's CARD OF 'laws.FnExactLabelTime'. -/
def fnExactLabelTimeUptoCard : Claim7 := { stood := { row := fnExactLabelTimeUptoRow, standIns := [], harness := (true, "f139d241204925727a672e607187572138f3e7aca7e9cfedc9b43fc8289e9e33"), looks := false }, kinds := [], alts := [], laidByText := true, laidKinds := [.data], laidTests := true, laidLooks := .later }
def FnExactLabelTimeUptoCardSaid : Prop := Claim7.holds Tryd.pinned (.plain (OpenSpec.upto fnExactLabelTimeSpec)) fnExactLabelTimeUptoCard

/-- THE SECOND FORM's CARD OF 'laws.FnExactBestPlans'. -/
def fnExactBestPlansUptoCard : Claim7 := { stood := { row := fnExactBestPlansUptoRow, standIns := [], harness := (true, "f139d241204925727a672e607187572138f3e7aca7e9cfedc9b43fc8289e9e33"), looks := false }, kinds := [], alts := [], laidByText := true, laidKinds := [.data], laidTests := true, laidLooks := .later }
def FnExactBestPlansUptoCardSaid : Prop := Claim7.holds Tryd.pinned (.plain (OpenSpec.upto fnExactBestPlansSpec)) fnExactBestPlansUptoCard
end Rows
end Go.Proofs.YtcpembfioelnlaaDoor
