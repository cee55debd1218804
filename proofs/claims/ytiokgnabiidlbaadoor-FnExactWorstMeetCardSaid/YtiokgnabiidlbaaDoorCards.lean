/-
  DERIVED. GIVEN WITH THE SEED: THE CARDS: each row of YtiokgnabiidlbaaDoorRows.lean that lists a variable, with what it lists TIED to the program's text (the seventh form; the later family's looks); each row that meets fmt, with fmt's text TOLD by the authors' own Lean function (tested against real Go, not proved from fmt's source: count such statements apart). THE CARD IS WHAT COUNTS. Prove the row's statement (the work); the ties are given (YtiokgnabiidlbaaDoorTie.lean); close each card by the builder's one call (the guide's Derived/Test/ToyasCard.lean, 'card_holds'). Laid BY PROGRAM, IN A SANDBOX (cutbox-door.mjs). By AI agents, Wed Nov 11 2026. No macro, syntax, notation, axiom, sorry.
-/
import Derived.Test.YtiokgnabiidlbaaDoorRows
import GoSem.ClaimSeven
namespace Go.Proofs.YtiokgnabiidlbaaDoor
namespace Rows

/-- THE TIED CARD OF 'laws.FnExactWorstMeet'. -/
def fnExactWorstMeetCard : Claim7 := { stood := { row := fnExactWorstMeetRow, standIns := [], harness := (true, "bf8613c28e16c0a5a01597eaff72a1c29042e8981b98ed87c632d05837a81fa1"), looks := false }, kinds := [], alts := [], laidByText := true, laidKinds := [.data], laidTests := true, laidLooks := .later }
def FnExactWorstMeetCardSaid : Prop := Claim7.holds Tryd.pinned (.plain (OpenSpec.ofChange fnExactWorstMeetSpec)) fnExactWorstMeetCard

/-- THE SECOND FORM's CARD OF 'laws.FnExactWorstMeet'. -/
def fnExactWorstMeetUptoCard : Claim7 := { stood := { row := fnExactWorstMeetUptoRow, standIns := [], harness := (true, "bf8613c28e16c0a5a01597eaff72a1c29042e8981b98ed87c632d05837a81fa1"), looks := false }, kinds := [], alts := [], laidByText := true, laidKinds := [.data], laidTests := true, laidLooks := .later }
def FnExactWorstMeetUptoCardSaid : Prop := Claim7.holds Tryd.pinned (.plain (OpenSpec.upto fnExactWorstMeetSpec)) fnExactWorstMeetUptoCard
end Rows
end Go.Proofs.YtiokgnabiidlbaaDoor
