/-
  What is proved: the contracts of MeetTime and MeetPlace of the program, and of MeetPlace of the model. Conditions: slices that read as lists of numbers; for the program the variable noMeeting is as it was laid.
-/
import Derived.Test.YtiokgnabiidlbaaDoorNed
import Derived.Test.YtiokgnabiidlbaaDoorNec
namespace Go.Proofs.YtiokgnabiidlbaaDoor
open Go.RowKit
set_option linter.unusedVariables false
set_option linter.unusedSimpArgs false

theorem walksL_two (n : Int) (g : Bool) (k k2 : Wk) : walksL n g [k, k2] [k, k2].length = walks2 n g k k2 := rfl
/-- what MeetPlace answers -/
def mplaceR (n : Int) (g : Bool) (k k2 : Wk) : Int × Bool := if (wkB n g k && wkB n g k2) = true ∧ 0 ≤ meetT (walks2 n g k k2) then (meetP (walks2 n g k k2), true) else (0, false)
theorem mplaceR_no {n : Int} {g : Bool} {k k2 : Wk} (h : ¬ ((wkB n g k && wkB n g k2) = true ∧ 0 ≤ meetT (walks2 n g k k2))) : mplaceR n g k k2 = (0, false) := if_neg h
theorem mplaceR_yes {n : Int} {g : Bool} {k k2 : Wk} (h : (wkB n g k && wkB n g k2) = true ∧ 0 ≤ meetT (walks2 n g k k2)) : mplaceR n g k k2 = (meetP (walks2 n g k k2), true) := if_pos h
theorem gath_MeetTime (n : Int) (g : Bool) (k k2 : Wk) : mtimeR n g k k2 = ((gathR n g [k, k2]).1.1, (gathR n g [k, k2]).2) := by
  unfold mtimeR gathR
  rw [walksL_two, wksB_two]
  generalize walks2 n g k k2 = ws
  generalize (wkB n g k && wkB n g k2) = b
  generalize meetT ws = t
  generalize meetP ws = p
  by_cases h : b = true ∧ 0 ≤ t
  · rw [if_pos h, if_pos h]
  · rw [if_neg h, if_neg h]
theorem gath_MeetPlace (n : Int) (g : Bool) (k k2 : Wk) : mplaceR n g k k2 = ((gathR n g [k, k2]).1.2, (gathR n g [k, k2]).2) := by
  unfold mplaceR gathR
  rw [walksL_two, wksB_two]
  generalize walks2 n g k k2 = ws
  generalize (wkB n g k && wkB n g k2) = b
  generalize meetT ws = t
  generalize meetP ws = p
  by_cases h : b = true ∧ 0 ≤ t
  · rw [if_pos h, if_pos h]
  · rw [if_neg h, if_neg h]
end Go.Proofs.YtiokgnabiidlbaaDoor
