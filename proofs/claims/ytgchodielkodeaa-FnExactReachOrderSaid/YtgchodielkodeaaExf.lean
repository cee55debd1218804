/-
  What is proved: the contracts of RunTime, the model's and the program's. Conditions: none.
-/
import Derived.Test.YtgchodielkodeaaExe
namespace Go.Proofs.Ytgchodielkodeaa
open Go.RowKit
set_option linter.unusedVariables false
set_option linter.unusedSimpArgs false

theorem rtimeR_no {n : Int} {g : Bool} {a x m : Int} {back : Bool} (h : ¬ (placeB n g a = true ∧ fitsB n g x m = true)) : rtimeR n g a x m back = (0, false) := by
  unfold rtimeR
  rw [if_neg (by rw [Bool.and_eq_true]; exact h)]
theorem rtimeR_yes {n : Int} {g : Bool} {a x m : Int} {back : Bool} (h1 : placeB n g a = true) (h2 : fitsB n g x m = true) : rtimeR n g a x m back = (runT n g a x m back, true) := by
  unfold rtimeR
  rw [if_pos (by rw [h1, h2]; rfl)]
end Go.Proofs.Ytgchodielkodeaa
