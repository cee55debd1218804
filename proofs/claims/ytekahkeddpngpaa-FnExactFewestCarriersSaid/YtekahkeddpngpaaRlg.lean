/-
  What is proved: LegEnd of the model and of the program. Conditions: those of each contract.
-/
import Derived.Test.YtekahkeddpngpaaRlf
namespace Go.Proofs.Ytekahkeddpngpaa
open Go.RowKit
set_option linter.unusedVariables false
set_option linter.unusedSimpArgs false

/-- a carrier on a line and a place of it -/
def legOK (n : Int) (g : Bool) (c : Cr) (x : Int) : Bool := crB n g c && placeB n g x
def lendR (n : Int) (g : Bool) (c : Cr) (x : Int) : Int × Bool := if legOK n g c x && decide (x ≤ endI n c x) then (endI n c x, true) else (0, false)
theorem crB_one (n : Int) (g : Bool) (c : Cr) : csB n g [c] = crB n g c := by
  rw [csB_one]
  unfold straightB crB onB lineB placeB
  cases roadB n g <;> cases g <;> simp
theorem crB_ok {n : Int} {g : Bool} {c : Cr} (h : crB n g c = true) : g = false ∧ CrOK n c := by
  have h1 : csB n g [c] = true := by rw [crB_one]; exact h
  have h2 := (straightB_iff n g).1 ((csB_iff n g [c]).1 h1).1
  exact ⟨h2.2.2, csB_ok (j := 0) h1 rfl⟩
theorem lendR_no {n : Int} {g : Bool} {c : Cr} {x : Int} (h : (legOK n g c x && decide (x ≤ endI n c x)) = false) : lendR n g c x = (0, false) := by
  unfold lendR
  rw [h]
  rfl
theorem lendR_yes {n : Int} {g : Bool} {c : Cr} {x : Int} (h : (legOK n g c x && decide (x ≤ endI n c x)) = true) : lendR n g c x = (endI n c x, true) := by
  unfold lendR
  rw [h]
  rfl
end Go.Proofs.Ytekahkeddpngpaa
