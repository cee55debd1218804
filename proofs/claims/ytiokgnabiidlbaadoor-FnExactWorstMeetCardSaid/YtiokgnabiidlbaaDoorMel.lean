/-
  What is proved: the contracts of WalkOf of the model and of the program. Conditions: slices that read as lists of numbers.
-/
import Derived.Test.YtiokgnabiidlbaaDoorMei
import Derived.Test.YtiokgnabiidlbaaDoorMeg
namespace Go.Proofs.YtiokgnabiidlbaaDoor
open Go.RowKit
set_option linter.unusedVariables false
set_option linter.unusedSimpArgs false

/-- what WalkOf answers -/
def walkR (n : Int) (g : Bool) (k : Wk) (a : Int) : List Int × Bool := if wkB n g k = true ∧ 0 ≤ a ∧ a ≤ 60 then (walkW n g k a.toNat, true) else ([], false)
theorem walkR_no {n : Int} {g : Bool} {k : Wk} {a : Int} (h : ¬ (wkB n g k = true ∧ 0 ≤ a ∧ a ≤ 60)) : walkR n g k a = ([], false) := if_neg h
theorem walkR_yes {n : Int} {g : Bool} {k : Wk} {N : Nat} (h : wkB n g k = true) (h2 : N ≤ 60) : walkR n g k N = (walkW n g k N, true) := by
  unfold walkR
  rw [if_pos ⟨h, by omega, by omega⟩]
  rfl
theorem walkR_len (n : Int) (g : Bool) (k : Wk) (a : Int) : (walkR n g k a).1.length ≤ 1048576 := by
  unfold walkR
  split
  · unfold walkW
    rw [pathL_len]
    omega
  · simp
end Go.Proofs.YtiokgnabiidlbaaDoor
