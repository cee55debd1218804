/-
  What is proved: OrderReach of the model and of the program. Conditions: lists that read as carriers and as numbers.
-/
import Derived.Test.YtekahkeddpngpaaRli
namespace Go.Proofs.Ytekahkeddpngpaa
open Go.RowKit
set_option linter.unusedVariables false
set_option linter.unusedSimpArgs false

def oreachB (n : Int) (g : Bool) (cs : List Cr) (os : List Int) (a : Int) : Bool := csB n g cs && (ordC cs.length os && placeB n g a)
def oreachR (n : Int) (g : Bool) (cs : List Cr) (os : List Int) (a : Int) : Int × Bool := if oreachB n g cs os a then (rchF n cs a os, true) else (0, false)
theorem oreachR_no {n : Int} {g : Bool} {cs : List Cr} {os : List Int} {a : Int} (h : oreachB n g cs os a = false) : oreachR n g cs os a = (0, false) := by
  unfold oreachR
  rw [h]
  rfl
theorem oreachR_yes {n : Int} {g : Bool} {cs : List Cr} {os : List Int} {a : Int} (h : oreachB n g cs os a = true) : oreachR n g cs os a = (rchF n cs a os, true) := by
  unfold oreachR
  rw [h]
  rfl
theorem csB_line {n : Int} {g : Bool} {cs : List Cr} (h : csB n g cs = true) : g = false ∧ roadB n g = true := by
  have h1 := ((csB_iff n g cs).1 h).1
  have h2 := (straightB_iff n g).1 h1
  refine ⟨h2.2.2, ?_⟩
  unfold straightB at h1
  cases hr : roadB n g
  · rw [hr] at h1
    cases h1
  · rfl
theorem ask_same {n : Int} {g : Bool} {cs : List Cr} {a : Int} : askB n g cs a a = (csB n g cs && placeB n g a) := by
  rw [Bool.eq_iff_iff, askB_iff, Bool.and_eq_true, placeB_iff]
  constructor
  · intro h
    exact ⟨h.1, (csB_line h.1).2, h.2.1, h.2.2.2⟩
  · intro h
    exact ⟨h.1, h.2.2.1, Int.le_refl _, h.2.2.2⟩
end Go.Proofs.Ytekahkeddpngpaa
