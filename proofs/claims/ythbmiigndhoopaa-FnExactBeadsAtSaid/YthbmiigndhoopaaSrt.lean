/-
  What is proved: slices.Sort of a list of numbers of the call's own. Conditions: the list has a number.
-/
import Derived.Test.YthbmiigndhoopaaShl
import Derived.Test.YthbmiigndhoopaaInt
import Derived.Lib.OwnBridge
namespace Go.Proofs.Ythbmiigndhoopaa
open Go.RowKit Go.Sort
set_option linter.unusedVariables false
set_option linter.unusedSimpArgs false

/-- a list in ascending order -/
def sortI (xs : List Int) : List Int := xs.mergeSort fun x y => decide (x ≤ y)
theorem sortI_len (xs : List Int) : (sortI xs).length = xs.length := List.length_mergeSort _
theorem sort_any (v : Value) (xs : List Int) (base : Nat) (w : World) (h : w.ownsRow base 3 1 v xs.length (xs.map iv)) (hl : 1 ≤ xs.length) (hm : xs.length ≤ 1048576) :
    Calls Try.prog 86 #[v] w fun e w' => e = .returned (.tuple #[]) ∧ w'.ownsRow base 3 1 v xs.length ((sortI xs).map iv) ∧ w.grownBy w' v.ownBlock := by
  obtain ⟨g, cap, rfl, hb, hlt, hn, hmx, hl2, hH⟩ := Lib.holds_of_ownsRow h (by intro e; cases v <;> simp at e; obtain ⟨rfl, e2, rfl⟩ := e; have := owns_shape h; obtain ⟨a, c, e3, h3⟩ := this; cases e3; obtain ⟨g, hg, _⟩ := h3 (by omega); cases hg)
  refine (Try.slices_Sort_int g 0 cap xs w hH hlt (by omega)).mono ?_
  rintro e w' ⟨rfl, n, os, rfl⟩
  have h1 := Lib.ownsRow_putRow (q := n) (k := xs.length) (ys := sortI xs) h (sortI_len xs) (Nat.le_refl _)
  rw [List.take_of_length_le (by rw [sortI_len]; exact Nat.le_refl _)] at h1
  refine ⟨rfl, ?_, rfl, rfl, rfl, by simp [putRow, mapBlock, Sort.ahead], fun k hk hne => ?_⟩
  · refine owns_below h1 ⟨rfl, rfl, rfl, by simp, fun k hk => ?_⟩
    exact heap_grow_old _ _ hk
  · have hgk : g ≠ k := fun e => hne (by rw [← e]; rfl)
    rw [heap_grow_old _ _ (by simpa [putRow, mapBlock, Sort.ahead] using hk)]
    simp [putRow, mapBlock, Sort.ahead, Array.getElem?_modify, hgk]
end Go.Proofs.Ythbmiigndhoopaa
