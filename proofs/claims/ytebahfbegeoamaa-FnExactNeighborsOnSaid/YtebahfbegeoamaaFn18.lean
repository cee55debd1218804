/-
  What is proved: slices.Grow of nil, slices.Concat of lists of numbers that are not nil, spec.l1Own. Conditions: those of each contract.
-/
import Derived.Test.YtebahfbegeoamaaFn4
import Derived.Lib.Walk
import Derived.Lib.SliceRun
import Derived.Lib.AppendZerosOnto
namespace Go.Proofs.Ytebahfbegeoamaa
open Go.RowKit
set_option linter.unusedVariables false
set_option linter.unusedSimpArgs false

theorem cells_list {w' : World} {xs : List Int} {b o : Nat} (h : ∀ (i : Nat) x, xs[i]? = some x → w'.cell? ⟨b, o + i, none⟩ = some (.int .i64 x)) : ∀ j u, (xs.map iv)[j]? = some u → w'.cell? ((⟨b, o, none⟩ : Addr).add j) = some u := by
  intro j u hj
  rw [List.getElem?_map] at hj
  cases hxj : xs[j]? with
  | none => rw [hxj] at hj; cases hj
  | some x =>
    rw [hxj] at hj
    cases hj
    have ha : (⟨b, o, none⟩ : Addr).add j = ⟨b, o + j, none⟩ := by
      unfold Addr.add
      by_cases h : j = 0 <;> simp [h]
    rw [ha]
    exact h j x hxj
theorem list_cells {w w' : World} {xs : List Int} {b o : Nat} (hx : ∀ (j : Nat) x, xs[j]? = some x → ∃ b' o', (some ⟨b, o, none⟩ : Option Addr) = some ⟨b', o', none⟩ ∧ b' < w.heap.size ∧ w.cell? ⟨b', o' + j, none⟩ = some (.int .i64 x)) (hb : Below w.heap.size w w') : ∀ j u, (xs.map iv)[j]? = some u → w'.cell? ((⟨b, o, none⟩ : Addr).add j) = some u :=
  cells_list (fun i x h => by
    obtain ⟨b', o', e, hl, hc⟩ := hx i x h
    cases e
    exact (hb.cell (p := ⟨b, o + i, none⟩) hl).trans hc)
end Go.Proofs.Ytebahfbegeoamaa
