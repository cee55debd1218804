/-
  What is proved: slices.Grow of nil, slices.Concat of lists of numbers that are not nil, spec.l1Own. Conditions: those of each contract.
-/
import Derived.Test.YtgkcgejicadodaaFn4
import Derived.Lib.Walk
import Derived.Lib.SliceRun
import Derived.Lib.AppendZerosOnto
namespace Go.Proofs.Ytgkcgejicadodaa
open Go.RowKit
set_option linter.unusedVariables false
set_option linter.unusedSimpArgs false

theorem cells_list {w' : World} {xs : List Int} {b o : Nat} (h : ∀ (i : Nat) x, xs[i]? = some x → w'.cell? ⟨b, o + i, none⟩ = some (.int .i64 x)) : ∀ j u, (xs.map iv)[j]? = some u → w'.cell? ((⟨b, o, none⟩ : Addr).add j) = some u := by
  intro j u hj
  rw [List.getElem?_map] at hj
  cases hxj : xs[j]? with
  | none => rw [hxj] at hj; cases hj
  | some x =>
    rw [hxj] at hj
    cases hj
    have ha : (⟨b, o, none⟩ : Addr).add j = ⟨b, o + j, none⟩ := by
      unfold Addr.add
      by_cases h : j = 0 <;> simp [h]
    rw [ha]
    exact h j x hxj
theorem list_cells {w w' : World} {xs : List Int} {b o : Nat} (hx : ∀ (j : Nat) x, xs[j]? = some x → ∃ b' o', (some ⟨b, o, none⟩ : Option Addr) = some ⟨b', o', none⟩ ∧ b' < w.heap.size ∧ w.cell? ⟨b', o' + j, none⟩ = some (.int .i64 x)) (hb : Below w.heap.size w w') : ∀ j u, (xs.map iv)[j]? = some u → w'.cell? ((⟨b, o, none⟩ : Addr).add j) = some u :=
  cells_list (fun i x h => by
    obtain ⟨b', o', e, hl, hc⟩ := hx i x h
    cases e
    exact (hb.cell (p := ⟨b, o + i, none⟩) hl).trans hc)
/-- v reads as a list of lists, none of which is nil -/
def ReadsN (w : World) (v : Value) (xss : List (List Int)) : Prop :=
  ∃ a c, v = .slice a xss.length c ∧ xss.length ≤ c ∧ xss.length ≤ maxLen ∧ ∀ (j : Nat) xs, xss[j]? = some xs → ∃ b o b' o' c', a = some ⟨b, o, none⟩ ∧ b < w.heap.size ∧ w.cell? ⟨b, o + j, none⟩ = some (.slice (some ⟨b', o', none⟩) xs.length c') ∧ xs.length ≤ c' ∧ (∀ (i : Nat) x, xs[i]? = some x → b' < w.heap.size ∧ w.cell? ⟨b', o' + i, none⟩ = some (.int .i64 x))
def sumL (xss : List (List Int)) : Nat → Nat
  | 0 => 0
  | k + 1 => sumL xss k + (xss.getD k []).length
theorem sumL_next {xss : List (List Int)} {k : Nat} {xs : List Int} (h : xss[k]? = some xs) : sumL xss (k + 1) = sumL xss k + xs.length := by
  show sumL xss k + (xss.getD k []).length = _
  simp [List.getD, h]
theorem sumL_le (xss : List (List Int)) : ∀ k, k ≤ xss.length → sumL xss k ≤ sumL xss xss.length := by
  intro k hk
  obtain ⟨d, hd⟩ : ∃ d, xss.length = k + d := ⟨xss.length - k, by omega⟩
  rw [hd]
  clear hd hk
  induction d with
  | zero => exact Nat.le_refl _
  | succ d ih => exact Nat.le_trans ih (by show sumL xss (k + d) ≤ sumL xss (k + d) + _; omega)
def catL (xss : List (List Int)) : Nat → List Int
  | 0 => []
  | k + 1 => catL xss k ++ xss.getD k []
theorem catL_next {xss : List (List Int)} {k : Nat} {xs : List Int} (h : xss[k]? = some xs) : catL xss (k + 1) = catL xss k ++ xs := by
  show catL xss k ++ xss.getD k [] = _
  simp [List.getD, h]
theorem catL_len (xss : List (List Int)) : ∀ k, (catL xss k).length = sumL xss k
  | 0 => rfl
  | k + 1 => by
    show (catL xss k ++ xss.getD k []).length = sumL xss k + (xss.getD k []).length
    rw [List.length_append, catL_len xss k]
end Go.Proofs.Ytgkcgejicadodaa
