/-
  What is proved: slices.Index, slices.Contains, slices.Max, impl.FirstVisits, impl.CoverTime and the model's answer alike. Conditions: those of each contract.
-/
import Derived.Test.YtefjignlhlpndaaDoorFn4
namespace Go.Proofs.YtefjignlhlpndaaDoor
open Go.RowKit

/-- the place of the first p in a list that begins at k, or -1 -/
def firstFrom (p : Int) : List Int → Nat → Int
  | [], _ => -1
  | x :: xs, k => if x = p then (k : Int) else firstFrom p xs (k + 1)
def firstI (xs : List Int) (p : Int) : Int := firstFrom p xs 0
theorem firstFrom_range (p : Int) : ∀ (xs : List Int) (k : Nat), -1 ≤ firstFrom p xs k ∧ firstFrom p xs k < k + xs.length + 1
  | [], k => by simp [firstFrom]; omega
  | x :: xs, k => by
    unfold firstFrom
    have := firstFrom_range p xs (k + 1)
    simp only [List.length_cons]
    split <;> omega
theorem firstI_range (xs : List Int) (p : Int) : -1 ≤ firstI xs p ∧ firstI xs p ≤ xs.length := by
  have := firstFrom_range p xs 0
  unfold firstI
  omega
theorem firstFrom_hit {p x : Int} {xs : List Int} {k : Nat} (hx : xs[k]? = some x) (he : x = p) : firstFrom p (xs.drop k) k = k := by
  obtain ⟨hk, rfl⟩ := List.getElem?_eq_some_iff.1 hx
  rw [List.drop_eq_getElem_cons hk, firstFrom, if_pos he]
theorem firstFrom_miss {p x : Int} {xs : List Int} {k : Nat} (hx : xs[k]? = some x) (he : ¬ x = p) : firstFrom p (xs.drop k) k = firstFrom p (xs.drop (k + 1)) (k + 1) := by
  obtain ⟨hk, rfl⟩ := List.getElem?_eq_some_iff.1 hx
  conv => lhs; rw [List.drop_eq_getElem_cons hk, firstFrom, if_neg he]
theorem firstFrom_end {p : Int} {xs : List Int} {k : Nat} (hk : k = xs.length) : firstFrom p (xs.drop k) k = -1 := by
  subst hk
  rw [List.drop_length]
  rfl
def FiRel (xs : List Int) (p : Int) (r i : Value) : Prop := r = .int .i64 0 ∧ ∃ k : Nat, k ≤ xs.length ∧ i = .int .i64 k ∧ firstFrom p (xs.drop k) k = firstI xs p
end Go.Proofs.YtefjignlhlpndaaDoor
