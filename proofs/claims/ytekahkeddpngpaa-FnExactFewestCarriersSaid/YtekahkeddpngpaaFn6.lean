/-
  What is proved: impl.FirstVisits, impl.CoverTime and the model's answer alike. Conditions: a slice that reads as a list of numbers.
-/
import Derived.Test.YtekahkeddpngpaaFn5
namespace Go.Proofs.Ytekahkeddpngpaa
open Go.RowKit

theorem firstFrom_neg (p : Int) : ∀ (xs : List Int) (k : Nat), firstFrom p xs k = -1 ↔ p ∉ xs
  | [], k => by simp [firstFrom]
  | x :: xs, k => by
    unfold firstFrom
    have := firstFrom_neg p xs (k + 1)
    by_cases h : x = p
    · rw [if_pos h]
      simp [h]
    · rw [if_neg h, this]
      have h2 : ¬ p = x := fun e => h e.symm
      simp [h2]
theorem firstI_neg (xs : List Int) (p : Int) : firstI xs p = -1 ↔ p ∉ xs := firstFrom_neg p xs 0
/-- the numbers 0 .. n-1 -/
def upTo (n : Int) : List Int := (List.range n.toNat).map fun (k : Nat) => (k : Int)
theorem upTo_len (n : Int) : (upTo n).length = n.toNat := by simp [upTo]
theorem upTo_at (n : Int) (k : Nat) (h : k < n.toNat) : (upTo n)[k]? = some (k : Int) := by simp [upTo, h]
def firsts (n : Int) (xs : List Int) : List Int := (upTo n).map (firstI xs)
theorem firsts_len (n : Int) (xs : List Int) : (firsts n xs).length = n.toNat := by simp [firsts, upTo_len]
theorem firsts_at (n : Int) (xs : List Int) (k : Nat) (h : k < n.toNat) : (firsts n xs)[k]? = some (firstI xs k) := by simp [firsts, upTo_at n k h]
/-- what FirstVisits answers -/
noncomputable def visitsR (n : Int) (g : Bool) (xs : List Int) : List Int × Bool := if walkD n g xs = true then (firsts n xs, true) else ([], false)
theorem visitsR_len (n : Int) (g : Bool) (xs : List Int) : (visitsR n g xs).1.length ≤ 1048576 := by
  unfold visitsR
  by_cases h : walkD n g xs = true
  · rw [if_pos h]
    have := ((roadB_iff n g).1 ((walkD_iff n g xs).1 h).1).2.1
    simp only [firsts_len]
    omega
  · rw [if_neg h]
    simp
end Go.Proofs.Ytekahkeddpngpaa
