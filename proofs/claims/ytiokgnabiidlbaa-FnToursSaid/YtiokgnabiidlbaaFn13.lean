/-
  What is proved: impl.StraightWalk and the model's answer alike. Conditions: none.
-/
import Derived.Test.YtiokgnabiidlbaaFn12
namespace Go.Proofs.Ytiokgnabiidlbaa
open Go.RowKit

theorem posUp {n a : Int} {k : Nat} (ha : 0 ≤ a ∧ a < n) (hk : (k : Int) ≤ n) : posC n true a 1 k = if a + k < n then a + k else a + k - n := by
  unfold posC
  simp only [if_true, Int.one_mul]
  split
  · exact Int.emod_eq_of_lt (by omega) (by omega)
  · have e : a + (k : Int) = (a + k - n) + n := by omega
    rw [e, Int.add_emod_right]
    rw [Int.emod_eq_of_lt (by omega) (by omega)]
    omega
theorem posDn {n a : Int} {k : Nat} (ha : 0 ≤ a ∧ a < n) (hk : (k : Int) ≤ n) : posC n true a (-1) k = if (k : Int) ≤ a then a - k else a - k + n := by
  unfold posC
  simp only [if_true]
  have e0 : a + -1 * (k : Int) = a - k := by omega
  rw [e0]
  split
  · exact Int.emod_eq_of_lt (by omega) (by omega)
  · rw [← Int.add_emod_right]
    exact Int.emod_eq_of_lt (by omega) (by omega)
theorem posLu {n a : Int} {k : Nat} (ha : 0 ≤ a ∧ a < n) : posC n false a 1 k = min (a + k) (n - 1) := by
  unfold posC
  simp only [Bool.false_eq_true, if_false]
  omega
theorem posLd {n a : Int} {k : Nat} (ha : 0 ≤ a ∧ a < n) : posC n false a (-1) k = max (a - k) 0 := by
  unfold posC
  simp only [Bool.false_eq_true, if_false]
  omega
end Go.Proofs.Ytiokgnabiidlbaa
