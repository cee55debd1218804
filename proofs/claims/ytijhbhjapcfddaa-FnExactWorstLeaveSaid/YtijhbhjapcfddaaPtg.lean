/-
  What is proved: the contracts of spec.l5Number, impl.dividedUp and of PauseBound, the model's and the program's. Conditions: those of each contract.
-/
import Derived.Test.YtijhbhjapcfddaaPtc
import Derived.Test.YtijhbhjapcfddaaPte
namespace Go.Proofs.Ytijhbhjapcfddaa
open Go.RowKit
set_option linter.unusedVariables false
set_option linter.unusedSimpArgs false

/-- a valid road and a number of guards -/
def numB (n : Int) (g : Bool) (k : Int) : Bool := roadB n g && (decide (1 ≤ k) && decide (k ≤ 6))
theorem numB_iff (n : Int) (g : Bool) (k : Int) : numB n g k = true ↔ roadB n g = true ∧ 1 ≤ k ∧ k ≤ 6 := by simp [numB]
theorem numB_no {n : Int} {g : Bool} {k : Int} (h : ¬ (roadB n g = true ∧ 1 ≤ k ∧ k ≤ 6)) : numB n g k = false := by
  cases hb : numB n g k
  · rfl
  · exact absurd ((numB_iff n g k).1 hb) h
theorem dividedUp_any (a k : Int) (w : World) (ha : 0 ≤ a ∧ a ≤ 1000) (hk : 1 ≤ k ∧ k ≤ 6) :
    Calls Try.prog 86 #[.int .i64 a, .int .i64 k] w fun e w' => e = .returned (.int .i64 ((a + k - 1) / k)) ∧ w = w' := by
  obtain ⟨ha0, ha1⟩ := ha
  obtain ⟨hk0, hk1⟩ := hk
  have h1 : 0 ≤ a + k - 1 := by omega
  have h2 : k ≠ 0 := by omega
  have h3 : ¬ k = 0 := by omega
  have hw1 : IntKind.i64.wrap (a + k) = a + k := IntWalk.i64_in _ (by omega)
  have hw2 : IntKind.i64.wrap (a + k - 1) = a + k - 1 := IntWalk.i64_in _ (by omega)
  go_enter Try.func86, Try.ntmps86
  go_wp2
  go_ret
  exact ⟨ret_int (by first | rfl | omega), rfl⟩
def boundR (n : Int) (g : Bool) (k : Int) : Int × Bool := if numB n g k = true then (if k = 1 ∧ g = false then 2 * n - 2 else (n + k - 1) / k, true) else (0, false)
theorem boundR_no {n : Int} {g : Bool} {k : Int} (h : numB n g k = false) : boundR n g k = (0, false) := by unfold boundR; rw [h]; rfl
theorem boundR_one {n : Int} {k : Int} (h : numB n false k = true) (hk : k = 1) : boundR n false k = (2 * n - 2, true) := by unfold boundR; rw [if_pos h, if_pos ⟨hk, rfl⟩]
theorem boundR_up {n : Int} {g : Bool} {k : Int} (h : numB n g k = true) (hk : ¬ (k = 1 ∧ g = false)) : boundR n g k = ((n + k - 1) / k, true) := by unfold boundR; rw [if_pos h, if_neg hk]
theorem ret_RB {a : Int} {b : Bool} {R : Int × Bool} (h : R = (a, b)) : Ending.returned (.tuple #[.int .i64 a, .bool b]) = .returned (.tuple #[.int .i64 R.1, .bool R.2]) := by rw [h]
end Go.Proofs.Ytijhbhjapcfddaa
