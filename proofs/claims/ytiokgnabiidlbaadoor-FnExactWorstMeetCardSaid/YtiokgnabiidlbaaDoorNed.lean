/-
  What is proved: the contract of the program's meeting of walkers. Conditions: slices that read as lists; the variable noMeeting is as it was laid.
-/
import Derived.Test.YtiokgnabiidlbaaDoorNeb
import Derived.Test.YtiokgnabiidlbaaDoorMel
import Derived.Test.YtiokgnabiidlbaaDoorLol
namespace Go.Proofs.YtiokgnabiidlbaaDoor
open Go.RowKit
set_option linter.unusedVariables false
set_option linter.unusedSimpArgs false

/-- the walks of walkers to the time 60 -/
def walksL (n : Int) (g : Bool) (ks : List Wk) (j : Nat) : List (List Int) := (ks.take j).map fun k => walkW n g k 60
theorem walksL_next {n : Int} {g : Bool} {ks : List Wk} {j : Nat} {k : Wk} (h : ks[j]? = some k) : walksL n g ks (j + 1) = walksL n g ks j ++ [walkW n g k 60] := by
  obtain ⟨hj, rfl⟩ := List.getElem?_eq_some_iff.1 h
  unfold walksL
  rw [List.take_succ_eq_append_getElem hj, List.map_append]
  rfl
theorem walksL_len {n : Int} {g : Bool} {ks : List Wk} {j : Nat} (h : j ≤ ks.length) : (walksL n g ks j).length = j := by
  simp [walksL]
  omega
theorem walksL_61 {n : Int} {g : Bool} {ks : List Wk} {j : Nat} : ∀ (i : Nat) xs, (walksL n g ks j)[i]? = some xs → xs.length = 61 := by
  intro i xs hi
  have hm := List.mem_of_getElem? hi
  unfold walksL at hm
  rw [List.mem_map] at hm
  obtain ⟨k, _, rfl⟩ := hm
  exact pathL_len _ _
/-- what meet answers -/
def gathR (n : Int) (g : Bool) (ks : List Wk) : (Int × Int) × Bool := if wksB n g ks = true ∧ 0 ≤ meetT (walksL n g ks ks.length) then ((meetT (walksL n g ks ks.length), meetP (walksL n g ks ks.length)), true) else ((0, 0), false)
theorem gathR_no {n : Int} {g : Bool} {ks : List Wk} (h : ¬ (wksB n g ks = true ∧ 0 ≤ meetT (walksL n g ks ks.length))) : gathR n g ks = ((0, 0), false) := if_neg h
theorem gathR_yes {n : Int} {g : Bool} {ks : List Wk} (h : wksB n g ks = true ∧ 0 ≤ meetT (walksL n g ks ks.length)) : gathR n g ks = ((meetT (walksL n g ks ks.length), meetP (walksL n g ks ks.length)), true) := if_pos h
theorem meetT_low (wss : List (List Int)) : -1 ≤ meetT wss ∧ meetT wss ≤ 60 := by
  rcases firstT_range (sameB wss) 61 with h | ⟨k, hk, h, _⟩
  · unfold meetT
    omega
  · unfold meetT
    omega
theorem ret_G {R : (Int × Int) × Bool} {a b : Int} {c : Bool} (h : R = ((a, b), c)) : Ending.returned (.tuple #[.agg #[.int .i64 a, .int .i64 b], .bool c]) = .returned (.tuple #[.agg #[.int .i64 R.1.1, .int .i64 R.1.2], .bool R.2]) := by rw [h]
end Go.Proofs.YtiokgnabiidlbaaDoor
