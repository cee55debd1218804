/-
  What is proved: the contracts of the model's and the program's tests of labels and walkers. Conditions: slices that read as lists of numbers.
-/
import Derived.Test.YtekahkeddpngpaaMeb
namespace Go.Proofs.Ytekahkeddpngpaa
open Go.RowKit
set_option linter.unusedVariables false
set_option linter.unusedSimpArgs false

theorem inB_any (x a b : Int) (w : World) :
    Calls Try.prog 51 #[.int .i64 x, .int .i64 a, .int .i64 b] w fun e w' => e = .returned (.bool (inB a b x)) ∧ w' = w :=
  (l1In_any x a b w).mono fun _ _ ⟨he, hw⟩ => ⟨he, hw.symm⟩
/-- a walker as a value -/
def wkv (k : Wk) (m : Value) : Value := .agg #[.int .i64 k.s, .int .i64 k.f, .int .i64 k.d, m]
/-- its cells -/
abbrev wkc (k : Wk) (m : Value) : Array Value := #[.int .i64 k.s, .int .i64 k.f, .int .i64 k.d, m]
theorem place_one_at {w : World} {a : Int} {t : TypeId} (k : Nat) (hk : w.heap.size = k) : ReadsI (w.alloc (.cells #[.int .i64 a] t)) (.slice (some ⟨k, 0, none⟩) 1 1) [a] := by
  subst hk
  refine ⟨_, 1, rfl, Nat.le_refl _, by simp [maxLen], fun j x hj => ?_⟩
  match j, hj with
  | 0, hj => cases hj; exact ⟨_, 0, rfl, by simp, by rw [cell_new]; rfl⟩
theorem inside_one (n : Int) (g : Bool) (a : Int) : (roadB n g = true ∧ Inside n [a]) ↔ placeB n g a = true := by
  rw [placeB_iff]
  constructor
  · intro h
    exact ⟨h.1, h.2 0 a rfl⟩
  · intro h
    refine ⟨h.1, fun j x hj => ?_⟩
    match j, hj with
    | 0, hj => cases hj; exact h.2
theorem places_1 (n : Int) (g : Bool) (a : Int) (v : Value) (w : World) (hv : ReadsI w v [a]) :
    Calls Try.prog 94 #[rd n g, v] w fun e w' => e = .returned (.bool (placeB n g a)) ∧ Below w.heap.size w w' :=
  (arePlaces_any n g v [a] w hv).mono fun _ _ ⟨_, he, hi, hb⟩ => ⟨by rw [he, bool_of_iff (hi.trans (inside_one n g a)) Iff.rfl], hb⟩
end Go.Proofs.Ytekahkeddpngpaa
