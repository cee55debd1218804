/-
  What is proved: the contract of impl.areWalks: it says whether all lists of a list are walks. Conditions: slices that read as lists of numbers.
-/
import Derived.Test.YtekahkeddpngpaaWlk
namespace Go.Proofs.Ytekahkeddpngpaa
open Go.RowKit

/-- v reads as a list of lists of numbers -/
def ReadsL (w : World) (v : Value) (xss : List (List Int)) : Prop :=
  ∃ a c, v = .slice a xss.length c ∧ xss.length ≤ c ∧ xss.length ≤ maxLen ∧ ∀ (j : Nat) xs, xss[j]? = some xs → ∃ b o u, a = some ⟨b, o, none⟩ ∧ b < w.heap.size ∧ w.cell? ⟨b, o + j, none⟩ = some u ∧ ReadsI w u xs
theorem ReadsL.below {w w' : World} {v : Value} {xss : List (List Int)} (h : ReadsL w v xss) (hb : Below w.heap.size w w') : ReadsL w' v xss := by
  obtain ⟨a, c, hv, hc, hm, hx⟩ := h
  refine ⟨a, c, hv, hc, hm, fun j x hj => ?_⟩
  obtain ⟨b, o, u, ha, hlt, hcell, hr⟩ := hx j x hj
  exact ⟨b, o, u, ha, Nat.lt_of_lt_of_le hlt hb.size, (hb.cell (p := ⟨b, o + j, none⟩) hlt).trans hcell, hr.below hb⟩
theorem walk_iff (n : Int) (g : Bool) (xs : List Int) : Walk n g xs ↔ 1 ≤ xs.length ∧ xs.length ≤ 61 ∧ (roadB n g = true ∧ Inside n xs) ∧ Chain n g xs :=
  ⟨fun h => ⟨h.2.1, h.2.2.1, ⟨h.1, h.2.2.2.1⟩, h.2.2.2.2⟩, fun h => ⟨h.2.2.1.1, h.1, h.2.1, h.2.2.1.2, h.2.2.2⟩⟩
def ArRel (n : Int) (g : Bool) (xss : List (List Int)) (base : Nat) (w : World) (r i : Value) (wr : World) : Prop :=
  r = .bool false ∧ Boxed base n g w wr ∧ ∃ k : Nat, k ≤ xss.length ∧ i = .int .i64 k ∧ ∀ (j : Nat) xs, j < k → xss[j]? = some xs → Walk n g xs
def AllWalks (n : Int) (g : Bool) (xss : List (List Int)) : Prop := roadB n g = true ∧ ∀ (j : Nat) xs, xss[j]? = some xs → Walk n g xs
theorem allWalks_one (n : Int) (g : Bool) (xs : List Int) : AllWalks n g [xs] ↔ Walk n g xs := by
  constructor
  · intro h
    exact h.2 0 xs rfl
  · intro h
    refine ⟨h.1, fun j ys hj => ?_⟩
    match j, hj with
    | 0, hj => cases hj; exact h
theorem allWalks_two (n : Int) (g : Bool) (xs ys : List Int) : AllWalks n g [xs, ys] ↔ Walk n g xs ∧ Walk n g ys := by
  constructor
  · intro h
    exact ⟨h.2 0 xs rfl, h.2 1 ys rfl⟩
  · intro h
    refine ⟨h.1.1, fun j zs hj => ?_⟩
    match j, hj with
    | 0, hj => cases hj; exact h.1
    | 1, hj => cases hj; exact h.2
end Go.Proofs.Ytekahkeddpngpaa
