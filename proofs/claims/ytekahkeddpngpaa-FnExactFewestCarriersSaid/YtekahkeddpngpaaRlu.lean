/-
  What is proved: plain facts on the reaches of all sets of carriers. Conditions: those of each fact.
-/
import Derived.Test.YtekahkeddpngpaaRlj
namespace Go.Proofs.Ytekahkeddpngpaa
open Go.RowKit
set_option linter.unusedVariables false
set_option linter.unusedSimpArgs false

/-- the best of a set, given the ones of lesser sets, when i carriers are looked at -/
def bestF (n : Int) (cs : List Cr) (a : Int) (T : List Int) (code : Nat) : Nat → Int
  | 0 => a
  | i + 1 => if code.testBit i then max (bestF n cs a T code i) (onw n (crAt cs (i : Int)) (T.getD (code - 2 ^ i) 0)) else bestF n cs a T code i
/-- the greatest reaches of the first k sets -/
def tabF (n : Int) (cs : List Cr) (a : Int) : Nat → List Int
  | 0 => []
  | k + 1 => tabF n cs a k ++ [bestF n cs a (tabF n cs a k) k cs.length]
theorem tabF_len (n : Int) (cs : List Cr) (a : Int) : ∀ k, (tabF n cs a k).length = k
  | 0 => rfl
  | k + 1 => by rw [tabF, List.length_append, tabF_len]; rfl
theorem bestF_yes {n : Int} {cs : List Cr} {a : Int} {T : List Int} {code i : Nat} (h : code.testBit i = true) : bestF n cs a T code (i + 1) = max (bestF n cs a T code i) (onw n (crAt cs (i : Int)) (T.getD (code - 2 ^ i) 0)) := by
  rw [bestF, if_pos h]
theorem bestF_no {n : Int} {cs : List Cr} {a : Int} {T : List Int} {code i : Nat} (h : code.testBit i = false) : bestF n cs a T code (i + 1) = bestF n cs a T code i := by
  rw [bestF, if_neg (by simp [h])]
theorem bestF_high {n : Int} {cs : List Cr} {a : Int} {T : List Int} {code i : Nat} (h : code < 2 ^ i) : ∀ d, bestF n cs a T code (i + d) = bestF n cs a T code i
  | 0 => rfl
  | d + 1 => by
    have hb : code.testBit (i + d) = false := Nat.testBit_lt_two_pow (Nat.lt_of_lt_of_le h (Nat.pow_le_pow_right (by omega) (by omega)))
    rw [show i + (d + 1) = (i + d) + 1 from rfl, bestF_no hb, bestF_high h d]
theorem bestF_range {n : Int} {cs : List Cr} (hc : WkL n cs) {a : Int} (ha : 0 ≤ a ∧ a < n) {T : List Int} (hT : ∀ (j : Nat) x, T[j]? = some x → 0 ≤ x ∧ x < n) {code : Nat} (hcl : code ≤ T.length) (hlt : code < 2 ^ cs.length) : ∀ i, 0 ≤ bestF n cs a T code i ∧ bestF n cs a T code i < n
  | 0 => ha
  | i + 1 => by
    have ih := bestF_range hc ha hT hcl hlt i
    cases hb : code.testBit i
    · rw [bestF_no hb]
      exact ih
    · rw [bestF_yes hb]
      have hi : i < cs.length := by
        by_cases h : i < cs.length
        · exact h
        · rw [Nat.testBit_lt_two_pow (Nat.lt_of_lt_of_le hlt (Nat.pow_le_pow_right (by omega) (by omega)))] at hb
          cases hb
      have hge : 2 ^ i ≤ code := Nat.ge_two_pow_of_testBit hb
      have hpos : 0 < 2 ^ i := Nat.two_pow_pos i
      obtain ⟨c, hc1, hc2⟩ := cr_some hi
      obtain ⟨x, hx⟩ := get_some (xs := T) (k := code - 2 ^ i) (by omega)
      have hg : T.getD (code - 2 ^ i) 0 = x := by simp [List.getD, hx]
      rw [hg, hc2]
      have h1 := onw_range (hc.2.2 i c hc1) (hT _ x hx)
      omega
theorem tabF_range {n : Int} {cs : List Cr} (hc : WkL n cs) {a : Int} (ha : 0 ≤ a ∧ a < n) : ∀ k, k ≤ 2 ^ cs.length → ∀ (j : Nat) x, (tabF n cs a k)[j]? = some x → 0 ≤ x ∧ x < n
  | 0, _, j, x, hj => by simp [tabF] at hj
  | k + 1, hk, j, x, hj => by
    have hl := tabF_len n cs a k
    rw [tabF] at hj
    by_cases hjk : j < k
    · rw [List.getElem?_append_left (by omega)] at hj
      exact tabF_range hc ha k (by omega) j x hj
    · rw [List.getElem?_append_right (by omega)] at hj
      have hj0 : j - (tabF n cs a k).length = 0 := by
        have := (List.getElem?_eq_some_iff.1 hj).1
        simp at this
        omega
      rw [hj0] at hj
      cases hj
      exact bestF_range hc ha (tabF_range hc ha k (by omega)) (by omega) (by omega) cs.length
/-- the greatest reach of all -/
def grF (n : Int) (cs : List Cr) (a : Int) : Int := (tabF n cs a (2 ^ cs.length)).getD (2 ^ cs.length - 1) 0
def greatR (n : Int) (g : Bool) (cs : List Cr) (a : Int) : Int × Bool := if csB n g cs && placeB n g a then (grF n cs a, true) else (0, false)
theorem greatR_no {n : Int} {g : Bool} {cs : List Cr} {a : Int} (h : (csB n g cs && placeB n g a) = false) : greatR n g cs a = (0, false) := by
  unfold greatR
  rw [h]
  rfl
theorem greatR_yes {n : Int} {g : Bool} {cs : List Cr} {a : Int} (h : (csB n g cs && placeB n g a) = true) : greatR n g cs a = (grF n cs a, true) := by
  unfold greatR
  rw [h]
  rfl
theorem grF_at {n : Int} {cs : List Cr} {a : Int} : (tabF n cs a (2 ^ cs.length))[2 ^ cs.length - 1]? = some (grF n cs a) := by
  have hl := tabF_len n cs a (2 ^ cs.length)
  have hp := Nat.two_pow_pos cs.length
  unfold grF
  rw [List.getElem?_eq_getElem (by omega)]
  simp [List.getD, List.getElem?_eq_getElem (show 2 ^ cs.length - 1 < (tabF n cs a (2 ^ cs.length)).length by omega)]
theorem rchF_one (n : Int) (cs : List Cr) (x : Int) (i : Int) : rchF n cs x [i] = onw n (crAt cs i) x := rfl
theorem ordC_one {m : Nat} {i : Nat} (h : i < m) : ordC m [(i : Int)] = true := by
  rw [ordC_iff]
  refine ⟨fun j x hj => ?_, by simp⟩
  match j, hj with
  | 0, hj => cases hj; omega
end Go.Proofs.Ytekahkeddpngpaa
