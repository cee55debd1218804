/-
  What is proved: plain facts on the walk of a search: its legs one behind the other. Conditions: those of each fact.
-/
import Derived.Test.YtnclfdfnhhicdaaSet
import Derived.Test.YtnclfdfnhhicdaaSeh
import Derived.Test.YtnclfdfnhhicdaaFn19
namespace Go.Proofs.Ytnclfdfnhhicdaa
open Go.RowKit
set_option linter.unusedVariables false
set_option linter.unusedSimpArgs false

/-- the first t places behind q on the way to z -/
def legT (q z : Int) (t : Nat) : List Int := (List.range t).map fun (j : Nat) => if q ≤ z then q + ((j : Int) + 1) else q - ((j : Int) + 1)
theorem legT_len (q z : Int) (t : Nat) : (legT q z t).length = t := by simp [legT]
theorem legT_at (q z : Int) (t j : Nat) (h : j < t) : (legT q z t)[j]? = some (if q ≤ z then q + ((j : Int) + 1) else q - ((j : Int) + 1)) := by simp [legT, h]
theorem legT_next (q z : Int) (t : Nat) : legT q z (t + 1) = legT q z t ++ [if q ≤ z then q + ((t : Int) + 1) else q - ((t : Int) + 1)] := by
  simp [legT, List.range_succ]
theorem leg_drop {n q z : Int} (hq : 0 ≤ q ∧ q < n) (hz : 0 ≤ z ∧ z < n) : (straightL n false q z).drop 1 = legT q z (gap1 z q).toNat := by
  have hl := leg_len hq hz
  have hg : 0 ≤ gap1 z q := by unfold gap1; omega
  apply List.ext_getElem?
  intro j
  rw [List.getElem?_drop]
  by_cases hj : j < (gap1 z q).toNat
  · rw [leg_at hq hz (by omega), legT_at q z _ j hj]
    congr 1
    split <;> omega
  · rw [List.getElem?_eq_none (by omega), List.getElem?_eq_none (by rw [legT_len]; omega)]
/-- the walk behind k turning places -/
def walkS (a : Int) (xs : List Int) : Nat → List Int
  | 0 => [a]
  | k + 1 => walkS a xs k ++ legT (plc a xs k) (plc a xs (k + 1)) (gap1 (plc a xs (k + 1)) (plc a xs k)).toNat
theorem walkS_next {a : Int} {xs : List Int} {k : Nat} {q z : Int} (hq : plc a xs k = q) (hz : xs[k]? = some z) : walkS a xs (k + 1) = walkS a xs k ++ legT q z (gap1 z q).toNat := by
  show walkS a xs k ++ legT (plc a xs k) (plc a xs (k + 1)) (gap1 (plc a xs (k + 1)) (plc a xs k)).toNat = _
  rw [hq, plc_next hz]
theorem walkS_pos (a : Int) (xs : List Int) : ∀ k, 1 ≤ (walkS a xs k).length
  | 0 => Nat.le_refl _
  | k + 1 => by
    have := walkS_pos a xs k
    show 1 ≤ (walkS a xs k ++ _).length
    rw [List.length_append]
    omega
/-- where a part of the walk ends -/
theorem legT_last {ws : List Int} {q z : Int} (h1 : 1 ≤ ws.length) (hw : ws[ws.length - 1]? = some q) (t : Nat) : (ws ++ legT q z t)[(ws ++ legT q z t).length - 1]? = some (if q ≤ z then q + (t : Int) else q - (t : Int)) := by
  rw [List.length_append, legT_len]
  by_cases ht : t = 0
  · subst ht
    rw [List.getElem?_append_left (by omega), Nat.add_zero, hw]
    congr 1
    split <;> simp
  · rw [List.getElem?_append_right (by omega), legT_at q z t _ (by omega)]
    congr 1
    split <;> omega
theorem walkS_last (a : Int) (xs : List Int) : ∀ k, (walkS a xs k)[(walkS a xs k).length - 1]? = some (plc a xs k)
  | 0 => rfl
  | k + 1 => by
    show (walkS a xs k ++ legT (plc a xs k) (plc a xs (k + 1)) (gap1 (plc a xs (k + 1)) (plc a xs k)).toNat)[(walkS a xs k ++ legT (plc a xs k) (plc a xs (k + 1)) (gap1 (plc a xs (k + 1)) (plc a xs k)).toNat).length - 1]? = _
    rw [legT_last (walkS_pos a xs k) (walkS_last a xs k)]
    congr 1
    unfold gap1
    split <;> omega
theorem walkS_mono (a : Int) (xs : List Int) (k : Nat) : ∀ m, k ≤ m → (walkS a xs k).length ≤ (walkS a xs m).length
  | 0, h => by
    obtain rfl : k = 0 := by omega
    exact Nat.le_refl _
  | m + 1, h => by
    by_cases he : k = m + 1
    · rw [he]
      exact Nat.le_refl _
    · have := walkS_mono a xs k m (by omega)
      show _ ≤ (walkS a xs m ++ _).length
      rw [List.length_append]
      omega
theorem walkS_len {n a : Int} {xs : List Int} (ha : 0 ≤ a ∧ a < n) (hn : n ≤ 24) (hin : Inside n xs) : ∀ k, k ≤ xs.length → (walkS a xs k).length ≤ 1 + 23 * k
  | 0, _ => Nat.le_refl _
  | k + 1, h => by
    have := walkS_len ha hn hin k (by omega)
    have h1 := plc_in ha hin k (by omega)
    have h2 := plc_in ha hin (k + 1) h
    show (walkS a xs k ++ legT (plc a xs k) (plc a xs (k + 1)) (gap1 (plc a xs (k + 1)) (plc a xs k)).toNat).length ≤ _
    rw [List.length_append, legT_len]
    unfold gap1
    omega
theorem inside_search {n a : Int} {xs : List Int} (hs : searchB n a xs = true) : Inside n xs := by
  intro j p hj
  by_cases ho : 0 ≤ p ∧ p < n
  · exact ho
  · have := searchB_out (n := n) (a := a) hj (by omega)
    rw [hs] at this
    cases this
theorem gap_abs (n p q : Int) : gapI n false p q = gap1 p q := rfl
/-- a leg is a walk -/
theorem leg_walk {n q z : Int} (hn : 2 ≤ n ∧ n ≤ 24) (hq : 0 ≤ q ∧ q < n) (hz : 0 ≤ z ∧ z < n) : Walk n false (straightL n false q z) := by
  have hl := leg_len hq hz
  have hg : 0 ≤ gap1 z q ∧ gap1 z q ≤ 23 := by unfold gap1; omega
  refine ⟨(roadB_iff n false).2 ⟨hn.1, hn.2, fun h => by cases h⟩, by omega, by omega, fun k x hx => ?_, fun k p r hp hr => ?_⟩
  · have hk := (List.getElem?_eq_some_iff.1 hx).1
    rw [leg_at hq hz hk] at hx
    cases hx
    unfold gap1 at hl
    split <;> omega
  · have hk := (List.getElem?_eq_some_iff.1 hp).1
    have hk2 := (List.getElem?_eq_some_iff.1 hr).1
    rw [leg_at hq hz hk] at hp
    rw [leg_at hq hz hk2] at hr
    cases hp
    cases hr
    rw [gap_abs]
    unfold gap1
    split <;> omega
theorem leg_first {n q z : Int} (hq : 0 ≤ q ∧ q < n) (hz : 0 ≤ z ∧ z < n) : (straightL n false q z)[0]? = some q := by
  have hl := leg_len hq hz
  have hg : 0 ≤ gap1 z q := by unfold gap1; omega
  rw [leg_at hq hz (by omega)]
  congr 1
  split <;> simp
theorem one_walk {n a : Int} (hn : 2 ≤ n ∧ n ≤ 24) (ha : 0 ≤ a ∧ a < n) : Walk n false [a] := by
  refine ⟨(roadB_iff n false).2 ⟨hn.1, hn.2, fun h => by cases h⟩, Nat.le_refl _, by simp, fun k x hx => ?_, fun k p r hp hr => ?_⟩
  · match k, hx with
    | 0, hx => cases hx; exact ha
    | k + 1, hx => simp at hx
  · simp at hr
/-- joined with the next leg -/
theorem walkS_join {n a : Int} {xs : List Int} {k : Nat} {q z : Int} (hn : 2 ≤ n ∧ n ≤ 24) (hq : plc a xs k = q) (hz : xs[k]? = some z) (hq2 : 0 ≤ q ∧ q < n) (hz2 : 0 ≤ z ∧ z < n) (hw : Walk n false (walkS a xs k)) :
    walkS a xs k ++ (straightL n false q z).drop 1 = walkS a xs (k + 1) ∧ (walkS a xs k)[(walkS a xs k).length - 1]? = (straightL n false q z)[0]? ∧ (walkS a xs k).length + (straightL n false q z).length - 1 = (walkS a xs (k + 1)).length ∧
    (Walk n false (walkS a xs (k + 1)) ↔ (walkS a xs (k + 1)).length ≤ 61) := by
  have h1 : walkS a xs k ++ (straightL n false q z).drop 1 = walkS a xs (k + 1) := by rw [walkS_next hq hz, leg_drop hq2 hz2]
  have h2 : (walkS a xs k)[(walkS a xs k).length - 1]? = (straightL n false q z)[0]? := by rw [walkS_last, hq, leg_first hq2 hz2]
  have hl := leg_len hq2 hz2
  have hg : 0 ≤ gap1 z q := by unfold gap1; omega
  have h3 : (walkS a xs k).length + (straightL n false q z).length - 1 = (walkS a xs (k + 1)).length := by
    rw [← h1, List.length_append, List.length_drop]
    omega
  refine ⟨h1, h2, h3, ?_⟩
  have := join_walk hw (leg_walk hn hq2 hz2) h2
  rw [h1, h3] at this
  exact this
/-- what SearchWalk answers -/
def swalkR (n : Int) (g : Bool) (a : Int) (xs : List Int) : List Int × Bool := if lineB n g a && searchB n a xs && decide ((walkS a xs xs.length).length ≤ 61) then (walkS a xs xs.length, true) else ([], false)
theorem swalkR_no {n : Int} {g : Bool} {a : Int} {xs : List Int} (h : (lineB n g a && searchB n a xs) = false) : swalkR n g a xs = ([], false) := by
  unfold swalkR
  rw [h, if_neg (by simp)]
theorem swalkR_long {n : Int} {g : Bool} {a : Int} {xs : List Int} (h : ¬ (walkS a xs xs.length).length ≤ 61) : swalkR n g a xs = ([], false) := by
  unfold swalkR
  rw [if_neg (by simp [h])]
theorem swalkR_yes {n : Int} {g : Bool} {a : Int} {xs : List Int} (h : (lineB n g a && searchB n a xs) = true) (hl : (walkS a xs xs.length).length ≤ 61) : swalkR n g a xs = (walkS a xs xs.length, true) := by
  unfold swalkR
  rw [h, if_pos (by simp [hl])]
theorem swalkR_len (n : Int) (g : Bool) (a : Int) (xs : List Int) : (swalkR n g a xs).1.length ≤ 1048576 := by
  unfold swalkR
  split
  · rename_i h
    rw [Bool.and_eq_true] at h
    have := of_decide_eq_true h.2
    dsimp only
    omega
  · simp
end Go.Proofs.Ytnclfdfnhhicdaa
