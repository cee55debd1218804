/-
  What is proved: plain facts on patrols whose rounds are changed one by one. Conditions: those of each fact.
-/
import Derived.Test.YtefjignlhlpndaaTbc
import Derived.Test.YtefjignlhlpndaaPtc
namespace Go.Proofs.Ytefjignlhlpndaa
open Go.RowKit
set_option linter.unusedVariables false
set_option linter.unusedSimpArgs false

/-- the table of the changed rounds -/
def chgT (T : List Int → List Int) (xss : List (List Int)) (j : Nat) : List Int := T (xss.getD j [])
theorem chgT_at {T : List Int → List Int} {xss : List (List Int)} {j : Nat} {xs : List Int} (h : xss[j]? = some xs) : chgT T xss j = T xs := by
  unfold chgT
  simp [List.getD, h]
theorem chgT_tab (T : List Int → List Int) (xss : List (List Int)) : tabF (chgT T xss) xss.length = xss.map T := by
  apply List.ext_getElem?
  intro j
  by_cases hj : j < xss.length
  · rw [tabF_at _ _ _ hj, List.getElem?_map]
    obtain ⟨xs, hx⟩ := get_some hj
    rw [hx, chgT_at hx]
    rfl
  · rw [List.getElem?_eq_none (by rw [tabF_len]; omega), List.getElem?_eq_none (by simp; omega)]
theorem size_chg {T : List Int → List Int} {xss : List (List Int)} (hT : ∀ (j : Nat) xs, xss[j]? = some xs → (T xs).length = xs.length) : sizeT (xss.map T) = sizeT xss := by
  have key : ∀ k, k ≤ xss.length → lenTo (xss.map T) k = lenTo xss k := by
    intro k
    induction k with
    | zero => intro _; rfl
    | succ k ih =>
      intro hk
      obtain ⟨xs, hx⟩ := get_some (xs := xss) (k := k) (by omega)
      rw [lenTo_next hx, lenTo_next (xs := T xs) (by rw [List.getElem?_map, hx]; rfl), ih (by omega), hT k xs hx]
  unfold sizeT
  rw [List.length_map, key _ (Nat.le_refl _)]
/-- the answer where a patrol's rounds are changed -/
noncomputable def chgR (n : Int) (g : Bool) (T : List Int → List Int) (c : Bool) (xss : List (List Int)) : List (List Int) × Bool := if patD n g xss = true ∧ c = true then (tabF (chgT T xss) xss.length, true) else ([], false)
theorem chgR_no {n : Int} {g : Bool} {T : List Int → List Int} {c : Bool} {xss : List (List Int)} (h : ¬ (patD n g xss = true ∧ c = true)) : chgR n g T c xss = ([], false) := by unfold chgR; rw [if_neg h]
theorem chgR_yes {n : Int} {g : Bool} {T : List Int → List Int} {c : Bool} {xss : List (List Int)} (h : patD n g xss = true) (hc : c = true) : chgR n g T c xss = (tabF (chgT T xss) xss.length, true) := by unfold chgR; rw [if_pos ⟨h, hc⟩]
theorem chgR_size (n : Int) (g : Bool) (T : List Int → List Int) (c : Bool) (xss : List (List Int)) (hT : ∀ xs : List Int, 1 ≤ xs.length → (T xs).length = xs.length) (hs : sizeT xss ≤ 1048576) : sizeT (chgR n g T c xss).1 ≤ 1048576 := by
  by_cases h : patD n g xss = true ∧ c = true
  · rw [chgR_yes h.1 h.2]
    show sizeT (tabF (chgT T xss) xss.length) ≤ 1048576
    rw [chgT_tab, size_chg (fun j xs hx => hT xs (((patD_iff n g xss).1 h.1).2.2.1 j xs hx).1.1)]
    exact hs
  · rw [chgR_no h]
    simp [sizeT, lenTo]
/-- a row that grows while another number goes along -/
def RowRelI (f : Nat → Int) (m base : Nat) (w0 : World) (v i : Value) (wr : World) : Prop :=
  Below base w0 wr ∧ base ≤ wr.heap.size ∧ ∃ t : Nat, t ≤ m ∧ i = .int .i64 ((m : Int) - 1 - (t : Int)) ∧ wr.ownsRow base 3 1 v t ((rowF f t).map iv)
def mirT (n : Int) (xs : List Int) : List Int := xs.map fun p => n - 1 - p
def shfT (by_ : Nat) (xs : List Int) : List Int := xs.drop (by_ % xs.length) ++ xs.take (by_ % xs.length)
def mirF (n : Int) (xs : List Int) (t : Nat) : Int := n - 1 - xs.getD t 0
def shfF (by_ : Nat) (xs : List Int) (t : Nat) : Int := xs.getD ((t + by_) % xs.length) 0
def bckF (xs : List Int) (t : Nat) : Int := xs.getD (xs.length - 1 - t) 0
theorem mirT_row (n : Int) (xs : List Int) : rowF (mirF n xs) xs.length = mirT n xs := by
  apply List.ext_getElem?
  intro j
  by_cases hj : j < xs.length
  · rw [rowF_at _ _ _ hj]
    simp [mirT, mirF, List.getD, hj]
  · rw [List.getElem?_eq_none (by rw [rowF_len]; omega), List.getElem?_eq_none (by simp [mirT]; omega)]
theorem bckT_row (xs : List Int) : rowF (bckF xs) xs.length = xs.reverse := by
  apply List.ext_getElem?
  intro j
  by_cases hj : j < xs.length
  · rw [rowF_at _ _ _ hj, List.getElem?_reverse hj]
    unfold bckF
    have : xs.length - 1 - j < xs.length := by omega
    simp [List.getD, this]
  · rw [List.getElem?_eq_none (by rw [rowF_len]; omega), List.getElem?_eq_none (by simp; omega)]
theorem shfT_len (by_ : Nat) (xs : List Int) (h : 1 ≤ xs.length) : (shfT by_ xs).length = xs.length := by
  have := Nat.mod_lt by_ (show xs.length > 0 by omega)
  simp [shfT]
  omega
theorem shfT_row (by_ : Nat) (xs : List Int) (h : 1 ≤ xs.length) : rowF (shfF by_ xs) xs.length = shfT by_ xs := by
  have hm := Nat.mod_lt by_ (show xs.length > 0 by omega)
  have ha : ∀ t, (t + by_) % xs.length = (t + by_ % xs.length) % xs.length := fun t => by simp [Nat.add_mod]
  generalize hq : by_ % xs.length = q at *
  apply List.ext_getElem?
  intro j
  by_cases hj : j < xs.length
  · rw [rowF_at _ _ _ hj]
    unfold shfF shfT
    rw [ha, hq]
    by_cases h1 : j + q < xs.length
    · rw [Nat.mod_eq_of_lt h1, List.getElem?_append_left (by rw [List.length_drop]; omega), List.getElem?_drop, Nat.add_comm q j]
      simp [List.getD, h1]
    · have e : (j + q) % xs.length = j + q - xs.length := by
        rw [Nat.mod_eq_sub_mod (by omega), Nat.mod_eq_of_lt (by omega)]
      have h2 : j + q - xs.length < xs.length := by omega
      rw [e, List.getElem?_append_right (by rw [List.length_drop]; omega), List.length_drop, List.getElem?_take, if_pos (by omega), show j - (xs.length - q) = j + q - xs.length by omega]
      simp [List.getD, h2]
  · rw [List.getElem?_eq_none (by rw [rowF_len]; omega), List.getElem?_eq_none (by rw [shfT_len by_ xs h]; omega)]
end Go.Proofs.Ytefjignlhlpndaa
