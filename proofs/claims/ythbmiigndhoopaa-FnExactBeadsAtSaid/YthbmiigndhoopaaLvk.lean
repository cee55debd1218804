/-
  What is proved: plain facts on a number that is put into a list in its order: it is what sorting gives. Conditions: those of each fact.
-/
import Derived.Test.YthbmiigndhoopaaLnw
namespace Go.Proofs.Ythbmiigndhoopaa
open Go.RowKit
set_option linter.unusedVariables false
set_option linter.unusedSimpArgs false

/-- a number put behind all that are not greater -/
def insI : List Int → Int → List Int
  | [], x => [x]
  | y :: r, x => if y ≤ x then y :: insI r x else x :: y :: r
/-- how many numbers stand ahead of it -/
def insAt : List Int → Int → Nat
  | [], _ => 0
  | y :: r, x => if y ≤ x then insAt r x + 1 else 0
theorem insAt_le : ∀ (xs : List Int) (x : Int), insAt xs x ≤ xs.length
  | [], _ => Nat.le_refl _
  | y :: r, x => by
    have := insAt_le r x
    unfold insAt
    split
    · simp; omega
    · omega
theorem insI_eq : ∀ (xs : List Int) (x : Int), insI xs x = xs.take (insAt xs x) ++ [x] ++ xs.drop (insAt xs x)
  | [], _ => rfl
  | y :: r, x => by
    have := insI_eq r x
    unfold insI insAt
    split
    · rw [this]; simp
    · simp
theorem insAt_lt : ∀ (xs : List Int) (x : Int) (j : Nat) (y : Int), j < insAt xs x → xs[j]? = some y → y ≤ x
  | [], _, _, _, h, _ => by cases h
  | z :: r, x, j, y, h, hy => by
    unfold insAt at h
    split at h
    · cases j with
      | zero => simp at hy; omega
      | succ j => exact insAt_lt r x j y (by omega) (by simpa using hy)
    · omega
theorem insAt_stop : ∀ (xs : List Int) (x : Int) (y : Int), xs[insAt xs x]? = some y → ¬ y ≤ x
  | [], _, _, h => by simp at h
  | z :: r, x, y, h => by
    unfold insAt at h
    split at h
    · exact insAt_stop r x y (by simpa using h)
    · simp at h; omega
theorem insI_perm : ∀ (xs : List Int) (x : Int), (insI xs x).Perm (xs ++ [x])
  | [], _ => List.Perm.refl _
  | y :: r, x => by
    unfold insI
    split
    · exact (insI_perm r x).cons y
    · exact (List.perm_append_comm (l₁ := [x]) (l₂ := y :: r))
theorem insI_len (xs : List Int) (x : Int) : (insI xs x).length = xs.length + 1 := by
  rw [(insI_perm xs x).length_eq]; simp
theorem insI_sorted : ∀ (xs : List Int) (x : Int), xs.Pairwise (fun a b => a ≤ b) → (insI xs x).Pairwise (fun a b => a ≤ b)
  | [], _, _ => by simp [insI]
  | y :: r, x, h => by
    obtain ⟨h1, h2⟩ := List.pairwise_cons.1 h
    unfold insI
    split
    · rename_i hy
      refine List.pairwise_cons.2 ⟨fun z hz => ?_, insI_sorted r x h2⟩
      rcases List.mem_append.1 ((insI_perm r x).mem_iff.1 hz) with hz | hz
      · exact h1 z hz
      · simp at hz; omega
    · refine List.pairwise_cons.2 ⟨fun z hz => ?_, h⟩
      rcases List.mem_cons.1 hz with rfl | hz
      · omega
      · have := h1 z hz; omega
/-- those of F k at which P holds, each put in in its order -/
def insTo (P : Nat → Bool) (F : Nat → Int) : Nat → List Int
  | 0 => []
  | k + 1 => if P k then insI (insTo P F k) (F k) else insTo P F k
theorem insTo_yes {P : Nat → Bool} {F : Nat → Int} {k : Nat} (h : P k = true) : insTo P F (k + 1) = insI (insTo P F k) (F k) := by
  show (if P k then insI (insTo P F k) (F k) else insTo P F k) = _
  rw [if_pos h]
theorem insTo_no {P : Nat → Bool} {F : Nat → Int} {k : Nat} (h : P k = false) : insTo P F (k + 1) = insTo P F k := by
  show (if P k then insI (insTo P F k) (F k) else insTo P F k) = _
  rw [h]; rfl
theorem insTo_sorted (P : Nat → Bool) (F : Nat → Int) : ∀ k, (insTo P F k).Pairwise (fun a b => a ≤ b)
  | 0 => List.Pairwise.nil
  | k + 1 => by
    have ih := insTo_sorted P F k
    cases hp : P k
    · rw [insTo_no hp]; exact ih
    · rw [insTo_yes hp]; exact insI_sorted _ _ ih
theorem insTo_perm (P : Nat → Bool) (F : Nat → Int) : ∀ k, (insTo P F k).Perm (selTo P F k)
  | 0 => List.Perm.refl _
  | k + 1 => by
    have ih := insTo_perm P F k
    cases hp : P k
    · rw [insTo_no hp, selTo_no hp]; exact ih
    · rw [insTo_yes hp, selTo_yes hp]
      exact (insI_perm _ _).trans (ih.append_right _)
theorem insTo_len (P : Nat → Bool) (F : Nat → Int) (k : Nat) : (insTo P F k).length ≤ k := by
  rw [(insTo_perm P F k).length_eq]; exact selTo_len P F k
/-- sorting the numbers gives the same -/
theorem sort_sel (P : Nat → Bool) (F : Nat → Int) (k : Nat) : (selTo P F k).mergeSort (fun x y => decide (x ≤ y)) = insTo P F k := by
  have hs : ((selTo P F k).mergeSort (fun x y => decide (x ≤ y))).Pairwise (fun x y => x ≤ y) := by
    have := List.pairwise_mergeSort (le := fun x y : Int => decide (x ≤ y)) (fun a b c h1 h2 => by simp at *; omega) (fun a b => by simp; omega) (selTo P F k)
    simpa using this
  exact ((List.mergeSort_perm _ _).trans (insTo_perm P F k).symm).eq_of_pairwise (fun a b _ _ h1 h2 => by omega) hs (insTo_sorted P F k)
/-- the beads that have not fallen off at t -/
noncomputable def bdsL (fs : List Int) (t : Int) (k : Nat) : List Int := selTo (fun i => decide (t ≤ fs.getD i 0)) (fun i => (i : Int)) k
end Go.Proofs.Ythbmiigndhoopaa
