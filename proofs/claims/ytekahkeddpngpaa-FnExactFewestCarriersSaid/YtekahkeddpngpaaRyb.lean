/-
  What is proved: ReachOrder of the model, its answer as a list that is read. Conditions: lists that read as carriers.
-/
import Derived.Test.YtekahkeddpngpaaRya
import Derived.Test.YtekahkeddpngpaaRll
namespace Go.Proofs.Ytekahkeddpngpaa
open Go.RowKit
set_option linter.unusedVariables false
set_option linter.unusedSimpArgs false

theorem ordC_more {m : Nat} {us : List Int} {k : Nat} (h : ordC m us = true) (hk : k < m) (hc : us.contains (k : Int) = false) : ordC m (us ++ [(k : Int)]) = true := by
  rw [ordC_iff] at h ⊢
  constructor
  · intro j i hj
    by_cases hl : j < us.length
    · rw [List.getElem?_append_left hl] at hj
      exact h.1 j i hj
    · rw [List.getElem?_append_right (by omega)] at hj
      match hq : j - us.length, hj with
      | 0, hj => cases hj; omega
  · rw [List.nodup_append]
    refine ⟨h.2, by simp, fun a ha b hb e => ?_⟩
    simp at hb
    subst hb e
    have : us.contains (k : Int) = true := by simpa using ha
    rw [hc] at this
    cases this
theorem extO_ord {n : Nat} {o y : List Int} (ho : ordC n o = true) : ∀ {k : Nat}, k ≤ n → y ∈ extO o k → ordC n y = true
  | 0, _, h => by simp [extO] at h
  | k + 1, hk, h => by
    cases hc : o.contains (k : Int)
    · rw [extO_no hc, List.mem_append] at h
      rcases h with h | h
      · exact extO_ord ho (by omega) h
      · simp at h
        rw [h]
        exact ordC_more ho (by omega) hc
    · rw [extO_yes hc] at h
      exact extO_ord ho (by omega) h
theorem lvl_ord {n : Nat} : ∀ {k : Nat} {o : List Int}, o ∈ lvl n k → ordC n o = true
  | 0, o, h => by
    simp [lvl] at h
    rw [h]
    exact (ordC_iff n []).2 ⟨fun j i hj => by simp at hj, List.nodup_nil⟩
  | k + 1, o, h => by
    rw [lvl, List.mem_flatMap] at h
    obtain ⟨p, hp, ho⟩ := h
    exact extO_ord (lvl_ord hp) (Nat.le_refl _) ho
/-- the first order of the lengths below k with p -/
def roN (n : Nat) (p : List Int → Bool) : Nat → Option (List Int)
  | 0 => none
  | k + 1 => match roN n p k with | some o => some o | none => (lvl n k).find? p
theorem roN_none {n : Nat} {p : List Int → Bool} : ∀ {k : Nat}, (∀ m, m < k → ∀ o, o ∈ lvl n m → p o = false) → roN n p k = none
  | 0, _ => rfl
  | k + 1, h => by
    rw [roN, roN_none (fun m hm => h m (by omega))]
    show (lvl n k).find? p = none
    rw [List.find?_eq_none]
    intro o ho
    rw [h k (by omega) o ho]
    simp
theorem roN_some {n : Nat} {p : List Int → Bool} {m : Nat} {o : List Int} (h : ∀ q, q < m → ∀ o, o ∈ lvl n q → p o = false) (hf : (lvl n m).find? p = some o) : ∀ d, roN n p (m + 1 + d) = some o
  | 0 => by
    show roN n p (m + 1) = some o
    rw [roN, roN_none h]
    exact hf
  | d + 1 => by
    show roN n p ((m + 1 + d) + 1) = some o
    rw [roN, roN_some h hf d]
theorem find_at {L : List (List Int)} {p : List Int → Bool} {j : Nat} {o : List Int} (hj : L[j]? = some o) (hp : p o = true) (hn : ∀ i y, i < j → L[i]? = some y → p y = false) : L.find? p = some o := by
  induction L generalizing j with
  | nil => simp at hj
  | cons y L ih =>
    match j, hj, hn with
    | 0, hj, hn =>
      cases hj
      simp [hp]
    | j + 1, hj, hn =>
      have h0 := hn 0 y (by omega) rfl
      rw [List.find?_cons, h0]
      exact ih (by simpa using hj) (fun i z hi hz => hn (i + 1) z (by omega) (by simpa using hz))
/-- whether an order has the reach -/
def goesP (n : Int) (cs : List Cr) (a b : Int) (o : List Int) : Bool := decide (b ≤ rchF n cs a o)
def roF (n : Int) (cs : List Cr) (a b : Int) : Option (List Int) := roN cs.length (goesP n cs a b) (cs.length + 1)
def roR (n : Int) (g : Bool) (cs : List Cr) (a b : Int) : List Int × Bool := match (if askB n g cs a b then roF n cs a b else none) with | some o => (o, true) | none => ([], false)
theorem roR_no {n : Int} {g : Bool} {cs : List Cr} {a b : Int} (h : askB n g cs a b = false) : roR n g cs a b = ([], false) := by
  unfold roR
  rw [h]
  rfl
theorem roR_none {n : Int} {g : Bool} {cs : List Cr} {a b : Int} (h : askB n g cs a b = true) (h2 : roF n cs a b = none) : roR n g cs a b = ([], false) := by
  unfold roR
  rw [if_pos h, h2]
theorem roR_some {n : Int} {g : Bool} {cs : List Cr} {a b : Int} {o : List Int} (h : askB n g cs a b = true) (h2 : roF n cs a b = some o) : roR n g cs a b = (o, true) := by
  unfold roR
  rw [if_pos h, h2]
theorem roF_at {n : Int} {cs : List Cr} {a b : Int} {m j : Nat} {o : List Int} (hm : m ≤ cs.length) (h : ∀ q, q < m → ∀ o, o ∈ lvl cs.length q → goesP n cs a b o = false) (hj : (lvl cs.length m)[j]? = some o) (hp : goesP n cs a b o = true) (hn : ∀ i y, i < j → (lvl cs.length m)[i]? = some y → goesP n cs a b y = false) : roF n cs a b = some o := by
  have h1 := roN_some (n := cs.length) (p := goesP n cs a b) h (find_at hj hp hn) (cs.length - m)
  rwa [show m + 1 + (cs.length - m) = cs.length + 1 by omega] at h1
theorem lvl_none {n m : Nat} {p : List Int → Bool} (h : ∀ q, q < m → ∀ o, o ∈ lvl n q → p o = false) (h2 : ∀ i y, i < (lvl n m).length → (lvl n m)[i]? = some y → p y = false) : ∀ q, q < m + 1 → ∀ o, o ∈ lvl n q → p o = false := by
  intro q hq o ho
  by_cases hqm : q = m
  · subst hqm
    obtain ⟨i, hi⟩ := List.getElem?_of_mem ho
    exact h2 i o (List.getElem?_eq_some_iff.1 hi).1 hi
  · exact h q (by omega) o ho
end Go.Proofs.Ytekahkeddpngpaa
