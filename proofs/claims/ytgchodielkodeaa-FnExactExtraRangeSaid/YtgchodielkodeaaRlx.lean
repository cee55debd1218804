/-
  What is proved: plain facts on greater ranges: the greatest reach grows with them; the least number with a property. Conditions: those of each fact.
-/
import Derived.Test.YtgchodielkodeaaRlu
namespace Go.Proofs.Ytgchodielkodeaa
open Go.RowKit
set_option linter.unusedVariables false
set_option linter.unusedSimpArgs false

/-- carriers with ranges that are greater by e -/
def moreL (cs : List Cr) (e : Int) : List Cr := cs.map fun c => ⟨c.s, c.r + e, c.f⟩
theorem moreL_len (cs : List Cr) (e : Int) : (moreL cs e).length = cs.length := by simp [moreL]
theorem moreL_at {cs : List Cr} {e : Int} {j : Nat} {c : Cr} (h : cs[j]? = some c) : (moreL cs e)[j]? = some ⟨c.s, c.r + e, c.f⟩ := by
  unfold moreL
  rw [List.getElem?_map, h]
  rfl
theorem moreL_wk {n : Int} {g : Bool} {cs : List Cr} (h : csB n g cs = true) {e : Nat} (he : e ≤ 48) : WkL n (moreL cs e) := by
  have h1 := csB_wk h
  refine ⟨h1.1, by rw [moreL_len]; exact h1.2.1, fun j c hj => ?_⟩
  have hl : j < cs.length := by have := (List.getElem?_eq_some_iff.1 hj).1; rwa [moreL_len] at this
  obtain ⟨d, hd⟩ : ∃ d, cs[j]? = some d := ⟨cs[j], List.getElem?_eq_getElem hl⟩
  rw [moreL_at hd] at hj
  cases hj
  have hk := csB_ok h hd
  exact ⟨hk.n2, hk.n24, hk.s0, hk.sn, by have := hk.r0; show 0 ≤ d.r + (e : Int); omega, by have := hk.r48; show d.r + (e : Int) ≤ 96; omega⟩
theorem onw_grow {n : Int} {c d : Cr} {x y : Int} (hs : c.s = d.s) (hr : c.r ≤ d.r) (hx : x ≤ y) : onw n c x ≤ onw n d y := by
  unfold onw endI appI
  omega
theorem crAt_grow (cs : List Cr) {e e' : Int} (h : e ≤ e') (i : Nat) : (crAt (moreL cs e) (i : Int)).s = (crAt (moreL cs e') (i : Int)).s ∧ (crAt (moreL cs e) (i : Int)).r ≤ (crAt (moreL cs e') (i : Int)).r := by
  by_cases hi : i < cs.length
  · obtain ⟨d, hd⟩ : ∃ d, cs[i]? = some d := ⟨cs[i], List.getElem?_eq_getElem hi⟩
    rw [crAt_some (moreL_at (e := e) hd), crAt_some (moreL_at (e := e') hd)]
    exact ⟨rfl, by show d.r + e ≤ d.r + e'; omega⟩
  · have h1 : ∀ z : Int, crAt (moreL cs z) (i : Int) = ⟨0, 0, 0⟩ := by
      intro z
      have : (moreL cs z)[i]? = none := by
        rw [List.getElem?_eq_none_iff, moreL_len]
        omega
      simp [crAt, List.getD, this]
    rw [h1, h1]
    exact ⟨rfl, Int.le_refl _⟩
theorem bestF_grow {n : Int} {cs : List Cr} {a : Int} {e e' : Int} (h : e ≤ e') {T T' : List Int} (hT : ∀ j, T.getD j 0 ≤ T'.getD j 0) (code : Nat) : ∀ i, bestF n (moreL cs e) a T code i ≤ bestF n (moreL cs e') a T' code i
  | 0 => Int.le_refl _
  | i + 1 => by
    have ih := bestF_grow (cs := cs) (n := n) (a := a) h hT code i
    cases hb : code.testBit i
    · rw [bestF_no hb, bestF_no hb]
      exact ih
    · rw [bestF_yes hb, bestF_yes hb]
      have h1 := crAt_grow cs h i
      have h2 := onw_grow (n := n) h1.1 h1.2 (hT (code - 2 ^ i))
      omega
theorem tabF_grow {n : Int} {cs : List Cr} {a : Int} {e e' : Int} (h : e ≤ e') : ∀ k j, (tabF n (moreL cs e) a k).getD j 0 ≤ (tabF n (moreL cs e') a k).getD j 0
  | 0, j => by simp [tabF]
  | k + 1, j => by
    have hl := tabF_len n (moreL cs e) a k
    have hl' := tabF_len n (moreL cs e') a k
    have ih := tabF_grow (n := n) (cs := cs) (a := a) h k
    have hb := bestF_grow (n := n) (cs := cs) (a := a) h ih k cs.length
    rw [tabF, tabF, moreL_len, moreL_len]
    simp only [List.getD]
    by_cases hj : j < k
    · rw [List.getElem?_append_left (by omega), List.getElem?_append_left (by omega)]
      have := ih j
      simpa [List.getD] using this
    · rw [List.getElem?_append_right (by omega), List.getElem?_append_right (by omega), hl, hl']
      by_cases hj2 : j - k = 0
      · rw [hj2]
        simpa using hb
      · have : ∀ z : Int, [z][j - k]? = none := fun z => by rw [List.getElem?_eq_none_iff]; simp; omega
        rw [this, this]
        exact Int.le_refl _
theorem grF_grow (n : Int) (cs : List Cr) (a : Int) {e e' : Int} (h : e ≤ e') : grF n (moreL cs e) a ≤ grF n (moreL cs e') a := by
  unfold grF
  rw [moreL_len, moreL_len]
  exact tabF_grow h _ _
/-- the least of the numbers below k with p, and k if there is none -/
def lst (p : Nat → Bool) : Nat → Nat
  | 0 => 0
  | k + 1 => if lst p k < k then lst p k else if p k then k else k + 1
theorem lst_is {p : Nat → Bool} : ∀ {k m : Nat}, m ≤ k → (∀ j, j < m → p j = false) → (m < k → p m = true) → lst p k = m
  | 0, m, hm, _, _ => by
    have : m = 0 := by omega
    subst this
    rfl
  | k + 1, m, hm, h1, h2 => by
    unfold lst
    by_cases hmk : m ≤ k
    · by_cases hlt : m < k
      · have ih := lst_is (k := k) (m := m) hmk h1 (fun _ => h2 (by omega))
        rw [ih, if_pos hlt]
      · have hme : m = k := by omega
        subst hme
        have ih := lst_is (k := m) (m := m) (Nat.le_refl _) h1 (fun h => absurd h (Nat.lt_irrefl _))
        rw [ih, if_neg (Nat.lt_irrefl _), if_pos (h2 (by omega))]
    · have hme : m = k + 1 := by omega
      subst hme
      have ih := lst_is (k := k) (m := k) (Nat.le_refl _) (fun j hj => h1 j (by omega)) (fun h => absurd h (Nat.lt_irrefl _))
      rw [ih, if_neg (Nat.lt_irrefl _), if_neg (by rw [h1 k (by omega)]; simp)]
theorem lst_le (p : Nat → Bool) : ∀ k, lst p k ≤ k
  | 0 => Nat.le_refl _
  | k + 1 => by
    have ih := lst_le p k
    unfold lst
    split
    · omega
    · split <;> omega
/-- what ExtraRange tells: whether a number of at most 48 is enough -/
def extP (n : Int) (cs : List Cr) (a b : Int) (e : Nat) : Bool := decide (b ≤ grF n (moreL cs e) a)
theorem extP_mono (n : Int) (cs : List Cr) (a b : Int) {e e' : Nat} (h : e ≤ e') (hp : extP n cs a b e = true) : extP n cs a b e' = true := by
  unfold extP at *
  have h1 := grF_grow n cs a (e := (e : Int)) (e' := (e' : Int)) (by omega)
  simp only [decide_eq_true_iff] at *
  omega
def extraR (n : Int) (g : Bool) (cs : List Cr) (a b : Int) : Int × Bool := if askB n g cs a b && decide (lst (extP n cs a b) 49 ≤ 48) then (((lst (extP n cs a b) 49 : Nat) : Int), true) else (0, false)
theorem extraR_no {n : Int} {g : Bool} {cs : List Cr} {a b : Int} (h : (askB n g cs a b && decide (lst (extP n cs a b) 49 ≤ 48)) = false) : extraR n g cs a b = (0, false) := by
  unfold extraR
  rw [h]
  rfl
theorem extraR_yes {n : Int} {g : Bool} {cs : List Cr} {a b : Int} (h : (askB n g cs a b && decide (lst (extP n cs a b) 49 ≤ 48)) = true) : extraR n g cs a b = (((lst (extP n cs a b) 49 : Nat) : Int), true) := by
  unfold extraR
  rw [h]
  rfl
end Go.Proofs.Ytgchodielkodeaa
