/-
  What is proved: plain facts on searches: what a list of turning places covers, step by step, and when it is a search. Conditions: those of each fact.
-/
import Derived.Test.YtekahkeddpngpaaAre
namespace Go.Proofs.Ytekahkeddpngpaa
open Go.RowKit
set_option linter.unusedSimpArgs false

/-- whether the next turning place may be p when lo to hi are covered and the walker is at q -/
def mayB (lo hi q p : Int) : Bool := (decide (p < lo) && q == hi) || (decide (hi < p) && q == lo)
/-- what the first k turning places cover: the least place, the greatest one, the last one -/
def cov (a : Int) (xs : List Int) : Nat → Option (Int × Int × Int)
  | 0 => some (a, a, a)
  | k + 1 => match cov a xs k, xs[k]? with
    | some c, some p => if mayB c.1 c.2.1 c.2.2 p = true then some (min c.1 p, max c.2.1 p, p) else none
    | _, _ => none
theorem cov_yes {a : Int} {xs : List Int} {k : Nat} {lo hi q p : Int} (h : cov a xs k = some (lo, hi, q)) (hp : xs[k]? = some p) (hm : mayB lo hi q p = true) : cov a xs (k + 1) = some (min lo p, max hi p, p) := by
  show (match cov a xs k, xs[k]? with | some c, some p => if mayB c.1 c.2.1 c.2.2 p = true then some (min c.1 p, max c.2.1 p, p) else none | _, _ => none) = _
  rw [h, hp]
  exact if_pos hm
theorem cov_no {a : Int} {xs : List Int} {k : Nat} {lo hi q p : Int} (h : cov a xs k = some (lo, hi, q)) (hp : xs[k]? = some p) (hm : mayB lo hi q p = false) : cov a xs (k + 1) = none := by
  show (match cov a xs k, xs[k]? with | some c, some p => if mayB c.1 c.2.1 c.2.2 p = true then some (min c.1 p, max c.2.1 p, p) else none | _, _ => none) = _
  rw [h, hp]
  exact if_neg (by rw [hm]; exact Bool.false_ne_true)
theorem cov_none {a : Int} {xs : List Int} {k m : Nat} (h : cov a xs k = none) (hm : k ≤ m) : cov a xs m = none := by
  induction m with
  | zero =>
    obtain rfl : k = 0 := by omega
    exact h
  | succ m ih =>
    by_cases he : k = m + 1
    · subst he
      exact h
    · show (match cov a xs m, xs[m]? with | some c, some p => if mayB c.1 c.2.1 c.2.2 p = true then some (min c.1 p, max c.2.1 p, p) else none | _, _ => none) = _
      rw [ih (by omega)]
theorem cov_back {a : Int} {xs : List Int} {k : Nat} {c : Int × Int × Int} (h : cov a xs (k + 1) = some c) : ∃ d p, cov a xs k = some d ∧ xs[k]? = some p ∧ c = (min d.1 p, max d.2.1 p, p) := by
  have h2 : (match cov a xs k, xs[k]? with | some c, some p => if mayB c.1 c.2.1 c.2.2 p = true then some (min c.1 p, max c.2.1 p, p) else none | _, _ => none) = some c := h
  cases h3 : cov a xs k with
  | none => rw [h3] at h2; cases h2
  | some d =>
    cases h4 : xs[k]? with
    | none => rw [h3, h4] at h2; cases h2
    | some p =>
      rw [h3, h4] at h2
      by_cases hm : mayB d.1 d.2.1 d.2.2 p = true
      · have e : some (min d.1 p, max d.2.1 p, p) = some c := by
          have := h2
          simp only [hm, if_true] at this
          exact this
        cases e
        exact ⟨d, p, rfl, rfl, rfl⟩
      · simp only [hm, if_false] at h2
        cases h2
theorem cov_inside {a : Int} {xs : List Int} : ∀ (k : Nat) {c : Int × Int × Int}, cov a xs k = some c → ∀ (j : Nat) x, j < k → xs[j]? = some x → c.1 ≤ x ∧ x ≤ c.2.1
  | 0, _, _ => fun j x hj => by omega
  | k + 1, c, h => fun j x hj hx => by
    obtain ⟨d, p, hd, hp, rfl⟩ := cov_back h
    rcases Nat.lt_succ_iff_lt_or_eq.1 hj with hj | rfl
    · have := cov_inside k hd j x hj hx
      simp only
      omega
    · have e := hp.symm.trans hx
      cases e
      simp only
      omega
/-- whether xs is a search from a on the line of n places -/
def searchB (n a : Int) (xs : List Int) : Bool := match cov a xs xs.length with
  | some c => c.1 == 0 && c.2.1 == n - 1
  | none => false
theorem searchB_no {n a : Int} {xs : List Int} {k : Nat} (h : cov a xs k = none) (hk : k ≤ xs.length) : searchB n a xs = false := by
  unfold searchB
  rw [cov_none h hk]
theorem searchB_some {n a : Int} {xs : List Int} {lo hi q : Int} (h : cov a xs xs.length = some (lo, hi, q)) : searchB n a xs = (lo == 0 && hi == n - 1) := by
  unfold searchB
  rw [h]
theorem searchB_cov {n a : Int} {xs : List Int} (h : searchB n a xs = true) : ∃ q, cov a xs xs.length = some (0, n - 1, q) := by
  cases h3 : cov a xs xs.length with
  | none => rw [searchB_no h3 (Nat.le_refl _)] at h; cases h
  | some c =>
    obtain ⟨lo, hi, q⟩ := c
    rw [searchB_some h3] at h
    simp at h
    obtain ⟨rfl, rfl⟩ := h
    exact ⟨q, rfl⟩
theorem searchB_out {n a : Int} {xs : List Int} {k : Nat} {x : Int} (hx : xs[k]? = some x) (ho : x < 0 ∨ n - 1 < x) : searchB n a xs = false := by
  cases h : searchB n a xs
  · rfl
  · obtain ⟨q, hq⟩ := searchB_cov h
    have := cov_inside _ hq k x (List.getElem?_eq_some_iff.1 hx).1 hx
    simp only at this
    omega
/-- behind k turning places: what is covered, where the walker is -/
structure SInv (n a : Int) (xs : List Int) (k : Nat) (lo hi q : Int) : Prop where
  scov : cov a xs k = some (lo, hi, q)
  loA : lo ≤ a
  hiA : a ≤ hi
  lo0 : 0 ≤ lo
  hin : hi ≤ n - 1
  first : k = 0 → lo = a ∧ hi = a ∧ q = a
  last : ∀ p, 0 < k → xs[k - 1]? = some p → p = q
  right : a < q → q = hi
  left : q < a → q = lo
  off : 0 < k → q ≠ a
theorem sinv_first {n a : Int} (xs : List Int) (h0 : 0 ≤ a) (h1 : a < n) : SInv n a xs 0 a a a :=
  ⟨rfl, Int.le_refl _, Int.le_refl _, h0, by omega, fun _ => ⟨rfl, rfl, rfl⟩, fun p h => by omega, fun h => by omega, fun h => by omega, fun h => by omega⟩
theorem sinv_right {n a : Int} {xs : List Int} {k : Nat} {lo hi q p : Int} (h : SInv n a xs k lo hi q) (hp : xs[k]? = some p) (hr : a < p) (hn : p ≤ n - 1) (hh : hi < p) (hk : k = 0 ∨ ¬ a < q) : SInv n a xs (k + 1) lo p p := by
  have hq : q = lo := by
    rcases hk with rfl | hk
    · obtain ⟨rfl, rfl, rfl⟩ := h.first rfl
      rfl
    · by_cases h0 : k = 0
      · obtain ⟨rfl, rfl, rfl⟩ := h.first h0
        rfl
      · have := h.off (by omega)
        exact h.left (by omega)
  have hc := cov_yes h.scov hp (by simp [mayB, hh, hq])
  have h1 := h.loA
  rw [show min lo p = lo by omega, show max hi p = p by omega] at hc
  refine ⟨hc, h.loA, by omega, h.lo0, hn, fun h => by omega, fun r _ hr2 => ?_, fun _ => rfl, fun h => by omega, fun _ => by omega⟩
  rw [Nat.add_sub_cancel, hp] at hr2
  cases hr2
  rfl
theorem sinv_left {n a : Int} {xs : List Int} {k : Nat} {lo hi q p : Int} (h : SInv n a xs k lo hi q) (hp : xs[k]? = some p) (hr : p < a) (hn : 0 ≤ p) (hh : p < lo) (hk : k = 0 ∨ a < q) : SInv n a xs (k + 1) p hi p := by
  have hq : q = hi := by
    rcases hk with rfl | hk
    · obtain ⟨rfl, rfl, rfl⟩ := h.first rfl
      rfl
    · exact h.right hk
  have hc := cov_yes h.scov hp (by simp [mayB, hh, hq])
  have h1 := h.hiA
  rw [show min lo p = p by omega, show max hi p = hi by omega] at hc
  refine ⟨hc, by omega, h.hiA, hn, h.hin, fun h => by omega, fun r _ hr2 => ?_, fun h => by omega, fun _ => rfl, fun _ => by omega⟩
  rw [Nat.add_sub_cancel, hp] at hr2
  cases hr2
  rfl
theorem sinv_no {n a : Int} {xs : List Int} {k : Nat} {lo hi q p : Int} (h : SInv n a xs k lo hi q) (hp : xs[k]? = some p)
    (hno : p = a ∨ (0 < k ∧ (a < p ↔ a < q)) ∨ (a < p ∧ p ≤ hi) ∨ (¬ a < p ∧ lo ≤ p)) : searchB n a xs = false := by
  have h1 := h.loA
  have h2 := h.hiA
  refine searchB_no (k := k + 1) (cov_no h.scov hp ?_) (List.getElem?_eq_some_iff.1 hp).1
  unfold mayB
  have h3 := h.right
  have h4 := h.left
  have h5 := h.off
  by_cases ha : p < lo
  · have e : (q == hi) = false := by
      simp only [beq_eq_false_iff_ne, ne_eq]
      intro e
      rcases hno with h | ⟨hk, h⟩ | h | h
      · omega
      · have := h5 hk
        have h6 : ¬ a < q := fun h7 => by have := h.2 h7; omega
        have := h4 (by omega)
        omega
      · omega
      · omega
    simp [e]
    omega
  · by_cases hb : hi < p
    · have e : (q == lo) = false := by
        simp only [beq_eq_false_iff_ne, ne_eq]
        intro e
        rcases hno with h | ⟨hk, h⟩ | h | h
        · omega
        · have h6 := h.1 (by omega)
          omega
        · omega
        · omega
      simp [ha, e]
    · simp [ha, hb]
theorem sinv_end {n a : Int} {xs : List Int} {lo hi q : Int} (h : SInv n a xs xs.length lo hi q) : searchB n a xs = (lo == 0 && hi == n - 1) := searchB_some h.scov
/-- a valid line and a place on it -/
def lineB (n : Int) (g : Bool) (a : Int) : Bool := placeB n g a && !g
theorem lineB_iff (n : Int) (g : Bool) (a : Int) : lineB n g a = true ↔ 2 ≤ n ∧ n ≤ 24 ∧ g = false ∧ 0 ≤ a ∧ a < n := by
  unfold lineB
  rw [Bool.and_eq_true, placeB_iff, roadB_iff]
  cases g <;> simp [and_assoc]
end Go.Proofs.Ytekahkeddpngpaa
