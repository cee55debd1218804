/-
  What is proved: plain facts on wires: when one is valid, lists that are built number by number, and how often beads meet. Conditions: those of each fact.
-/
import Derived.Test.YthbmiigndhoopaaMea
namespace Go.Proofs.Ythbmiigndhoopaa
open Go.RowKit
set_option linter.unusedVariables false
set_option linter.unusedSimpArgs false

/-- the numbers F k of those k at which P holds -/
def selTo (P : Nat → Bool) (F : Nat → Int) : Nat → List Int
  | 0 => []
  | k + 1 => if P k then selTo P F k ++ [F k] else selTo P F k
theorem selTo_len (P : Nat → Bool) (F : Nat → Int) : ∀ k, (selTo P F k).length ≤ k
  | 0 => Nat.le_refl _
  | k + 1 => by
    have := selTo_len P F k
    unfold selTo
    split
    · simp; omega
    · omega
theorem selTo_yes {P : Nat → Bool} {F : Nat → Int} {k : Nat} (h : P k = true) : selTo P F (k + 1) = selTo P F k ++ [F k] := by
  show (if P k then selTo P F k ++ [F k] else selTo P F k) = _
  rw [if_pos h]
theorem selTo_no {P : Nat → Bool} {F : Nat → Int} {k : Nat} (h : P k = false) : selTo P F (k + 1) = selTo P F k := by
  show (if P k then selTo P F k ++ [F k] else selTo P F k) = _
  rw [h]; rfl
theorem selTo_congr {P Q : Nat → Bool} {F G : Nat → Int} : ∀ k, (∀ j, j < k → P j = Q j ∧ (P j = true → F j = G j)) → selTo P F k = selTo Q G k
  | 0, _ => rfl
  | k + 1, h => by
    have ih := selTo_congr k (fun j hj => h j (by omega))
    obtain ⟨h1, h2⟩ := h k (by omega)
    cases hp : P k
    · rw [selTo_no hp, selTo_no (h1 ▸ hp), ih]
    · rw [selTo_yes hp, selTo_yes (h1 ▸ hp), ih, h2 hp]
/-- numbers from 0 to L, ascending -/
def ascB (L : Int) (ps : List Int) : Bool := (List.range ps.length).all fun i => decide (0 ≤ ps.getD i 0) && decide (ps.getD i 0 ≤ L) && (decide (i = 0) || decide (ps.getD (i - 1) 0 < ps.getD i 0))
theorem ascB_iff (L : Int) (ps : List Int) : ascB L ps = true ↔ ∀ i, i < ps.length → 0 ≤ ps.getD i 0 ∧ ps.getD i 0 ≤ L ∧ (i = 0 ∨ ps.getD (i - 1) 0 < ps.getD i 0) := by
  unfold ascB
  rw [List.all_eq_true]
  simp [and_assoc]
theorem ascB_no {L : Int} {ps : List Int} {i : Nat} (hi : i < ps.length) (h : ¬ (0 ≤ ps.getD i 0 ∧ ps.getD i 0 ≤ L ∧ (i = 0 ∨ ps.getD (i - 1) 0 < ps.getD i 0))) : ascB L ps = false := by
  cases hb : ascB L ps
  · rfl
  · exact absurd ((ascB_iff L ps).1 hb i hi) h
/-- ways of beads -/
def wayB (ds : List Int) : Bool := ds.all facB
theorem wayB_iff (ds : List Int) : wayB ds = true ↔ ∀ (i : Nat), i < ds.length → ds.getD i 0 = 1 ∨ ds.getD i 0 = -1 := by
  unfold wayB
  rw [List.all_eq_true]
  constructor
  · intro h i hi
    have := h ds[i] (List.getElem_mem hi)
    rw [facB_iff] at this
    simpa [List.getD, List.getElem?_eq_getElem hi] using this
  · intro h x hx
    obtain ⟨i, hi, rfl⟩ := List.mem_iff_getElem.1 hx
    rw [facB_iff]
    simpa [List.getD, List.getElem?_eq_getElem hi] using h i hi
theorem wayB_no {ds : List Int} {i : Nat} (hi : i < ds.length) (h : ¬ (ds.getD i 0 = 1 ∨ ds.getD i 0 = -1)) : wayB ds = false := by
  cases hb : wayB ds
  · rfl
  · exact absurd ((wayB_iff ds).1 hb i hi) h
/-- a wire -/
def wireB (L : Int) (ps ds : List Int) : Bool := (decide (1 ≤ L) && decide (L ≤ 30)) && (decide (ps.length ≤ 8) && (decide (ds.length = ps.length) && (ascB L ps && wayB ds)))
theorem wireB_iff (L : Int) (ps ds : List Int) : wireB L ps ds = true ↔ (1 ≤ L ∧ L ≤ 30) ∧ ps.length ≤ 8 ∧ ds.length = ps.length ∧ ascB L ps = true ∧ wayB ds = true := by
  unfold wireB
  simp only [Bool.and_eq_true, decide_eq_true_iff]
theorem wireB_no {L : Int} {ps ds : List Int} (h : ¬ ((1 ≤ L ∧ L ≤ 30) ∧ ps.length ≤ 8 ∧ ds.length = ps.length ∧ ascB L ps = true ∧ wayB ds = true)) : wireB L ps ds = false := by
  cases hb : wireB L ps ds
  · rfl
  · exact absurd ((wireB_iff L ps ds).1 hb) h
/-- what a valid wire is -/
structure WireOK (L : Int) (ps ds : List Int) : Prop where
  l1 : 1 ≤ L
  l30 : L ≤ 30
  n8 : ps.length ≤ 8
  same : ds.length = ps.length
  place : ∀ (i : Nat) p, ps[i]? = some p → 0 ≤ p ∧ p ≤ L
  less : ∀ (i : Nat) p q, ps[i]? = some p → ps[i + 1]? = some q → p < q
  way : ∀ (i : Nat) d, ds[i]? = some d → d = 1 ∨ d = -1
theorem wire_ok {L : Int} {ps ds : List Int} (h : wireB L ps ds = true) : WireOK L ps ds := by
  obtain ⟨⟨h1, h2⟩, h3, h4, h5, h6⟩ := (wireB_iff L ps ds).1 h
  have ha := (ascB_iff L ps).1 h5
  have hw := (wayB_iff ds).1 h6
  refine ⟨h1, h2, h3, h4, fun i p hp => ?_, fun i p q hp hq => ?_, fun i d hd => ?_⟩
  · have := ha i (List.getElem?_eq_some_iff.1 hp).1
    simp only [List.getD, hp, Option.getD_some] at this
    exact ⟨this.1, this.2.1⟩
  · have := ha (i + 1) (List.getElem?_eq_some_iff.1 hq).1
    simp only [List.getD, hp, hq, Option.getD_some, Nat.add_sub_cancel] at this
    omega
  · have := hw i (List.getElem?_eq_some_iff.1 hd).1
    simpa [List.getD, hd] using this
/-- when a shade falls off -/
def shd (L : Int) (ps ds : List Int) (i : Nat) : Int := if ds.getD i 0 < 0 then ps.getD i 0 else L - ps.getD i 0
theorem shd_at {L : Int} {ps ds : List Int} {i : Nat} {p d : Int} (hp : ps[i]? = some p) (hd : ds[i]? = some d) : shd L ps ds i = if d < 0 then p else L - p := by simp [shd, List.getD, hp, hd]
def yesP (_ : Nat) : Bool := true
/-- the times of all shades -/
def shdL (L : Int) (ps ds : List Int) (k : Nat) : List Int := selTo yesP (shd L ps ds) k
theorem shdL_next (L : Int) (ps ds : List Int) (k : Nat) : shdL L ps ds (k + 1) = shdL L ps ds k ++ [shd L ps ds k] := selTo_yes rfl
theorem shdL_len (L : Int) (ps ds : List Int) : ∀ k, (shdL L ps ds k).length = k
  | 0 => rfl
  | k + 1 => by rw [shdL_next, List.length_append, shdL_len L ps ds k]; rfl
theorem shdL_at (L : Int) (ps ds : List Int) : ∀ k i, i < k → (shdL L ps ds k)[i]? = some (shd L ps ds i)
  | k + 1, i, h => by
    rw [shdL_next]
    by_cases e : i = k
    · subst e
      rw [List.getElem?_append_right (by rw [shdL_len]; omega), shdL_len, Nat.sub_self]
      rfl
    · rw [List.getElem?_append_left (by rw [shdL_len]; omega)]
      exact shdL_at L ps ds k i (by omega)
/-- the greatest of 0 and the first k of these numbers -/
def topOf (xs : List Int) : Nat → Int
  | 0 => 0
  | k + 1 => max (topOf xs k) (xs.getD k 0)
theorem topOf_next {xs : List Int} {k : Nat} {x : Int} (h : xs[k]? = some x) : topOf xs (k + 1) = max (topOf xs k) x := by
  show max (topOf xs k) (xs.getD k 0) = _
  rw [show xs.getD k 0 = x by simp [List.getD, h]]
/-- whether a bead goes to a side -/
def toB (ds : List Int) (e : Int) (i : Nat) : Bool := decide (ds.getD i 0 = e)
theorem toB_yes {ds : List Int} {e d : Int} {i : Nat} (hd : ds[i]? = some d) (h : d = e) : toB ds e i = true := by simp [toB, List.getD, hd, h]
theorem toB_no {ds : List Int} {e d : Int} {i : Nat} (hd : ds[i]? = some d) (h : d ≠ e) : toB ds e i = false := by simp [toB, List.getD, hd, h]
def endF (e : Int) (_ : Nat) : Int := e
/-- when the beads fall off, and where -/
def falT (L : Int) (ps ds : List Int) : List Int := selTo (toB ds (-1)) (shd L ps ds) ds.length ++ selTo (toB ds 1) (shd L ps ds) ds.length
def falE (ds : List Int) : List Int := selTo (toB ds (-1)) (endF (-1)) ds.length ++ selTo (toB ds 1) (endF 1) ds.length
theorem sel_both (ds : List Int) (F G : Nat → Int) : ∀ k, (selTo (toB ds (-1)) F k ++ selTo (toB ds 1) G k).length ≤ k
  | 0 => Nat.le_refl _
  | k + 1 => by
    have ih := sel_both ds F G k
    rw [List.length_append] at ih ⊢
    by_cases h : ds.getD k 0 = -1
    · rw [selTo_yes (show toB ds (-1) k = true by simp only [toB, h, decide_true]), selTo_no (show toB ds 1 k = false by simp only [toB, h]; decide), List.length_append, List.length_singleton]
      omega
    · rw [selTo_no (show toB ds (-1) k = false by simp only [toB, decide_eq_false_iff_not]; exact h)]
      cases hg : toB ds 1 k
      · rw [selTo_no hg]; omega
      · rw [selTo_yes hg, List.length_append, List.length_singleton]; omega
/-- beads that come to the right, and meets, bead by bead -/
def comTo (ds : List Int) : Nat → Int
  | 0 => 0
  | k + 1 => if ds.getD k 0 = 1 then comTo ds k + 1 else comTo ds k
def metTo (ds : List Int) : Nat → Int
  | 0 => 0
  | k + 1 => if ds.getD k 0 = 1 then metTo ds k else metTo ds k + comTo ds k
theorem comTo_le (ds : List Int) : ∀ k, 0 ≤ comTo ds k ∧ comTo ds k ≤ k
  | 0 => ⟨Int.le_refl _, Int.le_refl _⟩
  | k + 1 => by
    have := comTo_le ds k
    unfold comTo
    split <;> omega
theorem metTo_le (ds : List Int) : ∀ k, 0 ≤ metTo ds k ∧ metTo ds k ≤ k * k
  | 0 => ⟨Int.le_refl _, Int.le_refl _⟩
  | k + 1 => by
    have h1 := metTo_le ds k
    have h2 := comTo_le ds k
    have e : (((k + 1 : Nat) : Int)) * ((k + 1 : Nat) : Int) = (k : Int) * k + 2 * k + 1 := by
      rw [Int.natCast_succ, Int.add_mul, Int.mul_add]; omega
    rw [e]
    unfold metTo
    split <;> omega
/-- meets of bead i with the beads behind it, up to j -/
def rowTo (ds : List Int) (i : Nat) : Nat → Int
  | 0 => 0
  | m + 1 => if ds.getD i 0 = 1 ∧ ds.getD (i + 1 + m) 0 = -1 then rowTo ds i m + 1 else rowTo ds i m
/-- meets of the first i beads with beads behind them, of n -/
def allTo (ds : List Int) (n : Nat) : Nat → Int
  | 0 => 0
  | i + 1 => allTo ds n i + rowTo ds i (n - (i + 1))
theorem rowTo_le (ds : List Int) (i : Nat) : ∀ m, 0 ≤ rowTo ds i m ∧ rowTo ds i m ≤ m
  | 0 => ⟨Int.le_refl _, Int.le_refl _⟩
  | m + 1 => by
    have := rowTo_le ds i m
    unfold rowTo
    split <;> omega
theorem allTo_le (ds : List Int) (n : Nat) : ∀ i, 0 ≤ allTo ds n i ∧ allTo ds n i ≤ i * n
  | 0 => ⟨Int.le_refl _, by show (0 : Int) ≤ _; simp⟩
  | i + 1 => by
    have h1 := allTo_le ds n i
    have h2 := rowTo_le ds i (n - (i + 1))
    have e : (((i + 1 : Nat) : Int)) * (n : Int) = (i : Int) * n + n := by rw [Int.natCast_succ, Int.add_mul]; omega
    rw [e]
    show 0 ≤ allTo ds n i + rowTo ds i (n - (i + 1)) ∧ allTo ds n i + rowTo ds i (n - (i + 1)) ≤ _
    omega
theorem all_grow (ds : List Int) (n : Nat) : ∀ i, i ≤ n → allTo ds (n + 1) i = allTo ds n i + if ds.getD n 0 = -1 then comTo ds i else 0
  | 0, _ => by
    show (0 : Int) = 0 + if ds.getD n 0 = -1 then 0 else 0
    split <;> rfl
  | i + 1, hi => by
    have ih := all_grow ds n i (by omega)
    have e : n + 1 - (i + 1) = (n - (i + 1)) + 1 := by omega
    show allTo ds (n + 1) i + rowTo ds i (n + 1 - (i + 1)) = allTo ds n i + rowTo ds i (n - (i + 1)) + if ds.getD n 0 = -1 then (if ds.getD i 0 = 1 then comTo ds i + 1 else comTo ds i) else 0
    rw [ih, e]
    have er : rowTo ds i (n - (i + 1) + 1) = if ds.getD i 0 = 1 ∧ ds.getD n 0 = -1 then rowTo ds i (n - (i + 1)) + 1 else rowTo ds i (n - (i + 1)) := by
      show (if ds.getD i 0 = 1 ∧ ds.getD (i + 1 + (n - (i + 1))) 0 = -1 then rowTo ds i (n - (i + 1)) + 1 else rowTo ds i (n - (i + 1))) = _
      rw [show i + 1 + (n - (i + 1)) = n by omega]
    rw [er]
    by_cases h1 : ds.getD i 0 = 1 <;> by_cases h2 : ds.getD n 0 = -1 <;> simp only [h1, h2, and_true, and_false, true_and, false_and, if_true, if_false] <;> omega
theorem all_met (ds : List Int) : ∀ n, (∀ i, i < n → ds.getD i 0 = 1 ∨ ds.getD i 0 = -1) → allTo ds n n = metTo ds n
  | 0, _ => rfl
  | n + 1, h => by
    have ih := all_met ds n (fun i hi => h i (by omega))
    have hg := all_grow ds n n (Nat.le_refl _)
    have hn := h n (by omega)
    show allTo ds (n + 1) n + rowTo ds n (n + 1 - (n + 1)) = if ds.getD n 0 = 1 then metTo ds n else metTo ds n + comTo ds n
    rw [Nat.sub_self, hg, ih]
    show _ + (0 : Int) = _
    rcases hn with e | e <;> rw [e] <;> simp
end Go.Proofs.Ythbmiigndhoopaa
