/-
  What is proved: the contracts of the laws' helpers on tables: the size, a copy, equality, the marks. Conditions: tables that read as lists of lists of numbers.
-/
import Derived.Test.YtekahkeddpngpaaTba
import Derived.Test.YtekahkeddpngpaaFn1
import Derived.Deep.QuietTactic
import Derived.BigQuiet
import Derived.Deep.RegionHeld3
namespace Go.Proofs.Ytekahkeddpngpaa
open Go.RowKit
set_option linter.unusedVariables false
set_option linter.unusedSimpArgs false

/-- what szIntSS says -/
def szP (xss : List (List Int)) (l : Nat) (e : Ending) : Prop := if sizeT xss ≤ l then e = .returned (.int .i64 ((l - sizeT xss : Nat) : Int)) else e = .returned (.int .i64 (-1))
/-- the cells of a copy when k rows stand -/
def rowsTo (us : List Value) (n k : Nat) : List Value := us ++ List.replicate (n - k) (.slice none 0 0)
def TtRel (xss : List (List Int)) (base : Nat) (w : World) (i : Value) (wr : World) : Prop :=
  ∃ (k : Nat) (us : List Value), k ≤ xss.length ∧ us.length = k ∧ i = .int .i64 k ∧ wr.ownsRow base 24 1 (.slice (some ⟨base, 0, none⟩) xss.length xss.length) xss.length (rowsTo us xss.length k) ∧
    (∀ (j : Nat) u xs, us[j]? = some u → xss[j]? = some xs → wr.ownsRow (base + 1) 3 1 u xs.length (xs.map iv)) ∧
    (∀ (i j b : Nat) u u', us[i]? = some u → us[j]? = some u' → u.ownBlock = some b → u'.ownBlock = some b → i = j) ∧ Below base w wr ∧ base < wr.heap.size
theorem rowsTo_set (us : List Value) (n k : Nat) (u : Value) (hl : us.length = k) (h : k < n) : (rowsTo us n k).set k u = rowsTo (us ++ [u]) n (k + 1) := by
  unfold rowsTo
  rw [List.set_append_right _ _ (by omega), hl, Nat.sub_self, show n - k = (n - (k + 1)) + 1 by omega, List.replicate_succ, List.set_cons_zero, List.append_assoc]
  rfl
theorem rowsTo_at (us : List Value) (n k : Nat) (hl : us.length = k) (h : k < n) : (rowsTo us n k)[k]? = some (.slice none 0 0) := by
  unfold rowsTo
  rw [List.getElem?_append_right (by omega), hl, Nat.sub_self, List.getElem?_replicate, if_pos (by omega)]
theorem apart_snoc {us : List Value} {u : Value} {m : Nat} (h : ∀ (i j b : Nat) u u', us[i]? = some u → us[j]? = some u' → u.ownBlock = some b → u'.ownBlock = some b → i = j)
    (h1 : ∀ (j b : Nat) y, us[j]? = some y → y.ownBlock = some b → b < m) (h2 : ∀ b, u.ownBlock = some b → m ≤ b) : ∀ (i j b : Nat) y y', (us ++ [u])[i]? = some y → (us ++ [u])[j]? = some y' → y.ownBlock = some b → y'.ownBlock = some b → i = j := by
  have new : ∀ (k : Nat) z, (us ++ [u])[k]? = some z → ¬ k < us.length → k = us.length ∧ z = u := by
    intro k z hz hk
    have hk2 : k = us.length := by
      have := (List.getElem?_eq_some_iff.1 hz).1
      simp at this
      omega
    subst hk2
    rw [List.getElem?_append_right (Nat.le_refl _), Nat.sub_self] at hz
    cases hz
    exact ⟨rfl, rfl⟩
  intro i j b y y' hy hy' hb hb'
  by_cases hi : i < us.length
  · rw [List.getElem?_append_left hi] at hy
    by_cases hj : j < us.length
    · rw [List.getElem?_append_left hj] at hy'
      exact h i j b y y' hy hy' hb hb'
    · obtain ⟨_, rfl⟩ := new j y' hy' hj
      have := h1 i b y hy hb
      have := h2 b hb'
      omega
  · obtain ⟨e, rfl⟩ := new i y hy hi
    by_cases hj : j < us.length
    · rw [List.getElem?_append_left hj] at hy'
      have := h1 j b y' hy' hb'
      have := h2 b hb
      omega
    · have := (new j y' hy' hj).1
      omega
def EtRel (n : Nat) (w : World) (i : Value) (wr : World) : Prop := ∃ k : Nat, k ≤ n ∧ i = .int .i64 k ∧ Below w.heap.size w wr
def MtRelT (K lo hi : Nat) (v : Value) (us : List Value) (xss : List (List Int)) (w : World) (kk i : Value) (wr : World) : Prop :=
  ∃ k j : Nat, k ≤ xss.length ∧ j = K + lenTo xss k ∧ i = .int .i64 k ∧ kk = .int .i64 j ∧ OwnT lo hi v us (mkT K xss k) wr ∧ ChgIn lo hi w wr
def MarkT (K lo hi : Nat) (v : Value) (us : List Value) (xss : List (List Int)) (w : World) (e : Ending) (w' : World) : Prop :=
  e = .returned (.int .i64 ((K + lenTo xss xss.length : Nat) : Int)) ∧ ChgIn lo hi w w' ∧ OwnT lo hi v us (mkT K xss xss.length) w'
def HdRelT (K : Nat) (xss : List (List Int)) (w : World) (r kk i : Value) (wr : World) : Prop :=
  ∃ k j : Nat, k ≤ xss.length ∧ j = K + lenTo xss k ∧ i = .int .i64 k ∧ kk = .int .i64 j ∧ wr = w ∧ ∃ z : Int, r = .int .i64 z
end Go.Proofs.Ytekahkeddpngpaa
