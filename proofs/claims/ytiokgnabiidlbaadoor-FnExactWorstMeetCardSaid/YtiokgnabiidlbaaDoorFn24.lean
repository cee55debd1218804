/-
  What is proved: plain facts on a walk that waits; math/bits.Mul at small numbers; slices.Repeat of one number. Conditions: those of each contract.
-/
import Derived.Test.YtiokgnabiidlbaaDoorFn19
import Derived.Laws.CopyOwn
import Derived.Laws.Bits64b
import Derived.Lib.Mul64
namespace Go.Proofs.YtiokgnabiidlbaaDoor
open Go.RowKit
set_option linter.unusedVariables false
set_option linter.unusedSimpArgs false

theorem gap_same (n : Int) (g : Bool) (p : Int) : gapI n g p p ≤ 1 := by
  unfold gapI
  split <;> omega
/-- the list xs with m more of p at t -/
def waitL (xs : List Int) (t m : Nat) (p : Int) : List Int := xs.take t ++ (List.replicate m p ++ xs.drop t)
theorem waitL_len {xs : List Int} {t m : Nat} {p : Int} (h : t ≤ xs.length) : (waitL xs t m p).length = xs.length + m := by
  simp [waitL]
  omega
theorem drop_one {xs : List Int} {t : Nat} {p : Int} (h : xs[t]? = some p) : xs.drop t = p :: xs.drop (t + 1) := by
  obtain ⟨ht, rfl⟩ := List.getElem?_eq_some_iff.1 h
  exact List.drop_eq_getElem_cons ht
theorem take_one {xs : List Int} {t : Nat} {p : Int} (h : xs[t]? = some p) : xs.take (t + 1) = xs.take t ++ [p] := by
  obtain ⟨ht, rfl⟩ := List.getElem?_eq_some_iff.1 h
  exact List.take_succ_eq_append_getElem ht
theorem waitL_alt {xs : List Int} {t m : Nat} {p : Int} (h : xs[t]? = some p) : (xs.take (t + 1) ++ List.replicate m p) ++ xs.drop (t + 1) = waitL xs t m p := by
  unfold waitL
  rw [drop_one h, take_one h]
  simp only [List.append_assoc, List.singleton_append]
  rw [show p :: List.replicate m p = List.replicate m p ++ [p] from by rw [← List.replicate_succ, List.replicate_succ'], List.append_assoc]
  rfl
theorem waitL_at {xs : List Int} {t m : Nat} {p : Int} (ht : t ≤ xs.length) (k : Nat) : (waitL xs t m p)[k]? = if k < t then xs[k]? else if k < t + m then some p else xs[k - m]? := by
  unfold waitL
  have hl : (xs.take t).length = t := by simp; omega
  by_cases h1 : k < t
  · rw [if_pos h1, List.getElem?_append_left (by omega), List.getElem?_take, if_pos h1]
  · rw [if_neg h1, List.getElem?_append_right (by omega), hl]
    by_cases h2 : k < t + m
    · rw [if_pos h2, List.getElem?_append_left (by simp; omega), List.getElem?_replicate, if_pos (by omega)]
    · rw [if_neg h2, List.getElem?_append_right (by simp; omega), List.getElem?_drop, List.length_replicate]
      congr 1
      omega
theorem wait_walk {n : Int} {g : Bool} {xs : List Int} {t m : Nat} {p : Int} (hx : Walk n g xs) (hp : xs[t]? = some p) : Walk n g (waitL xs t m p) ↔ xs.length + m ≤ 61 := by
  obtain ⟨ht, _⟩ := List.getElem?_eq_some_iff.1 hp
  have hl := waitL_len (xs := xs) (t := t) (m := m) (p := p) (by omega)
  have hat := waitL_at (xs := xs) (t := t) (m := m) (p := p) (by omega)
  constructor
  · intro h
    rw [← hl]
    exact h.2.2.1
  · intro h
    have hx1 := hx.2.1
    refine ⟨hx.1, by omega, by omega, fun k q hk => ?_, fun k a b ha hb => ?_⟩
    · rw [hat] at hk
      split at hk
      · exact hx.2.2.2.1 k q hk
      · split at hk
        · cases hk
          exact hx.2.2.2.1 t p hp
        · exact hx.2.2.2.1 _ q hk
    · rw [hat] at ha hb
      by_cases c1 : k + 1 < t
      · rw [if_pos (by omega)] at ha
        rw [if_pos c1] at hb
        exact hx.2.2.2.2 k a b ha hb
      · rw [if_neg c1] at hb
        by_cases c2 : k < t
        · rw [if_pos c2] at ha
          have e : k + 1 = t := by omega
          by_cases c3 : k + 1 < t + m
          · rw [if_pos c3] at hb
            cases hb
            rw [← e] at hp
            exact hx.2.2.2.2 k a p ha hp
          · rw [if_neg c3, show k + 1 - m = k + 1 by omega] at hb
            exact hx.2.2.2.2 k a b ha hb
        · rw [if_neg c2] at ha
          by_cases c3 : k + 1 < t + m
          · rw [if_pos (by omega)] at ha
            rw [if_pos c3] at hb
            cases ha
            cases hb
            exact gap_same n g p
          · rw [if_neg c3] at hb
            by_cases c4 : k < t + m
            · rw [if_pos c4] at ha
              rw [show k + 1 - m = t by omega, hp] at hb
              cases ha
              cases hb
              exact gap_same n g p
            · rw [if_neg c4] at ha
              rw [show k + 1 - m = (k - m) + 1 by omega] at hb
              exact hx.2.2.2.2 (k - m) a b ha hb
open Classical in
/-- what WaitWalk answers -/
noncomputable def waitR (n : Int) (g : Bool) (xs : List Int) (t m : Int) : List Int × Bool := if Walk n g xs ∧ 0 ≤ t ∧ t < xs.length ∧ 0 ≤ m ∧ xs.length + m ≤ 61 then (waitL xs t.toNat m.toNat (xs.getD t.toNat 0), true) else ([], false)
theorem waitR_no {n : Int} {g : Bool} {xs : List Int} {t m : Int} (h : ¬ (Walk n g xs ∧ 0 ≤ t ∧ t < xs.length ∧ 0 ≤ m ∧ xs.length + m ≤ 61)) : waitR n g xs t m = ([], false) := by unfold waitR; rw [if_neg h]
theorem waitR_yes {n : Int} {g : Bool} {xs : List Int} {t m : Nat} {p : Int} (hx : Walk n g xs) (hp : xs[t]? = some p) (hm : xs.length + m ≤ 61) : waitR n g xs t m = (waitL xs t m p, true) := by
  obtain ⟨ht, _⟩ := List.getElem?_eq_some_iff.1 hp
  unfold waitR
  rw [if_pos ⟨hx, by omega, by omega, by omega, by omega⟩]
  simp [List.getD, hp]
theorem waitR_len (n : Int) (g : Bool) (xs : List Int) (t m : Int) (_h : xs.length ≤ 1048576) : (waitR n g xs t m).1.length ≤ 1048576 := by
  by_cases hq : Walk n g xs ∧ 0 ≤ t ∧ t < xs.length ∧ 0 ≤ m ∧ xs.length + m ≤ 61
  · unfold waitR
    rw [if_pos hq]
    show (waitL xs t.toNat m.toNat _).length ≤ _
    rw [waitL_len (by omega)]
    omega
  · rw [waitR_no hq]
    simp

theorem mask_small (y : Nat) (hy : y ≤ 1000) : bits .and .u64 (y : Int) 4294967295 = (y : Int) := by
  have h := bits_and_u64_nat y 4294967295 (by omega) (by omega)
  have e : y &&& 4294967295 = y % 4294967296 := Nat.and_two_pow_sub_one_eq_mod y 32
  rw [e, Nat.mod_eq_of_lt (by omega)] at h
  exact h
end Go.Proofs.YtiokgnabiidlbaaDoor
