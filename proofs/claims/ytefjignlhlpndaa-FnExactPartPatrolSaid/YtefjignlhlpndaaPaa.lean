/-
  What is proved: plain facts on the rounds of part patrols. Conditions: those of each fact.
-/
import Derived.Test.YtefjignlhlpndaaTbc
import Derived.Test.YtefjignlhlpndaaPtg
namespace Go.Proofs.Ytefjignlhlpndaa
open Go.RowKit
set_option linter.unusedVariables false
set_option linter.unusedSimpArgs false

theorem rowF_cons (f : Nat → Int) (m : Nat) : rowF f (m + 1) = f 0 :: rowF (fun t => f (t + 1)) m := by
  unfold rowF
  rw [List.range_succ_eq_map, List.map_cons, List.map_map]
  rfl
theorem rowF_congr {f h : Nat → Int} {m : Nat} (e : ∀ t, t < m → f t = h t) : rowF f m = rowF h m := by
  unfold rowF
  exact List.map_congr_left fun t ht => e t (List.mem_range.1 ht)
/-- up and down a part -/
def upF (a : Nat) (t : Nat) : Int := (a : Int) + t
def dnF (a M : Nat) (t : Nat) : Int := (a : Int) + M - 1 - t
/-- the round of a part: M places from a on -/
def sweepT (a M : Nat) (W : Bool) : List Int := rowF (upF a) M ++ (if W then rowF (dnF a M) M else ((rowF (dnF a M) M).drop 1).take (M - 2))
/-- what goes down between the ends -/
def inF (a M : Nat) (t : Nat) : Int := (a : Int) + M - 2 - t
theorem dn_one (a : Nat) : rowF (dnF a 1) 1 = [(a : Int)] := by
  simp [rowF, dnF, List.range_succ]
theorem dn_cons (a m : Nat) : rowF (dnF a (m + 2)) (m + 2) = ((a : Int) + ((m + 2 : Nat) : Int) - 1) :: (rowF (inF a (m + 2)) m ++ [(a : Int)]) := by
  rw [rowF_cons, rowF_next]
  have e1 : dnF a (m + 2) 0 = (a : Int) + ((m + 2 : Nat) : Int) - 1 := by unfold dnF; omega
  have e2 : rowF (fun t => dnF a (m + 2) (t + 1)) m = rowF (inF a (m + 2)) m := rowF_congr fun t ht => by unfold dnF inF; omega
  have e3 : dnF a (m + 2) (m + 1) = (a : Int) := by unfold dnF; omega
  rw [e1, e2, e3]
theorem sweep_wait_one (a : Nat) : sweepT a 1 true = rowF (upF a) 1 ++ [(a : Int)] := by
  unfold sweepT
  rw [if_pos rfl, dn_one]
theorem sweep_wait (a m : Nat) : sweepT a (m + 2) true = ((rowF (upF a) (m + 2) ++ [(a : Int) + ((m + 2 : Nat) : Int) - 1]) ++ rowF (inF a (m + 2)) m) ++ [(a : Int)] := by
  unfold sweepT
  rw [if_pos rfl, dn_cons]
  simp
theorem sweep_go (a M : Nat) (hM : 1 ≤ M) : sweepT a M false = rowF (upF a) M ++ rowF (inF a M) (M - 2) := by
  unfold sweepT
  rw [if_neg (by simp)]
  congr 1
  match M, hM with
  | 1, _ => simp [rowF]
  | m + 2, _ =>
    rw [dn_cons]
    simp only [List.drop_succ_cons, List.drop_zero, Nat.add_sub_cancel]
    rw [List.take_append_of_le_length (by rw [rowF_len]; exact Nat.le_refl _), List.take_of_length_le (by rw [rowF_len]; exact Nat.le_refl _)]
theorem sweepT_len (a M : Nat) (W : Bool) : (sweepT a M W).length ≤ 2 * M := by
  unfold sweepT
  rw [List.length_append, rowF_len]
  split
  · rw [rowF_len]; omega
  · rw [List.length_take, List.length_drop, rowF_len]; omega
/-- the parts of N places for K guards -/
def manyP (N K j : Nat) : Nat := N / K + if j < N % K then 1 else 0
def startP (N K : Nat) : Nat → Nat
  | 0 => 0
  | j + 1 => startP N K j + manyP N K j
def waitP (N K j : Nat) : Bool := decide (0 < N % K) && decide (N % K ≤ j)
def partF (N K j : Nat) : List Int := sweepT (startP N K j) (manyP N K j) (waitP N K j)
theorem startP_is (N K : Nat) : ∀ j, startP N K j = j * (N / K) + min j (N % K)
  | 0 => by simp [startP]
  | j + 1 => by
    unfold startP manyP
    rw [startP_is N K j, Nat.succ_mul]
    split <;> omega
theorem startP_mono (N K : Nat) {i j : Nat} (h : i ≤ j) : startP N K i ≤ startP N K j := by
  induction j with
  | zero => have : i = 0 := by omega
            subst this; exact Nat.le_refl _
  | succ j ih =>
    by_cases e : i = j + 1
    · subst e; exact Nat.le_refl _
    · exact Nat.le_trans (ih (by omega)) (Nat.le_add_right _ _)
theorem part_in {N K j : Nat} (hK : 1 ≤ K) (hN : K ≤ N) (hj : j < K) : 1 ≤ manyP N K j ∧ startP N K j + manyP N K j ≤ N := by
  have h1 : 1 ≤ N / K := (Nat.one_le_div_iff (by omega)).2 hN
  refine ⟨by unfold manyP; omega, ?_⟩
  have h2 : startP N K (j + 1) ≤ startP N K K := startP_mono N K hj
  have h3 := startP_is N K K
  have h4 := Nat.mod_lt N (show K > 0 by omega)
  have h5 := Nat.div_add_mod N K
  rw [Nat.min_eq_right (by omega)] at h3
  show startP N K (j + 1) ≤ N
  omega
theorem up_div {N K : Nat} (hK : 1 ≤ K) : (N + K - 1) / K = N / K + if 0 < N % K then 1 else 0 := by
  have h5 := Nat.div_add_mod N K
  have h4 := Nat.mod_lt N (show K > 0 by omega)
  split
  · rename_i h
    have e : N + K - 1 = (N % K - 1) + K * (N / K + 1) := by rw [Nat.mul_succ]; omega
    rw [e, Nat.add_mul_div_left _ _ (by omega), Nat.div_eq_of_lt (by omega)]
    omega
  · rename_i h
    have e : N + K - 1 = (K - 1) + K * (N / K) := by omega
    rw [e, Nat.add_mul_div_left _ _ (by omega), Nat.div_eq_of_lt (by omega)]
    omega
theorem wait_is {N K j : Nat} (hK : 1 ≤ K) : waitP N K j = !decide (manyP N K j = (N + K - 1) / K) := by
  rw [up_div hK]
  unfold waitP manyP
  by_cases h1 : 0 < N % K
  · by_cases h2 : N % K ≤ j
    · simp [h1, h2, show ¬ j < N % K by omega]
    · simp [h1, h2, show j < N % K by omega]
  · simp [h1, show ¬ j < N % K by omega]
end Go.Proofs.Ytefjignlhlpndaa
