/-
  What is proved: the contracts of the greatest number of a table, of the model and of the program. Conditions: those of each contract.
-/
import Derived.Test.YtefjignlhlpndaaDoorNeh
import Derived.Test.YtefjignlhlpndaaDoorMeb
import Derived.Test.YtefjignlhlpndaaDoorFn5
import Derived.Test.YtefjignlhlpndaaDoorFn18
namespace Go.Proofs.YtefjignlhlpndaaDoor
open Go.RowKit
set_option linter.unusedVariables false
set_option linter.unusedSimpArgs false

/-- the greatest number of a list, -1 if one is less than 0 -/
def worstZ (zs : List Int) : Int := if zs.all (fun x => decide (0 ≤ x)) = true then zs.foldl max 0 else -1
theorem worstZ_neg {zs : List Int} {x : Int} (hx : x ∈ zs) (h : x < 0) : worstZ zs = -1 := by
  unfold worstZ
  rw [if_neg]
  intro h2
  rw [List.all_eq_true] at h2
  have := h2 x hx
  simp at this
  omega
theorem worstZ_all {zs : List Int} (h : ∀ x, x ∈ zs → 0 ≤ x) : worstZ zs = zs.foldl max 0 := by
  unfold worstZ
  rw [if_pos]
  rw [List.all_eq_true]
  intro x hx
  simpa using h x hx
theorem foldl_ge : ∀ (zs : List Int) (z : Int), z ≤ zs.foldl max z
  | [], z => Int.le_refl _
  | x :: zs, z => by
    have := foldl_ge zs (max z x)
    simp only [List.foldl_cons]
    omega
theorem topTo_fold (z : Int) (xs : List Int) : ∀ k, k ≤ xs.length → topTo z xs k = (xs.take k).foldl max z
  | 0, _ => rfl
  | k + 1, hk => by
    obtain ⟨x, hx⟩ := get_some (xs := xs) (k := k) (by omega)
    rw [topTo_next hx, topTo_fold z xs k (by omega)]
    obtain ⟨hk2, rfl⟩ := List.getElem?_eq_some_iff.1 hx
    rw [List.take_succ_eq_append_getElem hk2, List.foldl_append]
    rfl
theorem topTo_worst {zs : List Int} {z : Int} (hz : zs[0]? = some z) (h : ∀ x, x ∈ zs → 0 ≤ x) : topTo z zs zs.length = worstZ zs := by
  rw [worstZ_all h, topTo_fold z zs zs.length (Nat.le_refl _), List.take_length]
  match zs, hz with
  | y :: ys, hz =>
    cases hz
    have := h z (List.mem_cons_self ..)
    simp only [List.foldl_cons]
    rw [show max z z = z by omega, show max 0 z = z by omega]
theorem firstFrom_mem (p : Int) : ∀ (xs : List Int) (k : Nat), 0 ≤ firstFrom p xs k ↔ p ∈ xs
  | [], k => by simp [firstFrom]
  | x :: xs, k => by
    unfold firstFrom
    by_cases h : x = p
    · rw [if_pos h]
      simp [h]
    · rw [if_neg h, firstFrom_mem p xs (k + 1)]
      simp [Ne.symm h]
theorem mem_cat {xss : List (List Int)} {p : Nat} {xs : List Int} {x : Int} (h : xss[p]? = some xs) (hx : x ∈ xs) : ∀ {k : Nat}, p < k → x ∈ catL xss k
  | 0, hk => by omega
  | k + 1, hk => by
    show x ∈ catL xss k ++ xss.getD k []
    by_cases e : p = k
    · subst e
      rw [List.mem_append]
      right
      simpa [List.getD, h] using hx
    · rw [List.mem_append]
      left
      exact mem_cat h hx (by omega)
theorem cat_mem {xss : List (List Int)} {x : Int} : ∀ {k : Nat}, k ≤ xss.length → x ∈ catL xss k → ∃ (p : Nat) (xs : List Int), xss[p]? = some xs ∧ x ∈ xs
  | 0, _, h => by simp [catL] at h
  | k + 1, hk, h => by
    have h : x ∈ catL xss k ++ xss.getD k [] := h
    rw [List.mem_append] at h
    rcases h with h | h
    · exact cat_mem (by omega) h
    · obtain ⟨ys, hy⟩ := get_some (xs := xss) (k := k) (by omega)
      simp [List.getD, hy] at h
      exact ⟨k, ys, hy, h⟩
theorem sumL_rows {xss : List (List Int)} {m : Nat} (h : ∀ (j : Nat) xs, xss[j]? = some xs → xs.length = m) : ∀ {k : Nat}, k ≤ xss.length → sumL xss k = k * m
  | 0, _ => by simp [sumL]
  | k + 1, hk => by
    obtain ⟨ys, hy⟩ := get_some (xs := xss) (k := k) (by omega)
    rw [sumL_next hy, sumL_rows h (k := k) (by omega), h k ys hy, Nat.add_mul, Nat.one_mul]
theorem catL_sum (xss : List (List Int)) : ∀ k, (catL xss k).length = sumL xss k
  | 0 => rfl
  | k + 1 => by
    show (catL xss k ++ xss.getD k []).length = sumL xss k + (xss.getD k []).length
    rw [List.length_append, catL_sum xss k]
theorem ownL_readsN {base : Nat} {v : Value} {xss : List (List Int)} {w : World} (h : OwnL base v xss w) (hne : ∀ (j : Nat) xs, xss[j]? = some xs → xs ≠ []) (hm : xss.length ≤ maxLen) : ReadsN w v xss := by
  obtain ⟨a, c, rfl⟩ := ownL_shape h
  have hr := ownL_reads h hm
  obtain ⟨a2, c2, e, hc, _, _⟩ := hr
  cases e
  refine ⟨a, c, rfl, hc, hm, fun j xs hj => ?_⟩
  obtain ⟨g, u, ha, hg, hcell, hrd⟩ := ownL_at h hj
  have hn := hne j xs hj
  obtain ⟨ug, uc, hu⟩ := rdT_shape hrd hn
  subst hu
  obtain ⟨y, yc, e2, hyc, _, hx⟩ := hrd.reads
  cases e2
  refine ⟨g, 0, ug, 0, uc, ha, hg, by rw [Nat.zero_add]; exact hcell, hyc, fun i x hi => ?_⟩
  obtain ⟨b, o, e3, hb, hc3⟩ := hx i x hi
  cases e3
  exact ⟨hb, hc3⟩
theorem ret_RB2 {R : Int × Bool} {a : Int} {b : Bool} (h : R = (a, b)) : Ending.returned (.tuple #[.int .i64 a, .bool b]) = .returned (.tuple #[.int .i64 R.1, .bool R.2]) := by rw [h]
/-- what greatestOf answers -/
def greatR (zs : List Int) : Int × Bool := if worstZ zs < 0 then (0, false) else (worstZ zs, true)
end Go.Proofs.YtefjignlhlpndaaDoor
