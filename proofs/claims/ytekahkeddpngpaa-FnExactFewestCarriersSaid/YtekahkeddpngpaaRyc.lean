/-
  What is proved: plain facts on the queue of orders: each order is met behind those before it, and the queue ends with all of them. Conditions: those of each fact.
-/
import Derived.Test.YtekahkeddpngpaaRyb
namespace Go.Proofs.Ytekahkeddpngpaa
open Go.RowKit
set_option linter.unusedVariables false
set_option linter.unusedSimpArgs false

/-- the orders of at most k numbers, in their order -/
def allT (n : Nat) : Nat → List (List Int)
  | 0 => lvl n 0
  | k + 1 => allT n k ++ lvl n (k + 1)
theorem allT_next (n : Nat) : ∀ k, allT n (k + 1) = [[]] ++ (allT n k).flatMap (fun o => extO o n)
  | 0 => rfl
  | k + 1 => by
    have ih := allT_next n k
    have h1 : allT n (k + 2) = allT n (k + 1) ++ lvl n (k + 2) := rfl
    have h2 : lvl n (k + 2) = (lvl n (k + 1)).flatMap (fun o => extO o n) := rfl
    have h3 : allT n (k + 1) = allT n k ++ lvl n (k + 1) := rfl
    rw [h1, h2, ih, List.append_assoc, ← List.flatMap_append, ← h3, ih]
theorem few_below : ∀ (n : Nat) (xs : List Int), xs.Nodup → (∀ x, x ∈ xs → 0 ≤ x ∧ x < n) → xs.length ≤ n
  | 0, xs, _, h => by
    cases xs with
    | nil => exact Nat.le_refl _
    | cons x xs =>
      have := h x (by simp)
      omega
  | n + 1, xs, hn, h => by
    by_cases hm : (n : Int) ∈ xs
    · have he := few_below n (xs.erase (n : Int)) (hn.erase _) (fun x hx => by
        have h1 := h x (List.mem_of_mem_erase hx)
        have h2 : x ≠ (n : Int) := ((List.Nodup.mem_erase_iff hn).1 hx).1
        omega)
      rw [List.length_erase_of_mem hm] at he
      omega
    · have he := few_below n xs hn (fun x hx => by
        have h1 := h x hx
        have h2 : x ≠ (n : Int) := fun e => hm (e ▸ hx)
        omega)
      omega
theorem lvl_end (n : Nat) : lvl n (n + 1) = [] := by
  cases h : lvl n (n + 1) with
  | nil => rfl
  | cons o L =>
    have ho : o ∈ lvl n (n + 1) := by rw [h]; simp
    have h1 := lvl_elt ho
    have h2 := (ordC_iff n o).1 (lvl_ord ho)
    have h3 := few_below n o h2.2 (fun x hx => by
      obtain ⟨j, hj⟩ := List.getElem?_of_mem hx
      exact h2.1 j x hj)
    omega
/-- all orders -/
def allO (n : Nat) : List (List Int) := allT n n
theorem allO_ext (n : Nat) : allO n = [[]] ++ (allO n).flatMap (fun o => extO o n) := by
  have h1 := allT_next n n
  have h2 : allT n (n + 1) = allT n n ++ lvl n (n + 1) := rfl
  rw [lvl_end, List.append_nil] at h2
  unfold allO
  rw [← h1, h2]
/-- the queue when k orders are looked at -/
def queO (n k : Nat) : List (List Int) := [[]] ++ ((allO n).take k).flatMap (fun o => extO o n)
theorem queO_all (n k : Nat) : allO n = queO n k ++ ((allO n).drop k).flatMap (fun o => extO o n) := by
  unfold queO
  rw [List.append_assoc, ← List.flatMap_append, List.take_append_drop]
  exact allO_ext n
theorem queO_at {n k : Nat} {o : List Int} (h : (queO n k)[k]? = some o) : (allO n)[k]? = some o := by
  rw [queO_all n k, List.getElem?_append_left (List.getElem?_eq_some_iff.1 h).1]
  exact h
theorem queO_next {n k : Nat} {o : List Int} (h : (queO n k)[k]? = some o) : queO n (k + 1) = queO n k ++ extO o n := by
  unfold queO
  rw [take_flat (queO_at h), List.append_assoc]
theorem no_loop {D : List (List Int)} {n : Nat} (h : D = D.flatMap (fun o => extO o n)) : D = [] := by
  have key : ∀ (N : Nat) o, o ∈ D → N ≤ o.length := by
    intro N
    induction N with
    | zero => intro o _; omega
    | succ N ih =>
      intro o ho
      rw [h, List.mem_flatMap] at ho
      obtain ⟨p, hp, ho⟩ := ho
      rw [extO_elt ho]
      have := ih p hp
      omega
  cases D with
  | nil => rfl
  | cons o D =>
    have := key (o.length + 1) o (by simp)
    omega
theorem queO_end {n k : Nat} (h : (queO n k).length = k) : allO n = queO n k := by
  have h1 := queO_all n k
  obtain ⟨Q, hQ⟩ : ∃ Q, queO n k = Q := ⟨_, rfl⟩
  rw [hQ] at h h1 ⊢
  have h2 : (allO n).drop k = ((allO n).drop k).flatMap (fun o => extO o n) := by
    have h3 := congrArg (List.drop k) h1
    subst h
    rw [List.drop_left] at h3
    exact h3
  rw [no_loop h2] at h1
  simpa using h1
theorem roN_all (n : Nat) (p : List Int → Bool) : ∀ k, roN n p (k + 1) = (allT n k).find? p
  | 0 => rfl
  | k + 1 => by
    have ih := roN_all n p k
    rw [roN, ih, allT, List.find?_append]
    cases (allT n k).find? p <;> rfl
theorem roF_all (n : Int) (cs : List Cr) (a b : Int) : roF n cs a b = (allO cs.length).find? (goesP n cs a b) := roN_all cs.length _ cs.length
theorem roF_hit {n : Int} {cs : List Cr} {a b : Int} {k : Nat} {o : List Int} (h : (queO cs.length k)[k]? = some o) (hp : goesP n cs a b o = true) (hn : ∀ i y, i < k → (allO cs.length)[i]? = some y → goesP n cs a b y = false) : roF n cs a b = some o := by
  rw [roF_all]
  exact find_at (queO_at h) hp hn
theorem roF_miss {n : Int} {cs : List Cr} {a b : Int} {k : Nat} (h : (queO cs.length k).length = k) (hn : ∀ i y, i < k → (allO cs.length)[i]? = some y → goesP n cs a b y = false) : roF n cs a b = none := by
  rw [roF_all, List.find?_eq_none]
  intro o ho
  obtain ⟨i, hi⟩ := List.getElem?_of_mem ho
  have hl : i < k := by
    have := (List.getElem?_eq_some_iff.1 hi).1
    rw [queO_end h, h] at this
    exact this
  rw [hn i o hl hi]
  simp
theorem allO_ord {n : Nat} {o : List Int} (h : o ∈ allO n) : ordC n o = true := by
  have key : ∀ k, o ∈ allT n k → ordC n o = true := by
    intro k
    induction k with
    | zero => exact fun h => lvl_ord (k := 0) h
    | succ k ih =>
      intro h
      rw [allT, List.mem_append] at h
      rcases h with h | h
      · exact ih h
      · exact lvl_ord h
  exact key n h
theorem allT_len {n : Nat} (hn : n ≤ 6) : ∀ k, (allT n k).length ≤ (k + 1) * 6 ^ k
  | 0 => by simp [allT, lvl]
  | k + 1 => by
    have ih := allT_len hn k
    have h := lvl_len hn (k + 1)
    rw [allT, List.length_append]
    have h3 : 6 ^ k ≤ 6 ^ (k + 1) := Nat.pow_le_pow_right (by omega) (by omega)
    have h4 : (k + 1) * 6 ^ k ≤ (k + 1) * 6 ^ (k + 1) := Nat.mul_le_mul_left _ h3
    rw [show (k + 1 + 1) * 6 ^ (k + 1) = (k + 1) * 6 ^ (k + 1) + 6 ^ (k + 1) by rw [Nat.succ_mul]]
    omega
end Go.Proofs.Ytekahkeddpngpaa
