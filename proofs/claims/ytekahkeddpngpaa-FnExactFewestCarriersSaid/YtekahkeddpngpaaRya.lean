/-
  What is proved: plain facts on orders by their lengths; the model's l7Orders. Conditions: those of each.
-/
import Derived.Test.YtekahkeddpngpaaHas
import Derived.Test.YtekahkeddpngpaaOwl
namespace Go.Proofs.Ytekahkeddpngpaa
open Go.RowKit
set_option linter.unusedVariables false
set_option linter.unusedSimpArgs false

/-- an order with one more number, less than k, that it has not -/
def extO (o : List Int) (k : Nat) : List (List Int) := (List.range k).flatMap (fun (x : Nat) => if o.contains (x : Int) then [] else [o ++ [(x : Int)]])
theorem extO_yes {o : List Int} {k : Nat} (h : o.contains (k : Int) = true) : extO o (k + 1) = extO o k := by
  unfold extO
  rw [List.range_succ, List.flatMap_append]
  simp only [List.flatMap_cons, List.flatMap_nil, h, if_true, List.append_nil]
theorem extO_no {o : List Int} {k : Nat} (h : o.contains (k : Int) = false) : extO o (k + 1) = extO o k ++ [o ++ [(k : Int)]] := by
  unfold extO
  rw [List.range_succ, List.flatMap_append]
  simp only [List.flatMap_cons, List.flatMap_nil, h, List.append_nil]
  rfl
theorem extO_len (o : List Int) : ∀ k, (extO o k).length ≤ k
  | 0 => by simp [extO]
  | k + 1 => by
    have ih := extO_len o k
    cases h : o.contains (k : Int)
    · rw [extO_no h, List.length_append]
      simp
      omega
    · rw [extO_yes h]
      omega
theorem extO_elt {o y : List Int} : ∀ {k : Nat}, y ∈ extO o k → y.length = o.length + 1
  | 0, h => by simp [extO] at h
  | k + 1, h => by
    cases hc : o.contains (k : Int)
    · rw [extO_no hc, List.mem_append] at h
      rcases h with h | h
      · exact extO_elt h
      · simp at h
        rw [h]
        simp
    · rw [extO_yes hc] at h
      exact extO_elt h
/-- all orders of a length -/
def lvl (n : Nat) : Nat → List (List Int)
  | 0 => [[]]
  | k + 1 => (lvl n k).flatMap (fun o => extO o n)
theorem flat_len {L : List (List Int)} {n : Nat} : (L.flatMap (fun o => extO o n)).length ≤ L.length * n := by
  induction L with
  | nil => simp
  | cons o L ih =>
    rw [List.flatMap_cons, List.length_append, List.length_cons, Nat.succ_mul]
    have := extO_len o n
    omega
theorem lvl_len {n : Nat} (hn : n ≤ 6) : ∀ k, (lvl n k).length ≤ 6 ^ k
  | 0 => by simp [lvl]
  | k + 1 => by
    have ih := lvl_len hn k
    have h := flat_len (L := lvl n k) (n := n)
    rw [lvl, Nat.pow_succ]
    exact Nat.le_trans h (Nat.mul_le_mul ih hn)
theorem lvl_elt {n : Nat} : ∀ {k : Nat} {o : List Int}, o ∈ lvl n k → o.length = k
  | 0, o, h => by
    simp [lvl] at h
    rw [h]
    rfl
  | k + 1, o, h => by
    rw [lvl, List.mem_flatMap] at h
    obtain ⟨p, hp, ho⟩ := h
    rw [extO_elt ho, lvl_elt hp]
theorem take_flat {L : List (List Int)} {i n : Nat} {o : List Int} (h : L[i]? = some o) : (L.take (i + 1)).flatMap (fun o => extO o n) = (L.take i).flatMap (fun o => extO o n) ++ extO o n := by
  have h2 : L.take (i + 1) = L.take i ++ [o] := by
    rw [List.take_add_one, h]
    rfl
  rw [h2, List.flatMap_append]
  simp
/-- v reads as lists that all have a block -/
def RowsB (w : World) (v : Value) (L : List (List Int)) : Prop :=
  ∃ a c, v = .slice a L.length c ∧ ∀ (i : Nat) o, L[i]? = some o → ∃ go g cc, a = some ⟨go, 0, none⟩ ∧ go < w.heap.size ∧ w.cell? ⟨go, i, none⟩ = some (.slice (some ⟨g, 0, none⟩) o.length cc) ∧ ReadsI w (.slice (some ⟨g, 0, none⟩) o.length cc) o
theorem RowsB.below {w w' : World} {v : Value} {L : List (List Int)} (h : RowsB w v L) (hb : Below w.heap.size w w') : RowsB w' v L := by
  obtain ⟨a, c, hv, hx⟩ := h
  refine ⟨a, c, hv, fun i o hi => ?_⟩
  obtain ⟨go, g, cc, ha, hg, hcell, hr⟩ := hx i o hi
  exact ⟨go, g, cc, ha, Nat.lt_of_lt_of_le hg hb.size, (hb.cell (p := ⟨go, i, none⟩) hg).trans hcell, hr.below hb⟩
theorem rowsB_of {base : Nat} {w : World} {v : Value} {L : List (List Int)} (h : OwnL base v L w) (hne : ∀ o, o ∈ L → o ≠ []) : RowsB w v L := by
  obtain ⟨a, c, hv⟩ := ownL_shape h
  subst hv
  refine ⟨a, c, rfl, fun i o hi => ?_⟩
  obtain ⟨go, u, ha, hg, hcell, hrd⟩ := ownL_at h hi
  obtain ⟨g, cc, hu⟩ := rdT_shape hrd (hne o (List.mem_of_getElem? hi))
  subst hu
  exact ⟨go, g, cc, ha, hg, hcell, hrd.reads⟩
end Go.Proofs.Ytekahkeddpngpaa
