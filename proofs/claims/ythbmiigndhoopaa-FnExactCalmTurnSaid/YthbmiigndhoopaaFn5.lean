/-
  What is proved: slices.Index, slices.Contains, slices.Max, impl.FirstVisits, impl.CoverTime and the model's answer alike. Conditions: those of each contract.
-/
import Derived.Test.YthbmiigndhoopaaFn4
namespace Go.Proofs.Ythbmiigndhoopaa
open Go.RowKit

/-- the place of the first p in a list that begins at k, or -1 -/
def firstFrom (p : Int) : List Int → Nat → Int
  | [], _ => -1
  | x :: xs, k => if x = p then (k : Int) else firstFrom p xs (k + 1)
def firstI (xs : List Int) (p : Int) : Int := firstFrom p xs 0
theorem firstFrom_range (p : Int) : ∀ (xs : List Int) (k : Nat), -1 ≤ firstFrom p xs k ∧ firstFrom p xs k < k + xs.length + 1
  | [], k => by simp [firstFrom]; omega
  | x :: xs, k => by
    unfold firstFrom
    have := firstFrom_range p xs (k + 1)
    simp only [List.length_cons]
    split <;> omega
theorem firstI_range (xs : List Int) (p : Int) : -1 ≤ firstI xs p ∧ firstI xs p ≤ xs.length := by
  have := firstFrom_range p xs 0
  unfold firstI
  omega
theorem firstFrom_hit {p x : Int} {xs : List Int} {k : Nat} (hx : xs[k]? = some x) (he : x = p) : firstFrom p (xs.drop k) k = k := by
  obtain ⟨hk, rfl⟩ := List.getElem?_eq_some_iff.1 hx
  rw [List.drop_eq_getElem_cons hk, firstFrom, if_pos he]
theorem firstFrom_miss {p x : Int} {xs : List Int} {k : Nat} (hx : xs[k]? = some x) (he : ¬ x = p) : firstFrom p (xs.drop k) k = firstFrom p (xs.drop (k + 1)) (k + 1) := by
  obtain ⟨hk, rfl⟩ := List.getElem?_eq_some_iff.1 hx
  conv => lhs; rw [List.drop_eq_getElem_cons hk, firstFrom, if_neg he]
theorem firstFrom_end {p : Int} {xs : List Int} {k : Nat} (hk : k = xs.length) : firstFrom p (xs.drop k) k = -1 := by
  subst hk
  rw [List.drop_length]
  rfl
def FiRel (xs : List Int) (p : Int) (r i : Value) : Prop := r = .int .i64 0 ∧ ∃ k : Nat, k ≤ xs.length ∧ i = .int .i64 k ∧ firstFrom p (xs.drop k) k = firstI xs p
set_option maxHeartbeats 400000 in
theorem index_any (v : Value) (xs : List Int) (p : Int) (w : World) (hv : ReadsI w v xs) :
    Calls Try.prog 70 #[v, .int .i64 p] w fun e w' => e = .returned (.int .i64 (firstI xs p)) ∧ w = w' := by
  obtain ⟨y, c, rfl, hc, hm, hx⟩ := hv
  unfold maxLen at hm
  have HX := Lib.hid hx
  clear hx
  go_enter Try.func70, Try.ntmps70
  go_wp2
  go_loop [4, 8] (fun r i => FiRel xs p r i) (fun _ i => xs.length - (intOf i).toNat)
  case atStart => exact ⟨rfl, 0, Nat.zero_le _, rfl, by rw [List.drop_zero]; rfl⟩
  case round =>
    obtain ⟨rfl, k, hk, rfl, hpre⟩ := hrel
    have HP := Lib.hid hpre
    clear hpre
    by_cases hlt : k < xs.length
    · obtain ⟨x, hxk⟩ := get_some hlt
      obtain ⟨b, o, rfl, hbl, hcell⟩ := HX.out k x hxk
      have HK := Lib.hid hxk
      clear hxk
      by_cases he : x = p
      · have HF := Lib.hid (firstFrom_hit HK.out he)
        subst he
        go_wp2
        go_ret
        exact ⟨ret_int (by rw [← HP.out, HF.out]), rfl⟩
      · have hne : (x == p) = false := by simp [he]
        have hne2 : (p == x) = false := by simp; exact fun h => he h.symm
        have hne3 : ¬ p = x := fun h => he h.symm
        have HF := Lib.hid (firstFrom_miss HK.out he)
        go_wp2
        go_round
        case rel => exact ⟨rfl, k + 1, by omega, by go_num, by rw [← HF.out]; exact HP.out⟩
        case measure => simp [intOf]; omega
    · have HE := Lib.hid (firstFrom_end (p := p) (xs := xs) (k := k) (by omega))
      go_wp2
      go_ret
      exact ⟨ret_int (by rw [← HP.out, HE.out]), rfl⟩
end Go.Proofs.Ythbmiigndhoopaa
