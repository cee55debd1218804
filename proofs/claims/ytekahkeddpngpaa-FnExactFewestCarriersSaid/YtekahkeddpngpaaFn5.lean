/-
  What is proved: slices.Index, slices.Contains, slices.Max, impl.FirstVisits, impl.CoverTime and the model's answer alike. Conditions: those of each contract.
-/
import Derived.Test.YtekahkeddpngpaaFn4
namespace Go.Proofs.Ytekahkeddpngpaa
open Go.RowKit

/-- the place of the first p in a list that begins at k, or -1 -/
def firstFrom (p : Int) : List Int → Nat → Int
  | [], _ => -1
  | x :: xs, k => if x = p then (k : Int) else firstFrom p xs (k + 1)
def firstI (xs : List Int) (p : Int) : Int := firstFrom p xs 0
theorem firstFrom_range (p : Int) : ∀ (xs : List Int) (k : Nat), -1 ≤ firstFrom p xs k ∧ firstFrom p xs k < k + xs.length + 1
  | [], k => by simp [firstFrom]; omega
  | x :: xs, k => by
    unfold firstFrom
    have := firstFrom_range p xs (k + 1)
    simp only [List.length_cons]
    split <;> omega
theorem firstI_range (xs : List Int) (p : Int) : -1 ≤ firstI xs p ∧ firstI xs p ≤ xs.length := by
  have := firstFrom_range p xs 0
  unfold firstI
  omega
theorem firstFrom_hit {p x : Int} {xs : List Int} {k : Nat} (hx : xs[k]? = some x) (he : x = p) : firstFrom p (xs.drop k) k = k := by
  obtain ⟨hk, rfl⟩ := List.getElem?_eq_some_iff.1 hx
  rw [List.drop_eq_getElem_cons hk, firstFrom, if_pos he]
theorem firstFrom_miss {p x : Int} {xs : List Int} {k : Nat} (hx : xs[k]? = some x) (he : ¬ x = p) : firstFrom p (xs.drop k) k = firstFrom p (xs.drop (k + 1)) (k + 1) := by
  obtain ⟨hk, rfl⟩ := List.getElem?_eq_some_iff.1 hx
  conv => lhs; rw [List.drop_eq_getElem_cons hk, firstFrom, if_neg he]
theorem firstFrom_end {p : Int} {xs : List Int} {k : Nat} (hk : k = xs.length) : firstFrom p (xs.drop k) k = -1 := by
  subst hk
  rw [List.drop_length]
  rfl
def FiRel (xs : List Int) (p : Int) (r i : Value) : Prop := r = .int .i64 0 ∧ ∃ k : Nat, k ≤ xs.length ∧ i = .int .i64 k ∧ firstFrom p (xs.drop k) k = firstI xs p
set_option maxHeartbeats 400000 in
theorem index_any (v : Value) (xs : List Int) (p : Int) (w : World) (hv : ReadsI w v xs) :
    Calls Try.prog 109 #[v, .int .i64 p] w fun e w' => e = .returned (.int .i64 (firstI xs p)) ∧ w = w' := by
  obtain ⟨y, c, rfl, hc, hm, hx⟩ := hv
  unfold maxLen at hm
  have HX := Lib.hid hx
  clear hx
  go_enter Try.func109, Try.ntmps109
  go_wp2
  go_loop [4, 8] (fun r i => FiRel xs p r i) (fun _ i => xs.length - (intOf i).toNat)
  case atStart => exact ⟨rfl, 0, Nat.zero_le _, rfl, by rw [List.drop_zero]; rfl⟩
  case round =>
    obtain ⟨rfl, k, hk, rfl, hpre⟩ := hrel
    have HP := Lib.hid hpre
    clear hpre
    by_cases hlt : k < xs.length
    · obtain ⟨x, hxk⟩ := get_some hlt
      obtain ⟨b, o, rfl, hbl, hcell⟩ := HX.out k x hxk
      have HK := Lib.hid hxk
      clear hxk
      by_cases he : x = p
      · have HF := Lib.hid (firstFrom_hit HK.out he)
        subst he
        go_wp2
        go_ret
        exact ⟨ret_int (by rw [← HP.out, HF.out]), rfl⟩
      · have hne : (x == p) = false := by simp [he]
        have hne2 : (p == x) = false := by simp; exact fun h => he h.symm
        have hne3 : ¬ p = x := fun h => he h.symm
        have HF := Lib.hid (firstFrom_miss HK.out he)
        go_wp2
        go_round
        case rel => exact ⟨rfl, k + 1, by omega, by go_num, by rw [← HF.out]; exact HP.out⟩
        case measure => simp [intOf]; omega
    · have HE := Lib.hid (firstFrom_end (p := p) (xs := xs) (k := k) (by omega))
      go_wp2
      go_ret
      exact ⟨ret_int (by rw [← HP.out, HE.out]), rfl⟩
theorem contains_any (v : Value) (xs : List Int) (p : Int) (w : World) (hv : ReadsI w v xs) :
    Calls Try.prog 97 #[v, .int .i64 p] w fun e w' => e = .returned (.bool (decide (0 ≤ firstI xs p))) ∧ w = w' := by
  have HI := Lib.hid (fun w hv => index_any v xs p w hv)
  have HV := Lib.hid hv
  clear hv
  go_enter Try.func97, Try.ntmps97
  go_wp2_with fail
  refine (HI.out _ HV.out).mono ?_
  rintro e w' ⟨rfl, rfl⟩
  go_wp2_with fail
  go_ret
  exact ⟨rfl, rfl⟩
/-- the greatest of the first k numbers behind z -/
def maxTo (z : Int) (xs : List Int) : Nat → Int
  | 0 => z
  | k + 1 => max (maxTo z xs k) (xs.getD k 0)
def MxRel (xs : List Int) (z : Int) (m i : Value) : Prop := ∃ k : Nat, 1 ≤ k ∧ k ≤ xs.length ∧ i = .int .i64 k ∧ m = .int .i64 (maxTo z xs k)
set_option maxHeartbeats 400000 in
theorem max_any (v : Value) (xs : List Int) (z : Int) (w : World) (hv : ReadsI w v xs) (hz : xs[0]? = some z) :
    Calls Try.prog 89 #[v] w fun e w' => e = .returned (.int .i64 (maxTo z xs xs.length)) ∧ w = w' := by
  obtain ⟨y, c, rfl, hc, hm, hx⟩ := hv
  unfold maxLen at hm
  have hl := (List.getElem?_eq_some_iff.1 hz).1
  obtain ⟨b0, o0, hy, _, hcell0⟩ := hx 0 z hz
  subst hy
  have hcell0 : w.cell? ⟨b0, o0, none⟩ = some (.int .i64 z) := hcell0
  have HX := Lib.hid hx
  have HZ := Lib.hid hz
  clear hx hz
  go_enter Try.func89, Try.ntmps89
  go_wp2
  go_loop [3, 4] (fun m i => MxRel xs z m i) (fun _ i => xs.length - (intOf i).toNat)
  case atStart =>
    refine ⟨1, Nat.le_refl _, hl, rfl, ?_⟩
    have := HZ.out
    show _ = Value.int .i64 (max z (xs.getD 0 0))
    simp [List.getD, this]
  case round =>
    obtain ⟨k, hk1, hk, rfl, rfl⟩ := hrel
    by_cases hlt : k < xs.length
    · obtain ⟨x, hxk⟩ := get_some hlt
      obtain ⟨b, o, e, hbl, hcell⟩ := HX.out k x hxk
      cases e
      have hs : maxTo z xs (k + 1) = max (maxTo z xs k) x := by
        show max (maxTo z xs k) (xs.getD k 0) = _
        simp [List.getD, hxk]
      have HS := Lib.hid hs
      clear hxk hs
      generalize maxTo z xs k = m at *
      by_cases h : m ≤ x
      · go_wp2
        go_round
        case rel => exact ⟨k + 1, by omega, by omega, by go_num, by rw [HS.out]; congr 1; omega⟩
        case measure => simp [intOf]; omega
      · go_wp2
        go_round
        case rel => exact ⟨k + 1, by omega, by omega, by go_num, by rw [HS.out]; congr 1; omega⟩
        case measure => simp [intOf]; omega
    · have hke : k = xs.length := by omega
      have HE := Lib.hid hke
      clear hke
      go_wp2
      go_ret
      exact ⟨ret_int (by rw [HE.out]), rfl⟩
end Go.Proofs.Ytekahkeddpngpaa
