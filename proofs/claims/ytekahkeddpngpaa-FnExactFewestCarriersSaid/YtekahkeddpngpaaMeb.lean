/-
  What is proved: the contracts of the model's and the program's tests of moves and walkers. Conditions: slices that read as lists of numbers.
-/
import Derived.Test.YtekahkeddpngpaaMea
import Derived.Test.YtekahkeddpngpaaBlk
import Derived.Test.YtekahkeddpngpaaFn1
namespace Go.Proofs.Ytekahkeddpngpaa
open Go.RowKit
set_option linter.unusedVariables false
set_option linter.unusedSimpArgs false

/-- the least of z and the first k numbers -/
def minTo (z : Int) (xs : List Int) : Nat → Int
  | 0 => z
  | k + 1 => min (minTo z xs k) (xs.getD k 0)
/-- the greatest of z and the first k numbers -/
def topTo (z : Int) (xs : List Int) : Nat → Int
  | 0 => z
  | k + 1 => max (topTo z xs k) (xs.getD k 0)
theorem minTo_next {z : Int} {xs : List Int} {k : Nat} {x : Int} (h : xs[k]? = some x) : minTo z xs (k + 1) = min (minTo z xs k) x := by
  show min (minTo z xs k) (xs.getD k 0) = _
  simp [List.getD, h]
theorem topTo_next {z : Int} {xs : List Int} {k : Nat} {x : Int} (h : xs[k]? = some x) : topTo z xs (k + 1) = max (topTo z xs k) x := by
  show max (topTo z xs k) (xs.getD k 0) = _
  simp [List.getD, h]
theorem minTo_iff {z lo : Int} {xs : List Int} : ∀ {k : Nat}, k ≤ xs.length → (lo ≤ minTo z xs k ↔ lo ≤ z ∧ ∀ (j : Nat) x, j < k → xs[j]? = some x → lo ≤ x)
  | 0, _ => by
    constructor
    · intro h
      exact ⟨h, fun j x hj => by omega⟩
    · intro h
      exact h.1
  | k + 1, hk => by
    obtain ⟨x, hx⟩ := get_some (xs := xs) (k := k) (by omega)
    have ih := minTo_iff (z := z) (lo := lo) (xs := xs) (k := k) (by omega)
    rw [minTo_next hx]
    constructor
    · intro h
      obtain ⟨h1, h2⟩ := ih.1 (by omega)
      refine ⟨h1, fun j y hj hy => ?_⟩
      by_cases e : j = k
      · subst e
        rw [hx] at hy
        cases hy
        omega
      · exact h2 j y (by omega) hy
    · intro h
      have h1 := ih.2 ⟨h.1, fun j y hj hy => h.2 j y (by omega) hy⟩
      have h2 := h.2 k x (by omega) hx
      omega
theorem topTo_iff {z hi : Int} {xs : List Int} : ∀ {k : Nat}, k ≤ xs.length → (topTo z xs k ≤ hi ↔ z ≤ hi ∧ ∀ (j : Nat) x, j < k → xs[j]? = some x → x ≤ hi)
  | 0, _ => by
    constructor
    · intro h
      exact ⟨h, fun j x hj => by omega⟩
    · intro h
      exact h.1
  | k + 1, hk => by
    obtain ⟨x, hx⟩ := get_some (xs := xs) (k := k) (by omega)
    have ih := topTo_iff (z := z) (hi := hi) (xs := xs) (k := k) (by omega)
    rw [topTo_next hx]
    constructor
    · intro h
      obtain ⟨h1, h2⟩ := ih.1 (by omega)
      refine ⟨h1, fun j y hj hy => ?_⟩
      by_cases e : j = k
      · subst e
        rw [hx] at hy
        cases hy
        omega
      · exact h2 j y (by omega) hy
    · intro h
      have h1 := ih.2 ⟨h.1, fun j y hj hy => h.2 j y (by omega) hy⟩
      have h2 := h.2 k x (by omega) hx
      omega
def MnRel (f : Nat → Int) (l : Nat) (m i : Value) : Prop := ∃ k : Nat, 1 ≤ k ∧ k ≤ l ∧ i = .int .i64 k ∧ m = .int .i64 (f k)
set_option maxHeartbeats 400000 in
theorem least_any (v : Value) (xs : List Int) (z : Int) (w : World) (hv : ReadsI w v xs) (hz : xs[0]? = some z) :
    Calls Try.prog 88 #[v] w fun e w' => e = .returned (.int .i64 (minTo z xs xs.length)) ∧ w' = w := by
  obtain ⟨y, c, rfl, hc, hm, hx⟩ := hv
  unfold maxLen at hm
  have hl := (List.getElem?_eq_some_iff.1 hz).1
  obtain ⟨b0, o0, hy, _, hcell0⟩ := hx 0 z hz
  subst hy
  have hcell0 : w.cell? ⟨b0, o0, none⟩ = some (.int .i64 z) := hcell0
  have HX := Lib.hid hx
  have HZ := Lib.hid hz
  clear hx hz
  go_enter Try.func88, Try.ntmps88
  go_wp2
  go_loop [3, 4] (fun m i => MnRel (minTo z xs) xs.length m i) (fun _ i => xs.length - (intOf i).toNat)
  case atStart =>
    refine ⟨1, Nat.le_refl _, hl, rfl, ?_⟩
    rw [minTo_next HZ.out]
    simp [minTo]
  case round =>
    obtain ⟨k, hk1, hk, rfl, rfl⟩ := hrel
    by_cases hlt : k < xs.length
    · obtain ⟨x, hxk⟩ := get_some hlt
      obtain ⟨b, o, e, hbl, hcell⟩ := HX.out k x hxk
      cases e
      have HS := Lib.hid (minTo_next (z := z) hxk)
      clear hxk
      generalize minTo z xs k = m at *
      rcases Int.lt_trichotomy m x with h | h | h
      all_goals
        go_wp2
        go_round
        case rel => exact ⟨k + 1, by omega, by omega, by go_num, by rw [HS.out]; congr 1; omega⟩
        case measure => simp [intOf]; omega
    · have hke : k = xs.length := by omega
      have HE := Lib.hid hke
      clear hke
      go_wp2
      go_ret
      exact ⟨ret_int (by rw [HE.out]), rfl⟩
set_option maxHeartbeats 400000 in
theorem most_any (v : Value) (xs : List Int) (z : Int) (w : World) (hv : ReadsI w v xs) (hz : xs[0]? = some z) :
    Calls Try.prog 89 #[v] w fun e w' => e = .returned (.int .i64 (topTo z xs xs.length)) ∧ w' = w := by
  obtain ⟨y, c, rfl, hc, hm, hx⟩ := hv
  unfold maxLen at hm
  have hl := (List.getElem?_eq_some_iff.1 hz).1
  obtain ⟨b0, o0, hy, _, hcell0⟩ := hx 0 z hz
  subst hy
  have hcell0 : w.cell? ⟨b0, o0, none⟩ = some (.int .i64 z) := hcell0
  have HX := Lib.hid hx
  have HZ := Lib.hid hz
  clear hx hz
  go_enter Try.func89, Try.ntmps89
  go_wp2
  go_loop [3, 4] (fun m i => MnRel (topTo z xs) xs.length m i) (fun _ i => xs.length - (intOf i).toNat)
  case atStart =>
    refine ⟨1, Nat.le_refl _, hl, rfl, ?_⟩
    rw [topTo_next HZ.out]
    simp [topTo]
  case round =>
    obtain ⟨k, hk1, hk, rfl, rfl⟩ := hrel
    by_cases hlt : k < xs.length
    · obtain ⟨x, hxk⟩ := get_some hlt
      obtain ⟨b, o, e, hbl, hcell⟩ := HX.out k x hxk
      cases e
      have HS := Lib.hid (topTo_next (z := z) hxk)
      clear hxk
      generalize topTo z xs k = m at *
      rcases Int.lt_trichotomy m x with h | h | h
      all_goals
        go_wp2
        go_round
        case rel => exact ⟨k + 1, by omega, by omega, by go_num, by rw [HS.out]; congr 1; omega⟩
        case measure => simp [intOf]; omega
    · have hke : k = xs.length := by omega
      have HE := Lib.hid hke
      clear hke
      go_wp2
      go_ret
      exact ⟨ret_int (by rw [HE.out]), rfl⟩
set_option maxHeartbeats 400000 in
theorem within_any (v : Value) (xs : List Int) (most lo hi : Int) (w : World) (hv : ReadsI w v xs) :
    Calls Try.prog 60 #[v, .int .i64 most, .int .i64 lo, .int .i64 hi] w fun e w' => e = .returned (.bool (withB most lo hi xs)) ∧ w' = w := by
  have HV := Lib.hid hv
  obtain ⟨y, c, rfl, hc, hm, hx⟩ := hv
  clear hx
  unfold maxLen at hm
  by_cases h0 : xs.length = 0
  · have hb : withB most lo hi xs = false := withB_no (fun h => by omega)
    have HB := Lib.hid hb
    have hx0 : xs = [] := List.eq_nil_of_length_eq_zero h0
    subst hx0
    clear hb h0
    go_enter Try.func60, Try.ntmps60
    go_wp2
    go_ret
    exact ⟨ret_bool HB.out.symm, rfl⟩
  · have hn : xs ≠ [] := fun e => h0 (by rw [e]; rfl)
    have h1 : 0 < xs.length := by omega
    have h2 : ¬ (xs.length : Int) = 0 := by omega
    have h3 : ((xs.length : Int) == 0) = false := by simpa using hn
    obtain ⟨z, hz⟩ := get_some h1
    by_cases hl : most < xs.length
    · have HB := Lib.hid (withB_no (most := most) (lo := lo) (hi := hi) (xs := xs) (fun h => by omega))
      clear hz
      go_enter Try.func60, Try.ntmps60
      go_wp2
      go_ret
      exact ⟨ret_bool HB.out.symm, rfl⟩
    · have HZ := Lib.hid hz
      have HMI := Lib.hid (fun w hv => least_any (.slice y xs.length c) xs z w hv HZ.out)
      have HMA := Lib.hid (fun w hv => most_any (.slice y xs.length c) xs z w hv HZ.out)
      have hmi := minTo_iff (z := z) (lo := lo) (xs := xs) (k := xs.length) (Nat.le_refl _)
      have hma := topTo_iff (z := z) (hi := hi) (xs := xs) (k := xs.length) (Nat.le_refl _)
      have HI := Lib.hid hmi
      have HA := Lib.hid hma
      clear hmi hma hz
      generalize minTo z xs xs.length = a at *
      generalize topTo z xs xs.length = b at *
      go_enter Try.func60, Try.ntmps60
      go_wp2_with fail
      refine (HMI.out _ HV.out).mono ?_
      rintro e w1 ⟨rfl, rfl⟩
      by_cases ha : lo ≤ a
      · go_wp2_with fail
        refine (HMA.out _ HV.out).mono ?_
        rintro e w1 ⟨rfl, rfl⟩
        go_wp2_with fail
        go_ret
        refine ⟨ret_bool ?_, rfl⟩
        rw [Bool.eq_iff_iff, withB_iff, decide_eq_true_iff, HA.out]
        have hI := HI.out.1 ha
        constructor
        · intro h
          exact ⟨h1, by omega, fun j x hx => ⟨hI.2 j x (List.getElem?_eq_some_iff.1 hx).1 hx, h.2 j x (List.getElem?_eq_some_iff.1 hx).1 hx⟩⟩
        · intro h
          exact ⟨(h.2.2 0 z HZ.out).2, fun j x _ hx => (h.2.2 j x hx).2⟩
      · have HB := Lib.hid (withB_no (most := most) (lo := lo) (hi := hi) (xs := xs) (fun h => ha (HI.out.2 ⟨(h.2.2 0 z HZ.out).1, fun j x _ hx => (h.2.2 j x hx).1⟩)))
        go_wp2_with fail
        go_ret
        exact ⟨ret_bool HB.out.symm, rfl⟩
end Go.Proofs.Ytekahkeddpngpaa
