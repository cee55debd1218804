/-
  What is proved: plain facts on lanes: within half of the length the flow becomes the less one of the numbers of cars and of free places. Conditions: cars at different places of a ring of at least three places.
-/
import Derived.Test.YthbmiigndhoopaaLna
namespace Go.Proofs.Ythbmiigndhoopaa
open Go.RowKit
set_option linter.unusedVariables false
set_option linter.unusedSimpArgs false

/-- whether there is a car at a place of the ring, unrolled -/
def carA (n : Nat) (S : List Nat) (x : Nat) : Int := if x % n ∈ S then 1 else 0
/-- whether a car goes on from there -/
def goA (n : Nat) (S : List Nat) (x : Nat) : Int := if x % n ∈ S ∧ (x + 1) % n ∉ S then 1 else 0
theorem carA_01 (n : Nat) (S : List Nat) (x : Nat) : carA n S x = 0 ∨ carA n S x = 1 := by unfold carA; split <;> simp
theorem carA_per (n : Nat) (S : List Nat) (x : Nat) : carA n S (x + n) = carA n S x := by unfold carA; rw [Nat.add_mod_right]
theorem nx_at {n x : Nat} (h : 2 ≤ n) : nx n (x % n) = (x + 1) % n := by
  have h1 := Nat.mod_lt x (show 0 < n by omega)
  unfold nx
  split
  · rw [Nat.add_mod x 1 n, Nat.mod_eq_of_lt (show 1 < n by omega), Nat.mod_eq_of_lt (a := x % n + 1) (by omega)]
  · rw [Nat.add_mod x 1 n, Nat.mod_eq_of_lt (show 1 < n by omega), show x % n + 1 = n by omega, Nat.mod_self]
theorem goA_eq (n : Nat) (S : List Nat) (x : Nat) : goA n S x = if carA n S x = 1 ∧ carA n S (x + 1) = 0 then 1 else 0 := by
  unfold goA carA
  by_cases h1 : x % n ∈ S <;> by_cases h2 : (x + 1) % n ∈ S <;> simp [h1, h2]
theorem car_next {n : Nat} {S : List Nat} (hn : 2 ≤ n) (hS : Cars n S) (x : Nat) : carA n (stp n S) (x + 1) = carA n S (x + 1) + goA n S x - goA n S (x + 1) := by
  have hm := stp_mem (n := n) (S := S) (q := (x + 1) % n)
  rw [nx_at hn] at hm
  have h2 : (∃ p, p ∈ S ∧ nx n p = (x + 1) % n) ↔ x % n ∈ S := by
    constructor
    · rintro ⟨p, hp, e⟩
      rw [← nx_at hn] at e
      rw [← nx_inj (hS.2 p hp) (Nat.mod_lt x (by omega)) e]
      exact hp
    · intro h
      exact ⟨x % n, h, nx_at hn⟩
  rw [h2] at hm
  unfold carA goA
  by_cases a : x % n ∈ S <;> by_cases b : (x + 1) % n ∈ S <;> by_cases c : (x + 1 + 1) % n ∈ S <;> simp only [a, b, c, hm, not_true_eq_false, not_false_eq_true, and_true, and_false, false_and, true_and, or_true, or_false, false_or, if_true, if_false] <;> simp
/-- the height of the line of cars: it falls at each car, and grows where a car goes by -/
def hgt0 (n : Nat) (S : List Nat) : Nat → Int
  | 0 => 0
  | x + 1 => hgt0 n S x - carA n S (x + 1)
def hgt (n : Nat) (S : List Nat) : Nat → Nat → Int
  | 0, x => hgt0 n S x
  | t + 1, x => hgt n S t x + goA n (stpN n S t) x
theorem hgt_zero (n : Nat) (S : List Nat) (x : Nat) : hgt n S 0 (x + 1) = hgt n S 0 x - carA n S (x + 1) := rfl
theorem hgt_fall {n : Nat} {S : List Nat} (hn : 2 ≤ n) (hS : Cars n S) : ∀ t x, hgt n S t x - hgt n S t (x + 1) = carA n (stpN n S t) (x + 1)
  | 0, x => by
    rw [hgt_zero]
    show hgt n S 0 x - (hgt n S 0 x - carA n S (x + 1)) = carA n S (x + 1)
    omega
  | t + 1, x => by
    have ih := hgt_fall hn hS t x
    have hc := car_next hn (stpN_cars hn hS t) x
    show hgt n S t x + goA n (stpN n S t) x - (hgt n S t (x + 1) + goA n (stpN n S t) (x + 1)) = carA n (stp n (stpN n S t)) (x + 1)
    omega
theorem hgt_min {n : Nat} {S : List Nat} (hn : 2 ≤ n) (hS : Cars n S) (t x : Nat) : hgt n S (t + 1) (x + 1) = min (hgt n S t x) (hgt n S t (x + 1 + 1) + 1) := by
  have h1 := hgt_fall hn hS t x
  have h2 := hgt_fall hn hS t (x + 1)
  have h3 := goA_eq n (stpN n S t) (x + 1)
  have h4 := carA_01 n (stpN n S t) (x + 1)
  have h5 := carA_01 n (stpN n S t) (x + 1 + 1)
  show hgt n S t (x + 1) + goA n (stpN n S t) (x + 1) = _
  rcases h4 with h4 | h4 <;> rcases h5 with h5 | h5 <;> simp only [h4, h5] at h3 h1 h2 <;> simp at h3 <;> omega
theorem hgt_up {n : Nat} {S : List Nat} (hn : 2 ≤ n) (hS : Cars n S) : ∀ t y i, i ≤ t → hgt n S t (y + t) ≤ hgt n S 0 (y + 2 * i) + i
  | 0, y, i, hi => by
    have : i = 0 := by omega
    subst this
    simp
  | t + 1, y, i, hi => by
    have hm := hgt_min hn hS t (y + t)
    rw [show y + (t + 1) = y + t + 1 by omega]
    by_cases h : i ≤ t
    · have := hgt_up hn hS t y i h
      omega
    · have := hgt_up hn hS t (y + 2) t (Nat.le_refl t)
      rw [show y + t + 1 + 1 = y + 2 + t by omega] at hm
      have e : i = t + 1 := by omega
      subst e
      rw [show y + 2 * (t + 1) = y + 2 + 2 * t by omega]
      omega
theorem hgt_hit {n : Nat} {S : List Nat} (hn : 2 ≤ n) (hS : Cars n S) : ∀ t y, ∃ i, i ≤ t ∧ hgt n S t (y + t) = hgt n S 0 (y + 2 * i) + i
  | 0, y => ⟨0, Nat.le_refl _, by simp⟩
  | t + 1, y => by
    have hm := hgt_min hn hS t (y + t)
    rw [show y + (t + 1) = y + t + 1 by omega]
    obtain ⟨i, hi, e1⟩ := hgt_hit hn hS t y
    obtain ⟨j, hj, e2⟩ := hgt_hit hn hS t (y + 2)
    rw [show y + t + 1 + 1 = y + 2 + t by omega] at hm
    rcases (show hgt n S (t + 1) (y + t + 1) = hgt n S t (y + t) ∨ hgt n S (t + 1) (y + t + 1) = hgt n S t (y + 2 + t) + 1 by omega) with h | h
    · exact ⟨i, by omega, by rw [h, e1]⟩
    · refine ⟨j + 1, by omega, ?_⟩
      rw [h, e2, show y + 2 * (j + 1) = y + 2 + 2 * j by omega]
      omega
theorem count_all {n : Nat} {S : List Nat} (hS : Cars n S) : (List.range n).countP (fun p => decide (p ∈ S)) = S.length := by
  have h := count_of (P := fun _ => true) hS
  simp only [Bool.and_true] at h
  rw [h, List.countP_eq_length]
  simp
/-- cars from place 1 to k -/
theorem hgt_low (n : Nat) (S : List Nat) : ∀ k, k < n → hgt n S 0 0 - hgt n S 0 k + carA n S 0 = ((List.range (k + 1)).countP (fun p => decide (p ∈ S)) : Nat)
  | 0, h => by
    have e : 0 % n = 0 := Nat.zero_mod n
    unfold carA
    rw [e]
    by_cases h0 : 0 ∈ S <;> simp [h0, List.range_succ]
  | k + 1, h => by
    have ih := hgt_low n S k (by omega)
    rw [List.range_succ, List.countP_append]
    have e : (k + 1) % n = k + 1 := Nat.mod_eq_of_lt h
    have hc : carA n S (k + 1) = ((List.countP (fun p => decide (p ∈ S)) [k + 1] : Nat) : Int) := by
      unfold carA
      rw [e]
      by_cases h0 : k + 1 ∈ S <;> simp [h0]
    show hgt n S 0 0 - (hgt n S 0 k - carA n S (k + 1)) + carA n S 0 = _
    omega
theorem hgt_per {n : Nat} {S : List Nat} (hn : 2 ≤ n) (hS : Cars n S) : ∀ x, hgt n S 0 (x + n) = hgt n S 0 x - S.length
  | 0 => by
    have h := hgt_low n S (n - 1) (by omega)
    rw [show n - 1 + 1 = n by omega, count_all hS] at h
    have e : hgt n S 0 (n - 1 + 1) = hgt n S 0 (n - 1) - carA n S (n - 1 + 1) := rfl
    rw [show n - 1 + 1 = n by omega] at e
    have hp := carA_per n S 0
    rw [Nat.zero_add] at hp ⊢
    omega
  | x + 1 => by
    have ih := hgt_per hn hS x
    have e1 : hgt n S 0 (x + n + 1) = hgt n S 0 (x + n) - carA n S (x + n + 1) := rfl
    have e2 : hgt n S 0 (x + 1) = hgt n S 0 x - carA n S (x + 1) := rfl
    have hp := carA_per n S (x + 1)
    rw [show x + 1 + n = x + n + 1 by omega] at hp ⊢
    omega
theorem hgt_one {n : Nat} {S : List Nat} (x : Nat) : hgt n S 0 (x + 1) ≤ hgt n S 0 x ∧ hgt n S 0 x ≤ hgt n S 0 (x + 1) + 1 := by
  have e2 : hgt n S 0 (x + 1) = hgt n S 0 x - carA n S (x + 1) := rfl
  have := carA_01 n S (x + 1)
  omega
/-- few cars: behind half of the turns no two cars are next to each other -/
theorem few_apart {n : Nat} {S : List Nat} (hn : 2 ≤ n) (hS : Cars n S) (hK : 2 * S.length ≤ n) {t : Nat} (ht : n / 2 ≤ t + 1) (y : Nat) : carA n (stpN n S t) (y + t + 1) + carA n (stpN n S t) (y + t + 2) ≤ 1 := by
  have h1 := hgt_fall hn hS t (y + t)
  have h2 := hgt_fall hn hS t (y + t + 1)
  obtain ⟨j, hj, e⟩ := hgt_hit hn hS t (y + 2)
  rw [show y + 2 + t = y + t + 1 + 1 by omega] at e
  rw [show y + t + 1 + 1 = y + t + 2 by omega] at *
  by_cases h : j < t
  · have := hgt_up hn hS t y (j + 1) (by omega)
    rw [show y + 2 * (j + 1) = y + 2 + 2 * j by omega] at this
    omega
  · have ej : j = t := by omega
    subst ej
    have hu := hgt_up hn hS j y (j + 1 - n / 2) (by omega)
    have hp := hgt_per hn hS (y + 2 * (j + 1 - n / 2))
    have hmod : n % 2 = 0 ∨ n % 2 = 1 := by omega
    rcases hmod with hm | hm
    · rw [show y + 2 * (j + 1 - n / 2) + n = y + 2 + 2 * j by omega] at hp
      omega
    · rw [show y + 2 * (j + 1 - n / 2) + n = y + 2 + 2 * j + 1 by omega] at hp
      have := hgt_one (n := n) (S := S) (y + 2 + 2 * j)
      omega
/-- many cars: behind half of the turns no two free places are next to each other -/
theorem many_apart {n : Nat} {S : List Nat} (hn : 2 ≤ n) (hS : Cars n S) (hK : n ≤ 2 * S.length) {t : Nat} (ht : n / 2 ≤ t + 1) (y : Nat) : 1 ≤ carA n (stpN n S t) (y + t + 1) + carA n (stpN n S t) (y + t + 2) := by
  have h1 := hgt_fall hn hS t (y + t)
  have h2 := hgt_fall hn hS t (y + t + 1)
  obtain ⟨i, hi, e⟩ := hgt_hit hn hS t y
  rw [show y + t + 1 + 1 = y + t + 2 by omega] at *
  by_cases h : 0 < i
  · have := hgt_up hn hS t (y + 2) (i - 1) (by omega)
    rw [show y + 2 + 2 * (i - 1) = y + 2 * i by omega, show y + 2 + t = y + t + 2 by omega] at this
    omega
  · have ei : i = 0 := by omega
    subst ei
    have hu := hgt_up hn hS t (y + 2) (n / 2 - 1) (by omega)
    have hp := hgt_per hn hS y
    rw [show y + 2 + t = y + t + 2 by omega] at hu
    have hmod : n % 2 = 0 ∨ n % 2 = 1 := by omega
    rcases hmod with hm | hm
    · rw [show y + 2 + 2 * (n / 2 - 1) = y + n by omega] at hu
      rw [Nat.mul_zero, Nat.add_zero] at e
      omega
    · have := hgt_one (n := n) (S := S) (y + 2 + 2 * (n / 2 - 1))
      rw [show y + 2 + 2 * (n / 2 - 1) + 1 = y + n by omega] at this
      rw [Nat.mul_zero, Nat.add_zero] at e
      omega
theorem flo_le {n : Nat} (S : List Nat) : flo n S ≤ S.length := List.countP_le_length
/-- the flow: free places behind a car, counted over the free places -/
theorem nx_onto {n q : Nat} (hn : 2 ≤ n) (hq : q < n) : ∃ p, p < n ∧ nx n p = q := by
  by_cases h : q = 0
  · exact ⟨n - 1, by omega, by unfold nx; rw [if_neg (by omega), h]⟩
  · exact ⟨q - 1, by omega, by unfold nx; rw [if_pos (by omega)]; omega⟩
theorem free_count {n : Nat} {S : List Nat} (hS : Cars n S) : ((List.range n).filter (fun p => decide (p ∉ S))).length = n - S.length := by
  have h1 := count_all hS
  have h2 := List.length_eq_countP_add_countP (fun p => decide (p ∈ S)) (l := List.range n)
  rw [List.length_range, h1] at h2
  rw [← List.countP_eq_length_filter]
  have h3 : List.countP (fun p => decide (p ∉ S)) (List.range n) = List.countP (fun a => decide ¬decide (a ∈ S) = true) (List.range n) := by
    apply List.countP_congr
    intro p hp
    by_cases h : p ∈ S <;> simp [h]
  omega
theorem flo_free {n : Nat} {S : List Nat} (hn : 2 ≤ n) (hS : Cars n S) : flo n S ≤ n - S.length := by
  unfold flo
  rw [← free_count hS, List.countP_eq_length_filter, ← List.length_map (f := nx n)]
  refine nodup_sub (map_nodup (hS.1.filter _) (fun a ha b hb e => nx_inj (hS.2 a (List.mem_filter.1 ha).1) (hS.2 b (List.mem_filter.1 hb).1) e)) (fun c hc => ?_)
  obtain ⟨b, hb, rfl⟩ := List.mem_map.1 hc
  obtain ⟨h1, h2⟩ := List.mem_filter.1 hb
  exact List.mem_filter.2 ⟨List.mem_range.2 (nx_lt (by omega)), h2⟩
/-- all cars go on -/
theorem flo_all {n : Nat} {S : List Nat} (hn : 2 ≤ n) (hS : Cars n S) (h : ∀ c, c ∈ S → nx n c ∉ S) : flo n S = S.length := by
  unfold flo
  rw [List.countP_eq_length]
  intro c hc
  exact decide_eq_true_iff.2 (h c hc)
/-- all free places are taken -/
theorem flo_full {n : Nat} {S : List Nat} (hn : 2 ≤ n) (hS : Cars n S) (h : ∀ p, p < n → nx n p ∉ S → p ∈ S) : flo n S = n - S.length := by
  apply Nat.le_antisymm (flo_free hn hS)
  unfold flo
  have e : (List.filter (fun c => decide (nx n c ∉ S)) S).length = ((List.filter (fun c => decide (nx n c ∉ S)) S).map (nx n)).length := by simp
  rw [← free_count hS, List.countP_eq_length_filter, e]
  refine nodup_sub (List.nodup_range.filter _) (fun c hc => ?_)
  obtain ⟨h1, h2⟩ := List.mem_filter.1 hc
  obtain ⟨p, hp, rfl⟩ := nx_onto hn (List.mem_range.1 h1)
  exact List.mem_map.2 ⟨p, List.mem_filter.2 ⟨h p hp (decide_eq_true_iff.1 h2), h2⟩, rfl⟩
/-- a place, as one far enough behind -/
theorem far_place {n c t : Nat} (hn : 2 ≤ n) (hc : c < n) : ∃ y, (y + t + 1) % n = c := by
  refine ⟨c + n * (t + 1) - (t + 1), ?_⟩
  have h : t + 1 ≤ n * (t + 1) := Nat.le_mul_of_pos_left _ (by omega)
  rw [show c + n * (t + 1) - (t + 1) + t + 1 = c + n * (t + 1) by omega, Nat.add_mul_mod_self_left, Nat.mod_eq_of_lt hc]
theorem calm {n : Nat} {S : List Nat} (hn : 2 ≤ n) (hS : Cars n S) {t : Nat} (ht : n / 2 ≤ t + 1) : flo n (stpN n S t) = min S.length (n - S.length) := by
  have hT := stpN_cars hn hS t
  have hl := stpN_len n S t
  have hln := hS.len
  by_cases hK : 2 * S.length ≤ n
  · rw [flo_all hn hT, hl]
    · omega
    · intro c hc hnx
      obtain ⟨y, hy⟩ := far_place (t := t) hn (hT.2 c hc)
      have := few_apart hn hS hK ht y
      have e1 : carA n (stpN n S t) (y + t + 1) = 1 := if_pos (by rw [hy]; exact hc)
      have e2 : carA n (stpN n S t) (y + t + 2) = 1 := if_pos (by rw [show y + t + 2 = (y + t + 1) + 1 by omega, ← nx_at hn, hy]; exact hnx)
      omega
  · rw [flo_full hn hT, hl]
    · omega
    · intro p hp hnx
      obtain ⟨y, hy⟩ := far_place (t := t) hn hp
      have := many_apart hn hS (by omega) ht y
      have e2 : carA n (stpN n S t) (y + t + 2) = 0 := if_neg (by rw [show y + t + 2 = (y + t + 1) + 1 by omega, ← nx_at hn, hy]; exact hnx)
      by_cases h : p ∈ stpN n S t
      · exact h
      · have e1 : carA n (stpN n S t) (y + t + 1) = 0 := if_neg (by rw [hy]; exact h)
        omega
end Go.Proofs.Ythbmiigndhoopaa
