/-
  What is proved: plain facts on mirrored, opposite and shifted walks. Conditions: those of each statement.
-/
import Derived.Test.YtiokgnabiidlbaaFn3
import Derived.Test.YtiokgnabiidlbaaFn4
import Derived.Test.YtiokgnabiidlbaaFn7
import Derived.Test.YtiokgnabiidlbaaFn8
import Derived.Test.YtiokgnabiidlbaaFn14
namespace Go.Proofs.Ytiokgnabiidlbaa
open Go.RowKit
set_option linter.unusedVariables false
set_option linter.unusedSimpArgs false

theorem get_map {f : Int → Int} {xs : List Int} {k : Nat} {y : Int} (h : (xs.map f)[k]? = some y) : ∃ x, xs[k]? = some x ∧ f x = y := by
  rw [List.getElem?_map] at h
  cases hx : xs[k]? with
  | none => rw [hx] at h; cases h
  | some x => rw [hx] at h; cases h; exact ⟨x, rfl, rfl⟩
theorem walk_mirror {n : Int} {g : Bool} {xs : List Int} (h : Walk n g xs) : Walk n g (xs.map fun p => n - 1 - p) := by
  refine ⟨h.1, by simpa using h.2.1, by simpa using h.2.2.1, fun k p hk => ?_, fun k a b ha hb => ?_⟩
  · obtain ⟨x, hx, rfl⟩ := get_map hk
    have := h.2.2.2.1 k x hx
    omega
  · obtain ⟨x, hx, rfl⟩ := get_map ha
    obtain ⟨y, hy, rfl⟩ := get_map hb
    have := h.2.2.2.2 k x y hx hy
    have e : gapI n g (n - 1 - x) (n - 1 - y) = gapI n g x y := by unfold gapI; split <;> omega
    rw [e]
    exact this
theorem walk_back {n : Int} {g : Bool} {xs : List Int} (h : Walk n g xs) : Walk n g xs.reverse := by
  refine ⟨h.1, by simpa using h.2.1, by simpa using h.2.2.1, fun k p hk => ?_, fun k a b ha hb => ?_⟩
  · have hl := (List.getElem?_eq_some_iff.1 hk).1
    rw [List.length_reverse] at hl
    rw [List.getElem?_reverse hl] at hk
    exact h.2.2.2.1 _ p hk
  · have hl := (List.getElem?_eq_some_iff.1 hb).1
    rw [List.length_reverse] at hl
    rw [List.getElem?_reverse (by omega)] at ha
    rw [List.getElem?_reverse hl] at hb
    rw [show xs.length - 1 - k = (xs.length - 1 - (k + 1)) + 1 by omega] at ha
    have := h.2.2.2.2 _ b a hb ha
    have e : gapI n g a b = gapI n g b a := by unfold gapI; split <;> omega
    rw [e]
    exact this
theorem mod_two {x n : Int} (h0 : 0 ≤ x) (h1 : x < 2 * n) : x % n = if x < n then x else x - n := by
  by_cases h : x < n
  · rw [if_pos h]
    exact Int.emod_eq_of_lt h0 h
  · rw [if_neg h, show x = (x - n) + n by omega, Int.add_emod_right, show x - n + n - n = x - n by omega]
    exact Int.emod_eq_of_lt (by omega) (by omega)
theorem gap_shift {n d x y : Int} (hd : 0 ≤ d ∧ d < n) (hx : 0 ≤ x ∧ x < n) (hy : 0 ≤ y ∧ y < n) : gapI n true ((x + d) % n) ((y + d) % n) = gapI n true x y := by
  rw [mod_two (by omega) (by omega), mod_two (by omega) (by omega)]
  unfold gapI
  simp only [if_true]
  split <;> split <;> omega
theorem walk_shift {n d : Int} {xs : List Int} (h : Walk n true xs) (hd : 0 ≤ d ∧ d < n) : Walk n true (xs.map fun p => (p + d) % n) := by
  refine ⟨h.1, by simpa using h.2.1, by simpa using h.2.2.1, fun k p hk => ?_, fun k a b ha hb => ?_⟩
  · obtain ⟨x, hx, rfl⟩ := get_map hk
    exact ⟨Int.emod_nonneg _ (by omega), Int.emod_lt_of_pos _ (by omega)⟩
  · obtain ⟨x, hx, rfl⟩ := get_map ha
    obtain ⟨y, hy, rfl⟩ := get_map hb
    have := h.2.2.2.2 k x y hx hy
    rw [gap_shift hd (h.2.2.2.1 k x hx) (h.2.2.2.1 (k + 1) y hy)]
    exact this
theorem step_mod {n x : Int} (hn : 2 ≤ n) (hx : 0 ≤ x ∧ x < n) : stepI n true x 1 = if x + 1 < n then x + 1 else x + 1 - n := by
  unfold stepI
  simp only [if_true]
  rw [Int.add_emod_right, mod_two (by omega) (by omega)]
theorem way_shift {n d x y : Int} (hn : 2 ≤ n) (hd : 0 ≤ d ∧ d < n) (hx : 0 ≤ x ∧ x < n) (hy : 0 ≤ y ∧ y < n) : wayI n true ((x + d) % n) ((y + d) % n) = wayI n true x y := by
  have h1 : 0 ≤ (x + d) % n ∧ (x + d) % n < n := ⟨Int.emod_nonneg _ (by omega), Int.emod_lt_of_pos _ (by omega)⟩
  unfold wayI
  rw [step_mod hn h1, step_mod hn hx, mod_two (x := x + d) (by omega) (by omega), mod_two (x := y + d) (by omega) (by omega)]
  have e1 : ((if y + d < n then y + d else y + d - n) = (if x + d < n then x + d else x + d - n)) ↔ y = x := by
    split <;> split <;> omega
  have e2 : ((if (if x + d < n then x + d else x + d - n) + 1 < n then (if x + d < n then x + d else x + d - n) + 1 else (if x + d < n then x + d else x + d - n) + 1 - n) = (if y + d < n then y + d else y + d - n)) ↔ ((if x + 1 < n then x + 1 else x + 1 - n) = y) := by
    by_cases c1 : x + d < n <;> by_cases c2 : y + d < n <;> by_cases c3 : x + 1 < n
    all_goals
      simp only [c1, c2, c3, if_true, if_false]
      split <;> omega
  simp only [e1, e2]
theorem turns_shift {n d : Int} {xs : List Int} (hn : 2 ≤ n) (hd : 0 ≤ d ∧ d < n) (hin : Inside n xs) : ∀ k, k < xs.length → cameTo n true (xs.map fun p => (p + d) % n) k = cameTo n true xs k ∧ turnsTo n true (xs.map fun p => (p + d) % n) k = turnsTo n true xs k
  | 0, _ => ⟨rfl, rfl⟩
  | k + 1, hk => by
    obtain ⟨h1, h2⟩ := turns_shift hn hd hin k (by omega)
    obtain ⟨x, hx⟩ := get_some (xs := xs) (k := k) (by omega)
    obtain ⟨y, hy⟩ := get_some (xs := xs) (k := k + 1) (by omega)
    have hx2 : (xs.map fun p => (p + d) % n)[k]? = some ((x + d) % n) := by rw [List.getElem?_map, hx]; rfl
    have hy2 : (xs.map fun p => (p + d) % n)[k + 1]? = some ((y + d) % n) := by rw [List.getElem?_map, hy]; rfl
    have hw := way_shift hn hd (hin k x hx) (hin (k + 1) y hy)
    rw [came_next hx2 hy2 hw, came_next hx hy rfl, turns_next hx2 hy2 hw, turns_next hx hy rfl, h1, h2]
    exact ⟨rfl, rfl⟩
/-- the sum of the first k values -/
def sumTo (f : Nat → Nat) : Nat → Nat
  | 0 => 0
  | k + 1 => sumTo f k + f k
theorem sumTo_front (f : Nat → Nat) : ∀ k, sumTo f (k + 1) = f 0 + sumTo (fun i => f (i + 1)) k
  | 0 => by simp [sumTo]
  | k + 1 => by
    rw [sumTo, sumTo_front f k]
    simp only [sumTo]
    omega
theorem sumTo_congr {f h : Nat → Nat} : ∀ k, (∀ i, i < k → f i = h i) → sumTo f k = sumTo h k
  | 0, _ => rfl
  | k + 1, hh => by
    simp only [sumTo]
    rw [sumTo_congr k (fun i hi => hh i (by omega)), hh k (by omega)]
theorem sumTo_rev (f : Nat → Nat) : ∀ k, sumTo (fun i => f (k - 1 - i)) k = sumTo f k
  | 0 => rfl
  | k + 1 => by
    rw [sumTo_front]
    simp only [Nat.add_sub_cancel, Nat.sub_zero]
    have h := sumTo_rev f k
    rw [show (fun i => f (k - (i + 1))) = fun i => f (k - 1 - i) from funext fun i => by rw [show k - (i + 1) = k - 1 - i by omega], h]
    simp only [sumTo]
    omega
theorem steps_sum (xs : List Int) : ∀ k, stepsTo xs k = sumTo (fun i => if xs[i + 1]? = xs[i]? then 0 else 1) k
  | 0 => rfl
  | k + 1 => by
    simp only [stepsTo, sumTo, steps_sum xs k]
theorem steps_back (xs : List Int) : stepsTo xs.reverse (xs.length - 1) = stepsTo xs (xs.length - 1) := by
  rw [steps_sum, steps_sum, ← sumTo_rev (fun i => if xs[i + 1]? = xs[i]? then 0 else 1) (xs.length - 1)]
  refine sumTo_congr _ fun i hi => ?_
  rw [List.getElem?_reverse (by omega), List.getElem?_reverse (by omega)]
  rw [show xs.length - 1 - (i + 1) = xs.length - 1 - 1 - i by omega, show xs.length - 1 - i = xs.length - 1 - 1 - i + 1 by omega]
  by_cases h : xs[xs.length - 1 - 1 - i]? = xs[xs.length - 1 - 1 - i + 1]?
  · rw [if_pos h, if_pos h.symm]
  · rw [if_neg h, if_neg (fun e => h e.symm)]
theorem first_map {f : Int → Int} (hf : ∀ x y, f x = f y → x = y) (p : Int) : ∀ (xs : List Int) (k : Nat), firstFrom (f p) (xs.map f) k = firstFrom p xs k
  | [], _ => rfl
  | x :: xs, k => by
    simp only [List.map_cons, firstFrom]
    rw [first_map hf p xs (k + 1)]
    by_cases h : x = p
    · rw [if_pos h, if_pos (by rw [h])]
    · rw [if_neg h, if_neg (fun e => h (hf _ _ e))]
/-- all answers on one walk -/
theorem walks_all (n : Int) (g : Bool) (xs : List Int) (hl : xs.length ≤ 62) : ∃ (ok : Bool) (fs ts ms bs os : List Int) (st : Nat), walkD n g xs = ok ∧ visitsR n g xs = (fs, ok) ∧ stepsR n g xs = ((st : Int), ok) ∧ turnsR n g xs = (ts, ok) ∧ mirrorR n g xs = (ms, ok) ∧ backR n g xs = (bs, ok) ∧
    fs.length ≤ 1000 ∧ ts.length ≤ 1000 ∧ ms.length ≤ 1000 ∧ bs.length ≤ 1000 ∧ os.length ≤ 1000 ∧ (roadB n g && ok) = ok ∧ (ok = true → roadB n g = true ∧ walkD n g ms = true ∧ walkD n g bs = true ∧ stepsR n g bs = ((st : Int), true) ∧ visitsR n g ms = (os, true) ∧ (os.length : Int) = n ∧
      ∀ k : Nat, (k : Int) < n → ∃ y, fs[k]? = some y ∧ os[(n - 1 - k).toNat]? = some y) := by
  cases hw : walkD n g xs
  · exact ⟨false, [], [], [], [], [], 0, rfl, by unfold visitsR; rw [hw]; rfl, by unfold stepsR; rw [hw]; rfl, by unfold turnsR; rw [hw]; rfl, by unfold mirrorR; rw [hw]; rfl, by unfold backR; rw [hw]; rfl, by simp, by simp, by simp, by simp, by simp, by simp, fun h => by cases h⟩
  · have hW := (walkD_iff n g xs).1 hw
    have hr := hW.1
    obtain ⟨h2, h24, _⟩ := (roadB_iff n g).1 hr
    have hm := (walkD_iff n g _).2 (walk_mirror hW)
    have hb := (walkD_iff n g _).2 (walk_back hW)
    refine ⟨true, firsts n xs, turnsTo n g xs (xs.length - 1), xs.map (fun p => n - 1 - p), xs.reverse, firsts n (xs.map fun p => n - 1 - p), stepsTo xs (xs.length - 1), rfl, by unfold visitsR; rw [if_pos hw], by unfold stepsR; rw [if_pos hw], by unfold turnsR; rw [if_pos hw], by unfold mirrorR; rw [if_pos hw], by unfold backR; rw [if_pos hw], by rw [firsts_len]; omega, ?_, by simp; omega, by simp; omega, by rw [firsts_len]; omega, by rw [hr]; rfl, fun _ => ⟨hr, hm, hb, ?_, ?_, ?_, fun k hk => ?_⟩⟩
    · have := turns_len n g xs (xs.length - 1)
      omega
    · unfold stepsR
      rw [if_pos hb, List.length_reverse, steps_back]
    · unfold visitsR
      rw [if_pos hm]
    · rw [firsts_len]; omega
    · refine ⟨firstI xs k, firsts_at n xs k (by omega), ?_⟩
      rw [firsts_at n _ _ (by omega), show (((n - 1 - (k : Int)).toNat : Nat) : Int) = n - 1 - k by omega]
      congr 1
      exact first_map (f := fun p => n - 1 - p) (fun x y e => by omega) k xs 0
theorem maxTo_ge (xs : List Int) (k : Nat) : ∀ m, k < m → ∀ y, xs[k]? = some y → y ≤ maxTo 0 xs m
  | 0, h, _, _ => by omega
  | m + 1, h, y, hy => by
    show y ≤ max (maxTo 0 xs m) (xs.getD m 0)
    by_cases hk : k = m
    · subst hk
      simp [List.getD, hy]
      omega
    · have := maxTo_ge xs k m (by omega) y hy
      omega
theorem cover_all (n : Int) (g : Bool) (xs : List Int) : ∃ (ok : Bool) (c : Int) (fs : List Int), coverR n g xs = (c, ok) ∧ fs.length ≤ 1000 ∧ (ok = true → 0 ≤ n ∧ visitsR n g xs = (fs, true) ∧ (fs.length : Int) = n ∧ ∀ k : Nat, (k : Int) < n → ∃ y, fs[k]? = some y ∧ 0 ≤ y ∧ y ≤ c) := by
  by_cases h : walkD n g xs = true ∧ (-1 : Int) ∉ firsts n xs
  · have hW := (walkD_iff n g xs).1 h.1
    obtain ⟨h2, h24, _⟩ := (roadB_iff n g).1 hW.1
    refine ⟨true, maxTo 0 (firsts n xs) n.toNat, firsts n xs, by unfold coverR; rw [if_pos h], by rw [firsts_len]; omega, fun _ => ⟨by omega, by unfold visitsR; rw [if_pos h.1], by rw [firsts_len]; omega, fun k hk => ?_⟩⟩
    have hat := firsts_at n xs k (by omega)
    refine ⟨_, hat, ?_, maxTo_ge _ k _ (by omega) _ hat⟩
    have h3 := (firstI_range xs k).1
    have h4 : firstI xs k ≠ -1 := fun e => h.2 (e ▸ List.mem_of_getElem? hat)
    omega
  · exact ⟨false, 0, [], by unfold coverR; rw [if_neg h], by simp, fun h => by cases h⟩
theorem shift_all (n : Int) (g : Bool) (xs : List Int) (d : Int) (hl : xs.length ≤ 62) : ∃ (ok : Bool) (ss ts : List Int), shiftR n g xs d = (ss, ok) ∧ ss.length ≤ 1000 ∧ ts.length ≤ 1000 ∧ (ok = true → turnsR n g xs = (ts, true) ∧ turnsR n g ss = (ts, true)) := by
  by_cases h : walkD n g xs = true ∧ g = true ∧ 0 ≤ d ∧ d < n
  · obtain ⟨hw, rfl, hd⟩ := h
    have hW := (walkD_iff n true xs).1 hw
    obtain ⟨h2, h24, _⟩ := (roadB_iff n true).1 hW.1
    have hS := (walkD_iff n true _).2 (walk_shift hW hd)
    have hl1 := hW.2.1
    refine ⟨true, xs.map (fun p => (p + d) % n), turnsTo n true xs (xs.length - 1), by unfold shiftR; rw [if_pos ⟨hw, rfl, hd⟩], by simp; omega, ?_, fun _ => ⟨by unfold turnsR; rw [if_pos hw], ?_⟩⟩
    · have := turns_len n true xs (xs.length - 1)
      omega
    · unfold turnsR
      rw [if_pos hS, List.length_map, (turns_shift h2 hd hW.2.2.2.1 (xs.length - 1) (by omega)).2]
  · exact ⟨false, [], [], by unfold shiftR; rw [if_neg h], by simp, by simp, fun h => by cases h⟩
end Go.Proofs.Ytiokgnabiidlbaa
