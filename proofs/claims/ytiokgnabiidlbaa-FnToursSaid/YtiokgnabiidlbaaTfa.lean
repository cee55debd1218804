/-
  What is proved: plain facts on sweeps, tours, joined and waiting walks. Conditions: those of each statement.
-/
import Derived.Test.YtiokgnabiidlbaaFn3
import Derived.Test.YtiokgnabiidlbaaFn7
import Derived.Test.YtiokgnabiidlbaaFn16
import Derived.Test.YtiokgnabiidlbaaFn23
import Derived.Test.YtiokgnabiidlbaaFn24
namespace Go.Proofs.Ytiokgnabiidlbaa
open Go.RowKit
set_option linter.unusedVariables false
set_option linter.unusedSimpArgs false

theorem join_at {xs ys : List Int} (hx : 1 ≤ xs.length) (he : xs[xs.length - 1]? = ys[0]?) (j : Nat) : (xs ++ ys.drop 1)[xs.length - 1 + j]? = ys[j]? := by
  cases j with
  | zero => rw [Nat.add_zero, List.getElem?_append_left (by omega), he]
  | succ j =>
    rw [List.getElem?_append_right (by omega), List.getElem?_drop]
    congr 1
    omega
theorem steps_left {xs ys : List Int} : ∀ k, k < xs.length → stepsTo (xs ++ ys) k = stepsTo xs k
  | 0, _ => rfl
  | k + 1, hk => by
    simp only [stepsTo]
    rw [steps_left k (by omega), List.getElem?_append_left (by omega), List.getElem?_append_left (by omega)]
theorem steps_join {xs ys : List Int} (hx : 1 ≤ xs.length) (he : xs[xs.length - 1]? = ys[0]?) : ∀ j, stepsTo (xs ++ ys.drop 1) (xs.length - 1 + j) = stepsTo xs (xs.length - 1) + stepsTo ys j
  | 0 => by rw [Nat.add_zero, steps_left _ (by omega)]; rfl
  | j + 1 => by
    have h1 := join_at hx he j
    have h2 := join_at hx he (j + 1)
    rw [← Nat.add_assoc] at h2 ⊢
    simp only [stepsTo]
    rw [steps_join hx he j, h1, h2]
    omega
theorem steps_slow {xs zs : List Int} {φ : Nat → Nat} (h0 : φ 0 = 0) (hat : ∀ k, zs[k]? = xs[φ k]?) (hs : ∀ k, φ (k + 1) = φ k ∨ φ (k + 1) = φ k + 1) : ∀ k, stepsTo zs k = stepsTo xs (φ k)
  | 0 => by rw [h0]; rfl
  | k + 1 => by
    simp only [stepsTo]
    rw [steps_slow h0 hat hs k, hat k, hat (k + 1)]
    rcases hs k with h | h
    · rw [h, if_pos rfl]; omega
    · rw [h]; rfl
theorem steps_wait {xs : List Int} {t m : Nat} {p : Int} (hp : xs[t]? = some p) : stepsTo (waitL xs t m p) ((waitL xs t m p).length - 1) = stepsTo xs (xs.length - 1) := by
  obtain ⟨ht, _⟩ := List.getElem?_eq_some_iff.1 hp
  have hl := waitL_len (xs := xs) (t := t) (m := m) (p := p) (by omega)
  rw [steps_slow (xs := xs) (φ := fun k => if k ≤ t then k else if k ≤ t + m then t else k - m) (by simp) ?_ ?_, hl]
  · congr 1
    show (if xs.length + m - 1 ≤ t then xs.length + m - 1 else if xs.length + m - 1 ≤ t + m then t else xs.length + m - 1 - m) = xs.length - 1
    split
    · omega
    · split <;> omega
  · intro k
    rw [waitL_at (by omega)]
    show _ = xs[if k ≤ t then k else if k ≤ t + m then t else k - m]?
    by_cases h1 : k < t
    · rw [if_pos h1, if_pos (by omega)]
    · rw [if_neg h1]
      by_cases h2 : k < t + m
      · rw [if_pos h2]
        by_cases h3 : k ≤ t
        · rw [if_pos h3, show k = t by omega, hp]
        · rw [if_neg h3, if_pos (by omega), hp]
      · rw [if_neg h2]
        by_cases h3 : k ≤ t
        · rw [if_pos h3]
          congr 1
          omega
        · rw [if_neg h3]
          by_cases h4 : k ≤ t + m
          · rw [if_pos h4]
            congr 1
            omega
          · rw [if_neg h4]
  · intro k
    show (if k + 1 ≤ t then k + 1 else if k + 1 ≤ t + m then t else k + 1 - m) = (if k ≤ t then k else if k ≤ t + m then t else k - m) ∨ (if k + 1 ≤ t then k + 1 else if k + 1 ≤ t + m then t else k + 1 - m) = (if k ≤ t then k else if k ≤ t + m then t else k - m) + 1
    by_cases c1 : k + 1 ≤ t
    · rw [if_pos c1, if_pos (by omega)]; omega
    · rw [if_neg c1]
      by_cases c2 : k ≤ t
      · rw [if_pos c2]
        split <;> omega
      · rw [if_neg c2]
        by_cases c3 : k ≤ t + m
        · rw [if_pos c3]
          split <;> omega
        · rw [if_neg c3, if_neg (by omega)]
          omega
/-- what JoinWalks answers, and the steps -/
theorem join_all (n : Int) (g : Bool) (xs ys : List Int) (hl1 : xs.length ≤ 62) (hl2 : ys.length ≤ 62) : ∃ (zs : List Int) (ok : Bool) (a b : Nat), joinR n g xs ys = (zs, ok) ∧ zs.length ≤ 200 ∧ a ≤ 100 ∧ b ≤ 100 ∧ (ok = true → stepsR n g xs = ((a : Int), true) ∧ stepsR n g ys = ((b : Int), true) ∧ stepsR n g zs = (((a + b : Nat) : Int), true) ∧ (zs.length : Int) = xs.length + ys.length - 1) := by
  by_cases h : Walk n g xs ∧ Walk n g ys ∧ xs[xs.length - 1]? = ys[0]? ∧ xs.length + ys.length - 1 ≤ 61
  · obtain ⟨hx, hy, he, hl⟩ := h
    have hz := (join_walk hx hy he).2 hl
    have hx1 := hx.2.1
    have hy1 := hy.2.1
    have hzl : (xs ++ ys.drop 1).length = xs.length - 1 + (ys.length - 1) + 1 := by rw [List.length_append, List.length_drop]; omega
    refine ⟨xs ++ ys.drop 1, true, stepsTo xs (xs.length - 1), stepsTo ys (ys.length - 1), joinR_yes ⟨hx, hy, he, hl⟩, by omega, by have := stepsTo_le xs (xs.length - 1); omega, by have := stepsTo_le ys (ys.length - 1); omega, fun _ => ⟨?_, ?_, ?_, by omega⟩⟩
    · unfold stepsR; rw [if_pos ((walkD_iff n g xs).2 hx)]
    · unfold stepsR; rw [if_pos ((walkD_iff n g ys).2 hy)]
    · unfold stepsR
      rw [if_pos ((walkD_iff n g _).2 hz), hzl, Nat.add_sub_cancel, steps_join hx1 he]
  · exact ⟨[], false, 0, 0, joinR_no h, by simp, by omega, by omega, fun h => by cases h⟩
/-- what WaitWalk answers, and the steps -/
theorem wait_all (n : Int) (g : Bool) (xs : List Int) (t m : Int) (hl1 : xs.length ≤ 62) : ∃ (zs : List Int) (ok : Bool) (a : Nat), waitR n g xs t m = (zs, ok) ∧ zs.length ≤ 200 ∧ a ≤ 100 ∧ (ok = true → (0 ≤ m ∧ m ≤ 61) ∧ stepsR n g xs = ((a : Int), true) ∧ stepsR n g zs = ((a : Int), true) ∧ (zs.length : Int) = xs.length + m) := by
  by_cases h : Walk n g xs ∧ 0 ≤ t ∧ t < xs.length ∧ 0 ≤ m ∧ xs.length + m ≤ 61
  · obtain ⟨hx, h1, h2, h3, h4⟩ := h
    obtain ⟨t, rfl⟩ := Int.eq_ofNat_of_zero_le h1
    obtain ⟨m, rfl⟩ := Int.eq_ofNat_of_zero_le h3
    obtain ⟨p, hp⟩ := get_some (xs := xs) (k := t) (by omega)
    have hz := (wait_walk hx hp).2 (show xs.length + m ≤ 61 by omega)
    have hzl := waitL_len (xs := xs) (t := t) (m := m) (p := p) (by omega)
    refine ⟨waitL xs t m p, true, stepsTo xs (xs.length - 1), waitR_yes hx hp (by omega), by omega, by have := stepsTo_le xs (xs.length - 1); omega, fun _ => ⟨by omega, ?_, ?_, by omega⟩⟩
    · unfold stepsR; rw [if_pos ((walkD_iff n g xs).2 hx)]
    · unfold stepsR
      rw [if_pos ((walkD_iff n g _).2 hz), steps_wait hp]
  · exact ⟨[], false, 0, waitR_no h, by simp, by omega, fun h => by cases h⟩
theorem topTo_ge {f : Int → Int} {ps : List Int} {j : Nat} {p : Int} (hj : ps[j]? = some p) : ∀ k, j < k → f p ≤ topF f ps k
  | 0, h => by omega
  | k + 1, h => by
    show f p ≤ max (topF f ps k) (f (ps.getD k 0))
    by_cases e : j = k
    · subst e
      simp [List.getD, hj]
      omega
    · have := topTo_ge (f := f) hj k (by omega)
      omega
theorem topTo_pos (f : Int → Int) (ps : List Int) : ∀ k, 0 ≤ topF f ps k
  | 0 => Int.le_refl _
  | k + 1 => by
    have := topTo_pos f ps k
    show 0 ≤ max (topF f ps k) (f (ps.getD k 0))
    omega
theorem topTo_top {f : Int → Int} {ps : List Int} {b : Int} (hb : 0 ≤ b) (h : ∀ (k : Nat) p, ps[k]? = some p → f p ≤ b) : topF f ps ps.length ≤ b := (topF_range hb h ps.length (Nat.le_refl _)).2
theorem topTo_in {f : Int → Int} {ps : List Int} {j : Nat} {p : Int} (hj : ps[j]? = some p) : f p ≤ topF f ps ps.length := topTo_ge hj ps.length (List.getElem?_eq_some_iff.1 hj).1
theorem topTo_tail (f : Int → Int) (ps : List Int) : topF f (ps.drop 1) (ps.drop 1).length ≤ topF f ps ps.length :=
  topTo_top (topTo_pos f ps _) fun k p hk => by
    rw [List.getElem?_drop] at hk
    exact topTo_in hk
theorem tourI_mono {l r l2 r2 : Int} (h1 : l ≤ l2) (h2 : r ≤ r2) : tourI l r ≤ tourI l2 r2 := by
  unfold tourI
  omega
theorem bestTo_mono {z n a : Int} {ps qs : List Int} (h : ∀ up, beyond n a ps up ps.length ≤ beyond n a qs up qs.length) : ∀ k, bestTo z n a ps k ≤ bestTo z n a qs k
  | 0 => Int.le_refl _
  | k + 1 => by
    have h1 := bestTo_mono (z := z) h k
    have h2 := tourI_mono (h k) (Int.le_refl (k : Int))
    show min (bestTo z n a ps k) _ ≤ min (bestTo z n a qs k) _
    omega
theorem bestTo_low {z n a b : Int} {ps : List Int} (hz : b ≤ z) (h : ∀ k : Nat, b ≤ tourI (beyond n a ps k ps.length) k) : ∀ k, b ≤ bestTo z n a ps k
  | 0 => hz
  | k + 1 => by
    have h1 := bestTo_low hz h k
    have h2 := h k
    show b ≤ min (bestTo z n a ps k) _
    omega
theorem bestTo_le {z n a : Int} {ps : List Int} : ∀ k, bestTo z n a ps k ≤ z
  | 0 => Int.le_refl _
  | k + 1 => by
    have h1 := bestTo_le (z := z) (n := n) (a := a) (ps := ps) k
    show min (bestTo z n a ps k) _ ≤ z
    omega
theorem beyond_in {n a up : Int} {ps : List Int} {j : Nat} {p : Int} (hj : ps[j]? = some p) : farF n a up p ≤ beyond n a ps up ps.length := topTo_in hj
theorem beyond_pos (n a up : Int) (ps : List Int) : 0 ≤ beyond n a ps up ps.length := topTo_pos _ _ _
/-- what TourTime answers, and of fewer places -/
theorem tour_all (n : Int) (g : Bool) (a : Int) (ps : List Int) : ∃ (t : Int) (ok : Bool), tourR n g a ps = (t, ok) ∧ (ok = true → roadB n g = true ∧ (0 ≤ a ∧ a < n) ∧ Inside n ps ∧ (0 ≤ t ∧ t ≤ 100) ∧ (∀ (j : Nat) p, ps[j]? = some p → gapI n g a p ≤ t) ∧ (ps = [] → t = 0) ∧ ∃ t2, tourR n g a (ps.drop 1) = (t2, true) ∧ t2 ≤ t) := by
  by_cases h : tourOk n g a ps
  · have h' := h
    obtain ⟨hr, ha, hin⟩ := h'
    obtain ⟨hn2, hn24, _⟩ := (roadB_iff n g).1 hr
    have hd : tourOk n g a (ps.drop 1) := ⟨hr, ha, fun k x hk => by
      rw [List.getElem?_drop] at hk
      exact hin _ x hk⟩
    cases g
    · have hl := line_range ha hin ps.length (Nat.le_refl _)
      refine ⟨_, true, tourR_line h, fun _ => ⟨hr, ha, hin, ?_, fun j p hj => ?_, fun e => ?_, _, tourR_line hd, tourI_mono (topTo_tail _ _) (topTo_tail _ _)⟩⟩
      · unfold tourI
        omega
      · have h1 := topTo_in (f := fun p => a - p) hj
        have h2 := topTo_in (f := fun p => p - a) hj
        try simp only at h1 h2
        unfold gapI tourI
        simp only [Bool.false_eq_true, if_false]
        omega
      · subst e
        rfl
    · have hl := best_range (z := n - 1) (by omega) ha hin n.toNat
      refine ⟨_, true, tourR_ring h, fun _ => ⟨hr, ha, hin, by omega, fun j p hj => ?_, fun e => ?_, _, tourR_ring hd, bestTo_mono (fun up => topTo_tail _ _) _⟩⟩
      · have hp := hin j p hj
        refine bestTo_low ?_ (fun k => ?_) _
        · unfold gapI
          simp only [if_true]
          omega
        · have h1 := beyond_in (n := n) (a := a) (up := (k : Int)) hj
          have h2 := beyond_pos n a k ps
          unfold farF at h1
          simp only [riseI, if_true] at h1
          rw [rise_val n a p ha hp, rise_val n p a hp ha] at h1
          unfold gapI tourI
          simp only [if_true]
          generalize beyond n a ps k ps.length = q at *
          by_cases c : a ≤ p
          · rw [if_pos c] at h1
            by_cases c2 : p ≤ a
            · omega
            · rw [if_neg c2] at h1
              split at h1 <;> omega
          · rw [if_neg c, if_pos (show p ≤ a by omega)] at h1
            split at h1 <;> omega
      · subst e
        have h1 := bestTo_low (z := n - 1) (n := n) (a := a) (b := 0) (ps := []) (by omega) (fun k => by have := beyond_pos n a k []; unfold tourI; omega) n.toNat
        obtain ⟨M, hM⟩ : ∃ M, n.toNat = M + 1 := ⟨n.toNat - 1, by omega⟩
        have h2 : ∀ k, bestTo (n - 1) n a [] (k + 1) ≤ 0 := by
          intro k
          induction k with
          | zero =>
            show min (n - 1) (tourI 0 ((0 : Nat) : Int)) ≤ 0
            unfold tourI
            simp
            omega
          | succ k ih =>
            show min (bestTo (n - 1) n a [] (k + 1)) _ ≤ 0
            omega
        have h3 := h2 M
        rw [hM] at h1 ⊢
        omega
  · exact ⟨0, false, tourR_no h, fun h => by cases h⟩
theorem firstFrom_lt (p : Int) : ∀ (xs : List Int) (k : Nat), firstFrom p xs k < k + xs.length
  | [], k => by simp [firstFrom]; omega
  | x :: xs, k => by
    have := firstFrom_lt p xs (k + 1)
    unfold firstFrom
    rw [List.length_cons]
    split
    · omega
    · push_cast at *; omega
theorem firstFrom_ge (p : Int) : ∀ (xs : List Int) (k m : Nat), (∀ j, j < m → xs[j]? ≠ some p) → p ∈ xs → (k : Int) + m ≤ firstFrom p xs k
  | [], k, m, _, h => by cases h
  | x :: xs, k, 0, _, h => by
    unfold firstFrom
    split
    · omega
    · rename_i hne
      have h2 : p ∈ xs := by
        rcases List.mem_cons.1 h with e | e
        · exact absurd e.symm hne
        · exact e
      have := firstFrom_ge p xs (k + 1) 0 (fun j hj => by omega) h2
      push_cast at *
      omega
  | x :: xs, k, m + 1, hm, h => by
    have hne : x ≠ p := fun e => hm 0 (by omega) (by simp [e])
    have h2 : p ∈ xs := by
      rcases List.mem_cons.1 h with e | e
      · exact absurd e.symm hne
      · exact e
    have := firstFrom_ge p xs (k + 1) m (fun j hj => by have := hm (j + 1) (by omega); simpa using this) h2
    unfold firstFrom
    rw [if_neg hne]
    push_cast at *
    omega
theorem maxTo_at (xs : List Int) (k : Nat) : ∀ m, k < m → ∀ y, xs[k]? = some y → y ≤ maxTo 0 xs m
  | 0, h, _, _ => by omega
  | m + 1, h, y, hy => by
    show y ≤ max (maxTo 0 xs m) (xs.getD m 0)
    by_cases hk : k = m
    · subst hk
      simp [List.getD, hy]
      omega
    · have := maxTo_at xs k m (by omega) y hy
      omega
theorem cover_last {n : Int} {g : Bool} {xs : List Int} {z : Int} (hw : Walk n g xs) (hall : ∀ p, 0 ≤ p → p < n → p ∈ xs) (hz0 : 0 ≤ z ∧ z < n) (hfirst : ∀ k, k < xs.length - 1 → xs[k]? ≠ some z) : coverR n g xs = (((xs.length - 1 : Nat) : Int), true) := by
  have h1 := hw.2.1
  have hne : (-1 : Int) ∉ firsts n xs := no_neg fun j hj => by
    have h2 := (firstI_range xs j).1
    have h3 : firstI xs j ≠ -1 := fun e => (firstI_neg xs j).1 e (hall j (by omega) (by omega))
    omega
  unfold coverR
  rw [if_pos ⟨(walkD_iff n g xs).2 hw, hne⟩]
  have hlow : ((xs.length - 1 : Nat) : Int) ≤ maxTo 0 (firsts n xs) n.toNat := by
    have hat := firsts_at n xs z.toNat (by omega)
    have h2 := firstFrom_ge z xs 0 (xs.length - 1) hfirst (hall z hz0.1 hz0.2)
    have h3 := maxTo_at _ _ n.toNat (by omega) _ hat
    rw [Int.toNat_of_nonneg hz0.1] at h3
    unfold firstI at h3
    push_cast at *
    omega
  have hup : maxTo 0 (firsts n xs) n.toNat ≤ ((xs.length - 1 : Nat) : Int) := maxTo_le _ _ (by omega) (fun x hx => by
    unfold firsts at hx
    obtain ⟨p, _, rfl⟩ := List.mem_map.1 hx
    have := firstFrom_lt p xs 0
    unfold firstI
    push_cast at *
    omega) _
  rw [show maxTo 0 (firsts n xs) n.toNat = ((xs.length - 1 : Nat) : Int) by omega]
theorem upTo_get (n : Int) (p : Int) (h : 0 ≤ p ∧ p < n) : (upTo n)[p.toNat]? = some p := by
  rw [upTo_at n p.toNat (by omega), Int.toNat_of_nonneg h.1]
theorem upTo_in {n p : Int} {k : Nat} (h : (upTo n)[k]? = some p) : 0 ≤ p ∧ p < n := by
  have hk := (List.getElem?_eq_some_iff.1 h).1
  rw [upTo_len] at hk
  rw [upTo_at n k hk] at h
  cases h
  omega
theorem tour_line_all {n a : Int} (hr : roadB n false = true) (ha : 0 ≤ a ∧ a < n) : tourR n false a (upTo n) = (tourI a (n - 1 - a), true) := by
  rw [tourR_line ⟨hr, ha, fun k x hk => upTo_in hk⟩]
  have h1 : topF (fun p => a - p) (upTo n) (upTo n).length = a := by
    have h2 := topTo_top (f := fun p => a - p) (ps := upTo n) ha.1 (fun k p hk => by have := upTo_in hk; show a - p ≤ a; omega)
    have h3 := topTo_in (f := fun p => a - p) (upTo_get n 0 (by omega))
    try simp only at h3
    omega
  have h4 : topF (fun p => p - a) (upTo n) (upTo n).length = n - 1 - a := by
    have h2 := topTo_top (f := fun p => p - a) (ps := upTo n) (b := n - 1 - a) (by omega) (fun k p hk => by have := upTo_in hk; show p - a ≤ n - 1 - a; omega)
    have h3 := topTo_in (f := fun p => p - a) (upTo_get n (n - 1) (by omega))
    try simp only at h3
    omega
  rw [h1, h4]
theorem tour_ring_all {n a : Int} (hr : roadB n true = true) (ha : 0 ≤ a ∧ a < n) : tourR n true a (upTo n) = (n - 1, true) := by
  rw [tourR_ring ⟨hr, ha, fun k x hk => upTo_in hk⟩]
  have h1 := bestTo_le (z := n - 1) (n := n) (a := a) (ps := upTo n) n.toNat
  have h2 := bestTo_low (z := n - 1) (n := n) (a := a) (b := n - 1) (ps := upTo n) (Int.le_refl _) (fun k => by
    have h3 := beyond_pos n a k (upTo n)
    by_cases hk : n - 1 ≤ k
    · unfold tourI; omega
    · have hp : 0 ≤ (if a + k + 1 < n then a + k + 1 else a + k + 1 - n) ∧ (if a + k + 1 < n then a + k + 1 else a + k + 1 - n) < n := by split <;> omega
      have h4 := beyond_in (n := n) (a := a) (up := (k : Int)) (upTo_get n _ hp)
      unfold farF at h4
      simp only [riseI, if_true] at h4
      rw [rise_val n a _ ha hp, rise_val n _ a hp ha] at h4
      generalize beyond n a (upTo n) k (upTo n).length = q at *
      unfold tourI
      by_cases c : a + k + 1 < n
      · simp only [c, if_true] at h4
        rw [if_pos (show a ≤ a + (k : Int) + 1 by omega), if_neg (show ¬ a + (k : Int) + 1 ≤ a by omega), if_pos (by omega)] at h4
        omega
      · simp only [c, if_false] at h4
        rw [if_neg (show ¬ a ≤ a + (k : Int) + 1 - n by omega), if_pos (show a + (k : Int) + 1 - n ≤ a by omega), if_pos (by omega)] at h4
        omega) n.toNat
  rw [show bestTo (n - 1) n a (upTo n) n.toNat = n - 1 by omega]
/-- a sweep visits all places, the last one last -/
theorem sweep_facts {n : Int} {g : Bool} {a : Int} (hr : roadB n g = true) (ha : 0 ≤ a ∧ a < n) : Walk n g (sweepL n g a) ∧ (∀ p, 0 ≤ p → p < n → p ∈ sweepL n g a) ∧ (∃ z, (0 ≤ z ∧ z < n) ∧ ∀ k, k < (sweepL n g a).length - 1 → (sweepL n g a)[k]? ≠ some z) ∧ tourR n g a (upTo n) = ((((sweepL n g a).length - 1 : Nat) : Int), true) ∧ 1 ≤ (sweepL n g a).length ∧ (sweepL n g a).length ≤ 62 := by
  obtain ⟨h2, h24, h3⟩ := (roadB_iff n g).1 hr
  unfold sweepL
  cases g
  · simp only [Bool.false_eq_true, if_false]
    by_cases hle : a ≤ n - 1 - a
    · rw [if_pos hle]
      have hx : Walk n false (wlk (posC n false a (-1)) a.toNat) := wlk_walk hr (by omega) (fun k _ => posC_range h2) (fun k hk => Or.inr (by rw [posLd ha, posLd ha]; unfold beforeI; rw [if_neg (by simp)]; push_cast; omega))
      have hy : Walk n false (wlk (posC n false 0 1) (n - 1).toNat) := wlk_walk hr (by omega) (fun k _ => posC_range h2) (fun k hk => Or.inl (by rw [posLu (by omega), posLu (by omega)]; unfold afterI; rw [if_neg (by simp)]; push_cast; omega))
      have lx : (wlk (posC n false a (-1)) a.toNat).length = a.toNat + 1 := wlk_len _ _
      have ly : (wlk (posC n false 0 1) (n - 1).toNat).length = (n - 1).toNat + 1 := wlk_len _ _
      have he : (wlk (posC n false a (-1)) a.toNat)[(wlk (posC n false a (-1)) a.toNat).length - 1]? = (wlk (posC n false 0 1) (n - 1).toNat)[0]? := by
        rw [lx, Nat.add_sub_cancel, wlk_at _ _ _ (Nat.le_refl _), wlk_at _ _ _ (Nat.zero_le _), posLd ha, posLu (by omega)]
        congr 1
        omega
      have hyat : ∀ j : Nat, (j : Int) ≤ n - 1 → (wlk (posC n false 0 1) (n - 1).toNat)[j]? = some (j : Int) := fun j hj => by
        rw [wlk_at _ _ _ (by omega), posLu (by omega)]
        congr 1
        omega
      have hjat := join_at (by omega) he
      have hlen : (wlk (posC n false a (-1)) a.toNat ++ (wlk (posC n false 0 1) (n - 1).toNat).drop 1).length = a.toNat + 1 + (n - 1).toNat := by rw [List.length_append, List.length_drop, lx, ly]; omega
      refine ⟨(join_walk hx hy he).2 (by omega), fun p hp0 hp1 => ?_, ⟨n - 1, by omega, fun k hk => ?_⟩, ?_, by omega, by omega⟩
      · have := hjat p.toNat
        rw [hyat p.toNat (by omega), Int.toNat_of_nonneg hp0] at this
        exact List.mem_of_getElem? this
      · rw [hlen] at hk
        by_cases hk2 : k < a.toNat + 1
        · rw [List.getElem?_append_left (by omega), wlk_at _ _ _ (by omega), posLd ha]
          intro e
          have := Option.some.inj e
          omega
        · have := hjat (k - a.toNat)
          rw [lx, show a.toNat + 1 - 1 + (k - a.toNat) = k by omega, hyat _ (by omega)] at this
          rw [this]
          intro e
          have := Option.some.inj e
          omega
      · rw [tour_line_all hr ha, hlen]
        unfold tourI
        congr 1
        omega
    · rw [if_neg hle]
      have hx : Walk n false (wlk (posC n false a 1) (n - 1 - a).toNat) := wlk_walk hr (by omega) (fun k _ => posC_range h2) (fun k hk => Or.inl (by rw [posLu ha, posLu ha]; unfold afterI; rw [if_neg (by simp)]; push_cast; omega))
      have hy : Walk n false (wlk (posC n false (n - 1) (-1)) (n - 1).toNat) := wlk_walk hr (by omega) (fun k _ => posC_range h2) (fun k hk => Or.inr (by rw [posLd (by omega), posLd (by omega)]; unfold beforeI; rw [if_neg (by simp)]; push_cast; omega))
      have lx : (wlk (posC n false a 1) (n - 1 - a).toNat).length = (n - 1 - a).toNat + 1 := wlk_len _ _
      have ly : (wlk (posC n false (n - 1) (-1)) (n - 1).toNat).length = (n - 1).toNat + 1 := wlk_len _ _
      have he : (wlk (posC n false a 1) (n - 1 - a).toNat)[(wlk (posC n false a 1) (n - 1 - a).toNat).length - 1]? = (wlk (posC n false (n - 1) (-1)) (n - 1).toNat)[0]? := by
        rw [lx, Nat.add_sub_cancel, wlk_at _ _ _ (Nat.le_refl _), wlk_at _ _ _ (Nat.zero_le _), posLu ha, posLd (by omega)]
        congr 1
        omega
      have hyat : ∀ j : Nat, (j : Int) ≤ n - 1 → (wlk (posC n false (n - 1) (-1)) (n - 1).toNat)[j]? = some (n - 1 - j) := fun j hj => by
        rw [wlk_at _ _ _ (by omega), posLd (by omega)]
        congr 1
        omega
      have hjat := join_at (by omega) he
      have hlen : (wlk (posC n false a 1) (n - 1 - a).toNat ++ (wlk (posC n false (n - 1) (-1)) (n - 1).toNat).drop 1).length = (n - 1 - a).toNat + 1 + (n - 1).toNat := by rw [List.length_append, List.length_drop, lx, ly]; omega
      refine ⟨(join_walk hx hy he).2 (by omega), fun p hp0 hp1 => ?_, ⟨0, by omega, fun k hk => ?_⟩, ?_, by omega, by omega⟩
      · have := hjat (n - 1 - p).toNat
        rw [hyat _ (by omega), show n - 1 - (((n - 1 - p).toNat : Nat) : Int) = p by omega] at this
        exact List.mem_of_getElem? this
      · rw [hlen] at hk
        by_cases hk2 : k < (n - 1 - a).toNat + 1
        · rw [List.getElem?_append_left (by omega), wlk_at _ _ _ (by omega), posLu ha]
          intro e
          have := Option.some.inj e
          omega
        · have := hjat (k - (n - 1 - a).toNat)
          rw [lx, show (n - 1 - a).toNat + 1 - 1 + (k - (n - 1 - a).toNat) = k by omega, hyat _ (by omega)] at this
          rw [this]
          intro e
          have := Option.some.inj e
          omega
      · rw [tour_line_all hr ha, hlen]
        unfold tourI
        congr 1
        omega
  · have h4 := h3 rfl
    simp only [if_true]
    have lx : (wlk (posC n true a 1) (n - 1).toNat).length = (n - 1).toNat + 1 := wlk_len _ _
    have hat : ∀ k : Nat, (k : Int) ≤ n - 1 → (wlk (posC n true a 1) (n - 1).toNat)[k]? = some (if a + k < n then a + k else a + k - n) := fun k hk => by
      rw [wlk_at _ _ _ (by omega), posUp ha (by omega)]
    refine ⟨wlk_walk hr (by omega) (fun k _ => posC_range h2) (fun k hk => Or.inl ?_), fun p hp0 hp1 => ?_, ⟨if a + (n - 1) < n then a + (n - 1) else a + (n - 1) - n, by split <;> omega, fun k hk => ?_⟩, ?_, by omega, by omega⟩
    · rw [posUp ha (by omega), posUp ha (by omega)]
      unfold afterI
      push_cast
      simp only [true_and]
      split <;> split <;> split <;> omega
    · by_cases c : a ≤ p
      · have := hat (p - a).toNat (by omega)
        rw [if_pos (by omega), show a + (((p - a).toNat : Nat) : Int) = p by omega] at this
        exact List.mem_of_getElem? this
      · have := hat (p - a + n).toNat (by omega)
        rw [if_neg (by omega), show a + (((p - a + n).toNat : Nat) : Int) - n = p by omega] at this
        exact List.mem_of_getElem? this
    · rw [lx] at hk
      rw [hat k (by omega)]
      intro e
      have e2 := Option.some.inj e
      split at e2 <;> split at e2 <;> omega
    · rw [tour_ring_all hr ha, lx]
      congr 1
      omega
/-- what SweepWalk answers, its cover, and the tour of all places -/
theorem sweep_all (n : Int) (g : Bool) (a : Int) : ∃ (zs : List Int) (ok : Bool) (c : Nat), sweepR n g a = (zs, ok) ∧ zs.length ≤ 200 ∧ c ≤ 100 ∧ (ok = true → (0 ≤ n ∧ n ≤ 24) ∧ coverR n g zs = ((c : Int), true) ∧ tourR n g a (upTo n) = ((c : Int), true) ∧ zs.length = c + 1) := by
  cases h : placeB n g a
  · exact ⟨[], false, 0, sweepR_no h, by simp, by omega, fun h => by cases h⟩
  · obtain ⟨hr, ha⟩ := (placeB_iff n g a).1 h
    obtain ⟨hn2, hn24, _⟩ := (roadB_iff n g).1 hr
    obtain ⟨hw, hall, ⟨z, hz, hf⟩, ht, hl1, hl2⟩ := sweep_facts hr ha
    exact ⟨sweepL n g a, true, (sweepL n g a).length - 1, sweepR_yes h, by omega, by omega, fun _ => ⟨by omega, cover_last hw hall hz hf, ht, by omega⟩⟩
end Go.Proofs.Ytiokgnabiidlbaa
