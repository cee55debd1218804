/-
  What is proved: plain facts on runs that explorers take. Conditions: those of each fact.
-/
import Derived.Test.YtgchodielkodeaaExf
import Derived.Test.YtgchodielkodeaaExa
namespace Go.Proofs.Ytgchodielkodeaa
open Go.RowKit
set_option linter.unusedVariables false
set_option linter.unusedSimpArgs false

/-- the greatest number of places, of at most so many, with at most this time -/
def tkN (T : Nat → Int) (b : Int) : Nat → Nat
  | 0 => 0
  | l + 1 => if T (l + 1) ≤ b then l + 1 else tkN T b l
theorem tkN_le (T : Nat → Int) (b : Int) : ∀ l, tkN T b l ≤ l
  | 0 => Nat.le_refl _
  | l + 1 => by
    unfold tkN
    split
    · exact Nat.le_refl _
    · exact Nat.le_succ_of_le (tkN_le T b l)
theorem tkN_up {T : Nat → Int} {b : Int} (hT : ∀ m, T m ≤ T (m + 1)) : ∀ {l n : Nat}, n ≤ l → (∀ j, 1 ≤ j → j ≤ n → T j ≤ b) → (n = l ∨ b < T (n + 1)) → tkN T b l = n
  | 0, n, h, _, _ => by
    show 0 = n
    omega
  | l + 1, n, h, h1, h2 => by
    have mono : ∀ i k, T i ≤ T (i + k) := by
      intro i k
      induction k with
      | zero => exact Int.le_refl _
      | succ k ih => exact Int.le_trans ih (hT (i + k))
    unfold tkN
    by_cases he : n = l + 1
    · rw [if_pos (by rw [← he]; exact h1 n (by omega) (Nat.le_refl _)), he]
    · have hlt : b < T (n + 1) := by rcases h2 with h2 | h2; exact absurd h2 he; exact h2
      have h3 : ¬ T (l + 1) ≤ b := by
        have := mono (n + 1) (l - n)
        rw [show n + 1 + (l - n) = l + 1 by omega] at this
        omega
      rw [if_neg h3]
      exact tkN_up hT (by omega) h1 (.inr hlt)
theorem goT_pos {back : Bool} {l r : Int} (hl : 0 ≤ l) (hr : 0 ≤ r) : 0 ≤ goT back l r := by
  unfold goT
  cases back
  · simp only [Bool.false_eq_true, if_false]; omega
  · simp only [if_true]; omega
theorem endT_pos {back : Bool} {n : Int} (hn : 2 ≤ n) : 0 ≤ endT back n := by
  unfold endT
  cases back
  · simp only [Bool.false_eq_true, if_false]; omega
  · simp only [if_true]; omega
theorem runT_mono {n a x : Int} {g back : Bool} (hn : 2 ≤ n) (ha : 0 ≤ a ∧ a < n) (hx : 0 ≤ x ∧ x < n) (m : Nat) : runT n g a x m back ≤ runT n g a x (m + 1 : Nat) back := by
  have hd := rise_range ha hx
  unfold runT
  rw [if_neg (show ¬ ((m + 1 : Nat) : Int) = 0 by omega)]
  by_cases h0 : m = 0
  · subst h0
    rw [if_pos (show ((0 : Nat) : Int) = 0 from rfl)]
    cases g
    · simp only [Bool.false_eq_true, if_false]
      exact goT_pos (by omega) (by omega)
    · simp only [if_true]
      unfold ringT
      have h1 := goT_pos (back := back) (l := max 0 (-riseI n true a x)) (r := max 0 (riseI n true a x + ((0 + 1 : Nat) : Int) - 1)) (by omega) (by omega)
      have h2 := goT_pos (back := back) (l := -(riseI n true a x - n)) (r := max 0 (riseI n true a x - n + ((0 + 1 : Nat) : Int) - 1)) (by omega) (by omega)
      have h3 := endT_pos (back := back) hn
      omega
  · rw [if_neg (show ¬ (m : Int) = 0 by omega)]
    cases g
    · simp only [Bool.false_eq_true, if_false]
      exact goT_mono (Int.le_refl _) (by push_cast; omega)
    · simp only [if_true]
      unfold ringT
      have h1 := goT_mono (back := back) (Int.le_refl (max 0 (-riseI n true a x))) (show max 0 (riseI n true a x + (m : Int) - 1) ≤ max 0 (riseI n true a x + ((m + 1 : Nat) : Int) - 1) by push_cast; omega)
      have h2 := goT_mono (back := back) (Int.le_refl (-(riseI n true a x - n))) (show max 0 (riseI n true a x - n + (m : Int) - 1) ≤ max 0 (riseI n true a x - n + ((m + 1 : Nat) : Int) - 1) by push_cast; omega)
      omega
theorem runT_range {n a x : Int} {g back : Bool} (hn : 2 ≤ n ∧ n ≤ 24) (ha : 0 ≤ a ∧ a < n) (hx : 0 ≤ x ∧ x < n) (m : Int) (hm : 0 ≤ m ∧ m ≤ n) : 0 ≤ runT n g a x m back ∧ runT n g a x m back ≤ 200 := by
  have hd := rise_range ha hx
  unfold runT
  by_cases h0 : m = 0
  · rw [if_pos h0]; omega
  · rw [if_neg h0]
    cases g
    · simp only [Bool.false_eq_true, if_false]
      refine ⟨goT_pos (by omega) (by omega), ?_⟩
      unfold lineT goT
      cases back
      · simp only [Bool.false_eq_true, if_false]; omega
      · simp only [if_true]; omega
    · simp only [if_true]
      unfold ringT
      have h1 := goT_pos (back := back) (l := max 0 (-riseI n true a x)) (r := max 0 (riseI n true a x + m - 1)) (by omega) (by omega)
      have h2 := goT_pos (back := back) (l := -(riseI n true a x - n)) (r := max 0 (riseI n true a x - n + m - 1)) (by omega) (by omega)
      have h3 := endT_pos (back := back) hn.1
      have h4 : endT back n ≤ 24 := by
        unfold endT
        cases back
        · simp only [Bool.false_eq_true, if_false]; omega
        · simp only [if_true]; omega
      omega
/-- budgets for explorers on a valid road -/
def budB (n : Int) (g : Bool) (ss bs : List Int) : Bool := (startsB n g ss && withB 4 0 99 bs) && decide (bs.length = ss.length)
theorem budB_iff (n : Int) (g : Bool) (ss bs : List Int) : budB n g ss bs = true ↔ startsB n g ss = true ∧ withB 4 0 99 bs = true ∧ bs.length = ss.length := by
  unfold budB
  rw [Bool.and_eq_true, Bool.and_eq_true, decide_eq_true_iff, and_assoc]
theorem budB_no {n : Int} {g : Bool} {ss bs : List Int} (h : ¬ (startsB n g ss = true ∧ withB 4 0 99 bs = true ∧ bs.length = ss.length)) : budB n g ss bs = false := by
  cases hb : budB n g ss bs
  · rfl
  · exact absurd ((budB_iff n g ss bs).1 hb) h
/-- a list has each number below k once -/
def ordB (os : List Int) (k : Nat) : Bool := (List.range k).all (fun (i : Nat) => os.contains (i : Int)) && decide (os.length = k)
theorem ordB_iff (os : List Int) (k : Nat) : ordB os k = true ↔ (∀ i : Nat, i < k → (i : Int) ∈ os) ∧ os.length = k := by
  unfold ordB
  rw [Bool.and_eq_true, List.all_eq_true, decide_eq_true_iff]
  constructor
  · rintro ⟨h1, h2⟩
    exact ⟨fun i hi => by simpa using h1 i (List.mem_range.2 hi), h2⟩
  · rintro ⟨h1, h2⟩
    exact ⟨fun i hi => by simpa using h1 i (List.mem_range.1 hi), h2⟩
theorem ordB_no {os : List Int} {k : Nat} (h : ¬ ((∀ i : Nat, i < k → (i : Int) ∈ os) ∧ os.length = k)) : ordB os k = false := by
  cases hb : ordB os k
  · rfl
  · exact absurd ((ordB_iff os k).1 hb) h
/-- an order names explorers alone -/
theorem ord_in {os : List Int} {k : Nat} (h : ordB os k = true) : ∀ (j : Nat) y, os[j]? = some y → 0 ≤ y ∧ y < (k : Int) := by
  intro j y hj
  obtain ⟨h1, h2⟩ := (ordB_iff os k).1 h
  have hm := List.mem_of_getElem? hj
  refine Classical.byContradiction fun hn => ?_
  have hne : ∀ i : Nat, i < k → (i : Int) ≠ y := fun i hi e => hn (by omega)
  have hnd : ((List.range k).map (fun (i : Nat) => (i : Int))).Nodup := by
    rw [List.Nodup, List.pairwise_map]
    exact List.nodup_range.imp (fun hab e => hab (by omega))
  have hsub : ((List.range k).map (fun (i : Nat) => (i : Int))) ⊆ os.erase y := by
    intro z hz
    obtain ⟨i, hi, rfl⟩ := List.mem_map.1 hz
    have hik := List.mem_range.1 hi
    exact (List.mem_erase_of_ne (hne i hik)).2 (h1 i hik)
  have hle := List.Nodup.length_le_of_subset hnd hsub
  rw [List.length_map, List.length_range, List.length_erase_of_mem hm] at hle
  have := List.length_pos_of_mem hm
  omega
/-- what explorers have taken behind k of an order: the places in all, and the number of each -/
def tkS (n : Int) (g : Bool) (ss bs : List Int) (x : Int) (os : List Int) (back : Bool) : Nat → Nat × List Int
  | 0 => (0, List.replicate ss.length 0)
  | k + 1 =>
    ((tkS n g ss bs x os back k).1 + tkN (fun m => runT n g (ss.getD (os.getD k 0).toNat 0) ((x + (tkS n g ss bs x os back k).1) % n) m back) (bs.getD (os.getD k 0).toNat 0) (n.toNat - (tkS n g ss bs x os back k).1),
     (tkS n g ss bs x os back k).2.set (os.getD k 0).toNat (tkN (fun m => runT n g (ss.getD (os.getD k 0).toNat 0) ((x + (tkS n g ss bs x os back k).1) % n) m back) (bs.getD (os.getD k 0).toNat 0) (n.toNat - (tkS n g ss bs x os back k).1)))
theorem tkS_next {n : Int} {g : Bool} {ss bs os : List Int} {x : Int} {back : Bool} {k i d : Nat} {zs : List Int} {a b : Int} (hS : tkS n g ss bs x os back k = (d, zs)) (ho : os[k]? = some (i : Int)) (ha : ss[i]? = some a) (hb : bs[i]? = some b) :
    tkS n g ss bs x os back (k + 1) = (d + tkN (fun m => runT n g a ((x + d) % n) m back) b (n.toNat - d), zs.set i (tkN (fun m => runT n g a ((x + d) % n) m back) b (n.toNat - d))) := by
  have e1 : (os.getD k 0).toNat = i := by simp [List.getD, ho]
  have e2 : ss.getD i 0 = a := by simp [List.getD, ha]
  have e3 : bs.getD i 0 = b := by simp [List.getD, hb]
  show ((tkS n g ss bs x os back k).1 + _, _) = _
  rw [hS]
  simp only [e1, e2, e3]
theorem tkS_range (n : Int) (g : Bool) (ss bs : List Int) (x : Int) (os : List Int) (back : Bool) : ∀ k, (tkS n g ss bs x os back k).1 ≤ n.toNat ∧ (tkS n g ss bs x os back k).2.length = ss.length
  | 0 => ⟨Nat.zero_le _, by simp [tkS]⟩
  | k + 1 => by
    have h := tkS_range n g ss bs x os back k
    have h2 := tkN_le (fun m => runT n g (ss.getD (os.getD k 0).toNat 0) ((x + (tkS n g ss bs x os back k).1) % n) m back) (bs.getD (os.getD k 0).toNat 0) (n.toNat - (tkS n g ss bs x os back k).1)
    refine ⟨?_, ?_⟩
    · show (tkS n g ss bs x os back k).1 + _ ≤ _
      omega
    · show ((tkS n g ss bs x os back k).2.set _ _).length = _
      rw [List.length_set]
      exact h.2
/-- the run behind some that are taken fits the road -/
theorem run_fits {n : Int} {g : Bool} {x : Int} {d m : Nat} (hr : roadB n g = true) (hx : 0 ≤ x ∧ x < n) (hg : g = true ∨ x = 0) (hd : d < n.toNat) (hm : m ≤ n.toNat - d) : fitsB n g ((x + d) % n) m = true := by
  have hn := ((roadB_iff n g).1 hr).1
  refine (fitsB_iff n g _ _).2 ⟨(placeB_iff n g _).2 ⟨hr, Int.emod_nonneg _ (by omega), Int.emod_lt_of_pos _ (by omega)⟩, by omega, by omega, ?_⟩
  rcases hg with hg | hg
  · exact .inl hg
  · subst hg
    right
    rw [Int.zero_add, Int.emod_eq_of_lt (by omega) (by omega)]
    omega
/-- what TakenRuns answers -/
def takenB (n : Int) (g : Bool) (ss bs : List Int) (x : Int) (os : List Int) : Bool := (budB n g ss bs && decide ((0 ≤ x ∧ x < n) ∧ (g = true ∨ x = 0))) && ordB os ss.length
theorem takenB_iff (n : Int) (g : Bool) (ss bs : List Int) (x : Int) (os : List Int) : takenB n g ss bs x os = true ↔ budB n g ss bs = true ∧ ((0 ≤ x ∧ x < n) ∧ (g = true ∨ x = 0)) ∧ ordB os ss.length = true := by
  unfold takenB
  rw [Bool.and_eq_true, Bool.and_eq_true, decide_eq_true_iff, and_assoc]
def takenR (n : Int) (g : Bool) (ss bs : List Int) (x : Int) (os : List Int) (back : Bool) : List Int × Bool := if takenB n g ss bs x os then ((tkS n g ss bs x os back os.length).2, true) else ([], false)
theorem takenR_no {n : Int} {g : Bool} {ss bs os : List Int} {x : Int} {back : Bool} (h : ¬ (budB n g ss bs = true ∧ ((0 ≤ x ∧ x < n) ∧ (g = true ∨ x = 0)) ∧ ordB os ss.length = true)) : takenR n g ss bs x os back = ([], false) := by
  unfold takenR
  rw [if_neg (fun h2 => h ((takenB_iff n g ss bs x os).1 h2))]
theorem takenR_yes {n : Int} {g : Bool} {ss bs os : List Int} {x : Int} {back : Bool} (h : budB n g ss bs = true ∧ ((0 ≤ x ∧ x < n) ∧ (g = true ∨ x = 0)) ∧ ordB os ss.length = true) : takenR n g ss bs x os back = ((tkS n g ss bs x os back os.length).2, true) := by
  unfold takenR
  rw [if_pos ((takenB_iff n g ss bs x os).2 h)]
theorem takenR_len (n : Int) (g : Bool) (ss bs : List Int) (x : Int) (os : List Int) (back : Bool) : (takenR n g ss bs x os back).1.length ≤ 1048576 := by
  cases h : takenB n g ss bs x os
  · unfold takenR
    rw [h]
    simp
  · have h1 := ((takenB_iff n g ss bs x os).1 h).1
    have h2 := (startsB_iff n g ss).1 ((budB_iff n g ss bs).1 h1).1
    unfold takenR
    rw [h]
    show (tkS n g ss bs x os back os.length).2.length ≤ 1048576
    rw [(tkS_range n g ss bs x os back os.length).2]
    omega
end Go.Proofs.Ytgchodielkodeaa
