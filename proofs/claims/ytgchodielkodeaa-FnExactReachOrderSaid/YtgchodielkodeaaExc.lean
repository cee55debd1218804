/-
  What is proved: plain facts on runs: the least time to visit a run, as the model and as the program tell it, is the same. Conditions: a valid road, a place of it and a run that it has.
-/
import Derived.Test.YtgchodielkodeaaFn16
import Derived.Test.YtgchodielkodeaaFn6
namespace Go.Proofs.Ytgchodielkodeaa
open Go.RowKit
set_option linter.unusedVariables false
set_option linter.unusedSimpArgs false

/-- the places of a run -/
def runF (n x : Int) (i : Int) : Int := (x + i) % n
def runL (n x m : Int) : List Int := (upTo m).map (runF n x)
theorem runL_len (n x m : Int) : (runL n x m).length = m.toNat := by simp [runL, upTo_len]
theorem runL_at (n x m : Int) (k : Nat) (h : k < m.toNat) : (runL n x m)[k]? = some (runF n x k) := by simp [runL, upTo_at m k h]
theorem runL_get {n x m : Int} {k : Nat} {p : Int} (h : (runL n x m)[k]? = some p) : k < m.toNat ∧ p = runF n x k := by
  have hk := (List.getElem?_eq_some_iff.1 h).1
  rw [runL_len] at hk
  rw [runL_at n x m k hk] at h
  cases h
  exact ⟨hk, rfl⟩
theorem runF_val {n x i : Int} (hx : 0 ≤ x ∧ x < n) (hi : 0 ≤ i ∧ i ≤ n) : runF n x i = if x + i < n then x + i else x + i - n := by
  unfold runF
  split
  · exact Int.emod_eq_of_lt (by omega) (by omega)
  · have h := Int.add_emod_right (x + i - n) n
    rw [show x + i - n + n = x + i by omega] at h
    rw [h]
    exact Int.emod_eq_of_lt (by omega) (by omega)
theorem runL_inside {n x m : Int} (hn : 2 ≤ n) : Inside n (runL n x m) := by
  intro k p hp
  rw [(runL_get hp).2]
  exact ⟨Int.emod_nonneg _ (by omega), Int.emod_lt_of_pos _ (by omega)⟩
/-- a road has a run -/
def fitsB (n : Int) (g : Bool) (x m : Int) : Bool := placeB n g x && decide (0 ≤ m ∧ m ≤ n ∧ (g = true ∨ x + m ≤ n))
theorem fitsB_iff (n : Int) (g : Bool) (x m : Int) : fitsB n g x m = true ↔ placeB n g x = true ∧ 0 ≤ m ∧ m ≤ n ∧ (g = true ∨ x + m ≤ n) := by
  unfold fitsB
  rw [Bool.and_eq_true, decide_eq_true_iff]
theorem fitsB_no {n : Int} {g : Bool} {x m : Int} (h : ¬ (placeB n g x = true ∧ 0 ≤ m ∧ m ≤ n ∧ (g = true ∨ x + m ≤ n))) : fitsB n g x m = false := by
  cases hb : fitsB n g x m
  · rfl
  · exact absurd ((fitsB_iff n g x m).1 hb) h
theorem topF_le {f : Int → Int} {ps : List Int} {b : Int} : ∀ {k : Nat}, k ≤ ps.length → (topF f ps k ≤ b ↔ 0 ≤ b ∧ ∀ (j : Nat) p, j < k → ps[j]? = some p → f p ≤ b)
  | 0, _ => by
    constructor
    · intro h
      exact ⟨h, fun j p hj => by omega⟩
    · intro h
      exact h.1
  | k + 1, hk => by
    obtain ⟨p, hp⟩ := get_some (xs := ps) (k := k) (by omega)
    have ih := topF_le (f := f) (ps := ps) (b := b) (k := k) (by omega)
    rw [topF_next hp]
    constructor
    · intro h
      obtain ⟨h1, h2⟩ := ih.1 (by omega)
      refine ⟨h1, fun j q hj hq => ?_⟩
      by_cases e : j = k
      · subst e
        rw [hp] at hq
        cases hq
        omega
      · exact h2 j q (by omega) hq
    · intro h
      have h1 := ih.2 ⟨h.1, fun j q hj hq => h.2 j q (by omega) hq⟩
      have h2 := h.2 k p (by omega) hp
      omega
theorem topF_ge {f : Int → Int} {ps : List Int} {j : Nat} {p : Int} (h : ps[j]? = some p) : f p ≤ topF f ps ps.length :=
  ((topF_le (Nat.le_refl _)).1 (Int.le_refl _)).2 j p (List.getElem?_eq_some_iff.1 h).1 h
theorem topF_nonneg {f : Int → Int} {ps : List Int} : 0 ≤ topF f ps ps.length :=
  ((topF_le (Nat.le_refl _)).1 (Int.le_refl _)).1
/-- the least time to go that far to both sides, and back at the end if asked -/
def goT (back : Bool) (l r : Int) : Int := if back then 2 * (l + r) else l + r + min l r
def endT (back : Bool) (n : Int) : Int := if back then n else n - 1
def bstT (back : Bool) (z n a : Int) (ps : List Int) : Nat → Int
  | 0 => z
  | k + 1 => min (bstT back z n a ps k) (goT back (beyond n a ps k ps.length) k)
theorem bstT_tour (z n a : Int) (ps : List Int) : ∀ k, bestTo z n a ps k = bstT false z n a ps k
  | 0 => rfl
  | k + 1 => by
    show min (bestTo z n a ps k) _ = min (bstT false z n a ps k) _
    rw [bstT_tour z n a ps k]
    rfl
theorem bstT_le {back : Bool} {z n a : Int} {ps : List Int} : ∀ {k j : Nat}, j < k → bstT back z n a ps k ≤ goT back (beyond n a ps j ps.length) j
  | 0, j, h => by omega
  | k + 1, j, h => by
    show min (bstT back z n a ps k) (goT back (beyond n a ps k ps.length) k) ≤ _
    by_cases e : j = k
    · subst e
      exact Int.min_le_right _ _
    · exact Int.le_trans (Int.min_le_left _ _) (bstT_le (by omega))
theorem bstT_top {back : Bool} {z n a : Int} {ps : List Int} : ∀ k, bstT back z n a ps k ≤ z
  | 0 => Int.le_refl _
  | k + 1 => Int.le_trans (Int.min_le_left _ _) (bstT_top k)
theorem le_bstT {back : Bool} {z n a c : Int} {ps : List Int} (hz : c ≤ z) : ∀ {k : Nat}, (∀ j, j < k → c ≤ goT back (beyond n a ps j ps.length) j) → c ≤ bstT back z n a ps k
  | 0, _ => hz
  | k + 1, h => by
    have h1 := le_bstT (back := back) (n := n) (a := a) (ps := ps) hz (k := k) (fun j hj => h j (by omega))
    have h2 := h k (by omega)
    show c ≤ min (bstT back z n a ps k) (goT back (beyond n a ps k ps.length) k)
    omega
theorem goT_mono {back : Bool} {l r l2 r2 : Int} (h1 : l ≤ l2) (h2 : r ≤ r2) : goT back l r ≤ goT back l2 r2 := by
  unfold goT
  cases back
  · simp only [Bool.false_eq_true, if_false]; omega
  · simp only [if_true]; omega
theorem goT_sum {back : Bool} {l r c n : Int} (hl : 0 ≤ l) (hr : 0 ≤ r) (hn : 2 ≤ n) (h : n - 1 ≤ l + r) (hc : c ≤ endT back n) : c ≤ goT back l r := by
  unfold goT
  unfold endT at hc
  cases back
  · simp only [Bool.false_eq_true, if_false] at *; omega
  · simp only [if_true] at *; omega
theorem endT_le {back : Bool} {l r n : Int} (hl : 0 ≤ l) (hr : 0 ≤ r) (h : n ≤ l + r) : endT back n ≤ goT back l r := by
  unfold goT endT
  cases back
  · simp only [Bool.false_eq_true, if_false] at *; omega
  · simp only [if_true] at *; omega
/-- how far up the ring the places of a run lie -/
theorem run_rise {n a x : Int} {i : Nat} (ha : 0 ≤ a ∧ a < n) (hx : 0 ≤ x ∧ x < n) (hi : (i : Int) < n) :
    riseI n true a (runF n x i) = if riseI n true a x + i < n then riseI n true a x + i else riseI n true a x + i - n := by
  have h0 : (0 : Int) < n := by omega
  have hr : 0 ≤ runF n x i ∧ runF n x i < n := ⟨Int.emod_nonneg _ (by omega), Int.emod_lt_of_pos _ h0⟩
  simp only [riseI, if_true]
  rw [rise_val n a _ ha hr, rise_val n a x ha hx, runF_val hx (by omega)]
  split <;> split <;> split <;> split <;> omega
theorem beyond_le {n a : Int} {ps : List Int} {up b : Int} (ha : 0 ≤ a ∧ a < n) (hin : Inside n ps) (hu : 0 ≤ up) (hb : 0 ≤ b) (h : ∀ (j : Nat) p, ps[j]? = some p → up < riseI n true a p → n - riseI n true a p ≤ b) : beyond n a ps up ps.length ≤ b := by
  refine (topF_le (Nat.le_refl _)).2 ⟨hb, fun j p hj hp => ?_⟩
  unfold farF
  by_cases hf : up < riseI n true a p
  · rw [if_pos hf, rise_back ha (hin j p hp) (by omega)]
    exact h j p hp hf
  · rw [if_neg hf]
    exact hb
theorem le_beyond {n a : Int} {ps : List Int} {up : Int} {j : Nat} {p : Int} (ha : 0 ≤ a ∧ a < n) (hin : Inside n ps) (hu : 0 ≤ up) (hp : ps[j]? = some p) (hf : up < riseI n true a p) : n - riseI n true a p ≤ beyond n a ps up ps.length := by
  have h := topF_ge (f := farF n a up) hp
  unfold farF at h
  rw [if_pos hf, rise_back ha (hin j p hp) (by omega)] at h
  exact h
theorem beyond_pos {n a : Int} {ps : List Int} {up : Int} : 0 ≤ beyond n a ps up ps.length := topF_nonneg
/-- the least time to visit a run of m places on a ring, from a -/
def ringT (back : Bool) (n a x m : Int) : Int :=
  min (min (goT back (max 0 (-riseI n true a x)) (max 0 (riseI n true a x + m - 1))) (goT back (-(riseI n true a x - n)) (max 0 (riseI n true a x - n + m - 1)))) (endT back n)
theorem ringT_eq {back : Bool} {n a x m z : Int} (hn : 2 ≤ n) (ha : 0 ≤ a ∧ a < n) (hx : 0 ≤ x ∧ x < n) (hm : 1 ≤ m ∧ m ≤ n) (hz : z = endT back n) : bstT back z n a (runL n x m) n.toNat = ringT back n a x m := by
  have hin := runL_inside (n := n) (x := x) (m := m) hn
  have hd := rise_range ha hx
  have HR : ∀ i : Nat, (i : Int) < n → riseI n true a (runF n x i) = if riseI n true a x + i < n then riseI n true a x + i else riseI n true a x + i - n := fun i hi => run_rise ha hx hi
  have hl := runL_len n x m
  have HG : ∀ (j : Nat) p, (runL n x m)[j]? = some p → (j : Int) < m ∧ p = runF n x j := fun j p hp => ⟨by have := (runL_get hp).1; omega, (runL_get hp).2⟩
  have HA : ∀ j : Nat, (j : Int) < m → (runL n x m)[j]? = some (runF n x j) := fun j hj => runL_at n x m j (by omega)
  unfold ringT
  generalize hde : riseI n true a x = d at *
  have e0 : max 0 (-d) = 0 := by omega
  have e1 : max 0 (d + m - 1) = d + m - 1 := by omega
  rw [e0, e1]
  apply Int.le_antisymm
  · have hW : bstT back z n a (runL n x m) n.toNat ≤ endT back n := hz ▸ bstT_top _
    have h1 : bstT back z n a (runL n x m) n.toNat ≤ goT back 0 (d + m - 1) := by
      by_cases hw : d + m - 1 < n
      · refine Int.le_trans (bstT_le (j := (d + m - 1).toNat) (by omega)) ?_
        refine goT_mono (beyond_le ha hin (by omega) (Int.le_refl _) (fun j p hp hf => ?_)) (by omega)
        obtain ⟨h2, rfl⟩ := HG j p hp
        rw [HR j (by omega)] at hf
        split at hf <;> omega
      · exact Int.le_trans hW (endT_le (Int.le_refl _) (by omega) (by omega))
    have h2 : bstT back z n a (runL n x m) n.toNat ≤ goT back (-(d - n)) (max 0 (d - n + m - 1)) := by
      by_cases hd0 : d = 0
      · exact Int.le_trans hW (endT_le (by omega) (by omega) (by omega))
      · refine Int.le_trans (bstT_le (j := (max 0 (d - n + m - 1)).toNat) (by omega)) ?_
        refine goT_mono (beyond_le ha hin (by omega) (by omega) (fun j p hp hf => ?_)) (by omega)
        obtain ⟨h2, rfl⟩ := HG j p hp
        rw [HR j (by omega)] at hf ⊢
        split at hf <;> omega
    omega
  · refine le_bstT (by rw [hz]; exact Int.min_le_right _ _) (fun j hj => ?_)
    have hb0 := beyond_pos (n := n) (a := a) (ps := runL n x m) (up := (j : Int))
    have hjn : (j : Int) < n := by omega
    by_cases hj1 : (j : Int) = n - 1
    · exact goT_sum hb0 (by omega) hn (by omega) (Int.min_le_right _ _)
    · by_cases hlow : (j : Int) < d
      · have h3 := le_beyond ha hin (up := (j : Int)) (by omega) (HA 0 (by omega)) (by rw [HR 0 (by omega)]; split <;> omega)
        rw [HR 0 (by omega)] at h3
        have h4 : n - d ≤ beyond n a (runL n x m) j (runL n x m).length := by
          split at h3 <;> omega
        by_cases hw : d - n + m - 1 ≤ j
        · exact Int.le_trans (Int.le_trans (Int.min_le_left _ _) (Int.min_le_right _ _)) (goT_mono (by omega) (by omega))
        · have h5 := le_beyond ha hin (up := (j : Int)) (by omega) (HA (j + 1 + n - d).toNat (by omega)) (by rw [HR _ (by omega)]; split <;> omega)
          rw [HR _ (by omega)] at h5
          refine goT_sum hb0 (by omega) hn ?_ (Int.min_le_right _ _)
          split at h5 <;> omega
      · by_cases hup : (j : Int) < d + m - 1
        · have h5 := le_beyond ha hin (up := (j : Int)) (by omega) (HA (j + 1 - d).toNat (by omega)) (by rw [HR _ (by omega)]; split <;> omega)
          rw [HR _ (by omega)] at h5
          refine goT_sum hb0 (by omega) hn ?_ (Int.min_le_right _ _)
          split at h5 <;> omega
        · exact Int.le_trans (Int.le_trans (Int.min_le_left _ _) (Int.min_le_left _ _)) (goT_mono hb0 (by omega))
/-- the least time to visit a run of m places on a line, from a -/
def lineT (back : Bool) (a x m : Int) : Int := goT back (max 0 (-(x - a))) (max 0 (x - a + m - 1))
theorem lineT_eq {back : Bool} {n a x m : Int} (hx : 0 ≤ x ∧ x < n) (hm : 1 ≤ m ∧ x + m ≤ n) : goT back (topF (fun p => a - p) (runL n x m) (runL n x m).length) (topF (fun p => p - a) (runL n x m) (runL n x m).length) = lineT back a x m := by
  have HV : ∀ (j : Nat) p, (runL n x m)[j]? = some p → (j : Int) < m ∧ p = x + j := fun j p hp => by
    have h := runL_get hp
    refine ⟨by omega, ?_⟩
    rw [h.2, runF_val hx (by omega), if_pos (by omega)]
  have HA : ∀ j : Nat, (j : Int) < m → (runL n x m)[j]? = some (x + j) := fun j hj => by
    rw [runL_at n x m j (by omega), runF_val hx (by omega), if_pos (by omega)]
  have e1 : topF (fun p => a - p) (runL n x m) (runL n x m).length = max 0 (-(x - a)) := by
    apply Int.le_antisymm
    · refine (topF_le (Nat.le_refl _)).2 ⟨by omega, fun j p _ hp => ?_⟩
      obtain ⟨h1, rfl⟩ := HV j p hp
      show a - (x + j) ≤ _
      omega
    · have h1 : a - (x + (0 : Nat)) ≤ _ := topF_ge (f := fun p => a - p) (HA 0 (by omega))
      have h2 := topF_nonneg (f := fun p => a - p) (ps := runL n x m)
      omega
  have e2 : topF (fun p => p - a) (runL n x m) (runL n x m).length = max 0 (x - a + m - 1) := by
    apply Int.le_antisymm
    · refine (topF_le (Nat.le_refl _)).2 ⟨by omega, fun j p _ hp => ?_⟩
      obtain ⟨h1, rfl⟩ := HV j p hp
      show x + j - a ≤ _
      omega
    · have h1 : x + ((m - 1).toNat : Int) - a ≤ _ := topF_ge (f := fun p => p - a) (HA (m - 1).toNat (by omega))
      have h2 := topF_nonneg (f := fun p => p - a) (ps := runL n x m)
      omega
  rw [e1, e2]
  rfl
/-- what the model's l6Back answers -/
def bckT (n : Int) (g : Bool) (a : Int) (ps : List Int) : Int := if g then bstT true n n a ps n.toNat else 2 * (topF (fun p => a - p) ps ps.length + topF (fun p => p - a) ps ps.length)
/-- the least time to visit a run, as the program tells it -/
def runT (n : Int) (g : Bool) (a x m : Int) (back : Bool) : Int := if m = 0 then 0 else if g then ringT back n a x m else lineT back a x m
theorem topF_nil (f : Int → Int) : topF f [] 0 = 0 := rfl
theorem bstT_nil {back : Bool} {n a : Int} {z : Int} (hz : 0 ≤ z) (k : Nat) : bstT back z n a [] (k + 1) = 0 := by
  have h0 : goT back (beyond n a [] ((0 : Nat) : Int) 0) ((0 : Nat) : Int) = 0 := by
    show goT back 0 0 = 0
    cases back <;> rfl
  apply Int.le_antisymm
  · have h := bstT_le (back := back) (z := z) (n := n) (a := a) (ps := []) (k := k + 1) (j := 0) (by omega)
    exact Int.le_trans h (Int.le_of_eq h0)
  · refine le_bstT hz (fun j hj => ?_)
    show 0 ≤ goT back 0 (j : Int)
    unfold goT
    cases back
    · simp only [Bool.false_eq_true, if_false]; omega
    · simp only [if_true]; omega
theorem runL_nil {n x m : Int} (h : m = 0) : runL n x m = [] := by subst h; rfl
theorem run_back {n : Int} {g : Bool} {a x m : Int} (hn : 2 ≤ n) (ha : 0 ≤ a ∧ a < n) (hf : fitsB n g x m = true) : bckT n g a (runL n x m) = runT n g a x m true := by
  obtain ⟨hp, hm0, hmn, hgx⟩ := (fitsB_iff n g x m).1 hf
  have hx := ((placeB_iff n g x).1 hp).2
  unfold runT bckT
  by_cases h0 : m = 0
  · rw [if_pos h0, runL_nil h0]
    cases g
    · rfl
    · simp only [if_true]
      obtain ⟨k, hk⟩ : ∃ k, n.toNat = k + 1 := ⟨n.toNat - 1, by omega⟩
      rw [hk]
      exact bstT_nil (by omega) k
  · rw [if_neg h0]
    cases g
    · have h := lineT_eq (back := true) (n := n) (a := a) (x := x) (m := m) hx ⟨by omega, by rcases hgx with h | h; cases h; exact h⟩
      simp only [Bool.false_eq_true, if_false]
      rw [← h]
      rfl
    · simp only [if_true]
      exact ringT_eq hn ha hx ⟨by omega, hmn⟩ rfl
theorem run_tour {n : Int} {g : Bool} {a x m : Int} (hr : roadB n g = true) (ha : 0 ≤ a ∧ a < n) (hf : fitsB n g x m = true) : tourR n g a (runL n x m) = (runT n g a x m false, true) := by
  obtain ⟨hp, hm0, hmn, hgx⟩ := (fitsB_iff n g x m).1 hf
  have hx := ((placeB_iff n g x).1 hp).2
  have hn : 2 ≤ n := ((roadB_iff n g).1 hr).1
  have hok : tourOk n g a (runL n x m) := ⟨hr, ha, runL_inside hn⟩
  unfold runT
  by_cases h0 : m = 0
  · rw [if_pos h0]
    cases g
    · rw [tourR_line hok, runL_nil h0]
      rfl
    · rw [tourR_ring hok, runL_nil h0, bstT_tour]
      obtain ⟨k, hk⟩ : ∃ k, n.toNat = k + 1 := ⟨n.toNat - 1, by omega⟩
      rw [hk, bstT_nil (by omega) k]
  · rw [if_neg h0]
    cases g
    · rw [tourR_line hok]
      have h := lineT_eq (back := false) (n := n) (a := a) (x := x) (m := m) hx ⟨by omega, by rcases hgx with h | h; cases h; exact h⟩
      simp only [Bool.false_eq_true, if_false]
      rw [← h]
      rfl
    · rw [tourR_ring hok, bstT_tour]
      simp only [if_true]
      rw [ringT_eq (back := false) (z := n - 1) hn ha hx ⟨by omega, hmn⟩ rfl]
/-- what RunTime answers -/
def rtimeR (n : Int) (g : Bool) (a x m : Int) (back : Bool) : Int × Bool := if placeB n g a && fitsB n g x m then (runT n g a x m back, true) else (0, false)
end Go.Proofs.Ytgchodielkodeaa
