/-
  What is proved: plain facts on walkers: when one is valid, and where it is at each time. Conditions: those of each fact.
-/
import Derived.Test.YtekahkeddpngpaaWlk
namespace Go.Proofs.Ytekahkeddpngpaa
open Go.RowKit
set_option linter.unusedVariables false
set_option linter.unusedSimpArgs false

def inB (lo hi x : Int) : Bool := decide (lo ≤ x) && decide (x ≤ hi)
theorem inB_iff (lo hi x : Int) : inB lo hi x = true ↔ lo ≤ x ∧ x ≤ hi := by simp [inB]
theorem inB_no {lo hi x : Int} (h : ¬ (lo ≤ x ∧ x ≤ hi)) : inB lo hi x = false := by
  cases hb : inB lo hi x
  · rfl
  · exact absurd ((inB_iff lo hi x).1 hb) h
def allB (lo hi : Int) (xs : List Int) : Bool := xs.all (inB lo hi)
theorem allB_iff (lo hi : Int) (xs : List Int) : allB lo hi xs = true ↔ ∀ (k : Nat) x, xs[k]? = some x → lo ≤ x ∧ x ≤ hi := by
  unfold allB
  rw [List.all_eq_true]
  constructor
  · intro h k x hx
    exact (inB_iff lo hi x).1 (h x (List.mem_of_getElem? hx))
  · intro h x hx
    obtain ⟨k, hk⟩ := List.getElem?_of_mem hx
    exact (inB_iff lo hi x).2 (h k x hk)
theorem allB_no {lo hi : Int} {xs : List Int} {k : Nat} {x : Int} (hx : xs[k]? = some x) (h : ¬ (lo ≤ x ∧ x ≤ hi)) : allB lo hi xs = false := by
  cases hb : allB lo hi xs
  · rfl
  · exact absurd ((allB_iff lo hi xs).1 hb k x hx) h
/-- a list of 1 to most numbers, all of them from lo to hi -/
def withB (most lo hi : Int) (xs : List Int) : Bool := decide (1 ≤ xs.length) && decide ((xs.length : Int) ≤ most) && allB lo hi xs
theorem withB_iff (most lo hi : Int) (xs : List Int) : withB most lo hi xs = true ↔ 1 ≤ xs.length ∧ (xs.length : Int) ≤ most ∧ ∀ (k : Nat) x, xs[k]? = some x → lo ≤ x ∧ x ≤ hi := by
  unfold withB
  rw [Bool.and_eq_true, Bool.and_eq_true, allB_iff, decide_eq_true_iff, decide_eq_true_iff, and_assoc]
theorem withB_no {most lo hi : Int} {xs : List Int} (h : ¬ (1 ≤ xs.length ∧ (xs.length : Int) ≤ most ∧ ∀ (k : Nat) x, xs[k]? = some x → lo ≤ x ∧ x ≤ hi)) : withB most lo hi xs = false := by
  cases hb : withB most lo hi xs
  · rfl
  · exact absurd ((withB_iff most lo hi xs).1 hb) h
def facB (f : Int) : Bool := decide (f = 1) || decide (f = -1)
theorem facB_iff (f : Int) : facB f = true ↔ f = 1 ∨ f = -1 := by simp [facB]
/-- a walker -/
structure Wk where
  s : Int
  f : Int
  d : Int
  ms : List Int
/-- a valid walker on a valid road -/
def wkB (n : Int) (g : Bool) (k : Wk) : Bool := placeB n g k.s && (facB k.f && (inB 0 60 k.d && withB 24 (-1) 1 k.ms))
/-- what a valid walker is -/
structure WkOK (n : Int) (g : Bool) (k : Wk) : Prop where
  road : roadB n g = true
  n2 : 2 ≤ n
  n24 : n ≤ 24
  ring : g = true → 2 < n
  s0 : 0 ≤ k.s
  sn : k.s < n
  fac : k.f = 1 ∨ k.f = -1
  d0 : 0 ≤ k.d
  d60 : k.d ≤ 60
  l1 : 1 ≤ k.ms.length
  l24 : k.ms.length ≤ 24
  mv : ∀ (j : Nat) x, k.ms[j]? = some x → -1 ≤ x ∧ x ≤ 1
theorem wkB_iff (n : Int) (g : Bool) (k : Wk) : wkB n g k = true ↔ WkOK n g k := by
  unfold wkB
  rw [Bool.and_eq_true, Bool.and_eq_true, Bool.and_eq_true, placeB_iff, facB_iff, inB_iff, withB_iff]
  constructor
  · rintro ⟨⟨hr, h0, h1⟩, hf, ⟨h2, h3⟩, h4, h5, h6⟩
    obtain ⟨a, b, c⟩ := (roadB_iff n g).1 hr
    exact ⟨hr, a, b, c, h0, h1, hf, h2, h3, h4, by omega, h6⟩
  · intro h
    exact ⟨⟨h.road, h.s0, h.sn⟩, h.fac, ⟨h.d0, h.d60⟩, h.l1, by have := h.l24; omega, h.mv⟩
theorem stepI_line (n p d : Int) : stepI n false p d = max (min (p + d) (n - 1)) 0 := rfl
theorem stepI_ring {n p d : Int} (hn : 2 ≤ n) (hp : 0 ≤ p ∧ p < n) (hd : -1 ≤ d ∧ d ≤ 1) : stepI n true p d = if p + d < 0 then p + d + n else if p + d < n then p + d else p + d - n := by
  unfold stepI
  rw [if_pos rfl]
  split
  · exact Int.emod_eq_of_lt (by omega) (by omega)
  · rw [Int.add_emod_right]
    split
    · exact Int.emod_eq_of_lt (by omega) (by omega)
    · rw [show p + d = (p + d - n) + n by omega, Int.add_emod_right]
      rw [show p + d - n + n - n = p + d - n by omega]
      exact Int.emod_eq_of_lt (by omega) (by omega)
theorem stepI_in {n : Int} {g : Bool} {p d : Int} (hn : 2 ≤ n) (hp : 0 ≤ p ∧ p < n) (hd : -1 ≤ d ∧ d ≤ 1) : 0 ≤ stepI n g p d ∧ stepI n g p d < n := by
  cases g
  · rw [stepI_line]
    omega
  · rw [stepI_ring hn hp hd]
    split
    · omega
    · split <;> omega
theorem stepI_stay {n : Int} {g : Bool} {p : Int} (hn : 2 ≤ n) (hp : 0 ≤ p ∧ p < n) : stepI n g p 0 = p := by
  cases g
  · rw [stepI_line]
    omega
  · rw [stepI_ring hn hp (by omega)]
    rw [if_neg (by omega), if_pos (by omega)]
    omega
theorem stepI_after {n : Int} {g : Bool} {p : Int} (hn : 2 ≤ n) (hp : 0 ≤ p ∧ p < n) : stepI n g p 1 = if 0 ≤ afterI n g p ∧ afterI n g p < n then afterI n g p else p := by
  unfold afterI
  cases g
  · rw [stepI_line]
    simp only [Bool.false_eq_true, false_and, if_false]
    split <;> omega
  · rw [stepI_ring hn hp (by omega)]
    simp only [true_and]
    by_cases h : p = n - 1
    · simp only [if_pos h]
      rw [if_neg (by omega), if_neg (by omega), if_pos (by omega)]
      omega
    · simp only [if_neg h]
      rw [if_neg (by omega), if_pos (by omega), if_pos (by omega)]
theorem stepI_before {n : Int} {g : Bool} {p : Int} (hn : 2 ≤ n) (hp : 0 ≤ p ∧ p < n) : stepI n g p (-1) = if 0 ≤ beforeI n g p ∧ beforeI n g p < n then beforeI n g p else p := by
  unfold beforeI
  cases g
  · rw [stepI_line]
    simp only [Bool.false_eq_true, false_and, if_false]
    split <;> omega
  · rw [stepI_ring hn hp (by omega)]
    simp only [true_and]
    by_cases h : p = 0
    · simp only [if_pos h]
      rw [if_pos (by omega), if_pos (by omega)]
      omega
    · simp only [if_neg h]
      rw [if_neg (by omega), if_pos (by omega), if_pos (by omega)]
      omega
/-- the step of a walker from the time t to the next -/
def stT (k : Wk) (t : Nat) : Int := if (t : Int) < k.d then 0 else k.f * k.ms.getD ((t - k.d.toNat) % k.ms.length) 0
/-- the place of a walker at each time -/
def posW (n : Int) (g : Bool) (k : Wk) : Nat → Int
  | 0 => k.s
  | t + 1 => stepI n g (posW n g k t) (stT k t)
/-- the places of the times 0 to m -/
def pathL (f : Nat → Int) (m : Nat) : List Int := (List.range (m + 1)).map f
theorem pathL_len (f : Nat → Int) (m : Nat) : (pathL f m).length = m + 1 := by simp [pathL]
theorem pathL_at (f : Nat → Int) (m j : Nat) (h : j ≤ m) : (pathL f m)[j]? = some (f j) := by
  have h2 : j < m + 1 := by omega
  simp [pathL, h2]
theorem pathL_next (f : Nat → Int) (m : Nat) : pathL f m ++ [f (m + 1)] = pathL f (m + 1) := by
  unfold pathL
  rw [List.range_succ (n := m + 1), List.map_append]
  rfl
theorem pathL_snoc (f : Nat → Int) (m : Nat) : (pathL f m).map iv ++ [Value.int .i64 (f (m + 1))] = (pathL f (m + 1)).map iv := by
  rw [← pathL_next, List.map_append]
  rfl
theorem mv_of {n : Int} {g : Bool} {k : Wk} (h : WkOK n g k) (t : Nat) : ∃ x, k.ms[(t - k.d.toNat) % k.ms.length]? = some x ∧ -1 ≤ x ∧ x ≤ 1 := by
  obtain ⟨x, hx⟩ := get_some (xs := k.ms) (k := (t - k.d.toNat) % k.ms.length) (Nat.mod_lt _ h.l1)
  exact ⟨x, hx, h.mv _ _ hx⟩
theorem stT_wait {k : Wk} {t : Nat} (h : (t : Int) < k.d) : stT k t = 0 := if_pos h
theorem stT_go {k : Wk} {t : Nat} {x : Int} (h : ¬ (t : Int) < k.d) (hx : k.ms[(t - k.d.toNat) % k.ms.length]? = some x) : stT k t = k.f * x := by
  unfold stT
  rw [if_neg h]
  simp [List.getD, hx]
theorem stT_in {n : Int} {g : Bool} {k : Wk} (h : WkOK n g k) (t : Nat) : -1 ≤ stT k t ∧ stT k t ≤ 1 := by
  by_cases hd : (t : Int) < k.d
  · rw [stT_wait hd]
    omega
  · obtain ⟨x, hx, h1, h2⟩ := mv_of h t
    rw [stT_go hd hx]
    rcases h.fac with hf | hf <;> rw [hf] <;> omega
theorem posW_in {n : Int} {g : Bool} {k : Wk} (h : WkOK n g k) : ∀ t, 0 ≤ posW n g k t ∧ posW n g k t < n
  | 0 => ⟨h.s0, h.sn⟩
  | t + 1 => stepI_in h.n2 (posW_in h t) (stT_in h t)
theorem posW_next (n : Int) (g : Bool) (k : Wk) (t : Nat) : posW n g k (t + 1) = stepI n g (posW n g k t) (stT k t) := rfl
theorem posW_stay {n : Int} {g : Bool} {k : Wk} (h : WkOK n g k) {t : Nat} (hs : stT k t = 0) : posW n g k (t + 1) = posW n g k t := by
  rw [posW_next, hs, stepI_stay h.n2 (posW_in h t)]
/-- the walk of a walker for the times 0 to m -/
def walkW (n : Int) (g : Bool) (k : Wk) (m : Nat) : List Int := pathL (posW n g k) m
theorem walkW_in {n : Int} {g : Bool} {k : Wk} (h : WkOK n g k) (m : Nat) : ∀ (j : Nat) p, (walkW n g k m)[j]? = some p → 0 ≤ p ∧ p < n := by
  intro j p hj
  have hl := (List.getElem?_eq_some_iff.1 hj).1
  unfold walkW at hl hj
  rw [pathL_len] at hl
  rw [pathL_at _ _ _ (by omega)] at hj
  cases hj
  exact posW_in h j
/-- what lay below base in w lies there as it did -/
structure Kept (base : Nat) (w wr : World) : Prop where
  below : Below base w wr
  size : base ≤ wr.heap.size
theorem Kept.first (w : World) : Kept w.heap.size w w := ⟨Below.refl _ _, Nat.le_refl _⟩
theorem Kept.next {base : Nat} {w wr w' : World} (h : Kept base w wr) (hb : Below wr.heap.size wr w') : Kept base w w' := ⟨h.below.trans (hb.mono h.size), Nat.le_trans h.size hb.size⟩
theorem Kept.nextAt {base m : Nat} {w wr w' : World} (h : Kept base w wr) (hm : base ≤ m) (hb : Below m wr w') : Kept base w w' := ⟨h.below.trans (hb.mono hm), Nat.le_trans h.size hb.size⟩
/-- the index of a move, as the program and the model reckon it -/
theorem mod_idx {t d : Int} {l : Nat} (h : d ≤ t) (hd : 0 ≤ d) (hl : 1 ≤ l) : (t - d).tmod l = (((t.toNat - d.toNat) % l : Nat) : Int) := by
  rw [Int.tmod_eq_emod_of_nonneg (by omega), Int.natCast_emod]
  congr 1
  omega
end Go.Proofs.Ytekahkeddpngpaa
