/-
  What is proved: plain facts on lanes: a lane told by the places of its cars, what a turn does to both, and flows. Conditions: those of each fact.
-/
import Derived.Test.YthbmiigndhoopaaMea
namespace Go.Proofs.Ythbmiigndhoopaa
open Go.RowKit
set_option linter.unusedVariables false
set_option linter.unusedSimpArgs false

/-- the place behind a place on a ring of n places -/
def nx (n p : Nat) : Nat := if p + 1 < n then p + 1 else 0
theorem nx_lt {n p : Nat} (h : 0 < n) : nx n p < n := by unfold nx; split <;> omega
theorem nx_ne {n p : Nat} (h : 2 ≤ n) (hp : p < n) : nx n p ≠ p := by unfold nx; split <;> omega
theorem nx_inj {n p q : Nat} (hp : p < n) (hq : q < n) (h : nx n p = nx n q) : p = q := by unfold nx at h; split at h <;> split at h <;> omega
theorem nx_mod {n p : Nat} (hp : p < n) : ((p : Int) + 1) % (n : Int) = ((nx n p : Nat) : Int) := by
  unfold nx
  split
  · rw [Int.emod_eq_of_lt (by omega) (by omega)]; omega
  · rw [show (p : Int) + 1 = n by omega, Int.emod_self]; rfl
theorem nx_tmod {n p : Nat} (hp : p < n) : ((p : Int) + 1).tmod (n : Int) = ((nx n p : Nat) : Int) := by
  rw [Int.tmod_eq_emod_of_nonneg (by omega)]
  exact nx_mod hp
/-- numbers of places as numbers of the program -/
def cas (S : List Nat) : List Int := S.map (fun c => ((c : Nat) : Int))
theorem cas_len (S : List Nat) : (cas S).length = S.length := by simp [cas]
theorem cas_at {S : List Nat} {k c : Nat} (h : S[k]? = some c) : (cas S)[k]? = some (c : Int) := by simp [cas, h]
theorem cas_mem {S : List Nat} {c : Nat} : ((c : Nat) : Int) ∈ cas S ↔ c ∈ S := by
  unfold cas
  rw [List.mem_map]
  exact ⟨fun ⟨d, hd, e⟩ => by rw [← show d = c by omega]; exact hd, fun h => ⟨c, h, rfl⟩⟩
/-- the lane of n places with cars at S -/
def lan (n : Nat) (S : List Nat) : List Int := (List.range n).map (fun p => if p ∈ S then 1 else 0)
theorem lan_len (n : Nat) (S : List Nat) : (lan n S).length = n := by simp [lan]
theorem lan_at {n : Nat} {S : List Nat} {p : Nat} (h : p < n) : (lan n S)[p]? = some (if p ∈ S then 1 else 0) := by simp [lan, h]
/-- the places of the cars of a lane -/
def carsTo (xs : List Int) : Nat → List Nat
  | 0 => []
  | k + 1 => if xs.getD k 0 = 1 then carsTo xs k ++ [k] else carsTo xs k
def carsOf (xs : List Int) : List Nat := carsTo xs xs.length
theorem carsTo_len (xs : List Int) : ∀ k, (carsTo xs k).length ≤ k
  | 0 => Nat.le_refl _
  | k + 1 => by
    have := carsTo_len xs k
    unfold carsTo
    split
    · simp; omega
    · omega
theorem carsTo_yes {xs : List Int} {k : Nat} {x : Int} (h : xs[k]? = some x) (h1 : x = 1) : carsTo xs (k + 1) = carsTo xs k ++ [k] := by
  show (if xs.getD k 0 = 1 then carsTo xs k ++ [k] else carsTo xs k) = _
  rw [if_pos (by simp [List.getD, h, h1])]
theorem carsTo_no {xs : List Int} {k : Nat} {x : Int} (h : xs[k]? = some x) (h1 : x ≠ 1) : carsTo xs (k + 1) = carsTo xs k := by
  show (if xs.getD k 0 = 1 then carsTo xs k ++ [k] else carsTo xs k) = _
  rw [if_neg (by simp [List.getD, h, h1])]
theorem carsTo_mem (xs : List Int) : ∀ k c, c ∈ carsTo xs k ↔ c < k ∧ xs.getD c 0 = 1
  | 0, c => by simp [carsTo]
  | k + 1, c => by
    have ih := carsTo_mem xs k c
    unfold carsTo
    split
    · rw [List.mem_append, ih, List.mem_singleton]
      constructor
      · rintro (⟨h1, h2⟩ | rfl)
        · exact ⟨by omega, h2⟩
        · exact ⟨by omega, by assumption⟩
      · rintro ⟨h1, h2⟩
        by_cases e : c = k
        · exact Or.inr e
        · exact Or.inl ⟨by omega, h2⟩
    · rw [ih]
      constructor
      · rintro ⟨h1, h2⟩
        exact ⟨by omega, h2⟩
      · rintro ⟨h1, h2⟩
        refine ⟨?_, h2⟩
        have : c ≠ k := fun e => by subst e; contradiction
        omega
theorem carsTo_nodup (xs : List Int) : ∀ k, (carsTo xs k).Nodup
  | 0 => List.nodup_nil
  | k + 1 => by
    have ih := carsTo_nodup xs k
    unfold carsTo
    split
    · rw [List.nodup_append]
      refine ⟨ih, List.nodup_cons.2 ⟨by simp, List.nodup_nil⟩, fun a ha b hb => ?_⟩
      have := (carsTo_mem xs k a).1 ha
      rw [List.mem_singleton] at hb
      omega
    · exact ih
/-- a lane -/
def laneB (xs : List Int) : Bool := decide (3 ≤ xs.length) && withB 24 0 1 xs
theorem laneB_iff (xs : List Int) : laneB xs = true ↔ 3 ≤ xs.length ∧ xs.length ≤ 24 ∧ ∀ (k : Nat) x, xs[k]? = some x → x = 0 ∨ x = 1 := by
  unfold laneB
  rw [Bool.and_eq_true, decide_eq_true_iff, withB_iff]
  constructor
  · rintro ⟨h1, h2, h3, h4⟩
    exact ⟨h1, by omega, fun k x hx => by have := h4 k x hx; omega⟩
  · rintro ⟨h1, h2, h3⟩
    exact ⟨h1, by omega, by omega, fun k x hx => by have := h3 k x hx; omega⟩
theorem laneB_no {xs : List Int} (h : ¬ (3 ≤ xs.length ∧ xs.length ≤ 24 ∧ ∀ (k : Nat) x, xs[k]? = some x → x = 0 ∨ x = 1)) : laneB xs = false := by
  cases hb : laneB xs
  · rfl
  · exact absurd ((laneB_iff xs).1 hb) h
theorem lan_cars {xs : List Int} (h : laneB xs = true) : lan xs.length (carsOf xs) = xs := by
  obtain ⟨h3, h24, hx⟩ := (laneB_iff xs).1 h
  apply List.ext_getElem?
  intro p
  by_cases hp : p < xs.length
  · rw [lan_at hp]
    obtain ⟨x, hxp⟩ : ∃ x, xs[p]? = some x := ⟨xs[p], List.getElem?_eq_getElem hp⟩
    rw [hxp]
    have hg : xs.getD p 0 = x := by simp [List.getD, hxp]
    unfold carsOf
    rcases hx p x hxp with e | e
    · rw [if_neg (fun hm => by have := ((carsTo_mem xs _ p).1 hm).2; omega), e]
    · rw [if_pos ((carsTo_mem xs _ p).2 ⟨hp, by omega⟩), e]
  · rw [List.getElem?_eq_none (by rw [lan_len]; omega), List.getElem?_eq_none (by omega)]
/-- cars: places of a ring, each once -/
def Cars (n : Nat) (S : List Nat) : Prop := S.Nodup ∧ ∀ c, c ∈ S → c < n
theorem cars_of (xs : List Int) : Cars xs.length (carsOf xs) := ⟨carsTo_nodup xs _, fun c h => ((carsTo_mem xs _ c).1 h).1⟩
theorem nodup_sub {S T : List Nat} (h : S.Nodup) (hs : ∀ c, c ∈ S → c ∈ T) : S.length ≤ T.length := by
  induction S generalizing T with
  | nil => exact Nat.zero_le _
  | cons a S ih =>
    have ha : a ∈ T := hs a List.mem_cons_self
    obtain ⟨hn, hS⟩ := List.nodup_cons.1 h
    have h1 := ih (T := T.erase a) hS (fun c hc => (List.mem_erase_of_ne (fun e : c = a => hn (e ▸ hc))).2 (hs c (List.mem_cons_of_mem _ hc)))
    have h2 := List.length_erase_of_mem ha
    have h3 : 0 < T.length := List.length_pos_of_mem ha
    simp only [List.length_cons]
    omega
theorem Cars.len {n : Nat} {S : List Nat} (h : Cars n S) : S.length ≤ n := by
  have := nodup_sub (T := List.range n) h.1 (fun c hc => List.mem_range.2 (h.2 c hc))
  rwa [List.length_range] at this
/-- where a car is behind a turn -/
def mvC (n : Nat) (S : List Nat) (c : Nat) : Nat := if nx n c ∈ S then c else nx n c
/-- all cars behind a turn -/
def stp (n : Nat) (S : List Nat) : List Nat := S.map (mvC n S)
theorem stp_len (n : Nat) (S : List Nat) : (stp n S).length = S.length := by simp [stp]
theorem map_nodup {f : Nat → Nat} {S : List Nat} (h : S.Nodup) (hf : ∀ a, a ∈ S → ∀ b, b ∈ S → f a = f b → a = b) : (S.map f).Nodup := by
  induction S with
  | nil => exact List.nodup_nil
  | cons a S ih =>
    obtain ⟨hn, hS⟩ := List.nodup_cons.1 h
    rw [List.map_cons, List.nodup_cons]
    refine ⟨fun hm => ?_, ih hS (fun x hx y hy => hf x (List.mem_cons_of_mem _ hx) y (List.mem_cons_of_mem _ hy))⟩
    obtain ⟨b, hb, e⟩ := List.mem_map.1 hm
    have := hf b (List.mem_cons_of_mem _ hb) a List.mem_cons_self e
    exact hn (this ▸ hb)
theorem stp_cars {n : Nat} {S : List Nat} (hn : 2 ≤ n) (h : Cars n S) : Cars n (stp n S) := by
  refine ⟨map_nodup h.1 (fun a ha b hb e => ?_), fun c hc => ?_⟩
  · unfold mvC at e
    split at e <;> split at e
    · exact e
    · subst e; contradiction
    · subst e; contradiction
    · exact nx_inj (h.2 a ha) (h.2 b hb) e
  · obtain ⟨b, hb, rfl⟩ := List.mem_map.1 hc
    unfold mvC
    split
    · exact h.2 b hb
    · exact nx_lt (by omega)
theorem stp_mem {n : Nat} {S : List Nat} {q : Nat} : q ∈ stp n S ↔ (q ∈ S ∧ nx n q ∈ S) ∨ (q ∉ S ∧ ∃ p, p ∈ S ∧ nx n p = q) := by
  unfold stp
  rw [List.mem_map]
  constructor
  · rintro ⟨p, hp, e⟩
    unfold mvC at e
    split at e
    · subst e; exact Or.inl ⟨hp, by assumption⟩
    · subst e; exact Or.inr ⟨by assumption, p, hp, rfl⟩
  · rintro (⟨h1, h2⟩ | ⟨h1, p, hp, rfl⟩)
    · exact ⟨q, h1, if_pos h2⟩
    · exact ⟨p, hp, if_neg h1⟩
/-- whether a car moves from a place of a lane -/
def goB (l : List Int) (p : Nat) : Bool := decide (l.getD p 0 = 1) && decide (l.getD (nx l.length p) 0 = 0)
/-- a lane behind a turn, as it is made place by place -/
def outTo (l : List Int) : Nat → List Int
  | 0 => l
  | k + 1 => if goB l k then ((outTo l k).set k 0).set (nx l.length k) 1 else outTo l k
def floTo (l : List Int) : Nat → Nat
  | 0 => 0
  | k + 1 => if goB l k then floTo l k + 1 else floTo l k
theorem outTo_len (l : List Int) : ∀ k, (outTo l k).length = l.length
  | 0 => rfl
  | k + 1 => by
    unfold outTo
    split
    · simp [outTo_len l k]
    · exact outTo_len l k
theorem floTo_le (l : List Int) : ∀ k, floTo l k ≤ k
  | 0 => Nat.le_refl _
  | k + 1 => by
    have := floTo_le l k
    unfold floTo
    split <;> omega
theorem lan_getD {n : Nat} {S : List Nat} {p : Nat} (h : p < n) : (lan n S).getD p 0 = if p ∈ S then 1 else 0 := by simp [List.getD, lan_at h]
theorem goB_lan {n : Nat} {S : List Nat} {p : Nat} (hp : p < n) : goB (lan n S) p = true ↔ p ∈ S ∧ nx n p ∉ S := by
  unfold goB
  rw [lan_len, lan_getD hp, lan_getD (nx_lt (by omega)), Bool.and_eq_true, decide_eq_true_iff, decide_eq_true_iff]
  constructor
  · rintro ⟨h1, h2⟩
    refine ⟨?_, ?_⟩
    · by_cases h : p ∈ S
      · exact h
      · rw [if_neg h] at h1; omega
    · intro h
      rw [if_pos h] at h2
      omega
  · rintro ⟨h1, h2⟩
    exact ⟨if_pos h1, if_neg h2⟩
theorem ite_iff {P Q : Prop} [Decidable P] [Decidable Q] {a b : Int} (h : P ↔ Q) : (if P then a else b) = if Q then a else b := by
  by_cases hp : P
  · rw [if_pos hp, if_pos (h.1 hp)]
  · rw [if_neg hp, if_neg (fun hq => hp (h.2 hq))]
theorem outTo_at {n : Nat} {S : List Nat} (hn : 2 ≤ n) : ∀ k, k ≤ n → ∀ q, q < n → (outTo (lan n S) k)[q]? = some (if (q ∈ S ∧ ¬ (q < k ∧ nx n q ∉ S)) ∨ (q ∉ S ∧ ∃ p, p < k ∧ p ∈ S ∧ nx n p = q) then 1 else 0)
  | 0, _, q, hq => by
    show (lan n S)[q]? = _
    rw [lan_at hq]
    by_cases h : q ∈ S
    · rw [if_pos h, if_pos (Or.inl ⟨h, by omega⟩)]
    · rw [if_neg h, if_neg]
      rintro (⟨h1, _⟩ | ⟨_, p, h2, _⟩)
      · exact h h1
      · omega
  | k + 1, hk, q, hq => by
    have ih := outTo_at (S := S) hn k (by omega) q hq
    have hg := goB_lan (n := n) (S := S) (p := k) (by omega)
    have hne := nx_ne (n := n) (p := k) hn (by omega)
    unfold outTo
    by_cases hgo : goB (lan n S) k = true
    · rw [if_pos hgo, lan_len]
      obtain ⟨h1, h2⟩ := hg.1 hgo
      rw [List.getElem?_set, List.length_set, outTo_len, lan_len]
      by_cases e : nx n k = q
      · rw [if_pos e, if_pos (by omega), if_pos (Or.inr ⟨e ▸ h2, k, by omega, h1, e⟩)]
      · rw [if_neg e, List.getElem?_set, outTo_len, lan_len]
        by_cases e2 : k = q
        · subst e2
          rw [if_pos rfl, if_pos (by omega), if_neg]
          rintro (⟨_, h4⟩ | ⟨h4, _⟩)
          · exact h4 ⟨by omega, h2⟩
          · exact h4 h1
        · rw [if_neg e2, ih]
          congr 1
          refine ite_iff ?_
          constructor
          · rintro (⟨h3, h4⟩ | ⟨h3, p, h4, h5⟩)
            · exact Or.inl ⟨h3, fun h => h4 ⟨by omega, h.2⟩⟩
            · exact Or.inr ⟨h3, p, by omega, h5⟩
          · rintro (⟨h3, h4⟩ | ⟨h3, p, h4, h5, h6⟩)
            · exact Or.inl ⟨h3, fun h => h4 ⟨by omega, h.2⟩⟩
            · refine Or.inr ⟨h3, p, ?_, h5, h6⟩
              have : p ≠ k := fun ee => e (ee ▸ h6)
              omega
    · rw [if_neg hgo, ih]
      congr 1
      refine ite_iff ?_
      have hno : ¬ (k ∈ S ∧ nx n k ∉ S) := fun h => hgo (hg.2 h)
      constructor
      · rintro (⟨h3, h4⟩ | ⟨h3, p, h4, h5⟩)
        · refine Or.inl ⟨h3, fun h => ?_⟩
          by_cases e : q = k
          · exact hno (e ▸ ⟨h3, h.2⟩)
          · exact h4 ⟨by omega, h.2⟩
        · exact Or.inr ⟨h3, p, by omega, h5⟩
      · rintro (⟨h3, h4⟩ | ⟨h3, p, h4, h5, h6⟩)
        · exact Or.inl ⟨h3, fun h => h4 ⟨by omega, h.2⟩⟩
        · refine Or.inr ⟨h3, p, ?_, h5, h6⟩
          have : p ≠ k := fun ee => hno ⟨ee ▸ h5, by rw [← ee, h6]; exact h3⟩
          omega
theorem outTo_lan {n : Nat} {S : List Nat} (hn : 2 ≤ n) (hS : Cars n S) : outTo (lan n S) n = lan n (stp n S) := by
  apply List.ext_getElem?
  intro q
  by_cases hq : q < n
  · rw [outTo_at hn n (Nat.le_refl _) q hq, lan_at hq]
    congr 1
    refine ite_iff ?_
    rw [stp_mem]
    constructor
    · rintro (⟨h3, h4⟩ | ⟨h3, p, h4, h5, h6⟩)
      · refine Or.inl ⟨h3, ?_⟩
        by_cases h : nx n q ∈ S
        · exact h
        · exact absurd ⟨hq, h⟩ h4
      · exact Or.inr ⟨h3, p, h5, h6⟩
    · rintro (⟨h3, h4⟩ | ⟨h3, p, h5, h6⟩)
      · exact Or.inl ⟨h3, fun h => h.2 h4⟩
      · exact Or.inr ⟨h3, p, hS.2 p h5, h5, h6⟩
  · rw [List.getElem?_eq_none (by rw [outTo_len, lan_len]; omega), List.getElem?_eq_none (by rw [lan_len]; omega)]
/-- the flow: how many cars move -/
def flo (n : Nat) (S : List Nat) : Nat := S.countP (fun c => decide (nx n c ∉ S))
theorem floTo_count (l : List Int) : ∀ k, floTo l k = (List.range k).countP (goB l)
  | 0 => rfl
  | k + 1 => by
    rw [List.range_succ, List.countP_append, ← floTo_count l k, show floTo l (k + 1) = (if goB l k then floTo l k + 1 else floTo l k) from rfl]
    by_cases h : goB l k = true
    · simp [h]
    · simp [h]
theorem count_of {P : Nat → Bool} {n : Nat} {S : List Nat} (h : Cars n S) : (List.range n).countP (fun p => decide (p ∈ S) && P p) = S.countP P := by
  rw [List.countP_eq_length_filter, List.countP_eq_length_filter]
  apply Nat.le_antisymm
  · refine nodup_sub (List.nodup_range.filter _) (fun c hc => ?_)
    obtain ⟨h1, h2⟩ := List.mem_filter.1 hc
    obtain ⟨h3, h4⟩ := Bool.and_eq_true_iff.1 h2
    exact List.mem_filter.2 ⟨decide_eq_true_iff.1 h3, h4⟩
  · refine nodup_sub (h.1.filter _) (fun c hc => ?_)
    obtain ⟨h1, h2⟩ := List.mem_filter.1 hc
    exact List.mem_filter.2 ⟨List.mem_range.2 (h.2 c h1), Bool.and_eq_true_iff.2 ⟨decide_eq_true_iff.2 h1, h2⟩⟩
theorem floTo_lan {n : Nat} {S : List Nat} (hS : Cars n S) : floTo (lan n S) n = flo n S := by
  rw [floTo_count]
  unfold flo
  rw [← count_of hS]
  rw [List.countP_eq_length_filter, List.countP_eq_length_filter]
  congr 1
  apply List.filter_congr
  intro p hp
  rw [Bool.eq_iff_iff, goB_lan (List.mem_range.1 hp), Bool.and_eq_true, decide_eq_true_iff, decide_eq_true_iff]
/-- the cars behind t turns -/
def stpN (n : Nat) (S : List Nat) : Nat → List Nat
  | 0 => S
  | t + 1 => stp n (stpN n S t)
theorem stpN_cars {n : Nat} {S : List Nat} (hn : 2 ≤ n) (h : Cars n S) : ∀ t, Cars n (stpN n S t)
  | 0 => h
  | t + 1 => stp_cars hn (stpN_cars hn h t)
theorem stpN_len (n : Nat) (S : List Nat) : ∀ t, (stpN n S t).length = S.length
  | 0 => rfl
  | t + 1 => by rw [show stpN n S (t + 1) = stp n (stpN n S t) from rfl, stp_len, stpN_len n S t]
/-- the flows of the first t turns -/
def floN (n : Nat) (S : List Nat) (t : Nat) : List Int := (List.range t).map (fun k => ((flo n (stpN n S k) : Nat) : Int))
theorem floN_len (n : Nat) (S : List Nat) (t : Nat) : (floN n S t).length = t := by simp [floN]
theorem floN_next (n : Nat) (S : List Nat) (t : Nat) : floN n S (t + 1) = floN n S t ++ [((flo n (stpN n S t) : Nat) : Int)] := by
  unfold floN
  rw [List.range_succ, List.map_append]
  rfl
/-- the number of cars, place by place -/
def sumTo (xs : List Int) : Nat → Int
  | 0 => 0
  | k + 1 => sumTo xs k + xs.getD k 0
theorem sum_cars {xs : List Int} (h : laneB xs = true) : ∀ k, k ≤ xs.length → sumTo xs k = ((carsTo xs k).length : Int)
  | 0, _ => rfl
  | k + 1, hk => by
    obtain ⟨h3, h24, hx⟩ := (laneB_iff xs).1 h
    have ih := sum_cars h k (by omega)
    obtain ⟨x, hxk⟩ : ∃ x, xs[k]? = some x := ⟨xs[k], List.getElem?_eq_getElem (by omega)⟩
    have hg : xs.getD k 0 = x := by simp [List.getD, hxk]
    show sumTo xs k + xs.getD k 0 = _
    rcases hx k x hxk with e | e
    · rw [carsTo_no hxk (by omega), ih, hg]; omega
    · rw [carsTo_yes hxk e, ih, hg, List.length_append]; simp; omega
end Go.Proofs.Ythbmiigndhoopaa
