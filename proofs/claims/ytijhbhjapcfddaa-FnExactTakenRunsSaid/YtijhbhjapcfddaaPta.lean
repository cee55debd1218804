/-
  What is proved: plain facts on rounds and patrols: the program's reading and the model's are alike. Conditions: those of each fact.
-/
import Derived.Test.YtijhbhjapcfddaaTba
import Derived.Test.YtijhbhjapcfddaaFn1
namespace Go.Proofs.Ytijhbhjapcfddaa
open Go.RowKit
set_option linter.unusedVariables false
set_option linter.unusedSimpArgs false

/-- a round: with its first place behind it, it is a walk -/
def RoundP (n : Int) (g : Bool) (xs : List Int) : Prop := 1 ≤ xs.length ∧ Walk n g (xs ++ xs.take 1)
/-- the model's words: places up to a bound, the length, the gaps around -/
def RoundS (n : Int) (g : Bool) (xs : List Int) (period : Nat) : Prop :=
  (∀ (k : Nat) x, k < 60 → xs[k]? = some x → placeB n g x = true) ∧ xs.length = period ∧ ∀ (t : Nat) a b, xs[t]? = some a → xs[(t + 1) % xs.length]? = some b → gapI n g a b ≤ 1
theorem snoc_at {xs : List Int} {y : Int} (h : xs[0]? = some y) (k : Nat) : (xs ++ xs.take 1)[k]? = if k < xs.length then xs[k]? else if k = xs.length then some y else none := by
  obtain ⟨h0, h1⟩ := List.getElem?_eq_some_iff.1 h
  split
  · rename_i hk
    rw [List.getElem?_append_left hk]
  · rename_i hk
    rw [List.getElem?_append_right (by omega)]
    split
    · rename_i hk2
      rw [hk2, Nat.sub_self, List.getElem?_take]
      simp [h]
    · rw [List.getElem?_eq_none]
      rw [List.length_take]
      omega
theorem round_iff {n : Int} {g : Bool} {xs : List Int} {period : Nat} (hp : 1 ≤ period) (hp2 : period ≤ 60) : RoundS n g xs period ↔ RoundP n g xs ∧ xs.length = period := by
  constructor
  · rintro ⟨h1, h2, h3⟩
    have hl : 1 ≤ xs.length := by omega
    obtain ⟨y, hy⟩ := get_some (xs := xs) (k := 0) (by omega)
    have hat := snoc_at hy
    have hin : ∀ (k : Nat) x, xs[k]? = some x → placeB n g x = true := fun k x hx => h1 k x (by have := (List.getElem?_eq_some_iff.1 hx).1; omega) hx
    have hpy := (placeB_iff n g y).1 (hin 0 y hy)
    refine ⟨⟨hl, hpy.1, by rw [List.length_append]; omega, by rw [List.length_append, List.length_take]; omega, fun k x hx => ?_, fun k a b ha hb => ?_⟩, h2⟩
    · rw [hat] at hx
      split at hx
      · exact ((placeB_iff n g x).1 (hin k x hx)).2
      · split at hx
        · cases hx
          exact hpy.2
        · cases hx
    · rw [hat] at ha hb
      split at ha
      · rename_i hk
        refine h3 k a b ha ?_
        split at hb
        · rename_i hk2
          rw [Nat.mod_eq_of_lt hk2]
          exact hb
        · split at hb
          · rename_i hk3
            rw [hk3, Nat.mod_self, hy]
            exact hb
          · cases hb
      · rename_i hk
        rw [if_neg (by omega), if_neg (by omega)] at hb
        cases hb
  · rintro ⟨⟨hl, hw⟩, h2⟩
    obtain ⟨y, hy⟩ := get_some (xs := xs) (k := 0) (by omega)
    have hat := snoc_at hy
    obtain ⟨hr, _, _, hin, hch⟩ := hw
    refine ⟨fun k x hk hx => (placeB_iff n g x).2 ⟨hr, hin k x (by rw [hat, if_pos (List.getElem?_eq_some_iff.1 hx).1]; exact hx)⟩, h2, fun t a b ha hb => hch t a b (by rw [hat, if_pos (List.getElem?_eq_some_iff.1 ha).1]; exact ha) ?_⟩
    have ht := (List.getElem?_eq_some_iff.1 ha).1
    rw [hat]
    by_cases h : t + 1 < xs.length
    · rw [if_pos h]
      rw [Nat.mod_eq_of_lt h] at hb
      exact hb
    · have e : t + 1 = xs.length := by omega
      rw [if_neg h, if_pos e]
      rw [e, Nat.mod_self, hy] at hb
      exact hb
theorem round_walk {n : Int} {g : Bool} {xs : List Int} (h : RoundP n g xs) : Walk n g xs ∧ xs.length ≤ 60 := by
  obtain ⟨hl, hr, _, h61, hin, hch⟩ := h
  rw [List.length_append, List.length_take] at h61
  obtain ⟨y, hy⟩ := get_some (xs := xs) (k := 0) (by omega)
  have hat := snoc_at hy
  have key : ∀ (k : Nat) x, xs[k]? = some x → (xs ++ xs.take 1)[k]? = some x := fun k x hx => by rw [hat, if_pos (List.getElem?_eq_some_iff.1 hx).1]; exact hx
  exact ⟨⟨hr, hl, by omega, fun k x hx => hin k x (key k x hx), fun k a b ha hb => hch k a b (key k a ha) (key (k + 1) b hb)⟩, by omega⟩
/-- a patrol on a valid road -/
def PatP (n : Int) (g : Bool) (xss : List (List Int)) : Prop :=
  1 ≤ xss.length ∧ xss.length ≤ 6 ∧ (∀ (j : Nat) xs, xss[j]? = some xs → RoundP n g xs ∧ xs.length = (xss.getD 0 []).length) ∧ roadB n g = true
/-- the model's words -/
def PatS (n : Int) (g : Bool) (xss : List (List Int)) : Prop :=
  1 ≤ xss.length ∧ xss.length ≤ 6 ∧ 1 ≤ (xss.getD 0 []).length ∧ (xss.getD 0 []).length ≤ 60 ∧ ∀ (j : Nat) xs, xss[j]? = some xs → RoundS n g xs (xss.getD 0 []).length
theorem pat_iff (n : Int) (g : Bool) (xss : List (List Int)) : PatS n g xss ↔ PatP n g xss := by
  constructor
  · rintro ⟨h1, h2, h3, h4, h5⟩
    obtain ⟨ys, hys⟩ := get_some (xs := xss) (k := 0) (by omega)
    have hr := ((round_iff h3 h4).1 (h5 0 ys hys)).1.2.1
    exact ⟨h1, h2, fun j xs hx => (round_iff h3 h4).1 (h5 j xs hx), hr⟩
  · rintro ⟨h1, h2, h3, h4⟩
    obtain ⟨ys, hys⟩ := get_some (xs := xss) (k := 0) (by omega)
    have hy := h3 0 ys hys
    have hy60 := (round_walk hy.1).2
    have hy1 := hy.1.1
    have e : (xss.getD 0 []).length = ys.length := hy.2.symm
    exact ⟨h1, h2, by omega, by omega, fun j xs hx => (round_iff (by omega) (by omega)).2 (h3 j xs hx)⟩
open Classical in
noncomputable def patD (n : Int) (g : Bool) (xss : List (List Int)) : Bool := decide (PatP n g xss)
theorem patD_iff (n : Int) (g : Bool) (xss : List (List Int)) : patD n g xss = true ↔ PatP n g xss := by unfold patD; simp
theorem patD_no {n : Int} {g : Bool} {xss : List (List Int)} (h : patD n g xss = false) : ¬ PatP n g xss := fun h2 => by rw [(patD_iff n g xss).2 h2] at h; cases h
/-- what is known of a patrol -/
theorem pat_rows {n : Int} {g : Bool} {xss : List (List Int)} (h : PatP n g xss) : ∃ L, 1 ≤ L ∧ L ≤ 60 ∧ (xss.getD 0 []).length = L ∧ ∀ (j : Nat) xs, xss[j]? = some xs → xs.length = L ∧ Walk n g xs ∧ RoundP n g xs := by
  obtain ⟨h1, h2, h3, h4⟩ := h
  obtain ⟨ys, hys⟩ := get_some (xs := xss) (k := 0) (by omega)
  have hy := h3 0 ys hys
  exact ⟨ys.length, hy.1.1, (round_walk hy.1).2, hy.2.symm, fun j xs hx => ⟨(h3 j xs hx).2.trans hy.2.symm, (round_walk (h3 j xs hx).1).1, (h3 j xs hx).1⟩⟩
end Go.Proofs.Ytijhbhjapcfddaa
