/-
  What is proved: impl.GapOf and the model's answer alike. Conditions: none.
-/
import Derived.Test.YtekahkeddpngpaaFn2
import Derived.Deep.RegionHeld3
namespace Go.Proofs.Ytekahkeddpngpaa
open Go.RowKit

def riseI (n : Int) (g : Bool) (a b : Int) : Int := if g then (b - a + n) % n else b - a
theorem rise_val (n a b : Int) (ha : 0 ≤ a ∧ a < n) (hb : 0 ≤ b ∧ b < n) : (b - a + n) % n = if a ≤ b then b - a else b - a + n := by
  split
  · have e : b - a + n = (b - a) + n := rfl
    rw [e, Int.add_emod_right]
    exact Int.emod_eq_of_lt (by omega) (by omega)
  · exact Int.emod_eq_of_lt (by omega) (by omega)
theorem gap_max (n a b : Int) : gapI n false a b = max (riseI n false a b) (riseI n false b a) := by
  simp only [gapI, riseI, Bool.false_eq_true, if_false]
  omega
theorem gap_min (n a b : Int) (ha : 0 ≤ a ∧ a < n) (hb : 0 ≤ b ∧ b < n) : gapI n true a b = min (riseI n true a b) (riseI n true b a) := by
  simp only [gapI, riseI, if_true]
  rw [rise_val n a b ha hb, rise_val n b a hb ha]
  by_cases h : a ≤ b
  · by_cases h2 : b ≤ a
    · rw [if_pos h, if_pos h2]; omega
    · rw [if_pos h, if_neg h2]; omega
  · rw [if_neg h, if_pos (by omega)]; omega
theorem rise_any (n : Int) (g : Bool) (a b : Int) (w : World) (hn : 2 ≤ n ∧ n ≤ 24) (ha : 0 ≤ a ∧ a < n) (hb : 0 ≤ b ∧ b < n) :
    Calls Try.prog 114 #[rd n g, .int .i64 a, .int .i64 b] w fun e w' => e = .returned (.int .i64 (riseI n g a b)) ∧ Below w.heap.size w w' := by
  have hnz : n ≠ 0 := by omega
  have hsum : 0 ≤ b - a + n := by omega
  unfold rd at *
  go_enter Try.func114, Try.ntmps114
  cases g
  · go_wp2
    go_ret
    exact ⟨ret_int (by simp [riseI]), below_new w _⟩
  · go_wp2
    go_ret
    exact ⟨ret_int (by simp [riseI]), below_new w _⟩
theorem ints_two_at {w : World} {a b : Int} {t : TypeId} (k : Nat) (hk : w.heap.size = k) : ReadsI (w.alloc (.cells #[.int .i64 a, .int .i64 b] t)) (.slice (some ⟨k, 0, none⟩) 2 2) [a, b] := by
  subst hk
  refine ⟨_, 2, rfl, Nat.le_refl _, by simp [maxLen], fun j x hj => ?_⟩
  match j, hj with
  | 0, hj => cases hj; exact ⟨_, 0, rfl, by simp, by rw [cell_new]; rfl⟩
  | 1, hj => cases hj; exact ⟨_, 0, rfl, by simp, by rw [cell_new]; rfl⟩
theorem ints_one_at {w : World} {a : Int} {t : TypeId} (k : Nat) (hk : w.heap.size = k) : ReadsI (w.alloc (.cells #[.int .i64 a] t)) (.slice (some ⟨k, 0, none⟩) 1 1) [a] := by
  subst hk
  refine ⟨_, 1, rfl, Nat.le_refl _, by simp [maxLen], fun j x hj => ?_⟩
  match j, hj with
  | 0, hj => cases hj; exact ⟨_, 0, rfl, by simp, by rw [cell_new]; rfl⟩
theorem places_two (n : Int) (g : Bool) (a b : Int) : (roadB n g = true ∧ Inside n [a, b]) ↔ (placeB n g a && placeB n g b) = true := by
  rw [Bool.and_eq_true, placeB_iff, placeB_iff]
  constructor
  · intro h
    exact ⟨⟨h.1, h.2 0 a rfl⟩, h.1, h.2 1 b rfl⟩
  · intro h
    refine ⟨h.1.1, fun j x hj => ?_⟩
    match j, hj with
    | 0, hj => cases hj; exact h.1.2
    | 1, hj => cases hj; exact h.2.2
theorem places_one (n : Int) (g : Bool) (a : Int) : (roadB n g = true ∧ Inside n [a]) ↔ placeB n g a = true := by
  rw [placeB_iff]
  constructor
  · intro h
    exact ⟨h.1, h.2 0 a rfl⟩
  · intro h
    refine ⟨h.1, fun j x hj => ?_⟩
    match j, hj with
    | 0, hj => cases hj; exact h.2
theorem arePlaces_two (n : Int) (g : Bool) (a b : Int) (v : Value) (w : World) (hv : ReadsI w v [a, b]) :
    Calls Try.prog 94 #[rd n g, v] w fun e w' => e = .returned (.bool (placeB n g a && placeB n g b)) ∧ Below w.heap.size w w' :=
  (arePlaces_any n g v [a, b] w hv).mono fun _ _ ⟨_, he, hi, hb⟩ => ⟨by rw [he, bool_of_iff (hi.trans (places_two n g a b)) Iff.rfl], hb⟩
theorem arePlaces_one (n : Int) (g : Bool) (a : Int) (v : Value) (w : World) (hv : ReadsI w v [a]) :
    Calls Try.prog 94 #[rd n g, v] w fun e w' => e = .returned (.bool (placeB n g a)) ∧ Below w.heap.size w w' :=
  (arePlaces_any n g v [a] w hv).mono fun _ _ ⟨_, he, hi, hb⟩ => ⟨by rw [he, bool_of_iff (hi.trans (places_one n g a)) Iff.rfl], hb⟩
/-- what GapOf answers -/
def gapR (n : Int) (g : Bool) (a b : Int) : Int × Bool := if placeB n g a && placeB n g b then (gapI n g a b, true) else (0, false)
theorem gapR_no {n : Int} {g : Bool} {a b : Int} (h : (placeB n g a && placeB n g b) = false) : gapR n g a b = (0, false) := by
  unfold gapR
  rw [h]
  rfl
theorem gapR_yes {n : Int} {g : Bool} {a b : Int} (h : (placeB n g a && placeB n g b) = true) : gapR n g a b = (gapI n g a b, true) := by
  unfold gapR
  rw [h]
  rfl
abbrev Keep2 (base : Nat) (n : Int) (g : Bool) (w w1 : World) : Prop :=
  Boxed base n g w w1 ∧ w1.cell? ⟨base, 0, none⟩ = some (.int .i64 n) ∧ w1.cell? ⟨base, 1, none⟩ = some (.bool g)
theorem keep2 {base : Nat} {n : Int} {g : Bool} {w w1 w2 : World} (h : Keep2 base n g w w1) (hb : Below w1.heap.size w1 w2) : Keep2 base n g w w2 := ⟨h.1.next hb, (h.1.next hb).c0, (h.1.next hb).c1⟩
theorem keep2_new {base : Nat} {n : Int} {g : Bool} {w w1 : World} (h : Boxed base n g w w1) : Keep2 base n g w w1.drew := ⟨h.next (below_drewN _ 1), h.c0, h.c1⟩
end Go.Proofs.Ytekahkeddpngpaa
