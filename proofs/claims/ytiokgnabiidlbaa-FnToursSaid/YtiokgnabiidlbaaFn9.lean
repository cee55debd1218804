/-
  What is proved: impl.GapOf and the model's answer alike. Conditions: none.
-/
import Derived.Test.YtiokgnabiidlbaaFn2
import Derived.Deep.RegionHeld3
namespace Go.Proofs.Ytiokgnabiidlbaa
open Go.RowKit

def riseI (n : Int) (g : Bool) (a b : Int) : Int := if g then (b - a + n) % n else b - a
theorem rise_val (n a b : Int) (ha : 0 ≤ a ∧ a < n) (hb : 0 ≤ b ∧ b < n) : (b - a + n) % n = if a ≤ b then b - a else b - a + n := by
  split
  · have e : b - a + n = (b - a) + n := rfl
    rw [e, Int.add_emod_right]
    exact Int.emod_eq_of_lt (by omega) (by omega)
  · exact Int.emod_eq_of_lt (by omega) (by omega)
theorem gap_max (n a b : Int) : gapI n false a b = max (riseI n false a b) (riseI n false b a) := by
  simp only [gapI, riseI, Bool.false_eq_true, if_false]
  omega
theorem gap_min (n a b : Int) (ha : 0 ≤ a ∧ a < n) (hb : 0 ≤ b ∧ b < n) : gapI n true a b = min (riseI n true a b) (riseI n true b a) := by
  simp only [gapI, riseI, if_true]
  rw [rise_val n a b ha hb, rise_val n b a hb ha]
  by_cases h : a ≤ b
  · by_cases h2 : b ≤ a
    · rw [if_pos h, if_pos h2]; omega
    · rw [if_pos h, if_neg h2]; omega
  · rw [if_neg h, if_pos (by omega)]; omega
theorem rise_any (n : Int) (g : Bool) (a b : Int) (w : World) (hn : 2 ≤ n ∧ n ≤ 24) (ha : 0 ≤ a ∧ a < n) (hb : 0 ≤ b ∧ b < n) :
    Calls Try.prog 86 #[rd n g, .int .i64 a, .int .i64 b] w fun e w' => e = .returned (.int .i64 (riseI n g a b)) ∧ Below w.heap.size w w' := by
  have hnz : n ≠ 0 := by omega
  have hsum : 0 ≤ b - a + n := by omega
  unfold rd at *
  go_enter Try.func86, Try.ntmps86
  cases g
  · go_wp2
    go_ret
    exact ⟨ret_int (by simp [riseI]), below_new w _⟩
  · go_wp2
    go_ret
    exact ⟨ret_int (by simp [riseI]), below_new w _⟩
theorem ints_two_at {w : World} {a b : Int} {t : TypeId} (k : Nat) (hk : w.heap.size = k) : ReadsI (w.alloc (.cells #[.int .i64 a, .int .i64 b] t)) (.slice (some ⟨k, 0, none⟩) 2 2) [a, b] := by
  subst hk
  refine ⟨_, 2, rfl, Nat.le_refl _, by simp [maxLen], fun j x hj => ?_⟩
  match j, hj with
  | 0, hj => cases hj; exact ⟨_, 0, rfl, by simp, by rw [cell_new]; rfl⟩
  | 1, hj => cases hj; exact ⟨_, 0, rfl, by simp, by rw [cell_new]; rfl⟩
theorem ints_one_at {w : World} {a : Int} {t : TypeId} (k : Nat) (hk : w.heap.size = k) : ReadsI (w.alloc (.cells #[.int .i64 a] t)) (.slice (some ⟨k, 0, none⟩) 1 1) [a] := by
  subst hk
  refine ⟨_, 1, rfl, Nat.le_refl _, by simp [maxLen], fun j x hj => ?_⟩
  match j, hj with
  | 0, hj => cases hj; exact ⟨_, 0, rfl, by simp, by rw [cell_new]; rfl⟩
theorem places_two (n : Int) (g : Bool) (a b : Int) : (roadB n g = true ∧ Inside n [a, b]) ↔ (placeB n g a && placeB n g b) = true := by
  rw [Bool.and_eq_true, placeB_iff, placeB_iff]
  constructor
  · intro h
    exact ⟨⟨h.1, h.2 0 a rfl⟩, h.1, h.2 1 b rfl⟩
  · intro h
    refine ⟨h.1.1, fun j x hj => ?_⟩
    match j, hj with
    | 0, hj => cases hj; exact h.1.2
    | 1, hj => cases hj; exact h.2.2
theorem places_one (n : Int) (g : Bool) (a : Int) : (roadB n g = true ∧ Inside n [a]) ↔ placeB n g a = true := by
  rw [placeB_iff]
  constructor
  · intro h
    exact ⟨h.1, h.2 0 a rfl⟩
  · intro h
    refine ⟨h.1, fun j x hj => ?_⟩
    match j, hj with
    | 0, hj => cases hj; exact h.2
theorem arePlaces_two (n : Int) (g : Bool) (a b : Int) (v : Value) (w : World) (hv : ReadsI w v [a, b]) :
    Calls Try.prog 68 #[rd n g, v] w fun e w' => e = .returned (.bool (placeB n g a && placeB n g b)) ∧ Below w.heap.size w w' :=
  (arePlaces_any n g v [a, b] w hv).mono fun _ _ ⟨_, he, hi, hb⟩ => ⟨by rw [he, bool_of_iff (hi.trans (places_two n g a b)) Iff.rfl], hb⟩
theorem arePlaces_one (n : Int) (g : Bool) (a : Int) (v : Value) (w : World) (hv : ReadsI w v [a]) :
    Calls Try.prog 68 #[rd n g, v] w fun e w' => e = .returned (.bool (placeB n g a)) ∧ Below w.heap.size w w' :=
  (arePlaces_any n g v [a] w hv).mono fun _ _ ⟨_, he, hi, hb⟩ => ⟨by rw [he, bool_of_iff (hi.trans (places_one n g a)) Iff.rfl], hb⟩
/-- what GapOf answers -/
def gapR (n : Int) (g : Bool) (a b : Int) : Int × Bool := if placeB n g a && placeB n g b then (gapI n g a b, true) else (0, false)
theorem gapR_no {n : Int} {g : Bool} {a b : Int} (h : (placeB n g a && placeB n g b) = false) : gapR n g a b = (0, false) := by
  unfold gapR
  rw [h]
  rfl
theorem gapR_yes {n : Int} {g : Bool} {a b : Int} (h : (placeB n g a && placeB n g b) = true) : gapR n g a b = (gapI n g a b, true) := by
  unfold gapR
  rw [h]
  rfl
abbrev Keep2 (base : Nat) (n : Int) (g : Bool) (w w1 : World) : Prop :=
  Boxed base n g w w1 ∧ w1.cell? ⟨base, 0, none⟩ = some (.int .i64 n) ∧ w1.cell? ⟨base, 1, none⟩ = some (.bool g)
theorem keep2 {base : Nat} {n : Int} {g : Bool} {w w1 w2 : World} (h : Keep2 base n g w w1) (hb : Below w1.heap.size w1 w2) : Keep2 base n g w w2 := ⟨h.1.next hb, (h.1.next hb).c0, (h.1.next hb).c1⟩
theorem keep2_new {base : Nat} {n : Int} {g : Bool} {w w1 : World} (h : Boxed base n g w w1) : Keep2 base n g w w1.drew := ⟨h.next (below_drewN _ 1), h.c0, h.c1⟩
set_option maxHeartbeats 800000 in
set_option maxRecDepth 20000 in
theorem impl_GapOf (n : Int) (g : Bool) (a b : Int) (w : World) :
    Calls Try.prog 41 #[rd n g, .int .i64 a, .int .i64 b] w fun e w' => e = .returned (.tuple #[.int .i64 (gapR n g a b).1, .bool (gapR n g a b).2]) ∧ Below w.heap.size w w' := by
  have HP := Lib.hid (fun v w hv => arePlaces_two n g a b v w hv)
  have HRI := Lib.hid (fun a b w hn ha hb => rise_any n g a b w hn ha hb)
  have HX0 := Lib.hid (Boxed.first w n g 25)
  unfold rd at *
  go_enter Try.func41, Try.ntmps41
  go_wp2_with fail
  refine (HP.out _ _ (ints_two_at _ (by simp))).mono ?_
  rintro e w1 ⟨rfl, hb⟩
  have HX := Lib.hid ((HX0.out.next (below_new _ _)).next hb)
  clear hb HX0
  cases hp : (placeB n g a && placeB n g b)
  · have HR := Lib.hid (gapR_no hp)
    clear hp
    go_wp2_with fail
    go_ret2
    exact ⟨ret_R HR.out, HX.out.below⟩
  · have HR := Lib.hid (gapR_yes hp)
    have h34 := Bool.and_eq_true_iff.1 hp
    have h3 := (placeB_iff n g a).1 h34.1
    have h4 := (placeB_iff n g b).1 h34.2
    have h5 := (roadB_iff n g).1 h3.1
    have H3 := Lib.hid h3.2
    have H4 := Lib.hid h4.2
    have H5 := Lib.hid h5
    clear hp h34 h3 h4 h5
    go_wp2_with fail
    go_region_held3 (fun w' => Boxed w.heap.size n g w w' ∧ w'.cell? ⟨w.heap.size, 0, none⟩ = some (.int .i64 n) ∧ w'.cell? ⟨w.heap.size, 1, none⟩ = some (.bool g)) (first | exact hS | exact keep2_new HX.out)
      (first | (go_at_call 86; refine (HRI.out _ _ _ ?_ ?_ ?_).mono ?_; exact ⟨H5.out.1, H5.out.2.1⟩; (first | exact H3.out | exact H4.out); (first | exact H4.out | exact H3.out); rintro e w2 ⟨rfl, hb⟩; have hS : Keep2 w.heap.size n g w w2 := keep2 (by assumption) hb; clear hb))
    have HX := Lib.hid hS.1
    have h1 := HX.out.c1
    clear hS
    cases g
    · have HM := Lib.hid (gap_max n a b)
      generalize riseI n false a b = p at *
      generalize riseI n false b a = q at *
      rcases Int.lt_trichotomy p q with hle | rfl | hle
      all_goals
        go_wp2
        go_ret2
        exact ⟨ret_R (HR.out.trans (by rw [HM.out]; congr 1; omega)), HX.out.below⟩
    · have HM := Lib.hid (gap_min n a b H3.out H4.out)
      generalize riseI n true a b = p at *
      generalize riseI n true b a = q at *
      rcases Int.lt_trichotomy p q with hle | rfl | hle
      all_goals
        go_wp2
        go_ret2
        exact ⟨ret_R (HR.out.trans (by rw [HM.out]; congr 1; omega)), HX.out.below⟩
end Go.Proofs.Ytiokgnabiidlbaa
