/-
  What is proved: impl.StraightWalk and the model's answer alike. Conditions: none.
-/
import Derived.Test.YtnclfdfnhhicdaaFn12
namespace Go.Proofs.Ytnclfdfnhhicdaa
open Go.RowKit

theorem posUp {n a : Int} {k : Nat} (ha : 0 ≤ a ∧ a < n) (hk : (k : Int) ≤ n) : posC n true a 1 k = if a + k < n then a + k else a + k - n := by
  unfold posC
  simp only [if_true, Int.one_mul]
  split
  · exact Int.emod_eq_of_lt (by omega) (by omega)
  · have e : a + (k : Int) = (a + k - n) + n := by omega
    rw [e, Int.add_emod_right]
    rw [Int.emod_eq_of_lt (by omega) (by omega)]
    omega
theorem posDn {n a : Int} {k : Nat} (ha : 0 ≤ a ∧ a < n) (hk : (k : Int) ≤ n) : posC n true a (-1) k = if (k : Int) ≤ a then a - k else a - k + n := by
  unfold posC
  simp only [if_true]
  have e0 : a + -1 * (k : Int) = a - k := by omega
  rw [e0]
  split
  · exact Int.emod_eq_of_lt (by omega) (by omega)
  · rw [← Int.add_emod_right]
    exact Int.emod_eq_of_lt (by omega) (by omega)
theorem posLu {n a : Int} {k : Nat} (ha : 0 ≤ a ∧ a < n) : posC n false a 1 k = min (a + k) (n - 1) := by
  unfold posC
  simp only [Bool.false_eq_true, if_false]
  omega
theorem posLd {n a : Int} {k : Nat} (ha : 0 ≤ a ∧ a < n) : posC n false a (-1) k = max (a - k) 0 := by
  unfold posC
  simp only [Bool.false_eq_true, if_false]
  omega
/-- the way down is the shorter one -/
def downB (n : Int) (g : Bool) (a b : Int) : Bool := (g && decide (riseI n g b a < riseI n g a b)) || decide (riseI n g a b < 0)
theorem straight_up {n : Int} {g : Bool} {a b : Int} {m : Nat} (hn : 2 ≤ n) (ha : 0 ≤ a ∧ a < n) (hb : 0 ≤ b ∧ b < n) (hm : gapI n g a b = m) (hd : downB n g a b = false) :
    posC n g a 1 m = b ∧ (∀ k, k < m → posC n g a 1 k ≠ b) ∧ (∀ k, k < m → afterI n g (posC n g a 1 k) = posC n g a 1 (k + 1)) := by
  unfold downB at hd
  cases g
  · simp only [gapI, riseI, Bool.false_eq_true, if_false, Bool.false_and, Bool.false_or, decide_eq_false_iff_not] at hm hd
    refine ⟨by rw [posLu ha]; omega, fun k hk => by rw [posLu ha]; omega, fun k hk => ?_⟩
    rw [posLu ha, posLu ha]
    unfold afterI
    simp only [Bool.false_eq_true, false_and, if_false]
    omega
  · simp only [gapI, riseI, if_true, Bool.true_and, Bool.or_eq_false_iff, decide_eq_false_iff_not] at hm hd
    rw [rise_val n a b ha hb, rise_val n b a hb ha] at hd
    have hmn : (m : Int) ≤ n := by omega
    have key : (a ≤ b ∧ (m : Int) = b - a) ∨ (b < a ∧ (m : Int) = b - a + n) := by
      by_cases h1 : a ≤ b
      · by_cases h2 : b ≤ a
        · left; omega
        · rw [if_pos h1, if_neg h2] at hd
          left; omega
      · rw [if_neg h1, if_pos (by omega)] at hd
        right; omega
    refine ⟨?_, fun k hk => ?_, fun k hk => ?_⟩
    · rw [posUp ha hmn]
      split <;> omega
    · rw [posUp ha (by omega)]
      split <;> omega
    · rw [posUp ha (by omega), posUp ha (by omega)]
      unfold afterI
      simp only [true_and]
      by_cases c1 : a + (k : Int) < n
      · rw [if_pos c1]
        by_cases c2 : a + ((k + 1 : Nat) : Int) < n
        · rw [if_pos c2, if_neg (by omega)]; omega
        · rw [if_neg c2, if_pos (by omega)]; omega
      · rw [if_neg c1, if_neg (by omega), if_neg (by omega)]; omega
theorem straight_dn {n : Int} {g : Bool} {a b : Int} {m : Nat} (hn : 2 ≤ n) (ha : 0 ≤ a ∧ a < n) (hb : 0 ≤ b ∧ b < n) (hm : gapI n g a b = m) (hd : downB n g a b = true) :
    posC n g a 1 m ≠ b ∧ posC n g a (-1) m = b ∧ (∀ k, k < m → posC n g a (-1) k ≠ b) ∧ (∀ k, k < m → beforeI n g (posC n g a (-1) k) = posC n g a (-1) (k + 1)) := by
  unfold downB at hd
  cases g
  · simp only [gapI, riseI, Bool.false_eq_true, if_false, Bool.false_and, Bool.false_or, decide_eq_true_eq] at hm hd
    refine ⟨by rw [posLu ha]; omega, by rw [posLd ha]; omega, fun k hk => by rw [posLd ha]; omega, fun k hk => ?_⟩
    rw [posLd ha, posLd ha]
    unfold beforeI
    simp only [Bool.false_eq_true, false_and, if_false]
    omega
  · simp only [gapI, riseI, if_true, Bool.true_and, Bool.or_eq_true, decide_eq_true_eq] at hm hd
    rw [rise_val n a b ha hb, rise_val n b a hb ha] at hd
    have hmn : (m : Int) ≤ n := by omega
    have key : (b < a ∧ (m : Int) = a - b ∧ a - b < b - a + n) ∨ (a < b ∧ (m : Int) = a - b + n ∧ a - b + n < b - a) := by
      by_cases h1 : a ≤ b
      · by_cases h2 : b ≤ a
        · rw [if_pos h1, if_pos h2] at hd
          omega
        · rw [if_pos h1, if_neg h2] at hd
          right; omega
      · rw [if_neg h1, if_pos (by omega)] at hd
        left; omega
    refine ⟨?_, ?_, fun k hk => ?_, fun k hk => ?_⟩
    · rw [posUp ha hmn]
      split <;> omega
    · rw [posDn ha hmn]
      split <;> omega
    · rw [posDn ha (by omega)]
      split <;> omega
    · rw [posDn ha (by omega), posDn ha (by omega)]
      unfold beforeI
      simp only [true_and]
      by_cases c1 : (k : Int) ≤ a
      · rw [if_pos c1]
        by_cases c2 : ((k + 1 : Nat) : Int) ≤ a
        · rw [if_pos c2, if_neg (by omega)]; omega
        · rw [if_neg c2, if_pos (by omega)]; omega
      · rw [if_neg c1, if_neg (by omega), if_neg (by omega)]; omega
/-- the shortest walk -/
def straightL (n : Int) (g : Bool) (a b : Int) : List Int := wlk (posC n g a (if downB n g a b then -1 else 1)) (gapI n g a b).toNat
theorem gap_range (n : Int) (g : Bool) (a b : Int) (hn : 2 ≤ n ∧ n ≤ 24) (ha : 0 ≤ a ∧ a < n) (hb : 0 ≤ b ∧ b < n) : 0 ≤ gapI n g a b ∧ gapI n g a b ≤ 24 := by
  unfold gapI
  cases g
  · simp only [Bool.false_eq_true, if_false]; omega
  · simp only [if_true]; omega
/-- what StraightWalk answers -/
def straightR (n : Int) (g : Bool) (a b : Int) : List Int × Bool := if placeB n g a && placeB n g b then (straightL n g a b, true) else ([], false)
theorem straightR_no {n : Int} {g : Bool} {a b : Int} (h : (placeB n g a && placeB n g b) = false) : straightR n g a b = ([], false) := by
  unfold straightR
  rw [h]
  rfl
theorem straightR_yes {n : Int} {g : Bool} {a b : Int} (h : (placeB n g a && placeB n g b) = true) : straightR n g a b = (straightL n g a b, true) := by
  unfold straightR
  rw [h]
  rfl
theorem straightR_len (n : Int) (g : Bool) (a b : Int) : (straightR n g a b).1.length ≤ 1048576 := by
  cases hp : (placeB n g a && placeB n g b)
  · rw [straightR_no hp]
    simp
  · rw [straightR_yes hp]
    have h34 := Bool.and_eq_true_iff.1 hp
    have h3 := (placeB_iff n g a).1 h34.1
    have h4 := (placeB_iff n g b).1 h34.2
    have h5 := (roadB_iff n g).1 h3.1
    have := gap_range n g a b ⟨h5.1, h5.2.1⟩ h3.2 h4.2
    simp only [straightL, wlk_len]
    omega
set_option maxHeartbeats 800000 in
set_option maxRecDepth 20000 in
theorem impl_StraightWalk (n : Int) (g : Bool) (a b : Int) (w : World) :
    Calls Try.prog 87 #[rd n g, .int .i64 a, .int .i64 b] w (OwnsB w.heap.size (straightR n g a b).1 (straightR n g a b).2 w) := by
  have HP := Lib.hid (fun v w hv => arePlaces_two n g a b v w hv)
  have HRI := Lib.hid (fun a b w hn ha hb => rise_any n g a b w hn ha hb)
  have HX0 := Lib.hid (Boxed.first w n g 27)
  unfold rd at *
  go_enter Try.func87, Try.ntmps87
  go_wp2_with fail
  refine (HP.out _ _ (ints_two_at _ (by simp))).mono ?_
  rintro e w1 ⟨rfl, hb⟩
  have HX := Lib.hid ((HX0.out.next (below_new _ _)).next hb)
  clear hb HX0
  cases hp : (placeB n g a && placeB n g b)
  · have HR := Lib.hid (straightR_no hp)
    have HO := Lib.hid (made_at w1 (w.heap.size + 1) w1.heap.size rfl (Nat.succ_le_of_lt HX.out.size))
    clear hp
    go_wp2_with fail
    go_ret2
    exact owns_R (zs := []) (b := false) HR.out (owns_out (HX.out.next (below_new _ _)) HO.out)
  · have HR := Lib.hid (straightR_yes hp)
    have h34 := Bool.and_eq_true_iff.1 hp
    have h3 := (placeB_iff n g a).1 h34.1
    have h4 := (placeB_iff n g b).1 h34.2
    have h5 := (roadB_iff n g).1 h3.1
    have H3 := Lib.hid h3.2
    have H4 := Lib.hid h4.2
    have H5 := Lib.hid h5
    obtain ⟨m, hm⟩ : ∃ m : Nat, gapI n g a b = (m : Int) := ⟨(gapI n g a b).toNat, by have := (gap_range n g a b ⟨h5.1, h5.2.1⟩ h3.2 h4.2).1; omega⟩
    have hm24 : m ≤ 24 := by have := (gap_range n g a b ⟨h5.1, h5.2.1⟩ h3.2 h4.2).2; omega
    have HUP := Lib.hid (fun hd => straight_up (g := g) h5.1 h3.2 h4.2 hm hd)
    have HDN := Lib.hid (fun hd => straight_dn (g := g) h5.1 h3.2 h4.2 hm hd)
    have HSL := Lib.hid (show straightL n g a b = wlk (posC n g a (if downB n g a b then -1 else 1)) m by unfold straightL; rw [hm]; rfl)
    clear hp h34 h3 h4 h5 hm
    go_wp2_with fail
    go_region_held3 (fun w' => Boxed w.heap.size n g w w' ∧ w'.cell? ⟨w.heap.size, 0, none⟩ = some (.int .i64 n) ∧ w'.cell? ⟨w.heap.size, 1, none⟩ = some (.bool g)) (first | exact hS | exact keep2_new HX.out)
      (first | (go_at_call 99; refine (HRI.out _ _ _ ?_ ?_ ?_).mono ?_; exact ⟨H5.out.1, H5.out.2.1⟩; (first | exact H3.out | exact H4.out); (first | exact H4.out | exact H3.out); rintro e w2 ⟨rfl, hb⟩; have hS : Keep2 w.heap.size n g w w2 := keep2 (by assumption) hb; clear hb))
    have HX2 := Lib.hid hS.1
    have h0 := HX2.out.c0
    have h1 := HX2.out.c1
    clear hS HX
    have HDB := Lib.hid (show downB n g a b = ((g && decide (riseI n g b a < riseI n g a b)) || decide (riseI n g a b < 0)) from rfl)
    generalize riseI n g a b = p at *
    generalize riseI n g b a = q at *
    cases hd : downB n g a b
    · have hdd := HDB.out.symm.trans hd
      have HU := Lib.hid (HUP.out hd)
      have HSL2 : Hid (straightL n g a b = wlk (posC n g a 1) m) := Lib.hid (by rw [HSL.out, hd]; rfl)
      have HWT := Lib.hid (fun w => walkTo_up n g a b (posC n g a 1) m w ⟨H5.out.1, H5.out.2.1⟩ (by omega) (posC_zero H3.out) (fun k _ => posC_range H5.out.1) HU.out.2.1 HU.out.1 HU.out.2.2)
      rw [Bool.or_eq_false_iff, decide_eq_false_iff_not] at hdd
      obtain ⟨hd1, hd2⟩ := hdd
      have fin : ∀ g', g' = g → True := fun _ _ => trivial
      by_cases hg : g = true
      · subst hg
        have hd3 : ¬ q < p := by simpa using hd1
        clear hd1 hd
        go_wp2_with fail
        refine (HWT.out _).mono ?_
        rintro e w3 ⟨u, rfl, ho, hb⟩
        have HX3 := Lib.hid (HX2.out.next hb)
        have HO := Lib.hid (owns_lower ho (Nat.le_of_lt HX2.out.size))
        clear hb ho
        go_wp2_with fail
        go_ret2
        rw [HR.out, HSL2.out]
        exact ⟨u, rfl, HO.out, HX3.out.below⟩
      · have hgf : g = false := by cases g; rfl; exact absurd rfl hg
        subst hgf
        clear hd1 hd hg
        go_wp2_with fail
        refine (HWT.out _).mono ?_
        rintro e w3 ⟨u, rfl, ho, hb⟩
        have HX3 := Lib.hid (HX2.out.next hb)
        have HO := Lib.hid (owns_lower ho (Nat.le_of_lt HX2.out.size))
        clear hb ho
        go_wp2_with fail
        go_ret2
        rw [HR.out, HSL2.out]
        exact ⟨u, rfl, HO.out, HX3.out.below⟩
    · have hdd := HDB.out.symm.trans hd
      have HU := Lib.hid (HDN.out hd)
      have HSL2 : Hid (straightL n g a b = wlk (posC n g a (-1)) m) := Lib.hid (by rw [HSL.out, hd]; rfl)
      have HWT := Lib.hid (fun w => walkTo_down n g a b (posC n g a (-1)) m w ⟨H5.out.1, H5.out.2.1⟩ (by omega) (posC_zero H3.out) (fun k _ => posC_range H5.out.1) HU.out.2.2.1 HU.out.2.1 HU.out.2.2.2)
      by_cases hg : g = true
      · subst hg
        by_cases hqp : q < p
        · clear hdd hd
          go_wp2_with fail
          refine (HWT.out _).mono ?_
          rintro e w3 ⟨u, rfl, ho, hb⟩
          have HX3 := Lib.hid (HX2.out.next hb)
          have HO := Lib.hid (owns_lower ho (Nat.le_of_lt HX2.out.size))
          clear hb ho
          go_wp2_with fail
          go_ret2
          rw [HR.out, HSL2.out]
          exact ⟨u, rfl, HO.out, HX3.out.below⟩
        · have hp0 : p < 0 := by simpa [hqp] using hdd
          clear hdd hd
          go_wp2_with fail
          refine (HWT.out _).mono ?_
          rintro e w3 ⟨u, rfl, ho, hb⟩
          have HX3 := Lib.hid (HX2.out.next hb)
          have HO := Lib.hid (owns_lower ho (Nat.le_of_lt HX2.out.size))
          clear hb ho
          go_wp2_with fail
          go_ret2
          rw [HR.out, HSL2.out]
          exact ⟨u, rfl, HO.out, HX3.out.below⟩
      · have hgf : g = false := by cases g; rfl; exact absurd rfl hg
        subst hgf
        have hp0 : p < 0 := by simpa using hdd
        clear hdd hd hg
        go_wp2_with fail
        refine (HWT.out _).mono ?_
        rintro e w3 ⟨u, rfl, ho, hb⟩
        have HX3 := Lib.hid (HX2.out.next hb)
        have HO := Lib.hid (owns_lower ho (Nat.le_of_lt HX2.out.size))
        clear hb ho
        go_wp2_with fail
        go_ret2
        rw [HR.out, HSL2.out]
        exact ⟨u, rfl, HO.out, HX3.out.below⟩
end Go.Proofs.Ytnclfdfnhhicdaa
