/-
  What is proved: the contracts of spec.l5Number, impl.dividedUp and of PauseBound, the model's and the program's. Conditions: those of each contract.
-/
import Derived.Test.YtefjignlhlpndaaPtc
import Derived.Test.YtefjignlhlpndaaPte
namespace Go.Proofs.Ytefjignlhlpndaa
open Go.RowKit
set_option linter.unusedVariables false
set_option linter.unusedSimpArgs false

/-- a valid road and a number of guards -/
def numB (n : Int) (g : Bool) (k : Int) : Bool := roadB n g && (decide (1 ≤ k) && decide (k ≤ 6))
theorem numB_iff (n : Int) (g : Bool) (k : Int) : numB n g k = true ↔ roadB n g = true ∧ 1 ≤ k ∧ k ≤ 6 := by simp [numB]
theorem numB_no {n : Int} {g : Bool} {k : Int} (h : ¬ (roadB n g = true ∧ 1 ≤ k ∧ k ≤ 6)) : numB n g k = false := by
  cases hb : numB n g k
  · rfl
  · exact absurd ((numB_iff n g k).1 hb) h
theorem l5Number_any (n : Int) (g : Bool) (k : Int) (w : World) :
    Calls Try.prog 54 #[rd n g, .int .i64 k] w fun e w' => e = .returned (.bool (numB n g k)) ∧ Below w.heap.size w w' := by
  have HRO := Lib.hid (fun w => l2Road_any n g w)
  have HIN := Lib.hid (fun w => l1In_any k 1 6 w)
  have HX := Lib.hid (Boxed.first w n g 28)
  unfold rd at *
  go_enter Try.func54, Try.ntmps54
  go_wp2_with fail
  refine (HRO.out _).mono ?_
  rintro e w1 ⟨rfl, hb⟩
  have HX := Lib.hid (HX.out.next hb)
  clear hb
  cases hr : roadB n g
  · have HR := Lib.hid (numB_no (n := n) (g := g) (k := k) (fun h => by rw [hr] at h; cases h.1))
    go_wp2_with fail
    go_ret
    exact ⟨ret_bool HR.out.symm, HX.out.below⟩
  · have HR := Lib.hid (show numB n g k = (decide (1 ≤ k) && decide (k ≤ 6)) by unfold numB; rw [hr]; rfl)
    go_wp2_with fail
    refine (HIN.out _).mono ?_
    rintro e w2 ⟨rfl, rfl⟩
    go_wp2_with fail
    go_ret
    exact ⟨ret_bool HR.out.symm, HX.out.below⟩
theorem dividedUp_any (a k : Int) (w : World) (ha : 0 ≤ a ∧ a ≤ 1000) (hk : 1 ≤ k ∧ k ≤ 6) :
    Calls Try.prog 56 #[.int .i64 a, .int .i64 k] w fun e w' => e = .returned (.int .i64 ((a + k - 1) / k)) ∧ w = w' := by
  obtain ⟨ha0, ha1⟩ := ha
  obtain ⟨hk0, hk1⟩ := hk
  have h1 : 0 ≤ a + k - 1 := by omega
  have h2 : k ≠ 0 := by omega
  have h3 : ¬ k = 0 := by omega
  have hw1 : IntKind.i64.wrap (a + k) = a + k := IntWalk.i64_in _ (by omega)
  have hw2 : IntKind.i64.wrap (a + k - 1) = a + k - 1 := IntWalk.i64_in _ (by omega)
  go_enter Try.func56, Try.ntmps56
  go_wp2
  go_ret
  exact ⟨ret_int (by first | rfl | omega), rfl⟩
def boundR (n : Int) (g : Bool) (k : Int) : Int × Bool := if numB n g k = true then (if k = 1 ∧ g = false then 2 * n - 2 else (n + k - 1) / k, true) else (0, false)
theorem boundR_no {n : Int} {g : Bool} {k : Int} (h : numB n g k = false) : boundR n g k = (0, false) := by unfold boundR; rw [h]; rfl
theorem boundR_one {n : Int} {k : Int} (h : numB n false k = true) (hk : k = 1) : boundR n false k = (2 * n - 2, true) := by unfold boundR; rw [if_pos h, if_pos ⟨hk, rfl⟩]
theorem boundR_up {n : Int} {g : Bool} {k : Int} (h : numB n g k = true) (hk : ¬ (k = 1 ∧ g = false)) : boundR n g k = ((n + k - 1) / k, true) := by unfold boundR; rw [if_pos h, if_neg hk]
theorem ret_RB {a : Int} {b : Bool} {R : Int × Bool} (h : R = (a, b)) : Ending.returned (.tuple #[.int .i64 a, .bool b]) = .returned (.tuple #[.int .i64 R.1, .bool R.2]) := by rw [h]
set_option maxHeartbeats 800000 in
theorem spec_PauseBound (n : Int) (g : Bool) (k : Int) (w : World) :
    Calls Try.prog 21 #[rd n g, .int .i64 k] w fun e w' => e = .returned (.tuple #[.int .i64 (boundR n g k).1, .bool (boundR n g k).2]) ∧ Below w.heap.size w w' := by
  have HNU := Lib.hid (fun w => l5Number_any n g k w)
  have HX := Lib.hid (Boxed.first w n g 28)
  unfold rd at *
  go_enter Try.func21, Try.ntmps21
  go_wp2_with fail
  refine (HNU.out _).mono ?_
  rintro e w1 ⟨rfl, hb⟩
  have HX := Lib.hid (HX.out.next hb)
  have hx0 := HX.out.c0
  have hx1 := HX.out.c1
  clear hb
  cases hnu : numB n g k
  · have HR := Lib.hid (boundR_no hnu)
    clear hnu
    go_wp2_with fail
    go_ret2
    exact ⟨ret_RB HR.out, HX.out.below⟩
  · obtain ⟨hr, hk1, hk6⟩ := (numB_iff n g k).1 hnu
    obtain ⟨hn2, hn24, _⟩ := (roadB_iff n g).1 hr
    have h1 : 0 ≤ n + k - 1 := by omega
    have h3 : ¬ k = 0 := by omega
    have hw0 : IntKind.i64.wrap (2 * n) = 2 * n := IntWalk.i64_in _ (by omega)
    have hw1 : IntKind.i64.wrap (n + k) = n + k := IntWalk.i64_in _ (by omega)
    have hw2 : IntKind.i64.wrap (n + k - 1) = n + k - 1 := IntWalk.i64_in _ (by omega)
    by_cases hk : k = 1
    · have hkb : (k == 1) = true := by rw [hk]; rfl
      cases g
      · have HR := Lib.hid (boundR_one hnu hk)
        clear hnu hr hk
        go_wp2_with fail
        go_ret2
        exact ⟨ret_RB HR.out, HX.out.below⟩
      · have HR := Lib.hid (boundR_up hnu (fun h => by cases h.2))
        clear hnu hr hk
        go_wp2_with fail
        go_ret2
        exact ⟨ret_RB HR.out, HX.out.below⟩
    · have hkb : (k == 1) = false := by rw [beq_eq_false_iff_ne]; exact hk
      have HR := Lib.hid (boundR_up hnu (fun h => hk h.1))
      clear hnu hr
      go_wp2_with fail
      go_ret2
      exact ⟨ret_RB HR.out, HX.out.below⟩
set_option maxHeartbeats 800000 in
theorem impl_PauseBound (n : Int) (g : Bool) (k : Int) (w : World) :
    Calls Try.prog 22 #[rd n g, .int .i64 k] w fun e w' => e = .returned (.tuple #[.int .i64 (boundR n g k).1, .bool (boundR n g k).2]) ∧ Below w.heap.size w w' := by
  have HRO := Lib.hid (fun w => isRoad_any n g w)
  have HGY := Lib.hid (fun k w h => guards_yes k w h)
  have HGN := Lib.hid (fun k w h => guards_no k w h)
  have HDU := Lib.hid (fun w ha hk => dividedUp_any n k w ha hk)
  have HX := Lib.hid (Boxed.first w n g 28)
  unfold rd at *
  go_enter Try.func22, Try.ntmps22
  go_wp2_with fail
  refine (HRO.out _).mono ?_
  rintro e w1 ⟨rfl, hb⟩
  have HX := Lib.hid (HX.out.next hb)
  have hx0 := HX.out.c0
  have hx1 := HX.out.c1
  clear hb
  cases hr : roadB n g
  · have HR := Lib.hid (boundR_no (n := n) (g := g) (k := k) (numB_no (fun h => by rw [hr] at h; cases h.1)))
    clear hr
    go_wp2_with fail
    go_ret2
    exact ⟨ret_RB HR.out, HX.out.below⟩
  · by_cases hk : 1 ≤ k ∧ k ≤ 6
    · have hnu := (numB_iff n g k).2 ⟨hr, hk⟩
      obtain ⟨hn2, hn24, _⟩ := (roadB_iff n g).1 hr
      have HK := Lib.hid hk
      have HRR := Lib.hid hr
      obtain ⟨hk1, hk6⟩ := hk
      clear hr
      have hw0 : IntKind.i64.wrap (2 * n) = 2 * n := IntWalk.i64_in _ (by omega)
      go_wp2_with fail
      refine (HGY.out _ _ HK.out).mono ?_
      rintro e w2 ⟨rfl, rfl⟩
      by_cases hk : k = 1
      · have hkb : (k == 1) = true := by rw [hk]; rfl
        cases g
        · have HR := Lib.hid (boundR_one hnu hk)
          clear hnu hk
          go_wp2_with fail
          go_ret2
          exact ⟨ret_RB HR.out, HX.out.below⟩
        · have HR := Lib.hid (boundR_up hnu (fun h => by cases h.2))
          have HN := Lib.hid (show 0 ≤ n ∧ n ≤ 1000 by omega)
          clear hnu hk
          go_wp2_with fail
          refine (HDU.out _ HN.out HK.out).mono ?_
          rintro e w2 ⟨rfl, rfl⟩
          go_wp2_with fail
          go_ret2
          exact ⟨ret_RB HR.out, HX.out.below⟩
      · have hkb : (k == 1) = false := by rw [beq_eq_false_iff_ne]; exact hk
        have HR := Lib.hid (boundR_up hnu (fun h => hk h.1))
        have HN := Lib.hid (show 0 ≤ n ∧ n ≤ 1000 by omega)
        clear hnu
        go_wp2_with fail
        refine (HDU.out _ HN.out HK.out).mono ?_
        rintro e w2 ⟨rfl, rfl⟩
        go_wp2_with fail
        go_ret2
        exact ⟨ret_RB HR.out, HX.out.below⟩
    · have HR := Lib.hid (boundR_no (n := n) (g := g) (k := k) (numB_no (fun h => hk h.2)))
      clear hr
      go_wp2_with fail
      refine (HGN.out _ _ hk).mono ?_
      rintro e w2 ⟨rfl, rfl⟩
      go_wp2_with fail
      go_ret2
      exact ⟨ret_RB HR.out, HX.out.below⟩
end Go.Proofs.Ytefjignlhlpndaa
