/-
  What is proved: what is a lane, of the model and of the program. Conditions: a slice that reads as a list of numbers.
-/
import Derived.Test.YthbmiigndhoopaaLna
import Derived.Test.YthbmiigndhoopaaMeb
namespace Go.Proofs.Ythbmiigndhoopaa
open Go.RowKit
set_option linter.unusedVariables false
set_option linter.unusedSimpArgs false

theorem ret_B {b : Bool} {R : Bool} (h : R = b) : Ending.returned (.bool b) = .returned (.bool R) := by rw [h]
theorem isLane_any (v : Value) (xs : List Int) (w : World) (hv : ReadsI w v xs) :
    Calls Try.prog 21 #[v] w fun e w' => e = .returned (.bool (laneB xs)) ∧ w' = w := by
  have HW := Lib.hid (fun w hv => within_any v xs 24 0 1 w hv)
  have HV := Lib.hid hv
  obtain ⟨y, c, rfl, hc, hm, hx⟩ := hv
  unfold maxLen at hm
  clear hx
  go_enter Try.func21, Try.ntmps21
  by_cases h3 : 3 ≤ xs.length
  · have HR := Lib.hid (show laneB xs = withB 24 0 1 xs by unfold laneB; rw [decide_eq_true h3]; rfl)
    have h3i : (3 : Int) ≤ xs.length := by omega
    go_wp2_with fail
    refine (HW.out _ HV.out).mono ?_
    rintro e w1 ⟨rfl, rfl⟩
    go_wp2_with fail
    go_ret
    exact ⟨ret_bool HR.out.symm, rfl⟩
  · have HR := Lib.hid (laneB_no (xs := xs) (fun h => h3 h.1))
    have h3i : ¬ (3 : Int) ≤ xs.length := by omega
    go_wp2_with fail
    go_ret
    exact ⟨ret_bool HR.out.symm, rfl⟩
def LnRel (xs : List Int) (r i : Value) : Prop := r = .bool false ∧ ∃ k : Nat, k ≤ xs.length ∧ k ≤ 25 ∧ i = .int .i64 k ∧ ∀ (j : Nat) x, j < k → xs[j]? = some x → x = 0 ∨ x = 1
set_option maxHeartbeats 800000 in
theorem l8Lane_any (v : Value) (xs : List Int) (w : World) (hv : ReadsI w v xs) :
    Calls Try.prog 60 #[v] w fun e w' => e = .returned (.bool (laneB xs)) ∧ w' = w := by
  have HI := Lib.hid (fun x a b w => l1In_any x a b w)
  obtain ⟨y, c, rfl, hc, hm, hx⟩ := hv
  have HL := Lib.hid hx
  clear hx
  unfold maxLen at hm
  go_enter Try.func60, Try.ntmps60
  go_wp2_with fail
  go_loopw [2, 3] (fun r i wr => LnRel xs r i ∧ wr = w) (fun _ i _ => xs.length - (intOf i).toNat)
  case atStart => exact ⟨⟨rfl, 0, Nat.zero_le _, by omega, rfl, fun j x hj _ => absurd hj (Nat.not_lt_zero _)⟩, rfl⟩
  case round =>
    obtain ⟨⟨rfl, k, hk, hk25, rfl, hin⟩, rfl⟩ := hrel
    have HIN := Lib.hid hin
    clear hin
    by_cases hlt : k < xs.length
    · by_cases h24 : k ≤ 24
      · obtain ⟨x, hxk⟩ := get_some hlt
        obtain ⟨b, o, rfl, hbl, hcell⟩ := HL.out k x hxk
        have HK := Lib.hid hxk
        have hi0 : 0 ≤ (k : Int) := by omega
        have hi1 : (k : Int) < xs.length := by omega
        have hi2 : (k : Int) ≤ 24 := by omega
        clear hxk
        go_wp2_with fail
        refine (HI.out x 0 1 _).mono ?_
        rintro e w' ⟨rfl, rfl⟩
        by_cases hin : x = 0 ∨ x = 1
        · have hd : (decide (0 ≤ x) && decide (x ≤ 1)) = true := by rw [Bool.and_eq_true, decide_eq_true_iff, decide_eq_true_iff]; omega
          rw [hd]
          go_wp2_with fail
          go_roundw
          case rel =>
            refine ⟨⟨rfl, k + 1, by omega, by omega, by go_num, fun j z hj hz => ?_⟩, by trivial⟩
            by_cases e : j = k
            · subst e
              rw [HK.out] at hz
              cases hz
              exact hin
            · exact HIN.out j z (by omega) hz
          case measure => simp [intOf] <;> omega
        · have hd : (decide (0 ≤ x) && decide (x ≤ 1)) = false := by rw [Bool.and_eq_false_iff, decide_eq_false_iff_not, decide_eq_false_iff_not]; omega
          have HR := Lib.hid (laneB_no (xs := xs) (fun h => hin (h.2.2 k x HK.out)))
          rw [hd]
          go_wp2_with fail
          go_ret
          exact ⟨ret_bool HR.out.symm, rfl⟩
      · have hi1 : (k : Int) < xs.length := by omega
        have hi2 : ¬ (k : Int) ≤ 24 := by omega
        have HR := Lib.hid (laneB_no (xs := xs) (fun h => by omega))
        go_wp2_with fail
        refine (HI.out (xs.length : Int) 3 24 _).mono ?_
        rintro e w' ⟨rfl, rfl⟩
        have hd : (decide ((3 : Int) ≤ (xs.length : Int)) && decide ((xs.length : Int) ≤ 24)) = false := by rw [Bool.and_eq_false_iff, decide_eq_false_iff_not, decide_eq_false_iff_not]; omega
        rw [hd]
        go_wp2_with fail
        go_ret
        exact ⟨ret_bool HR.out.symm, rfl⟩
    · have hi1 : ¬ (k : Int) < xs.length := by omega
      have HR : Hid (laneB xs = (decide ((3 : Int) ≤ (xs.length : Int)) && decide ((xs.length : Int) ≤ 24))) := Lib.hid (by
        rw [Bool.eq_iff_iff, laneB_iff, Bool.and_eq_true, decide_eq_true_iff, decide_eq_true_iff]
        constructor
        · rintro ⟨h1, h2, _⟩
          omega
        · rintro ⟨h1, h2⟩
          exact ⟨by omega, by omega, fun j x hx => HIN.out j x (by have := (List.getElem?_eq_some_iff.1 hx).1; omega) hx⟩)
      go_wp2_with fail
      refine (HI.out (xs.length : Int) 3 24 _).mono ?_
      rintro e w' ⟨rfl, rfl⟩
      rw [← HR.out]
      go_wp2_with fail
      go_ret
      exact ⟨rfl, rfl⟩
theorem spec_IsLane (v : Value) (xs : List Int) (w : World) (hv : ReadsI w v xs) :
    Calls Try.prog 19 #[v] w fun e w' => e = .returned (.bool (laneB xs)) ∧ Below w.heap.size w w' := by
  have HW := Lib.hid (fun w hv => l8Lane_any v xs w hv)
  have HV := Lib.hid hv
  clear hv
  go_enter Try.func19, Try.ntmps19
  go_wp2_with fail
  refine (HW.out _ HV.out).mono ?_
  rintro e w1 ⟨rfl, rfl⟩
  go_wp2_with fail
  go_ret
  exact ⟨rfl, Below.refl _ _⟩
theorem impl_IsLane (v : Value) (xs : List Int) (w : World) (hv : ReadsI w v xs) :
    Calls Try.prog 21 #[v] w fun e w' => e = .returned (.bool (laneB xs)) ∧ Below w.heap.size w w' :=
  (isLane_any v xs w hv).mono fun _ _ ⟨he, hw⟩ => ⟨he, hw ▸ Below.refl _ _⟩
def turnsB (xs : List Int) (t : Int) : Bool := laneB xs && (decide (0 ≤ t) && decide (t ≤ 60))
theorem turnsB_iff (xs : List Int) (t : Int) : turnsB xs t = true ↔ laneB xs = true ∧ 0 ≤ t ∧ t ≤ 60 := by
  unfold turnsB
  rw [Bool.and_eq_true, Bool.and_eq_true, decide_eq_true_iff, decide_eq_true_iff]
theorem l8Turns_any (v : Value) (xs : List Int) (t : Int) (w : World) (hv : ReadsI w v xs) :
    Calls Try.prog 66 #[v, .int .i64 t] w fun e w' => e = .returned (.bool (turnsB xs t)) ∧ w' = w := by
  have HW := Lib.hid (fun w hv => l8Lane_any v xs w hv)
  have HI := Lib.hid (fun x a b w => l1In_any x a b w)
  have HV := Lib.hid hv
  clear hv
  go_enter Try.func66, Try.ntmps66
  go_wp2_with fail
  refine (HW.out _ HV.out).mono ?_
  rintro e w1 ⟨rfl, rfl⟩
  cases hl : laneB xs
  · have HR := Lib.hid (show turnsB xs t = false by unfold turnsB; rw [hl]; rfl)
    clear hl
    go_wp2_with fail
    go_ret
    exact ⟨ret_bool HR.out.symm, rfl⟩
  · have HR := Lib.hid (show turnsB xs t = (decide (0 ≤ t) && decide (t ≤ 60)) by unfold turnsB; rw [hl]; rfl)
    clear hl
    go_wp2_with fail
    refine (HI.out t 0 60 _).mono ?_
    rintro e w1 ⟨rfl, rfl⟩
    rw [← HR.out]
    go_wp2_with fail
    go_ret
    exact ⟨rfl, rfl⟩
end Go.Proofs.Ythbmiigndhoopaa
