/-
  What is proved: impl.PlaceAt, impl.StepCount, impl.GapOf and the model's answer alike. Conditions: those of each contract.
-/
import Derived.Test.YtiokgnabiidlbaaFn1
namespace Go.Proofs.Ytiokgnabiidlbaa
open Go.RowKit

theorem ret_R {R : Int × Bool} {a : Int} {b : Bool} (h : R = (a, b)) : Ending.returned (.tuple #[.int .i64 a, .bool b]) = .returned (.tuple #[.int .i64 R.1, .bool R.2]) := by rw [h]
def atI (xs : List Int) (t : Int) : Int := xs.getD (min t ((xs.length : Int) - 1)).toNat 0
theorem l2At_any (v : Value) (xs : List Int) (t : Int) (w : World) (hv : ReadsI w v xs) (hl : 1 ≤ xs.length) (ht : 0 ≤ t) :
    Calls Try.prog 67 #[v, .int .i64 t] w fun e w' => e = .returned (.int .i64 (atI xs t)) ∧ w = w' := by
  have hle := fun w => l1Least_any t ((xs.length : Int) - 1) w
  obtain ⟨y, c, rfl, hc, hm, hx⟩ := hv
  unfold maxLen at hm
  obtain ⟨k, hk⟩ : ∃ k : Nat, min t ((xs.length : Int) - 1) = (k : Int) := ⟨(min t ((xs.length : Int) - 1)).toNat, by omega⟩
  have hkl : k < xs.length := by omega
  obtain ⟨x, hxk⟩ := get_some hkl
  obtain ⟨b, o, rfl, hb, hcell⟩ := hx k x hxk
  have hat : atI xs t = x := by
    unfold atI
    rw [hk]
    simp [List.getD, hxk]
  rw [hk] at hle
  have HA := Lib.hid hat
  have HL := Lib.hid hle
  clear hx hxk hk hat hle
  go_enter Try.func67, Try.ntmps67
  go_wp2_with (go_at_call 74; refine (HL.out _).mono ?_; rintro e w' ⟨rfl, rfl⟩)
  go_ret
  exact ⟨ret_int HA.out.symm, rfl⟩
theorem placeAt_any (v : Value) (xs : List Int) (t : Int) (w : World) (hv : ReadsI w v xs) (hl : 1 ≤ xs.length) (ht : 0 ≤ t) :
    Calls Try.prog 66 #[v, .int .i64 t] w fun e w' => e = .returned (.int .i64 (atI xs t)) ∧ w = w' := by
  obtain ⟨y, c, rfl, hc, hm, hx⟩ := hv
  unfold maxLen at hm
  obtain ⟨k, hk⟩ : ∃ k : Nat, min t ((xs.length : Int) - 1) = (k : Int) := ⟨(min t ((xs.length : Int) - 1)).toNat, by omega⟩
  have hkl : k < xs.length := by omega
  obtain ⟨x, hxk⟩ := get_some hkl
  obtain ⟨b, o, rfl, hb, hcell⟩ := hx k x hxk
  have hat : atI xs t = x := by
    unfold atI
    rw [hk]
    simp [List.getD, hxk]
  have HA := Lib.hid hat
  have HK := Lib.hid hk
  clear hx hxk hat
  by_cases h : t ≤ (xs.length : Int) - 1
  · have hkt : t = (k : Int) := by omega
    subst hkt
    clear hk
    go_enter Try.func66, Try.ntmps66
    go_wp2
    go_ret
    exact ⟨ret_int HA.out.symm, rfl⟩
  · have hkt : k = xs.length - 1 := by omega
    subst hkt
    clear hk
    go_enter Try.func66, Try.ntmps66
    go_wp2
    go_ret
    exact ⟨ret_int HA.out.symm, rfl⟩
/-- what PlaceAt answers -/
noncomputable def placeR (n : Int) (g : Bool) (xs : List Int) (t : Int) : Int × Bool := if walkD n g xs = true ∧ 0 ≤ t then (atI xs t, true) else (0, false)
theorem placeR_yes {n : Int} {g : Bool} {xs : List Int} {t : Int} (h : walkD n g xs = true) (ht : 0 ≤ t) : placeR n g xs t = (atI xs t, true) := if_pos ⟨h, ht⟩
theorem placeR_no {n : Int} {g : Bool} {xs : List Int} {t : Int} (h : walkD n g xs = false ∨ t < 0) : placeR n g xs t = (0, false) := by
  refine if_neg fun h2 => ?_
  rcases h with h | h
  · rw [h] at h2
    cases h2.1
  · omega
theorem spec_PlaceAt (n : Int) (g : Bool) (v : Value) (xs : List Int) (t : Int) (w : World) (hv : ReadsI w v xs) :
    Calls Try.prog 28 #[rd n g, v, .int .i64 t] w fun e w' => e = .returned (.tuple #[.int .i64 (placeR n g xs t).1, .bool (placeR n g xs t).2]) ∧ Below w.heap.size w w' := by
  have HW := Lib.hid (fun w hv => l2Walk_is n g v xs w hv)
  have HP := Lib.hid (fun w hv hl ht => l2At_any v xs t w hv hl ht)
  have HX := Lib.hid (Boxed.first w n g 25)
  have HV := Lib.hid hv
  clear hv
  unfold rd at *
  go_enter Try.func28, Try.ntmps28
  go_wp2_with fail
  refine (HW.out _ (HV.out.below HX.out.below)).mono ?_
  rintro e w1 ⟨rfl, hb⟩
  have HX := Lib.hid (HX.out.next hb)
  clear hb
  cases hw : walkD n g xs
  · go_wp2_with fail
    go_ret2
    exact ⟨ret_R (placeR_no (.inl hw)), HX.out.below⟩
  · by_cases ht : t < 0
    · go_wp2_with fail
      go_ret2
      exact ⟨ret_R (placeR_no (.inr ht)), HX.out.below⟩
    · have hl := ((walkD_iff n g xs).1 hw).2.1
      have HL := Lib.hid hl
      clear hl
      go_wp2_with fail
      refine (HP.out _ (HV.out.below HX.out.below) HL.out (by omega)).mono ?_
      rintro e w2 ⟨rfl, rfl⟩
      go_wp2_with fail
      go_ret2
      exact ⟨ret_R (placeR_yes hw (by omega)), HX.out.below⟩
theorem impl_PlaceAt (n : Int) (g : Bool) (v : Value) (xs : List Int) (t : Int) (w : World) (hv : ReadsI w v xs) :
    Calls Try.prog 27 #[rd n g, v, .int .i64 t] w fun e w' => e = .returned (.tuple #[.int .i64 (placeR n g xs t).1, .bool (placeR n g xs t).2]) ∧ Below w.heap.size w w' := by
  have HP := Lib.hid (fun w hv hl ht => placeAt_any v xs t w hv hl ht)
  have HX := Lib.hid (Boxed.first w n g 25)
  have HV := Lib.hid hv
  have HVB := Lib.hid (hv.below (below_new w (.cells #[.int .i64 n, .bool g] 25)))
  obtain ⟨y, c, hvv, _⟩ := hv
  subst hvv
  have HW := Lib.hid (fun v w hv => areWalks_one n g v xs w hv)
  unfold rd at *
  go_enter Try.func27, Try.ntmps27
  go_wp2_with fail
  refine (HW.out _ _ (one_list_at HVB.out _ (by simp))).mono ?_
  rintro e w1 ⟨rfl, hb⟩
  have HX := Lib.hid ((HX.out.next (below_new _ _)).next hb)
  clear hb
  cases hw : walkD n g xs
  · go_wp2_with fail
    go_ret2
    exact ⟨ret_R (placeR_no (.inl hw)), HX.out.below⟩
  · by_cases ht : t < 0
    · go_wp2_with fail
      go_ret2
      exact ⟨ret_R (placeR_no (.inr ht)), HX.out.below⟩
    · have hl := ((walkD_iff n g xs).1 hw).2.1
      have HL := Lib.hid hl
      clear hl
      go_wp2_with fail
      refine (HP.out _ (HV.out.below HX.out.below) HL.out (by omega)).mono ?_
      rintro e w2 ⟨rfl, rfl⟩
      go_wp2_with fail
      go_ret2
      exact ⟨ret_R (placeR_yes hw (by omega)), HX.out.below⟩
end Go.Proofs.Ytiokgnabiidlbaa
