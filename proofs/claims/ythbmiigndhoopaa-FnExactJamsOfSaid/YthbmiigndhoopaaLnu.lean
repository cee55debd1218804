/-
  What is proved: TurnLane of the model and of the program. Conditions: a slice that reads as a list of numbers.
-/
import Derived.Test.YthbmiigndhoopaaLnt
import Derived.Test.YthbmiigndhoopaaLnp
namespace Go.Proofs.Ythbmiigndhoopaa
open Go.RowKit
set_option linter.unusedVariables false
set_option linter.unusedSimpArgs false

/-- what TurnLane answers -/
noncomputable def turnR (xs : List Int) : List Int × Int × Bool := if laneB xs = true then (lan xs.length (stp xs.length (carsOf xs)), ((flo xs.length (carsOf xs) : Nat) : Int), true) else ([], 0, false)
theorem turnR_len (xs : List Int) : (turnR xs).1.length ≤ 1048576 := by
  unfold turnR
  split
  · rename_i h
    have := ((laneB_iff xs).1 h).2.1
    show (lan _ _).length ≤ _
    rw [lan_len]
    omega
  · simp
theorem bi_R {base : Nat} {R : List Int × Int × Bool} {zs : List Int} {z : Int} {b : Bool} {w w' : World} {e : Ending} (hR : R = (zs, z, b)) (h : OwnsBI base zs z b w e w') : OwnsBI base R.1 R.2.1 R.2.2 w e w' := by
  rw [hR]
  exact h
theorem model_lane {xs : List Int} (h : laneB xs = true) : outTo xs xs.length = lan xs.length (stp xs.length (carsOf xs)) ∧ floTo xs xs.length = flo xs.length (carsOf xs) := by
  have h3 := ((laneB_iff xs).1 h).1
  have e := lan_cars h
  have h1 := outTo_lan (n := xs.length) (by omega) (cars_of xs)
  have h2 := floTo_lan (cars_of xs)
  rw [e] at h1 h2
  exact ⟨h1, h2⟩
set_option maxHeartbeats 800000 in
theorem spec_TurnLane (v : Value) (xs : List Int) (w : World) (hv : ReadsI w v xs) :
    Calls Try.prog 23 #[v] w (OwnsBI w.heap.size (turnR xs).1 (turnR xs).2.1 (turnR xs).2.2 w) := by
  have HW := Lib.hid (fun w hv => l8Lane_any v xs w hv)
  have HT := Lib.hid (fun w hv h1 h2 => l8Turn_any v xs w hv h1 h2)
  have HV := Lib.hid hv
  have HM := Lib.hid (made_at w w.heap.size w.heap.size rfl (Nat.le_refl _))
  have HB := Lib.hid (below_new w (.cells #[] 3))
  clear hv
  go_enter Try.func23, Try.ntmps23
  go_wp2_with fail
  refine (HW.out _ HV.out).mono ?_
  rintro e w1 ⟨rfl, rfl⟩
  cases hl : laneB xs
  · have HR := Lib.hid (show turnR xs = ([], 0, false) from if_neg (by rw [hl]; simp))
    clear hl
    go_wp2_with fail
    go_ret3
    exact bi_R HR.out ⟨_, rfl, HM.out, HB.out⟩
  · have HR := Lib.hid (show turnR xs = (lan xs.length (stp xs.length (carsOf xs)), ((flo xs.length (carsOf xs) : Nat) : Int), true) from if_pos hl)
    have HE := Lib.hid (model_lane hl)
    obtain ⟨h3, h24, _⟩ := (laneB_iff xs).1 hl
    clear hl
    go_wp2_with fail
    refine (HT.out _ HV.out (by omega) h24).mono ?_
    rw [HE.out.1, HE.out.2]
    rintro e w1 ⟨v1, rfl, ho, hb⟩
    have HO := Lib.hid ho
    have HB := Lib.hid hb
    clear ho hb
    go_wp2_with fail
    go_ret3
    exact bi_R HR.out ⟨_, rfl, HO.out, HB.out⟩
set_option maxHeartbeats 1600000 in
theorem impl_TurnLane (v : Value) (xs : List Int) (w : World) (hv : ReadsI w v xs) :
    Calls Try.prog 24 #[v] w (OwnsBI w.heap.size (turnR xs).1 (turnR xs).2.1 (turnR xs).2.2 w) := by
  have HW := Lib.hid (fun w hv => isLane_any v xs w hv)
  have HO := Lib.hid (fun w hv h => trafficOf_any v xs w hv h)
  have HT := Lib.hid (fun n v S w hv h1 h2 => turned_any n v S w hv h1 h2)
  have HLA := Lib.hid (fun n v S w hv h1 h2 => lane_any n true v S w hv h1 h2)
  have HV := Lib.hid hv
  have HM := Lib.hid (made_at w w.heap.size w.heap.size rfl (Nat.le_refl _))
  have HB := Lib.hid (below_new w (.cells #[] 3))
  clear hv
  go_enter Try.func24, Try.ntmps24
  go_wp2_with fail
  refine (HW.out _ HV.out).mono ?_
  rintro e w1 ⟨rfl, rfl⟩
  cases hl : laneB xs
  · have HR := Lib.hid (show turnR xs = ([], 0, false) from if_neg (by rw [hl]; simp))
    clear hl
    go_wp2_with fail
    go_ret3
    exact bi_R HR.out ⟨_, rfl, HM.out, HB.out⟩
  · have HR := Lib.hid (show turnR xs = (lan xs.length (stp xs.length (carsOf xs)), ((flo xs.length (carsOf xs) : Nat) : Int), true) from if_pos hl)
    obtain ⟨h3, h24, _⟩ := (laneB_iff xs).1 hl
    have HC := Lib.hid (cars_of xs)
    have HC2 := Lib.hid (stp_cars (by omega) (cars_of xs))
    have hln := (cars_of xs).len
    clear hl HM HB
    go_wp2_with fail
    refine (HO.out _ HV.out (by omega)).mono ?_
    rintro e w1 ⟨v1, rfl, ho, hb⟩
    have HB := Lib.hid hb
    have HRD := Lib.hid (owns_reads (by rw [cas_len]; exact ho) (by rw [cas_len]; unfold maxLen; omega))
    clear ho hb
    unfold trV at *
    go_wp2_with fail
    refine (HT.out xs.length _ (carsOf xs) _ HRD.out HC.out ⟨h3, h24⟩).mono ?_
    rintro e w2 ⟨v2, rfl, ho, hb⟩
    have HB := Lib.hid (HB.out.trans (hb.mono HB.out.size))
    have HRD := Lib.hid ((owns_reads (by rw [cas_len]; exact ho) (by rw [cas_len, stp_len]; unfold maxLen; omega)).below (below_new _ (.cells (trC xs.length true v2) 58)))
    have HK := Lib.hid (blk_new w2 (trC xs.length true v2) 58)
    have c0 := HK.out.cell 0
    have c1 := HK.out.cell 1
    have c2 := HK.out.cell 2
    have HB := Lib.hid (HB.out.trans ((below_new w2 (.cells (trC xs.length true v2) 58)).mono HB.out.size))
    obtain ⟨a2, l2, rfl, _⟩ := owns_shape ho
    clear ho hb
    unfold trV trC at *
    go_wp2_with fail
    refine (HLA.out xs.length _ (stp xs.length (carsOf xs)) _ HRD.out HC2.out.2 (by omega)).mono ?_
    rintro e w3 ⟨v3, rfl, ho, hb⟩
    have HO3 := Lib.hid (owns_lower ho HB.out.size)
    have HB := Lib.hid (HB.out.trans (hb.mono HB.out.size))
    clear ho hb
    go_wp2_with fail
    go_ret3
    exact bi_R HR.out ⟨_, rfl, HO3.out, HB.out⟩
end Go.Proofs.Ythbmiigndhoopaa
