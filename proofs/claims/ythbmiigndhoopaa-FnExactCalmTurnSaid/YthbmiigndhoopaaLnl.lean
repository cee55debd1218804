/-
  What is proved: LastFlow and CalmTurn of the model and of the program. Conditions: those of each contract.
-/
import Derived.Test.YthbmiigndhoopaaLnx
import Derived.Test.YthbmiigndhoopaaLnc
import Derived.Test.YthbmiigndhoopaaFn5
namespace Go.Proofs.Ythbmiigndhoopaa
open Go.RowKit
set_option linter.unusedVariables false
set_option linter.unusedSimpArgs false

/-- the flow that stays -/
def lastN (xs : List Int) : Nat := min (carsOf xs).length (xs.length - (carsOf xs).length)
noncomputable def lastR (xs : List Int) : Int × Bool := if laneB xs = true then (((lastN xs : Nat) : Int), true) else (0, false)
noncomputable def calmR (xs : List Int) : Int × Bool := if laneB xs = true then (firstI (floN xs.length (carsOf xs) (xs.length / 2 + 1)) ((lastN xs : Nat) : Int), true) else (0, false)
theorem ret_ib {R : Int × Bool} {z : Int} {b : Bool} (h : R = (z, b)) : Ending.returned (.tuple #[.int .i64 z, .bool b]) = .returned (.tuple #[.int .i64 R.1, .bool R.2]) := by rw [h]
theorem first_pre {p : Int} {xs : List Int} : ∀ k, k ≤ xs.length → (∀ j, j < k → xs[j]? ≠ some p) → firstFrom p (xs.drop k) k = firstI xs p
  | 0, _, _ => by rw [List.drop_zero]; rfl
  | k + 1, hk, h => by
    have ih := first_pre k (by omega) (fun j hj => h j (by omega))
    obtain ⟨x, hx⟩ := get_some (xs := xs) (k := k) (by omega)
    rw [← firstFrom_miss hx (fun e => h k (by omega) (by rw [← e]; exact hx))]
    exact ih
theorem first_hit {p : Int} {xs : List Int} {k : Nat} (hx : xs[k]? = some p) (h : ∀ j, j < k → xs[j]? ≠ some p) : firstI xs p = k := by
  rw [← first_pre k (by have := (List.getElem?_eq_some_iff.1 hx).1; omega) h]
  exact firstFrom_hit hx rfl
theorem floN_at {n : Nat} {S : List Nat} {t k : Nat} (h : k < t) : (floN n S t)[k]? = some ((flo n (stpN n S k) : Nat) : Int) := by simp [floN, h]
theorem l8Cars_any (v : Value) (xs : List Int) (w : World) (hv : ReadsI w v xs) (h : laneB xs = true) :
    Calls Try.prog 84 #[v] w fun e w' => e = .returned (.int .i64 ((carsOf xs).length : Nat)) ∧ w' = w := by
  obtain ⟨h3, h24, h01⟩ := (laneB_iff xs).1 h
  have HSC := Lib.hid (fun k hk => sum_cars h k hk)
  have H01 := Lib.hid h01
  obtain ⟨y, c, rfl, hc, hm, hx⟩ := hv
  unfold maxLen at hm
  have HL := Lib.hid hx
  clear hx h01 h
  go_enter Try.func84, Try.ntmps84
  go_wp2_with fail
  go_loopw [3, 4] (fun vs vi wr => wr = w ∧ ∃ k : Nat, k ≤ xs.length ∧ vi = .int .i64 k ∧ vs = .int .i64 (sumTo xs k)) (fun _ i _ => xs.length - (intOf i).toNat)
  case atStart => exact ⟨rfl, 0, Nat.zero_le _, rfl, rfl⟩
  case round =>
    obtain ⟨rfl, k, hk, rfl, rfl⟩ := hrel
    by_cases hlt : k < xs.length
    · obtain ⟨x, hxk⟩ := get_some hlt
      obtain ⟨b, o, rfl, hbl, hcell⟩ := HL.out k x hxk
      have h01 := H01.out k x hxk
      have hs := HSC.out k hk
      have hcl := carsTo_len xs k
      have hi0 : 0 ≤ (k : Int) := by omega
      have hi1 : (k : Int) < xs.length := by omega
      have HN := Lib.hid (show sumTo xs (k + 1) = sumTo xs k + x by show sumTo xs k + xs.getD k 0 = _; simp [List.getD, hxk])
      generalize sumTo xs k = s at *
      have HSS := Lib.hid hs
      clear hxk
      go_wp2_with fail
      go_roundw
      case rel => exact ⟨by trivial, k + 1, hlt, by go_num, by rw [HN.out, HSS.out]⟩
      case measure => simp [intOf] <;> omega
    · have hi1 : ¬ (k : Int) < xs.length := by omega
      have hke : k = xs.length := by omega
      have HS := Lib.hid (HSC.out k hk)
      have HKE := Lib.hid hke
      clear hke
      go_wp2_with fail
      go_ret
      exact ⟨ret_int (by rw [HS.out, HKE.out]; rfl), rfl⟩
theorem l8Last_any (v : Value) (xs : List Int) (w : World) (hv : ReadsI w v xs) (h : laneB xs = true) :
    Calls Try.prog 69 #[v] w fun e w' => e = .returned (.int .i64 (lastN xs : Nat)) ∧ w' = w := by
  have HC := Lib.hid (fun w hv => l8Cars_any v xs w hv h)
  have HLE := Lib.hid (fun a b w => l1Least_any a b w)
  have HV := Lib.hid hv
  have hln := (cars_of xs).len
  obtain ⟨h3, h24, _⟩ := (laneB_iff xs).1 h
  obtain ⟨y, c, rfl, hc, hm, hx⟩ := hv
  unfold maxLen at hm
  have HE := Lib.hid (show ((lastN xs : Nat) : Int) = min (((carsOf xs).length : Nat) : Int) ((xs.length : Int) - (((carsOf xs).length : Nat) : Int)) by unfold lastN; omega)
  clear hx h
  generalize (carsOf xs).length = K at *
  go_enter Try.func69, Try.ntmps69
  go_wp2_with fail
  refine (HC.out _ HV.out).mono ?_
  rintro e w1 ⟨rfl, rfl⟩
  go_wp2_with fail
  refine (HC.out _ HV.out).mono ?_
  rintro e w2 ⟨rfl, rfl⟩
  go_wp2_with fail
  refine (HLE.out _ _ _).mono ?_
  rintro e w3 ⟨rfl, rfl⟩
  go_wp2_with fail
  go_ret
  exact ⟨ret_int HE.out.symm, rfl⟩
theorem spec_LastFlow (v : Value) (xs : List Int) (w : World) (hv : ReadsI w v xs) :
    Calls Try.prog 31 #[v] w fun e w' => e = .returned (.tuple #[.int .i64 (lastR xs).1, .bool (lastR xs).2]) ∧ Below w.heap.size w w' := by
  have HW := Lib.hid (fun w hv => l8Lane_any v xs w hv)
  have HL := Lib.hid (fun w hv h => l8Last_any v xs w hv h)
  have HV := Lib.hid hv
  clear hv
  go_enter Try.func31, Try.ntmps31
  go_wp2_with fail
  refine (HW.out _ HV.out).mono ?_
  rintro e w1 ⟨rfl, rfl⟩
  cases hl : laneB xs
  · have HR := Lib.hid (show lastR xs = (0, false) from if_neg (by rw [hl]; simp))
    clear hl
    go_wp2_with fail
    go_ret2
    exact ⟨ret_ib HR.out, Below.refl _ _⟩
  · have HR := Lib.hid (show lastR xs = (((lastN xs : Nat) : Int), true) from if_pos hl)
    have HLB := Lib.hid hl
    clear hl
    go_wp2_with fail
    refine (HL.out _ HV.out HLB.out).mono ?_
    rintro e w2 ⟨rfl, rfl⟩
    go_wp2_with fail
    go_ret2
    exact ⟨ret_ib HR.out, Below.refl _ _⟩
set_option maxRecDepth 20000 in
theorem impl_LastFlow (v : Value) (xs : List Int) (w : World) (hv : ReadsI w v xs) :
    Calls Try.prog 32 #[v] w fun e w' => e = .returned (.tuple #[.int .i64 (lastR xs).1, .bool (lastR xs).2]) ∧ Below w.heap.size w w' := by
  have HW := Lib.hid (fun w hv => isLane_any v xs w hv)
  have HO := Lib.hid (fun w hv h => trafficOf_any v xs w hv h)
  have HV := Lib.hid hv
  have hln := (cars_of xs).len
  have HE := Lib.hid (show ((lastN xs : Nat) : Int) = min (((carsOf xs).length : Nat) : Int) ((xs.length : Int) - (((carsOf xs).length : Nat) : Int)) by unfold lastN; omega)
  obtain ⟨y, c, rfl, hc, hm, hx⟩ := hv
  unfold maxLen at hm
  clear hx
  go_enter Try.func32, Try.ntmps32
  go_wp2_with fail
  refine (HW.out _ HV.out).mono ?_
  rintro e w1 ⟨rfl, rfl⟩
  cases hl : laneB xs
  · have HR := Lib.hid (show lastR xs = (0, false) from if_neg (by rw [hl]; simp))
    clear hl
    go_wp2_with fail
    go_ret2
    exact ⟨ret_ib HR.out, Below.refl _ _⟩
  · have HR := Lib.hid (show lastR xs = (((lastN xs : Nat) : Int), true) from if_pos hl)
    obtain ⟨h3, h24, _⟩ := (laneB_iff xs).1 hl
    clear hl
    go_wp2_with fail
    refine (HO.out _ HV.out (by omega)).mono ?_
    rintro e w2 ⟨v2, rfl, ho, hb⟩
    obtain ⟨a2, l2, rfl, _⟩ := owns_shape ho
    have HB := Lib.hid hb
    clear ho hb
    unfold trV
    generalize (carsOf xs).length = K at *
    have hfd : ∀ w : World, (Instr.field 58 (.agg #[.int .i64 xs.length, .bool true, .slice a2 K l2]) 1).run Try.prog w = .ok (.slice a2 K l2) w := fun _ => by kernel_rfl
    rcases Int.lt_trichotomy (K : Int) ((xs.length : Int) - K) with hq | hq | hq
    · have HM := Lib.hid (show min (K : Int) ((xs.length : Int) - K) = K by omega)
      go_wp2_with fail
      go_ret2
      exact ⟨ret_ib (by rw [HR.out, HE.out, HM.out]), HB.out⟩
    · have hq1 : (K : Int) ≤ (xs.length : Int) - K := by omega
      have hq2 : (xs.length : Int) - K ≤ (K : Int) := by omega
      have HQ := Lib.hid hq
      clear hq
      go_wp2_with fail
      go_ret2
      exact ⟨ret_ib (by rw [HR.out, HE.out]), HB.out⟩
    · go_wp2_with fail
      go_ret2
      exact ⟨ret_ib (by rw [HR.out, HE.out]), HB.out⟩
def CmRel (n : Nat) (S0 : List Nat) (z base : Nat) (w : World) (v vi : Value) (wr : World) : Prop :=
  ∃ (k : Nat) (S : List Nat), k ≤ n / 2 ∧ vi = .int .i64 k ∧ S = stpN n S0 k ∧ (∀ j, j < k → flo n (stpN n S0 j) ≠ z) ∧ ReadsI wr v (lan n S) ∧ Below base w wr
set_option maxHeartbeats 1600000 in
theorem spec_CalmTurn (v : Value) (xs : List Int) (w : World) (hv : ReadsI w v xs) :
    Calls Try.prog 33 #[v] w fun e w' => e = .returned (.tuple #[.int .i64 (calmR xs).1, .bool (calmR xs).2]) ∧ Below w.heap.size w w' := by
  have HW := Lib.hid (fun w hv => l8Lane_any v xs w hv)
  have HLA := Lib.hid (fun w hv h => l8Last_any v xs w hv h)
  have HT := Lib.hid (fun v l w hv h1 h2 => l8Turn_any v l w hv h1 h2)
  have HO := Lib.hid (fun w hv h1 h2 => own_any v xs w hv h1 h2)
  have HV := Lib.hid hv
  clear hv
  go_enter Try.func33, Try.ntmps33
  go_wp2_with fail
  refine (HW.out _ HV.out).mono ?_
  rintro e w0 ⟨rfl, hw0⟩
  rw [hw0]
  clear hw0
  cases hl : laneB xs
  · have HR := Lib.hid (show calmR xs = (0, false) from if_neg (by rw [hl]; simp))
    clear hl
    go_wp2_with fail
    go_ret2
    exact ⟨ret_ib HR.out, Below.refl _ _⟩
  · have HR := Lib.hid (show calmR xs = (firstI (floN xs.length (carsOf xs) (xs.length / 2 + 1)) ((lastN xs : Nat) : Int), true) from if_pos hl)
    obtain ⟨h3, h24, _⟩ := (laneB_iff xs).1 hl
    have HC := Lib.hid (stpN_cars (n := xs.length) (by omega) (cars_of xs))
    have HE := Lib.hid (lan_cars hl)
    have HLB := Lib.hid hl
    have HCALM := Lib.hid (fun t (ht : xs.length / 2 ≤ t + 1) => calm (n := xs.length) (by omega) (cars_of xs) ht)
    clear hl
    go_wp2_with fail
    refine (HO.out _ HV.out (by omega) (by omega)).mono ?_
    rintro e w1 ⟨v1, rfl, ho, hb⟩
    have HS := Lib.hid (show CmRel xs.length (carsOf xs) (lastN xs) w.heap.size w v1 (.int .i64 0) w1 from ⟨0, _, Nat.zero_le _, rfl, rfl, fun j hj => by omega, by rw [show stpN xs.length (carsOf xs) 0 = carsOf xs from rfl, HE.out]; exact owns_reads ho (by unfold maxLen; omega), hb⟩)
    clear ho hb HE
    go_wp2_with fail
    go_loopw [4, 5] (fun v vi wr => CmRel xs.length (carsOf xs) (lastN xs) w.heap.size w v vi wr) (fun _ i _ => 30 - (intOf i).toNat)
    case atStart => exact HS.out
    case round =>
      clear HS
      obtain ⟨k, S, hk, rfl, hS, hno, hr, hb⟩ := hrel
      have HS := Lib.hid hS
      have HNO := Lib.hid hno
      have HRD := Lib.hid hr
      have HB := Lib.hid hb
      have HCS := Lib.hid (show Cars xs.length S by rw [hS]; exact HC.out k)
      have hk2 : k ≤ 12 := by omega
      have HK := Lib.hid hk
      clear hS hno hr hb hk
      go_wp2_with fail
      refine (HT.out _ (lan xs.length S) _ HRD.out (by rw [lan_len]; omega) (by rw [lan_len]; omega)).mono ?_
      rw [(model_turn (show 2 ≤ xs.length by omega) HCS.out).1, (model_turn (show 2 ≤ xs.length by omega) HCS.out).2]
      rintro e w2 ⟨v2, rfl, ho, hb⟩
      have HRD := Lib.hid (owns_reads ho (by rw [lan_len]; unfold maxLen; omega))
      have HB := Lib.hid (HB.out.trans (hb.mono HB.out.size))
      clear ho hb
      go_wp2_with fail
      refine (HLA.out _ (HV.out.below HB.out) HLB.out).mono ?_
      rintro e w3 ⟨rfl, rfl⟩
      by_cases hq : flo xs.length S = lastN xs
      · have HHIT := Lib.hid (first_hit (p := ((lastN xs : Nat) : Int)) (xs := floN xs.length (carsOf xs) (xs.length / 2 + 1)) (k := k) (by rw [floN_at (by have := HK.out; omega), ← HS.out, hq]) (fun j hj h => by
          rw [floN_at (by have := HK.out; omega)] at h
          simp only [Option.some.injEq] at h
          exact HNO.out j hj (by omega)))
        have hq1 : (((flo xs.length S : Nat) : Int) == ((lastN xs : Nat) : Int)) = true := by simp [hq]
        have hq2 : ((flo xs.length S : Nat) : Int) = ((lastN xs : Nat) : Int) := by omega
        clear hq
        go_wp2_with fail
        go_ret2
        exact ⟨ret_ib (by rw [HR.out, HHIT.out]), HB.out⟩
      · have hq1 : (((flo xs.length S : Nat) : Int) == ((lastN xs : Nat) : Int)) = false := by simp; omega
        have hq2 : ¬ ((flo xs.length S : Nat) : Int) = ((lastN xs : Nat) : Int) := by omega
        have HNX := Lib.hid (show k + 1 ≤ xs.length / 2 from by
          rcases Nat.lt_or_ge k (xs.length / 2) with h | h
          · exact h
          · exact absurd (by rw [HS.out, HCALM.out k (by omega)]; rfl) hq)
        have HQ := Lib.hid hq
        clear hq
        go_wp2_with fail
        go_roundw
        case rel => exact ⟨k + 1, stp xs.length S, HNX.out, by go_num, by rw [HS.out]; rfl, fun j hj => by
          by_cases e : j = k
          · subst e; rw [← HS.out]; exact HQ.out
          · exact HNO.out j (by omega), HRD.out, HB.out⟩
        case measure => simp [intOf] <;> omega
set_option maxHeartbeats 1600000 in
theorem impl_CalmTurn (v : Value) (xs : List Int) (w : World) (hv : ReadsI w v xs) :
    Calls Try.prog 34 #[v] w fun e w' => e = .returned (.tuple #[.int .i64 (calmR xs).1, .bool (calmR xs).2]) ∧ Below w.heap.size w w' := by
  have HLF := Lib.hid (fun w hv => impl_LastFlow v xs w hv)
  have HFL := Lib.hid (fun t w hv ht => impl_FlowsOf v xs t w hv ht)
  have HIX := Lib.hid (fun u ys p w hu => index_any u ys p w hu)
  have HV := Lib.hid hv
  obtain ⟨y, c, rfl, hc, hm, hx⟩ := hv
  unfold maxLen at hm
  clear hx
  go_enter Try.func34, Try.ntmps34
  go_wp2_with fail
  refine (HLF.out _ HV.out).mono ?_
  cases hl : laneB xs
  · have HR := Lib.hid (show calmR xs = (0, false) from if_neg (by rw [hl]; simp))
    rw [show lastR xs = (0, false) from if_neg (by rw [hl]; simp)]
    rintro e w1 ⟨rfl, hb⟩
    have HB := Lib.hid hb
    clear hl hb
    go_wp2_with fail
    go_ret2
    exact ⟨ret_ib HR.out, HB.out⟩
  · have HR := Lib.hid (show calmR xs = (firstI (floN xs.length (carsOf xs) (xs.length / 2 + 1)) ((lastN xs : Nat) : Int), true) from if_pos hl)
    rw [show lastR xs = (((lastN xs : Nat) : Int), true) from if_pos hl]
    rintro e w1 ⟨rfl, hb⟩
    obtain ⟨h3, h24, _⟩ := (laneB_iff xs).1 hl
    have HFR := Lib.hid (show flowsR xs (((xs.length / 2 + 1 : Nat) : Nat) : Int) = (floN xs.length (carsOf xs) (xs.length / 2 + 1), true) by
      have h : turnsB xs (((xs.length / 2 + 1 : Nat) : Nat) : Int) = true := (turnsB_iff _ _).2 ⟨hl, by omega, by omega⟩
      unfold flowsR drivenF
      rw [h]
      rfl)
    have HB := Lib.hid hb
    have htd : (xs.length : Int).tdiv 2 = ((xs.length / 2 : Nat) : Int) := by rw [Int.tdiv_eq_ediv_of_nonneg (by omega)]; omega
    clear hl hb
    go_wp2_with fail
    rw [show ((xs.length : Int) / 2 + 1) = (((xs.length / 2 + 1 : Nat) : Nat) : Int) by omega]
    refine (HFL.out _ _ (HV.out.below HB.out) (by omega)).mono ?_
    rw [HFR.out]
    rintro e w2 ⟨v2, rfl, ho, hb⟩
    have HRD := Lib.hid (owns_reads ho (by rw [floN_len]; unfold maxLen; omega))
    have HB := Lib.hid (HB.out.trans (hb.mono HB.out.size))
    clear ho hb
    go_wp2_with fail
    refine (HIX.out _ _ _ _ HRD.out).mono ?_
    rintro e w3 ⟨rfl, rfl⟩
    go_wp2_with fail
    go_ret2
    exact ⟨ret_ib HR.out, HB.out⟩
end Go.Proofs.Ythbmiigndhoopaa
