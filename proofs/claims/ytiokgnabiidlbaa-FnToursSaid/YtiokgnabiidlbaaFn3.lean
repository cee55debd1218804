/-
  What is proved: impl.StepCount and the model's answer alike. Conditions: a slice that reads as a list of numbers.
-/
import Derived.Test.YtiokgnabiidlbaaFn2
namespace Go.Proofs.Ytiokgnabiidlbaa
open Go.RowKit

/-- how many of the first k steps go to another place -/
def stepsTo (xs : List Int) : Nat → Nat
  | 0 => 0
  | k + 1 => stepsTo xs k + if xs[k + 1]? = xs[k]? then 0 else 1
theorem stepsTo_le (xs : List Int) : ∀ k, stepsTo xs k ≤ k
  | 0 => Nat.le_refl _
  | k + 1 => by
    have := stepsTo_le xs k
    unfold stepsTo
    split <;> omega
/-- what StepCount answers -/
noncomputable def stepsR (n : Int) (g : Bool) (xs : List Int) : Int × Bool := if walkD n g xs = true then ((stepsTo xs (xs.length - 1) : Nat), true) else (0, false)
def CntRel (n : Int) (g : Bool) (xs : List Int) (base : Nat) (w : World) (c i : Value) (wr : World) : Prop :=
  Boxed base n g w wr ∧ ∃ k : Nat, k + 1 ≤ xs.length ∧ i = .int .i64 ((k + 1 : Nat) : Int) ∧ c = .int .i64 (stepsTo xs k : Nat)
set_option maxHeartbeats 800000 in
theorem spec_StepCount (n : Int) (g : Bool) (v : Value) (xs : List Int) (w : World) (hv : ReadsI w v xs) :
    Calls Try.prog 13 #[rd n g, v] w fun e w' => e = .returned (.tuple #[.int .i64 (stepsR n g xs).1, .bool (stepsR n g xs).2]) ∧ Below w.heap.size w w' := by
  have HX := Lib.hid (Boxed.first w n g 25)
  have HV := Lib.hid hv
  have HVB := Lib.hid (hv.below (below_new w (.cells #[.int .i64 n, .bool g] 25)))
  obtain ⟨y, c, hvv, hc, hm, hx⟩ := hv
  subst hvv
  unfold maxLen at hm
  have HL := Lib.hid hx
  clear hx
  have HW := Lib.hid (fun v w hv => l2Walk_is n g v xs w hv)
  unfold rd at *
  go_enter Try.func13, Try.ntmps13
  go_wp2_with fail
  refine (HW.out _ _ HVB.out).mono ?_
  rintro e w1 ⟨rfl, hb⟩
  have HX := Lib.hid (HX.out.next hb)
  clear hb
  cases hw : walkD n g xs
  · go_wp2_with fail
    go_ret2
    exact ⟨ret_R (by simp [stepsR, hw]), HX.out.below⟩
  · have hwk := (walkD_iff n g xs).1 hw
    have hl1 := hwk.2.1
    have hl61 := hwk.2.2.1
    clear hwk
    have HK := Lib.hid hw
    clear hw
    go_wp2_with fail
    go_loopw [6, 7] (fun c i wr => CntRel n g xs w.heap.size w c i wr) (fun _ i _ => xs.length - (intOf i).toNat)
    case atStart => exact ⟨HX.out, 0, hl1, rfl, rfl⟩
    case round =>
      obtain ⟨hx, k, hk, rfl, rfl⟩ := hrel
      clear HX
      have HX := Lib.hid hx
      clear hx
      have hsl := stepsTo_le xs k
      by_cases hlt : k + 1 < xs.length
      · obtain ⟨x, hxk⟩ := get_some (xs := xs) (k := k) (by omega)
        obtain ⟨z, hzk⟩ := get_some hlt
        obtain ⟨b, o, rfl, hbl, hcx0⟩ := HL.out k x hxk
        obtain ⟨b', o', e, _, hcz0⟩ := HL.out (k + 1) z hzk
        cases e
        have hcx : wr.cell? ⟨b, o + (k + 1 - 1), none⟩ = some (.int .i64 x) := (HX.out.below.cell (p := ⟨b, o + k, none⟩) hbl).trans hcx0
        have hcz : wr.cell? ⟨b, o + (k + 1), none⟩ = some (.int .i64 z) := (HX.out.below.cell (p := ⟨b, o + (k + 1), none⟩) hbl).trans hcz0
        have hnext : stepsTo xs (k + 1) = stepsTo xs k + if z = x then 0 else 1 := by
          have e : (xs[k + 1]? = xs[k]?) = (z = x) := by rw [hxk, hzk]; simp
          show stepsTo xs k + (if xs[k + 1]? = xs[k]? then 0 else 1) = _
          simp only [e]
        have HN := Lib.hid hnext
        have hsl2 : (stepsTo xs k : Int) ≤ 61 := by omega
        clear hcx0 hcz0 hxk hzk hnext
        generalize hT : k + 1 = t at *
        have HT := Lib.hid hT
        have hi0 : 0 ≤ (t : Int) := by omega
        have hi1 : (t : Int) < xs.length := by omega
        have hi2 : 0 ≤ (t : Int) - 1 := by omega
        have hi3 : (t : Int) - 1 < xs.length := by omega
        have hi4 : 1 ≤ (t : Int) := by omega
        have hi5 : (t : Int) < xs.length + 1 := by omega
        clear hT
        have hw1 : IntKind.i64.wrap ((t : Int) - 1) = (t : Int) - 1 := IntWalk.i64_in _ (by omega)
        have HW1 := Lib.hid hw1
        clear hw1
        by_cases hxz : z = x
        · have hne : (!(z == x)) = false := by simp [hxz]
          go_wp2_with fail
          have hw1 := HW1.out
          go_quiet (fail)
          clear hw1
          go_wp2_with fail
          go_roundw
          case rel =>
            refine ⟨HX.out.next (below_drewN _ _), k + 1, by have := HT.out; omega, by have := HT.out; congr 1; omega, ?_⟩
            have h1 := HT.out
            have h2 := HN.out
            rw [if_pos hxz] at h2
            rw [h1, h2]
            rfl
          case measure => simp [intOf]; omega
        · have hne : (!(z == x)) = true := by simp [hxz]
          go_wp2_with fail
          have hw1 := HW1.out
          go_quiet (fail)
          clear hw1
          go_wp2_with fail
          go_roundw
          case rel =>
            refine ⟨HX.out.next (below_drewN _ _), k + 1, by have := HT.out; omega, by have := HT.out; congr 1; omega, ?_⟩
            have h1 := HT.out
            have h2 := HN.out
            rw [if_neg hxz] at h2
            rw [h1, h2]
            exact congrArg (Value.int .i64) (by omega)
          case measure => simp [intOf]; omega
      · have hke : k = xs.length - 1 := by omega
        have HE := Lib.hid hke
        clear hke
        go_wp2_with fail
        go_ret2
        refine ⟨ret_R ?_, HX.out.below⟩
        unfold stepsR
        rw [if_pos HK.out, HE.out]
set_option maxHeartbeats 800000 in
theorem impl_StepCount (n : Int) (g : Bool) (v : Value) (xs : List Int) (w : World) (hv : ReadsI w v xs) :
    Calls Try.prog 12 #[rd n g, v] w fun e w' => e = .returned (.tuple #[.int .i64 (stepsR n g xs).1, .bool (stepsR n g xs).2]) ∧ Below w.heap.size w w' := by
  have HX := Lib.hid (Boxed.first w n g 25)
  have HV := Lib.hid hv
  have HVB := Lib.hid (hv.below (below_new w (.cells #[.int .i64 n, .bool g] 25)))
  obtain ⟨y, c, hvv, hc, hm, hx⟩ := hv
  subst hvv
  unfold maxLen at hm
  have HL := Lib.hid hx
  clear hx
  have HW := Lib.hid (fun v w hv => areWalks_one n g v xs w hv)
  unfold rd at *
  go_enter Try.func12, Try.ntmps12
  go_wp2_with fail
  refine (HW.out _ _ (one_list_at HVB.out _ (by simp))).mono ?_
  rintro e w1 ⟨rfl, hb⟩
  have HX := Lib.hid ((HX.out.next (below_new _ _)).next hb)
  clear hb
  cases hw : walkD n g xs
  · go_wp2_with fail
    go_ret2
    exact ⟨ret_R (by simp [stepsR, hw]), HX.out.below⟩
  · have hwk := (walkD_iff n g xs).1 hw
    have hl1 := hwk.2.1
    have hl61 := hwk.2.2.1
    clear hwk
    have HK := Lib.hid hw
    clear hw
    go_wp2_with fail
    go_loopw [6, 7] (fun c i wr => CntRel n g xs w.heap.size w c i wr) (fun _ i _ => xs.length - (intOf i).toNat)
    case atStart => exact ⟨HX.out, 0, hl1, rfl, rfl⟩
    case round =>
      obtain ⟨hx, k, hk, rfl, rfl⟩ := hrel
      clear HX
      have HX := Lib.hid hx
      clear hx
      have hsl := stepsTo_le xs k
      by_cases hlt : k + 1 < xs.length
      · obtain ⟨x, hxk⟩ := get_some (xs := xs) (k := k) (by omega)
        obtain ⟨z, hzk⟩ := get_some hlt
        obtain ⟨b, o, rfl, hbl, hcx0⟩ := HL.out k x hxk
        obtain ⟨b', o', e, _, hcz0⟩ := HL.out (k + 1) z hzk
        cases e
        have hcx : wr.cell? ⟨b, o + (k + 1 - 1), none⟩ = some (.int .i64 x) := (HX.out.below.cell (p := ⟨b, o + k, none⟩) hbl).trans hcx0
        have hcz : wr.cell? ⟨b, o + (k + 1), none⟩ = some (.int .i64 z) := (HX.out.below.cell (p := ⟨b, o + (k + 1), none⟩) hbl).trans hcz0
        have hnext : stepsTo xs (k + 1) = stepsTo xs k + if z = x then 0 else 1 := by
          have e : (xs[k + 1]? = xs[k]?) = (z = x) := by rw [hxk, hzk]; simp
          show stepsTo xs k + (if xs[k + 1]? = xs[k]? then 0 else 1) = _
          simp only [e]
        have HN := Lib.hid hnext
        have hsl2 : (stepsTo xs k : Int) ≤ 61 := by omega
        clear hcx0 hcz0 hxk hzk hnext
        generalize hT : k + 1 = t at *
        have HT := Lib.hid hT
        have hi0 : 0 ≤ (t : Int) := by omega
        have hi1 : (t : Int) < xs.length := by omega
        have hi2 : 0 ≤ (t : Int) - 1 := by omega
        have hi3 : (t : Int) - 1 < xs.length := by omega
        have hi4 : 1 ≤ (t : Int) := by omega
        have hi5 : (t : Int) < xs.length + 1 := by omega
        clear hT
        have hw1 : IntKind.i64.wrap ((t : Int) - 1) = (t : Int) - 1 := IntWalk.i64_in _ (by omega)
        have HW1 := Lib.hid hw1
        clear hw1
        by_cases hxz : z = x
        · have hne : (!(z == x)) = false := by simp [hxz]
          go_wp2_with fail
          have hw1 := HW1.out
          go_quiet (fail)
          clear hw1
          go_wp2_with fail
          go_roundw
          case rel =>
            refine ⟨HX.out.next (below_drewN _ _), k + 1, by have := HT.out; omega, by have := HT.out; congr 1; omega, ?_⟩
            have h1 := HT.out
            have h2 := HN.out
            rw [if_pos hxz] at h2
            rw [h1, h2]
            rfl
          case measure => simp [intOf]; omega
        · have hne : (!(z == x)) = true := by simp [hxz]
          go_wp2_with fail
          have hw1 := HW1.out
          go_quiet (fail)
          clear hw1
          go_wp2_with fail
          go_roundw
          case rel =>
            refine ⟨HX.out.next (below_drewN _ _), k + 1, by have := HT.out; omega, by have := HT.out; congr 1; omega, ?_⟩
            have h1 := HT.out
            have h2 := HN.out
            rw [if_neg hxz] at h2
            rw [h1, h2]
            exact congrArg (Value.int .i64) (by omega)
          case measure => simp [intOf]; omega
      · have hke : k = xs.length - 1 := by omega
        have HE := Lib.hid hke
        clear hke
        go_wp2_with fail
        go_ret2
        refine ⟨ret_R ?_, HX.out.below⟩
        unfold stepsR
        rw [if_pos HK.out, HE.out]
end Go.Proofs.Ytiokgnabiidlbaa
