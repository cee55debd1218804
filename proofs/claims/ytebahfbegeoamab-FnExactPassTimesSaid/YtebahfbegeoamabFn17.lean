/-
  What is proved: the contract of impl.PassTimes. Conditions: slices that read as lists of numbers.
-/
import Derived.Test.YtebahfbegeoamabFn11
namespace Go.Proofs.Ytebahfbegeoamab
open Go.RowKit
set_option linter.unusedVariables false
set_option linter.unusedSimpArgs false

set_option maxHeartbeats 12800000 in
set_option maxRecDepth 20000 in
theorem impl_PassTimes (n : Int) (g : Bool) (v : Value) (xs : List Int) (u : Value) (ys : List Int) (w : World) (hv : ReadsI w v xs) (hu : ReadsI w u ys) :
    Calls Try.prog 30 #[rd n g, v, u] w (OwnsB w.heap.size (passR n g xs ys).1 (passR n g xs ys).2 w) := by
  obtain ⟨i0, hi, hz0, hz1, hz2⟩ := info_parts infoInt
  have HAT := Lib.hid (fun v xs t w hv hl ht => placeAt_any v xs t w hv hl ht)

  have HX0 := Lib.hid (Boxed.first w n g 27)
  have HV := Lib.hid hv
  have HU := Lib.hid hu
  have HVB := Lib.hid (hv.below (below_new w (.cells #[.int .i64 n, .bool g] 27)))
  have HUB := Lib.hid (hu.below (below_new w (.cells #[.int .i64 n, .bool g] 27)))
  have HO0 := Lib.hid (made_at (w.alloc (.cells #[.int .i64 n, .bool g] 27)) (w.heap.size + 1) (w.heap.size + 1) (by simp) (Nat.le_refl _))
  obtain ⟨y, c, hvv, hc, hm, hx⟩ := hv
  obtain ⟨y2, c2, huu, hc2, hm2, hx2⟩ := hu
  subst hvv huu
  unfold maxLen at hm hm2
  have HL := Lib.hid hx
  have HL2 := Lib.hid hx2
  clear hx hx2
  have HW := Lib.hid (fun v w hv => areWalks_two n g v xs ys w hv)
  unfold rd at *
  go_enter Try.func30, Try.ntmps30
  go_wp2_with fail
  refine (HW.out _ _ (two_list_at (HVB.out.below (below_new _ _)) (HUB.out.below (below_new _ _)) _ (by simp))).mono ?_
  rintro e w1 ⟨rfl, hb⟩
  have HX := Lib.hid (((HX0.out.next (below_new _ _)).next (below_new _ _)).next hb)
  have HO := Lib.hid (owns_below (owns_below HO0.out (below_new _ _)) hb)
  clear hb HX0 HO0
  cases hww : (walkD n g xs && walkD n g ys)
  · have HR := Lib.hid (show passR n g xs ys = ([], false) from if_neg (by rw [hww]; simp))
    clear hww
    go_wp2_with fail
    go_ret2
    exact owns_R (zs := []) (b := false) HR.out (owns_out HX.out HO.out)
  · have HR := Lib.hid (show passR n g xs ys = (pickTo (passP xs ys) (min xs.length ys.length - 1), true) from if_pos hww)
    have hw := (Bool.and_eq_true_iff.1 hww).1
    have hw2 := (Bool.and_eq_true_iff.1 hww).2
    clear hww
    have hwk := (walkD_iff n g xs).1 hw
    have hwk2 := (walkD_iff n g ys).1 hw2
    have hl1 := hwk.2.1
    have hl61 := hwk.2.2.1
    have hm1 := hwk2.2.1
    have hm61 := hwk2.2.2.1
    clear hwk hwk2 hw hw2
    rcases Nat.lt_trichotomy xs.length ys.length with hxy | hxy | hxy
    · skip
      go_wp2_with fail
      go_loopw [8, 24] (fun v i wr => PkRel n g (passP xs ys) (min xs.length ys.length - 1) w.heap.size w v i wr) (fun _ i _ => min xs.length ys.length - 1 - (intOf i).toNat)
      case atStart => exact ⟨HX.out, 0, Nat.zero_le _, rfl, HO.out⟩
      case round =>
        obtain ⟨hx, k, hk, rfl, hown⟩ := hrel
        clear HX HO
        have HX := Lib.hid hx
        have hpl := pickTo_len (passP xs ys) k
        generalize hys : (pickTo (passP xs ys) k).map iv = zs at hown
        generalize hzl : (pickTo (passP xs ys) k).length = m at hown hpl
        have HYS := Lib.hid hys
        have HZL := Lib.hid hzl
        have HOW := Lib.hid hown
        clear hx hown hys hzl
        by_cases hlt : k < min xs.length ys.length - 1
        · obtain ⟨x0, hx0⟩ := get_some (xs := xs) (k := k) (by omega)
          obtain ⟨x1, hx1⟩ := get_some (xs := xs) (k := k + 1) (by omega)
          obtain ⟨y0, hy0⟩ := get_some (xs := ys) (k := k) (by omega)
          obtain ⟨y1, hy1⟩ := get_some (xs := ys) (k := k + 1) (by omega)
          obtain ⟨b, o, rfl, hbl, hcx0⟩ := HL.out k x0 hx0
          obtain ⟨b', o', e, _, hcx1⟩ := HL.out (k + 1) x1 hx1
          cases e
          obtain ⟨b2, o2, rfl, hbl2, hcy0⟩ := HL2.out k y0 hy0
          obtain ⟨b2', o2', e, _, hcy1⟩ := HL2.out (k + 1) y1 hy1
          cases e
          have HPP := Lib.hid (passP_of hx0 hx1 hy0 hy1)
          have hcx : wr.cell? ⟨b, o + k, none⟩ = some (.int .i64 x0) := (HX.out.below.cell (p := ⟨b, o + k, none⟩) hbl).trans hcx0
          have hcx1 : wr.cell? ⟨b, o + (k + 1), none⟩ = some (.int .i64 x1) := (HX.out.below.cell (p := ⟨b, o + (k + 1), none⟩) hbl).trans hcx1
          have hcy : wr.cell? ⟨b2, o2 + k, none⟩ = some (.int .i64 y0) := (HX.out.below.cell (p := ⟨b2, o2 + k, none⟩) hbl2).trans hcy0
          have hcy1 : wr.cell? ⟨b2, o2 + (k + 1), none⟩ = some (.int .i64 y1) := (HX.out.below.cell (p := ⟨b2, o2 + (k + 1), none⟩) hbl2).trans hcy1
          clear hcx0 hcy0 hx0 hx1 hy0 hy1
          have hkb : m + 1 ≤ 62 := by omega
          have hi0 : 0 ≤ (k : Int) := by omega
          have hi1 : (k : Int) < xs.length := by omega
          have hi2 : (k : Int) < ys.length := by omega
          have hi3 : 0 ≤ (k : Int) + 1 := by omega
          have hi4 : (k : Int) + 1 < xs.length := by omega
          have hi5 : (k : Int) + 1 < ys.length := by omega
          have hi6 : (k : Int) < ((xs.length : Int) - 1) := by omega
          have hw1 : IntKind.i64.wrap ((k : Int) + 1) = (k : Int) + 1 := IntWalk.i64_in _ (by omega)
          have HW1 := Lib.hid hw1
          clear hw1
          by_cases hq1 : x0 = y0
          · have HQ1 := Lib.hid (show decide (¬ x0 = y0) = false by simp [hq1])
            have HQ2 := Lib.hid (rfl : decide (x0 = y1) = decide (x0 = y1))
            have HQ3 := Lib.hid (rfl : decide (y0 = x1) = decide (y0 = x1))
            subst hq1
            have hP : passP xs ys k = false := HPP.out.trans (by simp [HQ1.out, HQ2.out, HQ3.out])
            have HP := Lib.hid hP
            clear hP
            go_wp2_with fail
            have hw1 := HW1.out
            go_quiet (fail)
            clear hw1 hcx hcy hcx1 hcy1 hi0 hi1 hi2 hi3 hi4 hi5 hi6
            have HX := Lib.hid (HX.out.next (below_drewN _ nq))
            have HOW : Hid ((wr.drewN nq).ownsRow _ _ _ _ _ _) := Lib.hid (owns_below HOW.out (below_drewN _ nq))
            generalize wr.drewN nq = wq at *
            go_wp2_with fail
            go_roundw
            case rel => exact pk_no HZL.out HYS.out hlt (by go_num) HP.out HX.out HOW.out
            case measure => simp [intOf] <;> omega


          · have HQ1 := Lib.hid (show decide (¬ x0 = y0) = true by simp [hq1])
            have hq1d : ¬ y0 = x0 := fun h => hq1 h.symm


            by_cases hq2 : y0 = x1
            · have HQ2' := Lib.hid (show decide (y0 = x1) = true by simp [hq2])
              subst hq2


              by_cases hq3 : x0 = y1
              · have HQ3' := Lib.hid (show decide (x0 = y1) = true by simp [hq3])
                have HQ3 := HQ2'; have HQ2 := HQ3'
                subst hq3
                have hP : passP xs ys k = true := HPP.out.trans (by simp [HQ1.out, HQ2.out, HQ3.out])
                have HP := Lib.hid hP
                clear hP
                go_wp2_with fail
                have hw1 := HW1.out
                go_quiet (fail)
                clear hw1 hcx hcy hcx1 hcy1 hi0 hi1 hi2 hi3 hi4 hi5 hi6
                have HX := Lib.hid (HX.out.next (below_drewN _ nq))
                have HOW : Hid ((wr.drewN nq).ownsRow _ _ _ _ _ _) := Lib.hid (owns_below HOW.out (below_drewN _ nq))
                generalize wr.drewN nq = wq at *
                go_wp2_with (at_builtin; refine wpList_append_own _ rfl _ _ 24 rfl (w.heap.size + 1) 3 i0 (.int .i64 0) 1 8 Try.underlying24 hi hz0 hz1 hz2 rfl (by decide) _ _ _ rfl (HOW.out.alloc _) ⟨wq.heap.size, 0, none⟩ 1 1 [.int .i64 (k)] rfl rfl (cell_one_new _ _ _) ?c2 ?c3 ?c4 ?c5 ?_)
                case c2 => first | (intro u hu; simp at hu; subst hu; rfl) | rfl
                case c3 => unfold maxLen; omega
                case c4 => omega
                case c5 => have := HX.out.size; simp; omega
                intro v' w9 hown' hgrow _
                have HX := Lib.hid (boxed_append HX.out hgrow (fun b hb => (owns_block HOW.out b hb).1))
                have HOW' := Lib.hid hown'
                clear hgrow hown' HOW
                go_wp2_with fail
                go_roundw
                case rel => exact pk_yes HZL.out HYS.out hlt (by go_num) HP.out HX.out HOW'.out
                case measure => simp [intOf] <;> omega


              · have HQ3' := Lib.hid (show decide (x0 = y1) = false by simp [hq3])
                have HQ3 := HQ2'; have HQ2 := HQ3'
                have hq3d : ¬ y1 = x0 := fun h => hq3 h.symm
                have hP : passP xs ys k = false := HPP.out.trans (by simp [HQ1.out, HQ2.out, HQ3.out])
                have HP := Lib.hid hP
                clear hP
                go_wp2_with fail
                have hw1 := HW1.out
                go_quiet (fail)
                clear hw1 hcx hcy hcx1 hcy1 hi0 hi1 hi2 hi3 hi4 hi5 hi6
                first | rw [show (x0 != y0 && x0 == y1) = false by simp [hq3]] | rw [show (x0 != y0 && y1 == x0) = false by simp [hq3d]]
                have HX := Lib.hid (HX.out.next (below_drewN _ nq))
                have HOW : Hid ((wr.drewN nq).ownsRow _ _ _ _ _ _) := Lib.hid (owns_below HOW.out (below_drewN _ nq))
                generalize wr.drewN nq = wq at *
                go_wp2_with fail
                go_roundw
                case rel => exact pk_no HZL.out HYS.out hlt (by go_num) HP.out HX.out HOW.out
                case measure => simp [intOf] <;> omega


            · have HQ2' := Lib.hid (show decide (y0 = x1) = false by simp [hq2])
              have HQ3' := Lib.hid (rfl : decide (x0 = y1) = decide (x0 = y1))
              have HQ3 := HQ2'; have HQ2 := HQ3'
              have hq2d : ¬ x1 = y0 := fun h => hq2 h.symm
              have hP : passP xs ys k = false := HPP.out.trans (by simp [HQ1.out, HQ2.out, HQ3.out])
              have HP := Lib.hid hP
              clear hP
              go_wp2_with fail
              have hw1 := HW1.out
              go_quiet (fail)
              clear hw1 hcx hcy hcx1 hcy1 hi0 hi1 hi2 hi3 hi4 hi5 hi6
              have HX := Lib.hid (HX.out.next (below_drewN _ nq))
              have HOW : Hid ((wr.drewN nq).ownsRow _ _ _ _ _ _) := Lib.hid (owns_below HOW.out (below_drewN _ nq))
              generalize wr.drewN nq = wq at *
              go_wp2_with fail
              go_roundw
              case rel => exact pk_no HZL.out HYS.out hlt (by go_num) HP.out HX.out HOW.out
              case measure => simp [intOf] <;> omega


        · have HE := Lib.hid (show k = min xs.length ys.length - 1 by omega)
          have hle : ¬ (k : Int) < ((xs.length : Int) - 1) := by omega
          go_wp2_with fail
          go_ret2
          refine owns_R (zs := pickTo (passP xs ys) (min xs.length ys.length - 1)) (b := true) HR.out (owns_out HX.out ?_)
          rw [← HE.out, HZL.out, HYS.out]
          exact HOW.out



    · have hle1 : (xs.length : Int) ≤ ys.length := by omega
      have hle2 : (ys.length : Int) ≤ xs.length := by omega
      clear hxy
      go_wp2_with fail
      go_loopw [8, 24] (fun v i wr => PkRel n g (passP xs ys) (min xs.length ys.length - 1) w.heap.size w v i wr) (fun _ i _ => min xs.length ys.length - 1 - (intOf i).toNat)
      case atStart => exact ⟨HX.out, 0, Nat.zero_le _, rfl, HO.out⟩
      case round =>
        obtain ⟨hx, k, hk, rfl, hown⟩ := hrel
        clear HX HO
        have HX := Lib.hid hx
        have hpl := pickTo_len (passP xs ys) k
        generalize hys : (pickTo (passP xs ys) k).map iv = zs at hown
        generalize hzl : (pickTo (passP xs ys) k).length = m at hown hpl
        have HYS := Lib.hid hys
        have HZL := Lib.hid hzl
        have HOW := Lib.hid hown
        clear hx hown hys hzl
        by_cases hlt : k < min xs.length ys.length - 1
        · obtain ⟨x0, hx0⟩ := get_some (xs := xs) (k := k) (by omega)
          obtain ⟨x1, hx1⟩ := get_some (xs := xs) (k := k + 1) (by omega)
          obtain ⟨y0, hy0⟩ := get_some (xs := ys) (k := k) (by omega)
          obtain ⟨y1, hy1⟩ := get_some (xs := ys) (k := k + 1) (by omega)
          obtain ⟨b, o, rfl, hbl, hcx0⟩ := HL.out k x0 hx0
          obtain ⟨b', o', e, _, hcx1⟩ := HL.out (k + 1) x1 hx1
          cases e
          obtain ⟨b2, o2, rfl, hbl2, hcy0⟩ := HL2.out k y0 hy0
          obtain ⟨b2', o2', e, _, hcy1⟩ := HL2.out (k + 1) y1 hy1
          cases e
          have HPP := Lib.hid (passP_of hx0 hx1 hy0 hy1)
          have hcx : wr.cell? ⟨b, o + k, none⟩ = some (.int .i64 x0) := (HX.out.below.cell (p := ⟨b, o + k, none⟩) hbl).trans hcx0
          have hcx1 : wr.cell? ⟨b, o + (k + 1), none⟩ = some (.int .i64 x1) := (HX.out.below.cell (p := ⟨b, o + (k + 1), none⟩) hbl).trans hcx1
          have hcy : wr.cell? ⟨b2, o2 + k, none⟩ = some (.int .i64 y0) := (HX.out.below.cell (p := ⟨b2, o2 + k, none⟩) hbl2).trans hcy0
          have hcy1 : wr.cell? ⟨b2, o2 + (k + 1), none⟩ = some (.int .i64 y1) := (HX.out.below.cell (p := ⟨b2, o2 + (k + 1), none⟩) hbl2).trans hcy1
          clear hcx0 hcy0 hx0 hx1 hy0 hy1
          have hkb : m + 1 ≤ 62 := by omega
          have hi0 : 0 ≤ (k : Int) := by omega
          have hi1 : (k : Int) < xs.length := by omega
          have hi2 : (k : Int) < ys.length := by omega
          have hi3 : 0 ≤ (k : Int) + 1 := by omega
          have hi4 : (k : Int) + 1 < xs.length := by omega
          have hi5 : (k : Int) + 1 < ys.length := by omega
          have hi6 : (k : Int) < ((xs.length : Int) - 1) := by omega
          have hw1 : IntKind.i64.wrap ((k : Int) + 1) = (k : Int) + 1 := IntWalk.i64_in _ (by omega)
          have HW1 := Lib.hid hw1
          clear hw1
          by_cases hq1 : x0 = y0
          · have HQ1 := Lib.hid (show decide (¬ x0 = y0) = false by simp [hq1])
            have HQ2 := Lib.hid (rfl : decide (x0 = y1) = decide (x0 = y1))
            have HQ3 := Lib.hid (rfl : decide (y0 = x1) = decide (y0 = x1))
            subst hq1
            have hP : passP xs ys k = false := HPP.out.trans (by simp [HQ1.out, HQ2.out, HQ3.out])
            have HP := Lib.hid hP
            clear hP
            go_wp2_with fail
            have hw1 := HW1.out
            go_quiet (fail)
            clear hw1 hcx hcy hcx1 hcy1 hi0 hi1 hi2 hi3 hi4 hi5 hi6
            have HX := Lib.hid (HX.out.next (below_drewN _ nq))
            have HOW : Hid ((wr.drewN nq).ownsRow _ _ _ _ _ _) := Lib.hid (owns_below HOW.out (below_drewN _ nq))
            generalize wr.drewN nq = wq at *
            go_wp2_with fail
            go_roundw
            case rel => exact pk_no HZL.out HYS.out hlt (by go_num) HP.out HX.out HOW.out
            case measure => simp [intOf] <;> omega


          · have HQ1 := Lib.hid (show decide (¬ x0 = y0) = true by simp [hq1])
            have hq1d : ¬ y0 = x0 := fun h => hq1 h.symm


            by_cases hq2 : y0 = x1
            · have HQ2' := Lib.hid (show decide (y0 = x1) = true by simp [hq2])
              subst hq2


              by_cases hq3 : x0 = y1
              · have HQ3' := Lib.hid (show decide (x0 = y1) = true by simp [hq3])
                have HQ3 := HQ2'; have HQ2 := HQ3'
                subst hq3
                have hP : passP xs ys k = true := HPP.out.trans (by simp [HQ1.out, HQ2.out, HQ3.out])
                have HP := Lib.hid hP
                clear hP
                go_wp2_with fail
                have hw1 := HW1.out
                go_quiet (fail)
                clear hw1 hcx hcy hcx1 hcy1 hi0 hi1 hi2 hi3 hi4 hi5 hi6
                have HX := Lib.hid (HX.out.next (below_drewN _ nq))
                have HOW : Hid ((wr.drewN nq).ownsRow _ _ _ _ _ _) := Lib.hid (owns_below HOW.out (below_drewN _ nq))
                generalize wr.drewN nq = wq at *
                go_wp2_with (at_builtin; refine wpList_append_own _ rfl _ _ 24 rfl (w.heap.size + 1) 3 i0 (.int .i64 0) 1 8 Try.underlying24 hi hz0 hz1 hz2 rfl (by decide) _ _ _ rfl (HOW.out.alloc _) ⟨wq.heap.size, 0, none⟩ 1 1 [.int .i64 (k)] rfl rfl (cell_one_new _ _ _) ?c2 ?c3 ?c4 ?c5 ?_)
                case c2 => first | (intro u hu; simp at hu; subst hu; rfl) | rfl
                case c3 => unfold maxLen; omega
                case c4 => omega
                case c5 => have := HX.out.size; simp; omega
                intro v' w9 hown' hgrow _
                have HX := Lib.hid (boxed_append HX.out hgrow (fun b hb => (owns_block HOW.out b hb).1))
                have HOW' := Lib.hid hown'
                clear hgrow hown' HOW
                go_wp2_with fail
                go_roundw
                case rel => exact pk_yes HZL.out HYS.out hlt (by go_num) HP.out HX.out HOW'.out
                case measure => simp [intOf] <;> omega


              · have HQ3' := Lib.hid (show decide (x0 = y1) = false by simp [hq3])
                have HQ3 := HQ2'; have HQ2 := HQ3'
                have hq3d : ¬ y1 = x0 := fun h => hq3 h.symm
                have hP : passP xs ys k = false := HPP.out.trans (by simp [HQ1.out, HQ2.out, HQ3.out])
                have HP := Lib.hid hP
                clear hP
                go_wp2_with fail
                have hw1 := HW1.out
                go_quiet (fail)
                clear hw1 hcx hcy hcx1 hcy1 hi0 hi1 hi2 hi3 hi4 hi5 hi6
                first | rw [show (x0 != y0 && x0 == y1) = false by simp [hq3]] | rw [show (x0 != y0 && y1 == x0) = false by simp [hq3d]]
                have HX := Lib.hid (HX.out.next (below_drewN _ nq))
                have HOW : Hid ((wr.drewN nq).ownsRow _ _ _ _ _ _) := Lib.hid (owns_below HOW.out (below_drewN _ nq))
                generalize wr.drewN nq = wq at *
                go_wp2_with fail
                go_roundw
                case rel => exact pk_no HZL.out HYS.out hlt (by go_num) HP.out HX.out HOW.out
                case measure => simp [intOf] <;> omega


            · have HQ2' := Lib.hid (show decide (y0 = x1) = false by simp [hq2])
              have HQ3' := Lib.hid (rfl : decide (x0 = y1) = decide (x0 = y1))
              have HQ3 := HQ2'; have HQ2 := HQ3'
              have hq2d : ¬ x1 = y0 := fun h => hq2 h.symm
              have hP : passP xs ys k = false := HPP.out.trans (by simp [HQ1.out, HQ2.out, HQ3.out])
              have HP := Lib.hid hP
              clear hP
              go_wp2_with fail
              have hw1 := HW1.out
              go_quiet (fail)
              clear hw1 hcx hcy hcx1 hcy1 hi0 hi1 hi2 hi3 hi4 hi5 hi6
              have HX := Lib.hid (HX.out.next (below_drewN _ nq))
              have HOW : Hid ((wr.drewN nq).ownsRow _ _ _ _ _ _) := Lib.hid (owns_below HOW.out (below_drewN _ nq))
              generalize wr.drewN nq = wq at *
              go_wp2_with fail
              go_roundw
              case rel => exact pk_no HZL.out HYS.out hlt (by go_num) HP.out HX.out HOW.out
              case measure => simp [intOf] <;> omega


        · have HE := Lib.hid (show k = min xs.length ys.length - 1 by omega)
          have hle : ¬ (k : Int) < ((xs.length : Int) - 1) := by omega
          go_wp2_with fail
          go_ret2
          refine owns_R (zs := pickTo (passP xs ys) (min xs.length ys.length - 1)) (b := true) HR.out (owns_out HX.out ?_)
          rw [← HE.out, HZL.out, HYS.out]
          exact HOW.out



    · skip
      go_wp2_with fail
      go_loopw [8, 24] (fun v i wr => PkRel n g (passP xs ys) (min xs.length ys.length - 1) w.heap.size w v i wr) (fun _ i _ => min xs.length ys.length - 1 - (intOf i).toNat)
      case atStart => exact ⟨HX.out, 0, Nat.zero_le _, rfl, HO.out⟩
      case round =>
        obtain ⟨hx, k, hk, rfl, hown⟩ := hrel
        clear HX HO
        have HX := Lib.hid hx
        have hpl := pickTo_len (passP xs ys) k
        generalize hys : (pickTo (passP xs ys) k).map iv = zs at hown
        generalize hzl : (pickTo (passP xs ys) k).length = m at hown hpl
        have HYS := Lib.hid hys
        have HZL := Lib.hid hzl
        have HOW := Lib.hid hown
        clear hx hown hys hzl
        by_cases hlt : k < min xs.length ys.length - 1
        · obtain ⟨x0, hx0⟩ := get_some (xs := xs) (k := k) (by omega)
          obtain ⟨x1, hx1⟩ := get_some (xs := xs) (k := k + 1) (by omega)
          obtain ⟨y0, hy0⟩ := get_some (xs := ys) (k := k) (by omega)
          obtain ⟨y1, hy1⟩ := get_some (xs := ys) (k := k + 1) (by omega)
          obtain ⟨b, o, rfl, hbl, hcx0⟩ := HL.out k x0 hx0
          obtain ⟨b', o', e, _, hcx1⟩ := HL.out (k + 1) x1 hx1
          cases e
          obtain ⟨b2, o2, rfl, hbl2, hcy0⟩ := HL2.out k y0 hy0
          obtain ⟨b2', o2', e, _, hcy1⟩ := HL2.out (k + 1) y1 hy1
          cases e
          have HPP := Lib.hid (passP_of hx0 hx1 hy0 hy1)
          have hcx : wr.cell? ⟨b, o + k, none⟩ = some (.int .i64 x0) := (HX.out.below.cell (p := ⟨b, o + k, none⟩) hbl).trans hcx0
          have hcx1 : wr.cell? ⟨b, o + (k + 1), none⟩ = some (.int .i64 x1) := (HX.out.below.cell (p := ⟨b, o + (k + 1), none⟩) hbl).trans hcx1
          have hcy : wr.cell? ⟨b2, o2 + k, none⟩ = some (.int .i64 y0) := (HX.out.below.cell (p := ⟨b2, o2 + k, none⟩) hbl2).trans hcy0
          have hcy1 : wr.cell? ⟨b2, o2 + (k + 1), none⟩ = some (.int .i64 y1) := (HX.out.below.cell (p := ⟨b2, o2 + (k + 1), none⟩) hbl2).trans hcy1
          clear hcx0 hcy0 hx0 hx1 hy0 hy1
          have hkb : m + 1 ≤ 62 := by omega
          have hi0 : 0 ≤ (k : Int) := by omega
          have hi1 : (k : Int) < xs.length := by omega
          have hi2 : (k : Int) < ys.length := by omega
          have hi3 : 0 ≤ (k : Int) + 1 := by omega
          have hi4 : (k : Int) + 1 < xs.length := by omega
          have hi5 : (k : Int) + 1 < ys.length := by omega
          have hi6 : (k : Int) < ((ys.length : Int) - 1) := by omega
          have hw1 : IntKind.i64.wrap ((k : Int) + 1) = (k : Int) + 1 := IntWalk.i64_in _ (by omega)
          have HW1 := Lib.hid hw1
          clear hw1
          by_cases hq1 : x0 = y0
          · have HQ1 := Lib.hid (show decide (¬ x0 = y0) = false by simp [hq1])
            have HQ2 := Lib.hid (rfl : decide (x0 = y1) = decide (x0 = y1))
            have HQ3 := Lib.hid (rfl : decide (y0 = x1) = decide (y0 = x1))
            subst hq1
            have hP : passP xs ys k = false := HPP.out.trans (by simp [HQ1.out, HQ2.out, HQ3.out])
            have HP := Lib.hid hP
            clear hP
            go_wp2_with fail
            have hw1 := HW1.out
            go_quiet (fail)
            clear hw1 hcx hcy hcx1 hcy1 hi0 hi1 hi2 hi3 hi4 hi5 hi6
            have HX := Lib.hid (HX.out.next (below_drewN _ nq))
            have HOW : Hid ((wr.drewN nq).ownsRow _ _ _ _ _ _) := Lib.hid (owns_below HOW.out (below_drewN _ nq))
            generalize wr.drewN nq = wq at *
            go_wp2_with fail
            go_roundw
            case rel => exact pk_no HZL.out HYS.out hlt (by go_num) HP.out HX.out HOW.out
            case measure => simp [intOf] <;> omega


          · have HQ1 := Lib.hid (show decide (¬ x0 = y0) = true by simp [hq1])
            have hq1d : ¬ y0 = x0 := fun h => hq1 h.symm


            by_cases hq2 : y0 = x1
            · have HQ2' := Lib.hid (show decide (y0 = x1) = true by simp [hq2])
              subst hq2


              by_cases hq3 : x0 = y1
              · have HQ3' := Lib.hid (show decide (x0 = y1) = true by simp [hq3])
                have HQ3 := HQ2'; have HQ2 := HQ3'
                subst hq3
                have hP : passP xs ys k = true := HPP.out.trans (by simp [HQ1.out, HQ2.out, HQ3.out])
                have HP := Lib.hid hP
                clear hP
                go_wp2_with fail
                have hw1 := HW1.out
                go_quiet (fail)
                clear hw1 hcx hcy hcx1 hcy1 hi0 hi1 hi2 hi3 hi4 hi5 hi6
                have HX := Lib.hid (HX.out.next (below_drewN _ nq))
                have HOW : Hid ((wr.drewN nq).ownsRow _ _ _ _ _ _) := Lib.hid (owns_below HOW.out (below_drewN _ nq))
                generalize wr.drewN nq = wq at *
                go_wp2_with (at_builtin; refine wpList_append_own _ rfl _ _ 24 rfl (w.heap.size + 1) 3 i0 (.int .i64 0) 1 8 Try.underlying24 hi hz0 hz1 hz2 rfl (by decide) _ _ _ rfl (HOW.out.alloc _) ⟨wq.heap.size, 0, none⟩ 1 1 [.int .i64 (k)] rfl rfl (cell_one_new _ _ _) ?c2 ?c3 ?c4 ?c5 ?_)
                case c2 => first | (intro u hu; simp at hu; subst hu; rfl) | rfl
                case c3 => unfold maxLen; omega
                case c4 => omega
                case c5 => have := HX.out.size; simp; omega
                intro v' w9 hown' hgrow _
                have HX := Lib.hid (boxed_append HX.out hgrow (fun b hb => (owns_block HOW.out b hb).1))
                have HOW' := Lib.hid hown'
                clear hgrow hown' HOW
                go_wp2_with fail
                go_roundw
                case rel => exact pk_yes HZL.out HYS.out hlt (by go_num) HP.out HX.out HOW'.out
                case measure => simp [intOf] <;> omega


              · have HQ3' := Lib.hid (show decide (x0 = y1) = false by simp [hq3])
                have HQ3 := HQ2'; have HQ2 := HQ3'
                have hq3d : ¬ y1 = x0 := fun h => hq3 h.symm
                have hP : passP xs ys k = false := HPP.out.trans (by simp [HQ1.out, HQ2.out, HQ3.out])
                have HP := Lib.hid hP
                clear hP
                go_wp2_with fail
                have hw1 := HW1.out
                go_quiet (fail)
                clear hw1 hcx hcy hcx1 hcy1 hi0 hi1 hi2 hi3 hi4 hi5 hi6
                first | rw [show (x0 != y0 && x0 == y1) = false by simp [hq3]] | rw [show (x0 != y0 && y1 == x0) = false by simp [hq3d]]
                have HX := Lib.hid (HX.out.next (below_drewN _ nq))
                have HOW : Hid ((wr.drewN nq).ownsRow _ _ _ _ _ _) := Lib.hid (owns_below HOW.out (below_drewN _ nq))
                generalize wr.drewN nq = wq at *
                go_wp2_with fail
                go_roundw
                case rel => exact pk_no HZL.out HYS.out hlt (by go_num) HP.out HX.out HOW.out
                case measure => simp [intOf] <;> omega


            · have HQ2' := Lib.hid (show decide (y0 = x1) = false by simp [hq2])
              have HQ3' := Lib.hid (rfl : decide (x0 = y1) = decide (x0 = y1))
              have HQ3 := HQ2'; have HQ2 := HQ3'
              have hq2d : ¬ x1 = y0 := fun h => hq2 h.symm
              have hP : passP xs ys k = false := HPP.out.trans (by simp [HQ1.out, HQ2.out, HQ3.out])
              have HP := Lib.hid hP
              clear hP
              go_wp2_with fail
              have hw1 := HW1.out
              go_quiet (fail)
              clear hw1 hcx hcy hcx1 hcy1 hi0 hi1 hi2 hi3 hi4 hi5 hi6
              have HX := Lib.hid (HX.out.next (below_drewN _ nq))
              have HOW : Hid ((wr.drewN nq).ownsRow _ _ _ _ _ _) := Lib.hid (owns_below HOW.out (below_drewN _ nq))
              generalize wr.drewN nq = wq at *
              go_wp2_with fail
              go_roundw
              case rel => exact pk_no HZL.out HYS.out hlt (by go_num) HP.out HX.out HOW.out
              case measure => simp [intOf] <;> omega


        · have HE := Lib.hid (show k = min xs.length ys.length - 1 by omega)
          have hle : ¬ (k : Int) < ((ys.length : Int) - 1) := by omega
          go_wp2_with fail
          go_ret2
          refine owns_R (zs := pickTo (passP xs ys) (min xs.length ys.length - 1)) (b := true) HR.out (owns_out HX.out ?_)
          rw [← HE.out, HZL.out, HYS.out]
          exact HOW.out




end Go.Proofs.Ytebahfbegeoamab
