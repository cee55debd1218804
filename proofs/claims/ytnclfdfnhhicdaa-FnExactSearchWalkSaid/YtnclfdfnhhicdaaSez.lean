/-
  What is proved: SearchWalk of the model. Conditions: slices that read as lists of numbers of the row's length.
-/
import Derived.Test.YtnclfdfnhhicdaaSey
import Derived.BigQuiet
namespace Go.Proofs.Ytnclfdfnhhicdaa
open Go.RowKit
set_option linter.unusedVariables false
set_option linter.unusedSimpArgs false

/-- the walk behind k turning places and t places more -/
def walkP (a : Int) (xs : List Int) (k : Nat) (q z : Int) (t : Nat) : List Int := walkS a xs k ++ legT q z t
theorem walkP_zero (a : Int) (xs : List Int) (k : Nat) (q z : Int) : walkP a xs k q z 0 = walkS a xs k := by simp [walkP, legT]
theorem walkP_next (a : Int) (xs : List Int) (k : Nat) (q z : Int) (t : Nat) : walkP a xs k q z (t + 1) = walkP a xs k q z t ++ [if q ≤ z then q + ((t : Int) + 1) else q - ((t : Int) + 1)] := by
  unfold walkP
  rw [legT_next, List.append_assoc]
theorem walkP_len (a : Int) (xs : List Int) (k : Nat) (q z : Int) (t : Nat) : (walkP a xs k q z t).length = (walkS a xs k).length + t := by
  unfold walkP
  rw [List.length_append, legT_len]
def SwS (n a : Int) (xs : List Int) (base : Nat) (w : World) (vv i : Value) (wr : World) : Prop :=
  Boxed base n false w wr ∧ ∃ k : Nat, k ≤ xs.length ∧ i = .int .i64 k ∧ wr.ownsRow (base + 1) 3 1 vv (walkS a xs k).length ((walkS a xs k).map iv)
def SwI (n a : Int) (xs : List Int) (k : Nat) (q z : Int) (base : Nat) (w : World) (vv : Value) (wr : World) : Prop :=
  Boxed base n false w wr ∧ ∃ t : Nat, (t : Int) ≤ gap1 z q ∧ wr.ownsRow (base + 1) 3 1 vv (walkP a xs k q z t).length ((walkP a xs k q z t).map iv)
set_option maxHeartbeats 3200000 in
set_option maxRecDepth 20000 in
theorem spec_SearchWalk (n : Int) (g : Bool) (a : Int) (v : Value) (xs : List Int) (w : World) (hv : ReadsI w v xs) (hlen : xs.length ≤ 1048576) :
    Calls Try.prog 33 #[rd n g, .int .i64 a, v] w (OwnsB w.heap.size (swalkR n g a xs).1 (swalkR n g a xs).2 w) := by
  obtain ⟨i0, hi, hz0, hz1, hz2⟩ := info_parts infoInt
  have HG := Lib.hid (fun v w hv => l3Good_any n g a v xs w hv)
  have HX := Lib.hid (Boxed.first w n g 27)
  have HV := Lib.hid (hv.below (below_new w (.cells #[.int .i64 n, .bool g] 27)))
  obtain ⟨y, c, rfl, hc, hm, hx⟩ := hv
  have HL := Lib.hid hx
  unfold maxLen at hm
  clear hx
  unfold rd at *
  have h0 := HX.out.c0
  have h1 := HX.out.c1
  go_enter Try.func33, Try.ntmps33
  go_wp2_with fail
  refine (HG.out _ _ HV.out).mono ?_
  rintro e w1 ⟨rfl, hb⟩
  have HX1 := Lib.hid (HX.out.next hb)
  clear hb HV HX h0 h1
  have hsz := HX1.out.size
  have HMD := Lib.hid (fun (w2 : World) (h : w.heap.size + 1 ≤ w2.heap.size) => made_at w2 (w.heap.size + 1) w2.heap.size rfl h)
  cases hg : (lineB n g a && searchB n a xs)
  · have HR := Lib.hid (swalkR_no hg)
    go_wp2_with fail
    go_ret2
    exact owns_R (zs := []) (b := false) HR.out (owns_out (HX1.out.next (below_new _ _)) (HMD.out _ (Nat.succ_le_of_lt hsz)))
  · have hgp := hg
    rw [Bool.and_eq_true] at hgp
    obtain ⟨hl, hs⟩ := hgp
    obtain ⟨hn1, hn2, hgf, ha0, ha1⟩ := (lineB_iff n g a).1 hl
    subst hgf
    have hin := inside_search hs
    have HSR := Lib.hid hs
    have HIN := Lib.hid hin
    have HTI := Lib.hid (fun k hk => tinv_at (e := 0) hs ha0 ha1 hn2 (Int.le_refl _) (by decide) k hk)
    have HWL := Lib.hid (fun k hk => walkS_len (n := n) (a := a) (xs := xs) ⟨ha0, ha1⟩ hn2 hin k hk)
    have HYES := Lib.hid (fun h => swalkR_yes (n := n) (g := false) (a := a) (xs := xs) hg h)
    clear hg hl hs hin
    have HX2 := Lib.hid (HX1.out.next (below_new _ (.cells #[.int .i64 a] 3)))
    have HO2 := Lib.hid (made_oneS w1 (w.heap.size + 1) a (Nat.succ_le_of_lt hsz))
    go_wp2_with fail
    go_loopw [8, 9] (fun vv i wr => SwS n a xs w.heap.size w vv i wr) (fun _ i _ => xs.length - (intOf i).toNat)
    case atStart => exact ⟨HX2.out, 0, Nat.zero_le _, rfl, HO2.out⟩
    case round =>
      obtain ⟨hx, k, hk, rfl, hown⟩ := hrel
      clear HX2 HO2 HX1
      have HX := Lib.hid hx
      have HOW := Lib.hid hown
      have hsz := HX.out.size
      clear hx hown
      have hwl := HWL.out k hk
      obtain ⟨lo, hi', q, hti⟩ := HTI.out k hk
      have hkm := hti.many
      have hhin := hti.hin
      have hlo0 := hti.lo0
      have hlq := hti.loQ
      have hhq := hti.hiQ
      have hki : k ≤ 23 := by omega
      by_cases hlt : k < xs.length
      · obtain ⟨z, hzk⟩ := get_some hlt
        obtain ⟨b, o, rfl, hbl, hcx0⟩ := HL.out k z hzk
        have HBB := Lib.hid hbl
        have HCZ := Lib.hid hcx0
        have HZK := Lib.hid hzk
        have HPQ := Lib.hid hti.at_q
        have hgo := cov_go HSR.out hti.scov hzk
        have hm3 := (mayB_iff lo hi' q z).1 hgo.1
        have hz0' := hgo.2.1
        have hz1' := hgo.2.2
        have HG0 := Lib.hid (show ((0 : Nat) : Int) ≤ gap1 z q by unfold gap1; omega)
        have hi0 : 0 ≤ (k : Int) := by omega
        have hi1 : (k : Int) < xs.length := by omega
        clear hbl hcx0 hzk hgo hti
        by_cases hbx : hi' < z
        · have hqz : q < z := by omega
          clear hbx hm3
          go_wp2_with fail
          go_loopw [8] (fun vv wr => SwI n a xs k q z w.heap.size w vv wr) (fun vv _ => (match vv with | .slice _ m _ => 1000 - m | _ => 0))
          case atStart => exact ⟨HX.out, 0, HG0.out, by rw [walkP_zero]; exact HOW.out⟩
          case round =>
            obtain ⟨hx, t, htg, hown⟩ := hrel
            clear HX HOW
            have HX := Lib.hid hx
            clear hx
            obtain ⟨oa, oc, hvs, hob⟩ := owns_shape hown
            have hm1 : 1 ≤ (walkP a xs k q z t).length := by rw [walkP_len]; have := walkS_pos a xs k; omega
            obtain ⟨ob, hob2, _⟩ := hob hm1
            subst hob2
            subst hvs
            have hmU : (walkP a xs k q z t).length ≤ 600 := by rw [walkP_len]; unfold gap1 at htg; omega
            have hlast : ((walkP a xs k q z t).map iv)[(walkP a xs k q z t).length - 1]? = some (iv (if q ≤ z then q + (t : Int) else q - (t : Int))) := by
              rw [List.getElem?_map]
              unfold walkP
              rw [legT_last (walkS_pos a xs k) (by rw [walkS_last, HPQ.out])]
              rfl
            have hnx := walkP_next a xs k q z t
            generalize hys : (walkP a xs k q z t).map iv = ys at *
            generalize hml : (walkP a xs k q z t).length = m at *
            have HYS := Lib.hid hys
            have HML := Lib.hid hml
            have HNX := Lib.hid hnx
            have HLC := Lib.hid hlast
            have HOW := Lib.hid hown
            clear hown hys hml hnx hlast hob

            rw [if_pos (show q ≤ z by omega)] at HLC HNX
            have hcz : wr.cell? ⟨b, o + k, none⟩ = some (.int .i64 z) := (HX.out.below.cell (p := ⟨b, o + k, none⟩) HBB.out).trans HCZ.out
            have hlc : wr.cell? ⟨ob, m - 1, none⟩ = some (.int .i64 (q + (t : Int))) := by
              have h := HOW.out.cellAt (m - 1) (by omega)
              rw [HLC.out] at h
              exact h

            have hi2 : 0 ≤ (m : Int) - 1 := by omega
            have hi3 : (m : Int) - 1 < m := by omega
            have hw1 : IntKind.i64.wrap ((m : Int) - 1) = (m : Int) - 1 := IntWalk.i64_in _ (by omega)
            by_cases hlt2 : q + (t : Int) < z
            · have htg2 : ((t + 1 : Nat) : Int) ≤ gap1 z q := by unfold gap1; omega
              go_wp2_with fail
              go_quiet (fail)
              have HX := Lib.hid (HX.out.next (below_drewN _ nq))
              have HOW := Lib.hid (owns_below HOW.out (below_drewN _ nq))
              have hlc : (wr.drewN nq).cell? ⟨ob, m - 1, none⟩ = some (.int .i64 (q + (t : Int))) := hlc
              clear hcz
              generalize wr.drewN nq = wq at *
              go_wp2_with (at_builtin; refine wpList_append_own _ rfl _ _ 24 rfl (w.heap.size + 1) 3 i0 (.int .i64 0) 1 8 Try.underlying24 hi hz0 hz1 hz2 rfl (by decide) _ _ _ rfl (HOW.out.alloc _) ⟨wq.heap.size, 0, none⟩ 1 1 [.int .i64 (q + (t : Int) + 1)] rfl rfl (cell_one_new _ _ _) ?c2 ?c3 ?c4 ?c5 ?_)
              case c2 => first | (intro u hu; simp at hu; subst hu; rfl) | rfl
              case c3 => unfold maxLen; omega
              case c4 => omega
              case c5 => have := HX.out.size; simp; omega
              intro v' w9 hown' hgrow _
              have HXE := Lib.hid (boxed_append HX.out hgrow (fun b hb => (owns_block HOW.out b hb).1))
              have hoe : w9.ownsRow (w.heap.size + 1) 3 1 v' (walkP a xs k q z (t + 1)).length ((walkP a xs k q z (t + 1)).map iv) := by
                rw [HNX.out, List.length_append, List.map_append, HYS.out, HML.out]
                have h := hown'
                rw [show q + (t : Int) + 1 = q + ((t : Int) + 1) by omega] at h
                exact h
              have HOE := Lib.hid hoe
              obtain ⟨va, vc, hvs, _⟩ := owns_shape hown'
              subst hvs
              clear hgrow hown' hoe
              go_wp2_with fail
              go_roundw
              case rel => exact ⟨HXE.out, t + 1, htg2, HOE.out⟩
              case measure =>
                show 1000 - (m + 1) < 1000 - m
                omega
            · have htz : (t : Int) = gap1 z q := by unfold gap1; unfold gap1 at htg; omega
              have hws : walkP a xs k q z t = walkS a xs (k + 1) := by rw [walkS_next HPQ.out HZK.out, ← htz, Int.toNat_natCast]; rfl
              have hoo := HOW.out
              rw [← HYS.out, ← HML.out, hws] at hoo
              have hm2 : m = (walkS a xs (k + 1)).length := by rw [← HML.out, hws]
              have HM2 := Lib.hid hm2
              have HOF := Lib.hid hoo
              have hqt : q + (t : Int) = z := by unfold gap1 at htz; omega
              rw [hqt] at hlc HLC
              have HLZ := Lib.hid hlc
              clear hoo hws hm2 htz
              have hcmp : ¬ z < z := by omega
              go_wp2_with fail
              go_quiet (fail)
              have HX := Lib.hid (HX.out.next (below_drewN _ nq))
              have HOG := Lib.hid (owns_below HOF.out (below_drewN _ nq))
              have hlc : (wr.drewN nq).cell? ⟨ob, m - 1, none⟩ = some (.int .i64 z) := HLZ.out
              clear hcz
              have hcz : (wr.drewN nq).cell? ⟨b, o + k, none⟩ = some (.int .i64 z) := (HX.out.below.cell (p := ⟨b, o + k, none⟩) HBB.out).trans HCZ.out
              generalize wr.drewN nq = wq at *

              go_wp2_with fail
              go_loopw [8] (fun vv w' => vv = .slice (some ⟨ob, 0, none⟩) m oc ∧ w' = wq) (fun _ _ => 0)
              case atStart => exact ⟨rfl, rfl⟩
              case round =>
                obtain ⟨rfl, rfl⟩ := hrel
                go_wp2_with fail
                go_quiet (fail)
                have HX := Lib.hid (HX.out.next (below_drewN _ nq))
                have HOH := Lib.hid (owns_below HOG.out (below_drewN _ nq))
                clear hcz

                go_wp2_with fail
                go_roundw
                case rel => exact ⟨HX.out, k + 1, by omega, by go_num, by have h := HOH.out; rw [← HM2.out] at h ⊢; exact h⟩
                case measure => simp [intOf]; omega

        · have hqz : z < q := by omega
          clear hbx hm3
          obtain ⟨oa, oc0, hvs, hob⟩ := owns_shape HOW.out
          have hm1 : 1 ≤ (walkS a xs k).length := walkS_pos a xs k
          obtain ⟨ob0, hob2, _⟩ := hob hm1
          subst hob2
          subst hvs
          have hlast : ((walkS a xs k).map iv)[(walkS a xs k).length - 1]? = some (iv q) := by
            rw [List.getElem?_map, walkS_last, HPQ.out]
            rfl
          have hlc := (HOW.out.cellAt ((walkS a xs k).length - 1) (by omega)).trans hlast
          have hm600 : (walkS a xs k).length ≤ 600 := by omega
          clear hlast hob
          have hcz : wr.cell? ⟨b, o + k, none⟩ = some (.int .i64 z) := (HX.out.below.cell (p := ⟨b, o + k, none⟩) HBB.out).trans HCZ.out
          have hi2 : 0 ≤ ((walkS a xs k).length : Int) - 1 := by omega
          have hi3 : ((walkS a xs k).length : Int) - 1 < (walkS a xs k).length := by omega
          have hw1 : IntKind.i64.wrap (((walkS a xs k).length : Int) - 1) = ((walkS a xs k).length : Int) - 1 := IntWalk.i64_in _ (by omega)
          go_wp2_with fail
          go_loopw [8] (fun vv w' => vv = .slice (some ⟨ob0, 0, none⟩) (walkS a xs k).length oc0 ∧ w' = wr) (fun _ _ => 0)
          case atStart => exact ⟨rfl, rfl⟩
          case round =>
            obtain ⟨rfl, rfl⟩ := hrel
            go_wp2_with fail
            go_quiet (fail)
            have HX := Lib.hid (HX.out.next (below_drewN _ nq))
            have HOW := Lib.hid (owns_below HOW.out (below_drewN _ nq))
            clear hcz hlc hi2 hi3 hw1
            generalize wr.drewN nq = wr at *
            go_wp2_with fail
            go_loopw [8] (fun vv wr => SwI n a xs k q z w.heap.size w vv wr) (fun vv _ => (match vv with | .slice _ m _ => 1000 - m | _ => 0))
            case atStart => exact ⟨HX.out, 0, HG0.out, by rw [walkP_zero]; exact HOW.out⟩
            case round =>
              obtain ⟨hx, t, htg, hown⟩ := hrel
              clear HX HOW
              have HX := Lib.hid hx
              clear hx
              obtain ⟨oa, oc, hvs, hob⟩ := owns_shape hown
              have hm1 : 1 ≤ (walkP a xs k q z t).length := by rw [walkP_len]; have := walkS_pos a xs k; omega
              obtain ⟨ob, hob2, _⟩ := hob hm1
              subst hob2
              subst hvs
              have hmU : (walkP a xs k q z t).length ≤ 600 := by rw [walkP_len]; unfold gap1 at htg; omega
              have hlast : ((walkP a xs k q z t).map iv)[(walkP a xs k q z t).length - 1]? = some (iv (if q ≤ z then q + (t : Int) else q - (t : Int))) := by
                rw [List.getElem?_map]
                unfold walkP
                rw [legT_last (walkS_pos a xs k) (by rw [walkS_last, HPQ.out])]
                rfl
              have hnx := walkP_next a xs k q z t
              generalize hys : (walkP a xs k q z t).map iv = ys at *
              generalize hml : (walkP a xs k q z t).length = m at *
              have HYS := Lib.hid hys
              have HML := Lib.hid hml
              have HNX := Lib.hid hnx
              have HLC := Lib.hid hlast
              have HOW := Lib.hid hown
              clear hown hys hml hnx hlast hob

              rw [if_neg (show ¬ q ≤ z by omega)] at HLC HNX
              have hcz : wr.cell? ⟨b, o + k, none⟩ = some (.int .i64 z) := (HX.out.below.cell (p := ⟨b, o + k, none⟩) HBB.out).trans HCZ.out
              have hlc : wr.cell? ⟨ob, m - 1, none⟩ = some (.int .i64 (q - (t : Int))) := by
                have h := HOW.out.cellAt (m - 1) (by omega)
                rw [HLC.out] at h
                exact h

              have hi2 : 0 ≤ (m : Int) - 1 := by omega
              have hi3 : (m : Int) - 1 < m := by omega
              have hw1 : IntKind.i64.wrap ((m : Int) - 1) = (m : Int) - 1 := IntWalk.i64_in _ (by omega)
              by_cases hlt2 : z < q - (t : Int)
              · have htg2 : ((t + 1 : Nat) : Int) ≤ gap1 z q := by unfold gap1; omega
                go_wp2_with fail
                go_quiet (fail)
                have HX := Lib.hid (HX.out.next (below_drewN _ nq))
                have HOW := Lib.hid (owns_below HOW.out (below_drewN _ nq))
                have hlc : (wr.drewN nq).cell? ⟨ob, m - 1, none⟩ = some (.int .i64 (q - (t : Int))) := hlc
                clear hcz
                generalize wr.drewN nq = wq at *
                go_wp2_with (at_builtin; refine wpList_append_own _ rfl _ _ 24 rfl (w.heap.size + 1) 3 i0 (.int .i64 0) 1 8 Try.underlying24 hi hz0 hz1 hz2 rfl (by decide) _ _ _ rfl (HOW.out.alloc _) ⟨wq.heap.size, 0, none⟩ 1 1 [.int .i64 (q - (t : Int) - 1)] rfl rfl (cell_one_new _ _ _) ?c2 ?c3 ?c4 ?c5 ?_)
                case c2 => first | (intro u hu; simp at hu; subst hu; rfl) | rfl
                case c3 => unfold maxLen; omega
                case c4 => omega
                case c5 => have := HX.out.size; simp; omega
                intro v' w9 hown' hgrow _
                have HXE := Lib.hid (boxed_append HX.out hgrow (fun b hb => (owns_block HOW.out b hb).1))
                have hoe : w9.ownsRow (w.heap.size + 1) 3 1 v' (walkP a xs k q z (t + 1)).length ((walkP a xs k q z (t + 1)).map iv) := by
                  rw [HNX.out, List.length_append, List.map_append, HYS.out, HML.out]
                  have h := hown'
                  rw [show q - (t : Int) - 1 = q - ((t : Int) + 1) by omega] at h
                  exact h
                have HOE := Lib.hid hoe
                obtain ⟨va, vc, hvs, _⟩ := owns_shape hown'
                subst hvs
                clear hgrow hown' hoe
                go_wp2_with fail
                go_roundw
                case rel => exact ⟨HXE.out, t + 1, htg2, HOE.out⟩
                case measure =>
                  show 1000 - (m + 1) < 1000 - m
                  omega
              · have htz : (t : Int) = gap1 z q := by unfold gap1; unfold gap1 at htg; omega
                have hws : walkP a xs k q z t = walkS a xs (k + 1) := by rw [walkS_next HPQ.out HZK.out, ← htz, Int.toNat_natCast]; rfl
                have hoo := HOW.out
                rw [← HYS.out, ← HML.out, hws] at hoo
                have hm2 : m = (walkS a xs (k + 1)).length := by rw [← HML.out, hws]
                have HM2 := Lib.hid hm2
                have HOF := Lib.hid hoo
                have hqt : q - (t : Int) = z := by unfold gap1 at htz; omega
                rw [hqt] at hlc HLC
                have HLZ := Lib.hid hlc
                clear hoo hws hm2 htz
                have hcmp : ¬ z < z := by omega
                go_wp2_with fail
                go_quiet (fail)
                have HX := Lib.hid (HX.out.next (below_drewN _ nq))
                have HOG := Lib.hid (owns_below HOF.out (below_drewN _ nq))
                have hlc : (wr.drewN nq).cell? ⟨ob, m - 1, none⟩ = some (.int .i64 z) := HLZ.out
                clear hcz
                have hcz : (wr.drewN nq).cell? ⟨b, o + k, none⟩ = some (.int .i64 z) := (HX.out.below.cell (p := ⟨b, o + k, none⟩) HBB.out).trans HCZ.out
                generalize wr.drewN nq = wq at *

                go_wp2_with fail
                go_roundw
                case rel => exact ⟨HX.out, k + 1, by omega, by go_num, by have h := HOG.out; rw [← HM2.out] at h ⊢; exact h⟩
                case measure => simp [intOf]; omega


      · have hke : k = xs.length := by omega
        subst hke
        obtain ⟨oa, oc, hvs, _⟩ := owns_shape HOW.out
        subst hvs
        have HMD2 := Lib.hid (HMD.out wr (Nat.succ_le_of_lt hsz))
        by_cases hfit : (walkS a xs xs.length).length ≤ 61
        · have HR := Lib.hid (HYES.out hfit)
          go_wp2_with fail
          go_ret2
          exact owns_R (zs := walkS a xs xs.length) (b := true) HR.out (owns_out HX.out HOW.out)
        · have HR := Lib.hid (swalkR_long (n := n) (g := false) (a := a) (xs := xs) hfit)
          go_wp2_with fail
          go_ret2
          exact owns_R (zs := []) (b := false) HR.out (owns_out (HX.out.next (below_new _ _)) HMD2.out)
end Go.Proofs.Ytnclfdfnhhicdaa
