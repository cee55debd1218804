/-
  What is proved: the contracts of DoubleLabel of the model and of the program. Conditions: slices that read as lists of numbers.
-/
import Derived.Test.YtcpembfioelnlaaMeg
import Derived.Deep.AppendLies
import Derived.Deep.RegionHeld3
namespace Go.Proofs.Ytcpembfioelnlaa
open Go.RowKit
set_option linter.unusedVariables false
set_option linter.unusedSimpArgs false

set_option maxHeartbeats 1600000 in
set_option maxRecDepth 20000 in
theorem spec_DoubleLabel (v : Value) (xs : List Int) (w : World) (hv : ReadsI w v xs) :
    Calls Try.prog 27 #[v] w (OwnsB w.heap.size (dblR xs).1 (dblR xs).2 w) := by
  obtain ⟨i0, hi, hz0, hz1, hz2⟩ := info_parts infoInt
  have HBI := Lib.hid (fun w hv => l4Bits_any v xs w hv)
  have HBI2 := Lib.hid (fun v xs w hv => l4Bits_any v xs w hv)
  have HV := Lib.hid (hv.below (below_new w (.cells #[] 3)))
  have HM0 := Lib.hid (made_0 w)
  have HB0 := Lib.hid (below_new w (.cells #[] 3))
  have HTL := Lib.hid (dblL_len xs)
  obtain ⟨y, c, rfl, hc, hm, hx⟩ := hv
  have HL := Lib.hid hx
  unfold maxLen at hm
  clear hx
  go_enter Try.func27, Try.ntmps27
  go_wp2_with fail
  refine (HBI.out _ HV.out).mono ?_
  rintro e w1 ⟨rfl, rfl⟩
  cases hb : withB 6 0 1 xs
  · have HR := Lib.hid (dblR_no (xs := xs) (fun h => by rw [h.1] at hb; cases hb))
    clear hb
    go_wp2_with fail
    go_ret2
    exact owns_RL HR.out rfl HM0.out (below_new _ _)
  · have hx := (withB_iff 6 0 1 xs).1 hb
    have hx1 := hx.1
    have hx2 := hx.2.1
    have HBT := Lib.hid hb
    have HIT := Lib.hid hx.2.2
    clear hx hb
    by_cases hs : xs.length ≤ 2
    · have HR := Lib.hid (dblR_yes ⟨HBT.out, hs⟩)
      go_wp2_with fail
      go_loopw [4, 5] (fun v i wr => GrowR (dblL xs) xs.length w.heap.size w v i wr) (fun _ i _ => xs.length - (intOf i).toNat)
      case atStart => exact ⟨HB0.out, by simp, 0, 0, Nat.zero_le _, rfl, rfl, HM0.out⟩
      case round =>
        obtain ⟨hb, hbs, k, m, hk, rfl, hm, hown⟩ := hrel
        have HB := Lib.hid hb
        have HBS := Lib.hid hbs
        have HOW := Lib.hid hown
        have hmk := HTL.out k hk
        rw [hm] at hmk
        have HM := Lib.hid hm
        clear hb hbs hown hm HB0 HM0
        by_cases hlt : k < xs.length
        · obtain ⟨x, hxk⟩ := get_some hlt
          obtain ⟨b, o, rfl, hbl, hcx0⟩ := HL.out k x hxk
          have HXK := Lib.hid hxk
          have hm12 : m ≤ 12 := by omega
          have HMK := Lib.hid hmk
          have hcx : wr.cell? ⟨b, o + k, none⟩ = some (.int .i64 x) := (HB.out.cell (p := ⟨b, o + k, none⟩) hbl).trans hcx0
          have hi0 : 0 ≤ (k : Int) := by omega
          have hi1 : (k : Int) < xs.length := by omega
          generalize hys : (dblL xs k).map iv = ys at *
          have HYS := Lib.hid hys
          clear hxk hmk hys
          have hkl : (m + 2) * 8 ≤ 140737488355328 := by omega
          have hown := HOW.out
          go_wp2_with fail
          go_region_held3 (fun w' => Below w.heap.size w w' ∧ w'.cell? ⟨b, o + k, none⟩ = some (.int .i64 x))
            (first | exact hS9 | exact ⟨HB.out.trans ((below_drewN _ 1).mono HBS.out), hcx⟩ | exact ⟨HB.out.trans (((below_new _ _).trans ((below_drewN _ 1).mono (by simp))).mono HBS.out), ((below_new wr _).cell (p := ⟨b, o + k, none⟩) (World.block_lt_of_cell? _ _ hcx)).trans hcx⟩)
            ((refine step_append_lies _ (by rfl) _ _ _ (by rfl) w.heap.size 3 i0 _ 1 8 Try.underlying24 hi hz0 hz1 hz2 rfl (by decide) _ m _ (by rfl) (owns_below (hown.alloc _) (below_drewN _ 1))
                ⟨wr.heap.size, 0, none⟩ 2 2 [.int .i64 x, .int .i64 x] (by rfl) (by rfl) (World.news_of_block (cs := #[.int .i64 x, .int .i64 x]) (t := 3) (fr := (0, 0)) (heap_alloc_new wr _)) (by simp [Value.oneCell'])
                (by decide) (by unfold maxLen; omega) hkl (by have := HBS.out; simp; omega) (wr.heap.size + 1) (by simp) ?_; intro gg cap w9 hown9 hgrow _ _; have hS9 := (⟨(HB.out.trans (((below_new _ _).trans ((below_drewN _ 1).mono (by simp))).mono HBS.out)).trans (below_grown hgrow (fun b hb => (hown.lt b hb).1) (by have := HBS.out; simp; omega)), (hgrow.cell_far ⟨b, o + k, none⟩ (by have : b < wr.heap.size := World.block_lt_of_cell? _ _ hcx; simp; omega) (fun h => by have := (hown.lt b h.symm).1; omega)).trans (((below_new wr _).cell (p := ⟨b, o + k, none⟩) (World.block_lt_of_cell? _ _ hcx)).trans hcx)⟩ : Below w.heap.size w w9 ∧ w9.cell? ⟨b, o + k, none⟩ = some (.int .i64 x))))
          have HB9 := Lib.hid hS9.1
          have HBS9 := Lib.hid (Nat.le_trans (by have := HBS.out; simp; omega : w.heap.size ≤ ((wr.alloc (.cells #[.int .i64 x, .int .i64 x] 3)).drew).heap.size) hgrow.size)
          have HOW9 := Lib.hid hown9
          clear hown9 hgrow hS9
          go_wp2_with fail
          go_roundw
          case rel => exact ⟨HB9.out, HBS9.out, k + 1, m + 2, by omega, by go_num, by rw [HTL.out (k + 1) (by omega), HMK.out]; omega, by rw [dblL_next HXK.out, List.map_append, HYS.out]; exact HOW9.out⟩
          case measure => simp [intOf]; omega
        · have hke : k = xs.length := by omega
          have hmk2 : m = k * 2 := hmk
          have hm12 : m ≤ 12 := by omega
          subst hke
          generalize hys : (dblL xs xs.length).map iv = ys at *
          have HYS := Lib.hid hys
          clear hys hmk hmk2
          go_wp2_with (at_builtin; refine wpList_append_own _ rfl _ _ 24 rfl w.heap.size 3 i0 (.int .i64 0) 1 8 Try.underlying24 hi hz0 hz1 hz2 rfl (by decide) _ _ _ rfl (HOW.out.alloc _) ⟨wr.heap.size, 0, none⟩ 2 2 [.int .i64 0, .int .i64 1] rfl rfl (cell_new_all _ _ _) ?e2 ?e3 ?e4 ?e5 ?_)
          case e2 => intro u hu; simp at hu; rcases hu with rfl | rfl <;> rfl
          case e3 => unfold maxLen; omega
          case e4 => omega
          case e5 => have := HBS.out; simp; omega
          intro v9 w9 hown9 hgrow9 _
          have HOW9 := Lib.hid hown9
          have HB9 := Lib.hid (HB.out.trans ((below_new _ _).mono HBS.out) |>.trans (below_grown hgrow9 (fun b hb => (HOW.out.lt b hb).1) (by have := HBS.out; simp; omega)))
          have HBS9 := Lib.hid (Nat.le_trans (by have := HBS.out; simp; omega : w.heap.size ≤ (wr.alloc (.cells #[.int .i64 0, .int .i64 1] 3)).heap.size) hgrow9.size)
          clear hown9 hgrow9
          have HZ := Lib.hid (show w9.ownsRow w.heap.size 3 1 v9 (m + 2) ((dblL xs xs.length ++ [0, 1]).map iv) by
            rw [List.map_append, HYS.out]
            exact HOW9.out)
          go_wp2_with fail
          go_ret2
          exact owns_RL HR.out (by rw [List.length_append, HM.out]; rfl) HZ.out HB9.out
    · have HR := Lib.hid (dblR_no (xs := xs) (fun h => hs h.2))
      go_wp2_with fail
      go_ret2
      exact owns_RL HR.out rfl HM0.out (below_new _ _)
set_option maxHeartbeats 1600000 in
set_option maxRecDepth 20000 in
theorem impl_DoubleLabel (v : Value) (xs : List Int) (w : World) (hv : ReadsI w v xs) :
    Calls Try.prog 28 #[v] w (OwnsB w.heap.size (dblR xs).1 (dblR xs).2 w) := by
  obtain ⟨i0, hi, hz0, hz1, hz2⟩ := info_parts infoInt
  have HBI := Lib.hid (fun w hv => isLabel_any v xs w hv)
  have HBI2 := Lib.hid (fun v xs w hv => isLabel_any v xs w hv)
  have HV := Lib.hid (hv.below (below_new w (.cells #[] 3)))
  have HM0 := Lib.hid (made_0 w)
  have HB0 := Lib.hid (below_new w (.cells #[] 3))
  have HTL := Lib.hid (dblL_len xs)
  obtain ⟨y, c, rfl, hc, hm, hx⟩ := hv
  have HL := Lib.hid hx
  unfold maxLen at hm
  clear hx
  go_enter Try.func28, Try.ntmps28
  go_wp2_with fail
  refine (HBI.out _ HV.out).mono ?_
  rintro e w1 ⟨rfl, rfl⟩
  cases hb : withB 6 0 1 xs
  · have HR := Lib.hid (dblR_no (xs := xs) (fun h => by rw [h.1] at hb; cases hb))
    clear hb
    go_wp2_with fail
    go_ret2
    exact owns_RL HR.out rfl HM0.out (below_new _ _)
  · have hx := (withB_iff 6 0 1 xs).1 hb
    have hx1 := hx.1
    have hx2 := hx.2.1
    have HBT := Lib.hid hb
    have HIT := Lib.hid hx.2.2
    clear hx hb
    go_wp2_with fail
    go_loopw [4, 14] (fun v i wr => GrowR (dblL xs) xs.length w.heap.size w v i wr) (fun _ i _ => xs.length - (intOf i).toNat)
    case atStart => exact ⟨HB0.out, by simp, 0, 0, Nat.zero_le _, rfl, rfl, HM0.out⟩
    case round =>
      obtain ⟨hb, hbs, k, m, hk, rfl, hm, hown⟩ := hrel
      have HB := Lib.hid hb
      have HBS := Lib.hid hbs
      have HOW := Lib.hid hown
      have hmk := HTL.out k hk
      rw [hm] at hmk
      have HM := Lib.hid hm
      clear hb hbs hown hm HB0 HM0
      by_cases hlt : k < xs.length
      · obtain ⟨x, hxk⟩ := get_some hlt
        obtain ⟨b, o, rfl, hbl, hcx0⟩ := HL.out k x hxk
        have HXK := Lib.hid hxk
        have hm12 : m ≤ 12 := by omega
        have HMK := Lib.hid hmk
        have hcx : wr.cell? ⟨b, o + k, none⟩ = some (.int .i64 x) := (HB.out.cell (p := ⟨b, o + k, none⟩) hbl).trans hcx0
        have hi0 : 0 ≤ (k : Int) := by omega
        have hi1 : (k : Int) < xs.length := by omega
        generalize hys : (dblL xs k).map iv = ys at *
        have HYS := Lib.hid hys
        clear hxk hmk hys
        go_wp2_with (at_builtin; refine wpList_append_own _ rfl _ _ 24 rfl w.heap.size 3 i0 (.int .i64 0) 1 8 Try.underlying24 hi hz0 hz1 hz2 rfl (by decide) _ _ _ rfl (HOW.out.alloc _) ⟨wr.heap.size, 0, none⟩ 2 2 [.int .i64 x, .int .i64 x] rfl rfl (cell_new_all _ _ _) ?c2 ?c3 ?c4 ?c5 ?_)
        case c2 => intro u hu; simp at hu; rcases hu with rfl | rfl <;> rfl
        case c3 => unfold maxLen; omega
        case c4 => omega
        case c5 => have := HBS.out; simp; omega
        intro v9 w9 hown9 hgrow9 _
        have HOW9 := Lib.hid hown9
        have HB9 := Lib.hid (HB.out.trans ((below_new _ _).mono HBS.out) |>.trans (below_grown hgrow9 (fun b hb => (HOW.out.lt b hb).1) (by have := HBS.out; simp; omega)))
        have HBS9 := Lib.hid (Nat.le_trans (by have := HBS.out; simp; omega : w.heap.size ≤ (wr.alloc (.cells #[.int .i64 x, .int .i64 x] 3)).heap.size) hgrow9.size)
        clear hown9 hgrow9
        go_wp2_with fail
        go_roundw
        case rel => exact ⟨HB9.out, HBS9.out, k + 1, m + 2, by omega, by go_num, by rw [HTL.out (k + 1) (by omega), HMK.out]; omega, by rw [dblL_next HXK.out, List.map_append, HYS.out]; exact HOW9.out⟩
        case measure => simp [intOf]; omega
      · have hke : k = xs.length := by omega
        have hmk2 : m = k * 2 := hmk
        have hm12 : m ≤ 12 := by omega
        subst hke
        generalize hys : (dblL xs xs.length).map iv = ys at *
        have HYS := Lib.hid hys
        have HMK := Lib.hid hmk
        clear hys hmk hmk2
        go_wp2_with (at_builtin; refine wpList_append_own _ rfl _ _ 24 rfl w.heap.size 3 i0 (.int .i64 0) 1 8 Try.underlying24 hi hz0 hz1 hz2 rfl (by decide) _ _ _ rfl (HOW.out.alloc _) ⟨wr.heap.size, 0, none⟩ 2 2 [.int .i64 0, .int .i64 1] rfl rfl (cell_new_all _ _ _) ?e2 ?e3 ?e4 ?e5 ?_)
        case e2 => intro u hu; simp at hu; rcases hu with rfl | rfl <;> rfl
        case e3 => unfold maxLen; omega
        case e4 => omega
        case e5 => have := HBS.out; simp; omega
        intro v9 w9 hown9 hgrow9 _
        have HOW9 := Lib.hid hown9
        have HB9 := Lib.hid (HB.out.trans ((below_new _ _).mono HBS.out) |>.trans (below_grown hgrow9 (fun b hb => (HOW.out.lt b hb).1) (by have := HBS.out; simp; omega)))
        have HBS9 := Lib.hid (Nat.le_trans (by have := HBS.out; simp; omega : w.heap.size ≤ (wr.alloc (.cells #[.int .i64 0, .int .i64 1] 3)).heap.size) hgrow9.size)
        clear hown9 hgrow9
        have HZ := Lib.hid (show w9.ownsRow w.heap.size 3 1 v9 (dblL xs xs.length ++ [0, 1]).length ((dblL xs xs.length ++ [0, 1]).map iv) by
          rw [List.length_append, HM.out, List.map_append, HYS.out]
          exact HOW9.out)
        have hzl : (dblL xs xs.length ++ [0, 1]).length = m + 2 := by rw [List.length_append, HM.out]; rfl
        have HZL := Lib.hid hzl
        clear hzl
        go_wp2_with fail
        refine (HBI2.out _ (dblL xs xs.length ++ [0, 1]) _ (owns_reads HZ.out (by have := HZL.out; unfold maxLen; omega))).mono ?_
        rintro e w2 ⟨rfl, rfl⟩
        by_cases hs : xs.length ≤ 2
        · have HR := Lib.hid (dblR_yes ⟨HBT.out, hs⟩)
          have HW := Lib.hid (show withB 6 0 1 (dblL xs xs.length ++ [0, 1]) = true from (withB_iff 6 0 1 _).2 ⟨by have := HZL.out; omega, by have := HZL.out; have := HMK.out; omega, fun j z hz => by
            unfold dblL at hz
            have hmem := List.mem_of_getElem? hz
            rw [List.take_length, List.mem_append, List.mem_flatMap] at hmem
            rcases hmem with ⟨q, hq, hz2⟩ | hz2
            · obtain ⟨j2, hj2⟩ := List.getElem?_of_mem hq
              have := HIT.out j2 q hj2
              simp at hz2
              omega
            · simp at hz2
              omega⟩)
          rw [HW.out]
          go_wp2_with fail
          go_ret2
          exact owns_R (zs := dblL xs xs.length ++ [0, 1]) (b := true) HR.out ⟨v9, rfl, HZ.out, HB9.out⟩
        · have HR := Lib.hid (dblR_no (xs := xs) (fun h => hs h.2))
          have HW := Lib.hid (withB_no (most := 6) (lo := 0) (hi := 1) (xs := dblL xs xs.length ++ [0, 1]) (fun h => by have := HZL.out; have := HMK.out; omega))
          rw [HW.out]
          have HM9 := Lib.hid (made_at w2 w.heap.size w2.heap.size rfl HBS9.out)
          go_wp2_with fail
          go_ret2
          exact owns_RL HR.out rfl HM9.out (HB9.out.trans ((below_new _ _).mono HBS9.out))
end Go.Proofs.Ytcpembfioelnlaa
