/-
  What is proved: the contracts of LabelMoves of the model and of the program. Conditions: slices that read as lists of numbers.
-/
import Derived.Test.YtcpembfioelnlaaDoorMeg
import Derived.Deep.AppendLies
import Derived.Deep.RegionHeld3
namespace Go.Proofs.YtcpembfioelnlaaDoor
open Go.RowKit
set_option linter.unusedVariables false
set_option linter.unusedSimpArgs false

set_option maxHeartbeats 1600000 in
set_option maxRecDepth 20000 in
theorem impl_LabelMoves (v : Value) (xs : List Int) (a : Int) (w : World) (hv : ReadsI w v xs) :
    Calls Tryd.prog 56 #[v, .int .i64 a] w (OwnsB w.heap.size (toldR xs a).1 (toldR xs a).2 w) := by
  obtain ⟨i0, hi, hz0, hz1, hz2⟩ := info_parts infoInt
  have HBI := Lib.hid (fun w hv => isLabel_any v xs w hv)
  have HV := Lib.hid (hv.below (below_new w (.cells #[] 3)))
  have HM0 := Lib.hid (made_0 w)
  have HB0 := Lib.hid (below_new w (.cells #[] 3))
  have HRE := Lib.hid (fun b o p m w hb hp hm => repeat_owns b o p m w hb hp hm)
  obtain ⟨y, c, rfl, hc, hm, hx⟩ := hv
  have HL := Lib.hid hx
  unfold maxLen at hm
  clear hx
  go_enter Tryd.func56, Tryd.ntmps56
  go_wp2_with fail
  refine (HBI.out _ HV.out).mono ?_
  rintro e w1 ⟨rfl, rfl⟩
  cases hb : withB 6 0 1 xs
  · have HR := Lib.hid (toldR_no (xs := xs) (a := a) (fun h => by rw [h.1] at hb; cases hb))
    clear hb
    go_wp2_with fail
    go_ret2
    exact owns_RL HR.out rfl HM0.out (below_new _ _)
  · have hx := (withB_iff 6 0 1 xs).1 hb
    have hx1 := hx.1
    have hx2 := hx.2.1
    have HB := Lib.hid hb
    have hx3 : ¬ (xs.length : Int) = 0 := by omega
    have hx4 : (xs.length : Int) ≠ 0 := hx3
    have hx5 : xs ≠ [] := fun h => by rw [h] at hx1; simp at hx1
    have hx6 : ((xs.length : Int) == 0) = false := by simpa using hx5
    clear hx hb
    by_cases ha1 : a < 1
    · have HR := Lib.hid (toldR_no (xs := xs) (a := a) (fun h => by omega))
      go_wp2_with fail
      go_ret2
      exact owns_RL HR.out rfl HM0.out (below_new _ _)
    · have hdiv : a ≤ 24 / (xs.length : Int) ↔ a * xs.length ≤ 24 := Int.le_ediv_iff_mul_le (by omega)
      have hd0 : 0 ≤ 24 / (xs.length : Int) := Int.ediv_nonneg (by omega) (by omega)
      have hd1 : 24 / (xs.length : Int) ≤ 24 := Int.ediv_le_self _ (by omega)
      by_cases hs : a * (xs.length : Int) ≤ 24
      · have ha24 := told_small HB.out (by omega) hs
        obtain ⟨N, rfl⟩ : ∃ N : Nat, a = N := ⟨a.toNat, by omega⟩
        have HR := Lib.hid (toldR_yes ⟨HB.out, by omega, hs⟩)
        have hle := hdiv.2 hs
        have hNN : N ≤ 24 := by omega
        have HTL := Lib.hid (toldL_len xs N)
        clear hdiv hs
        go_wp2_with fail
        clear hle hd0 hd1
        go_loopw [6, 27] (fun v i wr => GrowR (toldL xs N) xs.length w.heap.size w v i wr) (fun _ i _ => xs.length - (intOf i).toNat)
        case atStart => exact ⟨HB0.out, by simp, 0, 0, Nat.zero_le _, rfl, rfl, HM0.out⟩
        case round =>
          obtain ⟨hb, hbs, k, m, hk, rfl, hm, hown⟩ := hrel
          have HB := Lib.hid hb
          have HBS := Lib.hid hbs
          have HOW := Lib.hid hown
          have hmk := HTL.out k hk
          rw [hm] at hmk
          have HM := Lib.hid hm
          clear hb hbs hown hm HB0 HM0
          by_cases hlt : k < xs.length
          · obtain ⟨x, hxk⟩ := get_some hlt
            obtain ⟨b, o, rfl, hbl, hcx0⟩ := HL.out k x hxk
            have HXK := Lib.hid hxk
            have hm144 : m ≤ 144 := by rw [hmk]; exact Nat.le_trans (Nat.mul_le_mul (by omega : k ≤ 6) hNN) (by omega)
            have HMK := Lib.hid hmk
            have hcx : wr.cell? ⟨b, o + k, none⟩ = some (.int .i64 x) := (HB.out.cell (p := ⟨b, o + k, none⟩) hbl).trans hcx0
            generalize hys : (toldL xs N k).map iv = ys at *
            have HYS := Lib.hid hys
            clear hxk hmk hys
            go_wp2_with fail
            refine (HRE.out wr.heap.size 0 x N _ (by simp) (cell_at _ _ _ _ _ rfl rfl) (by omega)).mono ?_
            rintro e w2 ⟨g, rfl, ho, hb⟩
            have HB2 := Lib.hid (HB.out.trans (((below_new _ _).trans (hb.mono (by simp))).mono HBS.out))
            have HBS2 := Lib.hid (Nat.le_trans HBS.out (Nat.le_trans (by simp : wr.heap.size ≤ (wr.alloc (.cells #[.int .i64 x] 3)).heap.size) hb.size))
            have HO2 := Lib.hid ho
            have HOW2 := Lib.hid (owns_below (HOW.out.alloc _) hb)
            have HW2 := Lib.hid (HOW2.out.lt)
            clear ho hb hcx
            go_wp2_with (at_builtin; refine wpList_append_own _ rfl _ _ 24 rfl w.heap.size 3 i0 (.int .i64 0) 1 8 Tryd.underlying24 hi hz0 hz1 hz2 rfl (by decide) _ _ _ rfl HOW2.out ⟨g, 0, none⟩ N N ((List.replicate N x).map iv) rfl ?c1 ?c2 ?c3 ?c4 ?c5 ?c6 ?_)
            case c1 => simp
            case c2 => exact HO2.out.cells rfl
            case c3 => intro u hu; rw [List.mem_map] at hu; obtain ⟨z, _, rfl⟩ := hu; rfl
            case c4 => unfold maxLen; omega
            case c5 => omega
            case c6 => exact HBS2.out
            intro v9 w9 hown9 hgrow9 _
            have HOW9 := Lib.hid hown9
            have HB9 := Lib.hid (HB2.out.trans (below_grown hgrow9 (fun b hb => (HW2.out b hb).1) HBS2.out))
            have HBS9 := Lib.hid (Nat.le_trans HBS2.out hgrow9.size)
            clear hown9 hgrow9
            go_wp2_with fail
            go_roundw
            case rel => exact ⟨HB9.out, HBS9.out, k + 1, m + N, by omega, by go_num, by rw [HTL.out (k + 1) (by omega), HMK.out, Nat.add_mul, Nat.one_mul], by rw [toldL_next HXK.out, List.map_append, HYS.out, List.map_replicate]; exact HOW9.out⟩
            case measure => simp [intOf]; omega
          · have hke : k = xs.length := by omega
            subst hke
            go_wp2_with fail
            go_ret2
            exact owns_RL HR.out HM.out HOW.out HB.out
      · have HR := Lib.hid (toldR_no (xs := xs) (a := a) (fun h => hs h.2.2))
        have hle : 24 / (xs.length : Int) < a := by omega
        clear hdiv
        go_wp2_with fail
        go_ret2
        exact owns_RL HR.out rfl HM0.out (below_new _ _)
end Go.Proofs.YtcpembfioelnlaaDoor
