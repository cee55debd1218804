/-
  What is proved: DoublingSearch of the model and of the program, and the contract of spec.l3Straight. Conditions: those of each contract.
-/
import Derived.Test.YtnclfdfnhhicdaaSeg
import Derived.Test.YtnclfdfnhhicdaaFn4
import Derived.BigQuiet
namespace Go.Proofs.Ytnclfdfnhhicdaa
open Go.RowKit
set_option linter.unusedVariables false
set_option linter.unusedSimpArgs false

/-- whether the k-th turning place stays -/
def stayB (a : Int) (xs : List Int) (k : Nat) : Bool := (k + 1 == xs.length) || (decide (a < xs.getD k 0) != decide (a < xs.getD (k + 1) 0))
/-- those of the first k turning places that stay -/
def strT (a : Int) (xs : List Int) : Nat → List Int
  | 0 => []
  | k + 1 => strT a xs k ++ (if stayB a xs k then [xs.getD k 0] else [])
theorem strT_yes {a : Int} {xs : List Int} {k : Nat} {x : Int} (hx : xs[k]? = some x) (h : stayB a xs k = true) : strT a xs (k + 1) = strT a xs k ++ [x] := by
  show strT a xs k ++ (if stayB a xs k then [xs.getD k 0] else []) = _
  rw [if_pos h, show xs.getD k 0 = x by simp [hx]]
theorem strT_no {a : Int} {xs : List Int} {k : Nat} (h : stayB a xs k = false) : strT a xs (k + 1) = strT a xs k := by
  show strT a xs k ++ (if stayB a xs k then [xs.getD k 0] else []) = _
  rw [if_neg (by rw [h]; exact Bool.false_ne_true), List.append_nil]
theorem strT_len (a : Int) (xs : List Int) : ∀ k, (strT a xs k).length ≤ k
  | 0 => Nat.le_refl _
  | k + 1 => by
    show (strT a xs k ++ (if stayB a xs k then [xs.getD k 0] else [])).length ≤ _
    have := strT_len a xs k
    split <;> simp <;> omega
theorem keep_last {a : Int} {xs : List Int} {k : Nat} (h : k + 1 = xs.length) : stayB a xs k = true := by
  unfold stayB
  simp [h]
theorem keep_mid {a : Int} {xs : List Int} {k : Nat} {x y : Int} (h : ¬ k + 1 = xs.length) (hx : xs[k]? = some x) (hy : xs[k + 1]? = some y) : stayB a xs k = (decide (a < x) != decide (a < y)) := by
  unfold stayB
  rw [show xs.getD k 0 = x by simp [hx], show xs.getD (k + 1) 0 = y by simp [hy]]
  simp [h]
def StrR (a : Int) (xs : List Int) (w : World) (ov i : Value) (wr : World) : Prop :=
  Below w.heap.size w wr ∧ w.heap.size < wr.heap.size ∧ ∃ k : Nat, k ≤ xs.length ∧ i = .int .i64 k ∧ wr.ownsRow w.heap.size 3 1 ov (strT a xs k).length ((strT a xs k).map iv)
set_option maxHeartbeats 1600000 in
set_option maxRecDepth 20000 in
theorem l3Straight_any (a : Int) (v : Value) (xs : List Int) (w : World) (hv : ReadsI w v xs) (hlen : xs.length ≤ 1000) :
    Calls Try.prog 68 #[.int .i64 a, v] w (OwnsI w.heap.size (strT a xs xs.length) w) := by
  obtain ⟨i0, hi, hz0, hz1, hz2⟩ := info_parts infoInt
  have HBL := Lib.hid (below_new w (.cells #[] 3))
  have HO := Lib.hid (made_at w w.heap.size w.heap.size rfl (Nat.le_refl _))
  have HSZ := Lib.hid (show w.heap.size < (w.alloc (.cells #[] 3)).heap.size by simp)
  obtain ⟨y, c, rfl, hc, hm, hx⟩ := hv
  have HL := Lib.hid hx
  unfold maxLen at hm
  clear hx
  go_enter Try.func68, Try.ntmps68
  go_wp2_with fail
  go_loopw [5, 6] (fun ov i wr => StrR a xs w ov i wr) (fun _ i _ => xs.length - (intOf i).toNat)
  case atStart => exact ⟨HBL.out, HSZ.out, 0, Nat.zero_le _, rfl, HO.out⟩
  case round =>
    obtain ⟨hbl, hsz, k, hk, rfl, hown⟩ := hrel
    clear HBL HO HSZ
    have HBL := Lib.hid hbl
    have HO := Lib.hid hown
    clear hbl hown
    by_cases hlt : k < xs.length
    · obtain ⟨x, hxk⟩ := get_some hlt
      obtain ⟨b, o, rfl, hbl0, hcx0⟩ := HL.out k x hxk
      have hcx : wr.cell? ⟨b, o + k, none⟩ = some (.int .i64 x) := (HBL.out.cell (p := ⟨b, o + k, none⟩) hbl0).trans hcx0
      have HXK := Lib.hid hxk
      have HB0 := Lib.hid hbl0
      have hsl := strT_len a xs k
      have hi0 : 0 ≤ (k : Int) := by omega
      have hi1 : (k : Int) < xs.length := by omega
      clear hcx0 hxk hbl0
      by_cases hl : k + 1 = xs.length
      · have HN := Lib.hid (strT_yes HXK.out (keep_last (a := a) hl))
        have hle : (((k : Int) + 1) == (xs.length : Int)) = true := by simp; omega
        have hw1 : IntKind.i64.wrap ((k : Int) + 1) = (k : Int) + 1 := IntWalk.i64_in _ (by omega)
        have HLE := Lib.hid hl
        clear hl
        go_wp2_with fail
        go_quiet (fail)
        clear hle hw1
        have HBL1 := Lib.hid (HBL.out.trans ((below_drewN _ nq).mono HBL.out.size))
        have HO1 := Lib.hid (owns_below HO.out (below_drewN _ nq))
        have hcx : (wr.drewN nq).cell? ⟨b, o + k, none⟩ = some (.int .i64 x) := hcx
        have hsz : w.heap.size < (wr.drewN nq).heap.size := hsz
        generalize wr.drewN nq = wq at *
        generalize hys : (strT a xs k).map iv = ys at *
        generalize hsl0 : (strT a xs k).length = sl at *
        have HYS := Lib.hid hys
        have HSL := Lib.hid hsl0
        clear hys hsl0
        go_wp2_with (at_builtin; refine wpList_append_own _ rfl _ _ 24 rfl w.heap.size 3 i0 (.int .i64 0) 1 8 Try.underlying24 hi hz0 hz1 hz2 rfl (by decide) _ _ _ rfl (HO1.out.alloc _) ⟨wq.heap.size, 0, none⟩ 1 1 [.int .i64 (x)] rfl rfl (cell_one_new _ _ _) ?c2 ?c3 ?c4 ?c5 ?_)
        case c2 => first | (intro u hu; simp at hu; subst hu; rfl) | rfl
        case c3 => unfold maxLen; omega
        case c4 => omega
        case c5 => have := hsz; simp; omega
        intro v' w9 hown' hgrow _
        have hb9 := (HBL1.out.trans ((below_new wq (.cells #[.int .i64 x] 3)).mono HBL1.out.size)).grown hgrow (by simp; omega) (fun b hb => (owns_block HO1.out b hb).1)
        have HB9 := Lib.hid hb9
        have hs9 : w.heap.size < w9.heap.size := by have := hgrow.size; simp at this; omega
        have HO9 := Lib.hid hown'
        clear hb9 hgrow hown'
        go_wp2_with fail
        go_roundw
        case rel =>
          refine ⟨HB9.out, hs9, k + 1, by omega, by go_num, ?_⟩
          rw [HN.out, List.length_append, List.map_append, HYS.out, HSL.out]
          exact HO9.out
        case measure => simp [intOf]; omega

      · obtain ⟨z, hzk⟩ := get_some (xs := xs) (k := k + 1) (by omega)
        obtain ⟨b', o', e, _, hcz0⟩ := HL.out (k + 1) z hzk
        cases e
        have hcz : wr.cell? ⟨b, o + (k + 1), none⟩ = some (.int .i64 z) := (HBL.out.cell (p := ⟨b, o + (k + 1), none⟩) HB0.out).trans hcz0
        have hkm := keep_mid (a := a) hl HXK.out hzk
        have hle : (((k : Int) + 1) == (xs.length : Int)) = false := by simp; omega
        have hi2 : 0 ≤ (k : Int) + 1 := by omega
        have hi3 : (k : Int) + 1 < xs.length := by omega
        have hw1 : IntKind.i64.wrap ((k : Int) + 1) = (k : Int) + 1 := IntWalk.i64_in _ (by omega)
        clear hcz0 hzk
        by_cases h1 : a < x <;> by_cases h2 : a < z
        · have HN := Lib.hid (strT_no (hkm.trans (by simp [h1, h2])))
          clear hkm hl
          go_wp2_with fail
          go_quiet (fail)
          have HBL1 := Lib.hid (HBL.out.trans ((below_drewN _ nq).mono HBL.out.size))
          have HO1 := Lib.hid (owns_below HO.out (below_drewN _ nq))
          go_wp2_with fail
          go_roundw
          case rel => exact ⟨HBL1.out, hsz, k + 1, by omega, by go_num, by rw [HN.out]; exact HO1.out⟩
          case measure => simp [intOf]; omega

        · have HN := Lib.hid (strT_yes HXK.out (hkm.trans (by simp [h1, h2])))
          clear hkm hl
          go_wp2_with fail
          go_quiet (fail)
          rw [show (!decide (a < z)) = true by rw [decide_eq_false (show ¬ a < z by omega)]; rfl]
          clear hle hw1 hcz hi2 hi3
          have HBL1 := Lib.hid (HBL.out.trans ((below_drewN _ nq).mono HBL.out.size))
          have HO1 := Lib.hid (owns_below HO.out (below_drewN _ nq))
          have hcx : (wr.drewN nq).cell? ⟨b, o + k, none⟩ = some (.int .i64 x) := hcx
          have hsz : w.heap.size < (wr.drewN nq).heap.size := hsz
          generalize wr.drewN nq = wq at *
          generalize hys : (strT a xs k).map iv = ys at *
          generalize hsl0 : (strT a xs k).length = sl at *
          have HYS := Lib.hid hys
          have HSL := Lib.hid hsl0
          clear hys hsl0
          go_wp2_with (at_builtin; refine wpList_append_own _ rfl _ _ 24 rfl w.heap.size 3 i0 (.int .i64 0) 1 8 Try.underlying24 hi hz0 hz1 hz2 rfl (by decide) _ _ _ rfl (HO1.out.alloc _) ⟨wq.heap.size, 0, none⟩ 1 1 [.int .i64 (x)] rfl rfl (cell_one_new _ _ _) ?c2 ?c3 ?c4 ?c5 ?_)
          case c2 => first | (intro u hu; simp at hu; subst hu; rfl) | rfl
          case c3 => unfold maxLen; omega
          case c4 => omega
          case c5 => have := hsz; simp; omega
          intro v' w9 hown' hgrow _
          have hb9 := (HBL1.out.trans ((below_new wq (.cells #[.int .i64 x] 3)).mono HBL1.out.size)).grown hgrow (by simp; omega) (fun b hb => (owns_block HO1.out b hb).1)
          have HB9 := Lib.hid hb9
          have hs9 : w.heap.size < w9.heap.size := by have := hgrow.size; simp at this; omega
          have HO9 := Lib.hid hown'
          clear hb9 hgrow hown'
          go_wp2_with fail
          go_roundw
          case rel =>
            refine ⟨HB9.out, hs9, k + 1, by omega, by go_num, ?_⟩
            rw [HN.out, List.length_append, List.map_append, HYS.out, HSL.out]
            exact HO9.out
          case measure => simp [intOf]; omega

        · have HN := Lib.hid (strT_yes HXK.out (hkm.trans (by simp [h1, h2])))
          clear hkm hl
          go_wp2_with fail
          go_quiet (fail)
          rw [show (!decide (a < x)) = true by rw [decide_eq_false (show ¬ a < x by omega)]; rfl]
          clear hle hw1 hcz hi2 hi3
          have HBL1 := Lib.hid (HBL.out.trans ((below_drewN _ nq).mono HBL.out.size))
          have HO1 := Lib.hid (owns_below HO.out (below_drewN _ nq))
          have hcx : (wr.drewN nq).cell? ⟨b, o + k, none⟩ = some (.int .i64 x) := hcx
          have hsz : w.heap.size < (wr.drewN nq).heap.size := hsz
          generalize wr.drewN nq = wq at *
          generalize hys : (strT a xs k).map iv = ys at *
          generalize hsl0 : (strT a xs k).length = sl at *
          have HYS := Lib.hid hys
          have HSL := Lib.hid hsl0
          clear hys hsl0
          go_wp2_with (at_builtin; refine wpList_append_own _ rfl _ _ 24 rfl w.heap.size 3 i0 (.int .i64 0) 1 8 Try.underlying24 hi hz0 hz1 hz2 rfl (by decide) _ _ _ rfl (HO1.out.alloc _) ⟨wq.heap.size, 0, none⟩ 1 1 [.int .i64 (x)] rfl rfl (cell_one_new _ _ _) ?c2 ?c3 ?c4 ?c5 ?_)
          case c2 => first | (intro u hu; simp at hu; subst hu; rfl) | rfl
          case c3 => unfold maxLen; omega
          case c4 => omega
          case c5 => have := hsz; simp; omega
          intro v' w9 hown' hgrow _
          have hb9 := (HBL1.out.trans ((below_new wq (.cells #[.int .i64 x] 3)).mono HBL1.out.size)).grown hgrow (by simp; omega) (fun b hb => (owns_block HO1.out b hb).1)
          have HB9 := Lib.hid hb9
          have hs9 : w.heap.size < w9.heap.size := by have := hgrow.size; simp at this; omega
          have HO9 := Lib.hid hown'
          clear hb9 hgrow hown'
          go_wp2_with fail
          go_roundw
          case rel =>
            refine ⟨HB9.out, hs9, k + 1, by omega, by go_num, ?_⟩
            rw [HN.out, List.length_append, List.map_append, HYS.out, HSL.out]
            exact HO9.out
          case measure => simp [intOf]; omega

        · have HN := Lib.hid (strT_no (hkm.trans (by simp [h1, h2])))
          clear hkm hl
          go_wp2_with fail
          go_quiet (fail)
          rw [show (!(decide (a < x) == decide (a < z))) = false by rw [decide_eq_false (show ¬ a < x by omega), decide_eq_false (show ¬ a < z by omega)]; rfl]
          have HBL1 := Lib.hid (HBL.out.trans ((below_drewN _ nq).mono HBL.out.size))
          have HO1 := Lib.hid (owns_below HO.out (below_drewN _ nq))
          go_wp2_with fail
          go_roundw
          case rel => exact ⟨HBL1.out, hsz, k + 1, by omega, by go_num, by rw [HN.out]; exact HO1.out⟩
          case measure => simp [intOf]; omega

    · have hke : k = xs.length := by omega
      subst hke
      go_wp2_with fail
      go_ret
      exact ⟨_, rfl, HO.out, HBL.out⟩
end Go.Proofs.Ytnclfdfnhhicdaa
