/-
  What is proved: DoublingSearch of the program. Conditions: none.
-/
import Derived.Test.YtnclfdfnhhicdaaSev
namespace Go.Proofs.Ytnclfdfnhhicdaa
open Go.RowKit
set_option linter.unusedVariables false
set_option linter.unusedSimpArgs false

def DpR (n a : Int) (base : Nat) (w : World) (ov qv gv : Value) (wr : World) : Prop :=
  Boxed base n false w wr ∧ ∃ (k : Nat) (l q : Int) (o : List Int), k ≤ 12 ∧ dbP n a k = ⟨l, q, o⟩ ∧ qv = .int .i64 q ∧ gv = .int .i64 l ∧ wr.ownsRow (base + 1) 3 1 ov o.length (o.map iv)
set_option maxHeartbeats 3200000 in
set_option maxRecDepth 20000 in
theorem impl_DoublingSearch (n : Int) (g : Bool) (a : Int) (w : World) :
    Calls Try.prog 32 #[rd n g, .int .i64 a] w (OwnsB w.heap.size (doubR n g a).1 (doubR n g a).2 w) := by
  obtain ⟨i0, hi, hz0, hz1, hz2⟩ := info_parts infoInt
  have HVA := Lib.hid (fun w => isValid_any n g a 0 w)
  have HMI := Lib.hid (fun p w hn hp => mirrored_any n g p w hn hp)
  have HX0 := Lib.hid (((Boxed.first w n g 27).next (below_new _ (.cells #[] 3))).next (below_new _ (.cells #[.int .i64 n, .bool g, .int .i64 a, .int .i64 0] 60)))
  have HO0 := Lib.hid (owns_below (made_at (w.alloc (.cells #[.int .i64 n, .bool g] 27)) (w.heap.size + 1) (w.heap.size + 1) (by simp) (Nat.le_refl _)) (below_new _ (.cells #[.int .i64 n, .bool g, .int .i64 a, .int .i64 0] 60)))
  have HB0 := Lib.hid (blk_at ((w.alloc (.cells #[.int .i64 n, .bool g] 27)).alloc (.cells #[] 3)) #[.int .i64 n, .bool g, .int .i64 a, .int .i64 0] 60 (w.heap.size + 1 + 1) (by simp))
  unfold rd sr at *
  have h0 := HX0.out.c0
  have h1 := HX0.out.c1
  have c0 := HB0.out.cell 0
  have c1 := HB0.out.cell 1
  have c2 := HB0.out.cell 2
  have c3 := HB0.out.cell 3
  go_enter Try.func32, Try.ntmps32
  go_wp2_with fail
  refine (HVA.out _).mono ?_
  rintro e w1 ⟨rfl, hb⟩
  rw [validB_zero]
  have HX := Lib.hid (HX0.out.next hb)
  have HO := Lib.hid (owns_below HO0.out hb)
  clear hb h0 h1 c0 c1 c2 c3 HX0 HO0 HB0
  cases hl : lineB n g a
  · have HR := Lib.hid (doubR_no hl)
    go_wp2_with fail
    go_ret2
    exact owns_R (zs := []) (b := false) HR.out (owns_out HX.out HO.out)
  · have HR0 := Lib.hid (doubR_yes hl)
    obtain ⟨hn1, hn2, hgf, ha0, ha1⟩ := (lineB_iff n g a).1 hl
    subst hgf
    have HDI := Lib.hid (fun k => dpI_at (n := n) (a := a) ⟨ha0, ha1⟩ k)
    have hok := okD_parts (okD_at (n := n) (a := a) ⟨hn1, hn2⟩ ⟨ha0, ha1⟩)
    have HOFF := Lib.hid hok.2.1
    have HEQ := Lib.hid hok.2.2
    rw [HEQ.out] at HR0
    clear hl hok
    have h0 := HX.out.c0
    have hw1 : IntKind.i64.wrap (n - 1) = n - 1 := IntWalk.i64_in _ (by omega)
    go_wp2_with fail
    go_quiet (fail)
    have HX1 := Lib.hid (HX.out.next (below_drewN _ nq))
    have HO1 := Lib.hid (owns_below HO.out (below_drewN _ nq))
    clear h0 hw1 HX HO
    go_wp2_with fail
    go_loopw [6, 8, 10] (fun ov qv gv wr => DpR n a w.heap.size w ov qv gv wr) (fun ov _ _ _ => (match ov with | .slice _ m _ => 100 - m | _ => 0))
    case atStart => exact ⟨HX1.out, 0, 1, a, [], by decide, rfl, rfl, rfl, HO1.out⟩
    case round =>
      obtain ⟨hx, k, l, q, o, hk, hs, rfl, rfl, hown⟩ := hrel
      clear HX1 HO1
      have HX := Lib.hid hx
      have hdi := HDI.out k
      rw [hs] at hdi
      have hl0 := hdi.l0
      have hl1 := hdi.l1
      have hq0 := hdi.q0
      have hq1 := hdi.q1
      have hol := hdi.len
      dsimp only at hl0 hl1 hq0 hq1 hol
      have hp2 : (2 : Int) ^ k ≤ 4096 := by
        have h := Nat.pow_le_pow_right (show 0 < 2 by decide) hk
        have h2 : ((2 ^ k : Nat) : Int) ≤ ((2 ^ 12 : Nat) : Int) := by omega
        simpa using h2
      have hg1 : l ≤ 4096 := by omega
      have hg2 : -4096 ≤ l := by omega
      clear hx hdi hl0 hl1 hp2
      obtain ⟨oa, oc, hsh, _⟩ := owns_shape hown
      subst hsh
      generalize hys : o.map iv = ys at hown
      have HYS := Lib.hid hys
      have HOW := Lib.hid hown
      clear hown hys
      have h0 := HX.out.c0
      by_cases hon : 0 < q ∧ q < n - 1
      · obtain ⟨hq2, hq3⟩ := hon
        have hon : (Dp.mk l q o).on n = true := by simp [Dp.on, hq2, hq3]
        have hk12 : k < 12 := by
          rcases Nat.lt_or_ge k 12 with h | h
          · exact h
          · obtain rfl : k = 12 := by omega
            have := HOFF.out
            rw [hs, hon] at this
            cases this
        have HN := Lib.hid ((dbP_next hs hon).trans (show Dp.next n a ⟨l, q, o⟩ = ⟨l * (-2), max 0 (min (a + l) (n - 1)), o ++ [max 0 (min (a + l) (n - 1))]⟩ from rfl))
        clear hs hon
        have hw1 : IntKind.i64.wrap (l * (-2)) = l * (-2) := IntWalk.i64_in _ (by omega)
        by_cases hm : n - 1 < a + l
        · rw [show max 0 (min (a + l) (n - 1)) = n - 1 by omega] at HN
          go_wp2_with (at_builtin; refine wpList_append_own _ rfl _ _ 24 rfl (w.heap.size + 1) 3 i0 (.int .i64 0) 1 8 Try.underlying24 hi hz0 hz1 hz2 rfl (by decide) _ _ _ rfl (HOW.out.alloc _) ⟨wr.heap.size, 0, none⟩ 1 1 [.int .i64 (n - 1)] rfl rfl (cell_one_new _ _ _) ?c2 ?c3 ?c4 ?c5 ?_)
          case c2 => first | (intro u hu; simp at hu; subst hu; rfl) | rfl
          case c3 => unfold maxLen; omega
          case c4 => omega
          case c5 => have := HX.out.size; simp; omega
          intro v' w9 hown' hgrow _
          have HXE := Lib.hid (boxed_append HX.out hgrow (fun b hb => (owns_block HOW.out b hb).1))
          have HOE := Lib.hid (show w9.ownsRow (w.heap.size + 1) 3 1 v' (o ++ [n - 1]).length ((o ++ [n - 1]).map iv) by rw [List.length_append, List.map_append, HYS.out]; exact hown')
          obtain ⟨va, vc, hvs, _⟩ := owns_shape hown'
          subst hvs
          clear hgrow hown' h0
          go_wp2_with fail
          go_roundw
          case rel => exact ⟨HXE.out, k + 1, l * (-2), n - 1, o ++ [n - 1], by omega, HN.out, rfl, rfl, HOE.out⟩
          case measure =>
            show 100 - (o.length + 1) < 100 - o.length
            omega
        · by_cases hm2 : 0 < a + l
          · rw [show max 0 (min (a + l) (n - 1)) = a + l by omega] at HN
            go_wp2_with (at_builtin; refine wpList_append_own _ rfl _ _ 24 rfl (w.heap.size + 1) 3 i0 (.int .i64 0) 1 8 Try.underlying24 hi hz0 hz1 hz2 rfl (by decide) _ _ _ rfl (HOW.out.alloc _) ⟨wr.heap.size, 0, none⟩ 1 1 [.int .i64 (a + l)] rfl rfl (cell_one_new _ _ _) ?c2 ?c3 ?c4 ?c5 ?_)
            case c2 => first | (intro u hu; simp at hu; subst hu; rfl) | rfl
            case c3 => unfold maxLen; omega
            case c4 => omega
            case c5 => have := HX.out.size; simp; omega
            intro v' w9 hown' hgrow _
            have HXE := Lib.hid (boxed_append HX.out hgrow (fun b hb => (owns_block HOW.out b hb).1))
            have HOE := Lib.hid (show w9.ownsRow (w.heap.size + 1) 3 1 v' (o ++ [a + l]).length ((o ++ [a + l]).map iv) by rw [List.length_append, List.map_append, HYS.out]; exact hown')
            obtain ⟨va, vc, hvs, _⟩ := owns_shape hown'
            subst hvs
            clear hgrow hown' h0
            go_wp2_with fail
            go_roundw
            case rel => exact ⟨HXE.out, k + 1, l * (-2), a + l, o ++ [a + l], by omega, HN.out, rfl, rfl, HOE.out⟩
            case measure =>
              show 100 - (o.length + 1) < 100 - o.length
              omega
          · rw [show max 0 (min (a + l) (n - 1)) = 0 by omega] at HN
            go_wp2_with (at_builtin; refine wpList_append_own _ rfl _ _ 24 rfl (w.heap.size + 1) 3 i0 (.int .i64 0) 1 8 Try.underlying24 hi hz0 hz1 hz2 rfl (by decide) _ _ _ rfl (HOW.out.alloc _) ⟨wr.heap.size, 0, none⟩ 1 1 [.int .i64 (0)] rfl rfl (cell_one_new _ _ _) ?c2 ?c3 ?c4 ?c5 ?_)
            case c2 => first | (intro u hu; simp at hu; subst hu; rfl) | rfl
            case c3 => unfold maxLen; omega
            case c4 => omega
            case c5 => have := HX.out.size; simp; omega
            intro v' w9 hown' hgrow _
            have HXE := Lib.hid (boxed_append HX.out hgrow (fun b hb => (owns_block HOW.out b hb).1))
            have HOE := Lib.hid (show w9.ownsRow (w.heap.size + 1) 3 1 v' (o ++ [0]).length ((o ++ [0]).map iv) by rw [List.length_append, List.map_append, HYS.out]; exact hown')
            obtain ⟨va, vc, hvs, _⟩ := owns_shape hown'
            subst hvs
            clear hgrow hown' h0
            go_wp2_with fail
            go_roundw
            case rel => exact ⟨HXE.out, k + 1, l * (-2), 0, o ++ [0], by omega, HN.out, rfl, rfl, HOE.out⟩
            case measure =>
              show 100 - (o.length + 1) < 100 - o.length
              omega
      · have hoff : (Dp.mk l q o).on n = false := by
          by_cases h1 : 0 < q
          · simp [Dp.on, h1]
            omega
          · simp [Dp.on, h1]
        have HE := Lib.hid (dbP_stop hs hoff 12 hk)
        have HR := Lib.hid (show doubR n false a = (o ++ [n - 1 - q], true) by rw [HR0.out, HE.out])
        clear hoff hs
        have h1 := HX.out.c1
        by_cases h2 : 0 < q
        · have h3 : ¬ q < n - 1 := fun h => hon ⟨h2, h⟩
          clear hon
          go_wp2_with fail
          refine (HMI.out q _ ⟨by omega, hn2⟩ ⟨hq0, by omega⟩).mono ?_
          rintro e w2 ⟨rfl, hb⟩
          have HX2 := Lib.hid (HX.out.next hb)
          have HOW := Lib.hid (owns_below HOW.out hb)
          clear hb h0 h1
          go_wp2_with (at_builtin; refine wpList_append_own _ rfl _ _ 24 rfl (w.heap.size + 1) 3 i0 (.int .i64 0) 1 8 Try.underlying24 hi hz0 hz1 hz2 rfl (by decide) _ _ _ rfl (HOW.out.alloc _) ⟨w2.heap.size, 0, none⟩ 1 1 [.int .i64 (n - 1 - q)] rfl rfl (cell_one_new _ _ _) ?c2 ?c3 ?c4 ?c5 ?_)
          case c2 => first | (intro u hu; simp at hu; subst hu; rfl) | rfl
          case c3 => unfold maxLen; omega
          case c4 => omega
          case c5 => have := HX2.out.size; simp; omega
          intro v' w9 hown' hgrow _
          have HXE := Lib.hid (boxed_append HX2.out hgrow (fun b hb => (owns_block HOW.out b hb).1))
          have HOE := Lib.hid (show w9.ownsRow (w.heap.size + 1) 3 1 v' (o ++ [n - 1 - q]).length ((o ++ [n - 1 - q]).map iv) by rw [List.length_append, List.map_append, HYS.out]; exact hown')
          clear hgrow hown'
          go_wp2_with fail
          go_ret2
          exact owns_R (zs := o ++ [n - 1 - q]) (b := true) HR.out (owns_out HXE.out HOE.out)

        · clear hon
          go_wp2_with fail
          refine (HMI.out q _ ⟨by omega, hn2⟩ ⟨hq0, by omega⟩).mono ?_
          rintro e w2 ⟨rfl, hb⟩
          have HX2 := Lib.hid (HX.out.next hb)
          have HOW := Lib.hid (owns_below HOW.out hb)
          clear hb h0 h1
          go_wp2_with (at_builtin; refine wpList_append_own _ rfl _ _ 24 rfl (w.heap.size + 1) 3 i0 (.int .i64 0) 1 8 Try.underlying24 hi hz0 hz1 hz2 rfl (by decide) _ _ _ rfl (HOW.out.alloc _) ⟨w2.heap.size, 0, none⟩ 1 1 [.int .i64 (n - 1 - q)] rfl rfl (cell_one_new _ _ _) ?c2 ?c3 ?c4 ?c5 ?_)
          case c2 => first | (intro u hu; simp at hu; subst hu; rfl) | rfl
          case c3 => unfold maxLen; omega
          case c4 => omega
          case c5 => have := HX2.out.size; simp; omega
          intro v' w9 hown' hgrow _
          have HXE := Lib.hid (boxed_append HX2.out hgrow (fun b hb => (owns_block HOW.out b hb).1))
          have HOE := Lib.hid (show w9.ownsRow (w.heap.size + 1) 3 1 v' (o ++ [n - 1 - q]).length ((o ++ [n - 1 - q]).map iv) by rw [List.length_append, List.map_append, HYS.out]; exact hown')
          clear hgrow hown'
          go_wp2_with fail
          go_ret2
          exact owns_R (zs := o ++ [n - 1 - q]) (b := true) HR.out (owns_out HXE.out HOE.out)

end Go.Proofs.Ytnclfdfnhhicdaa
