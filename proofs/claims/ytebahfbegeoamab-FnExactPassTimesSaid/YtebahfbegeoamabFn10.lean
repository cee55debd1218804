/-
  What is proved: impl.MeetTimes and the model's answer alike. Conditions: slices that read as lists of numbers.
-/
import Derived.Test.YtebahfbegeoamabFn4
namespace Go.Proofs.Ytebahfbegeoamab
open Go.RowKit

/-- the numbers below k at which P holds -/
def pickTo (P : Nat → Bool) : Nat → List Int
  | 0 => []
  | k + 1 => if P k then pickTo P k ++ [(k : Int)] else pickTo P k
theorem pickTo_len (P : Nat → Bool) : ∀ k, (pickTo P k).length ≤ k
  | 0 => Nat.le_refl _
  | k + 1 => by
    have := pickTo_len P k
    unfold pickTo
    split
    · simp; omega
    · omega
def PkRel (n : Int) (g : Bool) (P : Nat → Bool) (K base : Nat) (w : World) (v i : Value) (wr : World) : Prop :=
  Boxed base n g w wr ∧ ∃ k : Nat, k ≤ K ∧ i = .int .i64 k ∧ wr.ownsRow (base + 1) 3 1 v (pickTo P k).length ((pickTo P k).map iv)
theorem pk_yes {n : Int} {g : Bool} {P : Nat → Bool} {K base k : Nat} {w wr : World} {v i : Value} {ys : List Value} {m : Nat} (hm : (pickTo P k).length = m) (hys : (pickTo P k).map iv = ys) (hk : k < K) (hi : i = .int .i64 ((k + 1 : Nat) : Int)) (hP : P k = true) (h : Boxed base n g w wr) (ho : wr.ownsRow (base + 1) 3 1 v (m + 1) (ys ++ [Value.int .i64 k])) : PkRel n g P K base w v i wr := by
  subst hm hys
  refine ⟨h, k + 1, hk, hi, ?_⟩
  have e : pickTo P (k + 1) = pickTo P k ++ [(k : Int)] := by
    show (if P k then pickTo P k ++ [(k : Int)] else pickTo P k) = _
    rw [if_pos hP]
  rw [e, List.length_append, List.map_append]
  exact ho
theorem pk_no {n : Int} {g : Bool} {P : Nat → Bool} {K base k : Nat} {w wr : World} {v i : Value} {ys : List Value} {m : Nat} (hm : (pickTo P k).length = m) (hys : (pickTo P k).map iv = ys) (hk : k < K) (hi : i = .int .i64 ((k + 1 : Nat) : Int)) (hP : P k = false) (h : Boxed base n g w wr) (ho : wr.ownsRow (base + 1) 3 1 v m ys) : PkRel n g P K base w v i wr := by
  subst hm hys
  refine ⟨h, k + 1, hk, hi, ?_⟩
  have e : pickTo P (k + 1) = pickTo P k := by
    show (if P k then pickTo P k ++ [(k : Int)] else pickTo P k) = _
    rw [hP]
    rfl
  rw [e]
  exact ho
def meetP (xs ys : List Int) (k : Nat) : Bool := decide (atI xs k = atI ys k)
noncomputable def meetR (n : Int) (g : Bool) (xs ys : List Int) : List Int × Bool := if (walkD n g xs && walkD n g ys) = true then (pickTo (meetP xs ys) (max xs.length ys.length), true) else ([], false)
set_option maxHeartbeats 1600000 in
set_option maxRecDepth 20000 in
theorem spec_MeetTimes (n : Int) (g : Bool) (v : Value) (xs : List Int) (u : Value) (ys : List Int) (w : World) (hv : ReadsI w v xs) (hu : ReadsI w u ys) :
    Calls Try.prog 27 #[rd n g, v, u] w (OwnsB w.heap.size (meetR n g xs ys).1 (meetR n g xs ys).2 w) := by
  obtain ⟨i0, hi, hz0, hz1, hz2⟩ := info_parts infoInt
  have HAT := Lib.hid (fun v xs t w hv hl ht => l2At_any v xs t w hv hl ht)
  have HMO := Lib.hid (fun a b w => l1Most_any a b w)
  have HX0 := Lib.hid (Boxed.first w n g 27)
  have HV := Lib.hid hv
  have HU := Lib.hid hu
  have HVB := Lib.hid (hv.below (below_new w (.cells #[.int .i64 n, .bool g] 27)))
  have HUB := Lib.hid (hu.below (below_new w (.cells #[.int .i64 n, .bool g] 27)))
  have HO0 := Lib.hid (made_at (w.alloc (.cells #[.int .i64 n, .bool g] 27)) (w.heap.size + 1) (w.heap.size + 1) (by simp) (Nat.le_refl _))
  obtain ⟨y, c, hvv, hc, hm, hx⟩ := hv
  obtain ⟨y2, c2, huu, hc2, hm2, hx2⟩ := hu
  subst hvv huu
  unfold maxLen at hm hm2
  have HL := Lib.hid hx
  have HL2 := Lib.hid hx2
  clear hx hx2
  have HW := Lib.hid (fun v xs w hv => l2Walk_is n g v xs w hv)
  unfold rd at *
  go_enter Try.func27, Try.ntmps27
  go_wp2_with fail
  refine (HW.out _ xs _ (HVB.out.below (below_new _ _))).mono ?_
  rintro e w1 ⟨rfl, hb⟩
  have HX := Lib.hid ((HX0.out.next (below_new _ _)).next hb)
  have HO := Lib.hid (owns_below HO0.out hb)
  clear hb HX0 HO0
  have hb0 := HX.out.c0
  have hb1 := HX.out.c1
  cases hw : walkD n g xs
  · have HR := Lib.hid (show meetR n g xs ys = ([], false) from if_neg (by rw [hw]; simp))
    clear hw
    go_wp2_with fail
    go_ret2
    exact owns_R (zs := []) (b := false) HR.out (owns_out HX.out HO.out)
  · go_wp2_with fail
    refine (HW.out _ ys _ (HU.out.below HX.out.below)).mono ?_
    rintro e w2 ⟨rfl, hb⟩
    have HX2 := Lib.hid (HX.out.next hb)
    have HO2 := Lib.hid (owns_below HO.out hb)
    clear hb HX HO hb0 hb1
    have HX := HX2
    have HO := HO2
    clear HX2 HO2
    cases hw2 : walkD n g ys
    · have HR := Lib.hid (show meetR n g xs ys = ([], false) from if_neg (by rw [hw, hw2]; simp))
      clear hw hw2
      go_wp2_with fail
      go_ret2
      exact owns_R (zs := []) (b := false) HR.out (owns_out HX.out HO.out)
    · have HR := Lib.hid (show meetR n g xs ys = (pickTo (meetP xs ys) (max xs.length ys.length), true) from if_pos (by rw [hw, hw2]; rfl))
      have hwk := (walkD_iff n g xs).1 hw
      have hwk2 := (walkD_iff n g ys).1 hw2
      have hl1 := hwk.2.1
      have hl61 := hwk.2.2.1
      have hm1 := hwk2.2.1
      have hm61 := hwk2.2.2.1
      clear hwk hwk2 hw hw2
      go_wp2_with fail
      go_loopw [8, 9] (fun v i wr => PkRel n g (meetP xs ys) ((max xs.length ys.length)) w.heap.size w v i wr) (fun _ i _ => (max xs.length ys.length) - (intOf i).toNat)
      case atStart => exact ⟨HX.out, 0, Nat.zero_le _, rfl, HO.out⟩
      case round =>
        obtain ⟨hx, k, hk, rfl, hown⟩ := hrel
        clear HX HO
        have HX := Lib.hid hx
        have hpl := pickTo_len (meetP xs ys) k
        generalize hys : (pickTo (meetP xs ys) k).map iv = zs at hown
        generalize hzl : (pickTo (meetP xs ys) k).length = m at hown hpl
        have HYS := Lib.hid hys
        have HZL := Lib.hid hzl
        have HOW := Lib.hid hown
        clear hx hown hys hzl
        by_cases hlt : k < (max xs.length ys.length)
        · have hlt2 : (k : Int) < max (xs.length : Int) ys.length := by omega
          go_wp2_with fail
          refine (HMO.out _ _ _).mono ?_
          rintro e w' ⟨rfl, rfl⟩

          go_wp2_with fail
          refine (HAT.out _ xs k _ (HV.out.below HX.out.below) hl1 (by omega)).mono ?_
          rintro e w' ⟨rfl, rfl⟩
          go_wp2_with fail
          refine (HAT.out _ ys k _ (HU.out.below HX.out.below) hm1 (by omega)).mono ?_
          rintro e w' ⟨rfl, rfl⟩
          by_cases hq : atI xs k = atI ys k
          · have hP : meetP xs ys k = true := by unfold meetP; simp [hq]
            have HP := Lib.hid hP
            clear hP
            have hkb : m + 1 ≤ 62 := by omega
            go_wp2_with (at_builtin; refine wpList_append_own _ rfl _ _ 24 rfl (w.heap.size + 1) 3 i0 (.int .i64 0) 1 8 Try.underlying24 hi hz0 hz1 hz2 rfl (by decide) _ _ _ rfl (HOW.out.alloc _) ⟨wr.heap.size, 0, none⟩ 1 1 [.int .i64 (k)] rfl rfl (cell_one_new _ _ _) ?c2 ?c3 ?c4 ?c5 ?_)
            case c2 => intro u hu; simp at hu; subst hu; rfl
            case c3 => unfold maxLen; omega
            case c4 => omega
            case c5 => have := HX.out.size; simp; omega
            intro v' w9 hown' hgrow _
            have HX := Lib.hid (boxed_append HX.out hgrow (fun b hb => (owns_block HOW.out b hb).1))
            have HOW' := Lib.hid hown'
            clear hgrow hown' HOW
            go_wp2_with fail
            go_roundw
            case rel => exact pk_yes HZL.out HYS.out hlt (by go_num) HP.out HX.out HOW'.out
            case measure => simp [intOf] <;> omega
          · have hne : (atI xs k == atI ys k) = false := by simp [hq]
            have hP : meetP xs ys k = false := by unfold meetP; simp [hq]
            have HP := Lib.hid hP
            clear hP
            go_wp2_with fail
            go_roundw
            case rel => exact pk_no HZL.out HYS.out hlt (by go_num) HP.out HX.out HOW.out
            case measure => simp [intOf] <;> omega
        · have hke : k = (max xs.length ys.length) := by omega
          have hlt2 : ¬ (k : Int) < max (xs.length : Int) ys.length := by omega
          have HE := Lib.hid hke
          clear hke
          go_wp2_with fail
          refine (HMO.out _ _ _).mono ?_
          rintro e w' ⟨rfl, rfl⟩

          go_wp2_with fail
          go_ret2
          refine owns_R (zs := pickTo (meetP xs ys) ((max xs.length ys.length))) (b := true) HR.out (owns_out HX.out ?_)
          rw [← HE.out, HZL.out, HYS.out]
          exact HOW.out

set_option maxHeartbeats 1600000 in
set_option maxRecDepth 20000 in
theorem impl_MeetTimes (n : Int) (g : Bool) (v : Value) (xs : List Int) (u : Value) (ys : List Int) (w : World) (hv : ReadsI w v xs) (hu : ReadsI w u ys) :
    Calls Try.prog 28 #[rd n g, v, u] w (OwnsB w.heap.size (meetR n g xs ys).1 (meetR n g xs ys).2 w) := by
  obtain ⟨i0, hi, hz0, hz1, hz2⟩ := info_parts infoInt
  have HAT := Lib.hid (fun v xs t w hv hl ht => placeAt_any v xs t w hv hl ht)

  have HX0 := Lib.hid (Boxed.first w n g 27)
  have HV := Lib.hid hv
  have HU := Lib.hid hu
  have HVB := Lib.hid (hv.below (below_new w (.cells #[.int .i64 n, .bool g] 27)))
  have HUB := Lib.hid (hu.below (below_new w (.cells #[.int .i64 n, .bool g] 27)))
  have HO0 := Lib.hid (made_at (w.alloc (.cells #[.int .i64 n, .bool g] 27)) (w.heap.size + 1) (w.heap.size + 1) (by simp) (Nat.le_refl _))
  obtain ⟨y, c, hvv, hc, hm, hx⟩ := hv
  obtain ⟨y2, c2, huu, hc2, hm2, hx2⟩ := hu
  subst hvv huu
  unfold maxLen at hm hm2
  have HL := Lib.hid hx
  have HL2 := Lib.hid hx2
  clear hx hx2
  have HW := Lib.hid (fun v w hv => areWalks_two n g v xs ys w hv)
  unfold rd at *
  go_enter Try.func28, Try.ntmps28
  go_wp2_with fail
  refine (HW.out _ _ (two_list_at (HVB.out.below (below_new _ _)) (HUB.out.below (below_new _ _)) _ (by simp))).mono ?_
  rintro e w1 ⟨rfl, hb⟩
  have HX := Lib.hid (((HX0.out.next (below_new _ _)).next (below_new _ _)).next hb)
  have HO := Lib.hid (owns_below (owns_below HO0.out (below_new _ _)) hb)
  clear hb HX0 HO0
  cases hww : (walkD n g xs && walkD n g ys)
  · have HR := Lib.hid (show meetR n g xs ys = ([], false) from if_neg (by rw [hww]; simp))
    clear hww
    go_wp2_with fail
    go_ret2
    exact owns_R (zs := []) (b := false) HR.out (owns_out HX.out HO.out)
  · have HR := Lib.hid (show meetR n g xs ys = (pickTo (meetP xs ys) (max xs.length ys.length), true) from if_pos hww)
    have hw := (Bool.and_eq_true_iff.1 hww).1
    have hw2 := (Bool.and_eq_true_iff.1 hww).2
    clear hww
    have hwk := (walkD_iff n g xs).1 hw
    have hwk2 := (walkD_iff n g ys).1 hw2
    have hl1 := hwk.2.1
    have hl61 := hwk.2.2.1
    have hm1 := hwk2.2.1
    have hm61 := hwk2.2.2.1
    clear hwk hwk2 hw hw2
    rcases Nat.lt_trichotomy xs.length ys.length with hxy | hxy | hxy
    · have HR : Hid (meetR n g xs ys = (pickTo (meetP xs ys) ys.length, true)) := Lib.hid (HR.out.trans (by rw [show max xs.length ys.length = ys.length by omega]))
      go_wp2_with fail
      go_loopw [8, 23] (fun v i wr => PkRel n g (meetP xs ys) (ys.length) w.heap.size w v i wr) (fun _ i _ => ys.length - (intOf i).toNat)
      case atStart => exact ⟨HX.out, 0, Nat.zero_le _, rfl, HO.out⟩
      case round =>
        obtain ⟨hx, k, hk, rfl, hown⟩ := hrel
        clear HX HO
        have HX := Lib.hid hx
        have hpl := pickTo_len (meetP xs ys) k
        generalize hys : (pickTo (meetP xs ys) k).map iv = zs at hown
        generalize hzl : (pickTo (meetP xs ys) k).length = m at hown hpl
        have HYS := Lib.hid hys
        have HZL := Lib.hid hzl
        have HOW := Lib.hid hown
        clear hx hown hys hzl
        by_cases hlt : k < ys.length
        · have hlt2 : (k : Int) < (ys.length : Int) := by omega

          go_wp2_with fail
          refine (HAT.out _ xs k _ (HV.out.below HX.out.below) hl1 (by omega)).mono ?_
          rintro e w' ⟨rfl, rfl⟩
          go_wp2_with fail
          refine (HAT.out _ ys k _ (HU.out.below HX.out.below) hm1 (by omega)).mono ?_
          rintro e w' ⟨rfl, rfl⟩
          by_cases hq : atI xs k = atI ys k
          · have hP : meetP xs ys k = true := by unfold meetP; simp [hq]
            have HP := Lib.hid hP
            clear hP
            have hkb : m + 1 ≤ 62 := by omega
            go_wp2_with (at_builtin; refine wpList_append_own _ rfl _ _ 24 rfl (w.heap.size + 1) 3 i0 (.int .i64 0) 1 8 Try.underlying24 hi hz0 hz1 hz2 rfl (by decide) _ _ _ rfl (HOW.out.alloc _) ⟨wr.heap.size, 0, none⟩ 1 1 [.int .i64 (k)] rfl rfl (cell_one_new _ _ _) ?c2 ?c3 ?c4 ?c5 ?_)
            case c2 => intro u hu; simp at hu; subst hu; rfl
            case c3 => unfold maxLen; omega
            case c4 => omega
            case c5 => have := HX.out.size; simp; omega
            intro v' w9 hown' hgrow _
            have HX := Lib.hid (boxed_append HX.out hgrow (fun b hb => (owns_block HOW.out b hb).1))
            have HOW' := Lib.hid hown'
            clear hgrow hown' HOW
            go_wp2_with fail
            go_roundw
            case rel => exact pk_yes HZL.out HYS.out hlt (by go_num) HP.out HX.out HOW'.out
            case measure => simp [intOf] <;> omega
          · have hne : (atI xs k == atI ys k) = false := by simp [hq]
            have hP : meetP xs ys k = false := by unfold meetP; simp [hq]
            have HP := Lib.hid hP
            clear hP
            go_wp2_with fail
            go_roundw
            case rel => exact pk_no HZL.out HYS.out hlt (by go_num) HP.out HX.out HOW.out
            case measure => simp [intOf] <;> omega
        · have hke : k = ys.length := by omega
          have hlt2 : ¬ (k : Int) < (ys.length : Int) := by omega
          have HE := Lib.hid hke
          clear hke

          go_wp2_with fail
          go_ret2
          refine owns_R (zs := pickTo (meetP xs ys) (ys.length)) (b := true) HR.out (owns_out HX.out ?_)
          rw [← HE.out, HZL.out, HYS.out]
          exact HOW.out

    · have HR : Hid (meetR n g xs ys = (pickTo (meetP xs ys) xs.length, true)) := Lib.hid (HR.out.trans (by rw [show max xs.length ys.length = xs.length by omega]))
      have hle1 : (xs.length : Int) ≤ ys.length := by omega
      have hle2 : (ys.length : Int) ≤ xs.length := by omega
      clear hxy
      go_wp2_with fail
      go_loopw [8, 23] (fun v i wr => PkRel n g (meetP xs ys) (xs.length) w.heap.size w v i wr) (fun _ i _ => xs.length - (intOf i).toNat)
      case atStart => exact ⟨HX.out, 0, Nat.zero_le _, rfl, HO.out⟩
      case round =>
        obtain ⟨hx, k, hk, rfl, hown⟩ := hrel
        clear HX HO
        have HX := Lib.hid hx
        have hpl := pickTo_len (meetP xs ys) k
        generalize hys : (pickTo (meetP xs ys) k).map iv = zs at hown
        generalize hzl : (pickTo (meetP xs ys) k).length = m at hown hpl
        have HYS := Lib.hid hys
        have HZL := Lib.hid hzl
        have HOW := Lib.hid hown
        clear hx hown hys hzl
        by_cases hlt : k < xs.length
        · have hlt2 : (k : Int) < (xs.length : Int) := by omega

          go_wp2_with fail
          refine (HAT.out _ xs k _ (HV.out.below HX.out.below) hl1 (by omega)).mono ?_
          rintro e w' ⟨rfl, rfl⟩
          go_wp2_with fail
          refine (HAT.out _ ys k _ (HU.out.below HX.out.below) hm1 (by omega)).mono ?_
          rintro e w' ⟨rfl, rfl⟩
          by_cases hq : atI xs k = atI ys k
          · have hP : meetP xs ys k = true := by unfold meetP; simp [hq]
            have HP := Lib.hid hP
            clear hP
            have hkb : m + 1 ≤ 62 := by omega
            go_wp2_with (at_builtin; refine wpList_append_own _ rfl _ _ 24 rfl (w.heap.size + 1) 3 i0 (.int .i64 0) 1 8 Try.underlying24 hi hz0 hz1 hz2 rfl (by decide) _ _ _ rfl (HOW.out.alloc _) ⟨wr.heap.size, 0, none⟩ 1 1 [.int .i64 (k)] rfl rfl (cell_one_new _ _ _) ?c2 ?c3 ?c4 ?c5 ?_)
            case c2 => intro u hu; simp at hu; subst hu; rfl
            case c3 => unfold maxLen; omega
            case c4 => omega
            case c5 => have := HX.out.size; simp; omega
            intro v' w9 hown' hgrow _
            have HX := Lib.hid (boxed_append HX.out hgrow (fun b hb => (owns_block HOW.out b hb).1))
            have HOW' := Lib.hid hown'
            clear hgrow hown' HOW
            go_wp2_with fail
            go_roundw
            case rel => exact pk_yes HZL.out HYS.out hlt (by go_num) HP.out HX.out HOW'.out
            case measure => simp [intOf] <;> omega
          · have hne : (atI xs k == atI ys k) = false := by simp [hq]
            have hP : meetP xs ys k = false := by unfold meetP; simp [hq]
            have HP := Lib.hid hP
            clear hP
            go_wp2_with fail
            go_roundw
            case rel => exact pk_no HZL.out HYS.out hlt (by go_num) HP.out HX.out HOW.out
            case measure => simp [intOf] <;> omega
        · have hke : k = xs.length := by omega
          have hlt2 : ¬ (k : Int) < (xs.length : Int) := by omega
          have HE := Lib.hid hke
          clear hke

          go_wp2_with fail
          go_ret2
          refine owns_R (zs := pickTo (meetP xs ys) (xs.length)) (b := true) HR.out (owns_out HX.out ?_)
          rw [← HE.out, HZL.out, HYS.out]
          exact HOW.out

    · have HR : Hid (meetR n g xs ys = (pickTo (meetP xs ys) xs.length, true)) := Lib.hid (HR.out.trans (by rw [show max xs.length ys.length = xs.length by omega]))
      go_wp2_with fail
      go_loopw [8, 23] (fun v i wr => PkRel n g (meetP xs ys) (xs.length) w.heap.size w v i wr) (fun _ i _ => xs.length - (intOf i).toNat)
      case atStart => exact ⟨HX.out, 0, Nat.zero_le _, rfl, HO.out⟩
      case round =>
        obtain ⟨hx, k, hk, rfl, hown⟩ := hrel
        clear HX HO
        have HX := Lib.hid hx
        have hpl := pickTo_len (meetP xs ys) k
        generalize hys : (pickTo (meetP xs ys) k).map iv = zs at hown
        generalize hzl : (pickTo (meetP xs ys) k).length = m at hown hpl
        have HYS := Lib.hid hys
        have HZL := Lib.hid hzl
        have HOW := Lib.hid hown
        clear hx hown hys hzl
        by_cases hlt : k < xs.length
        · have hlt2 : (k : Int) < (xs.length : Int) := by omega

          go_wp2_with fail
          refine (HAT.out _ xs k _ (HV.out.below HX.out.below) hl1 (by omega)).mono ?_
          rintro e w' ⟨rfl, rfl⟩
          go_wp2_with fail
          refine (HAT.out _ ys k _ (HU.out.below HX.out.below) hm1 (by omega)).mono ?_
          rintro e w' ⟨rfl, rfl⟩
          by_cases hq : atI xs k = atI ys k
          · have hP : meetP xs ys k = true := by unfold meetP; simp [hq]
            have HP := Lib.hid hP
            clear hP
            have hkb : m + 1 ≤ 62 := by omega
            go_wp2_with (at_builtin; refine wpList_append_own _ rfl _ _ 24 rfl (w.heap.size + 1) 3 i0 (.int .i64 0) 1 8 Try.underlying24 hi hz0 hz1 hz2 rfl (by decide) _ _ _ rfl (HOW.out.alloc _) ⟨wr.heap.size, 0, none⟩ 1 1 [.int .i64 (k)] rfl rfl (cell_one_new _ _ _) ?c2 ?c3 ?c4 ?c5 ?_)
            case c2 => intro u hu; simp at hu; subst hu; rfl
            case c3 => unfold maxLen; omega
            case c4 => omega
            case c5 => have := HX.out.size; simp; omega
            intro v' w9 hown' hgrow _
            have HX := Lib.hid (boxed_append HX.out hgrow (fun b hb => (owns_block HOW.out b hb).1))
            have HOW' := Lib.hid hown'
            clear hgrow hown' HOW
            go_wp2_with fail
            go_roundw
            case rel => exact pk_yes HZL.out HYS.out hlt (by go_num) HP.out HX.out HOW'.out
            case measure => simp [intOf] <;> omega
          · have hne : (atI xs k == atI ys k) = false := by simp [hq]
            have hP : meetP xs ys k = false := by unfold meetP; simp [hq]
            have HP := Lib.hid hP
            clear hP
            go_wp2_with fail
            go_roundw
            case rel => exact pk_no HZL.out HYS.out hlt (by go_num) HP.out HX.out HOW.out
            case measure => simp [intOf] <;> omega
        · have hke : k = xs.length := by omega
          have hlt2 : ¬ (k : Int) < (xs.length : Int) := by omega
          have HE := Lib.hid hke
          clear hke

          go_wp2_with fail
          go_ret2
          refine owns_R (zs := pickTo (meetP xs ys) (xs.length)) (b := true) HR.out (owns_out HX.out ?_)
          rw [← HE.out, HZL.out, HYS.out]
          exact HOW.out


theorem meetR_len (n : Int) (g : Bool) (xs ys : List Int) (h : xs.length ≤ 1048576) (h2 : ys.length ≤ 1048576) : (meetR n g xs ys).1.length ≤ 1048576 := by
  unfold meetR
  split
  · have := pickTo_len (meetP xs ys) (max xs.length ys.length)
    simp only
    omega
  · simp
end Go.Proofs.Ytebahfbegeoamab
