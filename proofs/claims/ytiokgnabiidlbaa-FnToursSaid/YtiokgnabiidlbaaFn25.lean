/-
  What is proved: the contract of spec.WaitWalk. Conditions: a slice that reads as a list of numbers.
-/
import Derived.Test.YtiokgnabiidlbaaFn24
import Derived.Test.YtiokgnabiidlbaaFn9
namespace Go.Proofs.Ytiokgnabiidlbaa
open Go.RowKit
set_option linter.unusedVariables false
set_option linter.unusedSimpArgs false

theorem keep2_grownW {base : Nat} {n : Int} {g : Bool} {w wr w1 : World} {v : Value} (h : Keep2 base n g w wr) (hg : wr.grownBy w1 v.ownBlock) (hv : ∀ b, v.ownBlock = some b → base + 1 ≤ b) : Keep2 base n g w w1 := by
  have hB := h.1.nextAt (Nat.lt_succ_self _) (below_grown hg hv (Nat.succ_le_of_lt h.1.size))
  exact ⟨hB, hB.c0, hB.c1⟩
theorem reads_take {w : World} {xs : List Int} {b o c k m : Nat} (h : ReadsI w (.slice (some ⟨b, o, none⟩) xs.length c) xs) (hk : k ≤ xs.length) (hm : m = k) : ReadsI w (.slice (some ⟨b, o, none⟩) m c) (xs.take k) := by
  subst hm
  obtain ⟨a, c', e, hc, hm, hx⟩ := h
  cases e
  have hl : (xs.take m).length = m := by rw [List.length_take]; omega
  refine ⟨_, c, by rw [hl], by omega, by omega, fun j x hj => ?_⟩
  rw [List.getElem?_take] at hj
  split at hj
  · exact hx j x hj
  · cases hj
def WaitRel (n : Int) (g : Bool) (xs : List Int) (t : Nat) (p : Int) (m : Nat) (w : World) (v i : Value) (wr : World) : Prop :=
  ∃ k : Nat, k ≤ m ∧ i = .int .i64 k ∧ Boxed w.heap.size n g w wr ∧ wr.ownsRow (w.heap.size + 1) 3 1 v (t + 1 + k) ((xs.take (t + 1) ++ List.replicate k p).map iv)
theorem wait_next {xs : List Int} {t k : Nat} {p : Int} : (xs.take (t + 1) ++ List.replicate k p).map iv ++ [Value.int .i64 p] = (xs.take (t + 1) ++ List.replicate (k + 1) p).map iv := by
  rw [List.replicate_succ']
  simp
set_option maxHeartbeats 3200000 in
set_option maxRecDepth 20000 in
theorem spec_WaitWalk (n : Int) (g : Bool) (v : Value) (xs : List Int) (a m : Int) (w : World) (hv : ReadsI w v xs) :
    Calls Try.prog 40 #[rd n g, v, .int .i64 a, .int .i64 m] w (OwnsB w.heap.size (waitR n g xs a m).1 (waitR n g xs a m).2 w) := by
  obtain ⟨i0, hi, hz0, hz1, hz2⟩ := info_parts infoInt
  have HW := Lib.hid (fun v w hv => l2Walk_is n g v xs w hv)
  have HI1 := Lib.hid (fun w => l1In_any a 0 ((xs.length : Int) - 1) w)
  have HI2 := Lib.hid (fun w => l1In_any m 0 60 w)
  have HX := Lib.hid (Boxed.first w n g 25)
  have HV := Lib.hid hv
  obtain ⟨y, c, hvv, hc, hm, hx⟩ := hv
  subst hvv
  unfold maxLen at hm
  have HL := Lib.hid hx
  clear hx
  unfold rd at *
  cases hw : walkD n g xs
  · have HR := Lib.hid (waitR_no (fun h => walkD_no hw h.1) : waitR n g xs a m = ([], false))
    have HWB := Lib.hid hw
    clear hw
    go_enter Try.func40, Try.ntmps40
    go_wp2_with fail
    refine (HW.out _ _ (HV.out.below HX.out.below)).mono ?_
    rintro e w1 ⟨rfl, hb⟩
    have HX1 := Lib.hid (HX.out.next hb)
    clear hb
    rw [HWB.out]
    have HO := Lib.hid (fun (w2 : World) (h : Boxed w.heap.size n g w w2) => made_at w2 (w.heap.size + 1) w2.heap.size rfl (Nat.succ_le_of_lt h.size))
    go_wp2_with fail
    go_ret2
    exact owns_R (zs := []) (b := false) HR.out (owns_out (HX1.out.next (below_new _ _)) (HO.out _ HX1.out))
  · have hwx := (walkD_iff n g xs).1 hw
    have hl1 := hwx.2.1
    have hl61 := hwx.2.2.1
    have HWB := Lib.hid hw
    have HWX := Lib.hid hwx
    have hi2 : 0 ≤ (xs.length : Int) - 1 := by omega
    clear hw hwx
    by_cases ht : 0 ≤ a ∧ a ≤ (xs.length : Int) - 1
    · obtain ⟨ht0, ht1⟩ := ht
      have HB1 := Lib.hid (show (decide (0 ≤ a) && decide (a ≤ (xs.length : Int) - 1)) = true from by simp [ht0, ht1])
      by_cases hq : 0 ≤ m ∧ m ≤ 60
      · obtain ⟨hq0, hq1⟩ := hq
        have HB2 := Lib.hid (show (decide (0 ≤ m) && decide (m ≤ 60)) = true from by simp [hq0, hq1])
        obtain ⟨t, rfl⟩ := Int.eq_ofNat_of_zero_le ht0
        obtain ⟨q, rfl⟩ := Int.eq_ofNat_of_zero_le hq0
        have htl : t < xs.length := by omega
        have hql : q ≤ 60 := by omega
        obtain ⟨p, hpk⟩ := get_some htl
        obtain ⟨b, o, hyy, hbl, hcp⟩ := HL.out _ p hpk
        subst hyy
        have HPK := Lib.hid hpk
        have htake : (xs.take (t + 1)).length = t + 1 := by rw [List.length_take]; omega
        have HTAKE := Lib.hid htake
        clear hpk htake
        go_enter Try.func40, Try.ntmps40
        go_wp2_with fail
        refine (HW.out _ _ (HV.out.below HX.out.below)).mono ?_
        rintro e w1 ⟨rfl, hb⟩
        have HX1 := Lib.hid (HX.out.next hb)
        clear hb
        rw [HWB.out]
        go_wp2_with fail
        refine (HI1.out _).mono ?_
        rintro e w' ⟨rfl, rfl⟩
        rw [HB1.out]
        go_wp2_with fail
        refine (HI2.out _).mono ?_
        rintro e w' ⟨rfl, rfl⟩
        rw [HB2.out]
        go_wp2_with fail
        have HOWN := Lib.hid (fun v w hv => own_any v (xs.take (t + 1)) w hv (by rw [HTAKE.out]; omega) (by rw [HTAKE.out]; omega))
        refine (HOWN.out _ _ ?_).mono ?_
        · exact reads_take (HV.out.below HX1.out.below) (by omega) (by omega)
        rintro e w3 ⟨v3, rfl, ho, hb⟩
        have HO3 := Lib.hid (owns_lower ho (Nat.succ_le_of_lt HX1.out.size))
        have HX3 := Lib.hid (HX1.out.next hb)
        clear ho hb
        go_wp2_with fail
        go_loopw [10, 11] (fun v i wr => WaitRel n g xs t p q w v i wr) (fun _ i _ => q - (intOf i).toNat)
        case atStart => exact ⟨0, Nat.zero_le _, rfl, HX3.out, by have h := HO3.out; rw [HTAKE.out] at h; simpa using h⟩
        case round =>
          obtain ⟨k, hk, rfl, hx9, hown⟩ := hrel
          generalize hys : (xs.take (t + 1) ++ List.replicate k p).map iv = ys at hown
          have HYS := Lib.hid hys
          have HOW := Lib.hid hown
          have HX9 := Lib.hid hx9
          have hcp9 : wr.cell? ⟨b, o + t, none⟩ = some (.int .i64 p) := (hx9.below.cell (p := ⟨b, o + t, none⟩) hbl).trans hcp
          clear HX3 HO3 hx9 hown hys
          by_cases hlt : k < q
          · go_wp2_with (at_builtin; refine wpList_append_own _ rfl _ _ 26 rfl (w.heap.size + 1) 3 i0 (.int .i64 0) 1 8 Try.underlying26 hi hz0 hz1 hz2 rfl (by decide) _ _ _ rfl (HOW.out.alloc _) ⟨wr.heap.size, 0, none⟩ 1 1 [.int .i64 p] rfl rfl (cell_one_new _ _ _) ?c2 ?c3 ?c4 ?c5 ?_)
            case c2 => intro u hu; simp at hu; subst hu; rfl
            case c3 => unfold maxLen; omega
            case c4 => omega
            case c5 => have := HX9.out.size; simp; omega
            intro v' w9 hown' hgrow _
            have HXB := Lib.hid (boxed_append HX9.out hgrow (fun b hb => (owns_block HOW.out b hb).1))
            have HOW' := Lib.hid hown'
            clear hgrow hown' HOW hcp9
            go_wp2_with fail
            go_roundw
            case rel => exact ⟨k + 1, hlt, by go_num, HXB.out, by rw [← wait_next, HYS.out]; exact HOW'.out⟩
            case measure => simp [intOf] <;> omega
          · have hE : k = q := by omega
            have HE := Lib.hid hE
            clear hE hcp9
            have HOWq := Lib.hid (show wr.ownsRow (w.heap.size + 1) 3 1 _ (t + 1 + q) ys from by have h := HOW.out; rw [HE.out] at h; exact h)
            have HYQ := Lib.hid (show (xs.take (t + 1) ++ List.replicate q p).map iv = ys from by rw [← HE.out]; exact HYS.out)
            clear HOW HYS HE
            have hw4 : IntKind.i64.wrap ((t : Int) + 1) = (t : Int) + 1 := IntWalk.i64_in _ (by omega)
            have hw5 : 0 ≤ (t : Int) + 1 := by omega
            have hw6 : (t : Int) + 1 ≤ (xs.length : Int) := by omega
            have hw7 : ((t : Int) + 1).toNat = t + 1 := by omega
            by_cases hfit : xs.length + q ≤ 61
            · have HR := Lib.hid (waitR_yes HWX.out HPK.out hfit)
              have HWJ := Lib.hid ((walkD_iff n g (waitL xs t q p)).2 ((wait_walk HWX.out HPK.out).2 hfit))
              have HKY := Lib.hid (fun v w hv => kept_yes n g v (waitL xs t q p) w hv HWJ.out)
              by_cases hc1 : c = t + 1
              · go_wp2_with fail
                refine wp_region_noPanic ?_
                refine wp_region_held_drew (S := fun w' => Boxed w.heap.size n g w w' ∧ w'.cell? ⟨w.heap.size, 0, none⟩ = some (.int .i64 n) ∧ w'.cell? ⟨w.heap.size, 1, none⟩ = some (.bool g)) (by kernel_rfl) (keep2_new HX9.out) (fun hHeld => ?_)
                refine wpAnyH_take (i := 0) (oi := _) (v := ?_) rfl (by kernel_rfl) (by kernel_rfl) (by kernel_rfl) (fun _ _ _ h => h) (Or.inl ⟨by rfl, ?_⟩) (by assumption) ?_
                rotate_left
                · (intro w hSw; (try dsimp only at hSw); (first | (go_simp; done) | (go_simp; with_reducible rfl)))
                simp only [Act.put, List.getElem_toArray, List.getElem_cons_succ, List.getElem_cons_zero, List.setIfInBounds_toArray, List.set_cons_zero, List.set_cons_succ]
                refine wpAnyH_take (i := 1) (oi := _) (v := ?_) rfl (by kernel_rfl) (by kernel_rfl) (by kernel_rfl) (fun _ _ _ h => h) (Or.inl ⟨by rfl, ?_⟩) (by assumption) ?_
                rotate_left
                · (intro w hSw; (try dsimp only at hSw); (first | (go_simp; done) | (go_simp; with_reducible rfl)))
                simp only [Act.put, List.getElem_toArray, List.getElem_cons_succ, List.getElem_cons_zero, List.setIfInBounds_toArray, List.set_cons_zero, List.set_cons_succ]
                refine wpAnyH_take (i := 2) (oi := _) (v := ?_) rfl (by kernel_rfl) (by kernel_rfl) (by kernel_rfl) (fun _ _ _ h => h) (Or.inl ⟨by rfl, ?_⟩) (by assumption) ?_
                rotate_left
                · (intro w hSw; (try dsimp only at hSw); (first | (go_simp; done) | (go_simp; with_reducible rfl)))
                simp only [Act.put, List.getElem_toArray, List.getElem_cons_succ, List.getElem_cons_zero, List.setIfInBounds_toArray, List.set_cons_zero, List.set_cons_succ]
                refine wpAnyH_take (i := 3) (oi := _) (v := ?_) rfl (by kernel_rfl) (by kernel_rfl) (by kernel_rfl) (fun _ _ _ h => h) (Or.inl ⟨by rfl, ?_⟩) (by assumption) ?_
                rotate_left
                · (intro w hSw; (try dsimp only at hSw); (first | (go_simp; done) | (go_simp; with_reducible rfl)))
                simp only [Act.put, List.getElem_toArray, List.getElem_cons_succ, List.getElem_cons_zero, List.setIfInBounds_toArray, List.set_cons_zero, List.set_cons_succ]
                refine wpAnyH_take (i := 4) (oi := _) (v := ?_) rfl (by kernel_rfl) (by kernel_rfl) (by kernel_rfl) (fun _ _ _ h => h) (Or.inl ⟨by rfl, ?_⟩) (by assumption) ?_
                rotate_left
                · (intro w hSw; (try dsimp only at hSw); (first | (go_simp; done) | (go_simp; with_reducible rfl)))
                simp only [Act.put, List.getElem_toArray, List.getElem_cons_succ, List.getElem_cons_zero, List.setIfInBounds_toArray, List.set_cons_zero, List.set_cons_succ]
                refine wpAnyH_take (i := 5) (oi := _) (v := ?_) rfl (by kernel_rfl) (by kernel_rfl) (by kernel_rfl) (fun _ _ _ h => h) (Or.inl ⟨by rfl, ?_⟩) (by assumption) ?_
                rotate_left
                · (intro w hSw; (try dsimp only at hSw); (first | (go_simp; done) | (go_simp; with_reducible rfl)))
                simp only [Act.put, List.getElem_toArray, List.getElem_cons_succ, List.getElem_cons_zero, List.setIfInBounds_toArray, List.set_cons_zero, List.set_cons_succ]
                refine wpAnyH_ready (rs := [6]) (by kernel_rfl) (by simp) ?_
                refine AllReadyH.cons rfl (fun K hK => ?_) AllReadyH.nil
                have hW9 := hHeld.1.size
                have HOX := Lib.hid (owns_below HOWq.out (below_drewN wr 1))
                refine step_append_any (by rfl) _ _ _ (by rfl) (w.heap.size + 1) 3 i0 (.int .i64 0) 1 8 Try.underlying26 hi hz0 hz1 hz2 rfl (by decide) _ _ _ (by rfl) HOX.out ⟨b, o, none⟩ (xs.length - (t + 1)) 0 ((xs.drop (t + 1)).map iv) ?e2 ?c1 (fun j u hj => by rw [List.drop_eq_nil_of_le (by omega)] at hj; simp at hj) ?c2 ?c3 ?c4 ?c5 ?_
                case e2 => rfl
                case c1 => simp
                case c2 => intro u hu; simp only [List.mem_map] at hu; obtain ⟨z, _, rfl⟩ := hu; rfl
                case c3 => unfold maxLen; omega
                case c4 => omega
                case c5 => exact Nat.succ_le_of_lt hW9
                intro v4 w4 hown' hgrow
                have hS := keep2_grownW hHeld hgrow (fun b hb => (owns_block HOX.out b hb).1)
                have HO4 := Lib.hid (show w4.ownsRow (w.heap.size + 1) 3 1 v4 (waitL xs t q p).length ((waitL xs t q p).map iv) from by rw [waitL_len (by omega), ← waitL_alt HPK.out, List.map_append, HYQ.out, show xs.length + q = t + 1 + q + (xs.length - (t + 1)) by omega]; exact hown')
                clear hgrow hown' hHeld hW9
                refine hK.out _ _ (hS) (fun hHeld => ?_)
                clear hK K
                refine wpAnyH_ready (rs := [7]) (by kernel_rfl) (by simp) ?_
                refine AllReadyH.cons rfl (fun K hK => ?_) AllReadyH.nil
                go_simp
                refine (HKY.out _ _ (owns_reads HO4.out (by rw [waitL_len (by omega)]; unfold maxLen; omega))).mono ?_
                rintro e w5 ⟨rfl, hb⟩
                have hS := keep2 hHeld hb
                have HO5 := Lib.hid (owns_below HO4.out hb)
                clear hb hHeld
                go_wp2_with fail
                refine hK.out _ _ (hS) (fun hHeld => ?_)
                clear hK K
                refine wpAnyH_take (i := 8) (oi := _) (v := ?_) rfl (by kernel_rfl) (by kernel_rfl) (by kernel_rfl) (fun _ _ _ h => h) (Or.inl ⟨by rfl, ?_⟩) (by assumption) ?_
                rotate_left
                · (intro w hSw; (try dsimp only at hSw); (first | (go_simp; done) | (go_simp; with_reducible rfl)))
                simp only [Act.put, List.getElem_toArray, List.getElem_cons_succ, List.getElem_cons_zero, List.setIfInBounds_toArray, List.set_cons_zero, List.set_cons_succ]
                refine wpAnyH_take (i := 9) (oi := _) (v := ?_) rfl (by kernel_rfl) (by kernel_rfl) (by kernel_rfl) (fun _ _ _ h => h) (Or.inl ⟨by rfl, ?_⟩) (by assumption) ?_
                rotate_left
                · (intro w hSw; (try dsimp only at hSw); (first | (go_simp; done) | (go_simp; with_reducible rfl)))
                simp only [Act.put, List.getElem_toArray, List.getElem_cons_succ, List.getElem_cons_zero, List.setIfInBounds_toArray, List.set_cons_zero, List.set_cons_succ]
                refine wpAnyH_take (i := 10) (oi := _) (v := ?_) rfl (by kernel_rfl) (by kernel_rfl) (by kernel_rfl) (fun _ _ _ h => h) (Or.inl ⟨by rfl, ?_⟩) (by assumption) ?_
                rotate_left
                · (intro w hSw; (try dsimp only at hSw); (first | (go_simp; done) | (go_simp; with_reducible rfl)))
                simp only [Act.put, List.getElem_toArray, List.getElem_cons_succ, List.getElem_cons_zero, List.setIfInBounds_toArray, List.set_cons_zero, List.set_cons_succ]
                refine wpAnyH_take (i := 11) (oi := _) (v := ?_) rfl (by kernel_rfl) (by kernel_rfl) (by kernel_rfl) (fun _ _ _ h => h) (Or.inl ⟨by rfl, ?_⟩) (by assumption) ?_
                rotate_left
                · (intro w hSw; (try dsimp only at hSw); (first | (go_simp; done) | (go_simp; with_reducible rfl)))
                simp only [Act.put, List.getElem_toArray, List.getElem_cons_succ, List.getElem_cons_zero, List.setIfInBounds_toArray, List.set_cons_zero, List.set_cons_succ]
                refine wpAnyH_done (by kernel_rfl) ?_ _
                refine NoPanic.normal ?_
                have HZ9 := Lib.hid hHeld.1
                clear hHeld
                go_wp2_with fail
                go_ret2
                exact owns_R (zs := waitL xs t q p) (b := true) HR.out (owns_out HZ9.out HO5.out)
              · go_wp2_with fail
                refine wp_region_noPanic ?_
                refine wp_region_held_drew (S := fun w' => Boxed w.heap.size n g w w' ∧ w'.cell? ⟨w.heap.size, 0, none⟩ = some (.int .i64 n) ∧ w'.cell? ⟨w.heap.size, 1, none⟩ = some (.bool g)) (by kernel_rfl) (keep2_new HX9.out) (fun hHeld => ?_)
                refine wpAnyH_take (i := 0) (oi := _) (v := ?_) rfl (by kernel_rfl) (by kernel_rfl) (by kernel_rfl) (fun _ _ _ h => h) (Or.inl ⟨by rfl, ?_⟩) (by assumption) ?_
                rotate_left
                · (intro w hSw; (try dsimp only at hSw); (first | (go_simp; done) | (go_simp; with_reducible rfl)))
                simp only [Act.put, List.getElem_toArray, List.getElem_cons_succ, List.getElem_cons_zero, List.setIfInBounds_toArray, List.set_cons_zero, List.set_cons_succ]
                refine wpAnyH_take (i := 1) (oi := _) (v := ?_) rfl (by kernel_rfl) (by kernel_rfl) (by kernel_rfl) (fun _ _ _ h => h) (Or.inl ⟨by rfl, ?_⟩) (by assumption) ?_
                rotate_left
                · (intro w hSw; (try dsimp only at hSw); (first | (go_simp; done) | (go_simp; with_reducible rfl)))
                simp only [Act.put, List.getElem_toArray, List.getElem_cons_succ, List.getElem_cons_zero, List.setIfInBounds_toArray, List.set_cons_zero, List.set_cons_succ]
                refine wpAnyH_take (i := 2) (oi := _) (v := ?_) rfl (by kernel_rfl) (by kernel_rfl) (by kernel_rfl) (fun _ _ _ h => h) (Or.inl ⟨by rfl, ?_⟩) (by assumption) ?_
                rotate_left
                · (intro w hSw; (try dsimp only at hSw); (first | (go_simp; done) | (go_simp; with_reducible rfl)))
                simp only [Act.put, List.getElem_toArray, List.getElem_cons_succ, List.getElem_cons_zero, List.setIfInBounds_toArray, List.set_cons_zero, List.set_cons_succ]
                refine wpAnyH_take (i := 3) (oi := _) (v := ?_) rfl (by kernel_rfl) (by kernel_rfl) (by kernel_rfl) (fun _ _ _ h => h) (Or.inl ⟨by rfl, ?_⟩) (by assumption) ?_
                rotate_left
                · (intro w hSw; (try dsimp only at hSw); (first | (go_simp; done) | (go_simp; with_reducible rfl)))
                simp only [Act.put, List.getElem_toArray, List.getElem_cons_succ, List.getElem_cons_zero, List.setIfInBounds_toArray, List.set_cons_zero, List.set_cons_succ]
                refine wpAnyH_take (i := 4) (oi := _) (v := ?_) rfl (by kernel_rfl) (by kernel_rfl) (by kernel_rfl) (fun _ _ _ h => h) (Or.inl ⟨by rfl, ?_⟩) (by assumption) ?_
                rotate_left
                · (intro w hSw; (try dsimp only at hSw); (first | (go_simp; done) | (go_simp; with_reducible rfl)))
                simp only [Act.put, List.getElem_toArray, List.getElem_cons_succ, List.getElem_cons_zero, List.setIfInBounds_toArray, List.set_cons_zero, List.set_cons_succ]
                refine wpAnyH_take (i := 5) (oi := _) (v := ?_) rfl (by kernel_rfl) (by kernel_rfl) (by kernel_rfl) (fun _ _ _ h => h) (Or.inl ⟨by rfl, ?_⟩) (by assumption) ?_
                rotate_left
                · (intro w hSw; (try dsimp only at hSw); (first | (go_simp; done) | (go_simp; with_reducible rfl)))
                simp only [Act.put, List.getElem_toArray, List.getElem_cons_succ, List.getElem_cons_zero, List.setIfInBounds_toArray, List.set_cons_zero, List.set_cons_succ]
                refine wpAnyH_ready (rs := [6]) (by kernel_rfl) (by simp) ?_
                refine AllReadyH.cons rfl (fun K hK => ?_) AllReadyH.nil
                have hW9 := hHeld.1.size
                have HOX := Lib.hid (owns_below HOWq.out (below_drewN wr 1))
                refine step_append_any (by rfl) _ _ _ (by rfl) (w.heap.size + 1) 3 i0 (.int .i64 0) 1 8 Try.underlying26 hi hz0 hz1 hz2 rfl (by decide) _ _ _ (by rfl) HOX.out ⟨b, o + (t + 1), none⟩ (xs.length - (t + 1)) (c - (t + 1)) ((xs.drop (t + 1)).map iv) ?e2 ?c1 (cells_list (fun i z hz => by rw [List.getElem?_drop] at hz; obtain ⟨b9, o9, e9, hl9, hc9⟩ := HL.out _ z hz; cases e9; rw [show o + (t + 1) + i = o + (t + 1 + i) by omega]; exact (hHeld.1.below.cell (p := ⟨b, o + (t + 1 + i), none⟩) hl9).trans hc9)) ?c2 ?c3 ?c4 ?c5 ?_
                case e2 => rfl
                case c1 => simp
                case c2 => intro u hu; simp only [List.mem_map] at hu; obtain ⟨z, _, rfl⟩ := hu; rfl
                case c3 => unfold maxLen; omega
                case c4 => omega
                case c5 => exact Nat.succ_le_of_lt hW9
                intro v4 w4 hown' hgrow
                have hS := keep2_grownW hHeld hgrow (fun b hb => (owns_block HOX.out b hb).1)
                have HO4 := Lib.hid (show w4.ownsRow (w.heap.size + 1) 3 1 v4 (waitL xs t q p).length ((waitL xs t q p).map iv) from by rw [waitL_len (by omega), ← waitL_alt HPK.out, List.map_append, HYQ.out, show xs.length + q = t + 1 + q + (xs.length - (t + 1)) by omega]; exact hown')
                clear hgrow hown' hHeld hW9
                refine hK.out _ _ (hS) (fun hHeld => ?_)
                clear hK K
                refine wpAnyH_ready (rs := [7]) (by kernel_rfl) (by simp) ?_
                refine AllReadyH.cons rfl (fun K hK => ?_) AllReadyH.nil
                go_simp
                refine (HKY.out _ _ (owns_reads HO4.out (by rw [waitL_len (by omega)]; unfold maxLen; omega))).mono ?_
                rintro e w5 ⟨rfl, hb⟩
                have hS := keep2 hHeld hb
                have HO5 := Lib.hid (owns_below HO4.out hb)
                clear hb hHeld
                go_wp2_with fail
                refine hK.out _ _ (hS) (fun hHeld => ?_)
                clear hK K
                refine wpAnyH_take (i := 8) (oi := _) (v := ?_) rfl (by kernel_rfl) (by kernel_rfl) (by kernel_rfl) (fun _ _ _ h => h) (Or.inl ⟨by rfl, ?_⟩) (by assumption) ?_
                rotate_left
                · (intro w hSw; (try dsimp only at hSw); (first | (go_simp; done) | (go_simp; with_reducible rfl)))
                simp only [Act.put, List.getElem_toArray, List.getElem_cons_succ, List.getElem_cons_zero, List.setIfInBounds_toArray, List.set_cons_zero, List.set_cons_succ]
                refine wpAnyH_take (i := 9) (oi := _) (v := ?_) rfl (by kernel_rfl) (by kernel_rfl) (by kernel_rfl) (fun _ _ _ h => h) (Or.inl ⟨by rfl, ?_⟩) (by assumption) ?_
                rotate_left
                · (intro w hSw; (try dsimp only at hSw); (first | (go_simp; done) | (go_simp; with_reducible rfl)))
                simp only [Act.put, List.getElem_toArray, List.getElem_cons_succ, List.getElem_cons_zero, List.setIfInBounds_toArray, List.set_cons_zero, List.set_cons_succ]
                refine wpAnyH_take (i := 10) (oi := _) (v := ?_) rfl (by kernel_rfl) (by kernel_rfl) (by kernel_rfl) (fun _ _ _ h => h) (Or.inl ⟨by rfl, ?_⟩) (by assumption) ?_
                rotate_left
                · (intro w hSw; (try dsimp only at hSw); (first | (go_simp; done) | (go_simp; with_reducible rfl)))
                simp only [Act.put, List.getElem_toArray, List.getElem_cons_succ, List.getElem_cons_zero, List.setIfInBounds_toArray, List.set_cons_zero, List.set_cons_succ]
                refine wpAnyH_take (i := 11) (oi := _) (v := ?_) rfl (by kernel_rfl) (by kernel_rfl) (by kernel_rfl) (fun _ _ _ h => h) (Or.inl ⟨by rfl, ?_⟩) (by assumption) ?_
                rotate_left
                · (intro w hSw; (try dsimp only at hSw); (first | (go_simp; done) | (go_simp; with_reducible rfl)))
                simp only [Act.put, List.getElem_toArray, List.getElem_cons_succ, List.getElem_cons_zero, List.setIfInBounds_toArray, List.set_cons_zero, List.set_cons_succ]
                refine wpAnyH_done (by kernel_rfl) ?_ _
                refine NoPanic.normal ?_
                have HZ9 := Lib.hid hHeld.1
                clear hHeld
                go_wp2_with fail
                go_ret2
                exact owns_R (zs := waitL xs t q p) (b := true) HR.out (owns_out HZ9.out HO5.out)
            · have HR := Lib.hid (waitR_no (n := n) (g := g) (xs := xs) (t := t) (m := q) (fun h => hfit (by have := h.2.2.2.2; omega)))
              have HWJ := Lib.hid (show walkD n g (waitL xs t q p) = false from by
                cases h : walkD n g (waitL xs t q p)
                · rfl
                · exact absurd ((wait_walk HWX.out HPK.out).1 ((walkD_iff n g _).1 h)) hfit)
              have HKN := Lib.hid (fun v w hv => kept_no n g v (waitL xs t q p) w hv HWJ.out)
              by_cases hc1 : c = t + 1
              · go_wp2_with fail
                refine wp_region_noPanic ?_
                refine wp_region_held_drew (S := fun w' => Boxed w.heap.size n g w w' ∧ w'.cell? ⟨w.heap.size, 0, none⟩ = some (.int .i64 n) ∧ w'.cell? ⟨w.heap.size, 1, none⟩ = some (.bool g)) (by kernel_rfl) (keep2_new HX9.out) (fun hHeld => ?_)
                refine wpAnyH_take (i := 0) (oi := _) (v := ?_) rfl (by kernel_rfl) (by kernel_rfl) (by kernel_rfl) (fun _ _ _ h => h) (Or.inl ⟨by rfl, ?_⟩) (by assumption) ?_
                rotate_left
                · (intro w hSw; (try dsimp only at hSw); (first | (go_simp; done) | (go_simp; with_reducible rfl)))
                simp only [Act.put, List.getElem_toArray, List.getElem_cons_succ, List.getElem_cons_zero, List.setIfInBounds_toArray, List.set_cons_zero, List.set_cons_succ]
                refine wpAnyH_take (i := 1) (oi := _) (v := ?_) rfl (by kernel_rfl) (by kernel_rfl) (by kernel_rfl) (fun _ _ _ h => h) (Or.inl ⟨by rfl, ?_⟩) (by assumption) ?_
                rotate_left
                · (intro w hSw; (try dsimp only at hSw); (first | (go_simp; done) | (go_simp; with_reducible rfl)))
                simp only [Act.put, List.getElem_toArray, List.getElem_cons_succ, List.getElem_cons_zero, List.setIfInBounds_toArray, List.set_cons_zero, List.set_cons_succ]
                refine wpAnyH_take (i := 2) (oi := _) (v := ?_) rfl (by kernel_rfl) (by kernel_rfl) (by kernel_rfl) (fun _ _ _ h => h) (Or.inl ⟨by rfl, ?_⟩) (by assumption) ?_
                rotate_left
                · (intro w hSw; (try dsimp only at hSw); (first | (go_simp; done) | (go_simp; with_reducible rfl)))
                simp only [Act.put, List.getElem_toArray, List.getElem_cons_succ, List.getElem_cons_zero, List.setIfInBounds_toArray, List.set_cons_zero, List.set_cons_succ]
                refine wpAnyH_take (i := 3) (oi := _) (v := ?_) rfl (by kernel_rfl) (by kernel_rfl) (by kernel_rfl) (fun _ _ _ h => h) (Or.inl ⟨by rfl, ?_⟩) (by assumption) ?_
                rotate_left
                · (intro w hSw; (try dsimp only at hSw); (first | (go_simp; done) | (go_simp; with_reducible rfl)))
                simp only [Act.put, List.getElem_toArray, List.getElem_cons_succ, List.getElem_cons_zero, List.setIfInBounds_toArray, List.set_cons_zero, List.set_cons_succ]
                refine wpAnyH_take (i := 4) (oi := _) (v := ?_) rfl (by kernel_rfl) (by kernel_rfl) (by kernel_rfl) (fun _ _ _ h => h) (Or.inl ⟨by rfl, ?_⟩) (by assumption) ?_
                rotate_left
                · (intro w hSw; (try dsimp only at hSw); (first | (go_simp; done) | (go_simp; with_reducible rfl)))
                simp only [Act.put, List.getElem_toArray, List.getElem_cons_succ, List.getElem_cons_zero, List.setIfInBounds_toArray, List.set_cons_zero, List.set_cons_succ]
                refine wpAnyH_take (i := 5) (oi := _) (v := ?_) rfl (by kernel_rfl) (by kernel_rfl) (by kernel_rfl) (fun _ _ _ h => h) (Or.inl ⟨by rfl, ?_⟩) (by assumption) ?_
                rotate_left
                · (intro w hSw; (try dsimp only at hSw); (first | (go_simp; done) | (go_simp; with_reducible rfl)))
                simp only [Act.put, List.getElem_toArray, List.getElem_cons_succ, List.getElem_cons_zero, List.setIfInBounds_toArray, List.set_cons_zero, List.set_cons_succ]
                refine wpAnyH_ready (rs := [6]) (by kernel_rfl) (by simp) ?_
                refine AllReadyH.cons rfl (fun K hK => ?_) AllReadyH.nil
                have hW9 := hHeld.1.size
                have HOX := Lib.hid (owns_below HOWq.out (below_drewN wr 1))
                refine step_append_any (by rfl) _ _ _ (by rfl) (w.heap.size + 1) 3 i0 (.int .i64 0) 1 8 Try.underlying26 hi hz0 hz1 hz2 rfl (by decide) _ _ _ (by rfl) HOX.out ⟨b, o, none⟩ (xs.length - (t + 1)) 0 ((xs.drop (t + 1)).map iv) ?e2 ?c1 (fun j u hj => by rw [List.drop_eq_nil_of_le (by omega)] at hj; simp at hj) ?c2 ?c3 ?c4 ?c5 ?_
                case e2 => rfl
                case c1 => simp
                case c2 => intro u hu; simp only [List.mem_map] at hu; obtain ⟨z, _, rfl⟩ := hu; rfl
                case c3 => unfold maxLen; omega
                case c4 => omega
                case c5 => exact Nat.succ_le_of_lt hW9
                intro v4 w4 hown' hgrow
                have hS := keep2_grownW hHeld hgrow (fun b hb => (owns_block HOX.out b hb).1)
                have HO4 := Lib.hid (show w4.ownsRow (w.heap.size + 1) 3 1 v4 (waitL xs t q p).length ((waitL xs t q p).map iv) from by rw [waitL_len (by omega), ← waitL_alt HPK.out, List.map_append, HYQ.out, show xs.length + q = t + 1 + q + (xs.length - (t + 1)) by omega]; exact hown')
                clear hgrow hown' hHeld hW9
                refine hK.out _ _ (hS) (fun hHeld => ?_)
                clear hK K
                refine wpAnyH_ready (rs := [7]) (by kernel_rfl) (by simp) ?_
                refine AllReadyH.cons rfl (fun K hK => ?_) AllReadyH.nil
                go_simp
                have hW9 := hHeld.1.size
                refine (HKN.out _ _ (owns_reads HO4.out (by rw [waitL_len (by omega)]; unfold maxLen; omega))).mono ?_
                rintro e w5 ⟨v5, rfl, ho, hb⟩
                have hS := keep2 hHeld hb
                have HO5 := Lib.hid (owns_lower ho (Nat.succ_le_of_lt hW9))
                clear hb hHeld ho hW9
                go_wp2_with fail
                refine hK.out _ _ (hS) (fun hHeld => ?_)
                clear hK K
                refine wpAnyH_take (i := 8) (oi := _) (v := ?_) rfl (by kernel_rfl) (by kernel_rfl) (by kernel_rfl) (fun _ _ _ h => h) (Or.inl ⟨by rfl, ?_⟩) (by assumption) ?_
                rotate_left
                · (intro w hSw; (try dsimp only at hSw); (first | (go_simp; done) | (go_simp; with_reducible rfl)))
                simp only [Act.put, List.getElem_toArray, List.getElem_cons_succ, List.getElem_cons_zero, List.setIfInBounds_toArray, List.set_cons_zero, List.set_cons_succ]
                refine wpAnyH_take (i := 9) (oi := _) (v := ?_) rfl (by kernel_rfl) (by kernel_rfl) (by kernel_rfl) (fun _ _ _ h => h) (Or.inl ⟨by rfl, ?_⟩) (by assumption) ?_
                rotate_left
                · (intro w hSw; (try dsimp only at hSw); (first | (go_simp; done) | (go_simp; with_reducible rfl)))
                simp only [Act.put, List.getElem_toArray, List.getElem_cons_succ, List.getElem_cons_zero, List.setIfInBounds_toArray, List.set_cons_zero, List.set_cons_succ]
                refine wpAnyH_take (i := 10) (oi := _) (v := ?_) rfl (by kernel_rfl) (by kernel_rfl) (by kernel_rfl) (fun _ _ _ h => h) (Or.inl ⟨by rfl, ?_⟩) (by assumption) ?_
                rotate_left
                · (intro w hSw; (try dsimp only at hSw); (first | (go_simp; done) | (go_simp; with_reducible rfl)))
                simp only [Act.put, List.getElem_toArray, List.getElem_cons_succ, List.getElem_cons_zero, List.setIfInBounds_toArray, List.set_cons_zero, List.set_cons_succ]
                refine wpAnyH_take (i := 11) (oi := _) (v := ?_) rfl (by kernel_rfl) (by kernel_rfl) (by kernel_rfl) (fun _ _ _ h => h) (Or.inl ⟨by rfl, ?_⟩) (by assumption) ?_
                rotate_left
                · (intro w hSw; (try dsimp only at hSw); (first | (go_simp; done) | (go_simp; with_reducible rfl)))
                simp only [Act.put, List.getElem_toArray, List.getElem_cons_succ, List.getElem_cons_zero, List.setIfInBounds_toArray, List.set_cons_zero, List.set_cons_succ]
                refine wpAnyH_done (by kernel_rfl) ?_ _
                refine NoPanic.normal ?_
                have HZ9 := Lib.hid hHeld.1
                clear hHeld
                go_wp2_with fail
                go_ret2
                exact owns_R (zs := []) (b := false) HR.out (owns_out HZ9.out HO5.out)
              · go_wp2_with fail
                refine wp_region_noPanic ?_
                refine wp_region_held_drew (S := fun w' => Boxed w.heap.size n g w w' ∧ w'.cell? ⟨w.heap.size, 0, none⟩ = some (.int .i64 n) ∧ w'.cell? ⟨w.heap.size, 1, none⟩ = some (.bool g)) (by kernel_rfl) (keep2_new HX9.out) (fun hHeld => ?_)
                refine wpAnyH_take (i := 0) (oi := _) (v := ?_) rfl (by kernel_rfl) (by kernel_rfl) (by kernel_rfl) (fun _ _ _ h => h) (Or.inl ⟨by rfl, ?_⟩) (by assumption) ?_
                rotate_left
                · (intro w hSw; (try dsimp only at hSw); (first | (go_simp; done) | (go_simp; with_reducible rfl)))
                simp only [Act.put, List.getElem_toArray, List.getElem_cons_succ, List.getElem_cons_zero, List.setIfInBounds_toArray, List.set_cons_zero, List.set_cons_succ]
                refine wpAnyH_take (i := 1) (oi := _) (v := ?_) rfl (by kernel_rfl) (by kernel_rfl) (by kernel_rfl) (fun _ _ _ h => h) (Or.inl ⟨by rfl, ?_⟩) (by assumption) ?_
                rotate_left
                · (intro w hSw; (try dsimp only at hSw); (first | (go_simp; done) | (go_simp; with_reducible rfl)))
                simp only [Act.put, List.getElem_toArray, List.getElem_cons_succ, List.getElem_cons_zero, List.setIfInBounds_toArray, List.set_cons_zero, List.set_cons_succ]
                refine wpAnyH_take (i := 2) (oi := _) (v := ?_) rfl (by kernel_rfl) (by kernel_rfl) (by kernel_rfl) (fun _ _ _ h => h) (Or.inl ⟨by rfl, ?_⟩) (by assumption) ?_
                rotate_left
                · (intro w hSw; (try dsimp only at hSw); (first | (go_simp; done) | (go_simp; with_reducible rfl)))
                simp only [Act.put, List.getElem_toArray, List.getElem_cons_succ, List.getElem_cons_zero, List.setIfInBounds_toArray, List.set_cons_zero, List.set_cons_succ]
                refine wpAnyH_take (i := 3) (oi := _) (v := ?_) rfl (by kernel_rfl) (by kernel_rfl) (by kernel_rfl) (fun _ _ _ h => h) (Or.inl ⟨by rfl, ?_⟩) (by assumption) ?_
                rotate_left
                · (intro w hSw; (try dsimp only at hSw); (first | (go_simp; done) | (go_simp; with_reducible rfl)))
                simp only [Act.put, List.getElem_toArray, List.getElem_cons_succ, List.getElem_cons_zero, List.setIfInBounds_toArray, List.set_cons_zero, List.set_cons_succ]
                refine wpAnyH_take (i := 4) (oi := _) (v := ?_) rfl (by kernel_rfl) (by kernel_rfl) (by kernel_rfl) (fun _ _ _ h => h) (Or.inl ⟨by rfl, ?_⟩) (by assumption) ?_
                rotate_left
                · (intro w hSw; (try dsimp only at hSw); (first | (go_simp; done) | (go_simp; with_reducible rfl)))
                simp only [Act.put, List.getElem_toArray, List.getElem_cons_succ, List.getElem_cons_zero, List.setIfInBounds_toArray, List.set_cons_zero, List.set_cons_succ]
                refine wpAnyH_take (i := 5) (oi := _) (v := ?_) rfl (by kernel_rfl) (by kernel_rfl) (by kernel_rfl) (fun _ _ _ h => h) (Or.inl ⟨by rfl, ?_⟩) (by assumption) ?_
                rotate_left
                · (intro w hSw; (try dsimp only at hSw); (first | (go_simp; done) | (go_simp; with_reducible rfl)))
                simp only [Act.put, List.getElem_toArray, List.getElem_cons_succ, List.getElem_cons_zero, List.setIfInBounds_toArray, List.set_cons_zero, List.set_cons_succ]
                refine wpAnyH_ready (rs := [6]) (by kernel_rfl) (by simp) ?_
                refine AllReadyH.cons rfl (fun K hK => ?_) AllReadyH.nil
                have hW9 := hHeld.1.size
                have HOX := Lib.hid (owns_below HOWq.out (below_drewN wr 1))
                refine step_append_any (by rfl) _ _ _ (by rfl) (w.heap.size + 1) 3 i0 (.int .i64 0) 1 8 Try.underlying26 hi hz0 hz1 hz2 rfl (by decide) _ _ _ (by rfl) HOX.out ⟨b, o + (t + 1), none⟩ (xs.length - (t + 1)) (c - (t + 1)) ((xs.drop (t + 1)).map iv) ?e2 ?c1 (cells_list (fun i z hz => by rw [List.getElem?_drop] at hz; obtain ⟨b9, o9, e9, hl9, hc9⟩ := HL.out _ z hz; cases e9; rw [show o + (t + 1) + i = o + (t + 1 + i) by omega]; exact (hHeld.1.below.cell (p := ⟨b, o + (t + 1 + i), none⟩) hl9).trans hc9)) ?c2 ?c3 ?c4 ?c5 ?_
                case e2 => rfl
                case c1 => simp
                case c2 => intro u hu; simp only [List.mem_map] at hu; obtain ⟨z, _, rfl⟩ := hu; rfl
                case c3 => unfold maxLen; omega
                case c4 => omega
                case c5 => exact Nat.succ_le_of_lt hW9
                intro v4 w4 hown' hgrow
                have hS := keep2_grownW hHeld hgrow (fun b hb => (owns_block HOX.out b hb).1)
                have HO4 := Lib.hid (show w4.ownsRow (w.heap.size + 1) 3 1 v4 (waitL xs t q p).length ((waitL xs t q p).map iv) from by rw [waitL_len (by omega), ← waitL_alt HPK.out, List.map_append, HYQ.out, show xs.length + q = t + 1 + q + (xs.length - (t + 1)) by omega]; exact hown')
                clear hgrow hown' hHeld hW9
                refine hK.out _ _ (hS) (fun hHeld => ?_)
                clear hK K
                refine wpAnyH_ready (rs := [7]) (by kernel_rfl) (by simp) ?_
                refine AllReadyH.cons rfl (fun K hK => ?_) AllReadyH.nil
                go_simp
                have hW9 := hHeld.1.size
                refine (HKN.out _ _ (owns_reads HO4.out (by rw [waitL_len (by omega)]; unfold maxLen; omega))).mono ?_
                rintro e w5 ⟨v5, rfl, ho, hb⟩
                have hS := keep2 hHeld hb
                have HO5 := Lib.hid (owns_lower ho (Nat.succ_le_of_lt hW9))
                clear hb hHeld ho hW9
                go_wp2_with fail
                refine hK.out _ _ (hS) (fun hHeld => ?_)
                clear hK K
                refine wpAnyH_take (i := 8) (oi := _) (v := ?_) rfl (by kernel_rfl) (by kernel_rfl) (by kernel_rfl) (fun _ _ _ h => h) (Or.inl ⟨by rfl, ?_⟩) (by assumption) ?_
                rotate_left
                · (intro w hSw; (try dsimp only at hSw); (first | (go_simp; done) | (go_simp; with_reducible rfl)))
                simp only [Act.put, List.getElem_toArray, List.getElem_cons_succ, List.getElem_cons_zero, List.setIfInBounds_toArray, List.set_cons_zero, List.set_cons_succ]
                refine wpAnyH_take (i := 9) (oi := _) (v := ?_) rfl (by kernel_rfl) (by kernel_rfl) (by kernel_rfl) (fun _ _ _ h => h) (Or.inl ⟨by rfl, ?_⟩) (by assumption) ?_
                rotate_left
                · (intro w hSw; (try dsimp only at hSw); (first | (go_simp; done) | (go_simp; with_reducible rfl)))
                simp only [Act.put, List.getElem_toArray, List.getElem_cons_succ, List.getElem_cons_zero, List.setIfInBounds_toArray, List.set_cons_zero, List.set_cons_succ]
                refine wpAnyH_take (i := 10) (oi := _) (v := ?_) rfl (by kernel_rfl) (by kernel_rfl) (by kernel_rfl) (fun _ _ _ h => h) (Or.inl ⟨by rfl, ?_⟩) (by assumption) ?_
                rotate_left
                · (intro w hSw; (try dsimp only at hSw); (first | (go_simp; done) | (go_simp; with_reducible rfl)))
                simp only [Act.put, List.getElem_toArray, List.getElem_cons_succ, List.getElem_cons_zero, List.setIfInBounds_toArray, List.set_cons_zero, List.set_cons_succ]
                refine wpAnyH_take (i := 11) (oi := _) (v := ?_) rfl (by kernel_rfl) (by kernel_rfl) (by kernel_rfl) (fun _ _ _ h => h) (Or.inl ⟨by rfl, ?_⟩) (by assumption) ?_
                rotate_left
                · (intro w hSw; (try dsimp only at hSw); (first | (go_simp; done) | (go_simp; with_reducible rfl)))
                simp only [Act.put, List.getElem_toArray, List.getElem_cons_succ, List.getElem_cons_zero, List.setIfInBounds_toArray, List.set_cons_zero, List.set_cons_succ]
                refine wpAnyH_done (by kernel_rfl) ?_ _
                refine NoPanic.normal ?_
                have HZ9 := Lib.hid hHeld.1
                clear hHeld
                go_wp2_with fail
                go_ret2
                exact owns_R (zs := []) (b := false) HR.out (owns_out HZ9.out HO5.out)
      · have HB2 := Lib.hid (show (decide (0 ≤ m) && decide (m ≤ 60)) = false from by simp; omega)
        have HR := Lib.hid (waitR_no (n := n) (g := g) (xs := xs) (t := a) (m := m) (fun h => hq ⟨h.2.2.2.1, by have := h.2.2.2.2; omega⟩))
        go_enter Try.func40, Try.ntmps40
        go_wp2_with fail
        refine (HW.out _ _ (HV.out.below HX.out.below)).mono ?_
        rintro e w1 ⟨rfl, hb⟩
        have HX1 := Lib.hid (HX.out.next hb)
        clear hb
        rw [HWB.out]
        go_wp2_with fail
        refine (HI1.out _).mono ?_
        rintro e w' ⟨rfl, rfl⟩
        rw [HB1.out]
        go_wp2_with fail
        refine (HI2.out _).mono ?_
        rintro e w' ⟨rfl, rfl⟩
        rw [HB2.out]
        have HO := Lib.hid (fun (w2 : World) (h : Boxed w.heap.size n g w w2) => made_at w2 (w.heap.size + 1) w2.heap.size rfl (Nat.succ_le_of_lt h.size))
        go_wp2_with fail
        go_ret2
        exact owns_R (zs := []) (b := false) HR.out (owns_out (HX1.out.next (below_new _ _)) (HO.out _ HX1.out))
    · have HB1 := Lib.hid (show (decide (0 ≤ a) && decide (a ≤ (xs.length : Int) - 1)) = false from by simp; omega)
      have HR := Lib.hid (waitR_no (n := n) (g := g) (xs := xs) (t := a) (m := m) (fun h => ht ⟨h.2.1, by have := h.2.2.1; omega⟩))
      go_enter Try.func40, Try.ntmps40
      go_wp2_with fail
      refine (HW.out _ _ (HV.out.below HX.out.below)).mono ?_
      rintro e w1 ⟨rfl, hb⟩
      have HX1 := Lib.hid (HX.out.next hb)
      clear hb
      rw [HWB.out]
      go_wp2_with fail
      refine (HI1.out _).mono ?_
      rintro e w' ⟨rfl, rfl⟩
      rw [HB1.out]
      have HO := Lib.hid (fun (w2 : World) (h : Boxed w.heap.size n g w w2) => made_at w2 (w.heap.size + 1) w2.heap.size rfl (Nat.succ_le_of_lt h.size))
      go_wp2_with fail
      go_ret2
      exact owns_R (zs := []) (b := false) HR.out (owns_out (HX1.out.next (below_new _ _)) (HO.out _ HX1.out))
end Go.Proofs.Ytiokgnabiidlbaa
