/-
  What is proved: the contract of spec.SweepWalk. Conditions: none.
-/
import Derived.Test.YtiokgnabiidlbaaFn20
import Derived.Test.YtiokgnabiidlbaaFn13
namespace Go.Proofs.Ytiokgnabiidlbaa
open Go.RowKit
set_option linter.unusedVariables false
set_option linter.unusedSimpArgs false

/-- the walk that SweepWalk answers -/
def sweepL (n : Int) (g : Bool) (a : Int) : List Int :=
  if g then wlk (posC n g a 1) (n - 1).toNat
  else if a ≤ n - 1 - a then wlk (posC n g a (-1)) a.toNat ++ (wlk (posC n g 0 1) (n - 1).toNat).drop 1
  else wlk (posC n g a 1) (n - 1 - a).toNat ++ (wlk (posC n g (n - 1) (-1)) (n - 1).toNat).drop 1
def sweepR (n : Int) (g : Bool) (a : Int) : List Int × Bool := if placeB n g a then (sweepL n g a, true) else ([], false)
theorem sweepR_no {n : Int} {g : Bool} {a : Int} (h : placeB n g a = false) : sweepR n g a = ([], false) := by
  unfold sweepR
  rw [h]
  rfl
theorem sweepR_yes {n : Int} {g : Bool} {a : Int} (h : placeB n g a = true) : sweepR n g a = (sweepL n g a, true) := by
  unfold sweepR
  rw [h]
  rfl
theorem sweepR_len (n : Int) (g : Bool) (a : Int) : (sweepR n g a).1.length ≤ 1048576 := by
  cases hp : placeB n g a
  · rw [sweepR_no hp]
    simp
  · rw [sweepR_yes hp]
    have h3 := (placeB_iff n g a).1 hp
    have h5 := (roadB_iff n g).1 h3.1
    unfold sweepL
    split
    · rw [wlk_len]; omega
    · split
      · rw [List.length_append, List.length_drop, wlk_len, wlk_len]; omega
      · rw [List.length_append, List.length_drop, wlk_len, wlk_len]; omega
theorem l2Go_int (n : Int) (g : Bool) (a d m : Int) (w : World) (hn : 2 ≤ n ∧ n ≤ 24) (ha : 0 ≤ a ∧ a < n) (hd : d = 1 ∨ d = -1) (hm : 0 ≤ m ∧ m ≤ 60) :
    Calls Try.prog 79 #[rd n g, .int .i64 a, .int .i64 d, .int .i64 m] w (OwnsI w.heap.size (wlk (posC n g a d) m.toNat) w) := by
  have h := l2Go_any n g a d m.toNat w hn ha hd (by omega)
  rw [Int.toNat_of_nonneg hm.1] at h
  exact h
set_option maxHeartbeats 3200000 in
set_option maxRecDepth 20000 in
theorem spec_SweepWalk (n : Int) (g : Bool) (a : Int) (w : World) :
    Calls Try.prog 34 #[rd n g, .int .i64 a] w (OwnsB w.heap.size (sweepR n g a).1 (sweepR n g a).2 w) := by
  obtain ⟨i0, hi, hz0, hz1, hz2⟩ := info_parts infoInt
  have HP := Lib.hid (fun p w => l2Place_any n g p w)
  have HG := Lib.hid (fun a d m w hn ha hd hm => l2Go_int n g a d m w hn ha hd hm)
  have HX0 := Lib.hid (Boxed.first w n g 25)
  unfold rd at *
  cases hpa : placeB n g a
  · have HR := Lib.hid (sweepR_no hpa)
    have HPA := Lib.hid hpa
    clear hpa
    go_enter Try.func34, Try.ntmps34
    go_wp2_with fail
    refine (HP.out a _).mono ?_
    rintro e w1 ⟨rfl, hb⟩
    have HX1 := Lib.hid (HX0.out.next hb)
    have HO := Lib.hid (made_at w1 (w.heap.size + 1) w1.heap.size rfl (Nat.succ_le_of_lt HX1.out.size))
    clear hb HX0
    rw [HPA.out]
    go_wp2_with fail
    go_ret2
    exact owns_R (zs := []) (b := false) HR.out (owns_out (HX1.out.next (below_new _ _)) HO.out)
  · have h3 := (placeB_iff n g a).1 hpa
    have h5 := (roadB_iff n g).1 h3.1
    have hn := And.intro h5.1 h5.2.1
    have ha := h3.2
    have HR := Lib.hid (sweepR_yes hpa)
    have HPA := Lib.hid hpa
    clear hpa h3 h5
    have hw1 : IntKind.i64.wrap (n - 1) = n - 1 := IntWalk.i64_in _ (by omega)
    have hw2 : IntKind.i64.wrap (n - 1 - a) = n - 1 - a := IntWalk.i64_in _ (by omega)
    cases g
    · by_cases hle : a ≤ n - 1 - a
      · generalize hxs : wlk (posC n false a (-1)) a.toNat = xs at *
        generalize hys : wlk (posC n false 0 1) (n - 1).toNat = ys at *
        have HR := Lib.hid (show sweepR n false a = (xs ++ ys.drop 1, true) from by rw [HR.out]; unfold sweepL; rw [if_neg (by simp), if_pos hle, hxs, hys])
        have hlx : xs.length ≤ 30 := by rw [← hxs, wlk_len]; omega
        have hly : ys.length ≤ 30 := by rw [← hys, wlk_len]; omega
        have hly2 : 2 ≤ ys.length := by rw [← hys, wlk_len]; omega
        have HG1 := Lib.hid (fun w => hxs ▸ HG.out a (-1) a w hn ha (Or.inr rfl) (by omega))
        have HG2 := Lib.hid (fun w => hys ▸ HG.out 0 1 (n - 1) w hn (by omega) (Or.inl rfl) (by omega))
        have hi8 : ys ≠ [] := by intro h; rw [h] at hly2; simp at hly2
        have hi10 : (1 : Int) ≤ (ys.length : Int) := by omega
        clear hxs hys
        go_enter Try.func34, Try.ntmps34
        go_wp2_with fail
        refine (HP.out a _).mono ?_
        rintro e w1 ⟨rfl, hb⟩
        have HX := Lib.hid (HX0.out.next hb)
        have h0 := HX.out.c0
        have h1 := HX.out.c1
        clear hb HX0
        rw [HPA.out]
        go_wp2_with fail
        refine wp_region_noPanic ?_
        refine wp_region_held_drew (S := fun w' => Boxed w.heap.size n false w w' ∧ w'.cell? ⟨w.heap.size, 0, none⟩ = some (.int .i64 n) ∧ w'.cell? ⟨w.heap.size, 1, none⟩ = some (.bool false)) (by kernel_rfl) (keep2_new HX.out) (fun hHeld => ?_)
        refine wpAnyH_take (i := 0) (oi := _) (v := ?_) rfl (by kernel_rfl) (by kernel_rfl) (by kernel_rfl) (fun _ _ _ h => h) (Or.inl ⟨by rfl, ?_⟩) (by assumption) ?_
        rotate_left
        · (intro w hSw; (try dsimp only at hSw); (first | (go_simp; done) | (go_simp; with_reducible rfl)))
        simp only [Act.put, List.getElem_toArray, List.getElem_cons_succ, List.getElem_cons_zero, List.setIfInBounds_toArray, List.set_cons_zero, List.set_cons_succ]
        refine wpAnyH_take (i := 1) (oi := _) (v := ?_) rfl (by kernel_rfl) (by kernel_rfl) (by kernel_rfl) (fun _ _ _ h => h) (Or.inl ⟨by rfl, ?_⟩) (by assumption) ?_
        rotate_left
        · (intro w hSw; (try dsimp only at hSw); (first | (go_simp; done) | (go_simp; with_reducible rfl)))
        simp only [Act.put, List.getElem_toArray, List.getElem_cons_succ, List.getElem_cons_zero, List.setIfInBounds_toArray, List.set_cons_zero, List.set_cons_succ]
        refine wpAnyH_take (i := 2) (oi := _) (v := ?_) rfl (by kernel_rfl) (by kernel_rfl) (by kernel_rfl) (fun _ _ _ h => h) (Or.inl ⟨by rfl, ?_⟩) (by assumption) ?_
        rotate_left
        · (intro w hSw; (try dsimp only at hSw); (first | (go_simp; done) | (go_simp; with_reducible rfl)))
        simp only [Act.put, List.getElem_toArray, List.getElem_cons_succ, List.getElem_cons_zero, List.setIfInBounds_toArray, List.set_cons_zero, List.set_cons_succ]
        refine wpAnyH_take (i := 4) (oi := _) (v := ?_) rfl (by kernel_rfl) (by kernel_rfl) (by kernel_rfl) (fun _ _ _ h => h) (Or.inl ⟨by rfl, ?_⟩) (by assumption) ?_
        rotate_left
        · (intro w hSw; (try dsimp only at hSw); (first | (go_simp; done) | (go_simp; with_reducible rfl)))
        simp only [Act.put, List.getElem_toArray, List.getElem_cons_succ, List.getElem_cons_zero, List.setIfInBounds_toArray, List.set_cons_zero, List.set_cons_succ]
        refine wpAnyH_take (i := 5) (oi := _) (v := ?_) rfl (by kernel_rfl) (by kernel_rfl) (by kernel_rfl) (fun _ _ _ h => h) (Or.inl ⟨by rfl, ?_⟩) (by assumption) ?_
        rotate_left
        · (intro w hSw; (try dsimp only at hSw); (first | (go_simp; done) | (go_simp; with_reducible rfl)))
        simp only [Act.put, List.getElem_toArray, List.getElem_cons_succ, List.getElem_cons_zero, List.setIfInBounds_toArray, List.set_cons_zero, List.set_cons_succ]
        refine wpAnyH_take (i := 6) (oi := _) (v := ?_) rfl (by kernel_rfl) (by kernel_rfl) (by kernel_rfl) (fun _ _ _ h => h) (Or.inl ⟨by rfl, ?_⟩) (by assumption) ?_
        rotate_left
        · (intro w hSw; (try dsimp only at hSw); (first | (go_simp; done) | (go_simp; with_reducible rfl)))
        simp only [Act.put, List.getElem_toArray, List.getElem_cons_succ, List.getElem_cons_zero, List.setIfInBounds_toArray, List.set_cons_zero, List.set_cons_succ]
        refine wpAnyH_take (i := 7) (oi := _) (v := ?_) rfl (by kernel_rfl) (by kernel_rfl) (by kernel_rfl) (fun _ _ _ h => h) (Or.inl ⟨by rfl, ?_⟩) (by assumption) ?_
        rotate_left
        · (intro w hSw; (try dsimp only at hSw); (first | (go_simp; done) | (go_simp; with_reducible rfl)))
        simp only [Act.put, List.getElem_toArray, List.getElem_cons_succ, List.getElem_cons_zero, List.setIfInBounds_toArray, List.set_cons_zero, List.set_cons_succ]
        refine wpAnyH_ready (rs := [3]) (by kernel_rfl) (by simp) ?_
        refine AllReadyH.cons rfl (fun K hK => ?_) AllReadyH.nil
        go_simp
        have hW9 := hHeld.1.size
        refine (HG1.out _).mono ?_
        rintro e w3 ⟨v3, rfl, ho, hb⟩
        have hS := keep2 hHeld hb
        have HO3 := Lib.hid (owns_lower ho (Nat.succ_le_of_lt hW9))
        clear hb hHeld ho hW9
        go_wp2_with fail
        refine hK.out _ _ (hS) (fun hHeld => ?_)
        clear hK K
        refine wpAnyH_ready (rs := [8]) (by kernel_rfl) (by simp) ?_
        refine AllReadyH.cons rfl (fun K hK => ?_) AllReadyH.nil
        go_simp
        have hW9 := hHeld.1.size
        refine (HG2.out _).mono ?_
        rintro e w4 ⟨v4, rfl, ho, hb⟩
        have hS := keep2 hHeld hb
        obtain ⟨y, c, hvv, hc, _, hx⟩ := owns_reads ho (by unfold maxLen; omega)
        obtain ⟨z, hzk⟩ := get_some (xs := ys) (k := 0) (by omega)
        obtain ⟨b2, o2, hyy, _, _⟩ := hx 0 z hzk
        subst hvv hyy
        have HL2 := Lib.hid hx
        have hc1 : ¬ c = 1 := by omega
        have HO4 := Lib.hid (owns_below HO3.out hb)
        clear hb hHeld ho hW9 hx hzk HO3
        go_wp2_with fail
        refine hK.out _ _ (hS) (fun hHeld => ?_)
        clear hK K
        refine wpAnyH_take (i := 9) (oi := _) (v := ?_) rfl (by kernel_rfl) (by kernel_rfl) (by kernel_rfl) (fun _ _ _ h => h) (Or.inl ⟨by rfl, ?_⟩) (by assumption) ?_
        rotate_left
        · (intro w hSw; (try dsimp only at hSw); (first | (go_simp; done) | (go_simp; with_reducible rfl)))
        simp only [Act.put, List.getElem_toArray, List.getElem_cons_succ, List.getElem_cons_zero, List.setIfInBounds_toArray, List.set_cons_zero, List.set_cons_succ]
        refine wpAnyH_ready (rs := [10]) (by kernel_rfl) (by simp) ?_
        refine AllReadyH.cons rfl (fun K hK => ?_) AllReadyH.nil
        have hW9 := hHeld.1.size
        refine step_append_any (by rfl) _ _ _ (by rfl) (w.heap.size + 1) 3 i0 (.int .i64 0) 1 8 Try.underlying26 hi hz0 hz1 hz2 rfl (by decide) _ _ _ (by rfl) HO4.out ⟨b2, o2 + 1, none⟩ (ys.length - 1) (c - 1) ((ys.drop 1).map iv) ?e2 ?c1 (cells_list (fun i z hz => by rw [List.getElem?_drop] at hz; obtain ⟨b9, o9, e9, hl9, hc9⟩ := HL2.out _ z hz; cases e9; rw [show o2 + 1 + i = o2 + (1 + i) by omega]; exact hc9)) ?c2 ?c3 ?c4 ?c5 ?_
        case e2 => rfl
        case c1 => simp
        case c2 => intro u hu; simp only [List.mem_map] at hu; obtain ⟨z, _, rfl⟩ := hu; rfl
        case c3 => unfold maxLen; omega
        case c4 => omega
        case c5 => exact Nat.succ_le_of_lt hW9
        intro v5 w5 hown' hgrow
        have hS := keep2_grown hHeld hgrow (fun b hb => (owns_block HO4.out b hb).1)
        have HO5 := Lib.hid (show w5.ownsRow (w.heap.size + 1) 3 1 v5 (xs ++ ys.drop 1).length ((xs ++ ys.drop 1).map iv) from by rw [List.length_append, List.length_drop, List.map_append]; exact hown')
        clear hgrow hown' hHeld hW9
        refine hK.out _ _ (hS) (fun hHeld => ?_)
        clear hK K
        refine wpAnyH_take (i := 11) (oi := _) (v := ?_) rfl (by kernel_rfl) (by kernel_rfl) (by kernel_rfl) (fun _ _ _ h => h) (Or.inl ⟨by rfl, ?_⟩) (by assumption) ?_
        rotate_left
        · (intro w hSw; (try dsimp only at hSw); (first | (go_simp; done) | (go_simp; with_reducible rfl)))
        simp only [Act.put, List.getElem_toArray, List.getElem_cons_succ, List.getElem_cons_zero, List.setIfInBounds_toArray, List.set_cons_zero, List.set_cons_succ]
        refine wpAnyH_take (i := 12) (oi := _) (v := ?_) rfl (by kernel_rfl) (by kernel_rfl) (by kernel_rfl) (fun _ _ _ h => h) (Or.inl ⟨by rfl, ?_⟩) (by assumption) ?_
        rotate_left
        · (intro w hSw; (try dsimp only at hSw); (first | (go_simp; done) | (go_simp; with_reducible rfl)))
        simp only [Act.put, List.getElem_toArray, List.getElem_cons_succ, List.getElem_cons_zero, List.setIfInBounds_toArray, List.set_cons_zero, List.set_cons_succ]
        refine wpAnyH_done (by kernel_rfl) ?_ _
        refine NoPanic.normal ?_
        have HZ9 := Lib.hid hHeld.1
        clear hHeld
        go_wp2_with fail
        go_ret2
        exact owns_R (zs := xs ++ ys.drop 1) (b := true) HR.out (owns_out HZ9.out HO5.out)
      · generalize hxs : wlk (posC n false a 1) (n - 1 - a).toNat = xs at *
        generalize hys : wlk (posC n false (n - 1) (-1)) (n - 1).toNat = ys at *
        have HR := Lib.hid (show sweepR n false a = (xs ++ ys.drop 1, true) from by rw [HR.out]; unfold sweepL; rw [if_neg (by simp), if_neg hle, hxs, hys])
        have hlx : xs.length ≤ 30 := by rw [← hxs, wlk_len]; omega
        have hly : ys.length ≤ 30 := by rw [← hys, wlk_len]; omega
        have hly2 : 2 ≤ ys.length := by rw [← hys, wlk_len]; omega
        have HG1 := Lib.hid (fun w => hxs ▸ HG.out a 1 (n - 1 - a) w hn ha (Or.inl rfl) (by omega))
        have HG2 := Lib.hid (fun w => hys ▸ HG.out (n - 1) (-1) (n - 1) w hn (by omega) (Or.inr rfl) (by omega))
        have hi8 : ys ≠ [] := by intro h; rw [h] at hly2; simp at hly2
        have hi10 : (1 : Int) ≤ (ys.length : Int) := by omega
        clear hxs hys
        go_enter Try.func34, Try.ntmps34
        go_wp2_with fail
        refine (HP.out a _).mono ?_
        rintro e w1 ⟨rfl, hb⟩
        have HX := Lib.hid (HX0.out.next hb)
        have h0 := HX.out.c0
        have h1 := HX.out.c1
        clear hb HX0
        rw [HPA.out]
        go_wp2_with fail
        refine wp_region_noPanic ?_
        refine wp_region_held_drew (S := fun w' => Boxed w.heap.size n false w w' ∧ w'.cell? ⟨w.heap.size, 0, none⟩ = some (.int .i64 n) ∧ w'.cell? ⟨w.heap.size, 1, none⟩ = some (.bool false)) (by kernel_rfl) (keep2_new HX.out) (fun hHeld => ?_)
        refine wpAnyH_take (i := 0) (oi := _) (v := ?_) rfl (by kernel_rfl) (by kernel_rfl) (by kernel_rfl) (fun _ _ _ h => h) (Or.inl ⟨by rfl, ?_⟩) (by assumption) ?_
        rotate_left
        · (intro w hSw; (try dsimp only at hSw); (first | (go_simp; done) | (go_simp; with_reducible rfl)))
        simp only [Act.put, List.getElem_toArray, List.getElem_cons_succ, List.getElem_cons_zero, List.setIfInBounds_toArray, List.set_cons_zero, List.set_cons_succ]
        refine wpAnyH_take (i := 1) (oi := _) (v := ?_) rfl (by kernel_rfl) (by kernel_rfl) (by kernel_rfl) (fun _ _ _ h => h) (Or.inl ⟨by rfl, ?_⟩) (by assumption) ?_
        rotate_left
        · (intro w hSw; (try dsimp only at hSw); (first | (go_simp; done) | (go_simp; with_reducible rfl)))
        simp only [Act.put, List.getElem_toArray, List.getElem_cons_succ, List.getElem_cons_zero, List.setIfInBounds_toArray, List.set_cons_zero, List.set_cons_succ]
        refine wpAnyH_take (i := 2) (oi := _) (v := ?_) rfl (by kernel_rfl) (by kernel_rfl) (by kernel_rfl) (fun _ _ _ h => h) (Or.inl ⟨by rfl, ?_⟩) (by assumption) ?_
        rotate_left
        · (intro w hSw; (try dsimp only at hSw); (first | (go_simp; done) | (go_simp; with_reducible rfl)))
        simp only [Act.put, List.getElem_toArray, List.getElem_cons_succ, List.getElem_cons_zero, List.setIfInBounds_toArray, List.set_cons_zero, List.set_cons_succ]
        refine wpAnyH_take (i := 3) (oi := _) (v := ?_) rfl (by kernel_rfl) (by kernel_rfl) (by kernel_rfl) (fun _ _ _ h => h) (Or.inl ⟨by rfl, ?_⟩) (by assumption) ?_
        rotate_left
        · (intro w hSw; (try dsimp only at hSw); (first | (go_simp; done) | (go_simp; with_reducible rfl)))
        simp only [Act.put, List.getElem_toArray, List.getElem_cons_succ, List.getElem_cons_zero, List.setIfInBounds_toArray, List.set_cons_zero, List.set_cons_succ]
        refine wpAnyH_take (i := 4) (oi := _) (v := ?_) rfl (by kernel_rfl) (by kernel_rfl) (by kernel_rfl) (fun _ _ _ h => h) (Or.inl ⟨by rfl, ?_⟩) (by assumption) ?_
        rotate_left
        · (intro w hSw; (try dsimp only at hSw); (first | (go_simp; done) | (go_simp; with_reducible rfl)))
        simp only [Act.put, List.getElem_toArray, List.getElem_cons_succ, List.getElem_cons_zero, List.setIfInBounds_toArray, List.set_cons_zero, List.set_cons_succ]
        refine wpAnyH_take (i := 5) (oi := _) (v := ?_) rfl (by kernel_rfl) (by kernel_rfl) (by kernel_rfl) (fun _ _ _ h => h) (Or.inl ⟨by rfl, ?_⟩) (by assumption) ?_
        rotate_left
        · (intro w hSw; (try dsimp only at hSw); (first | (go_simp; done) | (go_simp; with_reducible rfl)))
        simp only [Act.put, List.getElem_toArray, List.getElem_cons_succ, List.getElem_cons_zero, List.setIfInBounds_toArray, List.set_cons_zero, List.set_cons_succ]
        refine wpAnyH_take (i := 6) (oi := _) (v := ?_) rfl (by kernel_rfl) (by kernel_rfl) (by kernel_rfl) (fun _ _ _ h => h) (Or.inl ⟨by rfl, ?_⟩) (by assumption) ?_
        rotate_left
        · (intro w hSw; (try dsimp only at hSw); (first | (go_simp; done) | (go_simp; with_reducible rfl)))
        simp only [Act.put, List.getElem_toArray, List.getElem_cons_succ, List.getElem_cons_zero, List.setIfInBounds_toArray, List.set_cons_zero, List.set_cons_succ]
        refine wpAnyH_take (i := 8) (oi := _) (v := ?_) rfl (by kernel_rfl) (by kernel_rfl) (by kernel_rfl) (fun _ _ _ h => h) (Or.inl ⟨by rfl, ?_⟩) (by assumption) ?_
        rotate_left
        · (intro w hSw; (try dsimp only at hSw); (first | (go_simp; done) | (go_simp; with_reducible rfl)))
        simp only [Act.put, List.getElem_toArray, List.getElem_cons_succ, List.getElem_cons_zero, List.setIfInBounds_toArray, List.set_cons_zero, List.set_cons_succ]
        refine wpAnyH_take (i := 9) (oi := _) (v := ?_) rfl (by kernel_rfl) (by kernel_rfl) (by kernel_rfl) (fun _ _ _ h => h) (Or.inl ⟨by rfl, ?_⟩) (by assumption) ?_
        rotate_left
        · (intro w hSw; (try dsimp only at hSw); (first | (go_simp; done) | (go_simp; with_reducible rfl)))
        simp only [Act.put, List.getElem_toArray, List.getElem_cons_succ, List.getElem_cons_zero, List.setIfInBounds_toArray, List.set_cons_zero, List.set_cons_succ]
        refine wpAnyH_take (i := 10) (oi := _) (v := ?_) rfl (by kernel_rfl) (by kernel_rfl) (by kernel_rfl) (fun _ _ _ h => h) (Or.inl ⟨by rfl, ?_⟩) (by assumption) ?_
        rotate_left
        · (intro w hSw; (try dsimp only at hSw); (first | (go_simp; done) | (go_simp; with_reducible rfl)))
        simp only [Act.put, List.getElem_toArray, List.getElem_cons_succ, List.getElem_cons_zero, List.setIfInBounds_toArray, List.set_cons_zero, List.set_cons_succ]
        refine wpAnyH_take (i := 11) (oi := _) (v := ?_) rfl (by kernel_rfl) (by kernel_rfl) (by kernel_rfl) (fun _ _ _ h => h) (Or.inl ⟨by rfl, ?_⟩) (by assumption) ?_
        rotate_left
        · (intro w hSw; (try dsimp only at hSw); (first | (go_simp; done) | (go_simp; with_reducible rfl)))
        simp only [Act.put, List.getElem_toArray, List.getElem_cons_succ, List.getElem_cons_zero, List.setIfInBounds_toArray, List.set_cons_zero, List.set_cons_succ]
        refine wpAnyH_take (i := 12) (oi := _) (v := ?_) rfl (by kernel_rfl) (by kernel_rfl) (by kernel_rfl) (fun _ _ _ h => h) (Or.inl ⟨by rfl, ?_⟩) (by assumption) ?_
        rotate_left
        · (intro w hSw; (try dsimp only at hSw); (first | (go_simp; done) | (go_simp; with_reducible rfl)))
        simp only [Act.put, List.getElem_toArray, List.getElem_cons_succ, List.getElem_cons_zero, List.setIfInBounds_toArray, List.set_cons_zero, List.set_cons_succ]
        refine wpAnyH_take (i := 13) (oi := _) (v := ?_) rfl (by kernel_rfl) (by kernel_rfl) (by kernel_rfl) (fun _ _ _ h => h) (Or.inl ⟨by rfl, ?_⟩) (by assumption) ?_
        rotate_left
        · (intro w hSw; (try dsimp only at hSw); (first | (go_simp; done) | (go_simp; with_reducible rfl)))
        simp only [Act.put, List.getElem_toArray, List.getElem_cons_succ, List.getElem_cons_zero, List.setIfInBounds_toArray, List.set_cons_zero, List.set_cons_succ]
        refine wpAnyH_take (i := 14) (oi := _) (v := ?_) rfl (by kernel_rfl) (by kernel_rfl) (by kernel_rfl) (fun _ _ _ h => h) (Or.inl ⟨by rfl, ?_⟩) (by assumption) ?_
        rotate_left
        · (intro w hSw; (try dsimp only at hSw); (first | (go_simp; done) | (go_simp; with_reducible rfl)))
        simp only [Act.put, List.getElem_toArray, List.getElem_cons_succ, List.getElem_cons_zero, List.setIfInBounds_toArray, List.set_cons_zero, List.set_cons_succ]
        refine wpAnyH_ready (rs := [7]) (by kernel_rfl) (by simp) ?_
        refine AllReadyH.cons rfl (fun K hK => ?_) AllReadyH.nil
        go_simp
        have hW9 := hHeld.1.size
        refine (HG1.out _).mono ?_
        rintro e w3 ⟨v3, rfl, ho, hb⟩
        have hS := keep2 hHeld hb
        have HO3 := Lib.hid (owns_lower ho (Nat.succ_le_of_lt hW9))
        clear hb hHeld ho hW9
        go_wp2_with fail
        refine hK.out _ _ (hS) (fun hHeld => ?_)
        clear hK K
        refine wpAnyH_ready (rs := [15]) (by kernel_rfl) (by simp) ?_
        refine AllReadyH.cons rfl (fun K hK => ?_) AllReadyH.nil
        go_simp
        have hW9 := hHeld.1.size
        refine (HG2.out _).mono ?_
        rintro e w4 ⟨v4, rfl, ho, hb⟩
        have hS := keep2 hHeld hb
        obtain ⟨y, c, hvv, hc, _, hx⟩ := owns_reads ho (by unfold maxLen; omega)
        obtain ⟨z, hzk⟩ := get_some (xs := ys) (k := 0) (by omega)
        obtain ⟨b2, o2, hyy, _, _⟩ := hx 0 z hzk
        subst hvv hyy
        have HL2 := Lib.hid hx
        have hc1 : ¬ c = 1 := by omega
        have HO4 := Lib.hid (owns_below HO3.out hb)
        clear hb hHeld ho hW9 hx hzk HO3
        go_wp2_with fail
        refine hK.out _ _ (hS) (fun hHeld => ?_)
        clear hK K
        refine wpAnyH_take (i := 16) (oi := _) (v := ?_) rfl (by kernel_rfl) (by kernel_rfl) (by kernel_rfl) (fun _ _ _ h => h) (Or.inl ⟨by rfl, ?_⟩) (by assumption) ?_
        rotate_left
        · (intro w hSw; (try dsimp only at hSw); (first | (go_simp; done) | (go_simp; with_reducible rfl)))
        simp only [Act.put, List.getElem_toArray, List.getElem_cons_succ, List.getElem_cons_zero, List.setIfInBounds_toArray, List.set_cons_zero, List.set_cons_succ]
        refine wpAnyH_ready (rs := [17]) (by kernel_rfl) (by simp) ?_
        refine AllReadyH.cons rfl (fun K hK => ?_) AllReadyH.nil
        have hW9 := hHeld.1.size
        refine step_append_any (by rfl) _ _ _ (by rfl) (w.heap.size + 1) 3 i0 (.int .i64 0) 1 8 Try.underlying26 hi hz0 hz1 hz2 rfl (by decide) _ _ _ (by rfl) HO4.out ⟨b2, o2 + 1, none⟩ (ys.length - 1) (c - 1) ((ys.drop 1).map iv) ?e2 ?c1 (cells_list (fun i z hz => by rw [List.getElem?_drop] at hz; obtain ⟨b9, o9, e9, hl9, hc9⟩ := HL2.out _ z hz; cases e9; rw [show o2 + 1 + i = o2 + (1 + i) by omega]; exact hc9)) ?c2 ?c3 ?c4 ?c5 ?_
        case e2 => rfl
        case c1 => simp
        case c2 => intro u hu; simp only [List.mem_map] at hu; obtain ⟨z, _, rfl⟩ := hu; rfl
        case c3 => unfold maxLen; omega
        case c4 => omega
        case c5 => exact Nat.succ_le_of_lt hW9
        intro v5 w5 hown' hgrow
        have hS := keep2_grown hHeld hgrow (fun b hb => (owns_block HO4.out b hb).1)
        have HO5 := Lib.hid (show w5.ownsRow (w.heap.size + 1) 3 1 v5 (xs ++ ys.drop 1).length ((xs ++ ys.drop 1).map iv) from by rw [List.length_append, List.length_drop, List.map_append]; exact hown')
        clear hgrow hown' hHeld hW9
        refine hK.out _ _ (hS) (fun hHeld => ?_)
        clear hK K
        refine wpAnyH_take (i := 18) (oi := _) (v := ?_) rfl (by kernel_rfl) (by kernel_rfl) (by kernel_rfl) (fun _ _ _ h => h) (Or.inl ⟨by rfl, ?_⟩) (by assumption) ?_
        rotate_left
        · (intro w hSw; (try dsimp only at hSw); (first | (go_simp; done) | (go_simp; with_reducible rfl)))
        simp only [Act.put, List.getElem_toArray, List.getElem_cons_succ, List.getElem_cons_zero, List.setIfInBounds_toArray, List.set_cons_zero, List.set_cons_succ]
        refine wpAnyH_take (i := 19) (oi := _) (v := ?_) rfl (by kernel_rfl) (by kernel_rfl) (by kernel_rfl) (fun _ _ _ h => h) (Or.inl ⟨by rfl, ?_⟩) (by assumption) ?_
        rotate_left
        · (intro w hSw; (try dsimp only at hSw); (first | (go_simp; done) | (go_simp; with_reducible rfl)))
        simp only [Act.put, List.getElem_toArray, List.getElem_cons_succ, List.getElem_cons_zero, List.setIfInBounds_toArray, List.set_cons_zero, List.set_cons_succ]
        refine wpAnyH_done (by kernel_rfl) ?_ _
        refine NoPanic.normal ?_
        have HZ9 := Lib.hid hHeld.1
        clear hHeld
        go_wp2_with fail
        go_ret2
        exact owns_R (zs := xs ++ ys.drop 1) (b := true) HR.out (owns_out HZ9.out HO5.out)
    · have HG1 := Lib.hid (fun w => HG.out a 1 (n - 1) w hn ha (Or.inl rfl) (by omega))
      have HRR := Lib.hid (show sweepR n true a = (wlk (posC n true a 1) (n - 1).toNat, true) from by rw [HR.out]; unfold sweepL; rw [if_pos rfl])
      go_enter Try.func34, Try.ntmps34
      go_wp2_with fail
      refine (HP.out a _).mono ?_
      rintro e w1 ⟨rfl, hb⟩
      have HX := Lib.hid (HX0.out.next hb)
      have h0 := HX.out.c0
      have h1 := HX.out.c1
      clear hb HX0
      rw [HPA.out]
      go_wp2_with fail
      refine (HG1.out _).mono ?_
      rintro e w3 ⟨u, rfl, ho, hb⟩
      have HX3 := Lib.hid (HX.out.next hb)
      have HO := Lib.hid (owns_lower ho (Nat.le_of_lt HX.out.size))
      clear hb ho
      go_wp2_with fail
      go_ret2
      rw [HRR.out]
      exact ⟨u, rfl, HO.out, HX3.out.below⟩
end Go.Proofs.Ytiokgnabiidlbaa
