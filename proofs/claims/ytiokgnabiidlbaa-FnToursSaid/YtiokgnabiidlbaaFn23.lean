/-
  What is proved: the contract of impl.SweepWalk. Conditions: none.
-/
import Derived.Test.YtiokgnabiidlbaaFn21
import Derived.Test.YtiokgnabiidlbaaFn22
namespace Go.Proofs.Ytiokgnabiidlbaa
open Go.RowKit
set_option linter.unusedVariables false
set_option linter.unusedSimpArgs false

theorem wlk_walk {n : Int} {g : Bool} {f : Nat → Int} {m : Nat} (hr : roadB n g = true) (hm : m ≤ 60) (hin : ∀ k, k ≤ m → 0 ≤ f k ∧ f k < n) (hst : ∀ k, k < m → afterI n g (f k) = f (k + 1) ∨ beforeI n g (f k) = f (k + 1)) : Walk n g (wlk f m) := by
  refine ⟨hr, by rw [wlk_len]; omega, by rw [wlk_len]; omega, fun k p hk => ?_, fun k p q hp hq => ?_⟩
  · have hl : k < (wlk f m).length := (List.getElem?_eq_some_iff.1 hk).1
    rw [wlk_len] at hl
    rw [wlk_at f m k (by omega)] at hk
    cases hk
    exact hin k (by omega)
  · have hl : k + 1 < (wlk f m).length := (List.getElem?_eq_some_iff.1 hq).1
    rw [wlk_len] at hl
    rw [wlk_at f m k (by omega)] at hp
    rw [wlk_at f m (k + 1) (by omega)] at hq
    cases hp
    cases hq
    exact (head_gap n g _ _ hr (hin k (by omega)) (hin (k + 1) (by omega))).1 (Or.inl ((head_snd n g _ _).2 (hst k (by omega))))
set_option maxHeartbeats 3200000 in
set_option maxRecDepth 20000 in
theorem impl_SweepWalk (n : Int) (g : Bool) (a : Int) (w : World) :
    Calls Try.prog 33 #[rd n g, .int .i64 a] w (OwnsB w.heap.size (sweepR n g a).1 (sweepR n g a).2 w) := by
  have HP := Lib.hid (fun v w hv => arePlaces_one n g a v w hv)
  have HX0 := Lib.hid (Boxed.first w n g 25)
  cases hpa : placeB n g a
  · have HR := Lib.hid (sweepR_no hpa)
    have HPA := Lib.hid hpa
    clear hpa
    unfold rd at *
    go_enter Try.func33, Try.ntmps33
    go_wp2_with fail
    refine (HP.out _ _ (ints_one_at _ (by simp))).mono ?_
    rintro e w1 ⟨rfl, hb⟩
    have HX := Lib.hid ((HX0.out.next (below_new _ _)).next hb)
    have HO := Lib.hid (made_at w1 (w.heap.size + 1) w1.heap.size rfl (Nat.succ_le_of_lt HX.out.size))
    clear hb HX0
    rw [HPA.out]
    go_wp2_with fail
    go_ret2
    exact owns_R (zs := []) (b := false) HR.out (owns_out (HX.out.next (below_new _ _)) HO.out)
  · have h3 := (placeB_iff n g a).1 hpa
    have hrd := h3.1
    have h5 := (roadB_iff n g).1 h3.1
    have hn := And.intro h5.1 h5.2.1
    have ha := h3.2
    have HR0 := Lib.hid (sweepR_yes hpa)
    have HPA := Lib.hid hpa
    clear hpa h3 h5
    have hw1 : IntKind.i64.wrap (n - 1) = n - 1 := IntWalk.i64_in _ (by omega)
    have hw2 : IntKind.i64.wrap (n - 1 - a) = n - 1 - a := IntWalk.i64_in _ (by omega)
    cases g
    · by_cases hle : a ≤ n - 1 - a
      · have HWX := Lib.hid (wlk_walk (f := posC n false a (-1)) (m := a.toNat) hrd (by omega) (fun k _ => posC_range hn.1) (fun k hk => Or.inr (by rw [posLd ha, posLd ha]; unfold beforeI; rw [if_neg (by simp)]; push_cast; omega)))
        have HWY := Lib.hid (wlk_walk (f := posC n false 0 1) (m := (n - 1).toNat) hrd (by omega) (fun k _ => posC_range hn.1) (fun k hk => Or.inl (by rw [posLu (by omega), posLu (by omega)]; unfold afterI; rw [if_neg (by simp)]; push_cast; omega)))
        have HG1 := Lib.hid (fun w => walkTo_down n false a 0 (posC n false a (-1)) a.toNat w hn (by omega) (posC_zero ha) (fun k _ => posC_range hn.1) (fun k hk => by rw [posLd ha]; omega) (by rw [posLd ha]; omega) (fun k hk => by rw [posLd ha, posLd ha]; unfold beforeI; rw [if_neg (by simp)]; push_cast; omega))
        have HG2 := Lib.hid (fun w => walkTo_up n false 0 (n - 1) (posC n false 0 1) (n - 1).toNat w hn (by omega) (posC_zero (by omega)) (fun k _ => posC_range hn.1) (fun k hk => by rw [posLu (by omega)]; omega) (by rw [posLu (by omega)]; omega) (fun k hk => by rw [posLu (by omega), posLu (by omega)]; unfold afterI; rw [if_neg (by simp)]; push_cast; omega))
        have hlx : (wlk (posC n false a (-1)) a.toNat).length = a.toNat + 1 := wlk_len _ _
        have hly : (wlk (posC n false 0 1) (n - 1).toNat).length = (n - 1).toNat + 1 := wlk_len _ _
        have hlast : (wlk (posC n false a (-1)) a.toNat)[a.toNat]? = (wlk (posC n false 0 1) (n - 1).toNat)[0]? := by
          rw [wlk_at _ _ _ (Nat.le_refl _), wlk_at _ _ _ (Nat.zero_le _), posLd ha, posLu (by omega)]
          congr 1
          omega
        have HR := Lib.hid (show sweepR n false a = (wlk (posC n false a (-1)) a.toNat ++ (wlk (posC n false 0 1) (n - 1).toNat).drop 1, true) from by rw [HR0.out]; unfold sweepL; rw [if_neg (by simp), if_pos hle])
        generalize wlk (posC n false a (-1)) a.toNat = xs at *
        generalize wlk (posC n false 0 1) (n - 1).toNat = ys at *
        have hjr := joinR_yes ⟨HWX.out, HWY.out, (by rw [hlx]; exact hlast), (by rw [hlx, hly]; omega)⟩
        have HJN := Lib.hid (fun v u w hv hu => show Calls Try.prog 36 #[rd n false, v, u] w (OwnsB w.heap.size (xs ++ ys.drop 1) true w) from by have h := impl_JoinWalks n false v xs u ys w hv hu; rw [hjr] at h; exact h)
        have hlx2 : xs.length ≤ 61 := by omega
        have hly2 : ys.length ≤ 61 := by omega
        clear hlx hly hlast hjr HR0
        unfold rd at *
        go_enter Try.func33, Try.ntmps33
        go_wp2_with fail
        refine (HP.out _ _ (ints_one_at _ (by simp))).mono ?_
        rintro e w1 ⟨rfl, hb⟩
        have HX := Lib.hid ((HX0.out.next (below_new _ _)).next hb)
        have h0 := HX.out.c0
        have h1 := HX.out.c1
        clear hb HX0
        rw [HPA.out]
        go_wp2_with fail
        refine wp_region_noPanic ?_
        refine wp_region_held_drew (S := fun w' => Boxed w.heap.size n false w w' ∧ w'.cell? ⟨w.heap.size, 0, none⟩ = some (.int .i64 n) ∧ w'.cell? ⟨w.heap.size, 1, none⟩ = some (.bool false)) (by kernel_rfl) (keep2_new HX.out) (fun hHeld => ?_)
        refine wpAnyH_take (i := 0) (oi := _) (v := ?_) rfl (by kernel_rfl) (by kernel_rfl) (by kernel_rfl) (fun _ _ _ h => h) (Or.inl ⟨by rfl, ?_⟩) (by assumption) ?_
        rotate_left
        · (intro w hSw; (try dsimp only at hSw); (first | (go_simp; done) | (go_simp; with_reducible rfl)))
        simp only [Act.put, List.getElem_toArray, List.getElem_cons_succ, List.getElem_cons_zero, List.setIfInBounds_toArray, List.set_cons_zero, List.set_cons_succ]
        refine wpAnyH_take (i := 1) (oi := _) (v := ?_) rfl (by kernel_rfl) (by kernel_rfl) (by kernel_rfl) (fun _ _ _ h => h) (Or.inl ⟨by rfl, ?_⟩) (by assumption) ?_
        rotate_left
        · (intro w hSw; (try dsimp only at hSw); (first | (go_simp; done) | (go_simp; with_reducible rfl)))
        simp only [Act.put, List.getElem_toArray, List.getElem_cons_succ, List.getElem_cons_zero, List.setIfInBounds_toArray, List.set_cons_zero, List.set_cons_succ]
        refine wpAnyH_take (i := 2) (oi := _) (v := ?_) rfl (by kernel_rfl) (by kernel_rfl) (by kernel_rfl) (fun _ _ _ h => h) (Or.inl ⟨by rfl, ?_⟩) (by assumption) ?_
        rotate_left
        · (intro w hSw; (try dsimp only at hSw); (first | (go_simp; done) | (go_simp; with_reducible rfl)))
        simp only [Act.put, List.getElem_toArray, List.getElem_cons_succ, List.getElem_cons_zero, List.setIfInBounds_toArray, List.set_cons_zero, List.set_cons_succ]
        refine wpAnyH_take (i := 4) (oi := _) (v := ?_) rfl (by kernel_rfl) (by kernel_rfl) (by kernel_rfl) (fun _ _ _ h => h) (Or.inl ⟨by rfl, ?_⟩) (by assumption) ?_
        rotate_left
        · (intro w hSw; (try dsimp only at hSw); (first | (go_simp; done) | (go_simp; with_reducible rfl)))
        simp only [Act.put, List.getElem_toArray, List.getElem_cons_succ, List.getElem_cons_zero, List.setIfInBounds_toArray, List.set_cons_zero, List.set_cons_succ]
        refine wpAnyH_take (i := 5) (oi := _) (v := ?_) rfl (by kernel_rfl) (by kernel_rfl) (by kernel_rfl) (fun _ _ _ h => h) (Or.inl ⟨by rfl, ?_⟩) (by assumption) ?_
        rotate_left
        · (intro w hSw; (try dsimp only at hSw); (first | (go_simp; done) | (go_simp; with_reducible rfl)))
        simp only [Act.put, List.getElem_toArray, List.getElem_cons_succ, List.getElem_cons_zero, List.setIfInBounds_toArray, List.set_cons_zero, List.set_cons_succ]
        refine wpAnyH_ready (rs := [3]) (by kernel_rfl) (by simp) ?_
        refine AllReadyH.cons rfl (fun K hK => ?_) AllReadyH.nil
        go_simp
        have hW9 := hHeld.1.size
        refine (HG1.out _).mono ?_
        rintro e w3 ⟨v3, rfl, ho, hb⟩
        have hS := keep2 hHeld hb
        have HO3 := Lib.hid (owns_lower ho (Nat.succ_le_of_lt hW9))
        clear hb hHeld ho hW9
        go_wp2_with fail
        refine hK.out _ _ (hS) (fun hHeld => ?_)
        clear hK K
        refine wpAnyH_ready (rs := [6]) (by kernel_rfl) (by simp) ?_
        refine AllReadyH.cons rfl (fun K hK => ?_) AllReadyH.nil
        go_simp
        have hW9 := hHeld.1.size
        refine (HG2.out _).mono ?_
        rintro e w4 ⟨v4, rfl, ho, hb⟩
        have hS := keep2 hHeld hb
        have HO3 := Lib.hid (owns_below HO3.out hb)
        have HO4 := Lib.hid ho
        clear hb hHeld ho hW9
        go_wp2_with fail
        refine hK.out _ _ (hS) (fun hHeld => ?_)
        clear hK K
        refine wpAnyH_ready (rs := [7]) (by kernel_rfl) (by simp) ?_
        refine AllReadyH.cons rfl (fun K hK => ?_) AllReadyH.nil
        go_simp
        have hW9 := hHeld.1.size
        refine (HJN.out v3 v4 _ (owns_reads HO3.out (by unfold maxLen; omega)) (owns_reads HO4.out (by unfold maxLen; omega))).mono ?_
        rintro e w5 ⟨v5, rfl, ho, hb⟩
        have hS := keep2 hHeld hb
        have HO5 := Lib.hid (owns_lower ho (Nat.succ_le_of_lt hW9))
        clear hb hHeld ho hW9
        go_wp2_with fail
        refine hK.out _ _ (hS) (fun hHeld => ?_)
        clear hK K
        refine wpAnyH_take (i := 8) (oi := _) (v := ?_) rfl (by kernel_rfl) (by kernel_rfl) (by kernel_rfl) (fun _ _ _ h => h) (Or.inl ⟨by rfl, ?_⟩) (by assumption) ?_
        rotate_left
        · (intro w hSw; (try dsimp only at hSw); (first | (go_simp; done) | (go_simp; with_reducible rfl)))
        simp only [Act.put, List.getElem_toArray, List.getElem_cons_succ, List.getElem_cons_zero, List.setIfInBounds_toArray, List.set_cons_zero, List.set_cons_succ]
        refine wpAnyH_take (i := 9) (oi := _) (v := ?_) rfl (by kernel_rfl) (by kernel_rfl) (by kernel_rfl) (fun _ _ _ h => h) (Or.inl ⟨by rfl, ?_⟩) (by assumption) ?_
        rotate_left
        · (intro w hSw; (try dsimp only at hSw); (first | (go_simp; done) | (go_simp; with_reducible rfl)))
        simp only [Act.put, List.getElem_toArray, List.getElem_cons_succ, List.getElem_cons_zero, List.setIfInBounds_toArray, List.set_cons_zero, List.set_cons_succ]
        refine wpAnyH_take (i := 10) (oi := _) (v := ?_) rfl (by kernel_rfl) (by kernel_rfl) (by kernel_rfl) (fun _ _ _ h => h) (Or.inl ⟨by rfl, ?_⟩) (by assumption) ?_
        rotate_left
        · (intro w hSw; (try dsimp only at hSw); (first | (go_simp; done) | (go_simp; with_reducible rfl)))
        simp only [Act.put, List.getElem_toArray, List.getElem_cons_succ, List.getElem_cons_zero, List.setIfInBounds_toArray, List.set_cons_zero, List.set_cons_succ]
        refine wpAnyH_take (i := 11) (oi := _) (v := ?_) rfl (by kernel_rfl) (by kernel_rfl) (by kernel_rfl) (fun _ _ _ h => h) (Or.inl ⟨by rfl, ?_⟩) (by assumption) ?_
        rotate_left
        · (intro w hSw; (try dsimp only at hSw); (first | (go_simp; done) | (go_simp; with_reducible rfl)))
        simp only [Act.put, List.getElem_toArray, List.getElem_cons_succ, List.getElem_cons_zero, List.setIfInBounds_toArray, List.set_cons_zero, List.set_cons_succ]
        refine wpAnyH_done (by kernel_rfl) ?_ _
        refine NoPanic.normal ?_
        have HZ9 := Lib.hid hHeld.1
        clear hHeld
        go_wp2_with fail
        go_ret2
        exact owns_R (zs := xs ++ ys.drop 1) (b := true) HR.out (owns_out HZ9.out HO5.out)
      · have HWX := Lib.hid (wlk_walk (f := posC n false a 1) (m := (n - 1 - a).toNat) hrd (by omega) (fun k _ => posC_range hn.1) (fun k hk => Or.inl (by rw [posLu ha, posLu ha]; unfold afterI; rw [if_neg (by simp)]; push_cast; omega)))
        have HWY := Lib.hid (wlk_walk (f := posC n false (n - 1) (-1)) (m := (n - 1).toNat) hrd (by omega) (fun k _ => posC_range hn.1) (fun k hk => Or.inr (by rw [posLd (by omega), posLd (by omega)]; unfold beforeI; rw [if_neg (by simp)]; push_cast; omega)))
        have HG1 := Lib.hid (fun w => walkTo_up n false a (n - 1) (posC n false a 1) (n - 1 - a).toNat w hn (by omega) (posC_zero ha) (fun k _ => posC_range hn.1) (fun k hk => by rw [posLu ha]; omega) (by rw [posLu ha]; omega) (fun k hk => by rw [posLu ha, posLu ha]; unfold afterI; rw [if_neg (by simp)]; push_cast; omega))
        have HG2 := Lib.hid (fun w => walkTo_down n false (n - 1) 0 (posC n false (n - 1) (-1)) (n - 1).toNat w hn (by omega) (posC_zero (by omega)) (fun k _ => posC_range hn.1) (fun k hk => by rw [posLd (by omega)]; omega) (by rw [posLd (by omega)]; omega) (fun k hk => by rw [posLd (by omega), posLd (by omega)]; unfold beforeI; rw [if_neg (by simp)]; push_cast; omega))
        have hlx : (wlk (posC n false a 1) (n - 1 - a).toNat).length = (n - 1 - a).toNat + 1 := wlk_len _ _
        have hly : (wlk (posC n false (n - 1) (-1)) (n - 1).toNat).length = (n - 1).toNat + 1 := wlk_len _ _
        have hlast : (wlk (posC n false a 1) (n - 1 - a).toNat)[(n - 1 - a).toNat]? = (wlk (posC n false (n - 1) (-1)) (n - 1).toNat)[0]? := by
          rw [wlk_at _ _ _ (Nat.le_refl _), wlk_at _ _ _ (Nat.zero_le _), posLu ha, posLd (by omega)]
          congr 1
          omega
        have HR := Lib.hid (show sweepR n false a = (wlk (posC n false a 1) (n - 1 - a).toNat ++ (wlk (posC n false (n - 1) (-1)) (n - 1).toNat).drop 1, true) from by rw [HR0.out]; unfold sweepL; rw [if_neg (by simp), if_neg hle])
        generalize wlk (posC n false a 1) (n - 1 - a).toNat = xs at *
        generalize wlk (posC n false (n - 1) (-1)) (n - 1).toNat = ys at *
        have hjr := joinR_yes ⟨HWX.out, HWY.out, (by rw [hlx]; exact hlast), (by rw [hlx, hly]; omega)⟩
        have HJN := Lib.hid (fun v u w hv hu => show Calls Try.prog 36 #[rd n false, v, u] w (OwnsB w.heap.size (xs ++ ys.drop 1) true w) from by have h := impl_JoinWalks n false v xs u ys w hv hu; rw [hjr] at h; exact h)
        have hlx2 : xs.length ≤ 61 := by omega
        have hly2 : ys.length ≤ 61 := by omega
        clear hlx hly hlast hjr HR0
        unfold rd at *
        go_enter Try.func33, Try.ntmps33
        go_wp2_with fail
        refine (HP.out _ _ (ints_one_at _ (by simp))).mono ?_
        rintro e w1 ⟨rfl, hb⟩
        have HX := Lib.hid ((HX0.out.next (below_new _ _)).next hb)
        have h0 := HX.out.c0
        have h1 := HX.out.c1
        clear hb HX0
        rw [HPA.out]
        go_wp2_with fail
        refine wp_region_noPanic ?_
        refine wp_region_held_drew (S := fun w' => Boxed w.heap.size n false w w' ∧ w'.cell? ⟨w.heap.size, 0, none⟩ = some (.int .i64 n) ∧ w'.cell? ⟨w.heap.size, 1, none⟩ = some (.bool false)) (by kernel_rfl) (keep2_new HX.out) (fun hHeld => ?_)
        refine wpAnyH_take (i := 0) (oi := _) (v := ?_) rfl (by kernel_rfl) (by kernel_rfl) (by kernel_rfl) (fun _ _ _ h => h) (Or.inl ⟨by rfl, ?_⟩) (by assumption) ?_
        rotate_left
        · (intro w hSw; (try dsimp only at hSw); (first | (go_simp; done) | (go_simp; with_reducible rfl)))
        simp only [Act.put, List.getElem_toArray, List.getElem_cons_succ, List.getElem_cons_zero, List.setIfInBounds_toArray, List.set_cons_zero, List.set_cons_succ]
        refine wpAnyH_take (i := 1) (oi := _) (v := ?_) rfl (by kernel_rfl) (by kernel_rfl) (by kernel_rfl) (fun _ _ _ h => h) (Or.inl ⟨by rfl, ?_⟩) (by assumption) ?_
        rotate_left
        · (intro w hSw; (try dsimp only at hSw); (first | (go_simp; done) | (go_simp; with_reducible rfl)))
        simp only [Act.put, List.getElem_toArray, List.getElem_cons_succ, List.getElem_cons_zero, List.setIfInBounds_toArray, List.set_cons_zero, List.set_cons_succ]
        refine wpAnyH_take (i := 2) (oi := _) (v := ?_) rfl (by kernel_rfl) (by kernel_rfl) (by kernel_rfl) (fun _ _ _ h => h) (Or.inl ⟨by rfl, ?_⟩) (by assumption) ?_
        rotate_left
        · (intro w hSw; (try dsimp only at hSw); (first | (go_simp; done) | (go_simp; with_reducible rfl)))
        simp only [Act.put, List.getElem_toArray, List.getElem_cons_succ, List.getElem_cons_zero, List.setIfInBounds_toArray, List.set_cons_zero, List.set_cons_succ]
        refine wpAnyH_take (i := 3) (oi := _) (v := ?_) rfl (by kernel_rfl) (by kernel_rfl) (by kernel_rfl) (fun _ _ _ h => h) (Or.inl ⟨by rfl, ?_⟩) (by assumption) ?_
        rotate_left
        · (intro w hSw; (try dsimp only at hSw); (first | (go_simp; done) | (go_simp; with_reducible rfl)))
        simp only [Act.put, List.getElem_toArray, List.getElem_cons_succ, List.getElem_cons_zero, List.setIfInBounds_toArray, List.set_cons_zero, List.set_cons_succ]
        refine wpAnyH_take (i := 5) (oi := _) (v := ?_) rfl (by kernel_rfl) (by kernel_rfl) (by kernel_rfl) (fun _ _ _ h => h) (Or.inl ⟨by rfl, ?_⟩) (by assumption) ?_
        rotate_left
        · (intro w hSw; (try dsimp only at hSw); (first | (go_simp; done) | (go_simp; with_reducible rfl)))
        simp only [Act.put, List.getElem_toArray, List.getElem_cons_succ, List.getElem_cons_zero, List.setIfInBounds_toArray, List.set_cons_zero, List.set_cons_succ]
        refine wpAnyH_take (i := 6) (oi := _) (v := ?_) rfl (by kernel_rfl) (by kernel_rfl) (by kernel_rfl) (fun _ _ _ h => h) (Or.inl ⟨by rfl, ?_⟩) (by assumption) ?_
        rotate_left
        · (intro w hSw; (try dsimp only at hSw); (first | (go_simp; done) | (go_simp; with_reducible rfl)))
        simp only [Act.put, List.getElem_toArray, List.getElem_cons_succ, List.getElem_cons_zero, List.setIfInBounds_toArray, List.set_cons_zero, List.set_cons_succ]
        refine wpAnyH_ready (rs := [4]) (by kernel_rfl) (by simp) ?_
        refine AllReadyH.cons rfl (fun K hK => ?_) AllReadyH.nil
        go_simp
        have hW9 := hHeld.1.size
        refine (HG1.out _).mono ?_
        rintro e w3 ⟨v3, rfl, ho, hb⟩
        have hS := keep2 hHeld hb
        have HO3 := Lib.hid (owns_lower ho (Nat.succ_le_of_lt hW9))
        clear hb hHeld ho hW9
        go_wp2_with fail
        refine hK.out _ _ (hS) (fun hHeld => ?_)
        clear hK K
        refine wpAnyH_ready (rs := [7]) (by kernel_rfl) (by simp) ?_
        refine AllReadyH.cons rfl (fun K hK => ?_) AllReadyH.nil
        go_simp
        have hW9 := hHeld.1.size
        refine (HG2.out _).mono ?_
        rintro e w4 ⟨v4, rfl, ho, hb⟩
        have hS := keep2 hHeld hb
        have HO3 := Lib.hid (owns_below HO3.out hb)
        have HO4 := Lib.hid ho
        clear hb hHeld ho hW9
        go_wp2_with fail
        refine hK.out _ _ (hS) (fun hHeld => ?_)
        clear hK K
        refine wpAnyH_ready (rs := [8]) (by kernel_rfl) (by simp) ?_
        refine AllReadyH.cons rfl (fun K hK => ?_) AllReadyH.nil
        go_simp
        have hW9 := hHeld.1.size
        refine (HJN.out v3 v4 _ (owns_reads HO3.out (by unfold maxLen; omega)) (owns_reads HO4.out (by unfold maxLen; omega))).mono ?_
        rintro e w5 ⟨v5, rfl, ho, hb⟩
        have hS := keep2 hHeld hb
        have HO5 := Lib.hid (owns_lower ho (Nat.succ_le_of_lt hW9))
        clear hb hHeld ho hW9
        go_wp2_with fail
        refine hK.out _ _ (hS) (fun hHeld => ?_)
        clear hK K
        refine wpAnyH_take (i := 9) (oi := _) (v := ?_) rfl (by kernel_rfl) (by kernel_rfl) (by kernel_rfl) (fun _ _ _ h => h) (Or.inl ⟨by rfl, ?_⟩) (by assumption) ?_
        rotate_left
        · (intro w hSw; (try dsimp only at hSw); (first | (go_simp; done) | (go_simp; with_reducible rfl)))
        simp only [Act.put, List.getElem_toArray, List.getElem_cons_succ, List.getElem_cons_zero, List.setIfInBounds_toArray, List.set_cons_zero, List.set_cons_succ]
        refine wpAnyH_take (i := 10) (oi := _) (v := ?_) rfl (by kernel_rfl) (by kernel_rfl) (by kernel_rfl) (fun _ _ _ h => h) (Or.inl ⟨by rfl, ?_⟩) (by assumption) ?_
        rotate_left
        · (intro w hSw; (try dsimp only at hSw); (first | (go_simp; done) | (go_simp; with_reducible rfl)))
        simp only [Act.put, List.getElem_toArray, List.getElem_cons_succ, List.getElem_cons_zero, List.setIfInBounds_toArray, List.set_cons_zero, List.set_cons_succ]
        refine wpAnyH_take (i := 11) (oi := _) (v := ?_) rfl (by kernel_rfl) (by kernel_rfl) (by kernel_rfl) (fun _ _ _ h => h) (Or.inl ⟨by rfl, ?_⟩) (by assumption) ?_
        rotate_left
        · (intro w hSw; (try dsimp only at hSw); (first | (go_simp; done) | (go_simp; with_reducible rfl)))
        simp only [Act.put, List.getElem_toArray, List.getElem_cons_succ, List.getElem_cons_zero, List.setIfInBounds_toArray, List.set_cons_zero, List.set_cons_succ]
        refine wpAnyH_take (i := 12) (oi := _) (v := ?_) rfl (by kernel_rfl) (by kernel_rfl) (by kernel_rfl) (fun _ _ _ h => h) (Or.inl ⟨by rfl, ?_⟩) (by assumption) ?_
        rotate_left
        · (intro w hSw; (try dsimp only at hSw); (first | (go_simp; done) | (go_simp; with_reducible rfl)))
        simp only [Act.put, List.getElem_toArray, List.getElem_cons_succ, List.getElem_cons_zero, List.setIfInBounds_toArray, List.set_cons_zero, List.set_cons_succ]
        refine wpAnyH_done (by kernel_rfl) ?_ _
        refine NoPanic.normal ?_
        have HZ9 := Lib.hid hHeld.1
        clear hHeld
        go_wp2_with fail
        go_ret2
        exact owns_R (zs := xs ++ ys.drop 1) (b := true) HR.out (owns_out HZ9.out HO5.out)
    · have HBF := Lib.hid (fun w => before_any n true a w hn ha)
      have HG1 := Lib.hid (fun w => walkTo_up n true a (beforeI n true a) (posC n true a 1) (n - 1).toNat w hn (by omega) (posC_zero ha) (fun k _ => posC_range hn.1) (fun k hk => by rw [posUp ha (by omega)]; unfold beforeI; simp only [true_and]; split <;> split <;> omega) (by rw [posUp ha (by omega)]; unfold beforeI; simp only [true_and]; split <;> split <;> omega) (fun k hk => by rw [posUp ha (by omega), posUp ha (by omega)]; unfold afterI; simp only [true_and]; push_cast; split <;> split <;> split <;> omega))
      have HRR := Lib.hid (show sweepR n true a = (wlk (posC n true a 1) (n - 1).toNat, true) from by rw [HR0.out]; unfold sweepL; rw [if_pos rfl])
      unfold rd at *
      go_enter Try.func33, Try.ntmps33
      go_wp2_with fail
      refine (HP.out _ _ (ints_one_at _ (by simp))).mono ?_
      rintro e w1 ⟨rfl, hb⟩
      have HX := Lib.hid ((HX0.out.next (below_new _ _)).next hb)
      have h0 := HX.out.c0
      have h1 := HX.out.c1
      clear hb HX0
      rw [HPA.out]
      go_wp2_with fail
      refine wp_region_noPanic ?_
      refine wp_region_held_drew (S := fun w' => Boxed w.heap.size n true w w' ∧ w'.cell? ⟨w.heap.size, 0, none⟩ = some (.int .i64 n) ∧ w'.cell? ⟨w.heap.size, 1, none⟩ = some (.bool true)) (by kernel_rfl) (keep2_new HX.out) (fun hHeld => ?_)
      refine wpAnyH_take (i := 0) (oi := _) (v := ?_) rfl (by kernel_rfl) (by kernel_rfl) (by kernel_rfl) (fun _ _ _ h => h) (Or.inl ⟨by rfl, ?_⟩) (by assumption) ?_
      rotate_left
      · (intro w hSw; (try dsimp only at hSw); (first | (go_simp; done) | (go_simp; with_reducible rfl)))
      simp only [Act.put, List.getElem_toArray, List.getElem_cons_succ, List.getElem_cons_zero, List.setIfInBounds_toArray, List.set_cons_zero, List.set_cons_succ]
      refine wpAnyH_take (i := 1) (oi := _) (v := ?_) rfl (by kernel_rfl) (by kernel_rfl) (by kernel_rfl) (fun _ _ _ h => h) (Or.inl ⟨by rfl, ?_⟩) (by assumption) ?_
      rotate_left
      · (intro w hSw; (try dsimp only at hSw); (first | (go_simp; done) | (go_simp; with_reducible rfl)))
      simp only [Act.put, List.getElem_toArray, List.getElem_cons_succ, List.getElem_cons_zero, List.setIfInBounds_toArray, List.set_cons_zero, List.set_cons_succ]
      refine wpAnyH_take (i := 2) (oi := _) (v := ?_) rfl (by kernel_rfl) (by kernel_rfl) (by kernel_rfl) (fun _ _ _ h => h) (Or.inl ⟨by rfl, ?_⟩) (by assumption) ?_
      rotate_left
      · (intro w hSw; (try dsimp only at hSw); (first | (go_simp; done) | (go_simp; with_reducible rfl)))
      simp only [Act.put, List.getElem_toArray, List.getElem_cons_succ, List.getElem_cons_zero, List.setIfInBounds_toArray, List.set_cons_zero, List.set_cons_succ]
      refine wpAnyH_take (i := 3) (oi := _) (v := ?_) rfl (by kernel_rfl) (by kernel_rfl) (by kernel_rfl) (fun _ _ _ h => h) (Or.inl ⟨by rfl, ?_⟩) (by assumption) ?_
      rotate_left
      · (intro w hSw; (try dsimp only at hSw); (first | (go_simp; done) | (go_simp; with_reducible rfl)))
      simp only [Act.put, List.getElem_toArray, List.getElem_cons_succ, List.getElem_cons_zero, List.setIfInBounds_toArray, List.set_cons_zero, List.set_cons_succ]
      refine wpAnyH_ready (rs := [4]) (by kernel_rfl) (by simp) ?_
      refine AllReadyH.cons rfl (fun K hK => ?_) AllReadyH.nil
      go_simp
      refine (HBF.out _).mono ?_
      rintro e w3 ⟨rfl, hb⟩
      have hS := keep2 hHeld hb
      clear hb hHeld
      go_wp2_with fail
      refine hK.out _ _ (hS) (fun hHeld => ?_)
      clear hK K
      refine wpAnyH_ready (rs := [5]) (by kernel_rfl) (by simp) ?_
      refine AllReadyH.cons rfl (fun K hK => ?_) AllReadyH.nil
      go_simp
      have hW9 := hHeld.1.size
      refine (HG1.out _).mono ?_
      rintro e w4 ⟨v4, rfl, ho, hb⟩
      have hS := keep2 hHeld hb
      have HO4 := Lib.hid (owns_lower ho (Nat.succ_le_of_lt hW9))
      clear hb hHeld ho hW9
      go_wp2_with fail
      refine hK.out _ _ (hS) (fun hHeld => ?_)
      clear hK K
      refine wpAnyH_take (i := 6) (oi := _) (v := ?_) rfl (by kernel_rfl) (by kernel_rfl) (by kernel_rfl) (fun _ _ _ h => h) (Or.inl ⟨by rfl, ?_⟩) (by assumption) ?_
      rotate_left
      · (intro w hSw; (try dsimp only at hSw); (first | (go_simp; done) | (go_simp; with_reducible rfl)))
      simp only [Act.put, List.getElem_toArray, List.getElem_cons_succ, List.getElem_cons_zero, List.setIfInBounds_toArray, List.set_cons_zero, List.set_cons_succ]
      refine wpAnyH_take (i := 7) (oi := _) (v := ?_) rfl (by kernel_rfl) (by kernel_rfl) (by kernel_rfl) (fun _ _ _ h => h) (Or.inl ⟨by rfl, ?_⟩) (by assumption) ?_
      rotate_left
      · (intro w hSw; (try dsimp only at hSw); (first | (go_simp; done) | (go_simp; with_reducible rfl)))
      simp only [Act.put, List.getElem_toArray, List.getElem_cons_succ, List.getElem_cons_zero, List.setIfInBounds_toArray, List.set_cons_zero, List.set_cons_succ]
      refine wpAnyH_done (by kernel_rfl) ?_ _
      refine NoPanic.normal ?_
      have HZ9 := Lib.hid hHeld.1
      clear hHeld
      go_wp2_with fail
      go_ret2
      exact owns_R (b := true) HRR.out (owns_out HZ9.out HO4.out)
end Go.Proofs.Ytiokgnabiidlbaa
