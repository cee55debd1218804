/-
  What is proved: the contract of impl.WaitWalk. Conditions: a slice that reads as a list of numbers.
-/
import Derived.Test.YtiokgnabiidlbaaFn25
namespace Go.Proofs.Ytiokgnabiidlbaa
open Go.RowKit
set_option linter.unusedVariables false
set_option linter.unusedSimpArgs false

theorem readsN_three {w' : World} {xs ys zs : List Int} {b1 o1 c1 m1 b2 o2 c2 m2 b3 o3 c3 m3 : Nat} {t : TypeId} (k : Nat) (hk : w'.heap.size = k)
    (e1 : xs.length = m1) (l1 : m1 ≤ c1) (h1 : ∀ (i : Nat) x, xs[i]? = some x → b1 < w'.heap.size ∧ w'.cell? ⟨b1, o1 + i, none⟩ = some (.int .i64 x))
    (e2 : ys.length = m2) (l2 : m2 ≤ c2) (h2 : ∀ (i : Nat) x, ys[i]? = some x → b2 < w'.heap.size ∧ w'.cell? ⟨b2, o2 + i, none⟩ = some (.int .i64 x))
    (e3 : zs.length = m3) (l3 : m3 ≤ c3) (h3 : ∀ (i : Nat) x, zs[i]? = some x → b3 < w'.heap.size ∧ w'.cell? ⟨b3, o3 + i, none⟩ = some (.int .i64 x)) :
    ReadsN (w'.alloc (.cells #[.slice (some ⟨b1, o1, none⟩) m1 c1, .slice (some ⟨b2, o2, none⟩) m2 c2, .slice (some ⟨b3, o3, none⟩) m3 c3] t)) (.slice (some ⟨k, 0, none⟩) 3 3) [xs, ys, zs] := by
  subst hk e1 e2 e3
  have back : ∀ {b o : Nat} {ls : List Int}, (∀ (i : Nat) x, ls[i]? = some x → b < w'.heap.size ∧ w'.cell? ⟨b, o + i, none⟩ = some (.int .i64 x)) → ∀ (i : Nat) x, ls[i]? = some x → b < (w'.alloc (.cells #[.slice (some ⟨b1, o1, none⟩) xs.length c1, .slice (some ⟨b2, o2, none⟩) ys.length c2, .slice (some ⟨b3, o3, none⟩) zs.length c3] t)).heap.size ∧ (w'.alloc (.cells #[.slice (some ⟨b1, o1, none⟩) xs.length c1, .slice (some ⟨b2, o2, none⟩) ys.length c2, .slice (some ⟨b3, o3, none⟩) zs.length c3] t)).cell? ⟨b, o + i, none⟩ = some (.int .i64 x) := by
    intro b o ls h i x hx
    obtain ⟨hl, hc⟩ := h i x hx
    exact ⟨by simp; omega, ((below_new w' _).cell (p := ⟨b, o + i, none⟩) hl).trans hc⟩
  refine ⟨_, 3, rfl, Nat.le_refl _, by simp [maxLen], fun j ls hj => ?_⟩
  match j, hj with
  | 0, hj => cases hj; exact ⟨_, 0, b1, o1, c1, rfl, by simp, by rw [cell_new]; rfl, l1, back h1⟩
  | 1, hj => cases hj; exact ⟨_, 0, b2, o2, c2, rfl, by simp, by rw [cell_new]; rfl, l2, back h2⟩
  | 2, hj => cases hj; exact ⟨_, 0, b3, o3, c3, rfl, by simp, by rw [cell_new]; rfl, l3, back h3⟩
theorem ReadsN.below {w w' : World} {v : Value} {xss : List (List Int)} (h : ReadsN w v xss) (hb : Below w.heap.size w w') : ReadsN w' v xss := by
  obtain ⟨a, c, hv, hc, hm, hx⟩ := h
  refine ⟨a, c, hv, hc, hm, fun j xs hj => ?_⟩
  obtain ⟨b, o, b', o', c', ha, hl, hcell, hcl, hcs⟩ := hx j xs hj
  refine ⟨b, o, b', o', c', ha, Nat.lt_of_lt_of_le hl hb.size, (hb.cell (p := ⟨b, o + j, none⟩) hl).trans hcell, hcl, fun i x hi => ?_⟩
  obtain ⟨hl2, hc2⟩ := hcs i x hi
  exact ⟨Nat.lt_of_lt_of_le hl2 hb.size, (hb.cell (p := ⟨b', o' + i, none⟩) hl2).trans hc2⟩
set_option maxHeartbeats 3200000 in
set_option maxRecDepth 20000 in
theorem impl_WaitWalk (n : Int) (g : Bool) (v : Value) (xs : List Int) (a m : Int) (w : World) (hv : ReadsI w v xs) :
    Calls Try.prog 39 #[rd n g, v, .int .i64 a, .int .i64 m] w (OwnsB w.heap.size (waitR n g xs a m).1 (waitR n g xs a m).2 w) := by
  have HW := Lib.hid (fun v w hv => areWalks_one n g v xs w hv)
  have HX := Lib.hid (Boxed.first w n g 25)
  have HV := Lib.hid hv
  obtain ⟨y, c, hvv, hc, hm, hx⟩ := hv
  subst hvv
  unfold maxLen at hm
  have HL := Lib.hid hx
  clear hx
  unfold rd at *
  cases hw : walkD n g xs
  · have HR := Lib.hid (waitR_no (fun h => walkD_no hw h.1) : waitR n g xs a m = ([], false))
    have HWB := Lib.hid hw
    clear hw
    go_enter Try.func39, Try.ntmps39
    go_wp2_with fail
    refine (HW.out _ _ ?_).mono ?_
    · exact one_list_at (HV.out.below HX.out.below) _ (by simp)
    rintro e w1 ⟨rfl, hb⟩
    have HX1 := Lib.hid ((HX.out.next (below_new _ _)).next hb)
    clear hb
    rw [HWB.out]
    have HO := Lib.hid (fun (w2 : World) (h : Boxed w.heap.size n g w w2) => made_at w2 (w.heap.size + 1) w2.heap.size rfl (Nat.succ_le_of_lt h.size))
    go_wp2_with fail
    go_ret2
    exact owns_R (zs := []) (b := false) HR.out (owns_out (HX1.out.next (below_new _ _)) (HO.out _ HX1.out))
  · have hwx := (walkD_iff n g xs).1 hw
    have hl1 := hwx.2.1
    have hl61 := hwx.2.2.1
    have HWB := Lib.hid hw
    have HWX := Lib.hid hwx
    have hi2 : 0 ≤ (xs.length : Int) - 1 := by omega
    clear hw hwx
    by_cases hin : (0 ≤ a ∧ a < (xs.length : Int)) ∧ 0 ≤ m ∧ m ≤ 61 - (xs.length : Int)
    · obtain ⟨⟨ht0, ht1⟩, hq0, hq1⟩ := hin
      obtain ⟨t, rfl⟩ := Int.eq_ofNat_of_zero_le ht0
      obtain ⟨q, rfl⟩ := Int.eq_ofNat_of_zero_le hq0
      have htl : t < xs.length := by omega
      have hql : xs.length + q ≤ 61 := by omega
      obtain ⟨p, hpk⟩ := get_some htl
      obtain ⟨b, o, hyy, hbl, hcp⟩ := HL.out _ p hpk
      subst hyy
      have HR := Lib.hid (waitR_yes HWX.out hpk hql)
      have HRP := Lib.hid (fun w hb hc => repeat_one b (o + t) p q w hb hc (by omega))
      have HCC := Lib.hid (fun v w hv => show Calls Try.prog 81 #[v] w (OwnsI w.heap.size (waitL xs t q p) w) from by
        have h := concat_any v [xs.take t, List.replicate q p, xs.drop t] w hv (by show 0 < 0 + (xs.take t).length + (List.replicate q p).length + (xs.drop t).length; rw [List.length_drop]; omega) (by show 0 + (xs.take t).length + (List.replicate q p).length + (xs.drop t).length ≤ _; rw [List.length_drop, List.length_take, List.length_replicate]; omega)
        have e : catL [xs.take t, List.replicate q p, xs.drop t] [xs.take t, List.replicate q p, xs.drop t].length = waitL xs t q p := by
          show (([] ++ xs.take t) ++ List.replicate q p) ++ xs.drop t = _
          unfold waitL
          simp
        rw [e] at h
        exact h)
      have HC1 := Lib.hid (fun (w3 : World) (hb : Below w.heap.size w w3) (i : Nat) x (hx : (xs.take t)[i]? = some x) => show b < w3.heap.size ∧ w3.cell? ⟨b, o + i, none⟩ = some (.int .i64 x) from by
        rw [List.getElem?_take] at hx
        split at hx
        · obtain ⟨b9, o9, e9, hl9, hc9⟩ := HL.out _ x hx
          cases e9
          exact ⟨Nat.lt_of_lt_of_le hl9 hb.size, (hb.cell (p := ⟨b, o + i, none⟩) hl9).trans hc9⟩
        · cases hx)
      have HC3 := Lib.hid (fun (w3 : World) (hb : Below w.heap.size w w3) (i : Nat) x (hx : (xs.drop t)[i]? = some x) => show b < w3.heap.size ∧ w3.cell? ⟨b, o + t + i, none⟩ = some (.int .i64 x) from by
        rw [List.getElem?_drop] at hx
        obtain ⟨b9, o9, e9, hl9, hc9⟩ := HL.out _ x hx
        cases e9
        rw [show o + t + i = o + (t + i) by omega]
        exact ⟨Nat.lt_of_lt_of_le hl9 hb.size, (hb.cell (p := ⟨b, o + (t + i), none⟩) hl9).trans hc9⟩)
      clear hpk
      go_enter Try.func39, Try.ntmps39
      go_wp2_with fail
      refine (HW.out _ _ ?_).mono ?_
      · exact one_list_at (HV.out.below HX.out.below) _ (by simp)
      rintro e w1 ⟨rfl, hb⟩
      have HX1 := Lib.hid ((HX.out.next (below_new _ _)).next hb)
      clear hb
      rw [HWB.out]
      have hcp1 : w1.cell? ⟨b, o + t, none⟩ = some (.int .i64 p) := (HX1.out.below.cell (p := ⟨b, o + t, none⟩) hbl).trans hcp
      have HCP1 := Lib.hid hcp1
      clear hcp1
      go_wp2_with fail
      refine (HRP.out _ (Nat.lt_of_lt_of_le hbl HX1.out.below.size) HCP1.out).mono ?_
      rintro e w3 ⟨k3, rfl, hcells, hb⟩
      have HX3 := Lib.hid (HX1.out.next hb)
      have HB3 := Lib.hid HX3.out.below
      have HC2 := Lib.hid hcells
      have hne : ¬ xs.length = t := by omega
      have hne2 : ¬ t = xs.length := by omega
      have hi3 : (t : Int) ≤ (xs.length : Int) := by omega
      have hi4 : (0 : Int) ≤ (t : Int) := by omega
      have hi5 : t ≤ xs.length := by omega
      have hi6 : t ≤ c := by omega
      clear hcells hb
      go_wp2_with fail
      refine wp_region_noPanic ?_
      refine wp_region_held_drew (S := fun w' => Boxed w.heap.size n g w w' ∧ w'.cell? ⟨w.heap.size, 0, none⟩ = some (.int .i64 n) ∧ w'.cell? ⟨w.heap.size, 1, none⟩ = some (.bool g)) (by kernel_rfl) (keep2_new HX3.out) (fun hHeld => ?_)
      refine wpAnyH_take (i := 0) (oi := _) (v := ?_) rfl (by kernel_rfl) (by kernel_rfl) (by kernel_rfl) (fun _ _ _ h => h) (Or.inl ⟨by rfl, ?_⟩) (by assumption) ?_
      rotate_left
      · (intro w hSw; (try dsimp only at hSw); (first | (go_simp; done) | (go_simp; with_reducible rfl)))
      simp only [Act.put, List.getElem_toArray, List.getElem_cons_succ, List.getElem_cons_zero, List.setIfInBounds_toArray, List.set_cons_zero, List.set_cons_succ]
      refine wpAnyH_take (i := 1) (oi := _) (v := ?_) rfl (by kernel_rfl) (by kernel_rfl) (by kernel_rfl) (fun _ _ _ h => h) (Or.inl ⟨by rfl, ?_⟩) (by assumption) ?_
      rotate_left
      · (intro w hSw; (try dsimp only at hSw); (first | (go_simp; done) | (go_simp; with_reducible rfl)))
      simp only [Act.put, List.getElem_toArray, List.getElem_cons_succ, List.getElem_cons_zero, List.setIfInBounds_toArray, List.set_cons_zero, List.set_cons_succ]
      refine wpAnyH_take (i := 2) (oi := _) (v := ?_) rfl (by kernel_rfl) (by kernel_rfl) (by kernel_rfl) (fun _ _ _ h => h) (Or.inl ⟨by rfl, ?_⟩) (by assumption) ?_
      rotate_left
      · (intro w hSw; (try dsimp only at hSw); (first | (go_simp; done) | (go_simp; with_reducible rfl)))
      simp only [Act.put, List.getElem_toArray, List.getElem_cons_succ, List.getElem_cons_zero, List.setIfInBounds_toArray, List.set_cons_zero, List.set_cons_succ]
      refine wpAnyH_take (i := 3) (oi := _) (v := ?_) rfl (by kernel_rfl) (by kernel_rfl) (by kernel_rfl) (fun _ _ _ h => h) (Or.inl ⟨by rfl, ?_⟩) (by assumption) ?_
      rotate_left
      · (intro w hSw; (try dsimp only at hSw); (first | (go_simp; done) | (go_simp; with_reducible rfl)))
      simp only [Act.put, List.getElem_toArray, List.getElem_cons_succ, List.getElem_cons_zero, List.setIfInBounds_toArray, List.set_cons_zero, List.set_cons_succ]
      refine wpAnyH_take (i := 4) (oi := _) (v := ?_) rfl (by kernel_rfl) (by kernel_rfl) (by kernel_rfl) (fun _ _ _ h => h) (Or.inl ⟨by rfl, ?_⟩) (by assumption) ?_
      rotate_left
      · (intro w hSw; (try dsimp only at hSw); (first | (go_simp; done) | (go_simp; with_reducible rfl)))
      simp only [Act.put, List.getElem_toArray, List.getElem_cons_succ, List.getElem_cons_zero, List.setIfInBounds_toArray, List.set_cons_zero, List.set_cons_succ]
      refine wpAnyH_take (i := 5) (oi := _) (v := ?_) rfl (by kernel_rfl) (by kernel_rfl) (by kernel_rfl) (fun _ _ _ h => h) (Or.inl ⟨by rfl, ?_⟩) (by assumption) ?_
      rotate_left
      · (intro w hSw; (try dsimp only at hSw); (first | (go_simp; done) | (go_simp; with_reducible rfl)))
      simp only [Act.put, List.getElem_toArray, List.getElem_cons_succ, List.getElem_cons_zero, List.setIfInBounds_toArray, List.set_cons_zero, List.set_cons_succ]
      refine wpAnyH_take (i := 6) (oi := _) (v := ?_) rfl (by kernel_rfl) (by kernel_rfl) (by kernel_rfl) (fun _ _ _ h => h) (Or.inl ⟨by rfl, ?_⟩) (by assumption) ?_
      rotate_left
      · (intro w hSw; (try dsimp only at hSw); (first | (go_simp; done) | (go_simp; with_reducible rfl)))
      simp only [Act.put, List.getElem_toArray, List.getElem_cons_succ, List.getElem_cons_zero, List.setIfInBounds_toArray, List.set_cons_zero, List.set_cons_succ]
      refine wpAnyH_take (i := 7) (oi := _) (v := ?_) rfl (by kernel_rfl) (by kernel_rfl) (by kernel_rfl) (fun _ _ _ h => h) (Or.inl ⟨by rfl, ?_⟩) (by assumption) ?_
      rotate_left
      · (intro w hSw; (try dsimp only at hSw); (first | (go_simp; done) | (go_simp; with_reducible rfl)))
      simp only [Act.put, List.getElem_toArray, List.getElem_cons_succ, List.getElem_cons_zero, List.setIfInBounds_toArray, List.set_cons_zero, List.set_cons_succ]
      refine wpAnyH_take (i := 8) (oi := _) (v := ?_) rfl (by kernel_rfl) (by kernel_rfl) (by kernel_rfl) (fun _ _ _ h => h) (Or.inl ⟨by rfl, ?_⟩) (by assumption) ?_
      rotate_left
      · (intro w hSw; (try dsimp only at hSw); (first | (go_simp; done) | (go_simp; with_reducible rfl)))
      simp only [Act.put, List.getElem_toArray, List.getElem_cons_succ, List.getElem_cons_zero, List.setIfInBounds_toArray, List.set_cons_zero, List.set_cons_succ]
      refine wpAnyH_take (i := 9) (oi := _) (v := ?_) rfl (by kernel_rfl) (by kernel_rfl) (by kernel_rfl) (fun _ _ _ h => h) (Or.inl ⟨by rfl, ?_⟩) (by assumption) ?_
      rotate_left
      · (intro w hSw; (try dsimp only at hSw); (first | (go_simp; done) | (go_simp; with_reducible rfl)))
      simp only [Act.put, List.getElem_toArray, List.getElem_cons_succ, List.getElem_cons_zero, List.setIfInBounds_toArray, List.set_cons_zero, List.set_cons_succ]
      refine wpAnyH_take (i := 10) (oi := _) (v := ?_) rfl (by kernel_rfl) (by kernel_rfl) (by kernel_rfl) (fun _ _ _ h => h) (Or.inl ⟨by rfl, ?_⟩) (by assumption) ?_
      rotate_left
      · (intro w hSw; (try dsimp only at hSw); (first | (go_simp; done) | (go_simp; with_reducible rfl)))
      simp only [Act.put, List.getElem_toArray, List.getElem_cons_succ, List.getElem_cons_zero, List.setIfInBounds_toArray, List.set_cons_zero, List.set_cons_succ]
      refine wpAnyH_take (i := 11) (oi := _) (v := ?_) rfl (by kernel_rfl) (by kernel_rfl) (by kernel_rfl) (fun _ _ _ h => h) (Or.inl ⟨by rfl, ?_⟩) (by assumption) ?_
      rotate_left
      · (intro w hSw; (try dsimp only at hSw); (first | (go_simp; done) | (go_simp; with_reducible rfl)))
      simp only [Act.put, List.getElem_toArray, List.getElem_cons_succ, List.getElem_cons_zero, List.setIfInBounds_toArray, List.set_cons_zero, List.set_cons_succ]
      refine wpAnyH_ready (rs := [12]) (by kernel_rfl) (by simp) ?_
      refine AllReadyH.cons rfl (fun K hK => ?_) AllReadyH.nil
      go_simp
      refine hK.out _ _ (keep2 hHeld (below_new _ _)) (fun hHeld => ?_)
      clear hK K
      refine wpAnyH_ready (rs := [13]) (by kernel_rfl) (by simp) ?_
      refine AllReadyH.cons rfl (fun K hK => ?_) AllReadyH.nil
      go_simp
      refine (HCC.out _ _ ?_).mono ?_
      · exact (readsN_three _ (by simp) (by simp; omega) (Nat.le_refl _) (HC1.out _ HB3.out) (by simp) (Nat.le_refl _) HC2.out (by simp) (Nat.le_refl _) (HC3.out _ HB3.out)).below (below_drewN _ 1)
      rintro e w5 ⟨v5, rfl, ho, hb⟩
      have hW9 := hHeld.1.size
      have hS := keep2 hHeld hb
      have HO5 := Lib.hid (owns_lower ho (Nat.succ_le_of_lt hW9))
      clear hb hHeld ho hW9
      go_wp2_with fail
      refine hK.out _ _ (hS) (fun hHeld => ?_)
      clear hK K
      refine wpAnyH_take (i := 14) (oi := _) (v := ?_) rfl (by kernel_rfl) (by kernel_rfl) (by kernel_rfl) (fun _ _ _ h => h) (Or.inl ⟨by rfl, ?_⟩) (by assumption) ?_
      rotate_left
      · (intro w hSw; (try dsimp only at hSw); (first | (go_simp; done) | (go_simp; with_reducible rfl)))
      simp only [Act.put, List.getElem_toArray, List.getElem_cons_succ, List.getElem_cons_zero, List.setIfInBounds_toArray, List.set_cons_zero, List.set_cons_succ]
      refine wpAnyH_take (i := 15) (oi := _) (v := ?_) rfl (by kernel_rfl) (by kernel_rfl) (by kernel_rfl) (fun _ _ _ h => h) (Or.inl ⟨by rfl, ?_⟩) (by assumption) ?_
      rotate_left
      · (intro w hSw; (try dsimp only at hSw); (first | (go_simp; done) | (go_simp; with_reducible rfl)))
      simp only [Act.put, List.getElem_toArray, List.getElem_cons_succ, List.getElem_cons_zero, List.setIfInBounds_toArray, List.set_cons_zero, List.set_cons_succ]
      refine wpAnyH_done (by kernel_rfl) ?_ _
      refine NoPanic.normal ?_
      have HZ9 := Lib.hid hHeld.1
      clear hHeld
      go_wp2_with fail
      go_ret2
      exact owns_R (zs := waitL xs t q p) (b := true) HR.out (owns_out HZ9.out HO5.out)
    · have HR := Lib.hid (waitR_no (n := n) (g := g) (xs := xs) (t := a) (m := m) (fun h => hin ⟨⟨h.2.1, h.2.2.1⟩, h.2.2.2.1, by have := h.2.2.2.2; omega⟩))
      by_cases ht0 : 0 ≤ a
      · by_cases ht1 : a < (xs.length : Int)
        · by_cases hq0 : 0 ≤ m
          · have hq1 : ¬ m ≤ 61 - (xs.length : Int) := fun h => hin ⟨⟨ht0, ht1⟩, hq0, h⟩
            go_enter Try.func39, Try.ntmps39
            go_wp2_with fail
            refine (HW.out _ _ ?_).mono ?_
            · exact one_list_at (HV.out.below HX.out.below) _ (by simp)
            rintro e w1 ⟨rfl, hb⟩
            have HX1 := Lib.hid ((HX.out.next (below_new _ _)).next hb)
            clear hb
            rw [HWB.out]
            have HO := Lib.hid (fun (w2 : World) (h : Boxed w.heap.size n g w w2) => made_at w2 (w.heap.size + 1) w2.heap.size rfl (Nat.succ_le_of_lt h.size))
            go_wp2_with fail
            go_ret2
            exact owns_R (zs := []) (b := false) HR.out (owns_out (HX1.out.next (below_new _ _)) (HO.out _ HX1.out))
          · have hq2 : m < 0 := by omega
            go_enter Try.func39, Try.ntmps39
            go_wp2_with fail
            refine (HW.out _ _ ?_).mono ?_
            · exact one_list_at (HV.out.below HX.out.below) _ (by simp)
            rintro e w1 ⟨rfl, hb⟩
            have HX1 := Lib.hid ((HX.out.next (below_new _ _)).next hb)
            clear hb
            rw [HWB.out]
            have HO := Lib.hid (fun (w2 : World) (h : Boxed w.heap.size n g w w2) => made_at w2 (w.heap.size + 1) w2.heap.size rfl (Nat.succ_le_of_lt h.size))
            go_wp2_with fail
            go_ret2
            exact owns_R (zs := []) (b := false) HR.out (owns_out (HX1.out.next (below_new _ _)) (HO.out _ HX1.out))
        · have ht2 : (xs.length : Int) ≤ a := by omega
          go_enter Try.func39, Try.ntmps39
          go_wp2_with fail
          refine (HW.out _ _ ?_).mono ?_
          · exact one_list_at (HV.out.below HX.out.below) _ (by simp)
          rintro e w1 ⟨rfl, hb⟩
          have HX1 := Lib.hid ((HX.out.next (below_new _ _)).next hb)
          clear hb
          rw [HWB.out]
          have HO := Lib.hid (fun (w2 : World) (h : Boxed w.heap.size n g w w2) => made_at w2 (w.heap.size + 1) w2.heap.size rfl (Nat.succ_le_of_lt h.size))
          go_wp2_with fail
          go_ret2
          exact owns_R (zs := []) (b := false) HR.out (owns_out (HX1.out.next (below_new _ _)) (HO.out _ HX1.out))
      · have ht2 : a < 0 := by omega
        go_enter Try.func39, Try.ntmps39
        go_wp2_with fail
        refine (HW.out _ _ ?_).mono ?_
        · exact one_list_at (HV.out.below HX.out.below) _ (by simp)
        rintro e w1 ⟨rfl, hb⟩
        have HX1 := Lib.hid ((HX.out.next (below_new _ _)).next hb)
        clear hb
        rw [HWB.out]
        have HO := Lib.hid (fun (w2 : World) (h : Boxed w.heap.size n g w w2) => made_at w2 (w.heap.size + 1) w2.heap.size rfl (Nat.succ_le_of_lt h.size))
        go_wp2_with fail
        go_ret2
        exact owns_R (zs := []) (b := false) HR.out (owns_out (HX1.out.next (below_new _ _)) (HO.out _ HX1.out))
end Go.Proofs.Ytiokgnabiidlbaa
