/-
  What is proved: the contract of impl.isRound. Conditions: lists that read as lists of numbers.
-/
import Derived.Test.YtijhbhjapcfddaaPta
import Derived.Test.YtijhbhjapcfddaaFn18
import Derived.Deep.RegionHeld3
import Derived.IntWalk
namespace Go.Proofs.Ytijhbhjapcfddaa
open Go.RowKit
set_option linter.unusedVariables false
set_option linter.unusedSimpArgs false

theorem readsN_round {w w' : World} {xs : List Int} {b o c c3 : Nat} {t : TypeId} (k : Nat) (hk : w'.heap.size = k) (hb : Below w.heap.size w w') (h : ReadsI w (.slice (some ⟨b, o, none⟩) xs.length c) xs) (hx : 1 ≤ xs.length) (hc3 : 1 ≤ c3) :
    ReadsN (w'.alloc (.cells #[.slice (some ⟨b, o, none⟩) xs.length c, .slice (some ⟨b, o, none⟩) 1 c3] t)) (.slice (some ⟨k, 0, none⟩) 2 2) [xs, xs.take 1] := by
  subst hk
  obtain ⟨y9, c9, e9, hc9, _, hx9⟩ := h
  cases e9
  have hl8 := hb.size
  have hc : ∀ (i : Nat) z, xs[i]? = some z → b < (w'.alloc (.cells #[.slice (some ⟨b, o, none⟩) xs.length c, .slice (some ⟨b, o, none⟩) 1 c3] t)).heap.size ∧ (w'.alloc (.cells #[.slice (some ⟨b, o, none⟩) xs.length c, .slice (some ⟨b, o, none⟩) 1 c3] t)).cell? ⟨b, o + i, none⟩ = some (.int .i64 z) := by
    intro i z hz
    obtain ⟨b9, o9, e9, hl9, hc8⟩ := hx9 i z hz
    cases e9
    exact ⟨by simp; omega, ((below_new w' _).cell (p := ⟨b, o + i, none⟩) (by show b < w'.heap.size; omega)).trans ((hb.cell (p := ⟨b, o + i, none⟩) hl9).trans hc8)⟩
  have hl1 : (xs.take 1).length = 1 := by rw [List.length_take]; omega
  refine ⟨_, 2, rfl, Nat.le_refl _, by simp [maxLen], fun j zs hj => ?_⟩
  match j, hj with
  | 0, hj =>
    cases hj
    exact ⟨_, 0, b, o, c, rfl, by simp, by rw [cell_new]; rfl, hc9, hc⟩
  | 1, hj =>
    cases hj
    refine ⟨_, 0, b, o, c3, rfl, by simp, by rw [cell_new, hl1]; rfl, by omega, fun i z hz => ?_⟩
    rw [List.getElem?_take] at hz
    split at hz
    · exact hc i z hz
    · cases hz
theorem ReadsN.below {w w' : World} {v : Value} {xss : List (List Int)} (h : ReadsN w v xss) (hb : Below w.heap.size w w') : ReadsN w' v xss := by
  obtain ⟨a, c, hv, hc, hm, hx⟩ := h
  refine ⟨a, c, hv, hc, hm, fun j xs hj => ?_⟩
  obtain ⟨b, o, b', o', c', ha, hlt, hcell, hcl, hr⟩ := hx j xs hj
  exact ⟨b, o, b', o', c', ha, Nat.lt_of_lt_of_le hlt hb.size, (hb.cell (p := ⟨b, o + j, none⟩) hlt).trans hcell, hcl, fun i x hi => ⟨Nat.lt_of_lt_of_le (hr i x hi).1 hb.size, (hb.cell (p := ⟨b', o' + i, none⟩) (hr i x hi).1).trans (hr i x hi).2⟩⟩
noncomputable def roundD (n : Int) (g : Bool) (xs : List Int) : Bool := decide (1 ≤ xs.length) && walkD n g (xs ++ xs.take 1)
theorem roundD_iff (n : Int) (g : Bool) (xs : List Int) : roundD n g xs = true ↔ RoundP n g xs := by
  unfold roundD RoundP
  rw [Bool.and_eq_true, decide_eq_true_iff, walkD_iff]
theorem roundD_nil {n : Int} {g : Bool} {xs : List Int} (h : xs.length = 0) : roundD n g xs = false := by
  unfold roundD
  rw [h]
  rfl
theorem roundD_pos {n : Int} {g : Bool} {xs : List Int} (h : 1 ≤ xs.length) : roundD n g xs = walkD n g (xs ++ xs.take 1) := by
  unfold roundD
  rw [decide_eq_true h]
  rfl
theorem round_cat (xs : List Int) : catL [xs, xs.take 1] 2 = xs ++ xs.take 1 := by
  show ([] ++ xs) ++ xs.take 1 = _
  rw [List.nil_append]
set_option maxHeartbeats 1600000 in
set_option maxRecDepth 20000 in
theorem isRound_any (n : Int) (g : Bool) (v : Value) (xs : List Int) (w : World) (hv : ReadsI w v xs) (hl : xs.length ≤ 1048575) :
    Calls Try.prog 136 #[rd n g, v] w fun e w' => e = .returned (.bool (roundD n g xs)) ∧ Below w.heap.size w w' := by
  have HAW := Lib.hid (fun v w hv => areWalks_one n g v (xs ++ xs.take 1) w hv)
  have HX := Lib.hid (Boxed.first w n g 27)
  have HV := Lib.hid hv
  obtain ⟨y, c, rfl, hc, hm, hx⟩ := hv
  unfold maxLen at hm
  unfold rd at *
  by_cases h0 : xs.length = 0
  · have HR := Lib.hid (roundD_nil (n := n) (g := g) h0)
    have hz : ¬ 0 < xs.length := by omega
    have hz2 : ¬ (0 : Int) < (xs.length : Int) := by omega
    have hnil : xs = [] := List.eq_nil_of_length_eq_zero h0
    clear hx hc hm
    have hd : decide ((0 : Int) < (xs.length : Int)) = false := by simp; exact hnil
    have hd2 : decide (0 < xs.length) = false := by simp; exact hnil
    clear hnil h0
    go_enter Try.func136, Try.ntmps136
    go_wp2_with fail
    refine wp_region_noPanic ?_
    have HX := Lib.hid (HX.out.next (below_drewN _ 1))
    refine wp_region_held_drew (S := fun w' => Boxed w.heap.size n g w w' ∧ w'.cell? ⟨w.heap.size, 0, none⟩ = some (.int .i64 n) ∧ w'.cell? ⟨w.heap.size, 1, none⟩ = some (.bool g)) (by kernel_rfl) (⟨HX.out, HX.out.c0, HX.out.c1⟩) (fun hHeld => ?_)
    refine wpAnyH_take (i := 0) (oi := _) (v := ?_) rfl (by kernel_rfl) (by kernel_rfl) (by kernel_rfl) (fun _ _ _ h => h) (Or.inl ⟨by rfl, ?_⟩) (by assumption) ?_
    rotate_left
    · (intro w hSw; (try dsimp only at hSw); (first | (go_simp; done) | (go_simp; with_reducible rfl)))
    simp only [Act.put, List.getElem_toArray, List.getElem_cons_succ, List.getElem_cons_zero, List.setIfInBounds_toArray, List.set_cons_zero, List.set_cons_succ]
    refine wpAnyH_take (i := 1) (oi := _) (v := ?_) rfl (by kernel_rfl) (by kernel_rfl) (by kernel_rfl) (fun _ _ _ h => h) (Or.inl ⟨by rfl, ?_⟩) (by assumption) ?_
    rotate_left
    · (intro w hSw; (try dsimp only at hSw); (first | (go_simp; done) | (go_simp; with_reducible rfl)))
    simp only [Act.put, List.getElem_toArray, List.getElem_cons_succ, List.getElem_cons_zero, List.setIfInBounds_toArray, List.set_cons_zero, List.set_cons_succ]
    refine wpAnyH_take (i := 2) (oi := _) (v := ?_) rfl (by kernel_rfl) (by kernel_rfl) (by kernel_rfl) (fun _ _ _ h => h) (Or.inl ⟨by rfl, ?_⟩) (by assumption) ?_
    rotate_left
    · (intro w hSw; (try dsimp only at hSw); (first | (go_simp; done) | (go_simp; with_reducible rfl)))
    simp only [Act.put, List.getElem_toArray, List.getElem_cons_succ, List.getElem_cons_zero, List.setIfInBounds_toArray, List.set_cons_zero, List.set_cons_succ]
    refine wpAnyH_take (i := 3) (oi := _) (v := ?_) rfl (by kernel_rfl) (by kernel_rfl) (by kernel_rfl) (fun _ _ _ h => h) (Or.inl ⟨by rfl, ?_⟩) (by assumption) ?_
    rotate_left
    · (intro w hSw; (try dsimp only at hSw); (first | (go_simp; done) | (go_simp; with_reducible rfl)))
    simp only [Act.put, List.getElem_toArray, List.getElem_cons_succ, List.getElem_cons_zero, List.setIfInBounds_toArray, List.set_cons_zero, List.set_cons_succ]
    refine wpAnyH_take (i := 4) (oi := _) (v := undef) rfl (by kernel_rfl) (by kernel_rfl) (by kernel_rfl) (fun _ _ _ h => h) (Or.inr ⟨by rfl, rfl⟩) (by assumption) ?_
    simp only [Act.put, List.getElem_toArray, List.getElem_cons_succ, List.getElem_cons_zero, List.setIfInBounds_toArray, List.set_cons_zero, List.set_cons_succ]
    refine wpAnyH_take (i := 5) (oi := _) (v := undef) rfl (by kernel_rfl) (by kernel_rfl) (by kernel_rfl) (fun _ _ _ h => h) (Or.inr ⟨by rfl, rfl⟩) (by assumption) ?_
    simp only [Act.put, List.getElem_toArray, List.getElem_cons_succ, List.getElem_cons_zero, List.setIfInBounds_toArray, List.set_cons_zero, List.set_cons_succ]
    refine wpAnyH_take (i := 6) (oi := _) (v := undef) rfl (by kernel_rfl) (by kernel_rfl) (by kernel_rfl) (fun _ _ _ h => h) (Or.inr ⟨by rfl, rfl⟩) (by assumption) ?_
    simp only [Act.put, List.getElem_toArray, List.getElem_cons_succ, List.getElem_cons_zero, List.setIfInBounds_toArray, List.set_cons_zero, List.set_cons_succ]
    refine wpAnyH_take (i := 7) (oi := _) (v := undef) rfl (by kernel_rfl) (by kernel_rfl) (by kernel_rfl) (fun _ _ _ h => h) (Or.inr ⟨by rfl, rfl⟩) (by assumption) ?_
    simp only [Act.put, List.getElem_toArray, List.getElem_cons_succ, List.getElem_cons_zero, List.setIfInBounds_toArray, List.set_cons_zero, List.set_cons_succ]
    refine wpAnyH_take (i := 8) (oi := _) (v := undef) rfl (by kernel_rfl) (by kernel_rfl) (by kernel_rfl) (fun _ _ _ h => h) (Or.inr ⟨by rfl, rfl⟩) (by assumption) ?_
    simp only [Act.put, List.getElem_toArray, List.getElem_cons_succ, List.getElem_cons_zero, List.setIfInBounds_toArray, List.set_cons_zero, List.set_cons_succ]
    refine wpAnyH_take (i := 9) (oi := _) (v := undef) rfl (by kernel_rfl) (by kernel_rfl) (by kernel_rfl) (fun _ _ _ h => h) (Or.inr ⟨by rfl, rfl⟩) (by assumption) ?_
    simp only [Act.put, List.getElem_toArray, List.getElem_cons_succ, List.getElem_cons_zero, List.setIfInBounds_toArray, List.set_cons_zero, List.set_cons_succ]
    refine wpAnyH_take (i := 10) (oi := _) (v := undef) rfl (by kernel_rfl) (by kernel_rfl) (by kernel_rfl) (fun _ _ _ h => h) (Or.inr ⟨by rfl, rfl⟩) (by assumption) ?_
    simp only [Act.put, List.getElem_toArray, List.getElem_cons_succ, List.getElem_cons_zero, List.setIfInBounds_toArray, List.set_cons_zero, List.set_cons_succ]
    refine wpAnyH_take (i := 11) (oi := _) (v := undef) rfl (by kernel_rfl) (by kernel_rfl) (by kernel_rfl) (fun _ _ _ h => h) (Or.inr ⟨by rfl, rfl⟩) (by assumption) ?_
    simp only [Act.put, List.getElem_toArray, List.getElem_cons_succ, List.getElem_cons_zero, List.setIfInBounds_toArray, List.set_cons_zero, List.set_cons_succ]
    refine wpAnyH_take (i := 12) (oi := _) (v := ?_) rfl (by kernel_rfl) (by kernel_rfl) (by kernel_rfl) (fun _ _ _ h => h) (Or.inl ⟨by rfl, ?_⟩) (by assumption) ?_
    rotate_left
    · (intro w hSw; (try dsimp only at hSw); (first | (go_simp; done) | (go_simp; with_reducible rfl)))
    simp only [Act.put, List.getElem_toArray, List.getElem_cons_succ, List.getElem_cons_zero, List.setIfInBounds_toArray, List.set_cons_zero, List.set_cons_succ]
    refine wpAnyH_take (i := 13) (oi := _) (v := ?_) rfl (by kernel_rfl) (by kernel_rfl) (by kernel_rfl) (fun _ _ _ h => h) (Or.inl ⟨by rfl, ?_⟩) (by assumption) ?_
    rotate_left
    · (intro w hSw; (try dsimp only at hSw); (first | (go_simp; done) | (go_simp; with_reducible rfl)))
    simp only [Act.put, List.getElem_toArray, List.getElem_cons_succ, List.getElem_cons_zero, List.setIfInBounds_toArray, List.set_cons_zero, List.set_cons_succ]
    refine wpAnyH_done (by kernel_rfl) ?_ _
    refine NoPanic.normal ?_
    clear hHeld
    go_wp2_with fail
    go_ret
    exact ⟨ret_bool (by rw [HR.out]), HX.out.below⟩
  · have hl1 : 1 ≤ xs.length := by omega
    have HR := Lib.hid (roundD_pos (n := n) (g := g) hl1)
    have hne : xs ≠ [] := fun h => h0 (by rw [h]; rfl)
    have hz : 0 < xs.length := by omega
    have hz2 : (0 : Int) < (xs.length : Int) := by omega
    have hc1 : 1 ≤ c := by omega
    have hc1i : (1 : Int) ≤ (c : Int) := by omega
    obtain ⟨x0, hx0⟩ := get_some (xs := xs) (k := 0) (by omega)
    obtain ⟨b, o, rfl, _, _⟩ := hx 0 x0 hx0
    have hd : decide ((0 : Int) < (xs.length : Int)) = true := decide_eq_true hz2
    have hd2 : decide (0 < xs.length) = true := decide_eq_true hz
    have HLT := Lib.hid (show (xs.take 1).length = 1 by rw [List.length_take]; omega)
    have HSM := Lib.hid (show sumL [xs, xs.take 1] 2 = xs.length + 1 by show 0 + xs.length + (xs.take 1).length = _; rw [HLT.out]; omega)
    have HCC := Lib.hid (fun v w hv => show Calls Try.prog 144 #[v] w (OwnsI w.heap.size (xs ++ xs.take 1) w) from round_cat xs ▸ concat_any v [xs, xs.take 1] w hv (by show 0 < sumL [xs, xs.take 1] 2; rw [HSM.out]; omega) (by show sumL [xs, xs.take 1] 2 ≤ 1048576; rw [HSM.out]; omega))
    have HLZ := Lib.hid (show (xs ++ xs.take 1).length ≤ maxLen by rw [List.length_append, HLT.out]; unfold maxLen; omega)
    clear hx0 hx h0 hc
    generalize xs ++ xs.take 1 = zs at *
    have HC1 := Lib.hid hc1
    have HL1 := Lib.hid hl1
    go_enter Try.func136, Try.ntmps136
    go_wp2_with fail
    refine wp_region_noPanic ?_
    have HXO := Lib.hid HX.out
    have HX := Lib.hid (HX.out.next (below_drewN _ 1))
    refine wp_region_held_drew (S := fun w' => Boxed w.heap.size n g w w' ∧ w'.cell? ⟨w.heap.size, 0, none⟩ = some (.int .i64 n) ∧ w'.cell? ⟨w.heap.size, 1, none⟩ = some (.bool g)) (by kernel_rfl) (⟨HX.out, HX.out.c0, HX.out.c1⟩) (fun hHeld => ?_)
    refine wpAnyH_take (i := 0) (oi := _) (v := ?_) rfl (by kernel_rfl) (by kernel_rfl) (by kernel_rfl) (fun _ _ _ h => h) (Or.inl ⟨by rfl, ?_⟩) (by assumption) ?_
    rotate_left
    · (intro w hSw; (try dsimp only at hSw); (first | (go_simp; done) | (go_simp; with_reducible rfl)))
    simp only [Act.put, List.getElem_toArray, List.getElem_cons_succ, List.getElem_cons_zero, List.setIfInBounds_toArray, List.set_cons_zero, List.set_cons_succ]
    refine wpAnyH_take (i := 1) (oi := _) (v := ?_) rfl (by kernel_rfl) (by kernel_rfl) (by kernel_rfl) (fun _ _ _ h => h) (Or.inl ⟨by rfl, ?_⟩) (by assumption) ?_
    rotate_left
    · (intro w hSw; (try dsimp only at hSw); (first | (go_simp; done) | (go_simp; with_reducible rfl)))
    simp only [Act.put, List.getElem_toArray, List.getElem_cons_succ, List.getElem_cons_zero, List.setIfInBounds_toArray, List.set_cons_zero, List.set_cons_succ]
    refine wpAnyH_take (i := 2) (oi := _) (v := ?_) rfl (by kernel_rfl) (by kernel_rfl) (by kernel_rfl) (fun _ _ _ h => h) (Or.inl ⟨by rfl, ?_⟩) (by assumption) ?_
    rotate_left
    · (intro w hSw; (try dsimp only at hSw); (first | (go_simp; done) | (go_simp; with_reducible rfl)))
    simp only [Act.put, List.getElem_toArray, List.getElem_cons_succ, List.getElem_cons_zero, List.setIfInBounds_toArray, List.set_cons_zero, List.set_cons_succ]
    refine wpAnyH_take (i := 3) (oi := _) (v := ?_) rfl (by kernel_rfl) (by kernel_rfl) (by kernel_rfl) (fun _ _ _ h => h) (Or.inl ⟨by rfl, ?_⟩) (by assumption) ?_
    rotate_left
    · (intro w hSw; (try dsimp only at hSw); (first | (go_simp; done) | (go_simp; with_reducible rfl)))
    simp only [Act.put, List.getElem_toArray, List.getElem_cons_succ, List.getElem_cons_zero, List.setIfInBounds_toArray, List.set_cons_zero, List.set_cons_succ]
    refine wpAnyH_take (i := 4) (oi := _) (v := ?_) rfl (by kernel_rfl) (by kernel_rfl) (by kernel_rfl) (fun _ _ _ h => h) (Or.inl ⟨by rfl, ?_⟩) (by assumption) ?_
    rotate_left
    · (intro w hSw; (try dsimp only at hSw); (first | (go_simp; done) | (go_simp; with_reducible rfl)))
    simp only [Act.put, List.getElem_toArray, List.getElem_cons_succ, List.getElem_cons_zero, List.setIfInBounds_toArray, List.set_cons_zero, List.set_cons_succ]
    refine wpAnyH_take (i := 5) (oi := _) (v := ?_) rfl (by kernel_rfl) (by kernel_rfl) (by kernel_rfl) (fun _ _ _ h => h) (Or.inl ⟨by rfl, ?_⟩) (by assumption) ?_
    rotate_left
    · (intro w hSw; (try dsimp only at hSw); (first | (go_simp; done) | (go_simp; with_reducible rfl)))
    simp only [Act.put, List.getElem_toArray, List.getElem_cons_succ, List.getElem_cons_zero, List.setIfInBounds_toArray, List.set_cons_zero, List.set_cons_succ]
    refine wpAnyH_take (i := 6) (oi := _) (v := ?_) rfl (by kernel_rfl) (by kernel_rfl) (by kernel_rfl) (fun _ _ _ h => h) (Or.inl ⟨by rfl, ?_⟩) (by assumption) ?_
    rotate_left
    · (intro w hSw; (try dsimp only at hSw); (first | (go_simp; done) | (go_simp; with_reducible rfl)))
    simp only [Act.put, List.getElem_toArray, List.getElem_cons_succ, List.getElem_cons_zero, List.setIfInBounds_toArray, List.set_cons_zero, List.set_cons_succ]
    refine wpAnyH_take (i := 7) (oi := _) (v := ?_) rfl (by kernel_rfl) (by kernel_rfl) (by kernel_rfl) (fun _ _ _ h => h) (Or.inl ⟨by rfl, ?_⟩) (by assumption) ?_
    rotate_left
    · (intro w hSw; (try dsimp only at hSw); (first | (go_simp; done) | (go_simp; with_reducible rfl)))
    simp only [Act.put, List.getElem_toArray, List.getElem_cons_succ, List.getElem_cons_zero, List.setIfInBounds_toArray, List.set_cons_zero, List.set_cons_succ]
    refine wpAnyH_ready (rs := [8]) (by kernel_rfl) (by simp) ?_
    refine AllReadyH.cons rfl (fun K hK => ?_) AllReadyH.nil
    go_simp
    refine hK.out _ _ (⟨(hHeld.1.next (below_new _ _)), (hHeld.1.next (below_new _ _)).c0, (hHeld.1.next (below_new _ _)).c1⟩) (fun hHeld => ?_)
    clear hK K
    have HX := Lib.hid hHeld.1
    refine wpAnyH_ready (rs := [9]) (by kernel_rfl) (by simp) ?_
    refine AllReadyH.cons rfl (fun K hK => ?_) AllReadyH.nil
    go_simp
    refine (HCC.out _ _ ?_).mono ?_
    · exact (readsN_round (t := 24) _ (by simp) HXO.out.below HV.out HL1.out HC1.out).below (below_drewN _ 1)
    rintro e w22 ⟨u, rfl, ho, hb⟩
    have HX := Lib.hid (HX.out.next hb)
    have HO := Lib.hid ho
    obtain ⟨ua, uc, hus, _⟩ := owns_shape ho
    subst hus
    clear ho hb
    clear hHeld
    try go_wp2_with fail
    refine hK.out _ _ (⟨HX.out, HX.out.c0, HX.out.c1⟩) (fun hHeld => ?_)
    clear hK K
    refine wpAnyH_ready (rs := [10]) (by kernel_rfl) (by simp) ?_
    refine AllReadyH.cons rfl (fun K hK => ?_) AllReadyH.nil
    go_simp
    refine hK.out _ _ (⟨(hHeld.1.next (below_new _ _)), (hHeld.1.next (below_new _ _)).c0, (hHeld.1.next (below_new _ _)).c1⟩) (fun hHeld => ?_)
    clear hK K
    have HX := Lib.hid hHeld.1
    refine wpAnyH_ready (rs := [11]) (by kernel_rfl) (by simp) ?_
    refine AllReadyH.cons rfl (fun K hK => ?_) AllReadyH.nil
    go_simp
    refine (HAW.out _ _ ?_).mono ?_
    · exact (one_list_at (t := 24) (owns_reads HO.out HLZ.out) _ rfl)
    rintro e w24 ⟨rfl, hb⟩
    have HX := Lib.hid (HX.out.next hb)
    clear hb
    clear hHeld
    try go_wp2_with fail
    refine hK.out _ _ (⟨HX.out, HX.out.c0, HX.out.c1⟩) (fun hHeld => ?_)
    clear hK K
    refine wpAnyH_take (i := 12) (oi := _) (v := ?_) rfl (by kernel_rfl) (by kernel_rfl) (by kernel_rfl) (fun _ _ _ h => h) (Or.inl ⟨by rfl, ?_⟩) (by assumption) ?_
    rotate_left
    · (intro w hSw; (try dsimp only at hSw); (first | (go_simp; done) | (go_simp; with_reducible rfl)))
    simp only [Act.put, List.getElem_toArray, List.getElem_cons_succ, List.getElem_cons_zero, List.setIfInBounds_toArray, List.set_cons_zero, List.set_cons_succ]
    refine wpAnyH_take (i := 13) (oi := _) (v := ?_) rfl (by kernel_rfl) (by kernel_rfl) (by kernel_rfl) (fun _ _ _ h => h) (Or.inl ⟨by rfl, ?_⟩) (by assumption) ?_
    rotate_left
    · (intro w hSw; (try dsimp only at hSw); (first | (go_simp; done) | (go_simp; with_reducible rfl)))
    simp only [Act.put, List.getElem_toArray, List.getElem_cons_succ, List.getElem_cons_zero, List.setIfInBounds_toArray, List.set_cons_zero, List.set_cons_succ]
    refine wpAnyH_done (by kernel_rfl) ?_ _
    refine NoPanic.normal ?_
    clear hHeld
    go_wp2_with fail
    go_ret
    exact ⟨ret_bool (by rw [HR.out]), HX.out.below⟩
end Go.Proofs.Ytijhbhjapcfddaa
