/-
  What is proved: the contract of the function literal of impl.ShiftPatrol: it turns a round. Conditions: a round that reads as a list of numbers, not empty.
-/
import Derived.Test.YtefjignlhlpndaaSpa
import Derived.Test.YtefjignlhlpndaaPtd
namespace Go.Proofs.Ytefjignlhlpndaa
open Go.RowKit
set_option linter.unusedVariables false
set_option linter.unusedSimpArgs false

theorem readsN_rot {w w' : World} {xs : List Int} {b o c : Nat} {t : TypeId} (k q L : Nat) (hk : w'.heap.size = k) (hb : Below w.heap.size w w') (h : ReadsI w (.slice (some ⟨b, o, none⟩) L c) xs) (hL : xs.length = L) (hq : q ≤ L) (m d : Nat) (hm : L - q = m) (hd : c - q = d) :
    ReadsN (w'.alloc (.cells #[.slice (some ⟨b, o + q, none⟩) m d, .slice (some ⟨b, o, none⟩) q c] t)) (.slice (some ⟨k, 0, none⟩) 2 2) [xs.drop q, xs.take q] := by
  subst hk hL hm hd
  obtain ⟨y9, c9, e9, hc9, _, hx9⟩ := h
  cases e9
  have hl8 := hb.size
  have hc : ∀ (i : Nat) z, xs[i]? = some z → b < (w'.alloc (.cells #[.slice (some ⟨b, o + q, none⟩) (xs.length - q) (c - q), .slice (some ⟨b, o, none⟩) q c] t)).heap.size ∧ (w'.alloc (.cells #[.slice (some ⟨b, o + q, none⟩) (xs.length - q) (c - q), .slice (some ⟨b, o, none⟩) q c] t)).cell? ⟨b, o + i, none⟩ = some (.int .i64 z) := by
    intro i z hz
    obtain ⟨b9, o9, e9, hl9, hc8⟩ := hx9 i z hz
    cases e9
    exact ⟨by simp; omega, ((below_new w' _).cell (p := ⟨b, o + i, none⟩) (by show b < w'.heap.size; omega)).trans ((hb.cell (p := ⟨b, o + i, none⟩) hl9).trans hc8)⟩
  refine ⟨_, 2, rfl, Nat.le_refl _, by simp [maxLen], fun j zs hj => ?_⟩
  match j, hj with
  | 0, hj =>
    cases hj
    refine ⟨_, 0, b, o + q, c - q, rfl, by simp, by rw [cell_new, List.length_drop]; rfl, by rw [List.length_drop]; omega, fun i z hz => ?_⟩
    rw [List.getElem?_drop] at hz
    rw [Nat.add_assoc]
    exact hc (q + i) z hz
  | 1, hj =>
    cases hj
    have hlq : (xs.take q).length = q := by rw [List.length_take]; omega
    refine ⟨_, 0, b, o, c, rfl, by simp, by rw [cell_new, hlq]; rfl, by omega, fun i z hz => ?_⟩
    rw [List.getElem?_take] at hz
    split at hz
    · exact hc i z hz
    · cases hz
theorem rot_cat (xs : List Int) (q : Nat) : catL [xs.drop q, xs.take q] 2 = xs.drop q ++ xs.take q := by
  show ([] ++ xs.drop q) ++ xs.take q = _
  rw [List.nil_append]
set_option maxHeartbeats 1600000 in
set_option maxRecDepth 20000 in
theorem shift1P_any (n : Int) (g : Bool) (v : Value) (xs : List Int) (by_ : Nat) (bb : Nat) (w : World) (hv : ReadsI w v xs) (hl : 1 ≤ xs.length ∧ xs.length ≤ 60) (hby : by_ ≤ 60) (hbb : bb < w.heap.size) (hcb : w.cell? ⟨bb, 0, none⟩ = some (.int .i64 by_)) :
    Calls Try.prog 64 #[rd n g, v, .pointer (some ⟨bb, 0, none⟩)] w (OwnsB w.heap.size (shfT by_ xs) true w) := by
  obtain ⟨hl1, hl60⟩ := hl
  have HX := Lib.hid (Boxed.first w n g 28)
  have HV := Lib.hid hv
  obtain ⟨y, c, rfl, hc, hm, hx⟩ := hv
  obtain ⟨x0, hx0⟩ := get_some (xs := xs) (k := 0) (by omega)
  obtain ⟨b, o, rfl, hbl, _⟩ := hx 0 x0 hx0
  clear hx hx0 hm
  obtain ⟨L, hL⟩ : ∃ L, L = xs.length := ⟨_, rfl⟩
  obtain ⟨q, hq⟩ : ∃ q, q = by_ % L := ⟨_, rfl⟩
  have hqL : q < L := by rw [hq]; exact Nat.mod_lt _ (by omega)
  have hmm : (by_ : Int) % (L : Int) = (q : Int) := by rw [hq]; push_cast; rfl
  have HSH := Lib.hid (show shfT by_ xs = xs.drop q ++ xs.take q by unfold shfT; rw [← hL, ← hq])
  have HSL := Lib.hid (shfT_len by_ xs hl1)
  have HS1 := Lib.hid (show sumL [xs.drop q, xs.take q] 2 = L by show 0 + (xs.drop q).length + (xs.take q).length = _; rw [List.length_drop, List.length_take]; omega)
  have HCC := Lib.hid (fun v w hv => show Calls Try.prog 65 #[v] w (OwnsI w.heap.size (shfT by_ xs) w) from by
    rw [HSH.out, ← rot_cat xs q]
    exact concat_any v [xs.drop q, xs.take q] w hv (by show 0 < sumL [xs.drop q, xs.take q] 2; rw [HS1.out]; omega) (by show sumL [xs.drop q, xs.take q] 2 ≤ 1048576; rw [HS1.out]; omega))
  have HLL := Lib.hid hL
  rw [← hL] at hl1 hl60 hc
  have HV2 := Lib.hid (show ReadsI w (.slice (some ⟨b, o, none⟩) L c) xs by rw [hL]; exact HV.out)
  rw [← hL]
  have hl0 : ¬ (L : Int) = 0 := by omega
  have hln : ¬ L = 0 := by omega
  have hlb : ((L : Int) == 0) = false := by rw [beq_eq_false_iff_ne]; exact hl0
  have hb0 : 0 ≤ (by_ : Int) := by omega
  have hmt : (by_ : Int).tmod (L : Int) = (q : Int) := by rw [Int.tmod_eq_emod_of_nonneg hb0]; exact hmm
  have hqw : IntKind.i64.wrap (q : Int) = (q : Int) := IntWalk.i64_in _ (by omega)
  have hq0 : 0 ≤ (q : Int) := by omega
  have hq1 : (q : Int) ≤ (L : Int) := by omega
  have hq2 : (q : Int) ≤ (c : Int) := by omega
  have hq3 : ¬ c = q := by omega
  have hq4 : q ≤ L := by omega
  have hq5 : q ≤ c := by omega
  have hcb1 : (w.alloc (.cells #[.int .i64 n, .bool g] 28)).cell? ⟨bb, 0, none⟩ = some (.int .i64 by_) := ((below_new w _).cell (p := ⟨bb, 0, none⟩) hbb).trans hcb
  clear hL hq hcb
  unfold rd at *
  go_enter Try.func64, Try.ntmps64
  go_wp2_with fail
  refine wp_region_noPanic ?_
  have HXO := Lib.hid HX.out
  have HX := Lib.hid (HX.out.next (below_drewN _ 1))
  refine wp_region_held_drew (S := fun w' => Boxed w.heap.size n g w w' ∧ w'.cell? ⟨w.heap.size, 0, none⟩ = some (.int .i64 n) ∧ w'.cell? ⟨w.heap.size, 1, none⟩ = some (.bool g)) (by kernel_rfl) (⟨HX.out, HX.out.c0, HX.out.c1⟩) (fun hHeld => ?_)
  refine wpAnyH_take (i := 0) (oi := _) (v := ?_) rfl (by kernel_rfl) (by kernel_rfl) (by kernel_rfl) (fun _ _ _ h => h) (Or.inl ⟨by rfl, ?_⟩) (by assumption) ?_
  rotate_left
  · (intro w hSw; (try dsimp only at hSw); (first | (go_simp; done) | (go_simp; with_reducible rfl)))
  simp only [Act.put, List.getElem_toArray, List.getElem_cons_succ, List.getElem_cons_zero, List.setIfInBounds_toArray, List.set_cons_zero, List.set_cons_succ]
  refine wpAnyH_take (i := 1) (oi := _) (v := ?_) rfl (by kernel_rfl) (by kernel_rfl) (by kernel_rfl) (fun _ _ _ h => h) (Or.inl ⟨by rfl, ?_⟩) (by assumption) ?_
  rotate_left
  · (intro w hSw; (try dsimp only at hSw); (first | (go_simp; done) | (go_simp; with_reducible rfl)))
  simp only [Act.put, List.getElem_toArray, List.getElem_cons_succ, List.getElem_cons_zero, List.setIfInBounds_toArray, List.set_cons_zero, List.set_cons_succ]
  refine wpAnyH_take (i := 2) (oi := _) (v := ?_) rfl (by kernel_rfl) (by kernel_rfl) (by kernel_rfl) (fun _ _ _ h => h) (Or.inl ⟨by rfl, ?_⟩) (by assumption) ?_
  rotate_left
  · (intro w hSw; (try dsimp only at hSw); (first | (go_simp; done) | (go_simp; with_reducible rfl)))
  simp only [Act.put, List.getElem_toArray, List.getElem_cons_succ, List.getElem_cons_zero, List.setIfInBounds_toArray, List.set_cons_zero, List.set_cons_succ]
  refine wpAnyH_take (i := 3) (oi := _) (v := ?_) rfl (by kernel_rfl) (by kernel_rfl) (by kernel_rfl) (fun _ _ _ h => h) (Or.inl ⟨by rfl, ?_⟩) (by assumption) ?_
  rotate_left
  · (intro w hSw; (try dsimp only at hSw); (first | (go_simp; done) | (go_simp; with_reducible rfl)))
  simp only [Act.put, List.getElem_toArray, List.getElem_cons_succ, List.getElem_cons_zero, List.setIfInBounds_toArray, List.set_cons_zero, List.set_cons_succ]
  refine wpAnyH_take (i := 4) (oi := _) (v := ?_) rfl (by kernel_rfl) (by kernel_rfl) (by kernel_rfl) (fun _ _ _ h => h) (Or.inl ⟨by rfl, ?_⟩) (by assumption) ?_
  rotate_left
  · (intro w hSw; (try dsimp only at hSw); (first | (go_simp; done) | (go_simp; with_reducible rfl)))
  simp only [Act.put, List.getElem_toArray, List.getElem_cons_succ, List.getElem_cons_zero, List.setIfInBounds_toArray, List.set_cons_zero, List.set_cons_succ]
  refine wpAnyH_take (i := 5) (oi := _) (v := ?_) rfl (by kernel_rfl) (by kernel_rfl) (by kernel_rfl) (fun _ _ _ h => h) (Or.inl ⟨by rfl, ?_⟩) (by assumption) ?_
  rotate_left
  · (intro w hSw; (try dsimp only at hSw); (first | (go_simp; done) | (go_simp; with_reducible rfl)))
  simp only [Act.put, List.getElem_toArray, List.getElem_cons_succ, List.getElem_cons_zero, List.setIfInBounds_toArray, List.set_cons_zero, List.set_cons_succ]
  refine wpAnyH_ready (rs := [6]) (by kernel_rfl) (by simp) ?_
  refine AllReadyH.cons rfl (fun K hK => ?_) AllReadyH.nil
  go_simp
  refine hK.out _ _ (⟨(hHeld.1.next (below_new _ _)), (hHeld.1.next (below_new _ _)).c0, (hHeld.1.next (below_new _ _)).c1⟩) (fun hHeld => ?_)
  clear hK K
  have HX := Lib.hid hHeld.1
  refine wpAnyH_ready (rs := [7]) (by kernel_rfl) (by simp) ?_
  refine AllReadyH.cons rfl (fun K hK => ?_) AllReadyH.nil
  go_simp
  have hsz := HX.out.size
  refine (HCC.out _ _ ?_).mono ?_
  · exact (readsN_rot (t := 43) _ q L (by simp) HXO.out.below HV2.out HLL.out.symm hq4 _ _ (by first | rfl | omega) (by first | rfl | omega)).below (below_drewN _ 1)
  rintro e w22 ⟨u, rfl, ho, hb⟩
  have HX := Lib.hid (HX.out.next hb)
  have HO := Lib.hid (owns_lower ho (base' := w.heap.size) (by omega))
  clear ho hb
  clear hHeld
  try go_wp2_with fail
  refine hK.out _ _ (⟨HX.out, HX.out.c0, HX.out.c1⟩) (fun hHeld => ?_)
  clear hK K
  refine wpAnyH_take (i := 8) (oi := _) (v := ?_) rfl (by kernel_rfl) (by kernel_rfl) (by kernel_rfl) (fun _ _ _ h => h) (Or.inl ⟨by rfl, ?_⟩) (by assumption) ?_
  rotate_left
  · (intro w hSw; (try dsimp only at hSw); (first | (go_simp; done) | (go_simp; with_reducible rfl)))
  simp only [Act.put, List.getElem_toArray, List.getElem_cons_succ, List.getElem_cons_zero, List.setIfInBounds_toArray, List.set_cons_zero, List.set_cons_succ]
  refine wpAnyH_take (i := 9) (oi := _) (v := ?_) rfl (by kernel_rfl) (by kernel_rfl) (by kernel_rfl) (fun _ _ _ h => h) (Or.inl ⟨by rfl, ?_⟩) (by assumption) ?_
  rotate_left
  · (intro w hSw; (try dsimp only at hSw); (first | (go_simp; done) | (go_simp; with_reducible rfl)))
  simp only [Act.put, List.getElem_toArray, List.getElem_cons_succ, List.getElem_cons_zero, List.setIfInBounds_toArray, List.set_cons_zero, List.set_cons_succ]
  refine wpAnyH_done (by kernel_rfl) ?_ _
  refine NoPanic.normal ?_
  clear hHeld
  go_wp2_with fail
  go_ret2
  exact ⟨u, rfl, HO.out, HX.out.below⟩
end Go.Proofs.Ytefjignlhlpndaa
