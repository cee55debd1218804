/-
  What is proved: the walk of the law FnGaps. Conditions: the bytes read as bytes.
-/
import Derived.Test.YtebahfbegeoamabDg
import Derived.Test.YtebahfbegeoamabLwb
import Derived.Test.YtebahfbegeoamabFn28
import Derived.Test.YtebahfbegeoamabFn13
import Derived.Test.YtebahfbegeoamabFn23
namespace Go.Proofs.Ytebahfbegeoamab
open Go.RowKit
set_option linter.unusedVariables false
set_option linter.unusedSimpArgs false

theorem gap_sym (n : Int) (g : Bool) (a b : Int) : gapI n g a b = gapI n g b a := by
  unfold gapI
  split <;> omega
theorem gap_tri {n : Int} {g : Bool} {a b c : Int} (ha : 0 ≤ a ∧ a < n) (hb : 0 ≤ b ∧ b < n) (hc : 0 ≤ c ∧ c < n) : gapI n g a b ≤ gapI n g a c + gapI n g c b := by
  unfold gapI
  split <;> omega
theorem near_gap {n : Int} {g : Bool} {p x : Int} (hr : roadB n g = true) (hp : 0 ≤ p ∧ p < n) (hx : 0 ≤ x ∧ x < n) : x ∈ sortI (nbA n g p ++ nbB n g p) ↔ gapI n g p x = 1 := by
  obtain ⟨h2, _, h3⟩ := (roadB_iff n g).1 hr
  have hA : x ∈ nbA n g p ↔ x = afterI n g p := by
    unfold nbA
    constructor
    · intro h
      split at h
      · simpa using h
      · cases h
    · intro h
      have : placeB n g (afterI n g p) = true := (placeB_iff n g _).2 ⟨hr, h ▸ hx⟩
      rw [if_pos this, h]
      exact List.mem_singleton.2 rfl
  have hB : x ∈ nbB n g p ↔ x = beforeI n g p := by
    unfold nbB
    constructor
    · intro h
      split at h
      · simpa using h
      · cases h
    · intro h
      have : placeB n g (beforeI n g p) = true := (placeB_iff n g _).2 ⟨hr, h ▸ hx⟩
      rw [if_pos this, h]
      exact List.mem_singleton.2 rfl
  unfold sortI
  rw [List.mem_mergeSort, List.mem_append, hA, hB]
  unfold gapI afterI beforeI
  cases g
  · simp
    omega
  · have := h3 rfl
    simp only [if_true, true_and]
    by_cases c1 : p = n - 1
    · rw [if_pos c1]
      by_cases c2 : p = 0
      · omega
      · rw [if_neg c2]; omega
    · rw [if_neg c1]
      by_cases c2 : p = 0
      · rw [if_pos c2]; omega
      · rw [if_neg c2]; omega

theorem mem_nxL {n : Int} {g : Bool} {p x : Int} (hr : roadB n g = true) (hp : 0 ≤ p ∧ p < n) (hx : 0 ≤ x ∧ x < n) : x ∈ nxL n g p ↔ gapI n g p x = 1 := by
  rw [← nb_same hr hp]
  exact near_gap hr hp hx
theorem straight_end {n : Int} {g : Bool} {a b : Int} {m : Nat} (hn : 2 ≤ n) (ha : 0 ≤ a ∧ a < n) (hb : 0 ≤ b ∧ b < n) (hm : gapI n g a b = m) : (straightL n g a b)[m]? = some b := by
  unfold straightL
  rw [hm]
  cases hd : downB n g a b
  · rw [wlk_at _ _ _ (by simp)]
    simp only [Bool.false_eq_true, if_false]
    rw [(straight_up hn ha hb hm hd).1]
  · rw [wlk_at _ _ _ (by simp)]
    simp only [if_true]
    rw [(straight_dn hn ha hb hm hd).2.1]
theorem straight_walk {n : Int} {g : Bool} {a b : Int} (hr : roadB n g = true) (ha : 0 ≤ a ∧ a < n) (hb : 0 ≤ b ∧ b < n) : Walk n g (straightL n g a b) := by
  obtain ⟨h2, h24, _⟩ := (roadB_iff n g).1 hr
  have hg := gap_range n g a b ⟨h2, h24⟩ ha hb
  obtain ⟨m, hm⟩ := Int.eq_ofNat_of_zero_le hg.1
  unfold straightL
  rw [hm]
  cases hd : downB n g a b
  · refine wlk_walk hr (by simp; omega) (fun k _ => posC_range h2) (fun k hk => .inl ?_)
    simp only [Bool.false_eq_true, if_false]
    exact (straight_up h2 ha hb hm hd).2.2 k (by simpa using hk)
  · refine wlk_walk hr (by simp; omega) (fun k _ => posC_range h2) (fun k hk => .inr ?_)
    simp only [if_true]
    exact (straight_dn h2 ha hb hm hd).2.2.2 k (by simpa using hk)
/-- what GapOf and StraightWalk answer, alike -/
theorem gap_both (n : Int) (g : Bool) (a b : Int) : ∃ (mz : Nat) (zs : List Int) (ok : Bool), gapR n g a b = ((mz : Int), ok) ∧ straightR n g a b = (zs, ok) ∧ zs.length ≤ 100 ∧ mz ≤ 24 ∧
    (ok = true → roadB n g = true ∧ (0 ≤ a ∧ a < n) ∧ (0 ≤ b ∧ b < n) ∧ gapI n g a b = mz ∧ zs.length = mz + 1 ∧ zs[mz]? = some b ∧ walkD n g zs = true) := by
  cases h : (placeB n g a && placeB n g b)
  · exact ⟨0, [], false, gapR_no h, straightR_no h, by simp, by omega, fun h => by cases h⟩
  · obtain ⟨h1, h2⟩ := Bool.and_eq_true_iff.1 h
    obtain ⟨hr, ha⟩ := (placeB_iff n g a).1 h1
    obtain ⟨_, hb⟩ := (placeB_iff n g b).1 h2
    obtain ⟨hn2, hn24, _⟩ := (roadB_iff n g).1 hr
    have hg := gap_range n g a b ⟨hn2, hn24⟩ ha hb
    obtain ⟨m, hm⟩ := Int.eq_ofNat_of_zero_le hg.1
    have hl : (straightL n g a b).length = m + 1 := by unfold straightL; rw [wlk_len, hm]; simp
    exact ⟨m, straightL n g a b, true, by rw [gapR_yes h, hm], straightR_yes h, by rw [hl]; omega, by omega, fun _ => ⟨hr, ha, hb, hm, hl, straight_end hn2 ha hb hm, (walkD_iff n g _).2 (straight_walk hr ha hb)⟩⟩
theorem nb_both (n : Int) (g : Bool) (p : Int) : ∃ (zs : List Int) (ok : Bool), nbR n g p = (zs, ok) ∧ zs.length ≤ 1048576 ∧ (ok = true → roadB n g = true ∧ (0 ≤ p ∧ p < n) ∧ ∀ x, 0 ≤ x ∧ x < n → (x ∈ zs ↔ gapI n g p x = 1)) := by
  have hl := nbR_len n g p
  cases h : placeB n g p
  · exact ⟨[], false, nbR_no h, by simp, fun h => by cases h⟩
  · obtain ⟨hr, hp⟩ := (placeB_iff n g p).1 h
    rw [nbR_yes h] at hl
    exact ⟨nxL n g p, true, nbR_yes h, hl, fun _ => ⟨hr, hp, fun x hx => mem_nxL hr hp hx⟩⟩
set_option maxRecDepth 20000 in
theorem impl_IsWalkB (n : Int) (g : Bool) (v : Value) (xs : List Int) (w : World) (hv : ReadsI w v xs) :
    Calls Try.prog 42 #[rd n g, v] w fun e w' => e = .returned (.tuple #[.bool (walkD n g xs), .bool (roadB n g)]) ∧ Below w.heap.size w w' := by
  have HR := Lib.hid (fun w => isRoad_any n g w)
  have HW := Lib.hid (fun v w hv => areWalks_one n g v xs w hv)
  have HX := Lib.hid (Boxed.first w n g 27)
  have HV := Lib.hid (hv.below (below_new w (.cells #[.int .i64 n, .bool g] 27)))
  obtain ⟨y, c, hvv, _⟩ := hv
  subst hvv
  unfold rd at *
  go_enter Try.func42, Try.ntmps42
  go_wp2_with fail
  generalize w.alloc (Obj.cells #[Value.int IntKind.i64 n, Value.bool g] 27) = w1 at *
  have h0 := HX.out.c0
  have h1 := HX.out.c1
  go_region_held3 (fun w' => Boxed w.heap.size n g w w' ∧ w'.cell? ⟨w.heap.size, 0, none⟩ = some (.int .i64 n) ∧ w'.cell? ⟨w.heap.size, 1, none⟩ = some (.bool g) ∧ ReadsI w' (.slice y xs.length c) xs) (first | exact hS | exact ⟨HX.out.next (below_drewN _ 1), h0, h1, HV.out.below (below_drewN _ 1)⟩ | exact keepA (by assumption)) (first | (go_at_call 52; refine (HW.out _ _ (one_list_drew HV.out)).mono ?_; rintro e w2 ⟨rfl, hb⟩; have hS := keepB (by assumption) hb; clear hb) | (go_at_call 39; refine (HR.out _).mono ?_; rintro e w2 ⟨rfl, hb⟩; have hS := keepB (by assumption) hb; clear hb))
  have HZ := Lib.hid hS.1
  go_wp2_with fail
  go_ret2
  exact ⟨rfl, HZ.out.below⟩
def GbRel (K1 : Nat) (n : Int) (g : Bool) (wa : World) (i : Value) (wr : World) : Prop :=
  ∃ k : Nat, (k : Int) ≤ n ∧ i = .int .i64 k ∧ Boxed K1 n g wa wr
set_option maxHeartbeats 3200000 in
set_option maxRecDepth 100000 in
theorem fnGaps_small (v : Value) (w : World) (hv : CodeOK w v) (hn : ∀ a k c, v = .slice a k c → k ≤ 65536) :
    Calls Try.prog 10 #[v] w fun e w' => e = .returned (.bool true) ∧ Below w.heap.size w w' := by
  have HV := Lib.hid hv
  obtain ⟨av, kv, cv, hvv, _⟩ := hv
  subst hvv
  have hk := hn av kv cv rfl
  clear hn
  go_enter Try.func10, Try.ntmps10
  go_wp2_with fail
  refine (rBig_no av kv cv w hk).mono ?_
  rintro e w0 ⟨rfl, rfl⟩
  go_wp2_with fail
  refine (drawGap_any _ w HV.out).mono ?_
  rintro e w1 ⟨n, g, a, b, rfl, _, hb1⟩
  obtain ⟨mz, zs, ok, hgr, hsr, hzl, hmz, hf⟩ := gap_both n g a b
  have HB1 := Lib.hid hb1
  have HV1 := Lib.hid (HV.out.below hb1)
  have HGR := Lib.hid hgr
  have HSR := Lib.hid hsr
  have HF := Lib.hid hf
  have HGI := Lib.hid (fun w => impl_GapOf n g a b w)
  have HGS := Lib.hid (fun w => spec_GapOf n g a b w)
  have HSI := Lib.hid (fun w => impl_StraightWalk n g a b w)
  have HSS := Lib.hid (fun w => spec_StraightWalk n g a b w)
  have HX := Lib.hid (Boxed.first w1 n g 27)
  clear hb1 hgr hsr hf
  unfold rd at *
  go_wp2_with fail
  refine (HGI.out _).mono ?_
  rintro e w2 ⟨rfl, hb⟩
  have HX := Lib.hid (HX.out.next hb)
  have h0 := HX.out.c0
  have h1 := HX.out.c1
  clear hb
  rw [HGR.out]
  go_wp2_with fail
  refine (HGS.out _).mono ?_
  rintro e w3 ⟨rfl, hb⟩
  have HX := Lib.hid (HX.out.next hb)
  clear h0 h1
  have h0 := HX.out.c0
  have h1 := HX.out.c1
  clear hb
  rw [HGR.out]
  go_wp2_with fail
  refine (HSI.out _).mono ?_
  rintro e w4 ⟨v4, rfl, ho, hb⟩
  rw [HSR.out] at ho ⊢
  have HX := Lib.hid (HX.out.next hb)
  have HS1 := Lib.hid (owns_reads ho (by show zs.length ≤ maxLen; unfold maxLen; omega))
  clear h0 h1
  have h0 := HX.out.c0
  have h1 := HX.out.c1
  clear hb ho
  go_wp2_with fail
  refine (HSS.out _).mono ?_
  rintro e w5 ⟨v5, rfl, ho, hb⟩
  rw [HSR.out] at ho ⊢
  have HX := Lib.hid (HX.out.next hb)
  have HS1 := Lib.hid (HS1.out.below hb)
  have HS2 := Lib.hid (owns_reads ho (by show zs.length ≤ maxLen; unfold maxLen; omega))
  clear h0 h1
  have h0 := HX.out.c0
  have h1 := HX.out.c1
  clear hb ho
  go_wp2_with fail
  refine (rInts_yes _ _ zs _ HS1.out HS2.out).mono ?_
  rintro e w6 ⟨rfl, hb⟩
  have HX := Lib.hid (HX.out.next hb)
  have HS1 := Lib.hid (HS1.out.below hb)
  clear h0 h1
  have h0 := HX.out.c0
  have h1 := HX.out.c1
  clear hb
  go_wp2_with fail
  refine (drawNbr_any _ w6 (HV1.out.below HX.out.below)).mono ?_
  rintro e w7 ⟨n2, g2, p, rfl, _, hb⟩
  have HX := Lib.hid ((HX.out.next hb).next (below_new w7 (.cells #[.int .i64 n2, .bool g2] 27)))
  have HS1 := Lib.hid ((HS1.out.below hb).below (below_new w7 (.cells #[.int .i64 n2, .bool g2] 27)))
  have HY := Lib.hid (Boxed.first w7 n2 g2 27)
  obtain ⟨ns, two, hnr, hnl, hf2⟩ := nb_both n2 g2 p
  have HNR := Lib.hid hnr
  have HF2 := Lib.hid hf2
  have HNI := Lib.hid (fun w => impl_NeighborsOn n2 g2 p w)
  have HNS := Lib.hid (fun w => spec_NeighborsOn n2 g2 p w)
  clear hb h0 h1 hnr hf2
  unfold rd at *
  go_wp2_with fail
  refine (HNI.out _).mono ?_
  rintro e w8 ⟨v8, rfl, ho, hb⟩
  rw [HNR.out] at ho ⊢
  have HX := Lib.hid (HX.out.next hb)
  have HY := Lib.hid (HY.out.next hb)
  have HS1 := Lib.hid (HS1.out.below hb)
  have HN1 := Lib.hid (owns_reads ho (by show ns.length ≤ maxLen; unfold maxLen; omega))
  have h0 := HX.out.c0
  have h1 := HX.out.c1
  have h2 := HY.out.c0
  have h3 := HY.out.c1
  clear hb ho
  go_wp2_with fail
  refine (HNS.out _).mono ?_
  rintro e w15 ⟨v9, rfl, ho, hb⟩
  rw [HNR.out] at ho ⊢
  have HX := Lib.hid (HX.out.next hb)
  have HY := Lib.hid (HY.out.next hb)
  have HS1 := Lib.hid (HS1.out.below hb)
  have HN1 := Lib.hid (HN1.out.below hb)
  have HN2 := Lib.hid (owns_reads ho (by show ns.length ≤ maxLen; unfold maxLen; omega))
  clear h0 h1 h2 h3
  have h0 := HX.out.c0
  have h1 := HX.out.c1
  have h2 := HY.out.c0
  have h3 := HY.out.c1
  clear hb ho
  go_wp2_with fail
  refine wp_region_noPanic ?_
  refine wp_region_held_drew (S := fun w' => Below w15.heap.size w15 w' ∧ w'.cell? ⟨w7.heap.size, 0, none⟩ = some (.int .i64 n2) ∧ w'.cell? ⟨w7.heap.size, 1, none⟩ = some (.bool g2)) (by kernel_rfl) ⟨below_drewN _ 1, HY.out.c0, HY.out.c1⟩ (fun hHeld => ?_)
  refine wpAnyH_take (i := 0) (oi := _) (v := ?_) rfl (by kernel_rfl) (by kernel_rfl) (by kernel_rfl) (fun _ _ _ h => h) (Or.inl ⟨by rfl, ?_⟩) (by assumption) ?_
  rotate_left
  · (intro w hSw; (try dsimp only at hSw); (first | (go_simp; done) | (go_simp; with_reducible rfl)))
  simp only [Act.put, List.getElem_toArray, List.getElem_cons_succ, List.getElem_cons_zero, List.setIfInBounds_toArray, List.set_cons_zero, List.set_cons_succ]
  refine wpAnyH_take (i := 1) (oi := _) (v := ?_) rfl (by kernel_rfl) (by kernel_rfl) (by kernel_rfl) (fun _ _ _ h => h) (Or.inl ⟨by rfl, ?_⟩) (by assumption) ?_
  rotate_left
  · (intro w hSw; (try dsimp only at hSw); (first | (go_simp; done) | (go_simp; with_reducible rfl)))
  simp only [Act.put, List.getElem_toArray, List.getElem_cons_succ, List.getElem_cons_zero, List.setIfInBounds_toArray, List.set_cons_zero, List.set_cons_succ]
  refine wpAnyH_take (i := 2) (oi := _) (v := ?_) rfl (by kernel_rfl) (by kernel_rfl) (by kernel_rfl) (fun _ _ _ h => h) (Or.inl ⟨by rfl, ?_⟩) (by assumption) ?_
  rotate_left
  · (intro w hSw; (try dsimp only at hSw); (first | (go_simp; done) | (go_simp; with_reducible rfl)))
  simp only [Act.put, List.getElem_toArray, List.getElem_cons_succ, List.getElem_cons_zero, List.setIfInBounds_toArray, List.set_cons_zero, List.set_cons_succ]
  refine wpAnyH_take (i := 3) (oi := _) (v := ?_) rfl (by kernel_rfl) (by kernel_rfl) (by kernel_rfl) (fun _ _ _ h => h) (Or.inl ⟨by rfl, ?_⟩) (by assumption) ?_
  rotate_left
  · (intro w hSw; (try dsimp only at hSw); (first | (go_simp; done) | (go_simp; with_reducible rfl)))
  simp only [Act.put, List.getElem_toArray, List.getElem_cons_succ, List.getElem_cons_zero, List.setIfInBounds_toArray, List.set_cons_zero, List.set_cons_succ]
  refine wpAnyH_take (i := 4) (oi := _) (v := ?_) rfl (by kernel_rfl) (by kernel_rfl) (by kernel_rfl) (fun _ _ _ h => h) (Or.inl ⟨by rfl, ?_⟩) (by assumption) ?_
  rotate_left
  · (intro w hSw; (try dsimp only at hSw); (first | (go_simp; done) | (go_simp; with_reducible rfl)))
  simp only [Act.put, List.getElem_toArray, List.getElem_cons_succ, List.getElem_cons_zero, List.setIfInBounds_toArray, List.set_cons_zero, List.set_cons_succ]
  refine wpAnyH_take (i := 5) (oi := _) (v := ?_) rfl (by kernel_rfl) (by kernel_rfl) (by kernel_rfl) (fun _ _ _ h => h) (Or.inl ⟨by rfl, ?_⟩) (by assumption) ?_
  rotate_left
  · (intro w hSw; (try dsimp only at hSw); (first | (go_simp; done) | (go_simp; with_reducible rfl)))
  simp only [Act.put, List.getElem_toArray, List.getElem_cons_succ, List.getElem_cons_zero, List.setIfInBounds_toArray, List.set_cons_zero, List.set_cons_succ]
  refine wpAnyH_ready (rs := [6]) (by kernel_rfl) (by simp) ?_
  refine AllReadyH.cons rfl (fun K hK => ?_) AllReadyH.nil
  go_simp
  refine (rInts_yes _ _ ns _ (HN1.out.below hHeld.1) (HN2.out.below hHeld.1)).mono ?_
  rintro e w9 ⟨rfl, hb⟩
  have hS : Below w15.heap.size w15 w9 ∧ w9.cell? ⟨w7.heap.size, 0, none⟩ = some (.int .i64 n2) ∧ w9.cell? ⟨w7.heap.size, 1, none⟩ = some (.bool g2) := ⟨hHeld.1.trans (hb.mono hHeld.1.size), (hb.cell (p := ⟨w7.heap.size, 0, none⟩) (Nat.lt_of_lt_of_le HY.out.size hHeld.1.size)).trans hHeld.2.1, (hb.cell (p := ⟨w7.heap.size, 1, none⟩) (Nat.lt_of_lt_of_le HY.out.size hHeld.1.size)).trans hHeld.2.2⟩
  clear hb hHeld
  go_wp2_with fail
  refine hK.out _ _ (hS) (fun hHeld => ?_)
  clear hK K
  refine wpAnyH_take (i := 7) (oi := _) (v := ?_) rfl (by kernel_rfl) (by kernel_rfl) (by kernel_rfl) (fun _ _ _ h => h) (Or.inl ⟨by rfl, ?_⟩) (by assumption) ?_
  rotate_left
  · (intro w hSw; (try dsimp only at hSw); (first | (go_simp; done) | (go_simp; with_reducible rfl)))
  simp only [Act.put, List.getElem_toArray, List.getElem_cons_succ, List.getElem_cons_zero, List.setIfInBounds_toArray, List.set_cons_zero, List.set_cons_succ]
  refine wpAnyH_take (i := 8) (oi := _) (v := ?_) rfl (by kernel_rfl) (by kernel_rfl) (by kernel_rfl) (fun _ _ _ h => h) (Or.inl ⟨by rfl, ?_⟩) (by assumption) ?_
  rotate_left
  · (intro w hSw; (try dsimp only at hSw); (first | (go_simp; done) | (go_simp; with_reducible rfl)))
  simp only [Act.put, List.getElem_toArray, List.getElem_cons_succ, List.getElem_cons_zero, List.setIfInBounds_toArray, List.set_cons_zero, List.set_cons_succ]
  refine wpAnyH_take (i := 9) (oi := _) (v := ?_) rfl (by kernel_rfl) (by kernel_rfl) (by kernel_rfl) (fun _ _ _ h => h) (Or.inl ⟨by rfl, ?_⟩) (by assumption) ?_
  rotate_left
  · (intro w hSw; (try dsimp only at hSw); (first | (go_simp; done) | (go_simp; with_reducible rfl)))
  simp only [Act.put, List.getElem_toArray, List.getElem_cons_succ, List.getElem_cons_zero, List.setIfInBounds_toArray, List.set_cons_zero, List.set_cons_succ]
  refine wpAnyH_take (i := 10) (oi := _) (v := ?_) rfl (by kernel_rfl) (by kernel_rfl) (by kernel_rfl) (fun _ _ _ h => h) (Or.inl ⟨by rfl, ?_⟩) (by assumption) ?_
  rotate_left
  · (intro w hSw; (try dsimp only at hSw); (first | (go_simp; done) | (go_simp; with_reducible rfl)))
  simp only [Act.put, List.getElem_toArray, List.getElem_cons_succ, List.getElem_cons_zero, List.setIfInBounds_toArray, List.set_cons_zero, List.set_cons_succ]
  refine wpAnyH_take (i := 12) (oi := _) (v := ?_) rfl (by kernel_rfl) (by kernel_rfl) (by kernel_rfl) (fun _ _ _ h => h) (Or.inl ⟨by rfl, ?_⟩) (by assumption) ?_
  rotate_left
  · (intro w hSw; (try dsimp only at hSw); (first | (go_simp; done) | (go_simp; with_reducible rfl)))
  simp only [Act.put, List.getElem_toArray, List.getElem_cons_succ, List.getElem_cons_zero, List.setIfInBounds_toArray, List.set_cons_zero, List.set_cons_succ]
  refine wpAnyH_ready (rs := [11]) (by kernel_rfl) (by simp) ?_
  refine AllReadyH.cons rfl (fun K hK => ?_) AllReadyH.nil
  go_simp
  refine (isRoad_any n2 g2 _).mono ?_
  rintro e w9 ⟨rfl, hb⟩
  have hS : Below w15.heap.size w15 w9 ∧ w9.cell? ⟨w7.heap.size, 0, none⟩ = some (.int .i64 n2) ∧ w9.cell? ⟨w7.heap.size, 1, none⟩ = some (.bool g2) := ⟨hHeld.1.trans (hb.mono hHeld.1.size), (hb.cell (p := ⟨w7.heap.size, 0, none⟩) (Nat.lt_of_lt_of_le HY.out.size hHeld.1.size)).trans hHeld.2.1, (hb.cell (p := ⟨w7.heap.size, 1, none⟩) (Nat.lt_of_lt_of_le HY.out.size hHeld.1.size)).trans hHeld.2.2⟩
  clear hb hHeld
  go_wp2_with fail
  refine hK.out _ _ (hS) (fun hHeld => ?_)
  clear hK K
  refine wpAnyH_ready (rs := [13]) (by kernel_rfl) (by simp) ?_
  refine AllReadyH.cons rfl (fun K hK => ?_) AllReadyH.nil
  go_simp
  refine (modelIsRoad_any n2 g2 _).mono ?_
  rintro e w9 ⟨rfl, hb⟩
  have hS : Below w15.heap.size w15 w9 ∧ w9.cell? ⟨w7.heap.size, 0, none⟩ = some (.int .i64 n2) ∧ w9.cell? ⟨w7.heap.size, 1, none⟩ = some (.bool g2) := ⟨hHeld.1.trans (hb.mono hHeld.1.size), (hb.cell (p := ⟨w7.heap.size, 0, none⟩) (Nat.lt_of_lt_of_le HY.out.size hHeld.1.size)).trans hHeld.2.1, (hb.cell (p := ⟨w7.heap.size, 1, none⟩) (Nat.lt_of_lt_of_le HY.out.size hHeld.1.size)).trans hHeld.2.2⟩
  clear hb hHeld
  go_wp2_with fail
  refine hK.out _ _ (hS) (fun hHeld => ?_)
  clear hK K
  refine wpAnyH_take (i := 14) (oi := _) (v := ?_) rfl (by kernel_rfl) (by kernel_rfl) (by kernel_rfl) (fun _ _ _ h => h) (Or.inl ⟨by rfl, ?_⟩) (by assumption) ?_
  rotate_left
  · (intro w hSw; (try dsimp only at hSw); (first | (go_simp; done) | (go_simp; with_reducible rfl)))
  simp only [Act.put, List.getElem_toArray, List.getElem_cons_succ, List.getElem_cons_zero, List.setIfInBounds_toArray, List.set_cons_zero, List.set_cons_succ]
  refine wpAnyH_take (i := 15) (oi := _) (v := ?_) rfl (by kernel_rfl) (by kernel_rfl) (by kernel_rfl) (fun _ _ _ h => h) (Or.inl ⟨by rfl, ?_⟩) (by assumption) ?_
  rotate_left
  · (intro w hSw; (try dsimp only at hSw); (first | (go_simp; done) | (go_simp; with_reducible rfl)))
  simp only [Act.put, List.getElem_toArray, List.getElem_cons_succ, List.getElem_cons_zero, List.setIfInBounds_toArray, List.set_cons_zero, List.set_cons_succ]
  refine wpAnyH_done (by kernel_rfl) ?_ _
  refine NoPanic.normal ?_
  have hb9 := hHeld.1
  clear hHeld
  have HX := Lib.hid (HX.out.next hb9)
  have HY := Lib.hid (HY.out.next hb9)
  have HS1 := Lib.hid (HS1.out.below hb9)
  have HN1 := Lib.hid (HN1.out.below hb9)
  clear h0 h1 h2 h3 hb9
  have h0 := HX.out.c0
  have h1 := HX.out.c1
  have h2 := HY.out.c0
  have h3 := HY.out.c1
  cases two
  · clear HN1 HN2 h2 h3
    cases ok
    · go_wp2_with fail
      go_ret
      exact ⟨rfl, HB1.out.trans (HX.out.below.mono HB1.out.size)⟩
    · obtain ⟨hr, ⟨ha0, ha1⟩, ⟨hb0, hb1⟩, hgz, hzl, hzm, hwd⟩ := HF.out rfl
      obtain ⟨hn2, hn24, _⟩ := (roadB_iff n g).1 hr
      have HGB := Lib.hid (show gapR n g b a = ((mz : Int), true) from by rw [gapR_yes (by rw [(placeB_iff n g b).2 ⟨hr, hb0, hb1⟩, (placeB_iff n g a).2 ⟨hr, ha0, ha1⟩]; rfl), gap_sym, hgz])
      have HGBA := Lib.hid (fun w => impl_GapOf n g b a w)
      have HIW := Lib.hid (fun v w hv => impl_IsWalkB n g v zs w hv)
      have HWD := Lib.hid hwd
      have HRD := Lib.hid hr
      have HZL := Lib.hid hzl
      have HZM := Lib.hid hzm
      have HTRI := Lib.hid (fun k (hk : 0 ≤ k ∧ k < n) => show (mz : Int) ≤ gapI n g a k + gapI n g k b from hgz ▸ gap_tri ⟨ha0, ha1⟩ ⟨hb0, hb1⟩ hk)
      have HRG := Lib.hid (fun x y (hx : 0 ≤ x ∧ x < n) (hy : 0 ≤ y ∧ y < n) => gap_range n g x y ⟨hn2, hn24⟩ hx hy)
      clear hr hgz hzl hzm hwd
      go_wp2_with fail
      refine (HGBA.out _).mono ?_
      rintro e w20 ⟨rfl, hb⟩
      have HX := Lib.hid (HX.out.next hb)
      have HS1 := Lib.hid (HS1.out.below hb)
      clear hb h0 h1
      have h0 := HX.out.c0
      have h1 := HX.out.c1
      rw [HGB.out]
      go_wp2_with fail
      refine (HIW.out _ _ HS1.out).mono ?_
      rintro e w21 ⟨rfl, hb⟩
      have HX := Lib.hid (HX.out.next hb)
      have HS1 := Lib.hid (HS1.out.below hb)
      clear hb h0 h1
      have h0 := HX.out.c0
      have h1 := HX.out.c1
      rw [HWD.out, HRD.out]
      obtain ⟨sa, sc, hsv, hsc, hsm, hsx⟩ := HS1.out
      subst hsv
      obtain ⟨sb, so, hsa, hsbl, hscell⟩ := hsx _ _ HZM.out
      subst hsa
      have hzl2 : zs.length = mz + 1 := HZL.out
      have hzi : (zs.length : Int) = (mz : Int) + 1 := by omega
      have hzb : ((zs.length : Int) != (mz : Int) + 1) = false := by simp [hzi]
      have HZI := Lib.hid hzi
      have hm0 : 0 ≤ (mz : Int) := by omega
      have hm1 : (mz : Int) < zs.length := by omega
      clear hzl2 hsx hzi HS1 HS2
      go_wp2_with fail
      go_loopw [2, 27] (fun r i wr => r = .bool false ∧ GbRel w1.heap.size n g w1 i wr) (fun _ i _ => n.toNat - (intOf i).toNat)
      case atStart => exact ⟨rfl, 0, by omega, rfl, HX.out⟩
      case round =>
        obtain ⟨rfl, k, hk, rfl, hx⟩ := hrel
        clear h0 h1 HX HY hscell
        have HX := Lib.hid hx
        have h0 := HX.out.c0
        have h1 := HX.out.c1
        clear hx
        by_cases hlt : (k : Int) < n
        · have hkp : placeB n g k = true := (placeB_iff n g k).2 ⟨HRD.out, by omega, by omega⟩
          have H1 := Lib.hid (gapR_yes (n := n) (g := g) (a := a) (b := k) (by rw [(placeB_iff n g a).2 ⟨HRD.out, ha0, ha1⟩, hkp]; rfl))
          have H2 := Lib.hid (gapR_yes (n := n) (g := g) (a := k) (b := b) (by rw [(placeB_iff n g b).2 ⟨HRD.out, hb0, hb1⟩, hkp]; rfl))
          have ht := HTRI.out k ⟨by omega, by omega⟩
          have hr1 := HRG.out a k ⟨ha0, ha1⟩ ⟨by omega, by omega⟩
          have hr2 := HRG.out k b ⟨by omega, by omega⟩ ⟨hb0, hb1⟩
          have C1 := Lib.hid (fun w => impl_GapOf n g a k w)
          have C2 := Lib.hid (fun w => impl_GapOf n g k b w)
          clear hkp
          go_wp2_with fail
          refine (C1.out _).mono ?_
          rintro e w22 ⟨rfl, hb⟩
          have HX := Lib.hid (HX.out.next hb)
          clear hb h0 h1
          have h0 := HX.out.c0
          have h1 := HX.out.c1
          rw [H1.out]
          go_wp2_with fail
          refine (C2.out _).mono ?_
          rintro e w23 ⟨rfl, hb⟩
          have HX := Lib.hid (HX.out.next hb)
          clear hb h0 h1
          rw [H2.out]
          have G1 := Lib.hid (rfl : gapI n g a k = gapI n g a k)
          generalize gapI n g a k = x1 at *
          generalize gapI n g k b = x2 at *
          have hnt : ¬ x1 + x2 < (mz : Int) := by omega
          clear G1
          go_wp2_with fail
          go_roundw
          case rel => exact ⟨rfl, k + 1, by omega, by go_num, HX.out⟩
          case measure => simp [intOf]; omega
        · go_wp2_with fail
          go_ret
          exact ⟨rfl, HB1.out.trans (HX.out.below.mono HB1.out.size)⟩
  · obtain ⟨hr2, ⟨hp0, hp1⟩, hmem⟩ := HF2.out rfl
    obtain ⟨hm2, hm24, _⟩ := (roadB_iff n2 g2).1 hr2
    have HMEM := Lib.hid hmem
    have HR2 := Lib.hid hr2
    clear hmem hr2 HN2
    go_wp2_with fail
    go_loopw [2, 20] (fun r i wr => r = .bool false ∧ ∃ k : Nat, (k : Int) ≤ n2 ∧ i = .int .i64 k ∧ Boxed w1.heap.size n g w1 wr ∧ Boxed w7.heap.size n2 g2 w7 wr ∧ ReadsI wr v8 ns ∧ ReadsI wr v4 zs) (fun _ i _ => n2.toNat - (intOf i).toNat)
    case atStart => exact ⟨rfl, 0, by omega, rfl, HX.out, HY.out, HN1.out, HS1.out⟩
    case round =>
      obtain ⟨rfl, k, hk9, rfl, hx, hy, hn9, hs9⟩ := hrel
      clear h0 h1 h2 h3 HX HY HN1 HS1
      have HX := Lib.hid hx
      have HY := Lib.hid hy
      have HN1 := Lib.hid hn9
      have HS1 := Lib.hid hs9
      have h2 := HY.out.c0
      have h3 := HY.out.c1
      clear hx hy hn9 hs9
      by_cases hlt : (k : Int) < n2
      · have hkp : placeB n2 g2 k = true := (placeB_iff n2 g2 k).2 ⟨HR2.out, by omega, by omega⟩
        have H1 := Lib.hid (gapR_yes (n := n2) (g := g2) (a := p) (b := k) (by rw [(placeB_iff n2 g2 p).2 ⟨HR2.out, hp0, hp1⟩, hkp]; rfl))
        have C1 := Lib.hid (fun w => impl_GapOf n2 g2 p k w)
        have HHAS := Lib.hid (fun w hv => rHas_any v8 ns k w hv)
        have hm9 := HMEM.out k ⟨by omega, by omega⟩
        by_cases hg1 : gapI n2 g2 p k = 1
        · have HD := Lib.hid (show decide ((k : Int) ∈ ns) = true from decide_eq_true (hm9.2 hg1))
          have HG1 := Lib.hid hg1
          clear hkp hm9 hg1
          go_wp2_with fail
          refine (C1.out _).mono ?_
          rintro e w16 ⟨rfl, hb⟩
          have HX := Lib.hid (HX.out.next hb)
          have HY := Lib.hid (HY.out.next hb)
          have HN1 := Lib.hid (HN1.out.below hb)
          have HS1 := Lib.hid (HS1.out.below hb)
          clear hb h2 h3
          rw [H1.out]
          rw [HG1.out]
          go_wp2_with fail
          refine (HHAS.out _ HN1.out).mono ?_
          rintro e w' ⟨rfl, rfl⟩
          rw [HD.out]
          go_wp2_with fail
          go_roundw
          case rel => exact ⟨rfl, k + 1, by omega, by go_num, HX.out, HY.out, HN1.out, HS1.out⟩
          case measure => simp [intOf]; omega
        · have HD := Lib.hid (show decide ((k : Int) ∈ ns) = false from decide_eq_false (fun h => hg1 (hm9.1 h)))
          have hg2 : (gapI n2 g2 p k == 1) = false := by simp [hg1]
          clear hkp hm9
          go_wp2_with fail
          refine (C1.out _).mono ?_
          rintro e w16 ⟨rfl, hb⟩
          have HX := Lib.hid (HX.out.next hb)
          have HY := Lib.hid (HY.out.next hb)
          have HN1 := Lib.hid (HN1.out.below hb)
          have HS1 := Lib.hid (HS1.out.below hb)
          clear hb h2 h3
          rw [H1.out]
          generalize gapI n2 g2 p k = q9 at *
          go_wp2_with fail
          refine (HHAS.out _ HN1.out).mono ?_
          rintro e w' ⟨rfl, rfl⟩
          rw [HD.out]
          go_wp2_with fail
          go_roundw
          case rel => exact ⟨rfl, k + 1, by omega, by go_num, HX.out, HY.out, HN1.out, HS1.out⟩
          case measure => simp [intOf]; omega
      · have h0 := HX.out.c0
        have h1 := HX.out.c1
        have HS2 := HS1
        cases ok
        · go_wp2_with fail
          go_ret
          exact ⟨rfl, HB1.out.trans (HX.out.below.mono HB1.out.size)⟩
        · obtain ⟨hr, ⟨ha0, ha1⟩, ⟨hb0, hb1⟩, hgz, hzl, hzm, hwd⟩ := HF.out rfl
          obtain ⟨hn2, hn24, _⟩ := (roadB_iff n g).1 hr
          have HGB := Lib.hid (show gapR n g b a = ((mz : Int), true) from by rw [gapR_yes (by rw [(placeB_iff n g b).2 ⟨hr, hb0, hb1⟩, (placeB_iff n g a).2 ⟨hr, ha0, ha1⟩]; rfl), gap_sym, hgz])
          have HGBA := Lib.hid (fun w => impl_GapOf n g b a w)
          have HIW := Lib.hid (fun v w hv => impl_IsWalkB n g v zs w hv)
          have HWD := Lib.hid hwd
          have HRD := Lib.hid hr
          have HZL := Lib.hid hzl
          have HZM := Lib.hid hzm
          have HTRI := Lib.hid (fun k (hk : 0 ≤ k ∧ k < n) => show (mz : Int) ≤ gapI n g a k + gapI n g k b from hgz ▸ gap_tri ⟨ha0, ha1⟩ ⟨hb0, hb1⟩ hk)
          have HRG := Lib.hid (fun x y (hx : 0 ≤ x ∧ x < n) (hy : 0 ≤ y ∧ y < n) => gap_range n g x y ⟨hn2, hn24⟩ hx hy)
          clear hr hgz hzl hzm hwd
          go_wp2_with fail
          refine (HGBA.out _).mono ?_
          rintro e w20 ⟨rfl, hb⟩
          have HX := Lib.hid (HX.out.next hb)
          have HS1 := Lib.hid (HS1.out.below hb)
          clear hb h0 h1
          have h0 := HX.out.c0
          have h1 := HX.out.c1
          rw [HGB.out]
          go_wp2_with fail
          refine (HIW.out _ _ HS1.out).mono ?_
          rintro e w21 ⟨rfl, hb⟩
          have HX := Lib.hid (HX.out.next hb)
          have HS1 := Lib.hid (HS1.out.below hb)
          clear hb h0 h1
          have h0 := HX.out.c0
          have h1 := HX.out.c1
          rw [HWD.out, HRD.out]
          obtain ⟨sa, sc, hsv, hsc, hsm, hsx⟩ := HS1.out
          subst hsv
          obtain ⟨sb, so, hsa, hsbl, hscell⟩ := hsx _ _ HZM.out
          subst hsa
          have hzl2 : zs.length = mz + 1 := HZL.out
          have hzi : (zs.length : Int) = (mz : Int) + 1 := by omega
          have hzb : ((zs.length : Int) != (mz : Int) + 1) = false := by simp [hzi]
          have HZI := Lib.hid hzi
          have hm0 : 0 ≤ (mz : Int) := by omega
          have hm1 : (mz : Int) < zs.length := by omega
          clear hzl2 hsx hzi HS1 HS2
          go_wp2_with fail
          go_loopw [2, 27] (fun r i wr => r = .bool false ∧ GbRel w1.heap.size n g w1 i wr) (fun _ i _ => n.toNat - (intOf i).toNat)
          case atStart => exact ⟨rfl, 0, by omega, rfl, HX.out⟩
          case round =>
            obtain ⟨rfl, k, hk, rfl, hx⟩ := hrel
            clear h0 h1 HX HY hscell
            have HX := Lib.hid hx
            have h0 := HX.out.c0
            have h1 := HX.out.c1
            clear hx
            by_cases hlt : (k : Int) < n
            · have hkp : placeB n g k = true := (placeB_iff n g k).2 ⟨HRD.out, by omega, by omega⟩
              have H1 := Lib.hid (gapR_yes (n := n) (g := g) (a := a) (b := k) (by rw [(placeB_iff n g a).2 ⟨HRD.out, ha0, ha1⟩, hkp]; rfl))
              have H2 := Lib.hid (gapR_yes (n := n) (g := g) (a := k) (b := b) (by rw [(placeB_iff n g b).2 ⟨HRD.out, hb0, hb1⟩, hkp]; rfl))
              have ht := HTRI.out k ⟨by omega, by omega⟩
              have hr1 := HRG.out a k ⟨ha0, ha1⟩ ⟨by omega, by omega⟩
              have hr2 := HRG.out k b ⟨by omega, by omega⟩ ⟨hb0, hb1⟩
              have C1 := Lib.hid (fun w => impl_GapOf n g a k w)
              have C2 := Lib.hid (fun w => impl_GapOf n g k b w)
              clear hkp
              go_wp2_with fail
              refine (C1.out _).mono ?_
              rintro e w22 ⟨rfl, hb⟩
              have HX := Lib.hid (HX.out.next hb)
              clear hb h0 h1
              have h0 := HX.out.c0
              have h1 := HX.out.c1
              rw [H1.out]
              go_wp2_with fail
              refine (C2.out _).mono ?_
              rintro e w23 ⟨rfl, hb⟩
              have HX := Lib.hid (HX.out.next hb)
              clear hb h0 h1
              rw [H2.out]
              have G1 := Lib.hid (rfl : gapI n g a k = gapI n g a k)
              generalize gapI n g a k = x1 at *
              generalize gapI n g k b = x2 at *
              have hnt : ¬ x1 + x2 < (mz : Int) := by omega
              clear G1
              go_wp2_with fail
              go_roundw
              case rel => exact ⟨rfl, k + 1, by omega, by go_num, HX.out⟩
              case measure => simp [intOf]; omega
            · go_wp2_with fail
              go_ret
              exact ⟨rfl, HB1.out.trans (HX.out.below.mono HB1.out.size)⟩
end Go.Proofs.Ytebahfbegeoamab
