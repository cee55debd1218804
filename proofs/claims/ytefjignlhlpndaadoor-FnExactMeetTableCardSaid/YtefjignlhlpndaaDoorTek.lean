/-
  What is proved: MeetTable's contracts with the table as memory of its own. Conditions: the listed variable is as it was laid.
-/
import Derived.Test.YtefjignlhlpndaaDoorTeh
import Derived.Test.YtefjignlhlpndaaDoorNek
import Derived.Test.YtefjignlhlpndaaDoorTbc
namespace Go.Proofs.YtefjignlhlpndaaDoor
open Go.RowKit
set_option linter.unusedVariables false
set_option linter.unusedSimpArgs false

set_option maxHeartbeats 1600000 in
set_option maxRecDepth 20000 in
theorem own_tab_yes (N : Nat) (g : Bool) (k : Wk) (m : Value) (k2 : Wk) (m2 : Value) (w : World) (hv : ReadsI w m k.ms) (hv2 : ReadsI w m2 k2.ms) (hN : NM w) (hk : WkOK N g k) (hk2 : WkOK N g k2) :
    Calls Tryd.prog 9 #[rd N g, wkv k m, wkv k2 m2] w (OwnsTB w.heap.size (tab2 N g k k2) true w) := by
  have hn24 : N ≤ 24 := by have := hk.n24; omega
  have HAW := Lib.hid (fun v w hv => (show Calls Tryd.prog 24 #[rd N g, v] w fun e w' => e = .returned (.bool true) ∧ Below w.heap.size w w' from by
    have h := areWalkers_two N g v k k2 w hv
    rw [(wkB_iff N g k).2 hk, (wkB_iff N g k2).2 hk2] at h
    exact h))
  have HF1 := Lib.hid (fun w hv => walksFromAll_any N g k m w hv hk)
  have HF2 := Lib.hid (fun w hv => walksFromAll_any N g k2 m2 w hv hk2)
  have HTB := Lib.hid (fun v u w hv hu hN => tableOf_own v (fromL N g k N) u (fromL N g k2 N) w hv hu hN (fromL_61 N g k N) (fromL_61 N g k2 N) (by rw [fromL_len]; omega) (by rw [fromL_len]; omega))
  have HX := Lib.hid (Box3.first w N g k m k2 m2)
  have HV := Lib.hid hv
  have HV2 := Lib.hid hv2
  obtain ⟨ma, mc, rfl, _⟩ := hv
  obtain ⟨ma2, mc2, rfl, _⟩ := hv2
  generalize hml : k.ms.length = ml at *
  generalize hml2 : k2.ms.length = ml2 at *
  clear hml hml2
  unfold wkv rd at *
  have HN := Lib.hid hN
  clear hN hk hk2
  go_enter Tryd.func9, Tryd.ntmps9
  go_wp2_with fail
  refine (HAW.out _ _ (walkers_two (HV.out.below HX.out.road.below) (HV2.out.below HX.out.road.below) _ (by simp))).mono ?_
  rintro e w1 ⟨rfl, hb⟩
  have HX := Lib.hid ((HX.out.next (below_new _ _)).next hb)
  clear hb
  go_wp2_with fail
  have HX := Lib.hid (HX.out.next (below_drewN _ 1))
  refine wp_region_noPanic ?_
  refine wp_region_held_drew (S := fun w' => w'.cell? ⟨w.heap.size, 0, none⟩ = some (.int .i64 N) ∧ w'.cell? ⟨w.heap.size, 1, none⟩ = some (.bool g) ∧ w'.cell? ⟨w.heap.size + 1, 0, none⟩ = some (.int .i64 k.s) ∧ w'.cell? ⟨w.heap.size + 1, 1, none⟩ = some (.int .i64 k.f) ∧ w'.cell? ⟨w.heap.size + 1, 2, none⟩ = some (.int .i64 k.d) ∧ w'.cell? ⟨w.heap.size + 1, 3, none⟩ = some (.slice ma ml mc) ∧ w'.cell? ⟨w.heap.size + 1 + 1, 0, none⟩ = some (.int .i64 k2.s) ∧ w'.cell? ⟨w.heap.size + 1 + 1, 1, none⟩ = some (.int .i64 k2.f) ∧ w'.cell? ⟨w.heap.size + 1 + 1, 2, none⟩ = some (.int .i64 k2.d) ∧ w'.cell? ⟨w.heap.size + 1 + 1, 3, none⟩ = some (.slice ma2 ml2 mc2)) (by kernel_rfl) (⟨HX.out.road.c0, HX.out.road.c1, HX.out.one.cell 0, HX.out.one.cell 1, HX.out.one.cell 2, HX.out.one.cell 3, HX.out.two.cell 0, HX.out.two.cell 1, HX.out.two.cell 2, HX.out.two.cell 3⟩) (fun hHeld => ?_)
  refine wpAnyH_take (i := 0) (oi := _) (v := ?_) rfl (by kernel_rfl) (by kernel_rfl) (by kernel_rfl) (fun _ _ _ h => h) (Or.inl ⟨by rfl, ?_⟩) (by assumption) ?_
  rotate_left
  · (intro w hSw; (try dsimp only at hSw); (first | (go_simp; done) | (go_simp; with_reducible rfl)))
  simp only [Act.put, List.getElem_toArray, List.getElem_cons_succ, List.getElem_cons_zero, List.setIfInBounds_toArray, List.set_cons_zero, List.set_cons_succ]
  refine wpAnyH_take (i := 1) (oi := _) (v := ?_) rfl (by kernel_rfl) (by kernel_rfl) (by kernel_rfl) (fun _ _ _ h => h) (Or.inl ⟨by rfl, ?_⟩) (by assumption) ?_
  rotate_left
  · (intro w hSw; (try dsimp only at hSw); (first | (go_simp; done) | (go_simp; with_reducible rfl)))
  simp only [Act.put, List.getElem_toArray, List.getElem_cons_succ, List.getElem_cons_zero, List.setIfInBounds_toArray, List.set_cons_zero, List.set_cons_succ]
  refine wpAnyH_take (i := 3) (oi := _) (v := ?_) rfl (by kernel_rfl) (by kernel_rfl) (by kernel_rfl) (fun _ _ _ h => h) (Or.inl ⟨by rfl, ?_⟩) (by assumption) ?_
  rotate_left
  · (intro w hSw; (try dsimp only at hSw); (first | (go_simp; done) | (go_simp; with_reducible rfl)))
  simp only [Act.put, List.getElem_toArray, List.getElem_cons_succ, List.getElem_cons_zero, List.setIfInBounds_toArray, List.set_cons_zero, List.set_cons_succ]
  refine wpAnyH_take (i := 4) (oi := _) (v := ?_) rfl (by kernel_rfl) (by kernel_rfl) (by kernel_rfl) (fun _ _ _ h => h) (Or.inl ⟨by rfl, ?_⟩) (by assumption) ?_
  rotate_left
  · (intro w hSw; (try dsimp only at hSw); (first | (go_simp; done) | (go_simp; with_reducible rfl)))
  simp only [Act.put, List.getElem_toArray, List.getElem_cons_succ, List.getElem_cons_zero, List.setIfInBounds_toArray, List.set_cons_zero, List.set_cons_succ]
  refine wpAnyH_ready (rs := [2]) (by kernel_rfl) (by simp) ?_
  refine AllReadyH.cons rfl (fun K hK => ?_) AllReadyH.nil
  go_simp
  refine (HF1.out _ (HV.out.below HX.out.road.below)).mono ?_
  rintro e w2 ⟨v1, rfl, ho, hb⟩
  have O1 := Lib.hid (ownL_reads ho (by rw [fromL_len]; unfold maxLen; omega))
  have HX := Lib.hid (HX.out.next hb)
  clear ho hb hHeld
  go_wp2_with fail
  refine hK.out _ _ (⟨HX.out.road.c0, HX.out.road.c1, HX.out.one.cell 0, HX.out.one.cell 1, HX.out.one.cell 2, HX.out.one.cell 3, HX.out.two.cell 0, HX.out.two.cell 1, HX.out.two.cell 2, HX.out.two.cell 3⟩) (fun hHeld => ?_)
  clear hK K
  refine wpAnyH_ready (rs := [5]) (by kernel_rfl) (by simp) ?_
  refine AllReadyH.cons rfl (fun K hK => ?_) AllReadyH.nil
  go_simp
  refine (HF2.out _ (HV2.out.below HX.out.road.below)).mono ?_
  rintro e w3 ⟨v2, rfl, ho, hb⟩
  have O1 := Lib.hid (O1.out.below hb)
  have O2 := Lib.hid (ownL_reads ho (by rw [fromL_len]; unfold maxLen; omega))
  have HX := Lib.hid (HX.out.next hb)
  clear ho hb hHeld
  go_wp2_with fail
  refine hK.out _ _ (⟨HX.out.road.c0, HX.out.road.c1, HX.out.one.cell 0, HX.out.one.cell 1, HX.out.one.cell 2, HX.out.one.cell 3, HX.out.two.cell 0, HX.out.two.cell 1, HX.out.two.cell 2, HX.out.two.cell 3⟩) (fun hHeld => ?_)
  clear hK K
  refine wpAnyH_ready (rs := [6]) (by kernel_rfl) (by simp) ?_
  refine AllReadyH.cons rfl (fun K hK => ?_) AllReadyH.nil
  go_simp
  refine (HTB.out _ _ _ O1.out O2.out (HN.out.below HX.out.road.below)).mono ?_
  rintro e w4 ⟨z, us, rfl, ho, hb⟩
  have O3 := Lib.hid (ho.widen (show w.heap.size ≤ w3.heap.size by have := HX.out.lt; omega) (Nat.le_refl _))
  have HX := Lib.hid (HX.out.next hb)
  clear ho hb hHeld
  go_wp2_with fail
  refine hK.out _ _ (⟨HX.out.road.c0, HX.out.road.c1, HX.out.one.cell 0, HX.out.one.cell 1, HX.out.one.cell 2, HX.out.one.cell 3, HX.out.two.cell 0, HX.out.two.cell 1, HX.out.two.cell 2, HX.out.two.cell 3⟩) (fun hHeld => ?_)
  clear hK K
  refine wpAnyH_take (i := 7) (oi := _) (v := ?_) rfl (by kernel_rfl) (by kernel_rfl) (by kernel_rfl) (fun _ _ _ h => h) (Or.inl ⟨by rfl, ?_⟩) (by assumption) ?_
  rotate_left
  · (intro w hSw; (try dsimp only at hSw); (first | (go_simp; done) | (go_simp; with_reducible rfl)))
  simp only [Act.put, List.getElem_toArray, List.getElem_cons_succ, List.getElem_cons_zero, List.setIfInBounds_toArray, List.set_cons_zero, List.set_cons_succ]
  refine wpAnyH_take (i := 8) (oi := _) (v := ?_) rfl (by kernel_rfl) (by kernel_rfl) (by kernel_rfl) (fun _ _ _ h => h) (Or.inl ⟨by rfl, ?_⟩) (by assumption) ?_
  rotate_left
  · (intro w hSw; (try dsimp only at hSw); (first | (go_simp; done) | (go_simp; with_reducible rfl)))
  simp only [Act.put, List.getElem_toArray, List.getElem_cons_succ, List.getElem_cons_zero, List.setIfInBounds_toArray, List.set_cons_zero, List.set_cons_succ]
  refine wpAnyH_done (by kernel_rfl) ?_ _
  refine NoPanic.normal ?_
  clear hHeld
  rw [fromL_len] at O3
  go_wp2_with fail
  go_ret2
  exact ⟨z, us, rfl, O3.out, HX.out.road.below⟩
set_option maxHeartbeats 800000 in
theorem own_tab_no (n : Int) (g : Bool) (k : Wk) (m : Value) (k2 : Wk) (m2 : Value) (w : World) (hv : ReadsI w m k.ms) (hv2 : ReadsI w m2 k2.ms) (hno : (wkB n g k && wkB n g k2) = false) :
    Calls Tryd.prog 9 #[rd n g, wkv k m, wkv k2 m2] w (OwnsTB w.heap.size [] false w) := by
  have HAW := Lib.hid (fun v w hv => (show Calls Tryd.prog 24 #[rd n g, v] w fun e w' => e = .returned (.bool false) ∧ Below w.heap.size w w' from by
    have h := areWalkers_two n g v k k2 w hv
    rw [hno] at h
    exact h))
  have HX := Lib.hid (Box3.first w n g k m k2 m2)
  have HV := Lib.hid hv
  have HV2 := Lib.hid hv2
  obtain ⟨ma, mc, rfl, _⟩ := hv
  obtain ⟨ma2, mc2, rfl, _⟩ := hv2
  generalize hml : k.ms.length = ml at *
  generalize hml2 : k2.ms.length = ml2 at *
  clear hml hml2
  unfold wkv rd at *
  clear hno
  go_enter Tryd.func9, Tryd.ntmps9
  go_wp2_with fail
  refine (HAW.out _ _ (walkers_two (HV.out.below HX.out.road.below) (HV2.out.below HX.out.road.below) _ (by simp))).mono ?_
  rintro e w1 ⟨rfl, hb⟩
  have HX := Lib.hid ((HX.out.next (below_new _ _)).next hb)
  have HO := Lib.hid (ownT_new w1 w.heap.size w1.heap.size rfl (by have := HX.out.lt; omega))
  clear hb
  go_wp2_with fail
  go_ret2
  exact ⟨_, [], rfl, HO.out.lt, (HX.out.next (below_new _ _)).road.below⟩
theorem own_MeetTable (n : Int) (g : Bool) (k : Wk) (m : Value) (k2 : Wk) (m2 : Value) (w : World) (hv : ReadsI w m k.ms) (hv2 : ReadsI w m2 k2.ms) (hN : NM w) :
    Calls Tryd.prog 9 #[rd n g, wkv k m, wkv k2 m2] w (OwnsTB w.heap.size (mtabR n g k k2).1 (mtabR n g k k2).2 w) := by
  unfold mtabR
  by_cases hb : (wkB n g k && wkB n g k2) = true
  · rw [if_pos hb]
    have hbb := Bool.and_eq_true_iff.1 hb
    have hk := (wkB_iff n g k).1 hbb.1
    have hk2 := (wkB_iff n g k2).1 hbb.2
    obtain ⟨N, rfl, _, _⟩ := nat_of_ok hk
    exact own_tab_yes N g k m k2 m2 w hv hv2 hN hk hk2
  · rw [if_neg hb]
    exact own_tab_no n g k m k2 m2 w hv hv2 (by simpa using hb)
theorem read_MeetTable (n : Int) (g : Bool) (k : Wk) (m : Value) (k2 : Wk) (m2 : Value) (w : World) (hv : ReadsI w m k.ms) (hv2 : ReadsI w m2 k2.ms) :
    Calls Tryd.prog 6 #[rd n g, wkv k m, wkv k2 m2] w fun e w' => ∃ v, e = .returned (.tuple #[v, .bool (mtabR n g k k2).2]) ∧ ReadsL w' v (mtabR n g k k2).1 ∧ Below w.heap.size w w' :=
  (spec_MeetTable n g k m k2 m2 w hv hv2).mono fun _ _ ⟨v, he, ho, hb⟩ => ⟨v, he, ownL_reads ho (by
    unfold mtabR
    by_cases h : (wkB n g k && wkB n g k2) = true
    · rw [if_pos h]
      have hn := ((roadB_iff n g).1 ((wkB_iff n g k).1 (Bool.and_eq_true_iff.1 h).1).road).2.1
      have hl : (tab2 n g k k2).length = n.toNat := by
        have h2 := ((wkB_iff n g k).1 (Bool.and_eq_true_iff.1 h).1).n2
        have := tab2_len n.toNat g k k2
        rw [Int.toNat_of_nonneg (by omega)] at this
        exact this
      rw [hl]
      unfold maxLen
      omega
    · rw [if_neg h]
      simp), hb⟩
theorem mtabR_size (n : Int) (g : Bool) (k k2 : Wk) : sizeT (mtabR n g k k2).1 ≤ 1048576 := by
  unfold mtabR
  by_cases h : (wkB n g k && wkB n g k2) = true
  · rw [if_pos h]
    have hw := (wkB_iff n g k).1 (Bool.and_eq_true_iff.1 h).1
    obtain ⟨N, rfl, h2, h24⟩ := nat_of_ok hw
    refine Nat.le_trans (size_le (L := 24) (K := 24) (fun j xs hx => ?_) (by rw [tab2_len]; exact h24)) (by omega)
    have := (tab2_rows N g k k2 j xs hx).1
    omega
  · rw [if_neg h]
    simp [sizeT, lenTo]
end Go.Proofs.YtefjignlhlpndaaDoor
