/-
  What is proved: the walk of the law FnExactMeetTable: for every input impl.MeetTable answers as the model does, its arguments read as before, and its answer is memory of its own. Conditions: the listed variable is as it was laid.
-/
import Derived.Test.YtefjignlhlpndaaDoorRows
import Derived.Test.YtefjignlhlpndaaDoorNef
import Derived.Test.YtefjignlhlpndaaDoorTek
import Derived.Test.YtefjignlhlpndaaDoorMef
import Derived.Test.YtefjignlhlpndaaDoorTbb
namespace Go.Proofs.YtefjignlhlpndaaDoor.fnExactMeetTable
open Go.RowKit
set_option linter.unusedVariables false
set_option linter.unusedSimpArgs false

set_option maxHeartbeats 3200000 in
set_option maxRecDepth 20000 in
theorem law_two (n : Int) (g : Bool) (k1 : Wk) (v1 : Value) (k2 : Wk) (v2 : Value) (zss : List (List Int)) (b : Bool) (hz : sizeT zss ≤ 1048576) (w : World) (hv1 : ReadsI w v1 k1.ms) (hn1 : k1.ms.length ≤ 1048576) (hv2 : ReadsI w v2 k2.ms) (hn2 : k2.ms.length ≤ 1048576) (hsum : k1.ms.length + k2.ms.length ≤ 1048576) (hN : NM w)
    (hm : ∀ (u1 : Value) (u2 : Value) (w : World), ReadsI w u1 k1.ms → ReadsI w u2 k2.ms → Calls Tryd.prog 6 #[rd n g, wkv k1 u1, wkv k2 u2] w fun e w' => ∃ v, e = .returned (.tuple #[v, .bool b]) ∧ ReadsL w' v zss ∧ Below w.heap.size w w')
    (hi : ∀ (u1 : Value) (u2 : Value) (w : World), ReadsI w u1 k1.ms → ReadsI w u2 k2.ms → NM w → Calls Tryd.prog 9 #[rd n g, wkv k1 u1, wkv k2 u2] w (OwnsTB w.heap.size zss b w)) :
    Calls Tryd.prog 3 #[rd n g, wkv k1 v1, wkv k2 v2] w fun e w' => e = .returned (.bool true) ∧ Below w.heap.size w w' := by
  have HM := Lib.hid hm
  have HI := Lib.hid hi
  have HN := Lib.hid hN
  clear hN
  have HT := Lib.hid (fun w => toRoad_any n g w)
  have hnm : k1.ms.length ≤ maxLen := by unfold maxLen; omega
  have Hnk1_ms := Lib.hid hnm
  have Hbk1_ms := Lib.hid hn1
  clear hnm
  have HV1 := Lib.hid hv1
  have hnm : k2.ms.length ≤ maxLen := by unfold maxLen; omega
  have Hnk2_ms := Lib.hid hnm
  have Hbk2_ms := Lib.hid hn2
  clear hnm
  have HV2 := Lib.hid hv2
  obtain ⟨y1, c1, hvv1, _⟩ := hv1
  subst hvv1
  obtain ⟨y2, c2, hvv2, _⟩ := hv2
  subst hvv2
  have hnm : zss.length ≤ maxLen := by unfold maxLen; unfold sizeT at hz; omega
  have Hnzss := Lib.hid hnm
  have Hbzss := Lib.hid hz
  clear hnm hz
  clear hm hi
  have HX := Lib.hid (Boxed.first w n g 23)
  have HX := Lib.hid (HX.out.next (below_new _ (.cells #[.int .i64 k1.s, .int .i64 k1.f, .int .i64 k1.d, (.slice y1 k1.ms.length c1)] 26)))
  have HBb1 := Lib.hid (blk_at (w.alloc (.cells #[.int .i64 n, .bool g] 23)) #[.int .i64 k1.s, .int .i64 k1.f, .int .i64 k1.d, (.slice y1 k1.ms.length c1)] 26 (w.heap.size + 1) (by simp))
  have HX := Lib.hid (HX.out.next (below_new _ (.cells #[.int .i64 k2.s, .int .i64 k2.f, .int .i64 k2.d, (.slice y2 k2.ms.length c2)] 26)))
  have HBb1 := Lib.hid (HBb1.out.below (below_new _ (.cells #[.int .i64 k2.s, .int .i64 k2.f, .int .i64 k2.d, (.slice y2 k2.ms.length c2)] 26)))
  have HBb2 := Lib.hid (blk_at ((w.alloc (.cells #[.int .i64 n, .bool g] 23)).alloc (.cells #[.int .i64 k1.s, .int .i64 k1.f, .int .i64 k1.d, (.slice y1 k1.ms.length c1)] 26)) #[.int .i64 k2.s, .int .i64 k2.f, .int .i64 k2.d, (.slice y2 k2.ms.length c2)] 26 (w.heap.size + 1 + 1) (by simp))
  unfold wkv rd at *
  go_enter Tryd.func3, Tryd.ntmps3
  go_wp2_with fail
  have HZw1 : Hid (w.heap.size + 3 ≤ (((w.alloc (.cells #[.int .i64 n, .bool g] 23)).alloc (.cells #[.int .i64 k1.s, .int .i64 k1.f, .int .i64 k1.d, (.slice y1 k1.ms.length c1)] 26)).alloc (.cells #[.int .i64 k2.s, .int .i64 k2.f, .int .i64 k2.d, (.slice y2 k2.ms.length c2)] 26)).heap.size) := Lib.hid (by simp)
  generalize (((w.alloc (.cells #[.int .i64 n, .bool g] 23)).alloc (.cells #[.int .i64 k1.s, .int .i64 k1.f, .int .i64 k1.d, (.slice y1 k1.ms.length c1)] 26)).alloc (.cells #[.int .i64 k2.s, .int .i64 k2.f, .int .i64 k2.d, (.slice y2 k2.ms.length c2)] 26)) = w1 at *
  have hb0 := HX.out.c0
  have hb1 := HX.out.c1
  have hc_b10 := HBb1.out.cell 0
  have hc_b11 := HBb1.out.cell 1
  have hc_b12 := HBb1.out.cell 2
  have hc_b13 := HBb1.out.cell 3
  have hc_b20 := HBb2.out.cell 0
  have hc_b21 := HBb2.out.cell 1
  have hc_b22 := HBb2.out.cell 2
  have hc_b23 := HBb2.out.cell 3
  refine (szW_yes k1 (.slice y1 k1.ms.length c1) (1048576) _ (HV1.out.below HX.out.below) (by omega) (by omega)).mono ?_
  rintro e w2 ⟨rfl, hb⟩
  clear hb0 hb1 hc_b10 hc_b11 hc_b12 hc_b13 hc_b20 hc_b21 hc_b22 hc_b23
  have HX := Lib.hid (HX.out.next hb)
  have HBb1 := Lib.hid (HBb1.out.below hb)
  have HBb2 := Lib.hid (HBb2.out.below hb)
  have HZw2 : Hid (w1.heap.size ≤ w2.heap.size) := Lib.hid (hb.size)
  clear hb
  have hb0 := HX.out.c0
  have hb1 := HX.out.c1
  have hc_b10 := HBb1.out.cell 0
  have hc_b11 := HBb1.out.cell 1
  have hc_b12 := HBb1.out.cell 2
  have hc_b13 := HBb1.out.cell 3
  have hc_b20 := HBb2.out.cell 0
  have hc_b21 := HBb2.out.cell 1
  have hc_b22 := HBb2.out.cell 2
  have hc_b23 := HBb2.out.cell 3
  go_wp2_with fail
  refine (szW_yes k2 (.slice y2 k2.ms.length c2) (1048576 - k1.ms.length) _ (HV2.out.below HX.out.below) (by omega) (by omega)).mono ?_
  rintro e w3 ⟨rfl, hb⟩
  clear hb0 hb1 hc_b10 hc_b11 hc_b12 hc_b13 hc_b20 hc_b21 hc_b22 hc_b23
  have HX := Lib.hid (HX.out.next hb)
  have HBb1 := Lib.hid (HBb1.out.below hb)
  have HBb2 := Lib.hid (HBb2.out.below hb)
  have HZw3 : Hid (w2.heap.size ≤ w3.heap.size) := Lib.hid (hb.size)
  clear hb
  have hb0 := HX.out.c0
  have hb1 := HX.out.c1
  have hc_b10 := HBb1.out.cell 0
  have hc_b11 := HBb1.out.cell 1
  have hc_b12 := HBb1.out.cell 2
  have hc_b13 := HBb1.out.cell 3
  have hc_b20 := HBb2.out.cell 0
  have hc_b21 := HBb2.out.cell 1
  have hc_b22 := HBb2.out.cell 2
  have hc_b23 := HBb2.out.cell 3
  go_wp2_with fail
  clear hb0 hb1 hc_b10 hc_b11 hc_b12 hc_b13 hc_b20 hc_b21 hc_b22 hc_b23
  have HX := Lib.hid (HX.out.next (below_drewN _ 1))
  have HBb1 := Lib.hid (HBb1.out.below (below_drewN _ 1))
  have HBb2 := Lib.hid (HBb2.out.below (below_drewN _ 1))
  refine wp_region_noPanic ?_
  refine wp_region_held_drew (S := fun w' => Boxed w.heap.size n g w w' ∧ w'.cell? ⟨w.heap.size, 0, none⟩ = some (.int .i64 n) ∧ w'.cell? ⟨w.heap.size, 1, none⟩ = some (.bool g) ∧ Blk w' (w.heap.size + 1) #[.int .i64 k1.s, .int .i64 k1.f, .int .i64 k1.d, (.slice y1 k1.ms.length c1)] 26 ∧ w'.cell? ⟨w.heap.size + 1, 0, none⟩ = some (.int .i64 k1.s) ∧ w'.cell? ⟨w.heap.size + 1, 1, none⟩ = some (.int .i64 k1.f) ∧ w'.cell? ⟨w.heap.size + 1, 2, none⟩ = some (.int .i64 k1.d) ∧ w'.cell? ⟨w.heap.size + 1, 3, none⟩ = some ((.slice y1 k1.ms.length c1)) ∧ Blk w' (w.heap.size + 1 + 1) #[.int .i64 k2.s, .int .i64 k2.f, .int .i64 k2.d, (.slice y2 k2.ms.length c2)] 26 ∧ w'.cell? ⟨w.heap.size + 1 + 1, 0, none⟩ = some (.int .i64 k2.s) ∧ w'.cell? ⟨w.heap.size + 1 + 1, 1, none⟩ = some (.int .i64 k2.f) ∧ w'.cell? ⟨w.heap.size + 1 + 1, 2, none⟩ = some (.int .i64 k2.d) ∧ w'.cell? ⟨w.heap.size + 1 + 1, 3, none⟩ = some ((.slice y2 k2.ms.length c2))) (by kernel_rfl) (⟨HX.out, HX.out.c0, HX.out.c1, HBb1.out, HBb1.out.cell 0, HBb1.out.cell 1, HBb1.out.cell 2, HBb1.out.cell 3, HBb2.out, HBb2.out.cell 0, HBb2.out.cell 1, HBb2.out.cell 2, HBb2.out.cell 3⟩) (fun hHeld => ?_)
  refine wpAnyH_take (i := 0) (oi := _) (v := ?_) rfl (by kernel_rfl) (by kernel_rfl) (by kernel_rfl) (fun _ _ _ h => h) (Or.inl ⟨by rfl, ?_⟩) (by assumption) ?_
  rotate_left
  · (intro w hSw; (try dsimp only at hSw); (first | (go_simp; done) | (go_simp; with_reducible rfl)))
  simp only [Act.put, List.getElem_toArray, List.getElem_cons_succ, List.getElem_cons_zero, List.setIfInBounds_toArray, List.set_cons_zero, List.set_cons_succ]
  refine wpAnyH_take (i := 2) (oi := _) (v := ?_) rfl (by kernel_rfl) (by kernel_rfl) (by kernel_rfl) (fun _ _ _ h => h) (Or.inl ⟨by rfl, ?_⟩) (by assumption) ?_
  rotate_left
  · (intro w hSw; (try dsimp only at hSw); (first | (go_simp; done) | (go_simp; with_reducible rfl)))
  simp only [Act.put, List.getElem_toArray, List.getElem_cons_succ, List.getElem_cons_zero, List.setIfInBounds_toArray, List.set_cons_zero, List.set_cons_succ]
  refine wpAnyH_take (i := 4) (oi := _) (v := ?_) rfl (by kernel_rfl) (by kernel_rfl) (by kernel_rfl) (fun _ _ _ h => h) (Or.inl ⟨by rfl, ?_⟩) (by assumption) ?_
  rotate_left
  · (intro w hSw; (try dsimp only at hSw); (first | (go_simp; done) | (go_simp; with_reducible rfl)))
  simp only [Act.put, List.getElem_toArray, List.getElem_cons_succ, List.getElem_cons_zero, List.setIfInBounds_toArray, List.set_cons_zero, List.set_cons_succ]
  refine wpAnyH_ready (rs := [1]) (by kernel_rfl) (by simp) ?_
  refine AllReadyH.cons rfl (fun K hK => ?_) AllReadyH.nil
  go_simp
  refine (HT.out _).mono ?_
  rintro e w4 ⟨rfl, hb⟩
  have HX := Lib.hid (HX.out.next hb)
  have HBb1 := Lib.hid (HBb1.out.below hb)
  have HBb2 := Lib.hid (HBb2.out.below hb)
  have HZw4 : Hid (w3.heap.size ≤ w4.heap.size) := Lib.hid (hb.size)
  clear hb
  clear hHeld
  go_wp2_with fail
  refine hK.out _ _ (⟨HX.out, HX.out.c0, HX.out.c1, HBb1.out, HBb1.out.cell 0, HBb1.out.cell 1, HBb1.out.cell 2, HBb1.out.cell 3, HBb2.out, HBb2.out.cell 0, HBb2.out.cell 1, HBb2.out.cell 2, HBb2.out.cell 3⟩) (fun hHeld => ?_)
  clear hK K
  refine wpAnyH_ready (rs := [3]) (by kernel_rfl) (by simp) ?_
  refine AllReadyH.cons rfl (fun K hK => ?_) AllReadyH.nil
  go_simp
  refine (toW_any k1 (.slice y1 k1.ms.length c1) _ (HV1.out.below HX.out.below) hn1).mono ?_
  rintro e w5 ⟨x3, rfl, ho, hb⟩
  have HX := Lib.hid (HX.out.next hb)
  have HBb1 := Lib.hid (HBb1.out.below hb)
  have HBb2 := Lib.hid (HBb2.out.below hb)
  have HZw5 : Hid (w4.heap.size ≤ w5.heap.size) := Lib.hid (hb.size)
  have HRx3 : Hid (∀ b, x3.ownBlock = some b → w4.heap.size ≤ b ∧ b < w5.heap.size) := Lib.hid (fun b hb => owns_block ho b hb)
  obtain ⟨ax3, cx3, hsx3, _⟩ := owns_shape ho
  subst hsx3
  have HOx3 := Lib.hid ho
  clear ho
  clear hb
  clear hHeld
  go_wp2_with fail
  refine hK.out _ _ (⟨HX.out, HX.out.c0, HX.out.c1, HBb1.out, HBb1.out.cell 0, HBb1.out.cell 1, HBb1.out.cell 2, HBb1.out.cell 3, HBb2.out, HBb2.out.cell 0, HBb2.out.cell 1, HBb2.out.cell 2, HBb2.out.cell 3⟩) (fun hHeld => ?_)
  clear hK K
  refine wpAnyH_ready (rs := [5]) (by kernel_rfl) (by simp) ?_
  refine AllReadyH.cons rfl (fun K hK => ?_) AllReadyH.nil
  go_simp
  refine (toW_any k2 (.slice y2 k2.ms.length c2) _ (HV2.out.below HX.out.below) hn2).mono ?_
  rintro e w6 ⟨x4, rfl, ho, hb⟩
  have HX := Lib.hid (HX.out.next hb)
  have HBb1 := Lib.hid (HBb1.out.below hb)
  have HBb2 := Lib.hid (HBb2.out.below hb)
  have HOx3 := Lib.hid (owns_below HOx3.out hb)
  have HZw6 : Hid (w5.heap.size ≤ w6.heap.size) := Lib.hid (hb.size)
  have HRx4 : Hid (∀ b, x4.ownBlock = some b → w5.heap.size ≤ b ∧ b < w6.heap.size) := Lib.hid (fun b hb => owns_block ho b hb)
  obtain ⟨ax4, cx4, hsx4, _⟩ := owns_shape ho
  subst hsx4
  have HOx4 := Lib.hid ho
  clear ho
  clear hb
  clear hHeld
  go_wp2_with fail
  refine hK.out _ _ (⟨HX.out, HX.out.c0, HX.out.c1, HBb1.out, HBb1.out.cell 0, HBb1.out.cell 1, HBb1.out.cell 2, HBb1.out.cell 3, HBb2.out, HBb2.out.cell 0, HBb2.out.cell 1, HBb2.out.cell 2, HBb2.out.cell 3⟩) (fun hHeld => ?_)
  clear hK K
  refine wpAnyH_ready (rs := [6]) (by kernel_rfl) (by simp) ?_
  refine AllReadyH.cons rfl (fun K hK => ?_) AllReadyH.nil
  go_simp
  refine (HM.out (.slice ax3 k1.ms.length cx3) (.slice ax4 k2.ms.length cx4) _ (owns_reads HOx3.out Hnk1_ms.out) (owns_reads HOx4.out Hnk2_ms.out)).mono ?_
  rintro e w7 ⟨r5, rfl, hro, hb⟩
  have HX := Lib.hid (HX.out.next hb)
  have HBb1 := Lib.hid (HBb1.out.below hb)
  have HBb2 := Lib.hid (HBb2.out.below hb)
  have HOx3 := Lib.hid (owns_below HOx3.out hb)
  have HOx4 := Lib.hid (owns_below HOx4.out hb)
  have HZw7 : Hid (w6.heap.size ≤ w7.heap.size) := Lib.hid (hb.size)
  have HQr5 := Lib.hid hro
  clear hro
  clear hb
  have HMid : Hid (Below w7.heap.size w7 w7) := Lib.hid (Below.refl _ _)
  have HXm := Lib.hid HX.out.size
  clear hHeld
  go_wp2_with fail
  refine hK.out _ _ (⟨HX.out, HX.out.c0, HX.out.c1, HBb1.out, HBb1.out.cell 0, HBb1.out.cell 1, HBb1.out.cell 2, HBb1.out.cell 3, HBb2.out, HBb2.out.cell 0, HBb2.out.cell 1, HBb2.out.cell 2, HBb2.out.cell 3⟩) (fun hHeld => ?_)
  clear hK K
  refine wpAnyH_take (i := 7) (oi := _) (v := ?_) rfl (by kernel_rfl) (by kernel_rfl) (by kernel_rfl) (fun _ _ _ h => h) (Or.inl ⟨by rfl, ?_⟩) (by assumption) ?_
  rotate_left
  · (intro w hSw; (try dsimp only at hSw); (first | (go_simp; done) | (go_simp; with_reducible rfl)))
  simp only [Act.put, List.getElem_toArray, List.getElem_cons_succ, List.getElem_cons_zero, List.setIfInBounds_toArray, List.set_cons_zero, List.set_cons_succ]
  refine wpAnyH_take (i := 8) (oi := _) (v := ?_) rfl (by kernel_rfl) (by kernel_rfl) (by kernel_rfl) (fun _ _ _ h => h) (Or.inl ⟨by rfl, ?_⟩) (by assumption) ?_
  rotate_left
  · (intro w hSw; (try dsimp only at hSw); (first | (go_simp; done) | (go_simp; with_reducible rfl)))
  simp only [Act.put, List.getElem_toArray, List.getElem_cons_succ, List.getElem_cons_zero, List.setIfInBounds_toArray, List.set_cons_zero, List.set_cons_succ]
  refine wpAnyH_take (i := 9) (oi := _) (v := ?_) rfl (by kernel_rfl) (by kernel_rfl) (by kernel_rfl) (fun _ _ _ h => h) (Or.inl ⟨by rfl, ?_⟩) (by assumption) ?_
  rotate_left
  · (intro w hSw; (try dsimp only at hSw); (first | (go_simp; done) | (go_simp; with_reducible rfl)))
  simp only [Act.put, List.getElem_toArray, List.getElem_cons_succ, List.getElem_cons_zero, List.setIfInBounds_toArray, List.set_cons_zero, List.set_cons_succ]
  refine wpAnyH_take (i := 10) (oi := _) (v := ?_) rfl (by kernel_rfl) (by kernel_rfl) (by kernel_rfl) (fun _ _ _ h => h) (Or.inl ⟨by rfl, ?_⟩) (by assumption) ?_
  rotate_left
  · (intro w hSw; (try dsimp only at hSw); (first | (go_simp; done) | (go_simp; with_reducible rfl)))
  simp only [Act.put, List.getElem_toArray, List.getElem_cons_succ, List.getElem_cons_zero, List.setIfInBounds_toArray, List.set_cons_zero, List.set_cons_succ]
  refine wpAnyH_take (i := 11) (oi := _) (v := ?_) rfl (by kernel_rfl) (by kernel_rfl) (by kernel_rfl) (fun _ _ _ h => h) (Or.inl ⟨by rfl, ?_⟩) (by assumption) ?_
  rotate_left
  · (intro w hSw; (try dsimp only at hSw); (first | (go_simp; done) | (go_simp; with_reducible rfl)))
  simp only [Act.put, List.getElem_toArray, List.getElem_cons_succ, List.getElem_cons_zero, List.setIfInBounds_toArray, List.set_cons_zero, List.set_cons_succ]
  refine wpAnyH_done (by kernel_rfl) ?_ _
  refine NoPanic.normal ?_
  clear hHeld
  clear HOx3 HRx3
  clear HOx4 HRx4
  have hb0 := HX.out.c0
  have hb1 := HX.out.c1
  have hc_b10 := HBb1.out.cell 0
  have hc_b11 := HBb1.out.cell 1
  have hc_b12 := HBb1.out.cell 2
  have hc_b13 := HBb1.out.cell 3
  have hc_b20 := HBb2.out.cell 0
  have hc_b21 := HBb2.out.cell 1
  have hc_b22 := HBb2.out.cell 2
  have hc_b23 := HBb2.out.cell 3
  go_wp2_with fail
  refine (toW_any k1 (.slice y1 k1.ms.length c1) _ (HV1.out.below HX.out.below) hn1).mono ?_
  rintro e w8 ⟨x6, rfl, ho, hb⟩
  clear hb0 hb1 hc_b10 hc_b11 hc_b12 hc_b13 hc_b20 hc_b21 hc_b22 hc_b23
  have HX := Lib.hid (HX.out.next hb)
  have HBb1 := Lib.hid (HBb1.out.below hb)
  have HBb2 := Lib.hid (HBb2.out.below hb)
  have HMid := Lib.hid (HMid.out.trans (hb.mono HMid.out.size))
  have HZw8 : Hid (w7.heap.size ≤ w8.heap.size) := Lib.hid (hb.size)
  have HRx6 : Hid (∀ b, x6.ownBlock = some b → w7.heap.size ≤ b ∧ b < w8.heap.size) := Lib.hid (fun b hb => owns_block ho b hb)
  obtain ⟨ax6, cx6, hsx6, _⟩ := owns_shape ho
  subst hsx6
  have HOx6 := Lib.hid ho
  clear ho
  clear hb
  have HX := Lib.hid (HX.out.next (below_new w8 (.cells #[.int .i64 k1.s, .int .i64 k1.f, .int .i64 k1.d, (.slice ax6 k1.ms.length cx6)] 33)))
  have HBb1 := Lib.hid (HBb1.out.below (below_new w8 (.cells #[.int .i64 k1.s, .int .i64 k1.f, .int .i64 k1.d, (.slice ax6 k1.ms.length cx6)] 33)))
  have HBb2 := Lib.hid (HBb2.out.below (below_new w8 (.cells #[.int .i64 k1.s, .int .i64 k1.f, .int .i64 k1.d, (.slice ax6 k1.ms.length cx6)] 33)))
  have HOx6 := Lib.hid (owns_below HOx6.out (below_new w8 (.cells #[.int .i64 k1.s, .int .i64 k1.f, .int .i64 k1.d, (.slice ax6 k1.ms.length cx6)] 33)))
  have HMid := Lib.hid (HMid.out.trans ((below_new w8 (.cells #[.int .i64 k1.s, .int .i64 k1.f, .int .i64 k1.d, (.slice ax6 k1.ms.length cx6)] 33)).mono HMid.out.size))
  have HBb7 := Lib.hid (blk_new w8 #[.int .i64 k1.s, .int .i64 k1.f, .int .i64 k1.d, (.slice ax6 k1.ms.length cx6)] 33)
  have HZw9 : Hid (w8.heap.size < (w8.alloc (.cells #[.int .i64 k1.s, .int .i64 k1.f, .int .i64 k1.d, (.slice ax6 k1.ms.length cx6)] 33)).heap.size) := Lib.hid (by simp)
  have hb0 := HX.out.c0
  have hb1 := HX.out.c1
  have hc_b10 := HBb1.out.cell 0
  have hc_b11 := HBb1.out.cell 1
  have hc_b12 := HBb1.out.cell 2
  have hc_b13 := HBb1.out.cell 3
  have hc_b20 := HBb2.out.cell 0
  have hc_b21 := HBb2.out.cell 1
  have hc_b22 := HBb2.out.cell 2
  have hc_b23 := HBb2.out.cell 3
  have hc_b70 := HBb7.out.cell 0
  have hc_b71 := HBb7.out.cell 1
  have hc_b72 := HBb7.out.cell 2
  have hc_b73 := HBb7.out.cell 3
  go_wp2_with fail
  generalize w8.alloc (.cells #[.int .i64 k1.s, .int .i64 k1.f, .int .i64 k1.d, (.slice ax6 k1.ms.length cx6)] 33) = w9 at *
  refine (toW_any k2 (.slice y2 k2.ms.length c2) _ (HV2.out.below HX.out.below) hn2).mono ?_
  rintro e w10 ⟨x8, rfl, ho, hb⟩
  clear hb0 hb1 hc_b10 hc_b11 hc_b12 hc_b13 hc_b20 hc_b21 hc_b22 hc_b23 hc_b70 hc_b71 hc_b72 hc_b73
  have HX := Lib.hid (HX.out.next hb)
  have HBb1 := Lib.hid (HBb1.out.below hb)
  have HBb2 := Lib.hid (HBb2.out.below hb)
  have HBb7 := Lib.hid (HBb7.out.below hb)
  have HOx6 := Lib.hid (owns_below HOx6.out hb)
  have HMid := Lib.hid (HMid.out.trans (hb.mono HMid.out.size))
  have HZw10 : Hid (w9.heap.size ≤ w10.heap.size) := Lib.hid (hb.size)
  have HRx8 : Hid (∀ b, x8.ownBlock = some b → w9.heap.size ≤ b ∧ b < w10.heap.size) := Lib.hid (fun b hb => owns_block ho b hb)
  obtain ⟨ax8, cx8, hsx8, _⟩ := owns_shape ho
  subst hsx8
  have HOx8 := Lib.hid ho
  clear ho
  clear hb
  have HX := Lib.hid (HX.out.next (below_new w10 (.cells #[.int .i64 k2.s, .int .i64 k2.f, .int .i64 k2.d, (.slice ax8 k2.ms.length cx8)] 33)))
  have HBb1 := Lib.hid (HBb1.out.below (below_new w10 (.cells #[.int .i64 k2.s, .int .i64 k2.f, .int .i64 k2.d, (.slice ax8 k2.ms.length cx8)] 33)))
  have HBb2 := Lib.hid (HBb2.out.below (below_new w10 (.cells #[.int .i64 k2.s, .int .i64 k2.f, .int .i64 k2.d, (.slice ax8 k2.ms.length cx8)] 33)))
  have HBb7 := Lib.hid (HBb7.out.below (below_new w10 (.cells #[.int .i64 k2.s, .int .i64 k2.f, .int .i64 k2.d, (.slice ax8 k2.ms.length cx8)] 33)))
  have HOx6 := Lib.hid (owns_below HOx6.out (below_new w10 (.cells #[.int .i64 k2.s, .int .i64 k2.f, .int .i64 k2.d, (.slice ax8 k2.ms.length cx8)] 33)))
  have HOx8 := Lib.hid (owns_below HOx8.out (below_new w10 (.cells #[.int .i64 k2.s, .int .i64 k2.f, .int .i64 k2.d, (.slice ax8 k2.ms.length cx8)] 33)))
  have HMid := Lib.hid (HMid.out.trans ((below_new w10 (.cells #[.int .i64 k2.s, .int .i64 k2.f, .int .i64 k2.d, (.slice ax8 k2.ms.length cx8)] 33)).mono HMid.out.size))
  have HBb9 := Lib.hid (blk_new w10 #[.int .i64 k2.s, .int .i64 k2.f, .int .i64 k2.d, (.slice ax8 k2.ms.length cx8)] 33)
  have HZw11 : Hid (w10.heap.size < (w10.alloc (.cells #[.int .i64 k2.s, .int .i64 k2.f, .int .i64 k2.d, (.slice ax8 k2.ms.length cx8)] 33)).heap.size) := Lib.hid (by simp)
  have hb0 := HX.out.c0
  have hb1 := HX.out.c1
  have hc_b10 := HBb1.out.cell 0
  have hc_b11 := HBb1.out.cell 1
  have hc_b12 := HBb1.out.cell 2
  have hc_b13 := HBb1.out.cell 3
  have hc_b20 := HBb2.out.cell 0
  have hc_b21 := HBb2.out.cell 1
  have hc_b22 := HBb2.out.cell 2
  have hc_b23 := HBb2.out.cell 3
  have hc_b70 := HBb7.out.cell 0
  have hc_b71 := HBb7.out.cell 1
  have hc_b72 := HBb7.out.cell 2
  have hc_b73 := HBb7.out.cell 3
  have hc_b90 := HBb9.out.cell 0
  have hc_b91 := HBb9.out.cell 1
  have hc_b92 := HBb9.out.cell 2
  have hc_b93 := HBb9.out.cell 3
  go_wp2_with fail
  generalize w10.alloc (.cells #[.int .i64 k2.s, .int .i64 k2.f, .int .i64 k2.d, (.slice ax8 k2.ms.length cx8)] 33) = w11 at *
  clear hb0 hb1 hc_b10 hc_b11 hc_b12 hc_b13 hc_b20 hc_b21 hc_b22 hc_b23 hc_b70 hc_b71 hc_b72 hc_b73 hc_b90 hc_b91 hc_b92 hc_b93
  have HX := Lib.hid (HX.out.next (below_drewN _ 1))
  have HBb1 := Lib.hid (HBb1.out.below (below_drewN _ 1))
  have HBb2 := Lib.hid (HBb2.out.below (below_drewN _ 1))
  have HBb7 := Lib.hid (HBb7.out.below (below_drewN _ 1))
  have HBb9 := Lib.hid (HBb9.out.below (below_drewN _ 1))
  have HOx6 := Lib.hid (owns_below HOx6.out (below_drewN _ 1))
  have HOx8 := Lib.hid (owns_below HOx8.out (below_drewN _ 1))
  have HMid := Lib.hid (HMid.out.trans ((below_drewN _ 1).mono HMid.out.size))
  refine wp_region_noPanic ?_
  refine wp_region_held_drew (S := fun w' => Boxed w.heap.size n g w w' ∧ w'.cell? ⟨w.heap.size, 0, none⟩ = some (.int .i64 n) ∧ w'.cell? ⟨w.heap.size, 1, none⟩ = some (.bool g) ∧ Blk w' (w.heap.size + 1) #[.int .i64 k1.s, .int .i64 k1.f, .int .i64 k1.d, (.slice y1 k1.ms.length c1)] 26 ∧ w'.cell? ⟨w.heap.size + 1, 0, none⟩ = some (.int .i64 k1.s) ∧ w'.cell? ⟨w.heap.size + 1, 1, none⟩ = some (.int .i64 k1.f) ∧ w'.cell? ⟨w.heap.size + 1, 2, none⟩ = some (.int .i64 k1.d) ∧ w'.cell? ⟨w.heap.size + 1, 3, none⟩ = some ((.slice y1 k1.ms.length c1)) ∧ Blk w' (w.heap.size + 1 + 1) #[.int .i64 k2.s, .int .i64 k2.f, .int .i64 k2.d, (.slice y2 k2.ms.length c2)] 26 ∧ w'.cell? ⟨w.heap.size + 1 + 1, 0, none⟩ = some (.int .i64 k2.s) ∧ w'.cell? ⟨w.heap.size + 1 + 1, 1, none⟩ = some (.int .i64 k2.f) ∧ w'.cell? ⟨w.heap.size + 1 + 1, 2, none⟩ = some (.int .i64 k2.d) ∧ w'.cell? ⟨w.heap.size + 1 + 1, 3, none⟩ = some ((.slice y2 k2.ms.length c2)) ∧ Blk w' (w8.heap.size) #[.int .i64 k1.s, .int .i64 k1.f, .int .i64 k1.d, (.slice ax6 k1.ms.length cx6)] 33 ∧ w'.cell? ⟨w8.heap.size, 0, none⟩ = some (.int .i64 k1.s) ∧ w'.cell? ⟨w8.heap.size, 1, none⟩ = some (.int .i64 k1.f) ∧ w'.cell? ⟨w8.heap.size, 2, none⟩ = some (.int .i64 k1.d) ∧ w'.cell? ⟨w8.heap.size, 3, none⟩ = some ((.slice ax6 k1.ms.length cx6)) ∧ Blk w' (w10.heap.size) #[.int .i64 k2.s, .int .i64 k2.f, .int .i64 k2.d, (.slice ax8 k2.ms.length cx8)] 33 ∧ w'.cell? ⟨w10.heap.size, 0, none⟩ = some (.int .i64 k2.s) ∧ w'.cell? ⟨w10.heap.size, 1, none⟩ = some (.int .i64 k2.f) ∧ w'.cell? ⟨w10.heap.size, 2, none⟩ = some (.int .i64 k2.d) ∧ w'.cell? ⟨w10.heap.size, 3, none⟩ = some ((.slice ax8 k2.ms.length cx8))) (by kernel_rfl) (⟨HX.out, HX.out.c0, HX.out.c1, HBb1.out, HBb1.out.cell 0, HBb1.out.cell 1, HBb1.out.cell 2, HBb1.out.cell 3, HBb2.out, HBb2.out.cell 0, HBb2.out.cell 1, HBb2.out.cell 2, HBb2.out.cell 3, HBb7.out, HBb7.out.cell 0, HBb7.out.cell 1, HBb7.out.cell 2, HBb7.out.cell 3, HBb9.out, HBb9.out.cell 0, HBb9.out.cell 1, HBb9.out.cell 2, HBb9.out.cell 3⟩) (fun hHeld => ?_)
  refine wpAnyH_take (i := 0) (oi := _) (v := ?_) rfl (by kernel_rfl) (by kernel_rfl) (by kernel_rfl) (fun _ _ _ h => h) (Or.inl ⟨by rfl, ?_⟩) (by assumption) ?_
  rotate_left
  · (intro w hSw; (try dsimp only at hSw); (first | (go_simp; done) | (go_simp; with_reducible rfl)))
  simp only [Act.put, List.getElem_toArray, List.getElem_cons_succ, List.getElem_cons_zero, List.setIfInBounds_toArray, List.set_cons_zero, List.set_cons_succ]
  refine wpAnyH_take (i := 2) (oi := _) (v := ?_) rfl (by kernel_rfl) (by kernel_rfl) (by kernel_rfl) (fun _ _ _ h => h) (Or.inl ⟨by rfl, ?_⟩) (by assumption) ?_
  rotate_left
  · (intro w hSw; (try dsimp only at hSw); (first | (go_simp; done) | (go_simp; with_reducible rfl)))
  simp only [Act.put, List.getElem_toArray, List.getElem_cons_succ, List.getElem_cons_zero, List.setIfInBounds_toArray, List.set_cons_zero, List.set_cons_succ]
  refine wpAnyH_take (i := 3) (oi := _) (v := ?_) rfl (by kernel_rfl) (by kernel_rfl) (by kernel_rfl) (fun _ _ _ h => h) (Or.inl ⟨by rfl, ?_⟩) (by assumption) ?_
  rotate_left
  · (intro w hSw; (try dsimp only at hSw); (first | (go_simp; done) | (go_simp; with_reducible rfl)))
  simp only [Act.put, List.getElem_toArray, List.getElem_cons_succ, List.getElem_cons_zero, List.setIfInBounds_toArray, List.set_cons_zero, List.set_cons_succ]
  refine wpAnyH_ready (rs := [1]) (by kernel_rfl) (by simp) ?_
  refine AllReadyH.cons rfl (fun K hK => ?_) AllReadyH.nil
  go_simp
  refine (HT.out _).mono ?_
  rintro e w12 ⟨rfl, hb⟩
  have HX := Lib.hid (HX.out.next hb)
  have HBb1 := Lib.hid (HBb1.out.below hb)
  have HBb2 := Lib.hid (HBb2.out.below hb)
  have HBb7 := Lib.hid (HBb7.out.below hb)
  have HBb9 := Lib.hid (HBb9.out.below hb)
  have HOx6 := Lib.hid (owns_below HOx6.out hb)
  have HOx8 := Lib.hid (owns_below HOx8.out hb)
  have HMid := Lib.hid (HMid.out.trans (hb.mono HMid.out.size))
  have HZw12 : Hid (w11.heap.size ≤ w12.heap.size) := Lib.hid (hb.size)
  clear hb
  clear hHeld
  go_wp2_with fail
  refine hK.out _ _ (⟨HX.out, HX.out.c0, HX.out.c1, HBb1.out, HBb1.out.cell 0, HBb1.out.cell 1, HBb1.out.cell 2, HBb1.out.cell 3, HBb2.out, HBb2.out.cell 0, HBb2.out.cell 1, HBb2.out.cell 2, HBb2.out.cell 3, HBb7.out, HBb7.out.cell 0, HBb7.out.cell 1, HBb7.out.cell 2, HBb7.out.cell 3, HBb9.out, HBb9.out.cell 0, HBb9.out.cell 1, HBb9.out.cell 2, HBb9.out.cell 3⟩) (fun hHeld => ?_)
  clear hK K
  refine wpAnyH_ready (rs := [4]) (by kernel_rfl) (by simp) ?_
  refine AllReadyH.cons rfl (fun K hK => ?_) AllReadyH.nil
  go_simp
  refine (HI.out (.slice ax6 k1.ms.length cx6) (.slice ax8 k2.ms.length cx8) _ (owns_reads HOx6.out Hnk1_ms.out) (owns_reads HOx8.out Hnk2_ms.out) (HN.out.below HX.out.below)).mono ?_
  rintro e w13 ⟨g10, ug10, rfl, ho, hb⟩
  have HX := Lib.hid (HX.out.next hb)
  have HBb1 := Lib.hid (HBb1.out.below hb)
  have HBb2 := Lib.hid (HBb2.out.below hb)
  have HBb7 := Lib.hid (HBb7.out.below hb)
  have HBb9 := Lib.hid (HBb9.out.below hb)
  have HOx6 := Lib.hid (owns_below HOx6.out hb)
  have HOx8 := Lib.hid (owns_below HOx8.out hb)
  have HMid := Lib.hid (HMid.out.trans (hb.mono HMid.out.size))
  have HZw13 : Hid (w12.heap.size ≤ w13.heap.size) := Lib.hid (hb.size)
  have HOg10 := Lib.hid ho
  clear ho
  clear hb
  clear hHeld
  go_wp2_with fail
  refine hK.out _ _ (⟨HX.out, HX.out.c0, HX.out.c1, HBb1.out, HBb1.out.cell 0, HBb1.out.cell 1, HBb1.out.cell 2, HBb1.out.cell 3, HBb2.out, HBb2.out.cell 0, HBb2.out.cell 1, HBb2.out.cell 2, HBb2.out.cell 3, HBb7.out, HBb7.out.cell 0, HBb7.out.cell 1, HBb7.out.cell 2, HBb7.out.cell 3, HBb9.out, HBb9.out.cell 0, HBb9.out.cell 1, HBb9.out.cell 2, HBb9.out.cell 3⟩) (fun hHeld => ?_)
  clear hK K
  refine wpAnyH_take (i := 5) (oi := _) (v := ?_) rfl (by kernel_rfl) (by kernel_rfl) (by kernel_rfl) (fun _ _ _ h => h) (Or.inl ⟨by rfl, ?_⟩) (by assumption) ?_
  rotate_left
  · (intro w hSw; (try dsimp only at hSw); (first | (go_simp; done) | (go_simp; with_reducible rfl)))
  simp only [Act.put, List.getElem_toArray, List.getElem_cons_succ, List.getElem_cons_zero, List.setIfInBounds_toArray, List.set_cons_zero, List.set_cons_succ]
  refine wpAnyH_take (i := 6) (oi := _) (v := ?_) rfl (by kernel_rfl) (by kernel_rfl) (by kernel_rfl) (fun _ _ _ h => h) (Or.inl ⟨by rfl, ?_⟩) (by assumption) ?_
  rotate_left
  · (intro w hSw; (try dsimp only at hSw); (first | (go_simp; done) | (go_simp; with_reducible rfl)))
  simp only [Act.put, List.getElem_toArray, List.getElem_cons_succ, List.getElem_cons_zero, List.setIfInBounds_toArray, List.set_cons_zero, List.set_cons_succ]
  refine wpAnyH_take (i := 7) (oi := _) (v := ?_) rfl (by kernel_rfl) (by kernel_rfl) (by kernel_rfl) (fun _ _ _ h => h) (Or.inl ⟨by rfl, ?_⟩) (by assumption) ?_
  rotate_left
  · (intro w hSw; (try dsimp only at hSw); (first | (go_simp; done) | (go_simp; with_reducible rfl)))
  simp only [Act.put, List.getElem_toArray, List.getElem_cons_succ, List.getElem_cons_zero, List.setIfInBounds_toArray, List.set_cons_zero, List.set_cons_succ]
  refine wpAnyH_take (i := 8) (oi := _) (v := ?_) rfl (by kernel_rfl) (by kernel_rfl) (by kernel_rfl) (fun _ _ _ h => h) (Or.inl ⟨by rfl, ?_⟩) (by assumption) ?_
  rotate_left
  · (intro w hSw; (try dsimp only at hSw); (first | (go_simp; done) | (go_simp; with_reducible rfl)))
  simp only [Act.put, List.getElem_toArray, List.getElem_cons_succ, List.getElem_cons_zero, List.setIfInBounds_toArray, List.set_cons_zero, List.set_cons_succ]
  refine wpAnyH_take (i := 9) (oi := _) (v := ?_) rfl (by kernel_rfl) (by kernel_rfl) (by kernel_rfl) (fun _ _ _ h => h) (Or.inl ⟨by rfl, ?_⟩) (by assumption) ?_
  rotate_left
  · (intro w hSw; (try dsimp only at hSw); (first | (go_simp; done) | (go_simp; with_reducible rfl)))
  simp only [Act.put, List.getElem_toArray, List.getElem_cons_succ, List.getElem_cons_zero, List.setIfInBounds_toArray, List.set_cons_zero, List.set_cons_succ]
  refine wpAnyH_done (by kernel_rfl) ?_ _
  refine NoPanic.normal ?_
  clear hHeld
  cases b
  all_goals
    have hb0 := HX.out.c0
    have hb1 := HX.out.c1
    have hc_b10 := HBb1.out.cell 0
    have hc_b11 := HBb1.out.cell 1
    have hc_b12 := HBb1.out.cell 2
    have hc_b13 := HBb1.out.cell 3
    have hc_b20 := HBb2.out.cell 0
    have hc_b21 := HBb2.out.cell 1
    have hc_b22 := HBb2.out.cell 2
    have hc_b23 := HBb2.out.cell 3
    have hc_b70 := HBb7.out.cell 0
    have hc_b71 := HBb7.out.cell 1
    have hc_b72 := HBb7.out.cell 2
    have hc_b73 := HBb7.out.cell 3
    have hc_b90 := HBb9.out.cell 0
    have hc_b91 := HBb9.out.cell 1
    have hc_b92 := HBb9.out.cell 2
    have hc_b93 := HBb9.out.cell 3
    go_wp2_with fail
    refine (eqT_yes g10 r5 zss _ (HOg10.out.reads Hnzss.out) (HQr5.out.below HMid.out)).mono ?_
    rintro e w14 ⟨rfl, hb⟩
    clear hb0 hb1 hc_b10 hc_b11 hc_b12 hc_b13 hc_b20 hc_b21 hc_b22 hc_b23 hc_b70 hc_b71 hc_b72 hc_b73 hc_b90 hc_b91 hc_b92 hc_b93
    have HX := Lib.hid (HX.out.next hb)
    have HBb1 := Lib.hid (HBb1.out.below hb)
    have HBb2 := Lib.hid (HBb2.out.below hb)
    have HBb7 := Lib.hid (HBb7.out.below hb)
    have HBb9 := Lib.hid (HBb9.out.below hb)
    have HOx6 := Lib.hid (owns_below HOx6.out hb)
    have HOx8 := Lib.hid (owns_below HOx8.out hb)
    have HOg10 := Lib.hid (HOg10.out.below hb)
    have HMid := Lib.hid (HMid.out.trans (hb.mono HMid.out.size))
    have HZw14 : Hid (w13.heap.size ≤ w14.heap.size) := Lib.hid (hb.size)
    clear hb
    have hb0 := HX.out.c0
    have hb1 := HX.out.c1
    have hc_b10 := HBb1.out.cell 0
    have hc_b11 := HBb1.out.cell 1
    have hc_b12 := HBb1.out.cell 2
    have hc_b13 := HBb1.out.cell 3
    have hc_b20 := HBb2.out.cell 0
    have hc_b21 := HBb2.out.cell 1
    have hc_b22 := HBb2.out.cell 2
    have hc_b23 := HBb2.out.cell 3
    have hc_b70 := HBb7.out.cell 0
    have hc_b71 := HBb7.out.cell 1
    have hc_b72 := HBb7.out.cell 2
    have hc_b73 := HBb7.out.cell 3
    have hc_b90 := HBb9.out.cell 0
    have hc_b91 := HBb9.out.cell 1
    have hc_b92 := HBb9.out.cell 2
    have hc_b93 := HBb9.out.cell 3
    go_wp2_with fail
    clear hb0 hb1 hc_b10 hc_b11 hc_b12 hc_b13 hc_b20 hc_b21 hc_b22 hc_b23 hc_b70 hc_b71 hc_b72 hc_b73 hc_b90 hc_b91 hc_b92 hc_b93
    have HX := Lib.hid (HX.out.next (below_drewN _ 1))
    have HBb1 := Lib.hid (HBb1.out.below (below_drewN _ 1))
    have HBb2 := Lib.hid (HBb2.out.below (below_drewN _ 1))
    have HBb7 := Lib.hid (HBb7.out.below (below_drewN _ 1))
    have HBb9 := Lib.hid (HBb9.out.below (below_drewN _ 1))
    have HOx6 := Lib.hid (owns_below HOx6.out (below_drewN _ 1))
    have HOx8 := Lib.hid (owns_below HOx8.out (below_drewN _ 1))
    have HOg10 := Lib.hid (HOg10.out.below (below_drewN _ 1))
    have HMid := Lib.hid (HMid.out.trans ((below_drewN _ 1).mono HMid.out.size))
    refine wp_region_noPanic ?_
    refine wp_region_held_drew (S := fun w' => Boxed w.heap.size n g w w' ∧ w'.cell? ⟨w.heap.size, 0, none⟩ = some (.int .i64 n) ∧ w'.cell? ⟨w.heap.size, 1, none⟩ = some (.bool g) ∧ Blk w' (w.heap.size + 1) #[.int .i64 k1.s, .int .i64 k1.f, .int .i64 k1.d, (.slice y1 k1.ms.length c1)] 26 ∧ w'.cell? ⟨w.heap.size + 1, 0, none⟩ = some (.int .i64 k1.s) ∧ w'.cell? ⟨w.heap.size + 1, 1, none⟩ = some (.int .i64 k1.f) ∧ w'.cell? ⟨w.heap.size + 1, 2, none⟩ = some (.int .i64 k1.d) ∧ w'.cell? ⟨w.heap.size + 1, 3, none⟩ = some ((.slice y1 k1.ms.length c1)) ∧ Blk w' (w.heap.size + 1 + 1) #[.int .i64 k2.s, .int .i64 k2.f, .int .i64 k2.d, (.slice y2 k2.ms.length c2)] 26 ∧ w'.cell? ⟨w.heap.size + 1 + 1, 0, none⟩ = some (.int .i64 k2.s) ∧ w'.cell? ⟨w.heap.size + 1 + 1, 1, none⟩ = some (.int .i64 k2.f) ∧ w'.cell? ⟨w.heap.size + 1 + 1, 2, none⟩ = some (.int .i64 k2.d) ∧ w'.cell? ⟨w.heap.size + 1 + 1, 3, none⟩ = some ((.slice y2 k2.ms.length c2)) ∧ Blk w' (w8.heap.size) #[.int .i64 k1.s, .int .i64 k1.f, .int .i64 k1.d, (.slice ax6 k1.ms.length cx6)] 33 ∧ w'.cell? ⟨w8.heap.size, 0, none⟩ = some (.int .i64 k1.s) ∧ w'.cell? ⟨w8.heap.size, 1, none⟩ = some (.int .i64 k1.f) ∧ w'.cell? ⟨w8.heap.size, 2, none⟩ = some (.int .i64 k1.d) ∧ w'.cell? ⟨w8.heap.size, 3, none⟩ = some ((.slice ax6 k1.ms.length cx6)) ∧ Blk w' (w10.heap.size) #[.int .i64 k2.s, .int .i64 k2.f, .int .i64 k2.d, (.slice ax8 k2.ms.length cx8)] 33 ∧ w'.cell? ⟨w10.heap.size, 0, none⟩ = some (.int .i64 k2.s) ∧ w'.cell? ⟨w10.heap.size, 1, none⟩ = some (.int .i64 k2.f) ∧ w'.cell? ⟨w10.heap.size, 2, none⟩ = some (.int .i64 k2.d) ∧ w'.cell? ⟨w10.heap.size, 3, none⟩ = some ((.slice ax8 k2.ms.length cx8))) (by kernel_rfl) (⟨HX.out, HX.out.c0, HX.out.c1, HBb1.out, HBb1.out.cell 0, HBb1.out.cell 1, HBb1.out.cell 2, HBb1.out.cell 3, HBb2.out, HBb2.out.cell 0, HBb2.out.cell 1, HBb2.out.cell 2, HBb2.out.cell 3, HBb7.out, HBb7.out.cell 0, HBb7.out.cell 1, HBb7.out.cell 2, HBb7.out.cell 3, HBb9.out, HBb9.out.cell 0, HBb9.out.cell 1, HBb9.out.cell 2, HBb9.out.cell 3⟩) (fun hHeld => ?_)
    refine wpAnyH_take (i := 0) (oi := _) (v := ?_) rfl (by kernel_rfl) (by kernel_rfl) (by kernel_rfl) (fun _ _ _ h => h) (Or.inl ⟨by rfl, ?_⟩) (by assumption) ?_
    rotate_left
    · (intro w hSw; (try dsimp only at hSw); (first | (go_simp; done) | (go_simp; with_reducible rfl)))
    simp only [Act.put, List.getElem_toArray, List.getElem_cons_succ, List.getElem_cons_zero, List.setIfInBounds_toArray, List.set_cons_zero, List.set_cons_succ]
    refine wpAnyH_take (i := 1) (oi := _) (v := ?_) rfl (by kernel_rfl) (by kernel_rfl) (by kernel_rfl) (fun _ _ _ h => h) (Or.inl ⟨by rfl, ?_⟩) (by assumption) ?_
    rotate_left
    · (intro w hSw; (try dsimp only at hSw); (first | (go_simp; done) | (go_simp; with_reducible rfl)))
    simp only [Act.put, List.getElem_toArray, List.getElem_cons_succ, List.getElem_cons_zero, List.setIfInBounds_toArray, List.set_cons_zero, List.set_cons_succ]
    refine wpAnyH_ready (rs := [2]) (by kernel_rfl) (by simp) ?_
    refine AllReadyH.cons rfl (fun K hK => ?_) AllReadyH.nil
    go_simp
    refine (toW_any k1 (.slice y1 k1.ms.length c1) _ (HV1.out.below HX.out.below) hn1).mono ?_
    rintro e w15 ⟨x11, rfl, ho, hb⟩
    have HX := Lib.hid (HX.out.next hb)
    have HBb1 := Lib.hid (HBb1.out.below hb)
    have HBb2 := Lib.hid (HBb2.out.below hb)
    have HBb7 := Lib.hid (HBb7.out.below hb)
    have HBb9 := Lib.hid (HBb9.out.below hb)
    have HOx6 := Lib.hid (owns_below HOx6.out hb)
    have HOx8 := Lib.hid (owns_below HOx8.out hb)
    have HOg10 := Lib.hid (HOg10.out.below hb)
    have HMid := Lib.hid (HMid.out.trans (hb.mono HMid.out.size))
    have HZw15 : Hid (w14.heap.size ≤ w15.heap.size) := Lib.hid (hb.size)
    have HRx11 : Hid (∀ b, x11.ownBlock = some b → w14.heap.size ≤ b ∧ b < w15.heap.size) := Lib.hid (fun b hb => owns_block ho b hb)
    obtain ⟨ax11, cx11, hsx11, _⟩ := owns_shape ho
    subst hsx11
    have HOx11 := Lib.hid ho
    clear ho
    clear hb
    clear hHeld
    go_wp2_with fail
    refine hK.out _ _ (⟨HX.out, HX.out.c0, HX.out.c1, HBb1.out, HBb1.out.cell 0, HBb1.out.cell 1, HBb1.out.cell 2, HBb1.out.cell 3, HBb2.out, HBb2.out.cell 0, HBb2.out.cell 1, HBb2.out.cell 2, HBb2.out.cell 3, HBb7.out, HBb7.out.cell 0, HBb7.out.cell 1, HBb7.out.cell 2, HBb7.out.cell 3, HBb9.out, HBb9.out.cell 0, HBb9.out.cell 1, HBb9.out.cell 2, HBb9.out.cell 3⟩) (fun hHeld => ?_)
    clear hK K
    refine wpAnyH_ready (rs := [3]) (by kernel_rfl) (by simp) ?_
    refine AllReadyH.cons rfl (fun K hK => ?_) AllReadyH.nil
    go_simp
    refine (eqW_any k1 (.slice ax6 k1.ms.length cx6) (.slice ax11 k1.ms.length cx11) _ (owns_reads HOx6.out Hnk1_ms.out) (owns_reads HOx11.out Hnk1_ms.out)).mono ?_
    rintro e w16 ⟨rfl, hb⟩
    have HX := Lib.hid (HX.out.next hb)
    have HBb1 := Lib.hid (HBb1.out.below hb)
    have HBb2 := Lib.hid (HBb2.out.below hb)
    have HBb7 := Lib.hid (HBb7.out.below hb)
    have HBb9 := Lib.hid (HBb9.out.below hb)
    have HOx6 := Lib.hid (owns_below HOx6.out hb)
    have HOx8 := Lib.hid (owns_below HOx8.out hb)
    have HOg10 := Lib.hid (HOg10.out.below hb)
    have HOx11 := Lib.hid (owns_below HOx11.out hb)
    have HMid := Lib.hid (HMid.out.trans (hb.mono HMid.out.size))
    have HZw16 : Hid (w15.heap.size ≤ w16.heap.size) := Lib.hid (hb.size)
    clear hb
    clear hHeld
    go_wp2_with fail
    refine hK.out _ _ (⟨HX.out, HX.out.c0, HX.out.c1, HBb1.out, HBb1.out.cell 0, HBb1.out.cell 1, HBb1.out.cell 2, HBb1.out.cell 3, HBb2.out, HBb2.out.cell 0, HBb2.out.cell 1, HBb2.out.cell 2, HBb2.out.cell 3, HBb7.out, HBb7.out.cell 0, HBb7.out.cell 1, HBb7.out.cell 2, HBb7.out.cell 3, HBb9.out, HBb9.out.cell 0, HBb9.out.cell 1, HBb9.out.cell 2, HBb9.out.cell 3⟩) (fun hHeld => ?_)
    clear hK K
    refine wpAnyH_take (i := 4) (oi := _) (v := ?_) rfl (by kernel_rfl) (by kernel_rfl) (by kernel_rfl) (fun _ _ _ h => h) (Or.inl ⟨by rfl, ?_⟩) (by assumption) ?_
    rotate_left
    · (intro w hSw; (try dsimp only at hSw); (first | (go_simp; done) | (go_simp; with_reducible rfl)))
    simp only [Act.put, List.getElem_toArray, List.getElem_cons_succ, List.getElem_cons_zero, List.setIfInBounds_toArray, List.set_cons_zero, List.set_cons_succ]
    refine wpAnyH_done (by kernel_rfl) ?_ _
    refine NoPanic.normal ?_
    clear hHeld
    clear HOx11 HRx11
    have hb0 := HX.out.c0
    have hb1 := HX.out.c1
    have hc_b10 := HBb1.out.cell 0
    have hc_b11 := HBb1.out.cell 1
    have hc_b12 := HBb1.out.cell 2
    have hc_b13 := HBb1.out.cell 3
    have hc_b20 := HBb2.out.cell 0
    have hc_b21 := HBb2.out.cell 1
    have hc_b22 := HBb2.out.cell 2
    have hc_b23 := HBb2.out.cell 3
    have hc_b70 := HBb7.out.cell 0
    have hc_b71 := HBb7.out.cell 1
    have hc_b72 := HBb7.out.cell 2
    have hc_b73 := HBb7.out.cell 3
    have hc_b90 := HBb9.out.cell 0
    have hc_b91 := HBb9.out.cell 1
    have hc_b92 := HBb9.out.cell 2
    have hc_b93 := HBb9.out.cell 3
    go_wp2_with fail
    clear hb0 hb1 hc_b10 hc_b11 hc_b12 hc_b13 hc_b20 hc_b21 hc_b22 hc_b23 hc_b70 hc_b71 hc_b72 hc_b73 hc_b90 hc_b91 hc_b92 hc_b93
    have HX := Lib.hid (HX.out.next (below_drewN _ 1))
    have HBb1 := Lib.hid (HBb1.out.below (below_drewN _ 1))
    have HBb2 := Lib.hid (HBb2.out.below (below_drewN _ 1))
    have HBb7 := Lib.hid (HBb7.out.below (below_drewN _ 1))
    have HBb9 := Lib.hid (HBb9.out.below (below_drewN _ 1))
    have HOx6 := Lib.hid (owns_below HOx6.out (below_drewN _ 1))
    have HOx8 := Lib.hid (owns_below HOx8.out (below_drewN _ 1))
    have HOg10 := Lib.hid (HOg10.out.below (below_drewN _ 1))
    have HMid := Lib.hid (HMid.out.trans ((below_drewN _ 1).mono HMid.out.size))
    refine wp_region_noPanic ?_
    refine wp_region_held_drew (S := fun w' => Boxed w.heap.size n g w w' ∧ w'.cell? ⟨w.heap.size, 0, none⟩ = some (.int .i64 n) ∧ w'.cell? ⟨w.heap.size, 1, none⟩ = some (.bool g) ∧ Blk w' (w.heap.size + 1) #[.int .i64 k1.s, .int .i64 k1.f, .int .i64 k1.d, (.slice y1 k1.ms.length c1)] 26 ∧ w'.cell? ⟨w.heap.size + 1, 0, none⟩ = some (.int .i64 k1.s) ∧ w'.cell? ⟨w.heap.size + 1, 1, none⟩ = some (.int .i64 k1.f) ∧ w'.cell? ⟨w.heap.size + 1, 2, none⟩ = some (.int .i64 k1.d) ∧ w'.cell? ⟨w.heap.size + 1, 3, none⟩ = some ((.slice y1 k1.ms.length c1)) ∧ Blk w' (w.heap.size + 1 + 1) #[.int .i64 k2.s, .int .i64 k2.f, .int .i64 k2.d, (.slice y2 k2.ms.length c2)] 26 ∧ w'.cell? ⟨w.heap.size + 1 + 1, 0, none⟩ = some (.int .i64 k2.s) ∧ w'.cell? ⟨w.heap.size + 1 + 1, 1, none⟩ = some (.int .i64 k2.f) ∧ w'.cell? ⟨w.heap.size + 1 + 1, 2, none⟩ = some (.int .i64 k2.d) ∧ w'.cell? ⟨w.heap.size + 1 + 1, 3, none⟩ = some ((.slice y2 k2.ms.length c2)) ∧ Blk w' (w8.heap.size) #[.int .i64 k1.s, .int .i64 k1.f, .int .i64 k1.d, (.slice ax6 k1.ms.length cx6)] 33 ∧ w'.cell? ⟨w8.heap.size, 0, none⟩ = some (.int .i64 k1.s) ∧ w'.cell? ⟨w8.heap.size, 1, none⟩ = some (.int .i64 k1.f) ∧ w'.cell? ⟨w8.heap.size, 2, none⟩ = some (.int .i64 k1.d) ∧ w'.cell? ⟨w8.heap.size, 3, none⟩ = some ((.slice ax6 k1.ms.length cx6)) ∧ Blk w' (w10.heap.size) #[.int .i64 k2.s, .int .i64 k2.f, .int .i64 k2.d, (.slice ax8 k2.ms.length cx8)] 33 ∧ w'.cell? ⟨w10.heap.size, 0, none⟩ = some (.int .i64 k2.s) ∧ w'.cell? ⟨w10.heap.size, 1, none⟩ = some (.int .i64 k2.f) ∧ w'.cell? ⟨w10.heap.size, 2, none⟩ = some (.int .i64 k2.d) ∧ w'.cell? ⟨w10.heap.size, 3, none⟩ = some ((.slice ax8 k2.ms.length cx8))) (by kernel_rfl) (⟨HX.out, HX.out.c0, HX.out.c1, HBb1.out, HBb1.out.cell 0, HBb1.out.cell 1, HBb1.out.cell 2, HBb1.out.cell 3, HBb2.out, HBb2.out.cell 0, HBb2.out.cell 1, HBb2.out.cell 2, HBb2.out.cell 3, HBb7.out, HBb7.out.cell 0, HBb7.out.cell 1, HBb7.out.cell 2, HBb7.out.cell 3, HBb9.out, HBb9.out.cell 0, HBb9.out.cell 1, HBb9.out.cell 2, HBb9.out.cell 3⟩) (fun hHeld => ?_)
    refine wpAnyH_take (i := 0) (oi := _) (v := ?_) rfl (by kernel_rfl) (by kernel_rfl) (by kernel_rfl) (fun _ _ _ h => h) (Or.inl ⟨by rfl, ?_⟩) (by assumption) ?_
    rotate_left
    · (intro w hSw; (try dsimp only at hSw); (first | (go_simp; done) | (go_simp; with_reducible rfl)))
    simp only [Act.put, List.getElem_toArray, List.getElem_cons_succ, List.getElem_cons_zero, List.setIfInBounds_toArray, List.set_cons_zero, List.set_cons_succ]
    refine wpAnyH_take (i := 1) (oi := _) (v := ?_) rfl (by kernel_rfl) (by kernel_rfl) (by kernel_rfl) (fun _ _ _ h => h) (Or.inl ⟨by rfl, ?_⟩) (by assumption) ?_
    rotate_left
    · (intro w hSw; (try dsimp only at hSw); (first | (go_simp; done) | (go_simp; with_reducible rfl)))
    simp only [Act.put, List.getElem_toArray, List.getElem_cons_succ, List.getElem_cons_zero, List.setIfInBounds_toArray, List.set_cons_zero, List.set_cons_succ]
    refine wpAnyH_ready (rs := [2]) (by kernel_rfl) (by simp) ?_
    refine AllReadyH.cons rfl (fun K hK => ?_) AllReadyH.nil
    go_simp
    refine (toW_any k2 (.slice y2 k2.ms.length c2) _ (HV2.out.below HX.out.below) hn2).mono ?_
    rintro e w17 ⟨x12, rfl, ho, hb⟩
    have HX := Lib.hid (HX.out.next hb)
    have HBb1 := Lib.hid (HBb1.out.below hb)
    have HBb2 := Lib.hid (HBb2.out.below hb)
    have HBb7 := Lib.hid (HBb7.out.below hb)
    have HBb9 := Lib.hid (HBb9.out.below hb)
    have HOx6 := Lib.hid (owns_below HOx6.out hb)
    have HOx8 := Lib.hid (owns_below HOx8.out hb)
    have HOg10 := Lib.hid (HOg10.out.below hb)
    have HMid := Lib.hid (HMid.out.trans (hb.mono HMid.out.size))
    have HZw17 : Hid (w16.heap.size ≤ w17.heap.size) := Lib.hid (hb.size)
    have HRx12 : Hid (∀ b, x12.ownBlock = some b → w16.heap.size ≤ b ∧ b < w17.heap.size) := Lib.hid (fun b hb => owns_block ho b hb)
    obtain ⟨ax12, cx12, hsx12, _⟩ := owns_shape ho
    subst hsx12
    have HOx12 := Lib.hid ho
    clear ho
    clear hb
    clear hHeld
    go_wp2_with fail
    refine hK.out _ _ (⟨HX.out, HX.out.c0, HX.out.c1, HBb1.out, HBb1.out.cell 0, HBb1.out.cell 1, HBb1.out.cell 2, HBb1.out.cell 3, HBb2.out, HBb2.out.cell 0, HBb2.out.cell 1, HBb2.out.cell 2, HBb2.out.cell 3, HBb7.out, HBb7.out.cell 0, HBb7.out.cell 1, HBb7.out.cell 2, HBb7.out.cell 3, HBb9.out, HBb9.out.cell 0, HBb9.out.cell 1, HBb9.out.cell 2, HBb9.out.cell 3⟩) (fun hHeld => ?_)
    clear hK K
    refine wpAnyH_ready (rs := [3]) (by kernel_rfl) (by simp) ?_
    refine AllReadyH.cons rfl (fun K hK => ?_) AllReadyH.nil
    go_simp
    refine (eqW_any k2 (.slice ax8 k2.ms.length cx8) (.slice ax12 k2.ms.length cx12) _ (owns_reads HOx8.out Hnk2_ms.out) (owns_reads HOx12.out Hnk2_ms.out)).mono ?_
    rintro e w18 ⟨rfl, hb⟩
    have HX := Lib.hid (HX.out.next hb)
    have HBb1 := Lib.hid (HBb1.out.below hb)
    have HBb2 := Lib.hid (HBb2.out.below hb)
    have HBb7 := Lib.hid (HBb7.out.below hb)
    have HBb9 := Lib.hid (HBb9.out.below hb)
    have HOx6 := Lib.hid (owns_below HOx6.out hb)
    have HOx8 := Lib.hid (owns_below HOx8.out hb)
    have HOg10 := Lib.hid (HOg10.out.below hb)
    have HOx12 := Lib.hid (owns_below HOx12.out hb)
    have HMid := Lib.hid (HMid.out.trans (hb.mono HMid.out.size))
    have HZw18 : Hid (w17.heap.size ≤ w18.heap.size) := Lib.hid (hb.size)
    clear hb
    clear hHeld
    go_wp2_with fail
    refine hK.out _ _ (⟨HX.out, HX.out.c0, HX.out.c1, HBb1.out, HBb1.out.cell 0, HBb1.out.cell 1, HBb1.out.cell 2, HBb1.out.cell 3, HBb2.out, HBb2.out.cell 0, HBb2.out.cell 1, HBb2.out.cell 2, HBb2.out.cell 3, HBb7.out, HBb7.out.cell 0, HBb7.out.cell 1, HBb7.out.cell 2, HBb7.out.cell 3, HBb9.out, HBb9.out.cell 0, HBb9.out.cell 1, HBb9.out.cell 2, HBb9.out.cell 3⟩) (fun hHeld => ?_)
    clear hK K
    refine wpAnyH_take (i := 4) (oi := _) (v := ?_) rfl (by kernel_rfl) (by kernel_rfl) (by kernel_rfl) (fun _ _ _ h => h) (Or.inl ⟨by rfl, ?_⟩) (by assumption) ?_
    rotate_left
    · (intro w hSw; (try dsimp only at hSw); (first | (go_simp; done) | (go_simp; with_reducible rfl)))
    simp only [Act.put, List.getElem_toArray, List.getElem_cons_succ, List.getElem_cons_zero, List.setIfInBounds_toArray, List.set_cons_zero, List.set_cons_succ]
    refine wpAnyH_done (by kernel_rfl) ?_ _
    refine NoPanic.normal ?_
    clear hHeld
    clear HOx12 HRx12
    have hb0 := HX.out.c0
    have hb1 := HX.out.c1
    have hc_b10 := HBb1.out.cell 0
    have hc_b11 := HBb1.out.cell 1
    have hc_b12 := HBb1.out.cell 2
    have hc_b13 := HBb1.out.cell 3
    have hc_b20 := HBb2.out.cell 0
    have hc_b21 := HBb2.out.cell 1
    have hc_b22 := HBb2.out.cell 2
    have hc_b23 := HBb2.out.cell 3
    have hc_b70 := HBb7.out.cell 0
    have hc_b71 := HBb7.out.cell 1
    have hc_b72 := HBb7.out.cell 2
    have hc_b73 := HBb7.out.cell 3
    have hc_b90 := HBb9.out.cell 0
    have hc_b91 := HBb9.out.cell 1
    have hc_b92 := HBb9.out.cell 2
    have hc_b93 := HBb9.out.cell 3
    go_wp2_with fail
    refine (markW_any k1 (.slice ax6 k1.ms.length cx6) _ (1) _ HOx6.out (Hbk1_ms.out) (by omega)).mono ?_
    rintro e w19 ⟨rfl, hg, ho⟩
    clear hb0 hb1 hc_b10 hc_b11 hc_b12 hc_b13 hc_b20 hc_b21 hc_b22 hc_b23 hc_b70 hc_b71 hc_b72 hc_b73 hc_b90 hc_b91 hc_b92 hc_b93
    have hch : ChgIn (w7.heap.size) (w8.heap.size) w18 w19 := ChgIn.of_grown hg HRx6.out
    have hbM : Below w7.heap.size w18 w19 := hch.below (by have z0 := HZw1.out; have z1 := HZw2.out; have z2 := HZw3.out; have z3 := HZw4.out; have z4 := HZw5.out; have z5 := HZw6.out; have z6 := HZw7.out; have z7 := HZw8.out; have z8 := HZw9.out; have z9 := HZw10.out; have z10 := HZw11.out; have z11 := HZw12.out; have z12 := HZw13.out; have z13 := HZw14.out; have z14 := HZw15.out; have z15 := HZw16.out; have z16 := HZw17.out; have z17 := HZw18.out; omega) HMid.out.size
    have HX := Lib.hid (HX.out.nextAt HXm.out hbM)
    have HMid := Lib.hid (HMid.out.trans hbM)
    have HBb1 := Lib.hid (show Blk w19 (w.heap.size + 1) #[.int .i64 k1.s, .int .i64 k1.f, .int .i64 k1.d, (.slice y1 k1.ms.length c1)] 26 from (hch.block _ HBb1.out.lt (by have z0 := HZw1.out; have z1 := HZw2.out; have z2 := HZw3.out; have z3 := HZw4.out; have z4 := HZw5.out; have z5 := HZw6.out; have z6 := HZw7.out; have z7 := HZw8.out; have z8 := HZw9.out; have z9 := HZw10.out; have z10 := HZw11.out; have z11 := HZw12.out; have z12 := HZw13.out; have z13 := HZw14.out; have z14 := HZw15.out; have z15 := HZw16.out; have z16 := HZw17.out; have z17 := HZw18.out; omega)).trans HBb1.out)
    have HBb2 := Lib.hid (show Blk w19 (w.heap.size + 1 + 1) #[.int .i64 k2.s, .int .i64 k2.f, .int .i64 k2.d, (.slice y2 k2.ms.length c2)] 26 from (hch.block _ HBb2.out.lt (by have z0 := HZw1.out; have z1 := HZw2.out; have z2 := HZw3.out; have z3 := HZw4.out; have z4 := HZw5.out; have z5 := HZw6.out; have z6 := HZw7.out; have z7 := HZw8.out; have z8 := HZw9.out; have z9 := HZw10.out; have z10 := HZw11.out; have z11 := HZw12.out; have z12 := HZw13.out; have z13 := HZw14.out; have z14 := HZw15.out; have z15 := HZw16.out; have z16 := HZw17.out; have z17 := HZw18.out; omega)).trans HBb2.out)
    have HBb7 := Lib.hid (show Blk w19 (w8.heap.size) #[.int .i64 k1.s, .int .i64 k1.f, .int .i64 k1.d, (.slice ax6 k1.ms.length cx6)] 33 from (hch.block _ HBb7.out.lt (by have z0 := HZw1.out; have z1 := HZw2.out; have z2 := HZw3.out; have z3 := HZw4.out; have z4 := HZw5.out; have z5 := HZw6.out; have z6 := HZw7.out; have z7 := HZw8.out; have z8 := HZw9.out; have z9 := HZw10.out; have z10 := HZw11.out; have z11 := HZw12.out; have z12 := HZw13.out; have z13 := HZw14.out; have z14 := HZw15.out; have z15 := HZw16.out; have z16 := HZw17.out; have z17 := HZw18.out; omega)).trans HBb7.out)
    have HBb9 := Lib.hid (show Blk w19 (w10.heap.size) #[.int .i64 k2.s, .int .i64 k2.f, .int .i64 k2.d, (.slice ax8 k2.ms.length cx8)] 33 from (hch.block _ HBb9.out.lt (by have z0 := HZw1.out; have z1 := HZw2.out; have z2 := HZw3.out; have z3 := HZw4.out; have z4 := HZw5.out; have z5 := HZw6.out; have z6 := HZw7.out; have z7 := HZw8.out; have z8 := HZw9.out; have z9 := HZw10.out; have z10 := HZw11.out; have z11 := HZw12.out; have z12 := HZw13.out; have z13 := HZw14.out; have z14 := HZw15.out; have z15 := HZw16.out; have z16 := HZw17.out; have z17 := HZw18.out; omega)).trans HBb9.out)
    have HOx8 := Lib.hid (row_chg HOx8.out hch (fun b h => by have l := HRx8.out b h; have z0 := HZw1.out; have z1 := HZw2.out; have z2 := HZw3.out; have z3 := HZw4.out; have z4 := HZw5.out; have z5 := HZw6.out; have z6 := HZw7.out; have z7 := HZw8.out; have z8 := HZw9.out; have z9 := HZw10.out; have z10 := HZw11.out; have z11 := HZw12.out; have z12 := HZw13.out; have z13 := HZw14.out; have z14 := HZw15.out; have z15 := HZw16.out; have z16 := HZw17.out; have z17 := HZw18.out; omega))
    have HOg10 := Lib.hid (HOg10.out.chg hch (by have z0 := HZw1.out; have z1 := HZw2.out; have z2 := HZw3.out; have z3 := HZw4.out; have z4 := HZw5.out; have z5 := HZw6.out; have z6 := HZw7.out; have z7 := HZw8.out; have z8 := HZw9.out; have z9 := HZw10.out; have z10 := HZw11.out; have z11 := HZw12.out; have z12 := HZw13.out; have z13 := HZw14.out; have z14 := HZw15.out; have z15 := HZw16.out; have z16 := HZw17.out; have z17 := HZw18.out; omega))
    have HOx6 := Lib.hid ho
    have HZw19 : Hid (w18.heap.size ≤ w19.heap.size) := Lib.hid hch.size
    clear hch ho hbM hg
    have hb0 := HX.out.c0
    have hb1 := HX.out.c1
    have hc_b10 := HBb1.out.cell 0
    have hc_b11 := HBb1.out.cell 1
    have hc_b12 := HBb1.out.cell 2
    have hc_b13 := HBb1.out.cell 3
    have hc_b20 := HBb2.out.cell 0
    have hc_b21 := HBb2.out.cell 1
    have hc_b22 := HBb2.out.cell 2
    have hc_b23 := HBb2.out.cell 3
    have hc_b70 := HBb7.out.cell 0
    have hc_b71 := HBb7.out.cell 1
    have hc_b72 := HBb7.out.cell 2
    have hc_b73 := HBb7.out.cell 3
    have hc_b90 := HBb9.out.cell 0
    have hc_b91 := HBb9.out.cell 1
    have hc_b92 := HBb9.out.cell 2
    have hc_b93 := HBb9.out.cell 3
    go_wp2_with fail
    refine (markW_any k2 (.slice ax8 k2.ms.length cx8) _ (1 + k1.ms.length) _ HOx8.out (Hbk2_ms.out) (by omega)).mono ?_
    rintro e w20 ⟨rfl, hg, ho⟩
    clear hb0 hb1 hc_b10 hc_b11 hc_b12 hc_b13 hc_b20 hc_b21 hc_b22 hc_b23 hc_b70 hc_b71 hc_b72 hc_b73 hc_b90 hc_b91 hc_b92 hc_b93
    have hch : ChgIn (w9.heap.size) (w10.heap.size) w19 w20 := ChgIn.of_grown hg HRx8.out
    have hbM : Below w7.heap.size w19 w20 := hch.below (by have z0 := HZw1.out; have z1 := HZw2.out; have z2 := HZw3.out; have z3 := HZw4.out; have z4 := HZw5.out; have z5 := HZw6.out; have z6 := HZw7.out; have z7 := HZw8.out; have z8 := HZw9.out; have z9 := HZw10.out; have z10 := HZw11.out; have z11 := HZw12.out; have z12 := HZw13.out; have z13 := HZw14.out; have z14 := HZw15.out; have z15 := HZw16.out; have z16 := HZw17.out; have z17 := HZw18.out; have z18 := HZw19.out; omega) HMid.out.size
    have HX := Lib.hid (HX.out.nextAt HXm.out hbM)
    have HMid := Lib.hid (HMid.out.trans hbM)
    have HBb1 := Lib.hid (show Blk w20 (w.heap.size + 1) #[.int .i64 k1.s, .int .i64 k1.f, .int .i64 k1.d, (.slice y1 k1.ms.length c1)] 26 from (hch.block _ HBb1.out.lt (by have z0 := HZw1.out; have z1 := HZw2.out; have z2 := HZw3.out; have z3 := HZw4.out; have z4 := HZw5.out; have z5 := HZw6.out; have z6 := HZw7.out; have z7 := HZw8.out; have z8 := HZw9.out; have z9 := HZw10.out; have z10 := HZw11.out; have z11 := HZw12.out; have z12 := HZw13.out; have z13 := HZw14.out; have z14 := HZw15.out; have z15 := HZw16.out; have z16 := HZw17.out; have z17 := HZw18.out; have z18 := HZw19.out; omega)).trans HBb1.out)
    have HBb2 := Lib.hid (show Blk w20 (w.heap.size + 1 + 1) #[.int .i64 k2.s, .int .i64 k2.f, .int .i64 k2.d, (.slice y2 k2.ms.length c2)] 26 from (hch.block _ HBb2.out.lt (by have z0 := HZw1.out; have z1 := HZw2.out; have z2 := HZw3.out; have z3 := HZw4.out; have z4 := HZw5.out; have z5 := HZw6.out; have z6 := HZw7.out; have z7 := HZw8.out; have z8 := HZw9.out; have z9 := HZw10.out; have z10 := HZw11.out; have z11 := HZw12.out; have z12 := HZw13.out; have z13 := HZw14.out; have z14 := HZw15.out; have z15 := HZw16.out; have z16 := HZw17.out; have z17 := HZw18.out; have z18 := HZw19.out; omega)).trans HBb2.out)
    have HBb7 := Lib.hid (show Blk w20 (w8.heap.size) #[.int .i64 k1.s, .int .i64 k1.f, .int .i64 k1.d, (.slice ax6 k1.ms.length cx6)] 33 from (hch.block _ HBb7.out.lt (by have z0 := HZw1.out; have z1 := HZw2.out; have z2 := HZw3.out; have z3 := HZw4.out; have z4 := HZw5.out; have z5 := HZw6.out; have z6 := HZw7.out; have z7 := HZw8.out; have z8 := HZw9.out; have z9 := HZw10.out; have z10 := HZw11.out; have z11 := HZw12.out; have z12 := HZw13.out; have z13 := HZw14.out; have z14 := HZw15.out; have z15 := HZw16.out; have z16 := HZw17.out; have z17 := HZw18.out; have z18 := HZw19.out; omega)).trans HBb7.out)
    have HBb9 := Lib.hid (show Blk w20 (w10.heap.size) #[.int .i64 k2.s, .int .i64 k2.f, .int .i64 k2.d, (.slice ax8 k2.ms.length cx8)] 33 from (hch.block _ HBb9.out.lt (by have z0 := HZw1.out; have z1 := HZw2.out; have z2 := HZw3.out; have z3 := HZw4.out; have z4 := HZw5.out; have z5 := HZw6.out; have z6 := HZw7.out; have z7 := HZw8.out; have z8 := HZw9.out; have z9 := HZw10.out; have z10 := HZw11.out; have z11 := HZw12.out; have z12 := HZw13.out; have z13 := HZw14.out; have z14 := HZw15.out; have z15 := HZw16.out; have z16 := HZw17.out; have z17 := HZw18.out; have z18 := HZw19.out; omega)).trans HBb9.out)
    have HOx6 := Lib.hid (row_chg HOx6.out hch (fun b h => by have l := HRx6.out b h; have z0 := HZw1.out; have z1 := HZw2.out; have z2 := HZw3.out; have z3 := HZw4.out; have z4 := HZw5.out; have z5 := HZw6.out; have z6 := HZw7.out; have z7 := HZw8.out; have z8 := HZw9.out; have z9 := HZw10.out; have z10 := HZw11.out; have z11 := HZw12.out; have z12 := HZw13.out; have z13 := HZw14.out; have z14 := HZw15.out; have z15 := HZw16.out; have z16 := HZw17.out; have z17 := HZw18.out; have z18 := HZw19.out; omega))
    have HOg10 := Lib.hid (HOg10.out.chg hch (by have z0 := HZw1.out; have z1 := HZw2.out; have z2 := HZw3.out; have z3 := HZw4.out; have z4 := HZw5.out; have z5 := HZw6.out; have z6 := HZw7.out; have z7 := HZw8.out; have z8 := HZw9.out; have z9 := HZw10.out; have z10 := HZw11.out; have z11 := HZw12.out; have z12 := HZw13.out; have z13 := HZw14.out; have z14 := HZw15.out; have z15 := HZw16.out; have z16 := HZw17.out; have z17 := HZw18.out; have z18 := HZw19.out; omega))
    have HOx8 := Lib.hid ho
    have HZw20 : Hid (w19.heap.size ≤ w20.heap.size) := Lib.hid hch.size
    clear hch ho hbM hg
    have hb0 := HX.out.c0
    have hb1 := HX.out.c1
    have hc_b10 := HBb1.out.cell 0
    have hc_b11 := HBb1.out.cell 1
    have hc_b12 := HBb1.out.cell 2
    have hc_b13 := HBb1.out.cell 3
    have hc_b20 := HBb2.out.cell 0
    have hc_b21 := HBb2.out.cell 1
    have hc_b22 := HBb2.out.cell 2
    have hc_b23 := HBb2.out.cell 3
    have hc_b70 := HBb7.out.cell 0
    have hc_b71 := HBb7.out.cell 1
    have hc_b72 := HBb7.out.cell 2
    have hc_b73 := HBb7.out.cell 3
    have hc_b90 := HBb9.out.cell 0
    have hc_b91 := HBb9.out.cell 1
    have hc_b92 := HBb9.out.cell 2
    have hc_b93 := HBb9.out.cell 3
    go_wp2_with fail
    refine (eqT_yes g10 r5 zss _ (HOg10.out.reads Hnzss.out) (HQr5.out.below HMid.out)).mono ?_
    rintro e w21 ⟨rfl, hb⟩
    clear hb0 hb1 hc_b10 hc_b11 hc_b12 hc_b13 hc_b20 hc_b21 hc_b22 hc_b23 hc_b70 hc_b71 hc_b72 hc_b73 hc_b90 hc_b91 hc_b92 hc_b93
    have HX := Lib.hid (HX.out.next hb)
    have HBb1 := Lib.hid (HBb1.out.below hb)
    have HBb2 := Lib.hid (HBb2.out.below hb)
    have HBb7 := Lib.hid (HBb7.out.below hb)
    have HBb9 := Lib.hid (HBb9.out.below hb)
    have HOx6 := Lib.hid (owns_below HOx6.out hb)
    have HOx8 := Lib.hid (owns_below HOx8.out hb)
    have HOg10 := Lib.hid (HOg10.out.below hb)
    have HMid := Lib.hid (HMid.out.trans (hb.mono HMid.out.size))
    have HZw21 : Hid (w20.heap.size ≤ w21.heap.size) := Lib.hid (hb.size)
    clear hb
    have hb0 := HX.out.c0
    have hb1 := HX.out.c1
    have hc_b10 := HBb1.out.cell 0
    have hc_b11 := HBb1.out.cell 1
    have hc_b12 := HBb1.out.cell 2
    have hc_b13 := HBb1.out.cell 3
    have hc_b20 := HBb2.out.cell 0
    have hc_b21 := HBb2.out.cell 1
    have hc_b22 := HBb2.out.cell 2
    have hc_b23 := HBb2.out.cell 3
    have hc_b70 := HBb7.out.cell 0
    have hc_b71 := HBb7.out.cell 1
    have hc_b72 := HBb7.out.cell 2
    have hc_b73 := HBb7.out.cell 3
    have hc_b90 := HBb9.out.cell 0
    have hc_b91 := HBb9.out.cell 1
    have hc_b92 := HBb9.out.cell 2
    have hc_b93 := HBb9.out.cell 3
    go_wp2_with fail
    refine (markT_any g10 ug10 zss (w12.heap.size) (w13.heap.size) (1) _ HOg10.out Hbzss.out (by have hlezss := Hbzss.out; unfold sizeT at *; omega)).mono ?_
    rintro e w22 ⟨rfl, hch, ho⟩
    clear hb0 hb1 hc_b10 hc_b11 hc_b12 hc_b13 hc_b20 hc_b21 hc_b22 hc_b23 hc_b70 hc_b71 hc_b72 hc_b73 hc_b90 hc_b91 hc_b92 hc_b93
    have hbM : Below w7.heap.size w21 w22 := hch.below (by have z0 := HZw1.out; have z1 := HZw2.out; have z2 := HZw3.out; have z3 := HZw4.out; have z4 := HZw5.out; have z5 := HZw6.out; have z6 := HZw7.out; have z7 := HZw8.out; have z8 := HZw9.out; have z9 := HZw10.out; have z10 := HZw11.out; have z11 := HZw12.out; have z12 := HZw13.out; have z13 := HZw14.out; have z14 := HZw15.out; have z15 := HZw16.out; have z16 := HZw17.out; have z17 := HZw18.out; have z18 := HZw19.out; have z19 := HZw20.out; have z20 := HZw21.out; omega) HMid.out.size
    have HX := Lib.hid (HX.out.nextAt HXm.out hbM)
    have HMid := Lib.hid (HMid.out.trans hbM)
    have HBb1 := Lib.hid (show Blk w22 (w.heap.size + 1) #[.int .i64 k1.s, .int .i64 k1.f, .int .i64 k1.d, (.slice y1 k1.ms.length c1)] 26 from (hch.block _ HBb1.out.lt (by have z0 := HZw1.out; have z1 := HZw2.out; have z2 := HZw3.out; have z3 := HZw4.out; have z4 := HZw5.out; have z5 := HZw6.out; have z6 := HZw7.out; have z7 := HZw8.out; have z8 := HZw9.out; have z9 := HZw10.out; have z10 := HZw11.out; have z11 := HZw12.out; have z12 := HZw13.out; have z13 := HZw14.out; have z14 := HZw15.out; have z15 := HZw16.out; have z16 := HZw17.out; have z17 := HZw18.out; have z18 := HZw19.out; have z19 := HZw20.out; have z20 := HZw21.out; omega)).trans HBb1.out)
    have HBb2 := Lib.hid (show Blk w22 (w.heap.size + 1 + 1) #[.int .i64 k2.s, .int .i64 k2.f, .int .i64 k2.d, (.slice y2 k2.ms.length c2)] 26 from (hch.block _ HBb2.out.lt (by have z0 := HZw1.out; have z1 := HZw2.out; have z2 := HZw3.out; have z3 := HZw4.out; have z4 := HZw5.out; have z5 := HZw6.out; have z6 := HZw7.out; have z7 := HZw8.out; have z8 := HZw9.out; have z9 := HZw10.out; have z10 := HZw11.out; have z11 := HZw12.out; have z12 := HZw13.out; have z13 := HZw14.out; have z14 := HZw15.out; have z15 := HZw16.out; have z16 := HZw17.out; have z17 := HZw18.out; have z18 := HZw19.out; have z19 := HZw20.out; have z20 := HZw21.out; omega)).trans HBb2.out)
    have HBb7 := Lib.hid (show Blk w22 (w8.heap.size) #[.int .i64 k1.s, .int .i64 k1.f, .int .i64 k1.d, (.slice ax6 k1.ms.length cx6)] 33 from (hch.block _ HBb7.out.lt (by have z0 := HZw1.out; have z1 := HZw2.out; have z2 := HZw3.out; have z3 := HZw4.out; have z4 := HZw5.out; have z5 := HZw6.out; have z6 := HZw7.out; have z7 := HZw8.out; have z8 := HZw9.out; have z9 := HZw10.out; have z10 := HZw11.out; have z11 := HZw12.out; have z12 := HZw13.out; have z13 := HZw14.out; have z14 := HZw15.out; have z15 := HZw16.out; have z16 := HZw17.out; have z17 := HZw18.out; have z18 := HZw19.out; have z19 := HZw20.out; have z20 := HZw21.out; omega)).trans HBb7.out)
    have HBb9 := Lib.hid (show Blk w22 (w10.heap.size) #[.int .i64 k2.s, .int .i64 k2.f, .int .i64 k2.d, (.slice ax8 k2.ms.length cx8)] 33 from (hch.block _ HBb9.out.lt (by have z0 := HZw1.out; have z1 := HZw2.out; have z2 := HZw3.out; have z3 := HZw4.out; have z4 := HZw5.out; have z5 := HZw6.out; have z6 := HZw7.out; have z7 := HZw8.out; have z8 := HZw9.out; have z9 := HZw10.out; have z10 := HZw11.out; have z11 := HZw12.out; have z12 := HZw13.out; have z13 := HZw14.out; have z14 := HZw15.out; have z15 := HZw16.out; have z16 := HZw17.out; have z17 := HZw18.out; have z18 := HZw19.out; have z19 := HZw20.out; have z20 := HZw21.out; omega)).trans HBb9.out)
    have HOx6 := Lib.hid (row_chg HOx6.out hch (fun b h => by have l := HRx6.out b h; have z0 := HZw1.out; have z1 := HZw2.out; have z2 := HZw3.out; have z3 := HZw4.out; have z4 := HZw5.out; have z5 := HZw6.out; have z6 := HZw7.out; have z7 := HZw8.out; have z8 := HZw9.out; have z9 := HZw10.out; have z10 := HZw11.out; have z11 := HZw12.out; have z12 := HZw13.out; have z13 := HZw14.out; have z14 := HZw15.out; have z15 := HZw16.out; have z16 := HZw17.out; have z17 := HZw18.out; have z18 := HZw19.out; have z19 := HZw20.out; have z20 := HZw21.out; omega))
    have HOx8 := Lib.hid (row_chg HOx8.out hch (fun b h => by have l := HRx8.out b h; have z0 := HZw1.out; have z1 := HZw2.out; have z2 := HZw3.out; have z3 := HZw4.out; have z4 := HZw5.out; have z5 := HZw6.out; have z6 := HZw7.out; have z7 := HZw8.out; have z8 := HZw9.out; have z9 := HZw10.out; have z10 := HZw11.out; have z11 := HZw12.out; have z12 := HZw13.out; have z13 := HZw14.out; have z14 := HZw15.out; have z15 := HZw16.out; have z16 := HZw17.out; have z17 := HZw18.out; have z18 := HZw19.out; have z19 := HZw20.out; have z20 := HZw21.out; omega))
    have HOg10 := Lib.hid ho
    have HZw22 : Hid (w21.heap.size ≤ w22.heap.size) := Lib.hid hch.size
    clear hch ho hbM
    have hb0 := HX.out.c0
    have hb1 := HX.out.c1
    have hc_b10 := HBb1.out.cell 0
    have hc_b11 := HBb1.out.cell 1
    have hc_b12 := HBb1.out.cell 2
    have hc_b13 := HBb1.out.cell 3
    have hc_b20 := HBb2.out.cell 0
    have hc_b21 := HBb2.out.cell 1
    have hc_b22 := HBb2.out.cell 2
    have hc_b23 := HBb2.out.cell 3
    have hc_b70 := HBb7.out.cell 0
    have hc_b71 := HBb7.out.cell 1
    have hc_b72 := HBb7.out.cell 2
    have hc_b73 := HBb7.out.cell 3
    have hc_b90 := HBb9.out.cell 0
    have hc_b91 := HBb9.out.cell 1
    have hc_b92 := HBb9.out.cell 2
    have hc_b93 := HBb9.out.cell 3
    go_wp2_with fail
    refine (heldT_any g10 zss (1) _ (HOg10.out.reads (by rw [mkT_len]; exact Hnzss.out)) Hbzss.out (by have hlezss := Hbzss.out; unfold sizeT at *; omega)).mono ?_
    rintro e w23 ⟨rfl, rfl⟩
    go_wp2_with fail
    clear hb0 hb1 hc_b10 hc_b11 hc_b12 hc_b13 hc_b20 hc_b21 hc_b22 hc_b23 hc_b70 hc_b71 hc_b72 hc_b73 hc_b90 hc_b91 hc_b92 hc_b93
    have HX := Lib.hid (HX.out.next (below_drewN _ 1))
    have HBb1 := Lib.hid (HBb1.out.below (below_drewN _ 1))
    have HBb2 := Lib.hid (HBb2.out.below (below_drewN _ 1))
    have HBb7 := Lib.hid (HBb7.out.below (below_drewN _ 1))
    have HBb9 := Lib.hid (HBb9.out.below (below_drewN _ 1))
    have HOx6 := Lib.hid (owns_below HOx6.out (below_drewN _ 1))
    have HOx8 := Lib.hid (owns_below HOx8.out (below_drewN _ 1))
    have HOg10 := Lib.hid (HOg10.out.below (below_drewN _ 1))
    have HMid := Lib.hid (HMid.out.trans ((below_drewN _ 1).mono HMid.out.size))
    refine wp_region_noPanic ?_
    refine wp_region_held_drew (S := fun w' => Boxed w.heap.size n g w w' ∧ w'.cell? ⟨w.heap.size, 0, none⟩ = some (.int .i64 n) ∧ w'.cell? ⟨w.heap.size, 1, none⟩ = some (.bool g) ∧ Blk w' (w.heap.size + 1) #[.int .i64 k1.s, .int .i64 k1.f, .int .i64 k1.d, (.slice y1 k1.ms.length c1)] 26 ∧ w'.cell? ⟨w.heap.size + 1, 0, none⟩ = some (.int .i64 k1.s) ∧ w'.cell? ⟨w.heap.size + 1, 1, none⟩ = some (.int .i64 k1.f) ∧ w'.cell? ⟨w.heap.size + 1, 2, none⟩ = some (.int .i64 k1.d) ∧ w'.cell? ⟨w.heap.size + 1, 3, none⟩ = some ((.slice y1 k1.ms.length c1)) ∧ Blk w' (w.heap.size + 1 + 1) #[.int .i64 k2.s, .int .i64 k2.f, .int .i64 k2.d, (.slice y2 k2.ms.length c2)] 26 ∧ w'.cell? ⟨w.heap.size + 1 + 1, 0, none⟩ = some (.int .i64 k2.s) ∧ w'.cell? ⟨w.heap.size + 1 + 1, 1, none⟩ = some (.int .i64 k2.f) ∧ w'.cell? ⟨w.heap.size + 1 + 1, 2, none⟩ = some (.int .i64 k2.d) ∧ w'.cell? ⟨w.heap.size + 1 + 1, 3, none⟩ = some ((.slice y2 k2.ms.length c2)) ∧ Blk w' (w8.heap.size) #[.int .i64 k1.s, .int .i64 k1.f, .int .i64 k1.d, (.slice ax6 k1.ms.length cx6)] 33 ∧ w'.cell? ⟨w8.heap.size, 0, none⟩ = some (.int .i64 k1.s) ∧ w'.cell? ⟨w8.heap.size, 1, none⟩ = some (.int .i64 k1.f) ∧ w'.cell? ⟨w8.heap.size, 2, none⟩ = some (.int .i64 k1.d) ∧ w'.cell? ⟨w8.heap.size, 3, none⟩ = some ((.slice ax6 k1.ms.length cx6)) ∧ Blk w' (w10.heap.size) #[.int .i64 k2.s, .int .i64 k2.f, .int .i64 k2.d, (.slice ax8 k2.ms.length cx8)] 33 ∧ w'.cell? ⟨w10.heap.size, 0, none⟩ = some (.int .i64 k2.s) ∧ w'.cell? ⟨w10.heap.size, 1, none⟩ = some (.int .i64 k2.f) ∧ w'.cell? ⟨w10.heap.size, 2, none⟩ = some (.int .i64 k2.d) ∧ w'.cell? ⟨w10.heap.size, 3, none⟩ = some ((.slice ax8 k2.ms.length cx8))) (by kernel_rfl) (⟨HX.out, HX.out.c0, HX.out.c1, HBb1.out, HBb1.out.cell 0, HBb1.out.cell 1, HBb1.out.cell 2, HBb1.out.cell 3, HBb2.out, HBb2.out.cell 0, HBb2.out.cell 1, HBb2.out.cell 2, HBb2.out.cell 3, HBb7.out, HBb7.out.cell 0, HBb7.out.cell 1, HBb7.out.cell 2, HBb7.out.cell 3, HBb9.out, HBb9.out.cell 0, HBb9.out.cell 1, HBb9.out.cell 2, HBb9.out.cell 3⟩) (fun hHeld => ?_)
    refine wpAnyH_take (i := 0) (oi := _) (v := ?_) rfl (by kernel_rfl) (by kernel_rfl) (by kernel_rfl) (fun _ _ _ h => h) (Or.inl ⟨by rfl, ?_⟩) (by assumption) ?_
    rotate_left
    · (intro w hSw; (try dsimp only at hSw); (first | (go_simp; done) | (go_simp; with_reducible rfl)))
    simp only [Act.put, List.getElem_toArray, List.getElem_cons_succ, List.getElem_cons_zero, List.setIfInBounds_toArray, List.set_cons_zero, List.set_cons_succ]
    refine wpAnyH_take (i := 2) (oi := _) (v := ?_) rfl (by kernel_rfl) (by kernel_rfl) (by kernel_rfl) (fun _ _ _ h => h) (Or.inl ⟨by rfl, ?_⟩) (by assumption) ?_
    rotate_left
    · (intro w hSw; (try dsimp only at hSw); (first | (go_simp; done) | (go_simp; with_reducible rfl)))
    simp only [Act.put, List.getElem_toArray, List.getElem_cons_succ, List.getElem_cons_zero, List.setIfInBounds_toArray, List.set_cons_zero, List.set_cons_succ]
    refine wpAnyH_take (i := 4) (oi := _) (v := ?_) rfl (by kernel_rfl) (by kernel_rfl) (by kernel_rfl) (fun _ _ _ h => h) (Or.inl ⟨by rfl, ?_⟩) (by assumption) ?_
    rotate_left
    · (intro w hSw; (try dsimp only at hSw); (first | (go_simp; done) | (go_simp; with_reducible rfl)))
    simp only [Act.put, List.getElem_toArray, List.getElem_cons_succ, List.getElem_cons_zero, List.setIfInBounds_toArray, List.set_cons_zero, List.set_cons_succ]
    refine wpAnyH_ready (rs := [1]) (by kernel_rfl) (by simp) ?_
    refine AllReadyH.cons rfl (fun K hK => ?_) AllReadyH.nil
    go_simp
    refine (HT.out _).mono ?_
    rintro e w23 ⟨rfl, hb⟩
    have HX := Lib.hid (HX.out.next hb)
    have HBb1 := Lib.hid (HBb1.out.below hb)
    have HBb2 := Lib.hid (HBb2.out.below hb)
    have HBb7 := Lib.hid (HBb7.out.below hb)
    have HBb9 := Lib.hid (HBb9.out.below hb)
    have HOx6 := Lib.hid (owns_below HOx6.out hb)
    have HOx8 := Lib.hid (owns_below HOx8.out hb)
    have HOg10 := Lib.hid (HOg10.out.below hb)
    have HMid := Lib.hid (HMid.out.trans (hb.mono HMid.out.size))
    have HZw23 : Hid (w22.heap.size ≤ w23.heap.size) := Lib.hid (hb.size)
    clear hb
    clear hHeld
    go_wp2_with fail
    refine hK.out _ _ (⟨HX.out, HX.out.c0, HX.out.c1, HBb1.out, HBb1.out.cell 0, HBb1.out.cell 1, HBb1.out.cell 2, HBb1.out.cell 3, HBb2.out, HBb2.out.cell 0, HBb2.out.cell 1, HBb2.out.cell 2, HBb2.out.cell 3, HBb7.out, HBb7.out.cell 0, HBb7.out.cell 1, HBb7.out.cell 2, HBb7.out.cell 3, HBb9.out, HBb9.out.cell 0, HBb9.out.cell 1, HBb9.out.cell 2, HBb9.out.cell 3⟩) (fun hHeld => ?_)
    clear hK K
    refine wpAnyH_ready (rs := [3]) (by kernel_rfl) (by simp) ?_
    refine AllReadyH.cons rfl (fun K hK => ?_) AllReadyH.nil
    go_simp
    refine (toW_any k1 (.slice y1 k1.ms.length c1) _ (HV1.out.below HX.out.below) hn1).mono ?_
    rintro e w24 ⟨x13, rfl, ho, hb⟩
    have HX := Lib.hid (HX.out.next hb)
    have HBb1 := Lib.hid (HBb1.out.below hb)
    have HBb2 := Lib.hid (HBb2.out.below hb)
    have HBb7 := Lib.hid (HBb7.out.below hb)
    have HBb9 := Lib.hid (HBb9.out.below hb)
    have HOx6 := Lib.hid (owns_below HOx6.out hb)
    have HOx8 := Lib.hid (owns_below HOx8.out hb)
    have HOg10 := Lib.hid (HOg10.out.below hb)
    have HMid := Lib.hid (HMid.out.trans (hb.mono HMid.out.size))
    have HZw24 : Hid (w23.heap.size ≤ w24.heap.size) := Lib.hid (hb.size)
    have HRx13 : Hid (∀ b, x13.ownBlock = some b → w23.heap.size ≤ b ∧ b < w24.heap.size) := Lib.hid (fun b hb => owns_block ho b hb)
    obtain ⟨ax13, cx13, hsx13, _⟩ := owns_shape ho
    subst hsx13
    have HOx13 := Lib.hid ho
    clear ho
    clear hb
    clear hHeld
    go_wp2_with fail
    refine hK.out _ _ (⟨HX.out, HX.out.c0, HX.out.c1, HBb1.out, HBb1.out.cell 0, HBb1.out.cell 1, HBb1.out.cell 2, HBb1.out.cell 3, HBb2.out, HBb2.out.cell 0, HBb2.out.cell 1, HBb2.out.cell 2, HBb2.out.cell 3, HBb7.out, HBb7.out.cell 0, HBb7.out.cell 1, HBb7.out.cell 2, HBb7.out.cell 3, HBb9.out, HBb9.out.cell 0, HBb9.out.cell 1, HBb9.out.cell 2, HBb9.out.cell 3⟩) (fun hHeld => ?_)
    clear hK K
    refine wpAnyH_ready (rs := [5]) (by kernel_rfl) (by simp) ?_
    refine AllReadyH.cons rfl (fun K hK => ?_) AllReadyH.nil
    go_simp
    refine (toW_any k2 (.slice y2 k2.ms.length c2) _ (HV2.out.below HX.out.below) hn2).mono ?_
    rintro e w25 ⟨x14, rfl, ho, hb⟩
    have HX := Lib.hid (HX.out.next hb)
    have HBb1 := Lib.hid (HBb1.out.below hb)
    have HBb2 := Lib.hid (HBb2.out.below hb)
    have HBb7 := Lib.hid (HBb7.out.below hb)
    have HBb9 := Lib.hid (HBb9.out.below hb)
    have HOx6 := Lib.hid (owns_below HOx6.out hb)
    have HOx8 := Lib.hid (owns_below HOx8.out hb)
    have HOg10 := Lib.hid (HOg10.out.below hb)
    have HOx13 := Lib.hid (owns_below HOx13.out hb)
    have HMid := Lib.hid (HMid.out.trans (hb.mono HMid.out.size))
    have HZw25 : Hid (w24.heap.size ≤ w25.heap.size) := Lib.hid (hb.size)
    have HRx14 : Hid (∀ b, x14.ownBlock = some b → w24.heap.size ≤ b ∧ b < w25.heap.size) := Lib.hid (fun b hb => owns_block ho b hb)
    obtain ⟨ax14, cx14, hsx14, _⟩ := owns_shape ho
    subst hsx14
    have HOx14 := Lib.hid ho
    clear ho
    clear hb
    clear hHeld
    go_wp2_with fail
    refine hK.out _ _ (⟨HX.out, HX.out.c0, HX.out.c1, HBb1.out, HBb1.out.cell 0, HBb1.out.cell 1, HBb1.out.cell 2, HBb1.out.cell 3, HBb2.out, HBb2.out.cell 0, HBb2.out.cell 1, HBb2.out.cell 2, HBb2.out.cell 3, HBb7.out, HBb7.out.cell 0, HBb7.out.cell 1, HBb7.out.cell 2, HBb7.out.cell 3, HBb9.out, HBb9.out.cell 0, HBb9.out.cell 1, HBb9.out.cell 2, HBb9.out.cell 3⟩) (fun hHeld => ?_)
    clear hK K
    refine wpAnyH_ready (rs := [6]) (by kernel_rfl) (by simp) ?_
    refine AllReadyH.cons rfl (fun K hK => ?_) AllReadyH.nil
    go_simp
    refine (HI.out (.slice ax13 k1.ms.length cx13) (.slice ax14 k2.ms.length cx14) _ (owns_reads HOx13.out Hnk1_ms.out) (owns_reads HOx14.out Hnk2_ms.out) (HN.out.below HX.out.below)).mono ?_
    rintro e w26 ⟨g15, ug15, rfl, ho, hb⟩
    have HX := Lib.hid (HX.out.next hb)
    have HBb1 := Lib.hid (HBb1.out.below hb)
    have HBb2 := Lib.hid (HBb2.out.below hb)
    have HBb7 := Lib.hid (HBb7.out.below hb)
    have HBb9 := Lib.hid (HBb9.out.below hb)
    have HOx6 := Lib.hid (owns_below HOx6.out hb)
    have HOx8 := Lib.hid (owns_below HOx8.out hb)
    have HOg10 := Lib.hid (HOg10.out.below hb)
    have HOx13 := Lib.hid (owns_below HOx13.out hb)
    have HOx14 := Lib.hid (owns_below HOx14.out hb)
    have HMid := Lib.hid (HMid.out.trans (hb.mono HMid.out.size))
    have HZw26 : Hid (w25.heap.size ≤ w26.heap.size) := Lib.hid (hb.size)
    have HOg15 := Lib.hid ho
    clear ho
    clear hb
    clear hHeld
    go_wp2_with fail
    refine hK.out _ _ (⟨HX.out, HX.out.c0, HX.out.c1, HBb1.out, HBb1.out.cell 0, HBb1.out.cell 1, HBb1.out.cell 2, HBb1.out.cell 3, HBb2.out, HBb2.out.cell 0, HBb2.out.cell 1, HBb2.out.cell 2, HBb2.out.cell 3, HBb7.out, HBb7.out.cell 0, HBb7.out.cell 1, HBb7.out.cell 2, HBb7.out.cell 3, HBb9.out, HBb9.out.cell 0, HBb9.out.cell 1, HBb9.out.cell 2, HBb9.out.cell 3⟩) (fun hHeld => ?_)
    clear hK K
    refine wpAnyH_take (i := 7) (oi := _) (v := ?_) rfl (by kernel_rfl) (by kernel_rfl) (by kernel_rfl) (fun _ _ _ h => h) (Or.inl ⟨by rfl, ?_⟩) (by assumption) ?_
    rotate_left
    · (intro w hSw; (try dsimp only at hSw); (first | (go_simp; done) | (go_simp; with_reducible rfl)))
    simp only [Act.put, List.getElem_toArray, List.getElem_cons_succ, List.getElem_cons_zero, List.setIfInBounds_toArray, List.set_cons_zero, List.set_cons_succ]
    refine wpAnyH_take (i := 8) (oi := _) (v := ?_) rfl (by kernel_rfl) (by kernel_rfl) (by kernel_rfl) (fun _ _ _ h => h) (Or.inl ⟨by rfl, ?_⟩) (by assumption) ?_
    rotate_left
    · (intro w hSw; (try dsimp only at hSw); (first | (go_simp; done) | (go_simp; with_reducible rfl)))
    simp only [Act.put, List.getElem_toArray, List.getElem_cons_succ, List.getElem_cons_zero, List.setIfInBounds_toArray, List.set_cons_zero, List.set_cons_succ]
    refine wpAnyH_take (i := 9) (oi := _) (v := ?_) rfl (by kernel_rfl) (by kernel_rfl) (by kernel_rfl) (fun _ _ _ h => h) (Or.inl ⟨by rfl, ?_⟩) (by assumption) ?_
    rotate_left
    · (intro w hSw; (try dsimp only at hSw); (first | (go_simp; done) | (go_simp; with_reducible rfl)))
    simp only [Act.put, List.getElem_toArray, List.getElem_cons_succ, List.getElem_cons_zero, List.setIfInBounds_toArray, List.set_cons_zero, List.set_cons_succ]
    refine wpAnyH_take (i := 10) (oi := _) (v := ?_) rfl (by kernel_rfl) (by kernel_rfl) (by kernel_rfl) (fun _ _ _ h => h) (Or.inl ⟨by rfl, ?_⟩) (by assumption) ?_
    rotate_left
    · (intro w hSw; (try dsimp only at hSw); (first | (go_simp; done) | (go_simp; with_reducible rfl)))
    simp only [Act.put, List.getElem_toArray, List.getElem_cons_succ, List.getElem_cons_zero, List.setIfInBounds_toArray, List.set_cons_zero, List.set_cons_succ]
    refine wpAnyH_take (i := 11) (oi := _) (v := ?_) rfl (by kernel_rfl) (by kernel_rfl) (by kernel_rfl) (fun _ _ _ h => h) (Or.inl ⟨by rfl, ?_⟩) (by assumption) ?_
    rotate_left
    · (intro w hSw; (try dsimp only at hSw); (first | (go_simp; done) | (go_simp; with_reducible rfl)))
    simp only [Act.put, List.getElem_toArray, List.getElem_cons_succ, List.getElem_cons_zero, List.setIfInBounds_toArray, List.set_cons_zero, List.set_cons_succ]
    refine wpAnyH_done (by kernel_rfl) ?_ _
    refine NoPanic.normal ?_
    clear hHeld
    clear HOx13 HRx13
    clear HOx14 HRx14
    have hb0 := HX.out.c0
    have hb1 := HX.out.c1
    have hc_b10 := HBb1.out.cell 0
    have hc_b11 := HBb1.out.cell 1
    have hc_b12 := HBb1.out.cell 2
    have hc_b13 := HBb1.out.cell 3
    have hc_b20 := HBb2.out.cell 0
    have hc_b21 := HBb2.out.cell 1
    have hc_b22 := HBb2.out.cell 2
    have hc_b23 := HBb2.out.cell 3
    have hc_b70 := HBb7.out.cell 0
    have hc_b71 := HBb7.out.cell 1
    have hc_b72 := HBb7.out.cell 2
    have hc_b73 := HBb7.out.cell 3
    have hc_b90 := HBb9.out.cell 0
    have hc_b91 := HBb9.out.cell 1
    have hc_b92 := HBb9.out.cell 2
    have hc_b93 := HBb9.out.cell 3
    go_wp2_with fail
    refine (eqT_yes g15 r5 zss _ (HOg15.out.reads Hnzss.out) (HQr5.out.below HMid.out)).mono ?_
    rintro e w27 ⟨rfl, hb⟩
    clear hb0 hb1 hc_b10 hc_b11 hc_b12 hc_b13 hc_b20 hc_b21 hc_b22 hc_b23 hc_b70 hc_b71 hc_b72 hc_b73 hc_b90 hc_b91 hc_b92 hc_b93
    have HX := Lib.hid (HX.out.next hb)
    have HBb1 := Lib.hid (HBb1.out.below hb)
    have HBb2 := Lib.hid (HBb2.out.below hb)
    have HBb7 := Lib.hid (HBb7.out.below hb)
    have HBb9 := Lib.hid (HBb9.out.below hb)
    have HOx6 := Lib.hid (owns_below HOx6.out hb)
    have HOx8 := Lib.hid (owns_below HOx8.out hb)
    have HOg10 := Lib.hid (HOg10.out.below hb)
    have HOg15 := Lib.hid (HOg15.out.below hb)
    have HMid := Lib.hid (HMid.out.trans (hb.mono HMid.out.size))
    have HZw27 : Hid (w26.heap.size ≤ w27.heap.size) := Lib.hid (hb.size)
    clear hb
    have hb0 := HX.out.c0
    have hb1 := HX.out.c1
    have hc_b10 := HBb1.out.cell 0
    have hc_b11 := HBb1.out.cell 1
    have hc_b12 := HBb1.out.cell 2
    have hc_b13 := HBb1.out.cell 3
    have hc_b20 := HBb2.out.cell 0
    have hc_b21 := HBb2.out.cell 1
    have hc_b22 := HBb2.out.cell 2
    have hc_b23 := HBb2.out.cell 3
    have hc_b70 := HBb7.out.cell 0
    have hc_b71 := HBb7.out.cell 1
    have hc_b72 := HBb7.out.cell 2
    have hc_b73 := HBb7.out.cell 3
    have hc_b90 := HBb9.out.cell 0
    have hc_b91 := HBb9.out.cell 1
    have hc_b92 := HBb9.out.cell 2
    have hc_b93 := HBb9.out.cell 3
    go_wp2_with fail
    refine (heldT_any g10 zss (1) _ (HOg10.out.reads (by rw [mkT_len]; exact Hnzss.out)) Hbzss.out (by have hlezss := Hbzss.out; unfold sizeT at *; omega)).mono ?_
    rintro e w28 ⟨rfl, rfl⟩
    go_wp2_with fail
    go_ret
    exact ⟨rfl, HX.out.below⟩
set_option maxHeartbeats 800000 in
theorem law_long (n : Int) (g : Bool) (k1 : Wk) (v1 : Value) (k2 : Wk) (v2 : Value) (w : World) (hv1 : ReadsI w v1 k1.ms) (hv2 : ReadsI w v2 k2.ms) (hlong : 1048576 < k1.ms.length + k2.ms.length) :
    Calls Tryd.prog 3 #[rd n g, wkv k1 v1, wkv k2 v2] w fun e w' => e = .returned (.bool true) ∧ Below w.heap.size w w' := by
  have HX := Lib.hid (Boxed.first w n g 23)
  have HS1 := Lib.hid (fun l w hv (hl : l ≤ 1048576) (h : k1.ms.length ≤ l) => szW_yes k1 v1 l w hv hl h)
  have HN1 := Lib.hid (fun l w hv (hl : l ≤ 1048576) (h : l < k1.ms.length) => szW_no k1 v1 l w hv hl h)
  have HV1 := Lib.hid hv1
  obtain ⟨y1, c1, hvv1, _⟩ := hv1
  subst hvv1
  have HS2 := Lib.hid (fun l w hv (hl : l ≤ 1048576) (h : k2.ms.length ≤ l) => szW_yes k2 v2 l w hv hl h)
  have HN2 := Lib.hid (fun l w hv (hl : l ≤ 1048576) (h : l < k2.ms.length) => szW_no k2 v2 l w hv hl h)
  have HV2 := Lib.hid hv2
  obtain ⟨y2, c2, hvv2, _⟩ := hv2
  subst hvv2
  have HX := Lib.hid (HX.out.next (below_new _ (.cells #[.int .i64 k1.s, .int .i64 k1.f, .int .i64 k1.d, .slice y1 k1.ms.length c1] 26)))
  have HB1 := Lib.hid (blk_at (w.alloc (.cells #[.int .i64 n, .bool g] 23)) #[.int .i64 k1.s, .int .i64 k1.f, .int .i64 k1.d, .slice y1 k1.ms.length c1] 26 (w.heap.size + 1) (by simp))
  have HX := Lib.hid (HX.out.next (below_new _ (.cells #[.int .i64 k2.s, .int .i64 k2.f, .int .i64 k2.d, .slice y2 k2.ms.length c2] 26)))
  have HB1 := Lib.hid (HB1.out.below (below_new _ (.cells #[.int .i64 k2.s, .int .i64 k2.f, .int .i64 k2.d, .slice y2 k2.ms.length c2] 26)))
  have HB2 := Lib.hid (blk_at ((w.alloc (.cells #[.int .i64 n, .bool g] 23)).alloc (.cells #[.int .i64 k1.s, .int .i64 k1.f, .int .i64 k1.d, .slice y1 k1.ms.length c1] 26)) #[.int .i64 k2.s, .int .i64 k2.f, .int .i64 k2.d, .slice y2 k2.ms.length c2] 26 (w.heap.size + 1 + 1) (by simp))
  unfold wkv rd at *
  go_enter Tryd.func3, Tryd.ntmps3
  go_wp2_with fail
  generalize (((w.alloc (.cells #[.int .i64 n, .bool g] 23)).alloc (.cells #[.int .i64 k1.s, .int .i64 k1.f, .int .i64 k1.d, .slice y1 k1.ms.length c1] 26)).alloc (.cells #[.int .i64 k2.s, .int .i64 k2.f, .int .i64 k2.d, .slice y2 k2.ms.length c2] 26)) = w1 at *
  by_cases hl : 1048576 < k1.ms.length
  · skip
    refine (HN1.out (1048576) _ (HV1.out.below HX.out.below) (by omega) (by omega)).mono ?_
    rintro e w2 ⟨rfl, hb⟩
    have HX := Lib.hid (HX.out.next hb)
    clear hb
    go_wp2_with fail
    go_ret
    exact ⟨rfl, HX.out.below⟩
  · skip
    refine (HS1.out (1048576) _ (HV1.out.below HX.out.below) (by omega) (by omega)).mono ?_
    rintro e w2 ⟨rfl, hb⟩
    have HX := Lib.hid (HX.out.next hb)
    have HB1 := Lib.hid (HB1.out.below hb)
    have HB2 := Lib.hid (HB2.out.below hb)
    clear hb
    have hc10 := HB1.out.cell 0
    have hc11 := HB1.out.cell 1
    have hc12 := HB1.out.cell 2
    have hc13 := HB1.out.cell 3
    have hc20 := HB2.out.cell 0
    have hc21 := HB2.out.cell 1
    have hc22 := HB2.out.cell 2
    have hc23 := HB2.out.cell 3
    go_wp2_with fail
    refine (HN2.out (1048576 - k1.ms.length) _ (HV2.out.below HX.out.below) (by omega) (by omega)).mono ?_
    rintro e w3 ⟨rfl, hb⟩
    have HX := Lib.hid (HX.out.next hb)
    clear hb
    go_wp2_with fail
    go_ret
    exact ⟨rfl, HX.out.below⟩

theorem walk (n : Int) (g : Bool) (k1 : Wk) (v1 : Value) (k2 : Wk) (v2 : Value) (w : World) (hL : laidMetH Tryd.prog Rows.fnExactMeetTableRow.laid w) (_hsh : w.ShapedOpen Tryd.prog) (hv1 : ReadsI w v1 k1.ms) (hv2 : ReadsI w v2 k2.ms) :
    Calls Tryd.prog 3 #[rd n g, wkv k1 v1, wkv k2 v2] w fun e w' => e = .returned (.bool true) ∧ Below w.heap.size w w' := by
  by_cases h : 1048576 < k1.ms.length + k2.ms.length
  · exact law_long n g k1 v1 k2 v2 w hv1 hv2 h
  · skip
    have hn : k1.ms.length + k2.ms.length ≤ 1048576 := by omega
    have hlen : sizeT ((mtabR n g k1 k2)).1 ≤ 1048576 := mtabR_size n g k1 k2
    exact law_two n g k1 v1 k2 v2 ((mtabR n g k1 k2)).1 ((mtabR n g k1 k2)).2 hlen w hv1 (by omega) hv2 (by omega) hn (nm_of_laid hL) (fun u1 u2 w h1 h2 => read_MeetTable n g k1 u1 k2 u2 w h1 h2) (fun u1 u2 w h1 h2 hN => own_MeetTable n g k1 u1 k2 u2 w h1 h2 hN)
end Go.Proofs.YtefjignlhlpndaaDoor.fnExactMeetTable
