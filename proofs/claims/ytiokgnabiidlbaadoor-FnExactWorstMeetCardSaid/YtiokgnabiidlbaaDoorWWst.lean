/-
  What is proved: the walk of the law FnExactWorstMeet: for every input impl.WorstMeet answers as the model does, its arguments read as before, and its answer is memory of its own. Conditions: the listed variable is as it was laid.
-/
import Derived.Test.YtiokgnabiidlbaaDoorRows
import Derived.Test.YtiokgnabiidlbaaDoorNef
import Derived.Test.YtiokgnabiidlbaaDoorNek
import Derived.Test.YtiokgnabiidlbaaDoorMef
namespace Go.Proofs.YtiokgnabiidlbaaDoor.fnExactWorstMeet
open Go.RowKit
set_option linter.unusedVariables false
set_option linter.unusedSimpArgs false

set_option maxHeartbeats 3200000 in
set_option maxRecDepth 20000 in
theorem law_two (n : Int) (g : Bool) (k1 : Wk) (v1 : Value) (k2 : Wk) (v2 : Value) (z : Int) (b : Bool) (w : World) (hv1 : ReadsI w v1 k1.ms) (hn1 : k1.ms.length ≤ 1048576) (hv2 : ReadsI w v2 k2.ms) (hn2 : k2.ms.length ≤ 1048576) (hsum : k1.ms.length + k2.ms.length ≤ 1048576) (hN : NM w)
    (hm : ∀ (u1 : Value) (u2 : Value) (w : World), ReadsI w u1 k1.ms → ReadsI w u2 k2.ms → Calls Tryd.prog 5 #[rd n g, wkv k1 u1, wkv k2 u2] w fun e w' => e = .returned (.tuple #[.int .i64 z, .bool b]) ∧ Below w.heap.size w w')
    (hi : ∀ (u1 : Value) (u2 : Value) (w : World), ReadsI w u1 k1.ms → ReadsI w u2 k2.ms → NM w → Calls Tryd.prog 8 #[rd n g, wkv k1 u1, wkv k2 u2] w fun e w' => e = .returned (.tuple #[.int .i64 z, .bool b]) ∧ Below w.heap.size w w') :
    Calls Tryd.prog 3 #[rd n g, wkv k1 v1, wkv k2 v2] w fun e w' => e = .returned (.bool true) ∧ Below w.heap.size w w' := by
  have HM := Lib.hid hm
  have HI := Lib.hid hi
  have HN := Lib.hid hN
  clear hN
  have HT := Lib.hid (fun w => toRoad_any n g w)
  have hnm : k1.ms.length ≤ maxLen := by unfold maxLen; omega
  have Hnk1_ms := Lib.hid hnm
  have Hbk1_ms := Lib.hid hn1
  clear hnm
  have HV1 := Lib.hid hv1
  have hnm : k2.ms.length ≤ maxLen := by unfold maxLen; omega
  have Hnk2_ms := Lib.hid hnm
  have Hbk2_ms := Lib.hid hn2
  clear hnm
  have HV2 := Lib.hid hv2
  obtain ⟨y1, c1, hvv1, _⟩ := hv1
  subst hvv1
  obtain ⟨y2, c2, hvv2, _⟩ := hv2
  subst hvv2
  clear hm hi
  have HX := Lib.hid (Boxed.first w n g 23)
  have HX := Lib.hid (HX.out.next (below_new _ (.cells #[.int .i64 k1.s, .int .i64 k1.f, .int .i64 k1.d, (.slice y1 k1.ms.length c1)] 26)))
  have HBb1 := Lib.hid (blk_at (w.alloc (.cells #[.int .i64 n, .bool g] 23)) #[.int .i64 k1.s, .int .i64 k1.f, .int .i64 k1.d, (.slice y1 k1.ms.length c1)] 26 (w.heap.size + 1) (by simp))
  have HX := Lib.hid (HX.out.next (below_new _ (.cells #[.int .i64 k2.s, .int .i64 k2.f, .int .i64 k2.d, (.slice y2 k2.ms.length c2)] 26)))
  have HBb1 := Lib.hid (HBb1.out.below (below_new _ (.cells #[.int .i64 k2.s, .int .i64 k2.f, .int .i64 k2.d, (.slice y2 k2.ms.length c2)] 26)))
  have HBb2 := Lib.hid (blk_at ((w.alloc (.cells #[.int .i64 n, .bool g] 23)).alloc (.cells #[.int .i64 k1.s, .int .i64 k1.f, .int .i64 k1.d, (.slice y1 k1.ms.length c1)] 26)) #[.int .i64 k2.s, .int .i64 k2.f, .int .i64 k2.d, (.slice y2 k2.ms.length c2)] 26 (w.heap.size + 1 + 1) (by simp))
  unfold wkv rd at *
  go_enter Tryd.func3, Tryd.ntmps3
  go_wp2_with fail
  have HZw1 : Hid (w.heap.size + 3 ≤ (((w.alloc (.cells #[.int .i64 n, .bool g] 23)).alloc (.cells #[.int .i64 k1.s, .int .i64 k1.f, .int .i64 k1.d, (.slice y1 k1.ms.length c1)] 26)).alloc (.cells #[.int .i64 k2.s, .int .i64 k2.f, .int .i64 k2.d, (.slice y2 k2.ms.length c2)] 26)).heap.size) := Lib.hid (by simp)
  generalize (((w.alloc (.cells #[.int .i64 n, .bool g] 23)).alloc (.cells #[.int .i64 k1.s, .int .i64 k1.f, .int .i64 k1.d, (.slice y1 k1.ms.length c1)] 26)).alloc (.cells #[.int .i64 k2.s, .int .i64 k2.f, .int .i64 k2.d, (.slice y2 k2.ms.length c2)] 26)) = w1 at *
  have hb0 := HX.out.c0
  have hb1 := HX.out.c1
  have hc_b10 := HBb1.out.cell 0
  have hc_b11 := HBb1.out.cell 1
  have hc_b12 := HBb1.out.cell 2
  have hc_b13 := HBb1.out.cell 3
  have hc_b20 := HBb2.out.cell 0
  have hc_b21 := HBb2.out.cell 1
  have hc_b22 := HBb2.out.cell 2
  have hc_b23 := HBb2.out.cell 3
  refine (szW_yes k1 (.slice y1 k1.ms.length c1) (1048576) _ (HV1.out.below HX.out.below) (by omega) (by omega)).mono ?_
  rintro e w2 ⟨rfl, hb⟩
  clear hb0 hb1 hc_b10 hc_b11 hc_b12 hc_b13 hc_b20 hc_b21 hc_b22 hc_b23
  have HX := Lib.hid (HX.out.next hb)
  have HBb1 := Lib.hid (HBb1.out.below hb)
  have HBb2 := Lib.hid (HBb2.out.below hb)
  have HZw2 : Hid (w1.heap.size ≤ w2.heap.size) := Lib.hid (hb.size)
  clear hb
  have hb0 := HX.out.c0
  have hb1 := HX.out.c1
  have hc_b10 := HBb1.out.cell 0
  have hc_b11 := HBb1.out.cell 1
  have hc_b12 := HBb1.out.cell 2
  have hc_b13 := HBb1.out.cell 3
  have hc_b20 := HBb2.out.cell 0
  have hc_b21 := HBb2.out.cell 1
  have hc_b22 := HBb2.out.cell 2
  have hc_b23 := HBb2.out.cell 3
  go_wp2_with fail
  refine (szW_yes k2 (.slice y2 k2.ms.length c2) (1048576 - k1.ms.length) _ (HV2.out.below HX.out.below) (by omega) (by omega)).mono ?_
  rintro e w3 ⟨rfl, hb⟩
  clear hb0 hb1 hc_b10 hc_b11 hc_b12 hc_b13 hc_b20 hc_b21 hc_b22 hc_b23
  have HX := Lib.hid (HX.out.next hb)
  have HBb1 := Lib.hid (HBb1.out.below hb)
  have HBb2 := Lib.hid (HBb2.out.below hb)
  have HZw3 : Hid (w2.heap.size ≤ w3.heap.size) := Lib.hid (hb.size)
  clear hb
  have hb0 := HX.out.c0
  have hb1 := HX.out.c1
  have hc_b10 := HBb1.out.cell 0
  have hc_b11 := HBb1.out.cell 1
  have hc_b12 := HBb1.out.cell 2
  have hc_b13 := HBb1.out.cell 3
  have hc_b20 := HBb2.out.cell 0
  have hc_b21 := HBb2.out.cell 1
  have hc_b22 := HBb2.out.cell 2
  have hc_b23 := HBb2.out.cell 3
  go_wp2_with fail
  clear hb0 hb1 hc_b10 hc_b11 hc_b12 hc_b13 hc_b20 hc_b21 hc_b22 hc_b23
  have HX := Lib.hid (HX.out.next (below_drewN _ 1))
  have HBb1 := Lib.hid (HBb1.out.below (below_drewN _ 1))
  have HBb2 := Lib.hid (HBb2.out.below (below_drewN _ 1))
  refine wp_region_noPanic ?_
  refine wp_region_held_drew (S := fun w' => Boxed w.heap.size n g w w' ∧ w'.cell? ⟨w.heap.size, 0, none⟩ = some (.int .i64 n) ∧ w'.cell? ⟨w.heap.size, 1, none⟩ = some (.bool g) ∧ Blk w' (w.heap.size + 1) #[.int .i64 k1.s, .int .i64 k1.f, .int .i64 k1.d, (.slice y1 k1.ms.length c1)] 26 ∧ w'.cell? ⟨w.heap.size + 1, 0, none⟩ = some (.int .i64 k1.s) ∧ w'.cell? ⟨w.heap.size + 1, 1, none⟩ = some (.int .i64 k1.f) ∧ w'.cell? ⟨w.heap.size + 1, 2, none⟩ = some (.int .i64 k1.d) ∧ w'.cell? ⟨w.heap.size + 1, 3, none⟩ = some ((.slice y1 k1.ms.length c1)) ∧ Blk w' (w.heap.size + 1 + 1) #[.int .i64 k2.s, .int .i64 k2.f, .int .i64 k2.d, (.slice y2 k2.ms.length c2)] 26 ∧ w'.cell? ⟨w.heap.size + 1 + 1, 0, none⟩ = some (.int .i64 k2.s) ∧ w'.cell? ⟨w.heap.size + 1 + 1, 1, none⟩ = some (.int .i64 k2.f) ∧ w'.cell? ⟨w.heap.size + 1 + 1, 2, none⟩ = some (.int .i64 k2.d) ∧ w'.cell? ⟨w.heap.size + 1 + 1, 3, none⟩ = some ((.slice y2 k2.ms.length c2))) (by kernel_rfl) (⟨HX.out, HX.out.c0, HX.out.c1, HBb1.out, HBb1.out.cell 0, HBb1.out.cell 1, HBb1.out.cell 2, HBb1.out.cell 3, HBb2.out, HBb2.out.cell 0, HBb2.out.cell 1, HBb2.out.cell 2, HBb2.out.cell 3⟩) (fun hHeld => ?_)
  refine wpAnyH_take (i := 0) (oi := _) (v := ?_) rfl (by kernel_rfl) (by kernel_rfl) (by kernel_rfl) (fun _ _ _ h => h) (Or.inl ⟨by rfl, ?_⟩) (by assumption) ?_
  rotate_left
  · (intro w hSw; (try dsimp only at hSw); (first | (go_simp; done) | (go_simp; with_reducible rfl)))
  simp only [Act.put, List.getElem_toArray, List.getElem_cons_succ, List.getElem_cons_zero, List.setIfInBounds_toArray, List.set_cons_zero, List.set_cons_succ]
  refine wpAnyH_take (i := 2) (oi := _) (v := ?_) rfl (by kernel_rfl) (by kernel_rfl) (by kernel_rfl) (fun _ _ _ h => h) (Or.inl ⟨by rfl, ?_⟩) (by assumption) ?_
  rotate_left
  · (intro w hSw; (try dsimp only at hSw); (first | (go_simp; done) | (go_simp; with_reducible rfl)))
  simp only [Act.put, List.getElem_toArray, List.getElem_cons_succ, List.getElem_cons_zero, List.setIfInBounds_toArray, List.set_cons_zero, List.set_cons_succ]
  refine wpAnyH_take (i := 4) (oi := _) (v := ?_) rfl (by kernel_rfl) (by kernel_rfl) (by kernel_rfl) (fun _ _ _ h => h) (Or.inl ⟨by rfl, ?_⟩) (by assumption) ?_
  rotate_left
  · (intro w hSw; (try dsimp only at hSw); (first | (go_simp; done) | (go_simp; with_reducible rfl)))
  simp only [Act.put, List.getElem_toArray, List.getElem_cons_succ, List.getElem_cons_zero, List.setIfInBounds_toArray, List.set_cons_zero, List.set_cons_succ]
  refine wpAnyH_ready (rs := [1]) (by kernel_rfl) (by simp) ?_
  refine AllReadyH.cons rfl (fun K hK => ?_) AllReadyH.nil
  go_simp
  refine (HT.out _).mono ?_
  rintro e w4 ⟨rfl, hb⟩
  have HX := Lib.hid (HX.out.next hb)
  have HBb1 := Lib.hid (HBb1.out.below hb)
  have HBb2 := Lib.hid (HBb2.out.below hb)
  have HZw4 : Hid (w3.heap.size ≤ w4.heap.size) := Lib.hid (hb.size)
  clear hb
  clear hHeld
  go_wp2_with fail
  refine hK.out _ _ (⟨HX.out, HX.out.c0, HX.out.c1, HBb1.out, HBb1.out.cell 0, HBb1.out.cell 1, HBb1.out.cell 2, HBb1.out.cell 3, HBb2.out, HBb2.out.cell 0, HBb2.out.cell 1, HBb2.out.cell 2, HBb2.out.cell 3⟩) (fun hHeld => ?_)
  clear hK K
  refine wpAnyH_ready (rs := [3]) (by kernel_rfl) (by simp) ?_
  refine AllReadyH.cons rfl (fun K hK => ?_) AllReadyH.nil
  go_simp
  refine (toW_any k1 (.slice y1 k1.ms.length c1) _ (HV1.out.below HX.out.below) hn1).mono ?_
  rintro e w5 ⟨x3, rfl, ho, hb⟩
  have HX := Lib.hid (HX.out.next hb)
  have HBb1 := Lib.hid (HBb1.out.below hb)
  have HBb2 := Lib.hid (HBb2.out.below hb)
  have HZw5 : Hid (w4.heap.size ≤ w5.heap.size) := Lib.hid (hb.size)
  have HRx3 : Hid (∀ b, x3.ownBlock = some b → w4.heap.size ≤ b ∧ b < w5.heap.size) := Lib.hid (fun b hb => owns_block ho b hb)
  obtain ⟨ax3, cx3, hsx3, _⟩ := owns_shape ho
  subst hsx3
  have HOx3 := Lib.hid ho
  clear ho
  clear hb
  clear hHeld
  go_wp2_with fail
  refine hK.out _ _ (⟨HX.out, HX.out.c0, HX.out.c1, HBb1.out, HBb1.out.cell 0, HBb1.out.cell 1, HBb1.out.cell 2, HBb1.out.cell 3, HBb2.out, HBb2.out.cell 0, HBb2.out.cell 1, HBb2.out.cell 2, HBb2.out.cell 3⟩) (fun hHeld => ?_)
  clear hK K
  refine wpAnyH_ready (rs := [5]) (by kernel_rfl) (by simp) ?_
  refine AllReadyH.cons rfl (fun K hK => ?_) AllReadyH.nil
  go_simp
  refine (toW_any k2 (.slice y2 k2.ms.length c2) _ (HV2.out.below HX.out.below) hn2).mono ?_
  rintro e w6 ⟨x4, rfl, ho, hb⟩
  have HX := Lib.hid (HX.out.next hb)
  have HBb1 := Lib.hid (HBb1.out.below hb)
  have HBb2 := Lib.hid (HBb2.out.below hb)
  have HOx3 := Lib.hid (owns_below HOx3.out hb)
  have HZw6 : Hid (w5.heap.size ≤ w6.heap.size) := Lib.hid (hb.size)
  have HRx4 : Hid (∀ b, x4.ownBlock = some b → w5.heap.size ≤ b ∧ b < w6.heap.size) := Lib.hid (fun b hb => owns_block ho b hb)
  obtain ⟨ax4, cx4, hsx4, _⟩ := owns_shape ho
  subst hsx4
  have HOx4 := Lib.hid ho
  clear ho
  clear hb
  clear hHeld
  go_wp2_with fail
  refine hK.out _ _ (⟨HX.out, HX.out.c0, HX.out.c1, HBb1.out, HBb1.out.cell 0, HBb1.out.cell 1, HBb1.out.cell 2, HBb1.out.cell 3, HBb2.out, HBb2.out.cell 0, HBb2.out.cell 1, HBb2.out.cell 2, HBb2.out.cell 3⟩) (fun hHeld => ?_)
  clear hK K
  refine wpAnyH_ready (rs := [6]) (by kernel_rfl) (by simp) ?_
  refine AllReadyH.cons rfl (fun K hK => ?_) AllReadyH.nil
  go_simp
  refine (HM.out (.slice ax3 k1.ms.length cx3) (.slice ax4 k2.ms.length cx4) _ (owns_reads HOx3.out Hnk1_ms.out) (owns_reads HOx4.out Hnk2_ms.out)).mono ?_
  rintro e w7 ⟨rfl, hb⟩
  have HX := Lib.hid (HX.out.next hb)
  have HBb1 := Lib.hid (HBb1.out.below hb)
  have HBb2 := Lib.hid (HBb2.out.below hb)
  have HOx3 := Lib.hid (owns_below HOx3.out hb)
  have HOx4 := Lib.hid (owns_below HOx4.out hb)
  have HZw7 : Hid (w6.heap.size ≤ w7.heap.size) := Lib.hid (hb.size)
  clear hb
  have HMid : Hid (Below w7.heap.size w7 w7) := Lib.hid (Below.refl _ _)
  have HXm := Lib.hid HX.out.size
  clear hHeld
  go_wp2_with fail
  refine hK.out _ _ (⟨HX.out, HX.out.c0, HX.out.c1, HBb1.out, HBb1.out.cell 0, HBb1.out.cell 1, HBb1.out.cell 2, HBb1.out.cell 3, HBb2.out, HBb2.out.cell 0, HBb2.out.cell 1, HBb2.out.cell 2, HBb2.out.cell 3⟩) (fun hHeld => ?_)
  clear hK K
  refine wpAnyH_take (i := 7) (oi := _) (v := ?_) rfl (by kernel_rfl) (by kernel_rfl) (by kernel_rfl) (fun _ _ _ h => h) (Or.inl ⟨by rfl, ?_⟩) (by assumption) ?_
  rotate_left
  · (intro w hSw; (try dsimp only at hSw); (first | (go_simp; done) | (go_simp; with_reducible rfl)))
  simp only [Act.put, List.getElem_toArray, List.getElem_cons_succ, List.getElem_cons_zero, List.setIfInBounds_toArray, List.set_cons_zero, List.set_cons_succ]
  refine wpAnyH_take (i := 8) (oi := _) (v := ?_) rfl (by kernel_rfl) (by kernel_rfl) (by kernel_rfl) (fun _ _ _ h => h) (Or.inl ⟨by rfl, ?_⟩) (by assumption) ?_
  rotate_left
  · (intro w hSw; (try dsimp only at hSw); (first | (go_simp; done) | (go_simp; with_reducible rfl)))
  simp only [Act.put, List.getElem_toArray, List.getElem_cons_succ, List.getElem_cons_zero, List.setIfInBounds_toArray, List.set_cons_zero, List.set_cons_succ]
  refine wpAnyH_take (i := 9) (oi := _) (v := ?_) rfl (by kernel_rfl) (by kernel_rfl) (by kernel_rfl) (fun _ _ _ h => h) (Or.inl ⟨by rfl, ?_⟩) (by assumption) ?_
  rotate_left
  · (intro w hSw; (try dsimp only at hSw); (first | (go_simp; done) | (go_simp; with_reducible rfl)))
  simp only [Act.put, List.getElem_toArray, List.getElem_cons_succ, List.getElem_cons_zero, List.setIfInBounds_toArray, List.set_cons_zero, List.set_cons_succ]
  refine wpAnyH_take (i := 10) (oi := _) (v := ?_) rfl (by kernel_rfl) (by kernel_rfl) (by kernel_rfl) (fun _ _ _ h => h) (Or.inl ⟨by rfl, ?_⟩) (by assumption) ?_
  rotate_left
  · (intro w hSw; (try dsimp only at hSw); (first | (go_simp; done) | (go_simp; with_reducible rfl)))
  simp only [Act.put, List.getElem_toArray, List.getElem_cons_succ, List.getElem_cons_zero, List.setIfInBounds_toArray, List.set_cons_zero, List.set_cons_succ]
  refine wpAnyH_take (i := 11) (oi := _) (v := ?_) rfl (by kernel_rfl) (by kernel_rfl) (by kernel_rfl) (fun _ _ _ h => h) (Or.inl ⟨by rfl, ?_⟩) (by assumption) ?_
  rotate_left
  · (intro w hSw; (try dsimp only at hSw); (first | (go_simp; done) | (go_simp; with_reducible rfl)))
  simp only [Act.put, List.getElem_toArray, List.getElem_cons_succ, List.getElem_cons_zero, List.setIfInBounds_toArray, List.set_cons_zero, List.set_cons_succ]
  refine wpAnyH_done (by kernel_rfl) ?_ _
  refine NoPanic.normal ?_
  clear hHeld
  clear HOx3 HRx3
  clear HOx4 HRx4
  have hb0 := HX.out.c0
  have hb1 := HX.out.c1
  have hc_b10 := HBb1.out.cell 0
  have hc_b11 := HBb1.out.cell 1
  have hc_b12 := HBb1.out.cell 2
  have hc_b13 := HBb1.out.cell 3
  have hc_b20 := HBb2.out.cell 0
  have hc_b21 := HBb2.out.cell 1
  have hc_b22 := HBb2.out.cell 2
  have hc_b23 := HBb2.out.cell 3
  go_wp2_with fail
  refine (toW_any k1 (.slice y1 k1.ms.length c1) _ (HV1.out.below HX.out.below) hn1).mono ?_
  rintro e w8 ⟨x5, rfl, ho, hb⟩
  clear hb0 hb1 hc_b10 hc_b11 hc_b12 hc_b13 hc_b20 hc_b21 hc_b22 hc_b23
  have HX := Lib.hid (HX.out.next hb)
  have HBb1 := Lib.hid (HBb1.out.below hb)
  have HBb2 := Lib.hid (HBb2.out.below hb)
  have HMid := Lib.hid (HMid.out.trans (hb.mono HMid.out.size))
  have HZw8 : Hid (w7.heap.size ≤ w8.heap.size) := Lib.hid (hb.size)
  have HRx5 : Hid (∀ b, x5.ownBlock = some b → w7.heap.size ≤ b ∧ b < w8.heap.size) := Lib.hid (fun b hb => owns_block ho b hb)
  obtain ⟨ax5, cx5, hsx5, _⟩ := owns_shape ho
  subst hsx5
  have HOx5 := Lib.hid ho
  clear ho
  clear hb
  have HX := Lib.hid (HX.out.next (below_new w8 (.cells #[.int .i64 k1.s, .int .i64 k1.f, .int .i64 k1.d, (.slice ax5 k1.ms.length cx5)] 32)))
  have HBb1 := Lib.hid (HBb1.out.below (below_new w8 (.cells #[.int .i64 k1.s, .int .i64 k1.f, .int .i64 k1.d, (.slice ax5 k1.ms.length cx5)] 32)))
  have HBb2 := Lib.hid (HBb2.out.below (below_new w8 (.cells #[.int .i64 k1.s, .int .i64 k1.f, .int .i64 k1.d, (.slice ax5 k1.ms.length cx5)] 32)))
  have HOx5 := Lib.hid (owns_below HOx5.out (below_new w8 (.cells #[.int .i64 k1.s, .int .i64 k1.f, .int .i64 k1.d, (.slice ax5 k1.ms.length cx5)] 32)))
  have HMid := Lib.hid (HMid.out.trans ((below_new w8 (.cells #[.int .i64 k1.s, .int .i64 k1.f, .int .i64 k1.d, (.slice ax5 k1.ms.length cx5)] 32)).mono HMid.out.size))
  have HBb6 := Lib.hid (blk_new w8 #[.int .i64 k1.s, .int .i64 k1.f, .int .i64 k1.d, (.slice ax5 k1.ms.length cx5)] 32)
  have HZw9 : Hid (w8.heap.size < (w8.alloc (.cells #[.int .i64 k1.s, .int .i64 k1.f, .int .i64 k1.d, (.slice ax5 k1.ms.length cx5)] 32)).heap.size) := Lib.hid (by simp)
  have hb0 := HX.out.c0
  have hb1 := HX.out.c1
  have hc_b10 := HBb1.out.cell 0
  have hc_b11 := HBb1.out.cell 1
  have hc_b12 := HBb1.out.cell 2
  have hc_b13 := HBb1.out.cell 3
  have hc_b20 := HBb2.out.cell 0
  have hc_b21 := HBb2.out.cell 1
  have hc_b22 := HBb2.out.cell 2
  have hc_b23 := HBb2.out.cell 3
  have hc_b60 := HBb6.out.cell 0
  have hc_b61 := HBb6.out.cell 1
  have hc_b62 := HBb6.out.cell 2
  have hc_b63 := HBb6.out.cell 3
  go_wp2_with fail
  generalize w8.alloc (.cells #[.int .i64 k1.s, .int .i64 k1.f, .int .i64 k1.d, (.slice ax5 k1.ms.length cx5)] 32) = w9 at *
  refine (toW_any k2 (.slice y2 k2.ms.length c2) _ (HV2.out.below HX.out.below) hn2).mono ?_
  rintro e w10 ⟨x7, rfl, ho, hb⟩
  clear hb0 hb1 hc_b10 hc_b11 hc_b12 hc_b13 hc_b20 hc_b21 hc_b22 hc_b23 hc_b60 hc_b61 hc_b62 hc_b63
  have HX := Lib.hid (HX.out.next hb)
  have HBb1 := Lib.hid (HBb1.out.below hb)
  have HBb2 := Lib.hid (HBb2.out.below hb)
  have HBb6 := Lib.hid (HBb6.out.below hb)
  have HOx5 := Lib.hid (owns_below HOx5.out hb)
  have HMid := Lib.hid (HMid.out.trans (hb.mono HMid.out.size))
  have HZw10 : Hid (w9.heap.size ≤ w10.heap.size) := Lib.hid (hb.size)
  have HRx7 : Hid (∀ b, x7.ownBlock = some b → w9.heap.size ≤ b ∧ b < w10.heap.size) := Lib.hid (fun b hb => owns_block ho b hb)
  obtain ⟨ax7, cx7, hsx7, _⟩ := owns_shape ho
  subst hsx7
  have HOx7 := Lib.hid ho
  clear ho
  clear hb
  have HX := Lib.hid (HX.out.next (below_new w10 (.cells #[.int .i64 k2.s, .int .i64 k2.f, .int .i64 k2.d, (.slice ax7 k2.ms.length cx7)] 32)))
  have HBb1 := Lib.hid (HBb1.out.below (below_new w10 (.cells #[.int .i64 k2.s, .int .i64 k2.f, .int .i64 k2.d, (.slice ax7 k2.ms.length cx7)] 32)))
  have HBb2 := Lib.hid (HBb2.out.below (below_new w10 (.cells #[.int .i64 k2.s, .int .i64 k2.f, .int .i64 k2.d, (.slice ax7 k2.ms.length cx7)] 32)))
  have HBb6 := Lib.hid (HBb6.out.below (below_new w10 (.cells #[.int .i64 k2.s, .int .i64 k2.f, .int .i64 k2.d, (.slice ax7 k2.ms.length cx7)] 32)))
  have HOx5 := Lib.hid (owns_below HOx5.out (below_new w10 (.cells #[.int .i64 k2.s, .int .i64 k2.f, .int .i64 k2.d, (.slice ax7 k2.ms.length cx7)] 32)))
  have HOx7 := Lib.hid (owns_below HOx7.out (below_new w10 (.cells #[.int .i64 k2.s, .int .i64 k2.f, .int .i64 k2.d, (.slice ax7 k2.ms.length cx7)] 32)))
  have HMid := Lib.hid (HMid.out.trans ((below_new w10 (.cells #[.int .i64 k2.s, .int .i64 k2.f, .int .i64 k2.d, (.slice ax7 k2.ms.length cx7)] 32)).mono HMid.out.size))
  have HBb8 := Lib.hid (blk_new w10 #[.int .i64 k2.s, .int .i64 k2.f, .int .i64 k2.d, (.slice ax7 k2.ms.length cx7)] 32)
  have HZw11 : Hid (w10.heap.size < (w10.alloc (.cells #[.int .i64 k2.s, .int .i64 k2.f, .int .i64 k2.d, (.slice ax7 k2.ms.length cx7)] 32)).heap.size) := Lib.hid (by simp)
  have hb0 := HX.out.c0
  have hb1 := HX.out.c1
  have hc_b10 := HBb1.out.cell 0
  have hc_b11 := HBb1.out.cell 1
  have hc_b12 := HBb1.out.cell 2
  have hc_b13 := HBb1.out.cell 3
  have hc_b20 := HBb2.out.cell 0
  have hc_b21 := HBb2.out.cell 1
  have hc_b22 := HBb2.out.cell 2
  have hc_b23 := HBb2.out.cell 3
  have hc_b60 := HBb6.out.cell 0
  have hc_b61 := HBb6.out.cell 1
  have hc_b62 := HBb6.out.cell 2
  have hc_b63 := HBb6.out.cell 3
  have hc_b80 := HBb8.out.cell 0
  have hc_b81 := HBb8.out.cell 1
  have hc_b82 := HBb8.out.cell 2
  have hc_b83 := HBb8.out.cell 3
  go_wp2_with fail
  generalize w10.alloc (.cells #[.int .i64 k2.s, .int .i64 k2.f, .int .i64 k2.d, (.slice ax7 k2.ms.length cx7)] 32) = w11 at *
  clear hb0 hb1 hc_b10 hc_b11 hc_b12 hc_b13 hc_b20 hc_b21 hc_b22 hc_b23 hc_b60 hc_b61 hc_b62 hc_b63 hc_b80 hc_b81 hc_b82 hc_b83
  have HX := Lib.hid (HX.out.next (below_drewN _ 1))
  have HBb1 := Lib.hid (HBb1.out.below (below_drewN _ 1))
  have HBb2 := Lib.hid (HBb2.out.below (below_drewN _ 1))
  have HBb6 := Lib.hid (HBb6.out.below (below_drewN _ 1))
  have HBb8 := Lib.hid (HBb8.out.below (below_drewN _ 1))
  have HOx5 := Lib.hid (owns_below HOx5.out (below_drewN _ 1))
  have HOx7 := Lib.hid (owns_below HOx7.out (below_drewN _ 1))
  have HMid := Lib.hid (HMid.out.trans ((below_drewN _ 1).mono HMid.out.size))
  refine wp_region_noPanic ?_
  refine wp_region_held_drew (S := fun w' => Boxed w.heap.size n g w w' ∧ w'.cell? ⟨w.heap.size, 0, none⟩ = some (.int .i64 n) ∧ w'.cell? ⟨w.heap.size, 1, none⟩ = some (.bool g) ∧ Blk w' (w.heap.size + 1) #[.int .i64 k1.s, .int .i64 k1.f, .int .i64 k1.d, (.slice y1 k1.ms.length c1)] 26 ∧ w'.cell? ⟨w.heap.size + 1, 0, none⟩ = some (.int .i64 k1.s) ∧ w'.cell? ⟨w.heap.size + 1, 1, none⟩ = some (.int .i64 k1.f) ∧ w'.cell? ⟨w.heap.size + 1, 2, none⟩ = some (.int .i64 k1.d) ∧ w'.cell? ⟨w.heap.size + 1, 3, none⟩ = some ((.slice y1 k1.ms.length c1)) ∧ Blk w' (w.heap.size + 1 + 1) #[.int .i64 k2.s, .int .i64 k2.f, .int .i64 k2.d, (.slice y2 k2.ms.length c2)] 26 ∧ w'.cell? ⟨w.heap.size + 1 + 1, 0, none⟩ = some (.int .i64 k2.s) ∧ w'.cell? ⟨w.heap.size + 1 + 1, 1, none⟩ = some (.int .i64 k2.f) ∧ w'.cell? ⟨w.heap.size + 1 + 1, 2, none⟩ = some (.int .i64 k2.d) ∧ w'.cell? ⟨w.heap.size + 1 + 1, 3, none⟩ = some ((.slice y2 k2.ms.length c2)) ∧ Blk w' (w8.heap.size) #[.int .i64 k1.s, .int .i64 k1.f, .int .i64 k1.d, (.slice ax5 k1.ms.length cx5)] 32 ∧ w'.cell? ⟨w8.heap.size, 0, none⟩ = some (.int .i64 k1.s) ∧ w'.cell? ⟨w8.heap.size, 1, none⟩ = some (.int .i64 k1.f) ∧ w'.cell? ⟨w8.heap.size, 2, none⟩ = some (.int .i64 k1.d) ∧ w'.cell? ⟨w8.heap.size, 3, none⟩ = some ((.slice ax5 k1.ms.length cx5)) ∧ Blk w' (w10.heap.size) #[.int .i64 k2.s, .int .i64 k2.f, .int .i64 k2.d, (.slice ax7 k2.ms.length cx7)] 32 ∧ w'.cell? ⟨w10.heap.size, 0, none⟩ = some (.int .i64 k2.s) ∧ w'.cell? ⟨w10.heap.size, 1, none⟩ = some (.int .i64 k2.f) ∧ w'.cell? ⟨w10.heap.size, 2, none⟩ = some (.int .i64 k2.d) ∧ w'.cell? ⟨w10.heap.size, 3, none⟩ = some ((.slice ax7 k2.ms.length cx7))) (by kernel_rfl) (⟨HX.out, HX.out.c0, HX.out.c1, HBb1.out, HBb1.out.cell 0, HBb1.out.cell 1, HBb1.out.cell 2, HBb1.out.cell 3, HBb2.out, HBb2.out.cell 0, HBb2.out.cell 1, HBb2.out.cell 2, HBb2.out.cell 3, HBb6.out, HBb6.out.cell 0, HBb6.out.cell 1, HBb6.out.cell 2, HBb6.out.cell 3, HBb8.out, HBb8.out.cell 0, HBb8.out.cell 1, HBb8.out.cell 2, HBb8.out.cell 3⟩) (fun hHeld => ?_)
  refine wpAnyH_take (i := 0) (oi := _) (v := ?_) rfl (by kernel_rfl) (by kernel_rfl) (by kernel_rfl) (fun _ _ _ h => h) (Or.inl ⟨by rfl, ?_⟩) (by assumption) ?_
  rotate_left
  · (intro w hSw; (try dsimp only at hSw); (first | (go_simp; done) | (go_simp; with_reducible rfl)))
  simp only [Act.put, List.getElem_toArray, List.getElem_cons_succ, List.getElem_cons_zero, List.setIfInBounds_toArray, List.set_cons_zero, List.set_cons_succ]
  refine wpAnyH_take (i := 2) (oi := _) (v := ?_) rfl (by kernel_rfl) (by kernel_rfl) (by kernel_rfl) (fun _ _ _ h => h) (Or.inl ⟨by rfl, ?_⟩) (by assumption) ?_
  rotate_left
  · (intro w hSw; (try dsimp only at hSw); (first | (go_simp; done) | (go_simp; with_reducible rfl)))
  simp only [Act.put, List.getElem_toArray, List.getElem_cons_succ, List.getElem_cons_zero, List.setIfInBounds_toArray, List.set_cons_zero, List.set_cons_succ]
  refine wpAnyH_take (i := 3) (oi := _) (v := ?_) rfl (by kernel_rfl) (by kernel_rfl) (by kernel_rfl) (fun _ _ _ h => h) (Or.inl ⟨by rfl, ?_⟩) (by assumption) ?_
  rotate_left
  · (intro w hSw; (try dsimp only at hSw); (first | (go_simp; done) | (go_simp; with_reducible rfl)))
  simp only [Act.put, List.getElem_toArray, List.getElem_cons_succ, List.getElem_cons_zero, List.setIfInBounds_toArray, List.set_cons_zero, List.set_cons_succ]
  refine wpAnyH_ready (rs := [1]) (by kernel_rfl) (by simp) ?_
  refine AllReadyH.cons rfl (fun K hK => ?_) AllReadyH.nil
  go_simp
  refine (HT.out _).mono ?_
  rintro e w12 ⟨rfl, hb⟩
  have HX := Lib.hid (HX.out.next hb)
  have HBb1 := Lib.hid (HBb1.out.below hb)
  have HBb2 := Lib.hid (HBb2.out.below hb)
  have HBb6 := Lib.hid (HBb6.out.below hb)
  have HBb8 := Lib.hid (HBb8.out.below hb)
  have HOx5 := Lib.hid (owns_below HOx5.out hb)
  have HOx7 := Lib.hid (owns_below HOx7.out hb)
  have HMid := Lib.hid (HMid.out.trans (hb.mono HMid.out.size))
  have HZw12 : Hid (w11.heap.size ≤ w12.heap.size) := Lib.hid (hb.size)
  clear hb
  clear hHeld
  go_wp2_with fail
  refine hK.out _ _ (⟨HX.out, HX.out.c0, HX.out.c1, HBb1.out, HBb1.out.cell 0, HBb1.out.cell 1, HBb1.out.cell 2, HBb1.out.cell 3, HBb2.out, HBb2.out.cell 0, HBb2.out.cell 1, HBb2.out.cell 2, HBb2.out.cell 3, HBb6.out, HBb6.out.cell 0, HBb6.out.cell 1, HBb6.out.cell 2, HBb6.out.cell 3, HBb8.out, HBb8.out.cell 0, HBb8.out.cell 1, HBb8.out.cell 2, HBb8.out.cell 3⟩) (fun hHeld => ?_)
  clear hK K
  refine wpAnyH_ready (rs := [4]) (by kernel_rfl) (by simp) ?_
  refine AllReadyH.cons rfl (fun K hK => ?_) AllReadyH.nil
  go_simp
  refine (HI.out (.slice ax5 k1.ms.length cx5) (.slice ax7 k2.ms.length cx7) _ (owns_reads HOx5.out Hnk1_ms.out) (owns_reads HOx7.out Hnk2_ms.out) (HN.out.below HX.out.below)).mono ?_
  rintro e w13 ⟨rfl, hb⟩
  have HX := Lib.hid (HX.out.next hb)
  have HBb1 := Lib.hid (HBb1.out.below hb)
  have HBb2 := Lib.hid (HBb2.out.below hb)
  have HBb6 := Lib.hid (HBb6.out.below hb)
  have HBb8 := Lib.hid (HBb8.out.below hb)
  have HOx5 := Lib.hid (owns_below HOx5.out hb)
  have HOx7 := Lib.hid (owns_below HOx7.out hb)
  have HMid := Lib.hid (HMid.out.trans (hb.mono HMid.out.size))
  have HZw13 : Hid (w12.heap.size ≤ w13.heap.size) := Lib.hid (hb.size)
  clear hb
  clear hHeld
  go_wp2_with fail
  refine hK.out _ _ (⟨HX.out, HX.out.c0, HX.out.c1, HBb1.out, HBb1.out.cell 0, HBb1.out.cell 1, HBb1.out.cell 2, HBb1.out.cell 3, HBb2.out, HBb2.out.cell 0, HBb2.out.cell 1, HBb2.out.cell 2, HBb2.out.cell 3, HBb6.out, HBb6.out.cell 0, HBb6.out.cell 1, HBb6.out.cell 2, HBb6.out.cell 3, HBb8.out, HBb8.out.cell 0, HBb8.out.cell 1, HBb8.out.cell 2, HBb8.out.cell 3⟩) (fun hHeld => ?_)
  clear hK K
  refine wpAnyH_take (i := 5) (oi := _) (v := ?_) rfl (by kernel_rfl) (by kernel_rfl) (by kernel_rfl) (fun _ _ _ h => h) (Or.inl ⟨by rfl, ?_⟩) (by assumption) ?_
  rotate_left
  · (intro w hSw; (try dsimp only at hSw); (first | (go_simp; done) | (go_simp; with_reducible rfl)))
  simp only [Act.put, List.getElem_toArray, List.getElem_cons_succ, List.getElem_cons_zero, List.setIfInBounds_toArray, List.set_cons_zero, List.set_cons_succ]
  refine wpAnyH_take (i := 6) (oi := _) (v := ?_) rfl (by kernel_rfl) (by kernel_rfl) (by kernel_rfl) (fun _ _ _ h => h) (Or.inl ⟨by rfl, ?_⟩) (by assumption) ?_
  rotate_left
  · (intro w hSw; (try dsimp only at hSw); (first | (go_simp; done) | (go_simp; with_reducible rfl)))
  simp only [Act.put, List.getElem_toArray, List.getElem_cons_succ, List.getElem_cons_zero, List.setIfInBounds_toArray, List.set_cons_zero, List.set_cons_succ]
  refine wpAnyH_take (i := 7) (oi := _) (v := ?_) rfl (by kernel_rfl) (by kernel_rfl) (by kernel_rfl) (fun _ _ _ h => h) (Or.inl ⟨by rfl, ?_⟩) (by assumption) ?_
  rotate_left
  · (intro w hSw; (try dsimp only at hSw); (first | (go_simp; done) | (go_simp; with_reducible rfl)))
  simp only [Act.put, List.getElem_toArray, List.getElem_cons_succ, List.getElem_cons_zero, List.setIfInBounds_toArray, List.set_cons_zero, List.set_cons_succ]
  refine wpAnyH_take (i := 8) (oi := _) (v := ?_) rfl (by kernel_rfl) (by kernel_rfl) (by kernel_rfl) (fun _ _ _ h => h) (Or.inl ⟨by rfl, ?_⟩) (by assumption) ?_
  rotate_left
  · (intro w hSw; (try dsimp only at hSw); (first | (go_simp; done) | (go_simp; with_reducible rfl)))
  simp only [Act.put, List.getElem_toArray, List.getElem_cons_succ, List.getElem_cons_zero, List.setIfInBounds_toArray, List.set_cons_zero, List.set_cons_succ]
  refine wpAnyH_take (i := 9) (oi := _) (v := ?_) rfl (by kernel_rfl) (by kernel_rfl) (by kernel_rfl) (fun _ _ _ h => h) (Or.inl ⟨by rfl, ?_⟩) (by assumption) ?_
  rotate_left
  · (intro w hSw; (try dsimp only at hSw); (first | (go_simp; done) | (go_simp; with_reducible rfl)))
  simp only [Act.put, List.getElem_toArray, List.getElem_cons_succ, List.getElem_cons_zero, List.setIfInBounds_toArray, List.set_cons_zero, List.set_cons_succ]
  refine wpAnyH_done (by kernel_rfl) ?_ _
  refine NoPanic.normal ?_
  clear hHeld
  cases b
  all_goals
    have hb0 := HX.out.c0
    have hb1 := HX.out.c1
    have hc_b10 := HBb1.out.cell 0
    have hc_b11 := HBb1.out.cell 1
    have hc_b12 := HBb1.out.cell 2
    have hc_b13 := HBb1.out.cell 3
    have hc_b20 := HBb2.out.cell 0
    have hc_b21 := HBb2.out.cell 1
    have hc_b22 := HBb2.out.cell 2
    have hc_b23 := HBb2.out.cell 3
    have hc_b60 := HBb6.out.cell 0
    have hc_b61 := HBb6.out.cell 1
    have hc_b62 := HBb6.out.cell 2
    have hc_b63 := HBb6.out.cell 3
    have hc_b80 := HBb8.out.cell 0
    have hc_b81 := HBb8.out.cell 1
    have hc_b82 := HBb8.out.cell 2
    have hc_b83 := HBb8.out.cell 3
    go_wp2_with fail
    clear hb0 hb1 hc_b10 hc_b11 hc_b12 hc_b13 hc_b20 hc_b21 hc_b22 hc_b23 hc_b60 hc_b61 hc_b62 hc_b63 hc_b80 hc_b81 hc_b82 hc_b83
    have HX := Lib.hid (HX.out.next (below_drewN _ 1))
    have HBb1 := Lib.hid (HBb1.out.below (below_drewN _ 1))
    have HBb2 := Lib.hid (HBb2.out.below (below_drewN _ 1))
    have HBb6 := Lib.hid (HBb6.out.below (below_drewN _ 1))
    have HBb8 := Lib.hid (HBb8.out.below (below_drewN _ 1))
    have HOx5 := Lib.hid (owns_below HOx5.out (below_drewN _ 1))
    have HOx7 := Lib.hid (owns_below HOx7.out (below_drewN _ 1))
    have HMid := Lib.hid (HMid.out.trans ((below_drewN _ 1).mono HMid.out.size))
    refine wp_region_noPanic ?_
    refine wp_region_held_drew (S := fun w' => Boxed w.heap.size n g w w' ∧ w'.cell? ⟨w.heap.size, 0, none⟩ = some (.int .i64 n) ∧ w'.cell? ⟨w.heap.size, 1, none⟩ = some (.bool g) ∧ Blk w' (w.heap.size + 1) #[.int .i64 k1.s, .int .i64 k1.f, .int .i64 k1.d, (.slice y1 k1.ms.length c1)] 26 ∧ w'.cell? ⟨w.heap.size + 1, 0, none⟩ = some (.int .i64 k1.s) ∧ w'.cell? ⟨w.heap.size + 1, 1, none⟩ = some (.int .i64 k1.f) ∧ w'.cell? ⟨w.heap.size + 1, 2, none⟩ = some (.int .i64 k1.d) ∧ w'.cell? ⟨w.heap.size + 1, 3, none⟩ = some ((.slice y1 k1.ms.length c1)) ∧ Blk w' (w.heap.size + 1 + 1) #[.int .i64 k2.s, .int .i64 k2.f, .int .i64 k2.d, (.slice y2 k2.ms.length c2)] 26 ∧ w'.cell? ⟨w.heap.size + 1 + 1, 0, none⟩ = some (.int .i64 k2.s) ∧ w'.cell? ⟨w.heap.size + 1 + 1, 1, none⟩ = some (.int .i64 k2.f) ∧ w'.cell? ⟨w.heap.size + 1 + 1, 2, none⟩ = some (.int .i64 k2.d) ∧ w'.cell? ⟨w.heap.size + 1 + 1, 3, none⟩ = some ((.slice y2 k2.ms.length c2)) ∧ Blk w' (w8.heap.size) #[.int .i64 k1.s, .int .i64 k1.f, .int .i64 k1.d, (.slice ax5 k1.ms.length cx5)] 32 ∧ w'.cell? ⟨w8.heap.size, 0, none⟩ = some (.int .i64 k1.s) ∧ w'.cell? ⟨w8.heap.size, 1, none⟩ = some (.int .i64 k1.f) ∧ w'.cell? ⟨w8.heap.size, 2, none⟩ = some (.int .i64 k1.d) ∧ w'.cell? ⟨w8.heap.size, 3, none⟩ = some ((.slice ax5 k1.ms.length cx5)) ∧ Blk w' (w10.heap.size) #[.int .i64 k2.s, .int .i64 k2.f, .int .i64 k2.d, (.slice ax7 k2.ms.length cx7)] 32 ∧ w'.cell? ⟨w10.heap.size, 0, none⟩ = some (.int .i64 k2.s) ∧ w'.cell? ⟨w10.heap.size, 1, none⟩ = some (.int .i64 k2.f) ∧ w'.cell? ⟨w10.heap.size, 2, none⟩ = some (.int .i64 k2.d) ∧ w'.cell? ⟨w10.heap.size, 3, none⟩ = some ((.slice ax7 k2.ms.length cx7))) (by kernel_rfl) (⟨HX.out, HX.out.c0, HX.out.c1, HBb1.out, HBb1.out.cell 0, HBb1.out.cell 1, HBb1.out.cell 2, HBb1.out.cell 3, HBb2.out, HBb2.out.cell 0, HBb2.out.cell 1, HBb2.out.cell 2, HBb2.out.cell 3, HBb6.out, HBb6.out.cell 0, HBb6.out.cell 1, HBb6.out.cell 2, HBb6.out.cell 3, HBb8.out, HBb8.out.cell 0, HBb8.out.cell 1, HBb8.out.cell 2, HBb8.out.cell 3⟩) (fun hHeld => ?_)
    refine wpAnyH_take (i := 0) (oi := _) (v := ?_) rfl (by kernel_rfl) (by kernel_rfl) (by kernel_rfl) (fun _ _ _ h => h) (Or.inl ⟨by rfl, ?_⟩) (by assumption) ?_
    rotate_left
    · (intro w hSw; (try dsimp only at hSw); (first | (go_simp; done) | (go_simp; with_reducible rfl)))
    simp only [Act.put, List.getElem_toArray, List.getElem_cons_succ, List.getElem_cons_zero, List.setIfInBounds_toArray, List.set_cons_zero, List.set_cons_succ]
    refine wpAnyH_take (i := 1) (oi := _) (v := ?_) rfl (by kernel_rfl) (by kernel_rfl) (by kernel_rfl) (fun _ _ _ h => h) (Or.inl ⟨by rfl, ?_⟩) (by assumption) ?_
    rotate_left
    · (intro w hSw; (try dsimp only at hSw); (first | (go_simp; done) | (go_simp; with_reducible rfl)))
    simp only [Act.put, List.getElem_toArray, List.getElem_cons_succ, List.getElem_cons_zero, List.setIfInBounds_toArray, List.set_cons_zero, List.set_cons_succ]
    refine wpAnyH_ready (rs := [2]) (by kernel_rfl) (by simp) ?_
    refine AllReadyH.cons rfl (fun K hK => ?_) AllReadyH.nil
    go_simp
    refine (toW_any k1 (.slice y1 k1.ms.length c1) _ (HV1.out.below HX.out.below) hn1).mono ?_
    rintro e w14 ⟨x9, rfl, ho, hb⟩
    have HX := Lib.hid (HX.out.next hb)
    have HBb1 := Lib.hid (HBb1.out.below hb)
    have HBb2 := Lib.hid (HBb2.out.below hb)
    have HBb6 := Lib.hid (HBb6.out.below hb)
    have HBb8 := Lib.hid (HBb8.out.below hb)
    have HOx5 := Lib.hid (owns_below HOx5.out hb)
    have HOx7 := Lib.hid (owns_below HOx7.out hb)
    have HMid := Lib.hid (HMid.out.trans (hb.mono HMid.out.size))
    have HZw14 : Hid (w13.heap.size ≤ w14.heap.size) := Lib.hid (hb.size)
    have HRx9 : Hid (∀ b, x9.ownBlock = some b → w13.heap.size ≤ b ∧ b < w14.heap.size) := Lib.hid (fun b hb => owns_block ho b hb)
    obtain ⟨ax9, cx9, hsx9, _⟩ := owns_shape ho
    subst hsx9
    have HOx9 := Lib.hid ho
    clear ho
    clear hb
    clear hHeld
    go_wp2_with fail
    refine hK.out _ _ (⟨HX.out, HX.out.c0, HX.out.c1, HBb1.out, HBb1.out.cell 0, HBb1.out.cell 1, HBb1.out.cell 2, HBb1.out.cell 3, HBb2.out, HBb2.out.cell 0, HBb2.out.cell 1, HBb2.out.cell 2, HBb2.out.cell 3, HBb6.out, HBb6.out.cell 0, HBb6.out.cell 1, HBb6.out.cell 2, HBb6.out.cell 3, HBb8.out, HBb8.out.cell 0, HBb8.out.cell 1, HBb8.out.cell 2, HBb8.out.cell 3⟩) (fun hHeld => ?_)
    clear hK K
    refine wpAnyH_ready (rs := [3]) (by kernel_rfl) (by simp) ?_
    refine AllReadyH.cons rfl (fun K hK => ?_) AllReadyH.nil
    go_simp
    refine (eqW_any k1 (.slice ax5 k1.ms.length cx5) (.slice ax9 k1.ms.length cx9) _ (owns_reads HOx5.out Hnk1_ms.out) (owns_reads HOx9.out Hnk1_ms.out)).mono ?_
    rintro e w15 ⟨rfl, hb⟩
    have HX := Lib.hid (HX.out.next hb)
    have HBb1 := Lib.hid (HBb1.out.below hb)
    have HBb2 := Lib.hid (HBb2.out.below hb)
    have HBb6 := Lib.hid (HBb6.out.below hb)
    have HBb8 := Lib.hid (HBb8.out.below hb)
    have HOx5 := Lib.hid (owns_below HOx5.out hb)
    have HOx7 := Lib.hid (owns_below HOx7.out hb)
    have HOx9 := Lib.hid (owns_below HOx9.out hb)
    have HMid := Lib.hid (HMid.out.trans (hb.mono HMid.out.size))
    have HZw15 : Hid (w14.heap.size ≤ w15.heap.size) := Lib.hid (hb.size)
    clear hb
    clear hHeld
    go_wp2_with fail
    refine hK.out _ _ (⟨HX.out, HX.out.c0, HX.out.c1, HBb1.out, HBb1.out.cell 0, HBb1.out.cell 1, HBb1.out.cell 2, HBb1.out.cell 3, HBb2.out, HBb2.out.cell 0, HBb2.out.cell 1, HBb2.out.cell 2, HBb2.out.cell 3, HBb6.out, HBb6.out.cell 0, HBb6.out.cell 1, HBb6.out.cell 2, HBb6.out.cell 3, HBb8.out, HBb8.out.cell 0, HBb8.out.cell 1, HBb8.out.cell 2, HBb8.out.cell 3⟩) (fun hHeld => ?_)
    clear hK K
    refine wpAnyH_take (i := 4) (oi := _) (v := ?_) rfl (by kernel_rfl) (by kernel_rfl) (by kernel_rfl) (fun _ _ _ h => h) (Or.inl ⟨by rfl, ?_⟩) (by assumption) ?_
    rotate_left
    · (intro w hSw; (try dsimp only at hSw); (first | (go_simp; done) | (go_simp; with_reducible rfl)))
    simp only [Act.put, List.getElem_toArray, List.getElem_cons_succ, List.getElem_cons_zero, List.setIfInBounds_toArray, List.set_cons_zero, List.set_cons_succ]
    refine wpAnyH_done (by kernel_rfl) ?_ _
    refine NoPanic.normal ?_
    clear hHeld
    clear HOx9 HRx9
    have hb0 := HX.out.c0
    have hb1 := HX.out.c1
    have hc_b10 := HBb1.out.cell 0
    have hc_b11 := HBb1.out.cell 1
    have hc_b12 := HBb1.out.cell 2
    have hc_b13 := HBb1.out.cell 3
    have hc_b20 := HBb2.out.cell 0
    have hc_b21 := HBb2.out.cell 1
    have hc_b22 := HBb2.out.cell 2
    have hc_b23 := HBb2.out.cell 3
    have hc_b60 := HBb6.out.cell 0
    have hc_b61 := HBb6.out.cell 1
    have hc_b62 := HBb6.out.cell 2
    have hc_b63 := HBb6.out.cell 3
    have hc_b80 := HBb8.out.cell 0
    have hc_b81 := HBb8.out.cell 1
    have hc_b82 := HBb8.out.cell 2
    have hc_b83 := HBb8.out.cell 3
    go_wp2_with fail
    clear hb0 hb1 hc_b10 hc_b11 hc_b12 hc_b13 hc_b20 hc_b21 hc_b22 hc_b23 hc_b60 hc_b61 hc_b62 hc_b63 hc_b80 hc_b81 hc_b82 hc_b83
    have HX := Lib.hid (HX.out.next (below_drewN _ 1))
    have HBb1 := Lib.hid (HBb1.out.below (below_drewN _ 1))
    have HBb2 := Lib.hid (HBb2.out.below (below_drewN _ 1))
    have HBb6 := Lib.hid (HBb6.out.below (below_drewN _ 1))
    have HBb8 := Lib.hid (HBb8.out.below (below_drewN _ 1))
    have HOx5 := Lib.hid (owns_below HOx5.out (below_drewN _ 1))
    have HOx7 := Lib.hid (owns_below HOx7.out (below_drewN _ 1))
    have HMid := Lib.hid (HMid.out.trans ((below_drewN _ 1).mono HMid.out.size))
    refine wp_region_noPanic ?_
    refine wp_region_held_drew (S := fun w' => Boxed w.heap.size n g w w' ∧ w'.cell? ⟨w.heap.size, 0, none⟩ = some (.int .i64 n) ∧ w'.cell? ⟨w.heap.size, 1, none⟩ = some (.bool g) ∧ Blk w' (w.heap.size + 1) #[.int .i64 k1.s, .int .i64 k1.f, .int .i64 k1.d, (.slice y1 k1.ms.length c1)] 26 ∧ w'.cell? ⟨w.heap.size + 1, 0, none⟩ = some (.int .i64 k1.s) ∧ w'.cell? ⟨w.heap.size + 1, 1, none⟩ = some (.int .i64 k1.f) ∧ w'.cell? ⟨w.heap.size + 1, 2, none⟩ = some (.int .i64 k1.d) ∧ w'.cell? ⟨w.heap.size + 1, 3, none⟩ = some ((.slice y1 k1.ms.length c1)) ∧ Blk w' (w.heap.size + 1 + 1) #[.int .i64 k2.s, .int .i64 k2.f, .int .i64 k2.d, (.slice y2 k2.ms.length c2)] 26 ∧ w'.cell? ⟨w.heap.size + 1 + 1, 0, none⟩ = some (.int .i64 k2.s) ∧ w'.cell? ⟨w.heap.size + 1 + 1, 1, none⟩ = some (.int .i64 k2.f) ∧ w'.cell? ⟨w.heap.size + 1 + 1, 2, none⟩ = some (.int .i64 k2.d) ∧ w'.cell? ⟨w.heap.size + 1 + 1, 3, none⟩ = some ((.slice y2 k2.ms.length c2)) ∧ Blk w' (w8.heap.size) #[.int .i64 k1.s, .int .i64 k1.f, .int .i64 k1.d, (.slice ax5 k1.ms.length cx5)] 32 ∧ w'.cell? ⟨w8.heap.size, 0, none⟩ = some (.int .i64 k1.s) ∧ w'.cell? ⟨w8.heap.size, 1, none⟩ = some (.int .i64 k1.f) ∧ w'.cell? ⟨w8.heap.size, 2, none⟩ = some (.int .i64 k1.d) ∧ w'.cell? ⟨w8.heap.size, 3, none⟩ = some ((.slice ax5 k1.ms.length cx5)) ∧ Blk w' (w10.heap.size) #[.int .i64 k2.s, .int .i64 k2.f, .int .i64 k2.d, (.slice ax7 k2.ms.length cx7)] 32 ∧ w'.cell? ⟨w10.heap.size, 0, none⟩ = some (.int .i64 k2.s) ∧ w'.cell? ⟨w10.heap.size, 1, none⟩ = some (.int .i64 k2.f) ∧ w'.cell? ⟨w10.heap.size, 2, none⟩ = some (.int .i64 k2.d) ∧ w'.cell? ⟨w10.heap.size, 3, none⟩ = some ((.slice ax7 k2.ms.length cx7))) (by kernel_rfl) (⟨HX.out, HX.out.c0, HX.out.c1, HBb1.out, HBb1.out.cell 0, HBb1.out.cell 1, HBb1.out.cell 2, HBb1.out.cell 3, HBb2.out, HBb2.out.cell 0, HBb2.out.cell 1, HBb2.out.cell 2, HBb2.out.cell 3, HBb6.out, HBb6.out.cell 0, HBb6.out.cell 1, HBb6.out.cell 2, HBb6.out.cell 3, HBb8.out, HBb8.out.cell 0, HBb8.out.cell 1, HBb8.out.cell 2, HBb8.out.cell 3⟩) (fun hHeld => ?_)
    refine wpAnyH_take (i := 0) (oi := _) (v := ?_) rfl (by kernel_rfl) (by kernel_rfl) (by kernel_rfl) (fun _ _ _ h => h) (Or.inl ⟨by rfl, ?_⟩) (by assumption) ?_
    rotate_left
    · (intro w hSw; (try dsimp only at hSw); (first | (go_simp; done) | (go_simp; with_reducible rfl)))
    simp only [Act.put, List.getElem_toArray, List.getElem_cons_succ, List.getElem_cons_zero, List.setIfInBounds_toArray, List.set_cons_zero, List.set_cons_succ]
    refine wpAnyH_take (i := 1) (oi := _) (v := ?_) rfl (by kernel_rfl) (by kernel_rfl) (by kernel_rfl) (fun _ _ _ h => h) (Or.inl ⟨by rfl, ?_⟩) (by assumption) ?_
    rotate_left
    · (intro w hSw; (try dsimp only at hSw); (first | (go_simp; done) | (go_simp; with_reducible rfl)))
    simp only [Act.put, List.getElem_toArray, List.getElem_cons_succ, List.getElem_cons_zero, List.setIfInBounds_toArray, List.set_cons_zero, List.set_cons_succ]
    refine wpAnyH_ready (rs := [2]) (by kernel_rfl) (by simp) ?_
    refine AllReadyH.cons rfl (fun K hK => ?_) AllReadyH.nil
    go_simp
    refine (toW_any k2 (.slice y2 k2.ms.length c2) _ (HV2.out.below HX.out.below) hn2).mono ?_
    rintro e w16 ⟨x10, rfl, ho, hb⟩
    have HX := Lib.hid (HX.out.next hb)
    have HBb1 := Lib.hid (HBb1.out.below hb)
    have HBb2 := Lib.hid (HBb2.out.below hb)
    have HBb6 := Lib.hid (HBb6.out.below hb)
    have HBb8 := Lib.hid (HBb8.out.below hb)
    have HOx5 := Lib.hid (owns_below HOx5.out hb)
    have HOx7 := Lib.hid (owns_below HOx7.out hb)
    have HMid := Lib.hid (HMid.out.trans (hb.mono HMid.out.size))
    have HZw16 : Hid (w15.heap.size ≤ w16.heap.size) := Lib.hid (hb.size)
    have HRx10 : Hid (∀ b, x10.ownBlock = some b → w15.heap.size ≤ b ∧ b < w16.heap.size) := Lib.hid (fun b hb => owns_block ho b hb)
    obtain ⟨ax10, cx10, hsx10, _⟩ := owns_shape ho
    subst hsx10
    have HOx10 := Lib.hid ho
    clear ho
    clear hb
    clear hHeld
    go_wp2_with fail
    refine hK.out _ _ (⟨HX.out, HX.out.c0, HX.out.c1, HBb1.out, HBb1.out.cell 0, HBb1.out.cell 1, HBb1.out.cell 2, HBb1.out.cell 3, HBb2.out, HBb2.out.cell 0, HBb2.out.cell 1, HBb2.out.cell 2, HBb2.out.cell 3, HBb6.out, HBb6.out.cell 0, HBb6.out.cell 1, HBb6.out.cell 2, HBb6.out.cell 3, HBb8.out, HBb8.out.cell 0, HBb8.out.cell 1, HBb8.out.cell 2, HBb8.out.cell 3⟩) (fun hHeld => ?_)
    clear hK K
    refine wpAnyH_ready (rs := [3]) (by kernel_rfl) (by simp) ?_
    refine AllReadyH.cons rfl (fun K hK => ?_) AllReadyH.nil
    go_simp
    refine (eqW_any k2 (.slice ax7 k2.ms.length cx7) (.slice ax10 k2.ms.length cx10) _ (owns_reads HOx7.out Hnk2_ms.out) (owns_reads HOx10.out Hnk2_ms.out)).mono ?_
    rintro e w17 ⟨rfl, hb⟩
    have HX := Lib.hid (HX.out.next hb)
    have HBb1 := Lib.hid (HBb1.out.below hb)
    have HBb2 := Lib.hid (HBb2.out.below hb)
    have HBb6 := Lib.hid (HBb6.out.below hb)
    have HBb8 := Lib.hid (HBb8.out.below hb)
    have HOx5 := Lib.hid (owns_below HOx5.out hb)
    have HOx7 := Lib.hid (owns_below HOx7.out hb)
    have HOx10 := Lib.hid (owns_below HOx10.out hb)
    have HMid := Lib.hid (HMid.out.trans (hb.mono HMid.out.size))
    have HZw17 : Hid (w16.heap.size ≤ w17.heap.size) := Lib.hid (hb.size)
    clear hb
    clear hHeld
    go_wp2_with fail
    refine hK.out _ _ (⟨HX.out, HX.out.c0, HX.out.c1, HBb1.out, HBb1.out.cell 0, HBb1.out.cell 1, HBb1.out.cell 2, HBb1.out.cell 3, HBb2.out, HBb2.out.cell 0, HBb2.out.cell 1, HBb2.out.cell 2, HBb2.out.cell 3, HBb6.out, HBb6.out.cell 0, HBb6.out.cell 1, HBb6.out.cell 2, HBb6.out.cell 3, HBb8.out, HBb8.out.cell 0, HBb8.out.cell 1, HBb8.out.cell 2, HBb8.out.cell 3⟩) (fun hHeld => ?_)
    clear hK K
    refine wpAnyH_take (i := 4) (oi := _) (v := ?_) rfl (by kernel_rfl) (by kernel_rfl) (by kernel_rfl) (fun _ _ _ h => h) (Or.inl ⟨by rfl, ?_⟩) (by assumption) ?_
    rotate_left
    · (intro w hSw; (try dsimp only at hSw); (first | (go_simp; done) | (go_simp; with_reducible rfl)))
    simp only [Act.put, List.getElem_toArray, List.getElem_cons_succ, List.getElem_cons_zero, List.setIfInBounds_toArray, List.set_cons_zero, List.set_cons_succ]
    refine wpAnyH_done (by kernel_rfl) ?_ _
    refine NoPanic.normal ?_
    clear hHeld
    clear HOx10 HRx10
    go_wp2_with fail
    go_ret
    exact ⟨rfl, HX.out.below⟩
set_option maxHeartbeats 800000 in
theorem law_long (n : Int) (g : Bool) (k1 : Wk) (v1 : Value) (k2 : Wk) (v2 : Value) (w : World) (hv1 : ReadsI w v1 k1.ms) (hv2 : ReadsI w v2 k2.ms) (hlong : 1048576 < k1.ms.length + k2.ms.length) :
    Calls Tryd.prog 3 #[rd n g, wkv k1 v1, wkv k2 v2] w fun e w' => e = .returned (.bool true) ∧ Below w.heap.size w w' := by
  have HX := Lib.hid (Boxed.first w n g 23)
  have HS1 := Lib.hid (fun l w hv (hl : l ≤ 1048576) (h : k1.ms.length ≤ l) => szW_yes k1 v1 l w hv hl h)
  have HN1 := Lib.hid (fun l w hv (hl : l ≤ 1048576) (h : l < k1.ms.length) => szW_no k1 v1 l w hv hl h)
  have HV1 := Lib.hid hv1
  obtain ⟨y1, c1, hvv1, _⟩ := hv1
  subst hvv1
  have HS2 := Lib.hid (fun l w hv (hl : l ≤ 1048576) (h : k2.ms.length ≤ l) => szW_yes k2 v2 l w hv hl h)
  have HN2 := Lib.hid (fun l w hv (hl : l ≤ 1048576) (h : l < k2.ms.length) => szW_no k2 v2 l w hv hl h)
  have HV2 := Lib.hid hv2
  obtain ⟨y2, c2, hvv2, _⟩ := hv2
  subst hvv2
  have HX := Lib.hid (HX.out.next (below_new _ (.cells #[.int .i64 k1.s, .int .i64 k1.f, .int .i64 k1.d, .slice y1 k1.ms.length c1] 26)))
  have HB1 := Lib.hid (blk_at (w.alloc (.cells #[.int .i64 n, .bool g] 23)) #[.int .i64 k1.s, .int .i64 k1.f, .int .i64 k1.d, .slice y1 k1.ms.length c1] 26 (w.heap.size + 1) (by simp))
  have HX := Lib.hid (HX.out.next (below_new _ (.cells #[.int .i64 k2.s, .int .i64 k2.f, .int .i64 k2.d, .slice y2 k2.ms.length c2] 26)))
  have HB1 := Lib.hid (HB1.out.below (below_new _ (.cells #[.int .i64 k2.s, .int .i64 k2.f, .int .i64 k2.d, .slice y2 k2.ms.length c2] 26)))
  have HB2 := Lib.hid (blk_at ((w.alloc (.cells #[.int .i64 n, .bool g] 23)).alloc (.cells #[.int .i64 k1.s, .int .i64 k1.f, .int .i64 k1.d, .slice y1 k1.ms.length c1] 26)) #[.int .i64 k2.s, .int .i64 k2.f, .int .i64 k2.d, .slice y2 k2.ms.length c2] 26 (w.heap.size + 1 + 1) (by simp))
  unfold wkv rd at *
  go_enter Tryd.func3, Tryd.ntmps3
  go_wp2_with fail
  generalize (((w.alloc (.cells #[.int .i64 n, .bool g] 23)).alloc (.cells #[.int .i64 k1.s, .int .i64 k1.f, .int .i64 k1.d, .slice y1 k1.ms.length c1] 26)).alloc (.cells #[.int .i64 k2.s, .int .i64 k2.f, .int .i64 k2.d, .slice y2 k2.ms.length c2] 26)) = w1 at *
  by_cases hl : 1048576 < k1.ms.length
  · skip
    refine (HN1.out (1048576) _ (HV1.out.below HX.out.below) (by omega) (by omega)).mono ?_
    rintro e w2 ⟨rfl, hb⟩
    have HX := Lib.hid (HX.out.next hb)
    clear hb
    go_wp2_with fail
    go_ret
    exact ⟨rfl, HX.out.below⟩
  · skip
    refine (HS1.out (1048576) _ (HV1.out.below HX.out.below) (by omega) (by omega)).mono ?_
    rintro e w2 ⟨rfl, hb⟩
    have HX := Lib.hid (HX.out.next hb)
    have HB1 := Lib.hid (HB1.out.below hb)
    have HB2 := Lib.hid (HB2.out.below hb)
    clear hb
    have hc10 := HB1.out.cell 0
    have hc11 := HB1.out.cell 1
    have hc12 := HB1.out.cell 2
    have hc13 := HB1.out.cell 3
    have hc20 := HB2.out.cell 0
    have hc21 := HB2.out.cell 1
    have hc22 := HB2.out.cell 2
    have hc23 := HB2.out.cell 3
    go_wp2_with fail
    refine (HN2.out (1048576 - k1.ms.length) _ (HV2.out.below HX.out.below) (by omega) (by omega)).mono ?_
    rintro e w3 ⟨rfl, hb⟩
    have HX := Lib.hid (HX.out.next hb)
    clear hb
    go_wp2_with fail
    go_ret
    exact ⟨rfl, HX.out.below⟩

theorem walk (n : Int) (g : Bool) (k1 : Wk) (v1 : Value) (k2 : Wk) (v2 : Value) (w : World) (hL : laidMetH Tryd.prog Rows.fnExactWorstMeetRow.laid w) (_hsh : w.ShapedOpen Tryd.prog) (hv1 : ReadsI w v1 k1.ms) (hv2 : ReadsI w v2 k2.ms) :
    Calls Tryd.prog 3 #[rd n g, wkv k1 v1, wkv k2 v2] w fun e w' => e = .returned (.bool true) ∧ Below w.heap.size w w' := by
  by_cases h : 1048576 < k1.ms.length + k2.ms.length
  · exact law_long n g k1 v1 k2 v2 w hv1 hv2 h
  · skip
    have hn : k1.ms.length + k2.ms.length ≤ 1048576 := by omega
    exact law_two n g k1 v1 k2 v2 ((worstR n g k1 k2)).1 ((worstR n g k1 k2)).2 w hv1 (by omega) hv2 (by omega) hn (nm_of_laid hL) (fun u1 u2 w h1 h2 => spec_WorstMeet n g k1 u1 k2 u2 w h1 h2) (fun u1 u2 w h1 h2 hN => impl_WorstMeet n g k1 u1 k2 u2 w h1 h2 hN)
end Go.Proofs.YtiokgnabiidlbaaDoor.fnExactWorstMeet
