/-
  What is proved: the walk of the law FnExactWalkOf: for every input impl.WalkOf answers as the model does, its arguments read as before, and its answer is memory of its own. Conditions: none beyond the row's own.
-/
import Derived.Test.YtcpembfioelnlaaMel
import Derived.Test.YtcpembfioelnlaaMef
namespace Go.Proofs.Ytcpembfioelnlaa.fnExactWalkOf
open Go.RowKit
set_option linter.unusedVariables false
set_option linter.unusedSimpArgs false

set_option maxHeartbeats 3200000 in
set_option maxRecDepth 20000 in
theorem law_two (n : Int) (g : Bool) (k1 : Wk) (v1 : Value) (a2 : Int) (zs : List Int) (b : Bool) (hz : zs.length ≤ 1048576) (w : World) (hv1 : ReadsI w v1 k1.ms) (hn1 : k1.ms.length ≤ 1048576)
    (hm : ∀ (u1 : Value) (w : World), ReadsI w u1 k1.ms → Calls Try.prog 15 #[rd n g, wkv k1 u1, .int .i64 a2] w (OwnsB w.heap.size zs b w))
    (hi : ∀ (u1 : Value) (w : World), ReadsI w u1 k1.ms → Calls Try.prog 16 #[rd n g, wkv k1 u1, .int .i64 a2] w (OwnsB w.heap.size zs b w)) :
    Calls Try.prog 4 #[rd n g, wkv k1 v1, .int .i64 a2] w fun e w' => e = .returned (.bool true) ∧ Below w.heap.size w w' := by
  have HM := Lib.hid hm
  have HI := Lib.hid hi
  have HT := Lib.hid (fun w => toRoad_any n g w)
  have hnm : k1.ms.length ≤ maxLen := by unfold maxLen; omega
  have Hnk1_ms := Lib.hid hnm
  have Hbk1_ms := Lib.hid hn1
  clear hnm
  have HV1 := Lib.hid hv1
  have hnm : zs.length ≤ maxLen := by unfold maxLen; omega
  have Hnzs := Lib.hid hnm
  have Hbzs := Lib.hid hz
  clear hnm
  obtain ⟨y1, c1, hvv1, _⟩ := hv1
  subst hvv1
  clear hm hi
  have HX := Lib.hid (Boxed.first w n g 23)
  have HX := Lib.hid (HX.out.next (below_new _ (.cells #[.int .i64 k1.s, .int .i64 k1.f, .int .i64 k1.d, (.slice y1 k1.ms.length c1)] 26)))
  have HBb1 := Lib.hid (blk_at (w.alloc (.cells #[.int .i64 n, .bool g] 23)) #[.int .i64 k1.s, .int .i64 k1.f, .int .i64 k1.d, (.slice y1 k1.ms.length c1)] 26 (w.heap.size + 1) (by simp))
  unfold wkv rd at *
  go_enter Try.func4, Try.ntmps4
  go_wp2_with fail
  have HZw1 : Hid (w.heap.size + 2 ≤ ((w.alloc (.cells #[.int .i64 n, .bool g] 23)).alloc (.cells #[.int .i64 k1.s, .int .i64 k1.f, .int .i64 k1.d, (.slice y1 k1.ms.length c1)] 26)).heap.size) := Lib.hid (by simp)
  generalize ((w.alloc (.cells #[.int .i64 n, .bool g] 23)).alloc (.cells #[.int .i64 k1.s, .int .i64 k1.f, .int .i64 k1.d, (.slice y1 k1.ms.length c1)] 26)) = w1 at *
  have hb0 := HX.out.c0
  have hb1 := HX.out.c1
  have hc_b10 := HBb1.out.cell 0
  have hc_b11 := HBb1.out.cell 1
  have hc_b12 := HBb1.out.cell 2
  have hc_b13 := HBb1.out.cell 3
  refine (szW_yes k1 (.slice y1 k1.ms.length c1) (1048576) _ (HV1.out.below HX.out.below) (by omega) (by omega)).mono ?_
  rintro e w2 ⟨rfl, hb⟩
  clear hb0 hb1 hc_b10 hc_b11 hc_b12 hc_b13
  have HX := Lib.hid (HX.out.next hb)
  have HBb1 := Lib.hid (HBb1.out.below hb)
  have HZw2 : Hid (w1.heap.size ≤ w2.heap.size) := Lib.hid (hb.size)
  clear hb
  have hb0 := HX.out.c0
  have hb1 := HX.out.c1
  have hc_b10 := HBb1.out.cell 0
  have hc_b11 := HBb1.out.cell 1
  have hc_b12 := HBb1.out.cell 2
  have hc_b13 := HBb1.out.cell 3
  go_wp2_with fail
  clear hb0 hb1 hc_b10 hc_b11 hc_b12 hc_b13
  have HX := Lib.hid (HX.out.next (below_drewN _ 1))
  have HBb1 := Lib.hid (HBb1.out.below (below_drewN _ 1))
  refine wp_region_noPanic ?_
  refine wp_region_held_drew (S := fun w' => Boxed w.heap.size n g w w' ∧ w'.cell? ⟨w.heap.size, 0, none⟩ = some (.int .i64 n) ∧ w'.cell? ⟨w.heap.size, 1, none⟩ = some (.bool g) ∧ Blk w' (w.heap.size + 1) #[.int .i64 k1.s, .int .i64 k1.f, .int .i64 k1.d, (.slice y1 k1.ms.length c1)] 26 ∧ w'.cell? ⟨w.heap.size + 1, 0, none⟩ = some (.int .i64 k1.s) ∧ w'.cell? ⟨w.heap.size + 1, 1, none⟩ = some (.int .i64 k1.f) ∧ w'.cell? ⟨w.heap.size + 1, 2, none⟩ = some (.int .i64 k1.d) ∧ w'.cell? ⟨w.heap.size + 1, 3, none⟩ = some ((.slice y1 k1.ms.length c1))) (by kernel_rfl) (⟨HX.out, HX.out.c0, HX.out.c1, HBb1.out, HBb1.out.cell 0, HBb1.out.cell 1, HBb1.out.cell 2, HBb1.out.cell 3⟩) (fun hHeld => ?_)
  refine wpAnyH_take (i := 0) (oi := _) (v := ?_) rfl (by kernel_rfl) (by kernel_rfl) (by kernel_rfl) (fun _ _ _ h => h) (Or.inl ⟨by rfl, ?_⟩) (by assumption) ?_
  rotate_left
  · (intro w hSw; (try dsimp only at hSw); (first | (go_simp; done) | (go_simp; with_reducible rfl)))
  simp only [Act.put, List.getElem_toArray, List.getElem_cons_succ, List.getElem_cons_zero, List.setIfInBounds_toArray, List.set_cons_zero, List.set_cons_succ]
  refine wpAnyH_take (i := 2) (oi := _) (v := ?_) rfl (by kernel_rfl) (by kernel_rfl) (by kernel_rfl) (fun _ _ _ h => h) (Or.inl ⟨by rfl, ?_⟩) (by assumption) ?_
  rotate_left
  · (intro w hSw; (try dsimp only at hSw); (first | (go_simp; done) | (go_simp; with_reducible rfl)))
  simp only [Act.put, List.getElem_toArray, List.getElem_cons_succ, List.getElem_cons_zero, List.setIfInBounds_toArray, List.set_cons_zero, List.set_cons_succ]
  refine wpAnyH_take (i := 4) (oi := _) (v := ?_) rfl (by kernel_rfl) (by kernel_rfl) (by kernel_rfl) (fun _ _ _ h => h) (Or.inl ⟨by rfl, ?_⟩) (by assumption) ?_
  rotate_left
  · (intro w hSw; (try dsimp only at hSw); (first | (go_simp; done) | (go_simp; with_reducible rfl)))
  simp only [Act.put, List.getElem_toArray, List.getElem_cons_succ, List.getElem_cons_zero, List.setIfInBounds_toArray, List.set_cons_zero, List.set_cons_succ]
  refine wpAnyH_ready (rs := [1]) (by kernel_rfl) (by simp) ?_
  refine AllReadyH.cons rfl (fun K hK => ?_) AllReadyH.nil
  go_simp
  refine (HT.out _).mono ?_
  rintro e w3 ⟨rfl, hb⟩
  have HX := Lib.hid (HX.out.next hb)
  have HBb1 := Lib.hid (HBb1.out.below hb)
  have HZw3 : Hid (w2.heap.size ≤ w3.heap.size) := Lib.hid (hb.size)
  clear hb
  clear hHeld
  go_wp2_with fail
  refine hK.out _ _ (⟨HX.out, HX.out.c0, HX.out.c1, HBb1.out, HBb1.out.cell 0, HBb1.out.cell 1, HBb1.out.cell 2, HBb1.out.cell 3⟩) (fun hHeld => ?_)
  clear hK K
  refine wpAnyH_ready (rs := [3]) (by kernel_rfl) (by simp) ?_
  refine AllReadyH.cons rfl (fun K hK => ?_) AllReadyH.nil
  go_simp
  refine (toW_any k1 (.slice y1 k1.ms.length c1) _ (HV1.out.below HX.out.below) hn1).mono ?_
  rintro e w4 ⟨x2, rfl, ho, hb⟩
  have HX := Lib.hid (HX.out.next hb)
  have HBb1 := Lib.hid (HBb1.out.below hb)
  have HZw4 : Hid (w3.heap.size ≤ w4.heap.size) := Lib.hid (hb.size)
  have HRx2 : Hid (∀ b, x2.ownBlock = some b → w3.heap.size ≤ b ∧ b < w4.heap.size) := Lib.hid (fun b hb => owns_block ho b hb)
  obtain ⟨ax2, cx2, hsx2, _⟩ := owns_shape ho
  subst hsx2
  have HOx2 := Lib.hid ho
  clear ho
  clear hb
  clear hHeld
  go_wp2_with fail
  refine hK.out _ _ (⟨HX.out, HX.out.c0, HX.out.c1, HBb1.out, HBb1.out.cell 0, HBb1.out.cell 1, HBb1.out.cell 2, HBb1.out.cell 3⟩) (fun hHeld => ?_)
  clear hK K
  refine wpAnyH_ready (rs := [5]) (by kernel_rfl) (by simp) ?_
  refine AllReadyH.cons rfl (fun K hK => ?_) AllReadyH.nil
  go_simp
  refine (HM.out (.slice ax2 k1.ms.length cx2) _ (owns_reads HOx2.out Hnk1_ms.out)).mono ?_
  rintro e w5 ⟨g3, rfl, ho, hb⟩
  have HX := Lib.hid (HX.out.next hb)
  have HBb1 := Lib.hid (HBb1.out.below hb)
  have HOx2 := Lib.hid (owns_below HOx2.out hb)
  have HZw5 : Hid (w4.heap.size ≤ w5.heap.size) := Lib.hid (hb.size)
  have HRg3 : Hid (∀ b, g3.ownBlock = some b → w4.heap.size ≤ b ∧ b < w5.heap.size) := Lib.hid (fun b hb => owns_block ho b hb)
  have HOg3 := Lib.hid ho
  clear ho
  clear hb
  have HMid : Hid (Below w5.heap.size w5 w5) := Lib.hid (Below.refl _ _)
  have HXm := Lib.hid HX.out.size
  clear hHeld
  go_wp2_with fail
  refine hK.out _ _ (⟨HX.out, HX.out.c0, HX.out.c1, HBb1.out, HBb1.out.cell 0, HBb1.out.cell 1, HBb1.out.cell 2, HBb1.out.cell 3⟩) (fun hHeld => ?_)
  clear hK K
  refine wpAnyH_take (i := 6) (oi := _) (v := ?_) rfl (by kernel_rfl) (by kernel_rfl) (by kernel_rfl) (fun _ _ _ h => h) (Or.inl ⟨by rfl, ?_⟩) (by assumption) ?_
  rotate_left
  · (intro w hSw; (try dsimp only at hSw); (first | (go_simp; done) | (go_simp; with_reducible rfl)))
  simp only [Act.put, List.getElem_toArray, List.getElem_cons_succ, List.getElem_cons_zero, List.setIfInBounds_toArray, List.set_cons_zero, List.set_cons_succ]
  refine wpAnyH_take (i := 7) (oi := _) (v := ?_) rfl (by kernel_rfl) (by kernel_rfl) (by kernel_rfl) (fun _ _ _ h => h) (Or.inl ⟨by rfl, ?_⟩) (by assumption) ?_
  rotate_left
  · (intro w hSw; (try dsimp only at hSw); (first | (go_simp; done) | (go_simp; with_reducible rfl)))
  simp only [Act.put, List.getElem_toArray, List.getElem_cons_succ, List.getElem_cons_zero, List.setIfInBounds_toArray, List.set_cons_zero, List.set_cons_succ]
  refine wpAnyH_take (i := 8) (oi := _) (v := ?_) rfl (by kernel_rfl) (by kernel_rfl) (by kernel_rfl) (fun _ _ _ h => h) (Or.inl ⟨by rfl, ?_⟩) (by assumption) ?_
  rotate_left
  · (intro w hSw; (try dsimp only at hSw); (first | (go_simp; done) | (go_simp; with_reducible rfl)))
  simp only [Act.put, List.getElem_toArray, List.getElem_cons_succ, List.getElem_cons_zero, List.setIfInBounds_toArray, List.set_cons_zero, List.set_cons_succ]
  refine wpAnyH_take (i := 9) (oi := _) (v := ?_) rfl (by kernel_rfl) (by kernel_rfl) (by kernel_rfl) (fun _ _ _ h => h) (Or.inl ⟨by rfl, ?_⟩) (by assumption) ?_
  rotate_left
  · (intro w hSw; (try dsimp only at hSw); (first | (go_simp; done) | (go_simp; with_reducible rfl)))
  simp only [Act.put, List.getElem_toArray, List.getElem_cons_succ, List.getElem_cons_zero, List.setIfInBounds_toArray, List.set_cons_zero, List.set_cons_succ]
  refine wpAnyH_take (i := 10) (oi := _) (v := ?_) rfl (by kernel_rfl) (by kernel_rfl) (by kernel_rfl) (fun _ _ _ h => h) (Or.inl ⟨by rfl, ?_⟩) (by assumption) ?_
  rotate_left
  · (intro w hSw; (try dsimp only at hSw); (first | (go_simp; done) | (go_simp; with_reducible rfl)))
  simp only [Act.put, List.getElem_toArray, List.getElem_cons_succ, List.getElem_cons_zero, List.setIfInBounds_toArray, List.set_cons_zero, List.set_cons_succ]
  refine wpAnyH_done (by kernel_rfl) ?_ _
  refine NoPanic.normal ?_
  clear hHeld
  clear HOx2 HRx2
  have hb0 := HX.out.c0
  have hb1 := HX.out.c1
  have hc_b10 := HBb1.out.cell 0
  have hc_b11 := HBb1.out.cell 1
  have hc_b12 := HBb1.out.cell 2
  have hc_b13 := HBb1.out.cell 3
  go_wp2_with fail
  refine (toW_any k1 (.slice y1 k1.ms.length c1) _ (HV1.out.below HX.out.below) hn1).mono ?_
  rintro e w6 ⟨x4, rfl, ho, hb⟩
  clear hb0 hb1 hc_b10 hc_b11 hc_b12 hc_b13
  have HX := Lib.hid (HX.out.next hb)
  have HBb1 := Lib.hid (HBb1.out.below hb)
  have HOg3 := Lib.hid (owns_below HOg3.out hb)
  have HMid := Lib.hid (HMid.out.trans (hb.mono HMid.out.size))
  have HZw6 : Hid (w5.heap.size ≤ w6.heap.size) := Lib.hid (hb.size)
  have HRx4 : Hid (∀ b, x4.ownBlock = some b → w5.heap.size ≤ b ∧ b < w6.heap.size) := Lib.hid (fun b hb => owns_block ho b hb)
  obtain ⟨ax4, cx4, hsx4, _⟩ := owns_shape ho
  subst hsx4
  have HOx4 := Lib.hid ho
  clear ho
  clear hb
  have HX := Lib.hid (HX.out.next (below_new w6 (.cells #[.int .i64 k1.s, .int .i64 k1.f, .int .i64 k1.d, (.slice ax4 k1.ms.length cx4)] 32)))
  have HBb1 := Lib.hid (HBb1.out.below (below_new w6 (.cells #[.int .i64 k1.s, .int .i64 k1.f, .int .i64 k1.d, (.slice ax4 k1.ms.length cx4)] 32)))
  have HOg3 := Lib.hid (owns_below HOg3.out (below_new w6 (.cells #[.int .i64 k1.s, .int .i64 k1.f, .int .i64 k1.d, (.slice ax4 k1.ms.length cx4)] 32)))
  have HOx4 := Lib.hid (owns_below HOx4.out (below_new w6 (.cells #[.int .i64 k1.s, .int .i64 k1.f, .int .i64 k1.d, (.slice ax4 k1.ms.length cx4)] 32)))
  have HMid := Lib.hid (HMid.out.trans ((below_new w6 (.cells #[.int .i64 k1.s, .int .i64 k1.f, .int .i64 k1.d, (.slice ax4 k1.ms.length cx4)] 32)).mono HMid.out.size))
  have HBb5 := Lib.hid (blk_new w6 #[.int .i64 k1.s, .int .i64 k1.f, .int .i64 k1.d, (.slice ax4 k1.ms.length cx4)] 32)
  have HZw7 : Hid (w6.heap.size < (w6.alloc (.cells #[.int .i64 k1.s, .int .i64 k1.f, .int .i64 k1.d, (.slice ax4 k1.ms.length cx4)] 32)).heap.size) := Lib.hid (by simp)
  have hb0 := HX.out.c0
  have hb1 := HX.out.c1
  have hc_b10 := HBb1.out.cell 0
  have hc_b11 := HBb1.out.cell 1
  have hc_b12 := HBb1.out.cell 2
  have hc_b13 := HBb1.out.cell 3
  have hc_b50 := HBb5.out.cell 0
  have hc_b51 := HBb5.out.cell 1
  have hc_b52 := HBb5.out.cell 2
  have hc_b53 := HBb5.out.cell 3
  go_wp2_with fail
  generalize w6.alloc (.cells #[.int .i64 k1.s, .int .i64 k1.f, .int .i64 k1.d, (.slice ax4 k1.ms.length cx4)] 32) = w7 at *
  clear hb0 hb1 hc_b10 hc_b11 hc_b12 hc_b13 hc_b50 hc_b51 hc_b52 hc_b53
  have HX := Lib.hid (HX.out.next (below_drewN _ 1))
  have HBb1 := Lib.hid (HBb1.out.below (below_drewN _ 1))
  have HBb5 := Lib.hid (HBb5.out.below (below_drewN _ 1))
  have HOg3 := Lib.hid (owns_below HOg3.out (below_drewN _ 1))
  have HOx4 := Lib.hid (owns_below HOx4.out (below_drewN _ 1))
  have HMid := Lib.hid (HMid.out.trans ((below_drewN _ 1).mono HMid.out.size))
  refine wp_region_noPanic ?_
  refine wp_region_held_drew (S := fun w' => Boxed w.heap.size n g w w' ∧ w'.cell? ⟨w.heap.size, 0, none⟩ = some (.int .i64 n) ∧ w'.cell? ⟨w.heap.size, 1, none⟩ = some (.bool g) ∧ Blk w' (w.heap.size + 1) #[.int .i64 k1.s, .int .i64 k1.f, .int .i64 k1.d, (.slice y1 k1.ms.length c1)] 26 ∧ w'.cell? ⟨w.heap.size + 1, 0, none⟩ = some (.int .i64 k1.s) ∧ w'.cell? ⟨w.heap.size + 1, 1, none⟩ = some (.int .i64 k1.f) ∧ w'.cell? ⟨w.heap.size + 1, 2, none⟩ = some (.int .i64 k1.d) ∧ w'.cell? ⟨w.heap.size + 1, 3, none⟩ = some ((.slice y1 k1.ms.length c1)) ∧ Blk w' (w6.heap.size) #[.int .i64 k1.s, .int .i64 k1.f, .int .i64 k1.d, (.slice ax4 k1.ms.length cx4)] 32 ∧ w'.cell? ⟨w6.heap.size, 0, none⟩ = some (.int .i64 k1.s) ∧ w'.cell? ⟨w6.heap.size, 1, none⟩ = some (.int .i64 k1.f) ∧ w'.cell? ⟨w6.heap.size, 2, none⟩ = some (.int .i64 k1.d) ∧ w'.cell? ⟨w6.heap.size, 3, none⟩ = some ((.slice ax4 k1.ms.length cx4))) (by kernel_rfl) (⟨HX.out, HX.out.c0, HX.out.c1, HBb1.out, HBb1.out.cell 0, HBb1.out.cell 1, HBb1.out.cell 2, HBb1.out.cell 3, HBb5.out, HBb5.out.cell 0, HBb5.out.cell 1, HBb5.out.cell 2, HBb5.out.cell 3⟩) (fun hHeld => ?_)
  refine wpAnyH_take (i := 0) (oi := _) (v := ?_) rfl (by kernel_rfl) (by kernel_rfl) (by kernel_rfl) (fun _ _ _ h => h) (Or.inl ⟨by rfl, ?_⟩) (by assumption) ?_
  rotate_left
  · (intro w hSw; (try dsimp only at hSw); (first | (go_simp; done) | (go_simp; with_reducible rfl)))
  simp only [Act.put, List.getElem_toArray, List.getElem_cons_succ, List.getElem_cons_zero, List.setIfInBounds_toArray, List.set_cons_zero, List.set_cons_succ]
  refine wpAnyH_take (i := 2) (oi := _) (v := ?_) rfl (by kernel_rfl) (by kernel_rfl) (by kernel_rfl) (fun _ _ _ h => h) (Or.inl ⟨by rfl, ?_⟩) (by assumption) ?_
  rotate_left
  · (intro w hSw; (try dsimp only at hSw); (first | (go_simp; done) | (go_simp; with_reducible rfl)))
  simp only [Act.put, List.getElem_toArray, List.getElem_cons_succ, List.getElem_cons_zero, List.setIfInBounds_toArray, List.set_cons_zero, List.set_cons_succ]
  refine wpAnyH_take (i := 3) (oi := _) (v := ?_) rfl (by kernel_rfl) (by kernel_rfl) (by kernel_rfl) (fun _ _ _ h => h) (Or.inl ⟨by rfl, ?_⟩) (by assumption) ?_
  rotate_left
  · (intro w hSw; (try dsimp only at hSw); (first | (go_simp; done) | (go_simp; with_reducible rfl)))
  simp only [Act.put, List.getElem_toArray, List.getElem_cons_succ, List.getElem_cons_zero, List.setIfInBounds_toArray, List.set_cons_zero, List.set_cons_succ]
  refine wpAnyH_ready (rs := [1]) (by kernel_rfl) (by simp) ?_
  refine AllReadyH.cons rfl (fun K hK => ?_) AllReadyH.nil
  go_simp
  refine (HT.out _).mono ?_
  rintro e w8 ⟨rfl, hb⟩
  have HX := Lib.hid (HX.out.next hb)
  have HBb1 := Lib.hid (HBb1.out.below hb)
  have HBb5 := Lib.hid (HBb5.out.below hb)
  have HOg3 := Lib.hid (owns_below HOg3.out hb)
  have HOx4 := Lib.hid (owns_below HOx4.out hb)
  have HMid := Lib.hid (HMid.out.trans (hb.mono HMid.out.size))
  have HZw8 : Hid (w7.heap.size ≤ w8.heap.size) := Lib.hid (hb.size)
  clear hb
  clear hHeld
  go_wp2_with fail
  refine hK.out _ _ (⟨HX.out, HX.out.c0, HX.out.c1, HBb1.out, HBb1.out.cell 0, HBb1.out.cell 1, HBb1.out.cell 2, HBb1.out.cell 3, HBb5.out, HBb5.out.cell 0, HBb5.out.cell 1, HBb5.out.cell 2, HBb5.out.cell 3⟩) (fun hHeld => ?_)
  clear hK K
  refine wpAnyH_ready (rs := [4]) (by kernel_rfl) (by simp) ?_
  refine AllReadyH.cons rfl (fun K hK => ?_) AllReadyH.nil
  go_simp
  refine (HI.out (.slice ax4 k1.ms.length cx4) _ (owns_reads HOx4.out Hnk1_ms.out)).mono ?_
  rintro e w9 ⟨g6, rfl, ho, hb⟩
  have HX := Lib.hid (HX.out.next hb)
  have HBb1 := Lib.hid (HBb1.out.below hb)
  have HBb5 := Lib.hid (HBb5.out.below hb)
  have HOg3 := Lib.hid (owns_below HOg3.out hb)
  have HOx4 := Lib.hid (owns_below HOx4.out hb)
  have HMid := Lib.hid (HMid.out.trans (hb.mono HMid.out.size))
  have HZw9 : Hid (w8.heap.size ≤ w9.heap.size) := Lib.hid (hb.size)
  have HRg6 : Hid (∀ b, g6.ownBlock = some b → w8.heap.size ≤ b ∧ b < w9.heap.size) := Lib.hid (fun b hb => owns_block ho b hb)
  have HOg6 := Lib.hid ho
  clear ho
  clear hb
  clear hHeld
  go_wp2_with fail
  refine hK.out _ _ (⟨HX.out, HX.out.c0, HX.out.c1, HBb1.out, HBb1.out.cell 0, HBb1.out.cell 1, HBb1.out.cell 2, HBb1.out.cell 3, HBb5.out, HBb5.out.cell 0, HBb5.out.cell 1, HBb5.out.cell 2, HBb5.out.cell 3⟩) (fun hHeld => ?_)
  clear hK K
  refine wpAnyH_take (i := 5) (oi := _) (v := ?_) rfl (by kernel_rfl) (by kernel_rfl) (by kernel_rfl) (fun _ _ _ h => h) (Or.inl ⟨by rfl, ?_⟩) (by assumption) ?_
  rotate_left
  · (intro w hSw; (try dsimp only at hSw); (first | (go_simp; done) | (go_simp; with_reducible rfl)))
  simp only [Act.put, List.getElem_toArray, List.getElem_cons_succ, List.getElem_cons_zero, List.setIfInBounds_toArray, List.set_cons_zero, List.set_cons_succ]
  refine wpAnyH_take (i := 6) (oi := _) (v := ?_) rfl (by kernel_rfl) (by kernel_rfl) (by kernel_rfl) (fun _ _ _ h => h) (Or.inl ⟨by rfl, ?_⟩) (by assumption) ?_
  rotate_left
  · (intro w hSw; (try dsimp only at hSw); (first | (go_simp; done) | (go_simp; with_reducible rfl)))
  simp only [Act.put, List.getElem_toArray, List.getElem_cons_succ, List.getElem_cons_zero, List.setIfInBounds_toArray, List.set_cons_zero, List.set_cons_succ]
  refine wpAnyH_take (i := 7) (oi := _) (v := ?_) rfl (by kernel_rfl) (by kernel_rfl) (by kernel_rfl) (fun _ _ _ h => h) (Or.inl ⟨by rfl, ?_⟩) (by assumption) ?_
  rotate_left
  · (intro w hSw; (try dsimp only at hSw); (first | (go_simp; done) | (go_simp; with_reducible rfl)))
  simp only [Act.put, List.getElem_toArray, List.getElem_cons_succ, List.getElem_cons_zero, List.setIfInBounds_toArray, List.set_cons_zero, List.set_cons_succ]
  refine wpAnyH_take (i := 8) (oi := _) (v := ?_) rfl (by kernel_rfl) (by kernel_rfl) (by kernel_rfl) (fun _ _ _ h => h) (Or.inl ⟨by rfl, ?_⟩) (by assumption) ?_
  rotate_left
  · (intro w hSw; (try dsimp only at hSw); (first | (go_simp; done) | (go_simp; with_reducible rfl)))
  simp only [Act.put, List.getElem_toArray, List.getElem_cons_succ, List.getElem_cons_zero, List.setIfInBounds_toArray, List.set_cons_zero, List.set_cons_succ]
  refine wpAnyH_take (i := 9) (oi := _) (v := ?_) rfl (by kernel_rfl) (by kernel_rfl) (by kernel_rfl) (fun _ _ _ h => h) (Or.inl ⟨by rfl, ?_⟩) (by assumption) ?_
  rotate_left
  · (intro w hSw; (try dsimp only at hSw); (first | (go_simp; done) | (go_simp; with_reducible rfl)))
  simp only [Act.put, List.getElem_toArray, List.getElem_cons_succ, List.getElem_cons_zero, List.setIfInBounds_toArray, List.set_cons_zero, List.set_cons_succ]
  refine wpAnyH_done (by kernel_rfl) ?_ _
  refine NoPanic.normal ?_
  clear hHeld
  cases b
  all_goals
    have hb0 := HX.out.c0
    have hb1 := HX.out.c1
    have hc_b10 := HBb1.out.cell 0
    have hc_b11 := HBb1.out.cell 1
    have hc_b12 := HBb1.out.cell 2
    have hc_b13 := HBb1.out.cell 3
    have hc_b50 := HBb5.out.cell 0
    have hc_b51 := HBb5.out.cell 1
    have hc_b52 := HBb5.out.cell 2
    have hc_b53 := HBb5.out.cell 3
    go_wp2_with fail
    refine (eqI_below g6 g3 zs _ (owns_reads HOg6.out Hnzs.out) (owns_reads HOg3.out Hnzs.out)).mono ?_
    rintro e w10 ⟨rfl, hb⟩
    clear hb0 hb1 hc_b10 hc_b11 hc_b12 hc_b13 hc_b50 hc_b51 hc_b52 hc_b53
    have HX := Lib.hid (HX.out.next hb)
    have HBb1 := Lib.hid (HBb1.out.below hb)
    have HBb5 := Lib.hid (HBb5.out.below hb)
    have HOg3 := Lib.hid (owns_below HOg3.out hb)
    have HOx4 := Lib.hid (owns_below HOx4.out hb)
    have HOg6 := Lib.hid (owns_below HOg6.out hb)
    have HMid := Lib.hid (HMid.out.trans (hb.mono HMid.out.size))
    have HZw10 : Hid (w9.heap.size ≤ w10.heap.size) := Lib.hid (hb.size)
    clear hb
    have hb0 := HX.out.c0
    have hb1 := HX.out.c1
    have hc_b10 := HBb1.out.cell 0
    have hc_b11 := HBb1.out.cell 1
    have hc_b12 := HBb1.out.cell 2
    have hc_b13 := HBb1.out.cell 3
    have hc_b50 := HBb5.out.cell 0
    have hc_b51 := HBb5.out.cell 1
    have hc_b52 := HBb5.out.cell 2
    have hc_b53 := HBb5.out.cell 3
    go_wp2_with fail
    clear hb0 hb1 hc_b10 hc_b11 hc_b12 hc_b13 hc_b50 hc_b51 hc_b52 hc_b53
    have HX := Lib.hid (HX.out.next (below_drewN _ 1))
    have HBb1 := Lib.hid (HBb1.out.below (below_drewN _ 1))
    have HBb5 := Lib.hid (HBb5.out.below (below_drewN _ 1))
    have HOg3 := Lib.hid (owns_below HOg3.out (below_drewN _ 1))
    have HOx4 := Lib.hid (owns_below HOx4.out (below_drewN _ 1))
    have HOg6 := Lib.hid (owns_below HOg6.out (below_drewN _ 1))
    have HMid := Lib.hid (HMid.out.trans ((below_drewN _ 1).mono HMid.out.size))
    refine wp_region_noPanic ?_
    refine wp_region_held_drew (S := fun w' => Boxed w.heap.size n g w w' ∧ w'.cell? ⟨w.heap.size, 0, none⟩ = some (.int .i64 n) ∧ w'.cell? ⟨w.heap.size, 1, none⟩ = some (.bool g) ∧ Blk w' (w.heap.size + 1) #[.int .i64 k1.s, .int .i64 k1.f, .int .i64 k1.d, (.slice y1 k1.ms.length c1)] 26 ∧ w'.cell? ⟨w.heap.size + 1, 0, none⟩ = some (.int .i64 k1.s) ∧ w'.cell? ⟨w.heap.size + 1, 1, none⟩ = some (.int .i64 k1.f) ∧ w'.cell? ⟨w.heap.size + 1, 2, none⟩ = some (.int .i64 k1.d) ∧ w'.cell? ⟨w.heap.size + 1, 3, none⟩ = some ((.slice y1 k1.ms.length c1)) ∧ Blk w' (w6.heap.size) #[.int .i64 k1.s, .int .i64 k1.f, .int .i64 k1.d, (.slice ax4 k1.ms.length cx4)] 32 ∧ w'.cell? ⟨w6.heap.size, 0, none⟩ = some (.int .i64 k1.s) ∧ w'.cell? ⟨w6.heap.size, 1, none⟩ = some (.int .i64 k1.f) ∧ w'.cell? ⟨w6.heap.size, 2, none⟩ = some (.int .i64 k1.d) ∧ w'.cell? ⟨w6.heap.size, 3, none⟩ = some ((.slice ax4 k1.ms.length cx4))) (by kernel_rfl) (⟨HX.out, HX.out.c0, HX.out.c1, HBb1.out, HBb1.out.cell 0, HBb1.out.cell 1, HBb1.out.cell 2, HBb1.out.cell 3, HBb5.out, HBb5.out.cell 0, HBb5.out.cell 1, HBb5.out.cell 2, HBb5.out.cell 3⟩) (fun hHeld => ?_)
    refine wpAnyH_take (i := 0) (oi := _) (v := ?_) rfl (by kernel_rfl) (by kernel_rfl) (by kernel_rfl) (fun _ _ _ h => h) (Or.inl ⟨by rfl, ?_⟩) (by assumption) ?_
    rotate_left
    · (intro w hSw; (try dsimp only at hSw); (first | (go_simp; done) | (go_simp; with_reducible rfl)))
    simp only [Act.put, List.getElem_toArray, List.getElem_cons_succ, List.getElem_cons_zero, List.setIfInBounds_toArray, List.set_cons_zero, List.set_cons_succ]
    refine wpAnyH_take (i := 1) (oi := _) (v := ?_) rfl (by kernel_rfl) (by kernel_rfl) (by kernel_rfl) (fun _ _ _ h => h) (Or.inl ⟨by rfl, ?_⟩) (by assumption) ?_
    rotate_left
    · (intro w hSw; (try dsimp only at hSw); (first | (go_simp; done) | (go_simp; with_reducible rfl)))
    simp only [Act.put, List.getElem_toArray, List.getElem_cons_succ, List.getElem_cons_zero, List.setIfInBounds_toArray, List.set_cons_zero, List.set_cons_succ]
    refine wpAnyH_ready (rs := [2]) (by kernel_rfl) (by simp) ?_
    refine AllReadyH.cons rfl (fun K hK => ?_) AllReadyH.nil
    go_simp
    refine (toW_any k1 (.slice y1 k1.ms.length c1) _ (HV1.out.below HX.out.below) hn1).mono ?_
    rintro e w11 ⟨x7, rfl, ho, hb⟩
    have HX := Lib.hid (HX.out.next hb)
    have HBb1 := Lib.hid (HBb1.out.below hb)
    have HBb5 := Lib.hid (HBb5.out.below hb)
    have HOg3 := Lib.hid (owns_below HOg3.out hb)
    have HOx4 := Lib.hid (owns_below HOx4.out hb)
    have HOg6 := Lib.hid (owns_below HOg6.out hb)
    have HMid := Lib.hid (HMid.out.trans (hb.mono HMid.out.size))
    have HZw11 : Hid (w10.heap.size ≤ w11.heap.size) := Lib.hid (hb.size)
    have HRx7 : Hid (∀ b, x7.ownBlock = some b → w10.heap.size ≤ b ∧ b < w11.heap.size) := Lib.hid (fun b hb => owns_block ho b hb)
    obtain ⟨ax7, cx7, hsx7, _⟩ := owns_shape ho
    subst hsx7
    have HOx7 := Lib.hid ho
    clear ho
    clear hb
    clear hHeld
    go_wp2_with fail
    refine hK.out _ _ (⟨HX.out, HX.out.c0, HX.out.c1, HBb1.out, HBb1.out.cell 0, HBb1.out.cell 1, HBb1.out.cell 2, HBb1.out.cell 3, HBb5.out, HBb5.out.cell 0, HBb5.out.cell 1, HBb5.out.cell 2, HBb5.out.cell 3⟩) (fun hHeld => ?_)
    clear hK K
    refine wpAnyH_ready (rs := [3]) (by kernel_rfl) (by simp) ?_
    refine AllReadyH.cons rfl (fun K hK => ?_) AllReadyH.nil
    go_simp
    refine (eqW_any k1 (.slice ax4 k1.ms.length cx4) (.slice ax7 k1.ms.length cx7) _ (owns_reads HOx4.out Hnk1_ms.out) (owns_reads HOx7.out Hnk1_ms.out)).mono ?_
    rintro e w12 ⟨rfl, hb⟩
    have HX := Lib.hid (HX.out.next hb)
    have HBb1 := Lib.hid (HBb1.out.below hb)
    have HBb5 := Lib.hid (HBb5.out.below hb)
    have HOg3 := Lib.hid (owns_below HOg3.out hb)
    have HOx4 := Lib.hid (owns_below HOx4.out hb)
    have HOg6 := Lib.hid (owns_below HOg6.out hb)
    have HOx7 := Lib.hid (owns_below HOx7.out hb)
    have HMid := Lib.hid (HMid.out.trans (hb.mono HMid.out.size))
    have HZw12 : Hid (w11.heap.size ≤ w12.heap.size) := Lib.hid (hb.size)
    clear hb
    clear hHeld
    go_wp2_with fail
    refine hK.out _ _ (⟨HX.out, HX.out.c0, HX.out.c1, HBb1.out, HBb1.out.cell 0, HBb1.out.cell 1, HBb1.out.cell 2, HBb1.out.cell 3, HBb5.out, HBb5.out.cell 0, HBb5.out.cell 1, HBb5.out.cell 2, HBb5.out.cell 3⟩) (fun hHeld => ?_)
    clear hK K
    refine wpAnyH_take (i := 4) (oi := _) (v := ?_) rfl (by kernel_rfl) (by kernel_rfl) (by kernel_rfl) (fun _ _ _ h => h) (Or.inl ⟨by rfl, ?_⟩) (by assumption) ?_
    rotate_left
    · (intro w hSw; (try dsimp only at hSw); (first | (go_simp; done) | (go_simp; with_reducible rfl)))
    simp only [Act.put, List.getElem_toArray, List.getElem_cons_succ, List.getElem_cons_zero, List.setIfInBounds_toArray, List.set_cons_zero, List.set_cons_succ]
    refine wpAnyH_done (by kernel_rfl) ?_ _
    refine NoPanic.normal ?_
    clear hHeld
    clear HOx7 HRx7
    have hb0 := HX.out.c0
    have hb1 := HX.out.c1
    have hc_b10 := HBb1.out.cell 0
    have hc_b11 := HBb1.out.cell 1
    have hc_b12 := HBb1.out.cell 2
    have hc_b13 := HBb1.out.cell 3
    have hc_b50 := HBb5.out.cell 0
    have hc_b51 := HBb5.out.cell 1
    have hc_b52 := HBb5.out.cell 2
    have hc_b53 := HBb5.out.cell 3
    go_wp2_with fail
    refine (markW_any k1 (.slice ax4 k1.ms.length cx4) _ (1) _ HOx4.out (Hbk1_ms.out) (by omega)).mono ?_
    rintro e w13 ⟨rfl, hg, ho⟩
    clear hb0 hb1 hc_b10 hc_b11 hc_b12 hc_b13 hc_b50 hc_b51 hc_b52 hc_b53
    have hbM : Below w5.heap.size _ w13 := below_grown hg (fun b hb => by have l := HRx4.out b hb; have z0 := HZw1.out; have z1 := HZw2.out; have z2 := HZw3.out; have z3 := HZw4.out; have z4 := HZw5.out; have z5 := HZw6.out; have z6 := HZw7.out; have z7 := HZw8.out; have z8 := HZw9.out; have z9 := HZw10.out; have z10 := HZw11.out; have z11 := HZw12.out; omega) HMid.out.size
    have HX := Lib.hid (HX.out.nextAt HXm.out hbM)
    have HMid := Lib.hid (HMid.out.trans hbM)
    have HBb1 := Lib.hid (HBb1.out.kept hg (fun h => by have l := HRx4.out _ h; have z0 := HZw1.out; have z1 := HZw2.out; have z2 := HZw3.out; have z3 := HZw4.out; have z4 := HZw5.out; have z5 := HZw6.out; have z6 := HZw7.out; have z7 := HZw8.out; have z8 := HZw9.out; have z9 := HZw10.out; have z10 := HZw11.out; have z11 := HZw12.out; omega))
    have HBb5 := Lib.hid (HBb5.out.kept hg (fun h => by have l := HRx4.out _ h; have z0 := HZw1.out; have z1 := HZw2.out; have z2 := HZw3.out; have z3 := HZw4.out; have z4 := HZw5.out; have z5 := HZw6.out; have z6 := HZw7.out; have z7 := HZw8.out; have z8 := HZw9.out; have z9 := HZw10.out; have z10 := HZw11.out; have z11 := HZw12.out; omega))
    have HOg3 := Lib.hid (row_kept HOg3.out hg (fun b h h2 => by have l := HRx4.out b h2; have l2 := HRg3.out b h; have z0 := HZw1.out; have z1 := HZw2.out; have z2 := HZw3.out; have z3 := HZw4.out; have z4 := HZw5.out; have z5 := HZw6.out; have z6 := HZw7.out; have z7 := HZw8.out; have z8 := HZw9.out; have z9 := HZw10.out; have z10 := HZw11.out; have z11 := HZw12.out; omega))
    have HOg6 := Lib.hid (row_kept HOg6.out hg (fun b h h2 => by have l := HRx4.out b h2; have l2 := HRg6.out b h; have z0 := HZw1.out; have z1 := HZw2.out; have z2 := HZw3.out; have z3 := HZw4.out; have z4 := HZw5.out; have z5 := HZw6.out; have z6 := HZw7.out; have z7 := HZw8.out; have z8 := HZw9.out; have z9 := HZw10.out; have z10 := HZw11.out; have z11 := HZw12.out; omega))
    have HOx4 := Lib.hid ho
    have HZw13 : Hid (w12.heap.size ≤ w13.heap.size) := Lib.hid hg.size
    clear hg ho hbM
    have hb0 := HX.out.c0
    have hb1 := HX.out.c1
    have hc_b10 := HBb1.out.cell 0
    have hc_b11 := HBb1.out.cell 1
    have hc_b12 := HBb1.out.cell 2
    have hc_b13 := HBb1.out.cell 3
    have hc_b50 := HBb5.out.cell 0
    have hc_b51 := HBb5.out.cell 1
    have hc_b52 := HBb5.out.cell 2
    have hc_b53 := HBb5.out.cell 3
    go_wp2_with fail
    refine (eqI_below g6 g3 zs _ (owns_reads HOg6.out Hnzs.out) (owns_reads HOg3.out Hnzs.out)).mono ?_
    rintro e w14 ⟨rfl, hb⟩
    clear hb0 hb1 hc_b10 hc_b11 hc_b12 hc_b13 hc_b50 hc_b51 hc_b52 hc_b53
    have HX := Lib.hid (HX.out.next hb)
    have HBb1 := Lib.hid (HBb1.out.below hb)
    have HBb5 := Lib.hid (HBb5.out.below hb)
    have HOg3 := Lib.hid (owns_below HOg3.out hb)
    have HOx4 := Lib.hid (owns_below HOx4.out hb)
    have HOg6 := Lib.hid (owns_below HOg6.out hb)
    have HMid := Lib.hid (HMid.out.trans (hb.mono HMid.out.size))
    have HZw14 : Hid (w13.heap.size ≤ w14.heap.size) := Lib.hid (hb.size)
    clear hb
    have hb0 := HX.out.c0
    have hb1 := HX.out.c1
    have hc_b10 := HBb1.out.cell 0
    have hc_b11 := HBb1.out.cell 1
    have hc_b12 := HBb1.out.cell 2
    have hc_b13 := HBb1.out.cell 3
    have hc_b50 := HBb5.out.cell 0
    have hc_b51 := HBb5.out.cell 1
    have hc_b52 := HBb5.out.cell 2
    have hc_b53 := HBb5.out.cell 3
    go_wp2_with fail
    refine (mark_list g6 zs _ (1) _ HOg6.out (Hbzs.out) (by omega)).mono ?_
    rintro e w15 ⟨rfl, hg, ho⟩
    clear hb0 hb1 hc_b10 hc_b11 hc_b12 hc_b13 hc_b50 hc_b51 hc_b52 hc_b53
    have hbM : Below w5.heap.size _ w15 := below_grown hg (fun b hb => by have l := HRg6.out b hb; have z0 := HZw1.out; have z1 := HZw2.out; have z2 := HZw3.out; have z3 := HZw4.out; have z4 := HZw5.out; have z5 := HZw6.out; have z6 := HZw7.out; have z7 := HZw8.out; have z8 := HZw9.out; have z9 := HZw10.out; have z10 := HZw11.out; have z11 := HZw12.out; have z12 := HZw13.out; have z13 := HZw14.out; omega) HMid.out.size
    have HX := Lib.hid (HX.out.nextAt HXm.out hbM)
    have HMid := Lib.hid (HMid.out.trans hbM)
    have HBb1 := Lib.hid (HBb1.out.kept hg (fun h => by have l := HRg6.out _ h; have z0 := HZw1.out; have z1 := HZw2.out; have z2 := HZw3.out; have z3 := HZw4.out; have z4 := HZw5.out; have z5 := HZw6.out; have z6 := HZw7.out; have z7 := HZw8.out; have z8 := HZw9.out; have z9 := HZw10.out; have z10 := HZw11.out; have z11 := HZw12.out; have z12 := HZw13.out; have z13 := HZw14.out; omega))
    have HBb5 := Lib.hid (HBb5.out.kept hg (fun h => by have l := HRg6.out _ h; have z0 := HZw1.out; have z1 := HZw2.out; have z2 := HZw3.out; have z3 := HZw4.out; have z4 := HZw5.out; have z5 := HZw6.out; have z6 := HZw7.out; have z7 := HZw8.out; have z8 := HZw9.out; have z9 := HZw10.out; have z10 := HZw11.out; have z11 := HZw12.out; have z12 := HZw13.out; have z13 := HZw14.out; omega))
    have HOg3 := Lib.hid (row_kept HOg3.out hg (fun b h h2 => by have l := HRg6.out b h2; have l2 := HRg3.out b h; have z0 := HZw1.out; have z1 := HZw2.out; have z2 := HZw3.out; have z3 := HZw4.out; have z4 := HZw5.out; have z5 := HZw6.out; have z6 := HZw7.out; have z7 := HZw8.out; have z8 := HZw9.out; have z9 := HZw10.out; have z10 := HZw11.out; have z11 := HZw12.out; have z12 := HZw13.out; have z13 := HZw14.out; omega))
    have HOx4 := Lib.hid (row_kept HOx4.out hg (fun b h h2 => by have l := HRg6.out b h2; have l2 := HRx4.out b h; have z0 := HZw1.out; have z1 := HZw2.out; have z2 := HZw3.out; have z3 := HZw4.out; have z4 := HZw5.out; have z5 := HZw6.out; have z6 := HZw7.out; have z7 := HZw8.out; have z8 := HZw9.out; have z9 := HZw10.out; have z10 := HZw11.out; have z11 := HZw12.out; have z12 := HZw13.out; have z13 := HZw14.out; omega))
    have HOg6 := Lib.hid ho
    have HZw15 : Hid (w14.heap.size ≤ w15.heap.size) := Lib.hid hg.size
    clear hg ho hbM
    have hb0 := HX.out.c0
    have hb1 := HX.out.c1
    have hc_b10 := HBb1.out.cell 0
    have hc_b11 := HBb1.out.cell 1
    have hc_b12 := HBb1.out.cell 2
    have hc_b13 := HBb1.out.cell 3
    have hc_b50 := HBb5.out.cell 0
    have hc_b51 := HBb5.out.cell 1
    have hc_b52 := HBb5.out.cell 2
    have hc_b53 := HBb5.out.cell 3
    go_wp2_with fail
    refine (held_any g6 zs.length (1) _ (owns_reads (by rw [mts_len]; exact HOg6.out) (by rw [mts_len]; exact Hnzs.out)) (Hbzs.out) (by omega)).mono ?_
    rintro e w16 ⟨rfl, rfl⟩
    go_wp2_with fail
    clear hb0 hb1 hc_b10 hc_b11 hc_b12 hc_b13 hc_b50 hc_b51 hc_b52 hc_b53
    have HX := Lib.hid (HX.out.next (below_drewN _ 1))
    have HBb1 := Lib.hid (HBb1.out.below (below_drewN _ 1))
    have HBb5 := Lib.hid (HBb5.out.below (below_drewN _ 1))
    have HOg3 := Lib.hid (owns_below HOg3.out (below_drewN _ 1))
    have HOx4 := Lib.hid (owns_below HOx4.out (below_drewN _ 1))
    have HOg6 := Lib.hid (owns_below HOg6.out (below_drewN _ 1))
    have HMid := Lib.hid (HMid.out.trans ((below_drewN _ 1).mono HMid.out.size))
    refine wp_region_noPanic ?_
    refine wp_region_held_drew (S := fun w' => Boxed w.heap.size n g w w' ∧ w'.cell? ⟨w.heap.size, 0, none⟩ = some (.int .i64 n) ∧ w'.cell? ⟨w.heap.size, 1, none⟩ = some (.bool g) ∧ Blk w' (w.heap.size + 1) #[.int .i64 k1.s, .int .i64 k1.f, .int .i64 k1.d, (.slice y1 k1.ms.length c1)] 26 ∧ w'.cell? ⟨w.heap.size + 1, 0, none⟩ = some (.int .i64 k1.s) ∧ w'.cell? ⟨w.heap.size + 1, 1, none⟩ = some (.int .i64 k1.f) ∧ w'.cell? ⟨w.heap.size + 1, 2, none⟩ = some (.int .i64 k1.d) ∧ w'.cell? ⟨w.heap.size + 1, 3, none⟩ = some ((.slice y1 k1.ms.length c1)) ∧ Blk w' (w6.heap.size) #[.int .i64 k1.s, .int .i64 k1.f, .int .i64 k1.d, (.slice ax4 k1.ms.length cx4)] 32 ∧ w'.cell? ⟨w6.heap.size, 0, none⟩ = some (.int .i64 k1.s) ∧ w'.cell? ⟨w6.heap.size, 1, none⟩ = some (.int .i64 k1.f) ∧ w'.cell? ⟨w6.heap.size, 2, none⟩ = some (.int .i64 k1.d) ∧ w'.cell? ⟨w6.heap.size, 3, none⟩ = some ((.slice ax4 k1.ms.length cx4))) (by kernel_rfl) (⟨HX.out, HX.out.c0, HX.out.c1, HBb1.out, HBb1.out.cell 0, HBb1.out.cell 1, HBb1.out.cell 2, HBb1.out.cell 3, HBb5.out, HBb5.out.cell 0, HBb5.out.cell 1, HBb5.out.cell 2, HBb5.out.cell 3⟩) (fun hHeld => ?_)
    refine wpAnyH_take (i := 0) (oi := _) (v := ?_) rfl (by kernel_rfl) (by kernel_rfl) (by kernel_rfl) (fun _ _ _ h => h) (Or.inl ⟨by rfl, ?_⟩) (by assumption) ?_
    rotate_left
    · (intro w hSw; (try dsimp only at hSw); (first | (go_simp; done) | (go_simp; with_reducible rfl)))
    simp only [Act.put, List.getElem_toArray, List.getElem_cons_succ, List.getElem_cons_zero, List.setIfInBounds_toArray, List.set_cons_zero, List.set_cons_succ]
    refine wpAnyH_take (i := 2) (oi := _) (v := ?_) rfl (by kernel_rfl) (by kernel_rfl) (by kernel_rfl) (fun _ _ _ h => h) (Or.inl ⟨by rfl, ?_⟩) (by assumption) ?_
    rotate_left
    · (intro w hSw; (try dsimp only at hSw); (first | (go_simp; done) | (go_simp; with_reducible rfl)))
    simp only [Act.put, List.getElem_toArray, List.getElem_cons_succ, List.getElem_cons_zero, List.setIfInBounds_toArray, List.set_cons_zero, List.set_cons_succ]
    refine wpAnyH_take (i := 4) (oi := _) (v := ?_) rfl (by kernel_rfl) (by kernel_rfl) (by kernel_rfl) (fun _ _ _ h => h) (Or.inl ⟨by rfl, ?_⟩) (by assumption) ?_
    rotate_left
    · (intro w hSw; (try dsimp only at hSw); (first | (go_simp; done) | (go_simp; with_reducible rfl)))
    simp only [Act.put, List.getElem_toArray, List.getElem_cons_succ, List.getElem_cons_zero, List.setIfInBounds_toArray, List.set_cons_zero, List.set_cons_succ]
    refine wpAnyH_ready (rs := [1]) (by kernel_rfl) (by simp) ?_
    refine AllReadyH.cons rfl (fun K hK => ?_) AllReadyH.nil
    go_simp
    refine (HT.out _).mono ?_
    rintro e w16 ⟨rfl, hb⟩
    have HX := Lib.hid (HX.out.next hb)
    have HBb1 := Lib.hid (HBb1.out.below hb)
    have HBb5 := Lib.hid (HBb5.out.below hb)
    have HOg3 := Lib.hid (owns_below HOg3.out hb)
    have HOx4 := Lib.hid (owns_below HOx4.out hb)
    have HOg6 := Lib.hid (owns_below HOg6.out hb)
    have HMid := Lib.hid (HMid.out.trans (hb.mono HMid.out.size))
    have HZw16 : Hid (w15.heap.size ≤ w16.heap.size) := Lib.hid (hb.size)
    clear hb
    clear hHeld
    go_wp2_with fail
    refine hK.out _ _ (⟨HX.out, HX.out.c0, HX.out.c1, HBb1.out, HBb1.out.cell 0, HBb1.out.cell 1, HBb1.out.cell 2, HBb1.out.cell 3, HBb5.out, HBb5.out.cell 0, HBb5.out.cell 1, HBb5.out.cell 2, HBb5.out.cell 3⟩) (fun hHeld => ?_)
    clear hK K
    refine wpAnyH_ready (rs := [3]) (by kernel_rfl) (by simp) ?_
    refine AllReadyH.cons rfl (fun K hK => ?_) AllReadyH.nil
    go_simp
    refine (toW_any k1 (.slice y1 k1.ms.length c1) _ (HV1.out.below HX.out.below) hn1).mono ?_
    rintro e w17 ⟨x8, rfl, ho, hb⟩
    have HX := Lib.hid (HX.out.next hb)
    have HBb1 := Lib.hid (HBb1.out.below hb)
    have HBb5 := Lib.hid (HBb5.out.below hb)
    have HOg3 := Lib.hid (owns_below HOg3.out hb)
    have HOx4 := Lib.hid (owns_below HOx4.out hb)
    have HOg6 := Lib.hid (owns_below HOg6.out hb)
    have HMid := Lib.hid (HMid.out.trans (hb.mono HMid.out.size))
    have HZw17 : Hid (w16.heap.size ≤ w17.heap.size) := Lib.hid (hb.size)
    have HRx8 : Hid (∀ b, x8.ownBlock = some b → w16.heap.size ≤ b ∧ b < w17.heap.size) := Lib.hid (fun b hb => owns_block ho b hb)
    obtain ⟨ax8, cx8, hsx8, _⟩ := owns_shape ho
    subst hsx8
    have HOx8 := Lib.hid ho
    clear ho
    clear hb
    clear hHeld
    go_wp2_with fail
    refine hK.out _ _ (⟨HX.out, HX.out.c0, HX.out.c1, HBb1.out, HBb1.out.cell 0, HBb1.out.cell 1, HBb1.out.cell 2, HBb1.out.cell 3, HBb5.out, HBb5.out.cell 0, HBb5.out.cell 1, HBb5.out.cell 2, HBb5.out.cell 3⟩) (fun hHeld => ?_)
    clear hK K
    refine wpAnyH_ready (rs := [5]) (by kernel_rfl) (by simp) ?_
    refine AllReadyH.cons rfl (fun K hK => ?_) AllReadyH.nil
    go_simp
    refine (HI.out (.slice ax8 k1.ms.length cx8) _ (owns_reads HOx8.out Hnk1_ms.out)).mono ?_
    rintro e w18 ⟨g9, rfl, ho, hb⟩
    have HX := Lib.hid (HX.out.next hb)
    have HBb1 := Lib.hid (HBb1.out.below hb)
    have HBb5 := Lib.hid (HBb5.out.below hb)
    have HOg3 := Lib.hid (owns_below HOg3.out hb)
    have HOx4 := Lib.hid (owns_below HOx4.out hb)
    have HOg6 := Lib.hid (owns_below HOg6.out hb)
    have HOx8 := Lib.hid (owns_below HOx8.out hb)
    have HMid := Lib.hid (HMid.out.trans (hb.mono HMid.out.size))
    have HZw18 : Hid (w17.heap.size ≤ w18.heap.size) := Lib.hid (hb.size)
    have HRg9 : Hid (∀ b, g9.ownBlock = some b → w17.heap.size ≤ b ∧ b < w18.heap.size) := Lib.hid (fun b hb => owns_block ho b hb)
    have HOg9 := Lib.hid ho
    clear ho
    clear hb
    clear hHeld
    go_wp2_with fail
    refine hK.out _ _ (⟨HX.out, HX.out.c0, HX.out.c1, HBb1.out, HBb1.out.cell 0, HBb1.out.cell 1, HBb1.out.cell 2, HBb1.out.cell 3, HBb5.out, HBb5.out.cell 0, HBb5.out.cell 1, HBb5.out.cell 2, HBb5.out.cell 3⟩) (fun hHeld => ?_)
    clear hK K
    refine wpAnyH_take (i := 6) (oi := _) (v := ?_) rfl (by kernel_rfl) (by kernel_rfl) (by kernel_rfl) (fun _ _ _ h => h) (Or.inl ⟨by rfl, ?_⟩) (by assumption) ?_
    rotate_left
    · (intro w hSw; (try dsimp only at hSw); (first | (go_simp; done) | (go_simp; with_reducible rfl)))
    simp only [Act.put, List.getElem_toArray, List.getElem_cons_succ, List.getElem_cons_zero, List.setIfInBounds_toArray, List.set_cons_zero, List.set_cons_succ]
    refine wpAnyH_take (i := 7) (oi := _) (v := ?_) rfl (by kernel_rfl) (by kernel_rfl) (by kernel_rfl) (fun _ _ _ h => h) (Or.inl ⟨by rfl, ?_⟩) (by assumption) ?_
    rotate_left
    · (intro w hSw; (try dsimp only at hSw); (first | (go_simp; done) | (go_simp; with_reducible rfl)))
    simp only [Act.put, List.getElem_toArray, List.getElem_cons_succ, List.getElem_cons_zero, List.setIfInBounds_toArray, List.set_cons_zero, List.set_cons_succ]
    refine wpAnyH_take (i := 8) (oi := _) (v := ?_) rfl (by kernel_rfl) (by kernel_rfl) (by kernel_rfl) (fun _ _ _ h => h) (Or.inl ⟨by rfl, ?_⟩) (by assumption) ?_
    rotate_left
    · (intro w hSw; (try dsimp only at hSw); (first | (go_simp; done) | (go_simp; with_reducible rfl)))
    simp only [Act.put, List.getElem_toArray, List.getElem_cons_succ, List.getElem_cons_zero, List.setIfInBounds_toArray, List.set_cons_zero, List.set_cons_succ]
    refine wpAnyH_take (i := 9) (oi := _) (v := ?_) rfl (by kernel_rfl) (by kernel_rfl) (by kernel_rfl) (fun _ _ _ h => h) (Or.inl ⟨by rfl, ?_⟩) (by assumption) ?_
    rotate_left
    · (intro w hSw; (try dsimp only at hSw); (first | (go_simp; done) | (go_simp; with_reducible rfl)))
    simp only [Act.put, List.getElem_toArray, List.getElem_cons_succ, List.getElem_cons_zero, List.setIfInBounds_toArray, List.set_cons_zero, List.set_cons_succ]
    refine wpAnyH_take (i := 10) (oi := _) (v := ?_) rfl (by kernel_rfl) (by kernel_rfl) (by kernel_rfl) (fun _ _ _ h => h) (Or.inl ⟨by rfl, ?_⟩) (by assumption) ?_
    rotate_left
    · (intro w hSw; (try dsimp only at hSw); (first | (go_simp; done) | (go_simp; with_reducible rfl)))
    simp only [Act.put, List.getElem_toArray, List.getElem_cons_succ, List.getElem_cons_zero, List.setIfInBounds_toArray, List.set_cons_zero, List.set_cons_succ]
    refine wpAnyH_done (by kernel_rfl) ?_ _
    refine NoPanic.normal ?_
    clear hHeld
    clear HOx8 HRx8
    have hb0 := HX.out.c0
    have hb1 := HX.out.c1
    have hc_b10 := HBb1.out.cell 0
    have hc_b11 := HBb1.out.cell 1
    have hc_b12 := HBb1.out.cell 2
    have hc_b13 := HBb1.out.cell 3
    have hc_b50 := HBb5.out.cell 0
    have hc_b51 := HBb5.out.cell 1
    have hc_b52 := HBb5.out.cell 2
    have hc_b53 := HBb5.out.cell 3
    go_wp2_with fail
    refine (eqI_below g9 g3 zs _ (owns_reads HOg9.out Hnzs.out) (owns_reads HOg3.out Hnzs.out)).mono ?_
    rintro e w19 ⟨rfl, hb⟩
    clear hb0 hb1 hc_b10 hc_b11 hc_b12 hc_b13 hc_b50 hc_b51 hc_b52 hc_b53
    have HX := Lib.hid (HX.out.next hb)
    have HBb1 := Lib.hid (HBb1.out.below hb)
    have HBb5 := Lib.hid (HBb5.out.below hb)
    have HOg3 := Lib.hid (owns_below HOg3.out hb)
    have HOx4 := Lib.hid (owns_below HOx4.out hb)
    have HOg6 := Lib.hid (owns_below HOg6.out hb)
    have HOg9 := Lib.hid (owns_below HOg9.out hb)
    have HMid := Lib.hid (HMid.out.trans (hb.mono HMid.out.size))
    have HZw19 : Hid (w18.heap.size ≤ w19.heap.size) := Lib.hid (hb.size)
    clear hb
    have hb0 := HX.out.c0
    have hb1 := HX.out.c1
    have hc_b10 := HBb1.out.cell 0
    have hc_b11 := HBb1.out.cell 1
    have hc_b12 := HBb1.out.cell 2
    have hc_b13 := HBb1.out.cell 3
    have hc_b50 := HBb5.out.cell 0
    have hc_b51 := HBb5.out.cell 1
    have hc_b52 := HBb5.out.cell 2
    have hc_b53 := HBb5.out.cell 3
    go_wp2_with fail
    refine (held_any g6 zs.length (1) _ (owns_reads (by rw [mts_len]; exact HOg6.out) (by rw [mts_len]; exact Hnzs.out)) (Hbzs.out) (by omega)).mono ?_
    rintro e w20 ⟨rfl, rfl⟩
    go_wp2_with fail
    go_ret
    exact ⟨rfl, HX.out.below⟩
set_option maxHeartbeats 800000 in
theorem law_long (n : Int) (g : Bool) (k1 : Wk) (v1 : Value) (a2 : Int) (w : World) (hv1 : ReadsI w v1 k1.ms) (hlong : 1048576 < k1.ms.length) :
    Calls Try.prog 4 #[rd n g, wkv k1 v1, .int .i64 a2] w fun e w' => e = .returned (.bool true) ∧ Below w.heap.size w w' := by
  have HX := Lib.hid (Boxed.first w n g 23)
  have HS1 := Lib.hid (fun l w hv (hl : l ≤ 1048576) (h : k1.ms.length ≤ l) => szW_yes k1 v1 l w hv hl h)
  have HN1 := Lib.hid (fun l w hv (hl : l ≤ 1048576) (h : l < k1.ms.length) => szW_no k1 v1 l w hv hl h)
  have HV1 := Lib.hid hv1
  obtain ⟨y1, c1, hvv1, _⟩ := hv1
  subst hvv1
  have HX := Lib.hid (HX.out.next (below_new _ (.cells #[.int .i64 k1.s, .int .i64 k1.f, .int .i64 k1.d, .slice y1 k1.ms.length c1] 26)))
  have HB1 := Lib.hid (blk_at (w.alloc (.cells #[.int .i64 n, .bool g] 23)) #[.int .i64 k1.s, .int .i64 k1.f, .int .i64 k1.d, .slice y1 k1.ms.length c1] 26 (w.heap.size + 1) (by simp))
  unfold wkv rd at *
  go_enter Try.func4, Try.ntmps4
  go_wp2_with fail
  generalize ((w.alloc (.cells #[.int .i64 n, .bool g] 23)).alloc (.cells #[.int .i64 k1.s, .int .i64 k1.f, .int .i64 k1.d, .slice y1 k1.ms.length c1] 26)) = w1 at *
  refine (HN1.out (1048576) _ (HV1.out.below HX.out.below) (by omega) (by omega)).mono ?_
  rintro e w2 ⟨rfl, hb⟩
  have HX := Lib.hid (HX.out.next hb)
  clear hb
  go_wp2_with fail
  go_ret
  exact ⟨rfl, HX.out.below⟩

theorem walk (n : Int) (g : Bool) (k1 : Wk) (v1 : Value) (a2 : Int) (w : World) (hv1 : ReadsI w v1 k1.ms) (ha2 : -9223372036854775808 ≤ a2 ∧ a2 ≤ 9223372036854775807) :
    Calls Try.prog 4 #[rd n g, wkv k1 v1, .int .i64 a2] w fun e w' => e = .returned (.bool true) ∧ Below w.heap.size w w' := by
  by_cases h : 1048576 < k1.ms.length
  · exact law_long n g k1 v1 a2 w hv1 h
  · skip
    have hn : k1.ms.length ≤ 1048576 := by omega
    have hlen : ((walkR n g k1 a2)).1.length ≤ 1048576 := walkR_len n g k1 a2
    exact law_two n g k1 v1 a2 ((walkR n g k1 a2)).1 ((walkR n g k1 a2)).2 hlen w hv1 (by omega) (fun u1 w h1 => spec_WalkOf n g k1 u1 a2 w h1) (fun u1 w h1 => impl_WalkOf n g k1 u1 a2 w h1)
end Go.Proofs.Ytcpembfioelnlaa.fnExactWalkOf
