/-
  What is proved: the walk of the law FnExactLegEnd: for every input impl.LegEnd answers as the model does, its arguments read as before, and its answer is memory of its own. Conditions: none beyond the row's own.
-/
import Derived.Test.YtgchodielkodeaaRlg
import Derived.Test.YtgchodielkodeaaRlb
import Derived.Test.YtgchodielkodeaaTbb
namespace Go.Proofs.Ytgchodielkodeaa.fnExactLegEnd
open Go.RowKit
set_option linter.unusedVariables false
set_option linter.unusedSimpArgs false

set_option maxHeartbeats 3200000 in
set_option maxRecDepth 20000 in
theorem law_two (n : Int) (g : Bool) (c1 : Cr) (a2 : Int) (z : Int) (b : Bool) (w : World) 
    (hm : ∀  (w : World), Calls Try.prog 25 #[rd n g, crv c1, .int .i64 a2] w fun e w' => e = .returned (.tuple #[.int .i64 z, .bool b]) ∧ Below w.heap.size w w')
    (hi : ∀  (w : World), Calls Try.prog 27 #[rd n g, crv c1, .int .i64 a2] w fun e w' => e = .returned (.tuple #[.int .i64 z, .bool b]) ∧ Below w.heap.size w w') :
    Calls Try.prog 4 #[rd n g, crv c1, .int .i64 a2] w fun e w' => e = .returned (.bool true) ∧ Below w.heap.size w w' := by
  have HM := Lib.hid hm
  have HI := Lib.hid hi
  have HT := Lib.hid (fun w => toRoad_any n g w)
  clear hm hi
  have HX := Lib.hid (Boxed.first w n g 23)
  have HX := Lib.hid (HX.out.next (below_new _ (.cells #[.int .i64 c1.s, .int .i64 c1.r, .int .i64 c1.f] 35)))
  have HBb1 := Lib.hid (blk_at (w.alloc (.cells #[.int .i64 n, .bool g] 23)) #[.int .i64 c1.s, .int .i64 c1.r, .int .i64 c1.f] 35 (w.heap.size + 1) (by simp))
  unfold crv rd at *
  go_enter Try.func4, Try.ntmps4
  go_wp2_with fail
  have HZw1 : Hid (w.heap.size + 2 ≤ ((w.alloc (.cells #[.int .i64 n, .bool g] 23)).alloc (.cells #[.int .i64 c1.s, .int .i64 c1.r, .int .i64 c1.f] 35)).heap.size) := Lib.hid (by simp)
  generalize ((w.alloc (.cells #[.int .i64 n, .bool g] 23)).alloc (.cells #[.int .i64 c1.s, .int .i64 c1.r, .int .i64 c1.f] 35)) = w1 at *
  have hb0 := HX.out.c0
  have hb1 := HX.out.c1
  have hc_b10 := HBb1.out.cell 0
  have hc_b11 := HBb1.out.cell 1
  have hc_b12 := HBb1.out.cell 2
  clear hb0 hb1 hc_b10 hc_b11 hc_b12
  have HX := Lib.hid (HX.out.next (below_drewN _ 1))
  have HBb1 := Lib.hid (HBb1.out.below (below_drewN _ 1))
  refine wp_region_noPanic ?_
  refine wp_region_held_drew (S := fun w' => Boxed w.heap.size n g w w' ∧ w'.cell? ⟨w.heap.size, 0, none⟩ = some (.int .i64 n) ∧ w'.cell? ⟨w.heap.size, 1, none⟩ = some (.bool g) ∧ Blk w' (w.heap.size + 1) #[.int .i64 c1.s, .int .i64 c1.r, .int .i64 c1.f] 35 ∧ w'.cell? ⟨w.heap.size + 1, 0, none⟩ = some (.int .i64 c1.s) ∧ w'.cell? ⟨w.heap.size + 1, 1, none⟩ = some (.int .i64 c1.r) ∧ w'.cell? ⟨w.heap.size + 1, 2, none⟩ = some (.int .i64 c1.f)) (by kernel_rfl) (⟨HX.out, HX.out.c0, HX.out.c1, HBb1.out, HBb1.out.cell 0, HBb1.out.cell 1, HBb1.out.cell 2⟩) (fun hHeld => ?_)
  refine wpAnyH_take (i := 0) (oi := _) (v := ?_) rfl (by kernel_rfl) (by kernel_rfl) (by kernel_rfl) (fun _ _ _ h => h) (Or.inl ⟨by rfl, ?_⟩) (by assumption) ?_
  rotate_left
  · (intro w hSw; (try dsimp only at hSw); (first | (go_simp; done) | (go_simp; with_reducible rfl)))
  simp only [Act.put, List.getElem_toArray, List.getElem_cons_succ, List.getElem_cons_zero, List.setIfInBounds_toArray, List.set_cons_zero, List.set_cons_succ]
  refine wpAnyH_take (i := 2) (oi := _) (v := ?_) rfl (by kernel_rfl) (by kernel_rfl) (by kernel_rfl) (fun _ _ _ h => h) (Or.inl ⟨by rfl, ?_⟩) (by assumption) ?_
  rotate_left
  · (intro w hSw; (try dsimp only at hSw); (first | (go_simp; done) | (go_simp; with_reducible rfl)))
  simp only [Act.put, List.getElem_toArray, List.getElem_cons_succ, List.getElem_cons_zero, List.setIfInBounds_toArray, List.set_cons_zero, List.set_cons_succ]
  refine wpAnyH_take (i := 4) (oi := _) (v := ?_) rfl (by kernel_rfl) (by kernel_rfl) (by kernel_rfl) (fun _ _ _ h => h) (Or.inl ⟨by rfl, ?_⟩) (by assumption) ?_
  rotate_left
  · (intro w hSw; (try dsimp only at hSw); (first | (go_simp; done) | (go_simp; with_reducible rfl)))
  simp only [Act.put, List.getElem_toArray, List.getElem_cons_succ, List.getElem_cons_zero, List.setIfInBounds_toArray, List.set_cons_zero, List.set_cons_succ]
  refine wpAnyH_ready (rs := [1]) (by kernel_rfl) (by simp) ?_
  refine AllReadyH.cons rfl (fun K hK => ?_) AllReadyH.nil
  go_simp
  refine (HT.out _).mono ?_
  rintro e w2 ⟨rfl, hb⟩
  have HX := Lib.hid (HX.out.next hb)
  have HBb1 := Lib.hid (HBb1.out.below hb)
  have HZw2 : Hid (w1.heap.size ≤ w2.heap.size) := Lib.hid (hb.size)
  clear hb
  clear hHeld
  go_wp2_with fail
  refine hK.out _ _ (⟨HX.out, HX.out.c0, HX.out.c1, HBb1.out, HBb1.out.cell 0, HBb1.out.cell 1, HBb1.out.cell 2⟩) (fun hHeld => ?_)
  clear hK K
  refine wpAnyH_ready (rs := [3]) (by kernel_rfl) (by simp) ?_
  refine AllReadyH.cons rfl (fun K hK => ?_) AllReadyH.nil
  go_simp
  refine (toC_any c1 _).mono ?_
  rintro e w3 ⟨rfl, hb⟩
  have HX := Lib.hid (HX.out.next hb)
  have HBb1 := Lib.hid (HBb1.out.below hb)
  have HZw3 : Hid (w2.heap.size ≤ w3.heap.size) := Lib.hid (hb.size)
  clear hb
  clear hHeld
  go_wp2_with fail
  refine hK.out _ _ (⟨HX.out, HX.out.c0, HX.out.c1, HBb1.out, HBb1.out.cell 0, HBb1.out.cell 1, HBb1.out.cell 2⟩) (fun hHeld => ?_)
  clear hK K
  refine wpAnyH_ready (rs := [5]) (by kernel_rfl) (by simp) ?_
  refine AllReadyH.cons rfl (fun K hK => ?_) AllReadyH.nil
  go_simp
  refine (HM.out _).mono ?_
  rintro e w4 ⟨rfl, hb⟩
  have HX := Lib.hid (HX.out.next hb)
  have HBb1 := Lib.hid (HBb1.out.below hb)
  have HZw4 : Hid (w3.heap.size ≤ w4.heap.size) := Lib.hid (hb.size)
  clear hb
  have HMid : Hid (Below w4.heap.size w4 w4) := Lib.hid (Below.refl _ _)
  have HXm := Lib.hid HX.out.size
  clear hHeld
  go_wp2_with fail
  refine hK.out _ _ (⟨HX.out, HX.out.c0, HX.out.c1, HBb1.out, HBb1.out.cell 0, HBb1.out.cell 1, HBb1.out.cell 2⟩) (fun hHeld => ?_)
  clear hK K
  refine wpAnyH_take (i := 6) (oi := _) (v := ?_) rfl (by kernel_rfl) (by kernel_rfl) (by kernel_rfl) (fun _ _ _ h => h) (Or.inl ⟨by rfl, ?_⟩) (by assumption) ?_
  rotate_left
  · (intro w hSw; (try dsimp only at hSw); (first | (go_simp; done) | (go_simp; with_reducible rfl)))
  simp only [Act.put, List.getElem_toArray, List.getElem_cons_succ, List.getElem_cons_zero, List.setIfInBounds_toArray, List.set_cons_zero, List.set_cons_succ]
  refine wpAnyH_take (i := 7) (oi := _) (v := ?_) rfl (by kernel_rfl) (by kernel_rfl) (by kernel_rfl) (fun _ _ _ h => h) (Or.inl ⟨by rfl, ?_⟩) (by assumption) ?_
  rotate_left
  · (intro w hSw; (try dsimp only at hSw); (first | (go_simp; done) | (go_simp; with_reducible rfl)))
  simp only [Act.put, List.getElem_toArray, List.getElem_cons_succ, List.getElem_cons_zero, List.setIfInBounds_toArray, List.set_cons_zero, List.set_cons_succ]
  refine wpAnyH_take (i := 8) (oi := _) (v := ?_) rfl (by kernel_rfl) (by kernel_rfl) (by kernel_rfl) (fun _ _ _ h => h) (Or.inl ⟨by rfl, ?_⟩) (by assumption) ?_
  rotate_left
  · (intro w hSw; (try dsimp only at hSw); (first | (go_simp; done) | (go_simp; with_reducible rfl)))
  simp only [Act.put, List.getElem_toArray, List.getElem_cons_succ, List.getElem_cons_zero, List.setIfInBounds_toArray, List.set_cons_zero, List.set_cons_succ]
  refine wpAnyH_take (i := 9) (oi := _) (v := ?_) rfl (by kernel_rfl) (by kernel_rfl) (by kernel_rfl) (fun _ _ _ h => h) (Or.inl ⟨by rfl, ?_⟩) (by assumption) ?_
  rotate_left
  · (intro w hSw; (try dsimp only at hSw); (first | (go_simp; done) | (go_simp; with_reducible rfl)))
  simp only [Act.put, List.getElem_toArray, List.getElem_cons_succ, List.getElem_cons_zero, List.setIfInBounds_toArray, List.set_cons_zero, List.set_cons_succ]
  refine wpAnyH_take (i := 10) (oi := _) (v := ?_) rfl (by kernel_rfl) (by kernel_rfl) (by kernel_rfl) (fun _ _ _ h => h) (Or.inl ⟨by rfl, ?_⟩) (by assumption) ?_
  rotate_left
  · (intro w hSw; (try dsimp only at hSw); (first | (go_simp; done) | (go_simp; with_reducible rfl)))
  simp only [Act.put, List.getElem_toArray, List.getElem_cons_succ, List.getElem_cons_zero, List.setIfInBounds_toArray, List.set_cons_zero, List.set_cons_succ]
  refine wpAnyH_done (by kernel_rfl) ?_ _
  refine NoPanic.normal ?_
  clear hHeld
  have hb0 := HX.out.c0
  have hb1 := HX.out.c1
  have hc_b10 := HBb1.out.cell 0
  have hc_b11 := HBb1.out.cell 1
  have hc_b12 := HBb1.out.cell 2
  go_wp2_with fail
  clear hb0 hb1 hc_b10 hc_b11 hc_b12
  have HX := Lib.hid (HX.out.next (below_drewN _ 1))
  have HBb1 := Lib.hid (HBb1.out.below (below_drewN _ 1))
  have HMid := Lib.hid (HMid.out.trans ((below_drewN _ 1).mono HMid.out.size))
  refine wp_region_noPanic ?_
  refine wp_region_held_drew (S := fun w' => Boxed w.heap.size n g w w' ∧ w'.cell? ⟨w.heap.size, 0, none⟩ = some (.int .i64 n) ∧ w'.cell? ⟨w.heap.size, 1, none⟩ = some (.bool g) ∧ Blk w' (w.heap.size + 1) #[.int .i64 c1.s, .int .i64 c1.r, .int .i64 c1.f] 35 ∧ w'.cell? ⟨w.heap.size + 1, 0, none⟩ = some (.int .i64 c1.s) ∧ w'.cell? ⟨w.heap.size + 1, 1, none⟩ = some (.int .i64 c1.r) ∧ w'.cell? ⟨w.heap.size + 1, 2, none⟩ = some (.int .i64 c1.f)) (by kernel_rfl) (⟨HX.out, HX.out.c0, HX.out.c1, HBb1.out, HBb1.out.cell 0, HBb1.out.cell 1, HBb1.out.cell 2⟩) (fun hHeld => ?_)
  refine wpAnyH_take (i := 0) (oi := _) (v := ?_) rfl (by kernel_rfl) (by kernel_rfl) (by kernel_rfl) (fun _ _ _ h => h) (Or.inl ⟨by rfl, ?_⟩) (by assumption) ?_
  rotate_left
  · (intro w hSw; (try dsimp only at hSw); (first | (go_simp; done) | (go_simp; with_reducible rfl)))
  simp only [Act.put, List.getElem_toArray, List.getElem_cons_succ, List.getElem_cons_zero, List.setIfInBounds_toArray, List.set_cons_zero, List.set_cons_succ]
  refine wpAnyH_take (i := 2) (oi := _) (v := ?_) rfl (by kernel_rfl) (by kernel_rfl) (by kernel_rfl) (fun _ _ _ h => h) (Or.inl ⟨by rfl, ?_⟩) (by assumption) ?_
  rotate_left
  · (intro w hSw; (try dsimp only at hSw); (first | (go_simp; done) | (go_simp; with_reducible rfl)))
  simp only [Act.put, List.getElem_toArray, List.getElem_cons_succ, List.getElem_cons_zero, List.setIfInBounds_toArray, List.set_cons_zero, List.set_cons_succ]
  refine wpAnyH_take (i := 4) (oi := _) (v := ?_) rfl (by kernel_rfl) (by kernel_rfl) (by kernel_rfl) (fun _ _ _ h => h) (Or.inl ⟨by rfl, ?_⟩) (by assumption) ?_
  rotate_left
  · (intro w hSw; (try dsimp only at hSw); (first | (go_simp; done) | (go_simp; with_reducible rfl)))
  simp only [Act.put, List.getElem_toArray, List.getElem_cons_succ, List.getElem_cons_zero, List.setIfInBounds_toArray, List.set_cons_zero, List.set_cons_succ]
  refine wpAnyH_ready (rs := [1]) (by kernel_rfl) (by simp) ?_
  refine AllReadyH.cons rfl (fun K hK => ?_) AllReadyH.nil
  go_simp
  refine (HT.out _).mono ?_
  rintro e w5 ⟨rfl, hb⟩
  have HX := Lib.hid (HX.out.next hb)
  have HBb1 := Lib.hid (HBb1.out.below hb)
  have HMid := Lib.hid (HMid.out.trans (hb.mono HMid.out.size))
  have HZw5 : Hid (w4.heap.size ≤ w5.heap.size) := Lib.hid (hb.size)
  clear hb
  clear hHeld
  go_wp2_with fail
  refine hK.out _ _ (⟨HX.out, HX.out.c0, HX.out.c1, HBb1.out, HBb1.out.cell 0, HBb1.out.cell 1, HBb1.out.cell 2⟩) (fun hHeld => ?_)
  clear hK K
  refine wpAnyH_ready (rs := [3]) (by kernel_rfl) (by simp) ?_
  refine AllReadyH.cons rfl (fun K hK => ?_) AllReadyH.nil
  go_simp
  refine (toC_any c1 _).mono ?_
  rintro e w6 ⟨rfl, hb⟩
  have HX := Lib.hid (HX.out.next hb)
  have HBb1 := Lib.hid (HBb1.out.below hb)
  have HMid := Lib.hid (HMid.out.trans (hb.mono HMid.out.size))
  have HZw6 : Hid (w5.heap.size ≤ w6.heap.size) := Lib.hid (hb.size)
  clear hb
  clear hHeld
  go_wp2_with fail
  refine hK.out _ _ (⟨HX.out, HX.out.c0, HX.out.c1, HBb1.out, HBb1.out.cell 0, HBb1.out.cell 1, HBb1.out.cell 2⟩) (fun hHeld => ?_)
  clear hK K
  refine wpAnyH_ready (rs := [5]) (by kernel_rfl) (by simp) ?_
  refine AllReadyH.cons rfl (fun K hK => ?_) AllReadyH.nil
  go_simp
  refine (HI.out _).mono ?_
  rintro e w7 ⟨rfl, hb⟩
  have HX := Lib.hid (HX.out.next hb)
  have HBb1 := Lib.hid (HBb1.out.below hb)
  have HMid := Lib.hid (HMid.out.trans (hb.mono HMid.out.size))
  have HZw7 : Hid (w6.heap.size ≤ w7.heap.size) := Lib.hid (hb.size)
  clear hb
  clear hHeld
  go_wp2_with fail
  refine hK.out _ _ (⟨HX.out, HX.out.c0, HX.out.c1, HBb1.out, HBb1.out.cell 0, HBb1.out.cell 1, HBb1.out.cell 2⟩) (fun hHeld => ?_)
  clear hK K
  refine wpAnyH_take (i := 6) (oi := _) (v := ?_) rfl (by kernel_rfl) (by kernel_rfl) (by kernel_rfl) (fun _ _ _ h => h) (Or.inl ⟨by rfl, ?_⟩) (by assumption) ?_
  rotate_left
  · (intro w hSw; (try dsimp only at hSw); (first | (go_simp; done) | (go_simp; with_reducible rfl)))
  simp only [Act.put, List.getElem_toArray, List.getElem_cons_succ, List.getElem_cons_zero, List.setIfInBounds_toArray, List.set_cons_zero, List.set_cons_succ]
  refine wpAnyH_take (i := 7) (oi := _) (v := ?_) rfl (by kernel_rfl) (by kernel_rfl) (by kernel_rfl) (fun _ _ _ h => h) (Or.inl ⟨by rfl, ?_⟩) (by assumption) ?_
  rotate_left
  · (intro w hSw; (try dsimp only at hSw); (first | (go_simp; done) | (go_simp; with_reducible rfl)))
  simp only [Act.put, List.getElem_toArray, List.getElem_cons_succ, List.getElem_cons_zero, List.setIfInBounds_toArray, List.set_cons_zero, List.set_cons_succ]
  refine wpAnyH_take (i := 8) (oi := _) (v := ?_) rfl (by kernel_rfl) (by kernel_rfl) (by kernel_rfl) (fun _ _ _ h => h) (Or.inl ⟨by rfl, ?_⟩) (by assumption) ?_
  rotate_left
  · (intro w hSw; (try dsimp only at hSw); (first | (go_simp; done) | (go_simp; with_reducible rfl)))
  simp only [Act.put, List.getElem_toArray, List.getElem_cons_succ, List.getElem_cons_zero, List.setIfInBounds_toArray, List.set_cons_zero, List.set_cons_succ]
  refine wpAnyH_take (i := 9) (oi := _) (v := ?_) rfl (by kernel_rfl) (by kernel_rfl) (by kernel_rfl) (fun _ _ _ h => h) (Or.inl ⟨by rfl, ?_⟩) (by assumption) ?_
  rotate_left
  · (intro w hSw; (try dsimp only at hSw); (first | (go_simp; done) | (go_simp; with_reducible rfl)))
  simp only [Act.put, List.getElem_toArray, List.getElem_cons_succ, List.getElem_cons_zero, List.setIfInBounds_toArray, List.set_cons_zero, List.set_cons_succ]
  refine wpAnyH_take (i := 10) (oi := _) (v := ?_) rfl (by kernel_rfl) (by kernel_rfl) (by kernel_rfl) (fun _ _ _ h => h) (Or.inl ⟨by rfl, ?_⟩) (by assumption) ?_
  rotate_left
  · (intro w hSw; (try dsimp only at hSw); (first | (go_simp; done) | (go_simp; with_reducible rfl)))
  simp only [Act.put, List.getElem_toArray, List.getElem_cons_succ, List.getElem_cons_zero, List.setIfInBounds_toArray, List.set_cons_zero, List.set_cons_succ]
  refine wpAnyH_done (by kernel_rfl) ?_ _
  refine NoPanic.normal ?_
  clear hHeld
  cases b
  all_goals
    go_wp2_with fail
    go_ret
    exact ⟨rfl, HX.out.below⟩

theorem walk (n : Int) (g : Bool) (c1 : Cr) (a2 : Int) (w : World) (ha2 : -9223372036854775808 ≤ a2 ∧ a2 ≤ 9223372036854775807) :
    Calls Try.prog 4 #[rd n g, crv c1, .int .i64 a2] w fun e w' => e = .returned (.bool true) ∧ Below w.heap.size w w' := by
  · skip
    exact law_two n g c1 a2 ((lendR n g c1 a2)).1 ((lendR n g c1 a2)).2 w  (fun  w  => spec_LegEnd n g c1 a2 w ) (fun  w  => impl_LegEnd n g c1 a2 w )
end Go.Proofs.Ytgchodielkodeaa.fnExactLegEnd
