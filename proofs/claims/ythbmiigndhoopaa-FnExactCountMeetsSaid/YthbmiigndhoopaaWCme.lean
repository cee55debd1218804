/-
  What is proved: the walk of the law FnExactCountMeets: for every input impl.CountMeets answers as the model does, its arguments read as before, and its answer is memory of its own. Conditions: none beyond the row's own.
-/
import Derived.Test.YthbmiigndhoopaaLve
import Derived.Test.YthbmiigndhoopaaLwa
namespace Go.Proofs.Ythbmiigndhoopaa.fnExactCountMeets
open Go.RowKit
set_option linter.unusedVariables false
set_option linter.unusedSimpArgs false

set_option maxHeartbeats 3200000 in
set_option maxRecDepth 20000 in
theorem law_two (L0 : Int) (v0 u0 : Value) (ps0 ds0 : List Int) (z : Int) (b : Bool) (w : World) (hv0 : ReadsI w v0 ps0) (hu0 : ReadsI w u0 ds0) (hn0 : ps0.length + ds0.length ≤ 1048576)
    (hm : ∀ (x0 y0 : Value) (w : World), ReadsI w x0 ps0 → ReadsI w y0 ds0 → Calls Try.prog 53 #[wrV L0 x0 y0] w fun e w' => e = .returned (.tuple #[.int .i64 z, .bool b]) ∧ Below w.heap.size w w')
    (hi : ∀ (x0 y0 : Value) (w : World), ReadsI w x0 ps0 → ReadsI w y0 ds0 → Calls Try.prog 54 #[wrV L0 x0 y0] w fun e w' => e = .returned (.tuple #[.int .i64 z, .bool b]) ∧ Below w.heap.size w w') :
    Calls Try.prog 16 #[wrV L0 v0 u0] w fun e w' => e = .returned (.bool true) ∧ Below w.heap.size w w' := by
  have HM := Lib.hid hm
  have HI := Lib.hid hi
  have HV0 := Lib.hid hv0
  have HU0 := Lib.hid hu0
  obtain ⟨yv0, cv0, hvv0, _⟩ := hv0
  subst hvv0
  obtain ⟨yu0, cu0, huu0, _⟩ := hu0
  subst huu0
  clear hm hi
  have HX := Lib.hid (Kept.first w)
  have HX := Lib.hid (HX.out.next (below_new _ (.cells #[.int .i64 L0, (.slice yv0 ps0.length cv0), (.slice yu0 ds0.length cu0)] 36)))
  have HBb1 := Lib.hid (blk_at w #[.int .i64 L0, (.slice yv0 ps0.length cv0), (.slice yu0 ds0.length cu0)] 36 (w.heap.size) (by simp))
  unfold wrV at *
  go_enter Try.func16, Try.ntmps16
  go_wp2_with fail
  have HZw1 : Hid (w.heap.size + 1 ≤ (w.alloc (.cells #[.int .i64 L0, (.slice yv0 ps0.length cv0), (.slice yu0 ds0.length cu0)] 36)).heap.size) := Lib.hid (by simp)
  generalize (w.alloc (.cells #[.int .i64 L0, (.slice yv0 ps0.length cv0), (.slice yu0 ds0.length cu0)] 36)) = w1 at *
  have hc_b10 := HBb1.out.cell 0
  have hc_b11 := HBb1.out.cell 1
  have hc_b12 := HBb1.out.cell 2
  refine (szWr_yes L0 (.slice yv0 ps0.length cv0) (.slice yu0 ds0.length cu0) ps0 ds0 (1048576) _ (HV0.out.below HX.out.below) (HU0.out.below HX.out.below) (by omega) (by omega)).mono ?_
  rintro e w2 ⟨rfl, hb⟩
  clear hc_b10 hc_b11 hc_b12
  have HX := Lib.hid (HX.out.next hb)
  have HBb1 := Lib.hid (HBb1.out.below hb)
  have HZw2 : Hid (w1.heap.size ≤ w2.heap.size) := Lib.hid (hb.size)
  clear hb
  have hc_b10 := HBb1.out.cell 0
  have hc_b11 := HBb1.out.cell 1
  have hc_b12 := HBb1.out.cell 2
  go_wp2_with fail
  refine (toWr_any L0 (.slice yv0 ps0.length cv0) (.slice yu0 ds0.length cu0) ps0 ds0 _ (HV0.out.below HX.out.below) (HU0.out.below HX.out.below) hn0).mono ?_
  rintro e w3 ⟨x2, yx2, rfl, ho, hb⟩
  clear hc_b10 hc_b11 hc_b12
  have HX := Lib.hid (HX.out.next hb)
  have HBb1 := Lib.hid (HBb1.out.below hb)
  have HZw3 : Hid (w2.heap.size ≤ w3.heap.size) := Lib.hid (hb.size)
  obtain ⟨⟨ax2, cx2, hsx2⟩, ⟨ayx2, cyx2, hsyx2⟩⟩ := ho.shape
  subst hsx2 hsyx2
  have HOx2 := Lib.hid ho
  clear ho
  clear hb
  have hc_b10 := HBb1.out.cell 0
  have hc_b11 := HBb1.out.cell 1
  have hc_b12 := HBb1.out.cell 2
  go_wp2_with fail
  refine (HM.out (.slice ax2 ps0.length cx2) (.slice ayx2 ds0.length cyx2) _ (HOx2.out.readsP hn0) (HOx2.out.readsD hn0)).mono ?_
  rintro e w4 ⟨rfl, hb⟩
  clear hc_b10 hc_b11 hc_b12
  have HX := Lib.hid (HX.out.next hb)
  have HBb1 := Lib.hid (HBb1.out.below hb)
  have HOx2 := Lib.hid (HOx2.out.below hb)
  have HZw4 : Hid (w3.heap.size ≤ w4.heap.size) := Lib.hid (hb.size)
  clear hb
  have HMid : Hid (Below w4.heap.size w4 w4) := Lib.hid (Below.refl _ _)
  have HXm := Lib.hid HX.out.size
  clear HOx2
  have hc_b10 := HBb1.out.cell 0
  have hc_b11 := HBb1.out.cell 1
  have hc_b12 := HBb1.out.cell 2
  go_wp2_with fail
  refine (toWr_any L0 (.slice yv0 ps0.length cv0) (.slice yu0 ds0.length cu0) ps0 ds0 _ (HV0.out.below HX.out.below) (HU0.out.below HX.out.below) hn0).mono ?_
  rintro e w5 ⟨x3, yx3, rfl, ho, hb⟩
  clear hc_b10 hc_b11 hc_b12
  have HX := Lib.hid (HX.out.next hb)
  have HBb1 := Lib.hid (HBb1.out.below hb)
  have HMid := Lib.hid (HMid.out.trans (hb.mono HMid.out.size))
  have HZw5 : Hid (w4.heap.size ≤ w5.heap.size) := Lib.hid (hb.size)
  obtain ⟨⟨ax3, cx3, hsx3⟩, ⟨ayx3, cyx3, hsyx3⟩⟩ := ho.shape
  subst hsx3 hsyx3
  have HOx3 := Lib.hid ho
  clear ho
  clear hb
  have HX := Lib.hid (HX.out.next (below_new w5 (.cells #[.int .i64 L0, (.slice ax3 ps0.length cx3), (.slice ayx3 ds0.length cyx3)] 39)))
  have HBb1 := Lib.hid (HBb1.out.below (below_new w5 (.cells #[.int .i64 L0, (.slice ax3 ps0.length cx3), (.slice ayx3 ds0.length cyx3)] 39)))
  have HOx3 := Lib.hid (HOx3.out.below (below_new w5 (.cells #[.int .i64 L0, (.slice ax3 ps0.length cx3), (.slice ayx3 ds0.length cyx3)] 39)))
  have HMid := Lib.hid (HMid.out.trans ((below_new w5 (.cells #[.int .i64 L0, (.slice ax3 ps0.length cx3), (.slice ayx3 ds0.length cyx3)] 39)).mono HMid.out.size))
  have HBb4 := Lib.hid (blk_new w5 #[.int .i64 L0, (.slice ax3 ps0.length cx3), (.slice ayx3 ds0.length cyx3)] 39)
  have HZw6 : Hid (w5.heap.size < (w5.alloc (.cells #[.int .i64 L0, (.slice ax3 ps0.length cx3), (.slice ayx3 ds0.length cyx3)] 39)).heap.size) := Lib.hid (by simp)
  have hc_b10 := HBb1.out.cell 0
  have hc_b11 := HBb1.out.cell 1
  have hc_b12 := HBb1.out.cell 2
  have hc_b40 := HBb4.out.cell 0
  have hc_b41 := HBb4.out.cell 1
  have hc_b42 := HBb4.out.cell 2
  go_wp2_with fail
  generalize w5.alloc (.cells #[.int .i64 L0, (.slice ax3 ps0.length cx3), (.slice ayx3 ds0.length cyx3)] 39) = w6 at *
  refine (HI.out (.slice ax3 ps0.length cx3) (.slice ayx3 ds0.length cyx3) _ (HOx3.out.readsP hn0) (HOx3.out.readsD hn0)).mono ?_
  rintro e w7 ⟨rfl, hb⟩
  clear hc_b10 hc_b11 hc_b12 hc_b40 hc_b41 hc_b42
  have HX := Lib.hid (HX.out.next hb)
  have HBb1 := Lib.hid (HBb1.out.below hb)
  have HBb4 := Lib.hid (HBb4.out.below hb)
  have HOx3 := Lib.hid (HOx3.out.below hb)
  have HMid := Lib.hid (HMid.out.trans (hb.mono HMid.out.size))
  have HZw7 : Hid (w6.heap.size ≤ w7.heap.size) := Lib.hid (hb.size)
  clear hb
  cases b
  all_goals
    have hc_b10 := HBb1.out.cell 0
    have hc_b11 := HBb1.out.cell 1
    have hc_b12 := HBb1.out.cell 2
    have hc_b40 := HBb4.out.cell 0
    have hc_b41 := HBb4.out.cell 1
    have hc_b42 := HBb4.out.cell 2
    go_wp2_with fail
    clear hc_b10 hc_b11 hc_b12 hc_b40 hc_b41 hc_b42
    have HX := Lib.hid (HX.out.next (below_drewN _ 1))
    have HBb1 := Lib.hid (HBb1.out.below (below_drewN _ 1))
    have HBb4 := Lib.hid (HBb4.out.below (below_drewN _ 1))
    have HOx3 := Lib.hid (HOx3.out.below (below_drewN _ 1))
    have HMid := Lib.hid (HMid.out.trans ((below_drewN _ 1).mono HMid.out.size))
    refine wp_region_noPanic ?_
    refine wp_region_held_drew (S := fun w' => Kept w.heap.size w w' ∧ Blk w' (w.heap.size) #[.int .i64 L0, (.slice yv0 ps0.length cv0), (.slice yu0 ds0.length cu0)] 36 ∧ w'.cell? ⟨w.heap.size, 0, none⟩ = some (.int .i64 L0) ∧ w'.cell? ⟨w.heap.size, 1, none⟩ = some ((.slice yv0 ps0.length cv0)) ∧ w'.cell? ⟨w.heap.size, 2, none⟩ = some ((.slice yu0 ds0.length cu0)) ∧ Blk w' (w5.heap.size) #[.int .i64 L0, (.slice ax3 ps0.length cx3), (.slice ayx3 ds0.length cyx3)] 39 ∧ w'.cell? ⟨w5.heap.size, 0, none⟩ = some (.int .i64 L0) ∧ w'.cell? ⟨w5.heap.size, 1, none⟩ = some ((.slice ax3 ps0.length cx3)) ∧ w'.cell? ⟨w5.heap.size, 2, none⟩ = some ((.slice ayx3 ds0.length cyx3))) (by kernel_rfl) (⟨HX.out, HBb1.out, HBb1.out.cell 0, HBb1.out.cell 1, HBb1.out.cell 2, HBb4.out, HBb4.out.cell 0, HBb4.out.cell 1, HBb4.out.cell 2⟩) (fun hHeld => ?_)
    refine wpAnyH_take (i := 0) (oi := _) (v := ?_) rfl (by kernel_rfl) (by kernel_rfl) (by kernel_rfl) (fun _ _ _ h => h) (Or.inl ⟨by rfl, ?_⟩) (by assumption) ?_
    rotate_left
    · (intro w hSw; (try dsimp only at hSw); (first | (go_simp; done) | (go_simp; with_reducible rfl)))
    simp only [Act.put, List.getElem_toArray, List.getElem_cons_succ, List.getElem_cons_zero, List.setIfInBounds_toArray, List.set_cons_zero, List.set_cons_succ]
    refine wpAnyH_take (i := 1) (oi := _) (v := ?_) rfl (by kernel_rfl) (by kernel_rfl) (by kernel_rfl) (fun _ _ _ h => h) (Or.inl ⟨by rfl, ?_⟩) (by assumption) ?_
    rotate_left
    · (intro w hSw; (try dsimp only at hSw); (first | (go_simp; done) | (go_simp; with_reducible rfl)))
    simp only [Act.put, List.getElem_toArray, List.getElem_cons_succ, List.getElem_cons_zero, List.setIfInBounds_toArray, List.set_cons_zero, List.set_cons_succ]
    refine wpAnyH_ready (rs := [2]) (by kernel_rfl) (by simp) ?_
    refine AllReadyH.cons rfl (fun K hK => ?_) AllReadyH.nil
    go_simp
    refine (toWr_any L0 (.slice yv0 ps0.length cv0) (.slice yu0 ds0.length cu0) ps0 ds0 _ (HV0.out.below HX.out.below) (HU0.out.below HX.out.below) hn0).mono ?_
    rintro e w8 ⟨x5, yx5, rfl, ho, hb⟩
    have HX := Lib.hid (HX.out.next hb)
    have HBb1 := Lib.hid (HBb1.out.below hb)
    have HBb4 := Lib.hid (HBb4.out.below hb)
    have HOx3 := Lib.hid (HOx3.out.below hb)
    have HMid := Lib.hid (HMid.out.trans (hb.mono HMid.out.size))
    have HZw8 : Hid (w7.heap.size ≤ w8.heap.size) := Lib.hid (hb.size)
    obtain ⟨⟨ax5, cx5, hsx5⟩, ⟨ayx5, cyx5, hsyx5⟩⟩ := ho.shape
    subst hsx5 hsyx5
    have HOx5 := Lib.hid ho
    clear ho
    clear hb
    clear hHeld
    go_wp2_with fail
    refine hK.out _ _ (⟨HX.out, HBb1.out, HBb1.out.cell 0, HBb1.out.cell 1, HBb1.out.cell 2, HBb4.out, HBb4.out.cell 0, HBb4.out.cell 1, HBb4.out.cell 2⟩) (fun hHeld => ?_)
    clear hK K
    refine wpAnyH_ready (rs := [3]) (by kernel_rfl) (by simp) ?_
    refine AllReadyH.cons rfl (fun K hK => ?_) AllReadyH.nil
    go_simp
    refine (eqWr_any L0 (.slice ax3 ps0.length cx3) (.slice ayx3 ds0.length cyx3) (.slice ax5 ps0.length cx5) (.slice ayx5 ds0.length cyx5) ps0 ds0 _ (HOx3.out.readsP hn0) (HOx3.out.readsD hn0) (HOx5.out.readsP hn0) (HOx5.out.readsD hn0)).mono ?_
    rintro e w9 ⟨rfl, hb⟩
    have HX := Lib.hid (HX.out.next hb)
    have HBb1 := Lib.hid (HBb1.out.below hb)
    have HBb4 := Lib.hid (HBb4.out.below hb)
    have HOx3 := Lib.hid (HOx3.out.below hb)
    have HOx5 := Lib.hid (HOx5.out.below hb)
    have HMid := Lib.hid (HMid.out.trans (hb.mono HMid.out.size))
    have HZw9 : Hid (w8.heap.size ≤ w9.heap.size) := Lib.hid (hb.size)
    clear hb
    clear hHeld
    go_wp2_with fail
    refine hK.out _ _ (⟨HX.out, HBb1.out, HBb1.out.cell 0, HBb1.out.cell 1, HBb1.out.cell 2, HBb4.out, HBb4.out.cell 0, HBb4.out.cell 1, HBb4.out.cell 2⟩) (fun hHeld => ?_)
    clear hK K
    refine wpAnyH_take (i := 4) (oi := _) (v := ?_) rfl (by kernel_rfl) (by kernel_rfl) (by kernel_rfl) (fun _ _ _ h => h) (Or.inl ⟨by rfl, ?_⟩) (by assumption) ?_
    rotate_left
    · (intro w hSw; (try dsimp only at hSw); (first | (go_simp; done) | (go_simp; with_reducible rfl)))
    simp only [Act.put, List.getElem_toArray, List.getElem_cons_succ, List.getElem_cons_zero, List.setIfInBounds_toArray, List.set_cons_zero, List.set_cons_succ]
    refine wpAnyH_done (by kernel_rfl) ?_ _
    refine NoPanic.normal ?_
    clear hHeld
    clear HOx5
    go_wp2_with fail
    go_ret
    exact ⟨rfl, HX.out.below⟩
set_option maxHeartbeats 800000 in
theorem law_long (L0 : Int) (v0 u0 : Value) (ps0 ds0 : List Int) (w : World) (hv0 : ReadsI w v0 ps0) (hu0 : ReadsI w u0 ds0) (hlong : 1048576 < ps0.length + ds0.length) :
    Calls Try.prog 16 #[wrV L0 v0 u0] w fun e w' => e = .returned (.bool true) ∧ Below w.heap.size w w' := by
  have HN := Lib.hid (fun w h1 h2 => szWr_no L0 v0 u0 ps0 ds0 1048576 w h1 h2 (by omega) hlong)
  have HX := Lib.hid (below_new w (.cells (wrC L0 v0 u0) 36))
  have HBX := Lib.hid (blk_new w (wrC L0 v0 u0) 36)
  have HV := Lib.hid (hv0.below HX.out)
  have HU := Lib.hid (hu0.below HX.out)
  obtain ⟨ya, yc, rfl, _⟩ := hv0
  obtain ⟨za, zc, rfl, _⟩ := hu0
  generalize hpl : ps0.length = pl at *
  generalize hdl : ds0.length = dl at *
  clear hpl hdl
  unfold wrV wrC at *
  go_enter Try.func16, Try.ntmps16
  go_wp2_with fail
  refine (HN.out _ HV.out HU.out).mono ?_
  rintro e w2 ⟨rfl, hb⟩
  have HX := Lib.hid (HX.out.trans (hb.mono HX.out.size))
  clear hb
  go_wp2_with fail
  go_ret
  exact ⟨rfl, HX.out⟩

theorem walk (L0 : Int) (v0 u0 : Value) (ps0 ds0 : List Int) (w : World) (hv0 : ReadsI w v0 ps0) (hu0 : ReadsI w u0 ds0) :
    Calls Try.prog 16 #[wrV L0 v0 u0] w fun e w' => e = .returned (.bool true) ∧ Below w.heap.size w w' := by
  by_cases h : 1048576 < ps0.length + ds0.length
  · exact law_long L0 v0 u0 ps0 ds0 w hv0 hu0 h
  · exact law_two L0 v0 u0 ps0 ds0 ((meetsR L0 ps0 ds0)).1 ((meetsR L0 ps0 ds0)).2 w hv0 hu0 (by omega) (fun x y w h1 h2 => spec_CountMeets L0 x y ps0 ds0 w h1 h2) (fun x y w h1 h2 => impl_CountMeets L0 x y ps0 ds0 w h1 h2)
end Go.Proofs.Ythbmiigndhoopaa.fnExactCountMeets
