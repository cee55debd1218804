/-
  What is proved: the walk of the law FnExactBeadsAt: for every input impl.BeadsAt answers as the model does, its arguments read as before, and its answer is memory of its own. Conditions: none beyond the row's own.
-/
import Derived.Test.YthbmiigndhoopaaLwa
import Derived.Test.YthbmiigndhoopaaLvq
namespace Go.Proofs.Ythbmiigndhoopaa.fnExactBeadsAt
open Go.RowKit
set_option linter.unusedVariables false
set_option linter.unusedSimpArgs false

set_option maxHeartbeats 3200000 in
set_option maxRecDepth 20000 in
theorem law_two (L0 : Int) (v0 u0 : Value) (ps0 ds0 : List Int) (a1 : Int) (zs ys : List Int) (b : Bool) (hz : zs.length + ys.length ≤ 1048576) (w : World) (hv0 : ReadsI w v0 ps0) (hu0 : ReadsI w u0 ds0) (hn0 : ps0.length + ds0.length ≤ 1048576)
    (hm : ∀ (x0 y0 : Value) (w : World), ReadsI w x0 ps0 → ReadsI w y0 ds0 → Calls Try.prog 55 #[wrV L0 x0 y0, .int .i64 a1] w (OwnsLL w.heap.size zs ys b w))
    (hi : ∀ (x0 y0 : Value) (w : World), ReadsI w x0 ps0 → ReadsI w y0 ds0 → Calls Try.prog 56 #[wrV L0 x0 y0, .int .i64 a1] w (OwnsLL w.heap.size zs ys b w)) :
    Calls Try.prog 17 #[wrV L0 v0 u0, .int .i64 a1] w fun e w' => e = .returned (.bool true) ∧ Below w.heap.size w w' := by
  have HM := Lib.hid hm
  have HI := Lib.hid hi
  have Hnzs : Hid (zs.length ≤ maxLen) := Lib.hid (by unfold maxLen; omega)
  have Hnys : Hid (ys.length ≤ maxLen) := Lib.hid (by unfold maxLen; omega)
  have Hbzs : Hid (zs.length ≤ 1048576) := Lib.hid (by omega)
  have Hbys : Hid (ys.length ≤ 1048576) := Lib.hid (by omega)
  have HV0 := Lib.hid hv0
  have HU0 := Lib.hid hu0
  obtain ⟨yv0, cv0, hvv0, _⟩ := hv0
  subst hvv0
  obtain ⟨yu0, cu0, huu0, _⟩ := hu0
  subst huu0
  clear hm hi
  have HX := Lib.hid (Kept.first w)
  have HX := Lib.hid (HX.out.next (below_new _ (.cells #[.int .i64 L0, (.slice yv0 ps0.length cv0), (.slice yu0 ds0.length cu0)] 36)))
  have HBb1 := Lib.hid (blk_at w #[.int .i64 L0, (.slice yv0 ps0.length cv0), (.slice yu0 ds0.length cu0)] 36 (w.heap.size) (by simp))
  unfold wrV at *
  go_enter Try.func17, Try.ntmps17
  go_wp2_with fail
  have HZw1 : Hid (w.heap.size + 1 ≤ (w.alloc (.cells #[.int .i64 L0, (.slice yv0 ps0.length cv0), (.slice yu0 ds0.length cu0)] 36)).heap.size) := Lib.hid (by simp)
  generalize (w.alloc (.cells #[.int .i64 L0, (.slice yv0 ps0.length cv0), (.slice yu0 ds0.length cu0)] 36)) = w1 at *
  have hc_b10 := HBb1.out.cell 0
  have hc_b11 := HBb1.out.cell 1
  have hc_b12 := HBb1.out.cell 2
  refine (szWr_yes L0 (.slice yv0 ps0.length cv0) (.slice yu0 ds0.length cu0) ps0 ds0 (1048576) _ (HV0.out.below HX.out.below) (HU0.out.below HX.out.below) (by omega) (by omega)).mono ?_
  rintro e w2 ⟨rfl, hb⟩
  clear hc_b10 hc_b11 hc_b12
  have HX := Lib.hid (HX.out.next hb)
  have HBb1 := Lib.hid (HBb1.out.below hb)
  have HZw2 : Hid (w1.heap.size ≤ w2.heap.size) := Lib.hid (hb.size)
  clear hb
  have hc_b10 := HBb1.out.cell 0
  have hc_b11 := HBb1.out.cell 1
  have hc_b12 := HBb1.out.cell 2
  go_wp2_with fail
  refine (toWr_any L0 (.slice yv0 ps0.length cv0) (.slice yu0 ds0.length cu0) ps0 ds0 _ (HV0.out.below HX.out.below) (HU0.out.below HX.out.below) hn0).mono ?_
  rintro e w3 ⟨x2, yx2, rfl, ho, hb⟩
  clear hc_b10 hc_b11 hc_b12
  have HX := Lib.hid (HX.out.next hb)
  have HBb1 := Lib.hid (HBb1.out.below hb)
  have HZw3 : Hid (w2.heap.size ≤ w3.heap.size) := Lib.hid (hb.size)
  obtain ⟨⟨ax2, cx2, hsx2⟩, ⟨ayx2, cyx2, hsyx2⟩⟩ := ho.shape
  subst hsx2 hsyx2
  have HOx2 := Lib.hid ho
  clear ho
  clear hb
  have hc_b10 := HBb1.out.cell 0
  have hc_b11 := HBb1.out.cell 1
  have hc_b12 := HBb1.out.cell 2
  go_wp2_with fail
  refine (HM.out (.slice ax2 ps0.length cx2) (.slice ayx2 ds0.length cyx2) _ (HOx2.out.readsP hn0) (HOx2.out.readsD hn0)).mono ?_
  rintro e w4 ⟨g3, ug3, rfl, ho, hb⟩
  clear hc_b10 hc_b11 hc_b12
  have HX := Lib.hid (HX.out.next hb)
  have HBb1 := Lib.hid (HBb1.out.below hb)
  have HOx2 := Lib.hid (HOx2.out.below hb)
  have HZw4 : Hid (w3.heap.size ≤ w4.heap.size) := Lib.hid (hb.size)
  have HAPg3 := Lib.hid ho.apart
  have HAPug3 := Lib.hid (fun b e e2 => ho.apart b e2 e)
  have HRg3 : Hid (∀ b, g3.ownBlock = some b → w3.heap.size ≤ b ∧ b < w4.heap.size) := Lib.hid (fun b hb => ⟨(owns_block ho.pl b hb).1, ho.hp b hb⟩)
  have HOg3 := Lib.hid ho.pl
  have HRug3 : Hid (∀ b, ug3.ownBlock = some b → w3.heap.size ≤ b ∧ b < w4.heap.size) := Lib.hid (fun b hb => ⟨(owns_block ho.wy b hb).1, ho.hd b hb⟩)
  have HOug3 := Lib.hid ho.wy
  clear ho
  clear hb
  have HMid : Hid (Below w4.heap.size w4 w4) := Lib.hid (Below.refl _ _)
  have HXm := Lib.hid HX.out.size
  clear HOx2
  have hc_b10 := HBb1.out.cell 0
  have hc_b11 := HBb1.out.cell 1
  have hc_b12 := HBb1.out.cell 2
  go_wp2_with fail
  refine (toWr_any L0 (.slice yv0 ps0.length cv0) (.slice yu0 ds0.length cu0) ps0 ds0 _ (HV0.out.below HX.out.below) (HU0.out.below HX.out.below) hn0).mono ?_
  rintro e w5 ⟨x4, yx4, rfl, ho, hb⟩
  clear hc_b10 hc_b11 hc_b12
  have HX := Lib.hid (HX.out.next hb)
  have HBb1 := Lib.hid (HBb1.out.below hb)
  have HOg3 := Lib.hid (owns_below HOg3.out hb)
  have HOug3 := Lib.hid (owns_below HOug3.out hb)
  have HMid := Lib.hid (HMid.out.trans (hb.mono HMid.out.size))
  have HZw5 : Hid (w4.heap.size ≤ w5.heap.size) := Lib.hid (hb.size)
  obtain ⟨⟨ax4, cx4, hsx4⟩, ⟨ayx4, cyx4, hsyx4⟩⟩ := ho.shape
  subst hsx4 hsyx4
  have HOx4 := Lib.hid ho
  clear ho
  clear hb
  have HX := Lib.hid (HX.out.next (below_new w5 (.cells #[.int .i64 L0, (.slice ax4 ps0.length cx4), (.slice ayx4 ds0.length cyx4)] 39)))
  have HBb1 := Lib.hid (HBb1.out.below (below_new w5 (.cells #[.int .i64 L0, (.slice ax4 ps0.length cx4), (.slice ayx4 ds0.length cyx4)] 39)))
  have HOg3 := Lib.hid (owns_below HOg3.out (below_new w5 (.cells #[.int .i64 L0, (.slice ax4 ps0.length cx4), (.slice ayx4 ds0.length cyx4)] 39)))
  have HOug3 := Lib.hid (owns_below HOug3.out (below_new w5 (.cells #[.int .i64 L0, (.slice ax4 ps0.length cx4), (.slice ayx4 ds0.length cyx4)] 39)))
  have HOx4 := Lib.hid (HOx4.out.below (below_new w5 (.cells #[.int .i64 L0, (.slice ax4 ps0.length cx4), (.slice ayx4 ds0.length cyx4)] 39)))
  have HMid := Lib.hid (HMid.out.trans ((below_new w5 (.cells #[.int .i64 L0, (.slice ax4 ps0.length cx4), (.slice ayx4 ds0.length cyx4)] 39)).mono HMid.out.size))
  have HBb5 := Lib.hid (blk_new w5 #[.int .i64 L0, (.slice ax4 ps0.length cx4), (.slice ayx4 ds0.length cyx4)] 39)
  have HZw6 : Hid (w5.heap.size < (w5.alloc (.cells #[.int .i64 L0, (.slice ax4 ps0.length cx4), (.slice ayx4 ds0.length cyx4)] 39)).heap.size) := Lib.hid (by simp)
  have hc_b10 := HBb1.out.cell 0
  have hc_b11 := HBb1.out.cell 1
  have hc_b12 := HBb1.out.cell 2
  have hc_b50 := HBb5.out.cell 0
  have hc_b51 := HBb5.out.cell 1
  have hc_b52 := HBb5.out.cell 2
  go_wp2_with fail
  generalize w5.alloc (.cells #[.int .i64 L0, (.slice ax4 ps0.length cx4), (.slice ayx4 ds0.length cyx4)] 39) = w6 at *
  refine (HI.out (.slice ax4 ps0.length cx4) (.slice ayx4 ds0.length cyx4) _ (HOx4.out.readsP hn0) (HOx4.out.readsD hn0)).mono ?_
  rintro e w7 ⟨g6, ug6, rfl, ho, hb⟩
  clear hc_b10 hc_b11 hc_b12 hc_b50 hc_b51 hc_b52
  have HX := Lib.hid (HX.out.next hb)
  have HBb1 := Lib.hid (HBb1.out.below hb)
  have HBb5 := Lib.hid (HBb5.out.below hb)
  have HOg3 := Lib.hid (owns_below HOg3.out hb)
  have HOug3 := Lib.hid (owns_below HOug3.out hb)
  have HOx4 := Lib.hid (HOx4.out.below hb)
  have HMid := Lib.hid (HMid.out.trans (hb.mono HMid.out.size))
  have HZw7 : Hid (w6.heap.size ≤ w7.heap.size) := Lib.hid (hb.size)
  have HAPg6 := Lib.hid ho.apart
  have HAPug6 := Lib.hid (fun b e e2 => ho.apart b e2 e)
  have HRg6 : Hid (∀ b, g6.ownBlock = some b → w6.heap.size ≤ b ∧ b < w7.heap.size) := Lib.hid (fun b hb => ⟨(owns_block ho.pl b hb).1, ho.hp b hb⟩)
  have HOg6 := Lib.hid ho.pl
  have HRug6 : Hid (∀ b, ug6.ownBlock = some b → w6.heap.size ≤ b ∧ b < w7.heap.size) := Lib.hid (fun b hb => ⟨(owns_block ho.wy b hb).1, ho.hd b hb⟩)
  have HOug6 := Lib.hid ho.wy
  clear ho
  clear hb
  cases b
  all_goals
    have hc_b10 := HBb1.out.cell 0
    have hc_b11 := HBb1.out.cell 1
    have hc_b12 := HBb1.out.cell 2
    have hc_b50 := HBb5.out.cell 0
    have hc_b51 := HBb5.out.cell 1
    have hc_b52 := HBb5.out.cell 2
    go_wp2_with fail
    refine (eqI_below g6 g3 zs _ (owns_reads HOg6.out Hnzs.out) (owns_reads HOg3.out Hnzs.out)).mono ?_
    rintro e w8 ⟨rfl, hb⟩
    clear hc_b10 hc_b11 hc_b12 hc_b50 hc_b51 hc_b52
    have HX := Lib.hid (HX.out.next hb)
    have HBb1 := Lib.hid (HBb1.out.below hb)
    have HBb5 := Lib.hid (HBb5.out.below hb)
    have HOg3 := Lib.hid (owns_below HOg3.out hb)
    have HOug3 := Lib.hid (owns_below HOug3.out hb)
    have HOx4 := Lib.hid (HOx4.out.below hb)
    have HOg6 := Lib.hid (owns_below HOg6.out hb)
    have HOug6 := Lib.hid (owns_below HOug6.out hb)
    have HMid := Lib.hid (HMid.out.trans (hb.mono HMid.out.size))
    have HZw8 : Hid (w7.heap.size ≤ w8.heap.size) := Lib.hid (hb.size)
    clear hb
    have hc_b10 := HBb1.out.cell 0
    have hc_b11 := HBb1.out.cell 1
    have hc_b12 := HBb1.out.cell 2
    have hc_b50 := HBb5.out.cell 0
    have hc_b51 := HBb5.out.cell 1
    have hc_b52 := HBb5.out.cell 2
    go_wp2_with fail
    refine (eqI_below ug6 ug3 ys _ (owns_reads HOug6.out Hnys.out) (owns_reads HOug3.out Hnys.out)).mono ?_
    rintro e w9 ⟨rfl, hb⟩
    clear hc_b10 hc_b11 hc_b12 hc_b50 hc_b51 hc_b52
    have HX := Lib.hid (HX.out.next hb)
    have HBb1 := Lib.hid (HBb1.out.below hb)
    have HBb5 := Lib.hid (HBb5.out.below hb)
    have HOg3 := Lib.hid (owns_below HOg3.out hb)
    have HOug3 := Lib.hid (owns_below HOug3.out hb)
    have HOx4 := Lib.hid (HOx4.out.below hb)
    have HOg6 := Lib.hid (owns_below HOg6.out hb)
    have HOug6 := Lib.hid (owns_below HOug6.out hb)
    have HMid := Lib.hid (HMid.out.trans (hb.mono HMid.out.size))
    have HZw9 : Hid (w8.heap.size ≤ w9.heap.size) := Lib.hid (hb.size)
    clear hb
    have hc_b10 := HBb1.out.cell 0
    have hc_b11 := HBb1.out.cell 1
    have hc_b12 := HBb1.out.cell 2
    have hc_b50 := HBb5.out.cell 0
    have hc_b51 := HBb5.out.cell 1
    have hc_b52 := HBb5.out.cell 2
    go_wp2_with fail
    clear hc_b10 hc_b11 hc_b12 hc_b50 hc_b51 hc_b52
    have HX := Lib.hid (HX.out.next (below_drewN _ 1))
    have HBb1 := Lib.hid (HBb1.out.below (below_drewN _ 1))
    have HBb5 := Lib.hid (HBb5.out.below (below_drewN _ 1))
    have HOg3 := Lib.hid (owns_below HOg3.out (below_drewN _ 1))
    have HOug3 := Lib.hid (owns_below HOug3.out (below_drewN _ 1))
    have HOx4 := Lib.hid (HOx4.out.below (below_drewN _ 1))
    have HOg6 := Lib.hid (owns_below HOg6.out (below_drewN _ 1))
    have HOug6 := Lib.hid (owns_below HOug6.out (below_drewN _ 1))
    have HMid := Lib.hid (HMid.out.trans ((below_drewN _ 1).mono HMid.out.size))
    refine wp_region_noPanic ?_
    refine wp_region_held_drew (S := fun w' => Kept w.heap.size w w' ∧ Blk w' (w.heap.size) #[.int .i64 L0, (.slice yv0 ps0.length cv0), (.slice yu0 ds0.length cu0)] 36 ∧ w'.cell? ⟨w.heap.size, 0, none⟩ = some (.int .i64 L0) ∧ w'.cell? ⟨w.heap.size, 1, none⟩ = some ((.slice yv0 ps0.length cv0)) ∧ w'.cell? ⟨w.heap.size, 2, none⟩ = some ((.slice yu0 ds0.length cu0)) ∧ Blk w' (w5.heap.size) #[.int .i64 L0, (.slice ax4 ps0.length cx4), (.slice ayx4 ds0.length cyx4)] 39 ∧ w'.cell? ⟨w5.heap.size, 0, none⟩ = some (.int .i64 L0) ∧ w'.cell? ⟨w5.heap.size, 1, none⟩ = some ((.slice ax4 ps0.length cx4)) ∧ w'.cell? ⟨w5.heap.size, 2, none⟩ = some ((.slice ayx4 ds0.length cyx4))) (by kernel_rfl) (⟨HX.out, HBb1.out, HBb1.out.cell 0, HBb1.out.cell 1, HBb1.out.cell 2, HBb5.out, HBb5.out.cell 0, HBb5.out.cell 1, HBb5.out.cell 2⟩) (fun hHeld => ?_)
    refine wpAnyH_take (i := 0) (oi := _) (v := ?_) rfl (by kernel_rfl) (by kernel_rfl) (by kernel_rfl) (fun _ _ _ h => h) (Or.inl ⟨by rfl, ?_⟩) (by assumption) ?_
    rotate_left
    · (intro w hSw; (try dsimp only at hSw); (first | (go_simp; done) | (go_simp; with_reducible rfl)))
    simp only [Act.put, List.getElem_toArray, List.getElem_cons_succ, List.getElem_cons_zero, List.setIfInBounds_toArray, List.set_cons_zero, List.set_cons_succ]
    refine wpAnyH_take (i := 1) (oi := _) (v := ?_) rfl (by kernel_rfl) (by kernel_rfl) (by kernel_rfl) (fun _ _ _ h => h) (Or.inl ⟨by rfl, ?_⟩) (by assumption) ?_
    rotate_left
    · (intro w hSw; (try dsimp only at hSw); (first | (go_simp; done) | (go_simp; with_reducible rfl)))
    simp only [Act.put, List.getElem_toArray, List.getElem_cons_succ, List.getElem_cons_zero, List.setIfInBounds_toArray, List.set_cons_zero, List.set_cons_succ]
    refine wpAnyH_ready (rs := [2]) (by kernel_rfl) (by simp) ?_
    refine AllReadyH.cons rfl (fun K hK => ?_) AllReadyH.nil
    go_simp
    refine (toWr_any L0 (.slice yv0 ps0.length cv0) (.slice yu0 ds0.length cu0) ps0 ds0 _ (HV0.out.below HX.out.below) (HU0.out.below HX.out.below) hn0).mono ?_
    rintro e w10 ⟨x7, yx7, rfl, ho, hb⟩
    have HX := Lib.hid (HX.out.next hb)
    have HBb1 := Lib.hid (HBb1.out.below hb)
    have HBb5 := Lib.hid (HBb5.out.below hb)
    have HOg3 := Lib.hid (owns_below HOg3.out hb)
    have HOug3 := Lib.hid (owns_below HOug3.out hb)
    have HOx4 := Lib.hid (HOx4.out.below hb)
    have HOg6 := Lib.hid (owns_below HOg6.out hb)
    have HOug6 := Lib.hid (owns_below HOug6.out hb)
    have HMid := Lib.hid (HMid.out.trans (hb.mono HMid.out.size))
    have HZw10 : Hid (w9.heap.size ≤ w10.heap.size) := Lib.hid (hb.size)
    obtain ⟨⟨ax7, cx7, hsx7⟩, ⟨ayx7, cyx7, hsyx7⟩⟩ := ho.shape
    subst hsx7 hsyx7
    have HOx7 := Lib.hid ho
    clear ho
    clear hb
    clear hHeld
    go_wp2_with fail
    refine hK.out _ _ (⟨HX.out, HBb1.out, HBb1.out.cell 0, HBb1.out.cell 1, HBb1.out.cell 2, HBb5.out, HBb5.out.cell 0, HBb5.out.cell 1, HBb5.out.cell 2⟩) (fun hHeld => ?_)
    clear hK K
    refine wpAnyH_ready (rs := [3]) (by kernel_rfl) (by simp) ?_
    refine AllReadyH.cons rfl (fun K hK => ?_) AllReadyH.nil
    go_simp
    refine (eqWr_any L0 (.slice ax4 ps0.length cx4) (.slice ayx4 ds0.length cyx4) (.slice ax7 ps0.length cx7) (.slice ayx7 ds0.length cyx7) ps0 ds0 _ (HOx4.out.readsP hn0) (HOx4.out.readsD hn0) (HOx7.out.readsP hn0) (HOx7.out.readsD hn0)).mono ?_
    rintro e w11 ⟨rfl, hb⟩
    have HX := Lib.hid (HX.out.next hb)
    have HBb1 := Lib.hid (HBb1.out.below hb)
    have HBb5 := Lib.hid (HBb5.out.below hb)
    have HOg3 := Lib.hid (owns_below HOg3.out hb)
    have HOug3 := Lib.hid (owns_below HOug3.out hb)
    have HOx4 := Lib.hid (HOx4.out.below hb)
    have HOg6 := Lib.hid (owns_below HOg6.out hb)
    have HOug6 := Lib.hid (owns_below HOug6.out hb)
    have HOx7 := Lib.hid (HOx7.out.below hb)
    have HMid := Lib.hid (HMid.out.trans (hb.mono HMid.out.size))
    have HZw11 : Hid (w10.heap.size ≤ w11.heap.size) := Lib.hid (hb.size)
    clear hb
    clear hHeld
    go_wp2_with fail
    refine hK.out _ _ (⟨HX.out, HBb1.out, HBb1.out.cell 0, HBb1.out.cell 1, HBb1.out.cell 2, HBb5.out, HBb5.out.cell 0, HBb5.out.cell 1, HBb5.out.cell 2⟩) (fun hHeld => ?_)
    clear hK K
    refine wpAnyH_take (i := 4) (oi := _) (v := ?_) rfl (by kernel_rfl) (by kernel_rfl) (by kernel_rfl) (fun _ _ _ h => h) (Or.inl ⟨by rfl, ?_⟩) (by assumption) ?_
    rotate_left
    · (intro w hSw; (try dsimp only at hSw); (first | (go_simp; done) | (go_simp; with_reducible rfl)))
    simp only [Act.put, List.getElem_toArray, List.getElem_cons_succ, List.getElem_cons_zero, List.setIfInBounds_toArray, List.set_cons_zero, List.set_cons_succ]
    refine wpAnyH_done (by kernel_rfl) ?_ _
    refine NoPanic.normal ?_
    clear hHeld
    clear HOx7
    have hc_b10 := HBb1.out.cell 0
    have hc_b11 := HBb1.out.cell 1
    have hc_b12 := HBb1.out.cell 2
    have hc_b50 := HBb5.out.cell 0
    have hc_b51 := HBb5.out.cell 1
    have hc_b52 := HBb5.out.cell 2
    go_wp2_with fail
    refine (HOx4.out.mark (L := L0) (K := 1) hn0 (by omega)).mono ?_
    rintro e w12 ⟨rfl, hch, ho⟩
    clear hc_b10 hc_b11 hc_b12 hc_b50 hc_b51 hc_b52
    have hbM : Below w4.heap.size w11 w12 := hch.below (by have z0 := HZw1.out; have z1 := HZw2.out; have z2 := HZw3.out; have z3 := HZw4.out; have z4 := HZw5.out; have z5 := HZw6.out; have z6 := HZw7.out; have z7 := HZw8.out; have z8 := HZw9.out; have z9 := HZw10.out; have z10 := HZw11.out; omega) HMid.out.size
    have HX := Lib.hid (HX.out.nextAt HXm.out hbM)
    have HMid := Lib.hid (HMid.out.trans hbM)
    have HBb1 := Lib.hid (show Blk w12 (w.heap.size) #[.int .i64 L0, (.slice yv0 ps0.length cv0), (.slice yu0 ds0.length cu0)] 36 from (hch.block _ HBb1.out.lt (by have z0 := HZw1.out; have z1 := HZw2.out; have z2 := HZw3.out; have z3 := HZw4.out; have z4 := HZw5.out; have z5 := HZw6.out; have z6 := HZw7.out; have z7 := HZw8.out; have z8 := HZw9.out; have z9 := HZw10.out; have z10 := HZw11.out; omega)).trans HBb1.out)
    have HBb5 := Lib.hid (show Blk w12 (w5.heap.size) #[.int .i64 L0, (.slice ax4 ps0.length cx4), (.slice ayx4 ds0.length cyx4)] 39 from (hch.block _ HBb5.out.lt (by have z0 := HZw1.out; have z1 := HZw2.out; have z2 := HZw3.out; have z3 := HZw4.out; have z4 := HZw5.out; have z5 := HZw6.out; have z6 := HZw7.out; have z7 := HZw8.out; have z8 := HZw9.out; have z9 := HZw10.out; have z10 := HZw11.out; omega)).trans HBb5.out)
    have HOg3 := Lib.hid (row_chg HOg3.out hch (fun b h => by have l := HRg3.out b h; have z0 := HZw1.out; have z1 := HZw2.out; have z2 := HZw3.out; have z3 := HZw4.out; have z4 := HZw5.out; have z5 := HZw6.out; have z6 := HZw7.out; have z7 := HZw8.out; have z8 := HZw9.out; have z9 := HZw10.out; have z10 := HZw11.out; omega))
    have HOug3 := Lib.hid (row_chg HOug3.out hch (fun b h => by have l := HRug3.out b h; have z0 := HZw1.out; have z1 := HZw2.out; have z2 := HZw3.out; have z3 := HZw4.out; have z4 := HZw5.out; have z5 := HZw6.out; have z6 := HZw7.out; have z7 := HZw8.out; have z8 := HZw9.out; have z9 := HZw10.out; have z10 := HZw11.out; omega))
    have HOg6 := Lib.hid (row_chg HOg6.out hch (fun b h => by have l := HRg6.out b h; have z0 := HZw1.out; have z1 := HZw2.out; have z2 := HZw3.out; have z3 := HZw4.out; have z4 := HZw5.out; have z5 := HZw6.out; have z6 := HZw7.out; have z7 := HZw8.out; have z8 := HZw9.out; have z9 := HZw10.out; have z10 := HZw11.out; omega))
    have HOug6 := Lib.hid (row_chg HOug6.out hch (fun b h => by have l := HRug6.out b h; have z0 := HZw1.out; have z1 := HZw2.out; have z2 := HZw3.out; have z3 := HZw4.out; have z4 := HZw5.out; have z5 := HZw6.out; have z6 := HZw7.out; have z7 := HZw8.out; have z8 := HZw9.out; have z9 := HZw10.out; have z10 := HZw11.out; omega))
    have HOx4 := Lib.hid ho
    have HZw12 : Hid (w11.heap.size ≤ w12.heap.size) := Lib.hid hch.size
    clear hch ho hbM
    have hc_b10 := HBb1.out.cell 0
    have hc_b11 := HBb1.out.cell 1
    have hc_b12 := HBb1.out.cell 2
    have hc_b50 := HBb5.out.cell 0
    have hc_b51 := HBb5.out.cell 1
    have hc_b52 := HBb5.out.cell 2
    go_wp2_with fail
    refine (eqI_below g6 g3 zs _ (owns_reads HOg6.out Hnzs.out) (owns_reads HOg3.out Hnzs.out)).mono ?_
    rintro e w13 ⟨rfl, hb⟩
    clear hc_b10 hc_b11 hc_b12 hc_b50 hc_b51 hc_b52
    have HX := Lib.hid (HX.out.next hb)
    have HBb1 := Lib.hid (HBb1.out.below hb)
    have HBb5 := Lib.hid (HBb5.out.below hb)
    have HOg3 := Lib.hid (owns_below HOg3.out hb)
    have HOug3 := Lib.hid (owns_below HOug3.out hb)
    have HOx4 := Lib.hid (HOx4.out.below hb)
    have HOg6 := Lib.hid (owns_below HOg6.out hb)
    have HOug6 := Lib.hid (owns_below HOug6.out hb)
    have HMid := Lib.hid (HMid.out.trans (hb.mono HMid.out.size))
    have HZw13 : Hid (w12.heap.size ≤ w13.heap.size) := Lib.hid (hb.size)
    clear hb
    have hc_b10 := HBb1.out.cell 0
    have hc_b11 := HBb1.out.cell 1
    have hc_b12 := HBb1.out.cell 2
    have hc_b50 := HBb5.out.cell 0
    have hc_b51 := HBb5.out.cell 1
    have hc_b52 := HBb5.out.cell 2
    go_wp2_with fail
    refine (eqI_below ug6 ug3 ys _ (owns_reads HOug6.out Hnys.out) (owns_reads HOug3.out Hnys.out)).mono ?_
    rintro e w14 ⟨rfl, hb⟩
    clear hc_b10 hc_b11 hc_b12 hc_b50 hc_b51 hc_b52
    have HX := Lib.hid (HX.out.next hb)
    have HBb1 := Lib.hid (HBb1.out.below hb)
    have HBb5 := Lib.hid (HBb5.out.below hb)
    have HOg3 := Lib.hid (owns_below HOg3.out hb)
    have HOug3 := Lib.hid (owns_below HOug3.out hb)
    have HOx4 := Lib.hid (HOx4.out.below hb)
    have HOg6 := Lib.hid (owns_below HOg6.out hb)
    have HOug6 := Lib.hid (owns_below HOug6.out hb)
    have HMid := Lib.hid (HMid.out.trans (hb.mono HMid.out.size))
    have HZw14 : Hid (w13.heap.size ≤ w14.heap.size) := Lib.hid (hb.size)
    clear hb
    have hc_b10 := HBb1.out.cell 0
    have hc_b11 := HBb1.out.cell 1
    have hc_b12 := HBb1.out.cell 2
    have hc_b50 := HBb5.out.cell 0
    have hc_b51 := HBb5.out.cell 1
    have hc_b52 := HBb5.out.cell 2
    go_wp2_with fail
    refine (mark_list g6 zs _ (1) _ HOg6.out (Hbzs.out) (by omega)).mono ?_
    rintro e w15 ⟨rfl, hg, ho⟩
    clear hc_b10 hc_b11 hc_b12 hc_b50 hc_b51 hc_b52
    have hch : ChgIn (w6.heap.size) (w7.heap.size) w14 w15 := ChgIn.of_grown hg HRg6.out
    have hbM : Below w4.heap.size w14 w15 := hch.below (by have z0 := HZw1.out; have z1 := HZw2.out; have z2 := HZw3.out; have z3 := HZw4.out; have z4 := HZw5.out; have z5 := HZw6.out; have z6 := HZw7.out; have z7 := HZw8.out; have z8 := HZw9.out; have z9 := HZw10.out; have z10 := HZw11.out; have z11 := HZw12.out; have z12 := HZw13.out; have z13 := HZw14.out; omega) HMid.out.size
    have HX := Lib.hid (HX.out.nextAt HXm.out hbM)
    have HMid := Lib.hid (HMid.out.trans hbM)
    have HBb1 := Lib.hid (show Blk w15 (w.heap.size) #[.int .i64 L0, (.slice yv0 ps0.length cv0), (.slice yu0 ds0.length cu0)] 36 from (hch.block _ HBb1.out.lt (by have z0 := HZw1.out; have z1 := HZw2.out; have z2 := HZw3.out; have z3 := HZw4.out; have z4 := HZw5.out; have z5 := HZw6.out; have z6 := HZw7.out; have z7 := HZw8.out; have z8 := HZw9.out; have z9 := HZw10.out; have z10 := HZw11.out; have z11 := HZw12.out; have z12 := HZw13.out; have z13 := HZw14.out; omega)).trans HBb1.out)
    have HBb5 := Lib.hid (show Blk w15 (w5.heap.size) #[.int .i64 L0, (.slice ax4 ps0.length cx4), (.slice ayx4 ds0.length cyx4)] 39 from (hch.block _ HBb5.out.lt (by have z0 := HZw1.out; have z1 := HZw2.out; have z2 := HZw3.out; have z3 := HZw4.out; have z4 := HZw5.out; have z5 := HZw6.out; have z6 := HZw7.out; have z7 := HZw8.out; have z8 := HZw9.out; have z9 := HZw10.out; have z10 := HZw11.out; have z11 := HZw12.out; have z12 := HZw13.out; have z13 := HZw14.out; omega)).trans HBb5.out)
    have HOg3 := Lib.hid (row_chg HOg3.out hch (fun b h => by have l := HRg3.out b h; have z0 := HZw1.out; have z1 := HZw2.out; have z2 := HZw3.out; have z3 := HZw4.out; have z4 := HZw5.out; have z5 := HZw6.out; have z6 := HZw7.out; have z7 := HZw8.out; have z8 := HZw9.out; have z9 := HZw10.out; have z10 := HZw11.out; have z11 := HZw12.out; have z12 := HZw13.out; have z13 := HZw14.out; omega))
    have HOug3 := Lib.hid (row_chg HOug3.out hch (fun b h => by have l := HRug3.out b h; have z0 := HZw1.out; have z1 := HZw2.out; have z2 := HZw3.out; have z3 := HZw4.out; have z4 := HZw5.out; have z5 := HZw6.out; have z6 := HZw7.out; have z7 := HZw8.out; have z8 := HZw9.out; have z9 := HZw10.out; have z10 := HZw11.out; have z11 := HZw12.out; have z12 := HZw13.out; have z13 := HZw14.out; omega))
    have HOx4 := Lib.hid (HOx4.out.chg hch (by have z0 := HZw1.out; have z1 := HZw2.out; have z2 := HZw3.out; have z3 := HZw4.out; have z4 := HZw5.out; have z5 := HZw6.out; have z6 := HZw7.out; have z7 := HZw8.out; have z8 := HZw9.out; have z9 := HZw10.out; have z10 := HZw11.out; have z11 := HZw12.out; have z12 := HZw13.out; have z13 := HZw14.out; omega))
    have HOug6 := Lib.hid (rkept HOug6.out hg HAPug6.out)
    have HOg6 := Lib.hid ho
    have HZw15 : Hid (w14.heap.size ≤ w15.heap.size) := Lib.hid hch.size
    clear hch ho hbM hg
    have hc_b10 := HBb1.out.cell 0
    have hc_b11 := HBb1.out.cell 1
    have hc_b12 := HBb1.out.cell 2
    have hc_b50 := HBb5.out.cell 0
    have hc_b51 := HBb5.out.cell 1
    have hc_b52 := HBb5.out.cell 2
    go_wp2_with fail
    refine (mark_list ug6 ys _ (1 + zs.length) _ HOug6.out (Hbys.out) (by omega)).mono ?_
    rintro e w16 ⟨rfl, hg, ho⟩
    clear hc_b10 hc_b11 hc_b12 hc_b50 hc_b51 hc_b52
    have hch : ChgIn (w6.heap.size) (w7.heap.size) w15 w16 := ChgIn.of_grown hg HRug6.out
    have hbM : Below w4.heap.size w15 w16 := hch.below (by have z0 := HZw1.out; have z1 := HZw2.out; have z2 := HZw3.out; have z3 := HZw4.out; have z4 := HZw5.out; have z5 := HZw6.out; have z6 := HZw7.out; have z7 := HZw8.out; have z8 := HZw9.out; have z9 := HZw10.out; have z10 := HZw11.out; have z11 := HZw12.out; have z12 := HZw13.out; have z13 := HZw14.out; have z14 := HZw15.out; omega) HMid.out.size
    have HX := Lib.hid (HX.out.nextAt HXm.out hbM)
    have HMid := Lib.hid (HMid.out.trans hbM)
    have HBb1 := Lib.hid (show Blk w16 (w.heap.size) #[.int .i64 L0, (.slice yv0 ps0.length cv0), (.slice yu0 ds0.length cu0)] 36 from (hch.block _ HBb1.out.lt (by have z0 := HZw1.out; have z1 := HZw2.out; have z2 := HZw3.out; have z3 := HZw4.out; have z4 := HZw5.out; have z5 := HZw6.out; have z6 := HZw7.out; have z7 := HZw8.out; have z8 := HZw9.out; have z9 := HZw10.out; have z10 := HZw11.out; have z11 := HZw12.out; have z12 := HZw13.out; have z13 := HZw14.out; have z14 := HZw15.out; omega)).trans HBb1.out)
    have HBb5 := Lib.hid (show Blk w16 (w5.heap.size) #[.int .i64 L0, (.slice ax4 ps0.length cx4), (.slice ayx4 ds0.length cyx4)] 39 from (hch.block _ HBb5.out.lt (by have z0 := HZw1.out; have z1 := HZw2.out; have z2 := HZw3.out; have z3 := HZw4.out; have z4 := HZw5.out; have z5 := HZw6.out; have z6 := HZw7.out; have z7 := HZw8.out; have z8 := HZw9.out; have z9 := HZw10.out; have z10 := HZw11.out; have z11 := HZw12.out; have z12 := HZw13.out; have z13 := HZw14.out; have z14 := HZw15.out; omega)).trans HBb5.out)
    have HOg3 := Lib.hid (row_chg HOg3.out hch (fun b h => by have l := HRg3.out b h; have z0 := HZw1.out; have z1 := HZw2.out; have z2 := HZw3.out; have z3 := HZw4.out; have z4 := HZw5.out; have z5 := HZw6.out; have z6 := HZw7.out; have z7 := HZw8.out; have z8 := HZw9.out; have z9 := HZw10.out; have z10 := HZw11.out; have z11 := HZw12.out; have z12 := HZw13.out; have z13 := HZw14.out; have z14 := HZw15.out; omega))
    have HOug3 := Lib.hid (row_chg HOug3.out hch (fun b h => by have l := HRug3.out b h; have z0 := HZw1.out; have z1 := HZw2.out; have z2 := HZw3.out; have z3 := HZw4.out; have z4 := HZw5.out; have z5 := HZw6.out; have z6 := HZw7.out; have z7 := HZw8.out; have z8 := HZw9.out; have z9 := HZw10.out; have z10 := HZw11.out; have z11 := HZw12.out; have z12 := HZw13.out; have z13 := HZw14.out; have z14 := HZw15.out; omega))
    have HOx4 := Lib.hid (HOx4.out.chg hch (by have z0 := HZw1.out; have z1 := HZw2.out; have z2 := HZw3.out; have z3 := HZw4.out; have z4 := HZw5.out; have z5 := HZw6.out; have z6 := HZw7.out; have z7 := HZw8.out; have z8 := HZw9.out; have z9 := HZw10.out; have z10 := HZw11.out; have z11 := HZw12.out; have z12 := HZw13.out; have z13 := HZw14.out; have z14 := HZw15.out; omega))
    have HOg6 := Lib.hid (rkept HOg6.out hg HAPg6.out)
    have HOug6 := Lib.hid ho
    have HZw16 : Hid (w15.heap.size ≤ w16.heap.size) := Lib.hid hch.size
    clear hch ho hbM hg
    have hc_b10 := HBb1.out.cell 0
    have hc_b11 := HBb1.out.cell 1
    have hc_b12 := HBb1.out.cell 2
    have hc_b50 := HBb5.out.cell 0
    have hc_b51 := HBb5.out.cell 1
    have hc_b52 := HBb5.out.cell 2
    go_wp2_with fail
    refine (held_any g6 zs.length (1) _ (owns_reads (by rw [mts_len]; exact HOg6.out) (by rw [mts_len]; exact Hnzs.out)) (Hbzs.out) (by omega)).mono ?_
    rintro e w17 ⟨rfl, rfl⟩
    go_wp2_with fail
    refine (held_any ug6 ys.length (1 + zs.length) _ (owns_reads (by rw [mts_len]; exact HOug6.out) (by rw [mts_len]; exact Hnys.out)) (Hbys.out) (by omega)).mono ?_
    rintro e w17 ⟨rfl, rfl⟩
    go_wp2_with fail
    refine (toWr_any L0 (.slice yv0 ps0.length cv0) (.slice yu0 ds0.length cu0) ps0 ds0 _ (HV0.out.below HX.out.below) (HU0.out.below HX.out.below) hn0).mono ?_
    rintro e w17 ⟨x8, yx8, rfl, ho, hb⟩
    clear hc_b10 hc_b11 hc_b12 hc_b50 hc_b51 hc_b52
    have HX := Lib.hid (HX.out.next hb)
    have HBb1 := Lib.hid (HBb1.out.below hb)
    have HBb5 := Lib.hid (HBb5.out.below hb)
    have HOg3 := Lib.hid (owns_below HOg3.out hb)
    have HOug3 := Lib.hid (owns_below HOug3.out hb)
    have HOx4 := Lib.hid (HOx4.out.below hb)
    have HOg6 := Lib.hid (owns_below HOg6.out hb)
    have HOug6 := Lib.hid (owns_below HOug6.out hb)
    have HMid := Lib.hid (HMid.out.trans (hb.mono HMid.out.size))
    have HZw17 : Hid (w16.heap.size ≤ w17.heap.size) := Lib.hid (hb.size)
    obtain ⟨⟨ax8, cx8, hsx8⟩, ⟨ayx8, cyx8, hsyx8⟩⟩ := ho.shape
    subst hsx8 hsyx8
    have HOx8 := Lib.hid ho
    clear ho
    clear hb
    have hc_b10 := HBb1.out.cell 0
    have hc_b11 := HBb1.out.cell 1
    have hc_b12 := HBb1.out.cell 2
    have hc_b50 := HBb5.out.cell 0
    have hc_b51 := HBb5.out.cell 1
    have hc_b52 := HBb5.out.cell 2
    go_wp2_with fail
    refine (HI.out (.slice ax8 ps0.length cx8) (.slice ayx8 ds0.length cyx8) _ (HOx8.out.readsP hn0) (HOx8.out.readsD hn0)).mono ?_
    rintro e w18 ⟨g9, ug9, rfl, ho, hb⟩
    clear hc_b10 hc_b11 hc_b12 hc_b50 hc_b51 hc_b52
    have HX := Lib.hid (HX.out.next hb)
    have HBb1 := Lib.hid (HBb1.out.below hb)
    have HBb5 := Lib.hid (HBb5.out.below hb)
    have HOg3 := Lib.hid (owns_below HOg3.out hb)
    have HOug3 := Lib.hid (owns_below HOug3.out hb)
    have HOx4 := Lib.hid (HOx4.out.below hb)
    have HOg6 := Lib.hid (owns_below HOg6.out hb)
    have HOug6 := Lib.hid (owns_below HOug6.out hb)
    have HOx8 := Lib.hid (HOx8.out.below hb)
    have HMid := Lib.hid (HMid.out.trans (hb.mono HMid.out.size))
    have HZw18 : Hid (w17.heap.size ≤ w18.heap.size) := Lib.hid (hb.size)
    have HAPg9 := Lib.hid ho.apart
    have HAPug9 := Lib.hid (fun b e e2 => ho.apart b e2 e)
    have HRg9 : Hid (∀ b, g9.ownBlock = some b → w17.heap.size ≤ b ∧ b < w18.heap.size) := Lib.hid (fun b hb => ⟨(owns_block ho.pl b hb).1, ho.hp b hb⟩)
    have HOg9 := Lib.hid ho.pl
    have HRug9 : Hid (∀ b, ug9.ownBlock = some b → w17.heap.size ≤ b ∧ b < w18.heap.size) := Lib.hid (fun b hb => ⟨(owns_block ho.wy b hb).1, ho.hd b hb⟩)
    have HOug9 := Lib.hid ho.wy
    clear ho
    clear hb
    clear HOx8
    have hc_b10 := HBb1.out.cell 0
    have hc_b11 := HBb1.out.cell 1
    have hc_b12 := HBb1.out.cell 2
    have hc_b50 := HBb5.out.cell 0
    have hc_b51 := HBb5.out.cell 1
    have hc_b52 := HBb5.out.cell 2
    go_wp2_with fail
    refine (eqI_below g9 g3 zs _ (owns_reads HOg9.out Hnzs.out) (owns_reads HOg3.out Hnzs.out)).mono ?_
    rintro e w19 ⟨rfl, hb⟩
    clear hc_b10 hc_b11 hc_b12 hc_b50 hc_b51 hc_b52
    have HX := Lib.hid (HX.out.next hb)
    have HBb1 := Lib.hid (HBb1.out.below hb)
    have HBb5 := Lib.hid (HBb5.out.below hb)
    have HOg3 := Lib.hid (owns_below HOg3.out hb)
    have HOug3 := Lib.hid (owns_below HOug3.out hb)
    have HOx4 := Lib.hid (HOx4.out.below hb)
    have HOg6 := Lib.hid (owns_below HOg6.out hb)
    have HOug6 := Lib.hid (owns_below HOug6.out hb)
    have HOg9 := Lib.hid (owns_below HOg9.out hb)
    have HOug9 := Lib.hid (owns_below HOug9.out hb)
    have HMid := Lib.hid (HMid.out.trans (hb.mono HMid.out.size))
    have HZw19 : Hid (w18.heap.size ≤ w19.heap.size) := Lib.hid (hb.size)
    clear hb
    have hc_b10 := HBb1.out.cell 0
    have hc_b11 := HBb1.out.cell 1
    have hc_b12 := HBb1.out.cell 2
    have hc_b50 := HBb5.out.cell 0
    have hc_b51 := HBb5.out.cell 1
    have hc_b52 := HBb5.out.cell 2
    go_wp2_with fail
    refine (eqI_below ug9 ug3 ys _ (owns_reads HOug9.out Hnys.out) (owns_reads HOug3.out Hnys.out)).mono ?_
    rintro e w20 ⟨rfl, hb⟩
    clear hc_b10 hc_b11 hc_b12 hc_b50 hc_b51 hc_b52
    have HX := Lib.hid (HX.out.next hb)
    have HBb1 := Lib.hid (HBb1.out.below hb)
    have HBb5 := Lib.hid (HBb5.out.below hb)
    have HOg3 := Lib.hid (owns_below HOg3.out hb)
    have HOug3 := Lib.hid (owns_below HOug3.out hb)
    have HOx4 := Lib.hid (HOx4.out.below hb)
    have HOg6 := Lib.hid (owns_below HOg6.out hb)
    have HOug6 := Lib.hid (owns_below HOug6.out hb)
    have HOg9 := Lib.hid (owns_below HOg9.out hb)
    have HOug9 := Lib.hid (owns_below HOug9.out hb)
    have HMid := Lib.hid (HMid.out.trans (hb.mono HMid.out.size))
    have HZw20 : Hid (w19.heap.size ≤ w20.heap.size) := Lib.hid (hb.size)
    clear hb
    have hc_b10 := HBb1.out.cell 0
    have hc_b11 := HBb1.out.cell 1
    have hc_b12 := HBb1.out.cell 2
    have hc_b50 := HBb5.out.cell 0
    have hc_b51 := HBb5.out.cell 1
    have hc_b52 := HBb5.out.cell 2
    go_wp2_with fail
    refine (held_any g6 zs.length (1) _ (owns_reads (by rw [mts_len]; exact HOg6.out) (by rw [mts_len]; exact Hnzs.out)) (Hbzs.out) (by omega)).mono ?_
    rintro e w21 ⟨rfl, rfl⟩
    go_wp2_with fail
    refine (held_any ug6 ys.length (1 + zs.length) _ (owns_reads (by rw [mts_len]; exact HOug6.out) (by rw [mts_len]; exact Hnys.out)) (Hbys.out) (by omega)).mono ?_
    rintro e w21 ⟨rfl, rfl⟩
    go_wp2_with fail
    go_ret
    exact ⟨rfl, HX.out.below⟩
set_option maxHeartbeats 800000 in
theorem law_long (L0 : Int) (v0 u0 : Value) (ps0 ds0 : List Int) (a1 : Int) (w : World) (hv0 : ReadsI w v0 ps0) (hu0 : ReadsI w u0 ds0) (hlong : 1048576 < ps0.length + ds0.length) :
    Calls Try.prog 17 #[wrV L0 v0 u0, .int .i64 a1] w fun e w' => e = .returned (.bool true) ∧ Below w.heap.size w w' := by
  have HN := Lib.hid (fun w h1 h2 => szWr_no L0 v0 u0 ps0 ds0 1048576 w h1 h2 (by omega) hlong)
  have HX := Lib.hid (below_new w (.cells (wrC L0 v0 u0) 36))
  have HBX := Lib.hid (blk_new w (wrC L0 v0 u0) 36)
  have HV := Lib.hid (hv0.below HX.out)
  have HU := Lib.hid (hu0.below HX.out)
  obtain ⟨ya, yc, rfl, _⟩ := hv0
  obtain ⟨za, zc, rfl, _⟩ := hu0
  generalize hpl : ps0.length = pl at *
  generalize hdl : ds0.length = dl at *
  clear hpl hdl
  unfold wrV wrC at *
  go_enter Try.func17, Try.ntmps17
  go_wp2_with fail
  refine (HN.out _ HV.out HU.out).mono ?_
  rintro e w2 ⟨rfl, hb⟩
  have HX := Lib.hid (HX.out.trans (hb.mono HX.out.size))
  clear hb
  go_wp2_with fail
  go_ret
  exact ⟨rfl, HX.out⟩

theorem walk (L0 : Int) (v0 u0 : Value) (ps0 ds0 : List Int) (a1 : Int) (w : World) (hv0 : ReadsI w v0 ps0) (hu0 : ReadsI w u0 ds0) (ha1 : -9223372036854775808 ≤ a1 ∧ a1 ≤ 9223372036854775807) :
    Calls Try.prog 17 #[wrV L0 v0 u0, .int .i64 a1] w fun e w' => e = .returned (.bool true) ∧ Below w.heap.size w w' := by
  by_cases h : 1048576 < ps0.length + ds0.length
  · exact law_long L0 v0 u0 ps0 ds0 a1 w hv0 hu0 h
  · exact law_two L0 v0 u0 ps0 ds0 a1 ((beadsR L0 ps0 ds0 a1)).1 ((beadsR L0 ps0 ds0 a1)).2.1 ((beadsR L0 ps0 ds0 a1)).2.2 (beadsR_len L0 ps0 ds0 a1) w hv0 hu0 (by omega) (fun x y w h1 h2 => spec_BeadsAt L0 x y ps0 ds0 a1 w h1 h2) (fun x y w h1 h2 => impl_BeadsAt L0 x y ps0 ds0 a1 w h1 h2 ha1)
end Go.Proofs.Ythbmiigndhoopaa.fnExactBeadsAt
