/-
  What is proved: the walk of the law FnExactMirrorWire: for every input impl.MirrorWire answers as the model does, its arguments read as before, and its answer is memory of its own. Conditions: none beyond the row's own.
-/
import Derived.Test.YthbmiigndhoopaaLwa
import Derived.Test.YthbmiigndhoopaaLvi
namespace Go.Proofs.Ythbmiigndhoopaa.fnExactMirrorWire
open Go.RowKit
set_option linter.unusedVariables false
set_option linter.unusedSimpArgs false

set_option maxHeartbeats 3200000 in
set_option maxRecDepth 20000 in
theorem law_two (L0 : Int) (v0 u0 : Value) (ps0 ds0 : List Int) (zL : Int) (zp zd : List Int) (b : Bool) (hz : zp.length + zd.length ≤ 1048576) (w : World) (hv0 : ReadsI w v0 ps0) (hu0 : ReadsI w u0 ds0) (hn0 : ps0.length + ds0.length ≤ 1048576)
    (hm : ∀ (x0 y0 : Value) (w : World), ReadsI w x0 ps0 → ReadsI w y0 ds0 → Calls Try.prog 57 #[wrV L0 x0 y0] w (OwnsWrB w.heap.size zL zp zd b w))
    (hi : ∀ (x0 y0 : Value) (w : World), ReadsI w x0 ps0 → ReadsI w y0 ds0 → Calls Try.prog 58 #[wrV L0 x0 y0] w (OwnsWrB w.heap.size zL zp zd b w)) :
    Calls Try.prog 18 #[wrV L0 v0 u0] w fun e w' => e = .returned (.bool true) ∧ Below w.heap.size w w' := by
  have HM := Lib.hid hm
  have HI := Lib.hid hi
  have HV0 := Lib.hid hv0
  have HU0 := Lib.hid hu0
  obtain ⟨yv0, cv0, hvv0, _⟩ := hv0
  subst hvv0
  obtain ⟨yu0, cu0, huu0, _⟩ := hu0
  subst huu0
  clear hm hi
  have HX := Lib.hid (Kept.first w)
  have HX := Lib.hid (HX.out.next (below_new _ (.cells #[.int .i64 L0, (.slice yv0 ps0.length cv0), (.slice yu0 ds0.length cu0)] 36)))
  have HBb1 := Lib.hid (blk_at w #[.int .i64 L0, (.slice yv0 ps0.length cv0), (.slice yu0 ds0.length cu0)] 36 (w.heap.size) (by simp))
  unfold wrV at *
  go_enter Try.func18, Try.ntmps18
  go_wp2_with fail
  have HZw1 : Hid (w.heap.size + 1 ≤ (w.alloc (.cells #[.int .i64 L0, (.slice yv0 ps0.length cv0), (.slice yu0 ds0.length cu0)] 36)).heap.size) := Lib.hid (by simp)
  generalize (w.alloc (.cells #[.int .i64 L0, (.slice yv0 ps0.length cv0), (.slice yu0 ds0.length cu0)] 36)) = w1 at *
  have hc_b10 := HBb1.out.cell 0
  have hc_b11 := HBb1.out.cell 1
  have hc_b12 := HBb1.out.cell 2
  refine (szWr_yes L0 (.slice yv0 ps0.length cv0) (.slice yu0 ds0.length cu0) ps0 ds0 (1048576) _ (HV0.out.below HX.out.below) (HU0.out.below HX.out.below) (by omega) (by omega)).mono ?_
  rintro e w2 ⟨rfl, hb⟩
  clear hc_b10 hc_b11 hc_b12
  have HX := Lib.hid (HX.out.next hb)
  have HBb1 := Lib.hid (HBb1.out.below hb)
  have HZw2 : Hid (w1.heap.size ≤ w2.heap.size) := Lib.hid (hb.size)
  clear hb
  have hc_b10 := HBb1.out.cell 0
  have hc_b11 := HBb1.out.cell 1
  have hc_b12 := HBb1.out.cell 2
  go_wp2_with fail
  refine (toWr_any L0 (.slice yv0 ps0.length cv0) (.slice yu0 ds0.length cu0) ps0 ds0 _ (HV0.out.below HX.out.below) (HU0.out.below HX.out.below) hn0).mono ?_
  rintro e w3 ⟨x2, yx2, rfl, ho, hb⟩
  clear hc_b10 hc_b11 hc_b12
  have HX := Lib.hid (HX.out.next hb)
  have HBb1 := Lib.hid (HBb1.out.below hb)
  have HZw3 : Hid (w2.heap.size ≤ w3.heap.size) := Lib.hid (hb.size)
  obtain ⟨⟨ax2, cx2, hsx2⟩, ⟨ayx2, cyx2, hsyx2⟩⟩ := ho.shape
  subst hsx2 hsyx2
  have HOx2 := Lib.hid ho
  clear ho
  clear hb
  have hc_b10 := HBb1.out.cell 0
  have hc_b11 := HBb1.out.cell 1
  have hc_b12 := HBb1.out.cell 2
  go_wp2_with fail
  refine (HM.out (.slice ax2 ps0.length cx2) (.slice ayx2 ds0.length cyx2) _ (HOx2.out.readsP hn0) (HOx2.out.readsD hn0)).mono ?_
  rintro e w4 ⟨g3, ug3, rfl, ho, hb⟩
  clear hc_b10 hc_b11 hc_b12
  have HX := Lib.hid (HX.out.next hb)
  have HBb1 := Lib.hid (HBb1.out.below hb)
  have HOx2 := Lib.hid (HOx2.out.below hb)
  have HZw4 : Hid (w3.heap.size ≤ w4.heap.size) := Lib.hid (hb.size)
  obtain ⟨⟨ag3, cg3, hsg3⟩, ⟨aug3, cug3, hsug3⟩⟩ := ho.shape
  subst hsg3 hsug3
  have HOg3 := Lib.hid ho
  clear ho
  clear hb
  have HMid : Hid (Below w4.heap.size w4 w4) := Lib.hid (Below.refl _ _)
  have HXm := Lib.hid HX.out.size
  have HX := Lib.hid (HX.out.next (below_new w4 (.cells #[.int .i64 zL, (.slice ag3 zp.length cg3), (.slice aug3 zd.length cug3)] 39)))
  have HBb1 := Lib.hid (HBb1.out.below (below_new w4 (.cells #[.int .i64 zL, (.slice ag3 zp.length cg3), (.slice aug3 zd.length cug3)] 39)))
  have HOx2 := Lib.hid (HOx2.out.below (below_new w4 (.cells #[.int .i64 zL, (.slice ag3 zp.length cg3), (.slice aug3 zd.length cug3)] 39)))
  have HOg3 := Lib.hid (HOg3.out.below (below_new w4 (.cells #[.int .i64 zL, (.slice ag3 zp.length cg3), (.slice aug3 zd.length cug3)] 39)))
  have HMid := Lib.hid (HMid.out.trans ((below_new w4 (.cells #[.int .i64 zL, (.slice ag3 zp.length cg3), (.slice aug3 zd.length cug3)] 39)).mono HMid.out.size))
  have HBb4 := Lib.hid (blk_new w4 #[.int .i64 zL, (.slice ag3 zp.length cg3), (.slice aug3 zd.length cug3)] 39)
  have HZw5 : Hid (w4.heap.size < (w4.alloc (.cells #[.int .i64 zL, (.slice ag3 zp.length cg3), (.slice aug3 zd.length cug3)] 39)).heap.size) := Lib.hid (by simp)
  have hc_b10 := HBb1.out.cell 0
  have hc_b11 := HBb1.out.cell 1
  have hc_b12 := HBb1.out.cell 2
  have hc_b40 := HBb4.out.cell 0
  have hc_b41 := HBb4.out.cell 1
  have hc_b42 := HBb4.out.cell 2
  go_wp2_with fail
  generalize w4.alloc (.cells #[.int .i64 zL, (.slice ag3 zp.length cg3), (.slice aug3 zd.length cug3)] 39) = w5 at *
  clear HOx2
  refine (toWr_any L0 (.slice yv0 ps0.length cv0) (.slice yu0 ds0.length cu0) ps0 ds0 _ (HV0.out.below HX.out.below) (HU0.out.below HX.out.below) hn0).mono ?_
  rintro e w6 ⟨x5, yx5, rfl, ho, hb⟩
  clear hc_b10 hc_b11 hc_b12 hc_b40 hc_b41 hc_b42
  have HX := Lib.hid (HX.out.next hb)
  have HBb1 := Lib.hid (HBb1.out.below hb)
  have HBb4 := Lib.hid (HBb4.out.below hb)
  have HOg3 := Lib.hid (HOg3.out.below hb)
  have HMid := Lib.hid (HMid.out.trans (hb.mono HMid.out.size))
  have HZw6 : Hid (w5.heap.size ≤ w6.heap.size) := Lib.hid (hb.size)
  obtain ⟨⟨ax5, cx5, hsx5⟩, ⟨ayx5, cyx5, hsyx5⟩⟩ := ho.shape
  subst hsx5 hsyx5
  have HOx5 := Lib.hid ho
  clear ho
  clear hb
  have HX := Lib.hid (HX.out.next (below_new w6 (.cells #[.int .i64 L0, (.slice ax5 ps0.length cx5), (.slice ayx5 ds0.length cyx5)] 39)))
  have HBb1 := Lib.hid (HBb1.out.below (below_new w6 (.cells #[.int .i64 L0, (.slice ax5 ps0.length cx5), (.slice ayx5 ds0.length cyx5)] 39)))
  have HBb4 := Lib.hid (HBb4.out.below (below_new w6 (.cells #[.int .i64 L0, (.slice ax5 ps0.length cx5), (.slice ayx5 ds0.length cyx5)] 39)))
  have HOg3 := Lib.hid (HOg3.out.below (below_new w6 (.cells #[.int .i64 L0, (.slice ax5 ps0.length cx5), (.slice ayx5 ds0.length cyx5)] 39)))
  have HOx5 := Lib.hid (HOx5.out.below (below_new w6 (.cells #[.int .i64 L0, (.slice ax5 ps0.length cx5), (.slice ayx5 ds0.length cyx5)] 39)))
  have HMid := Lib.hid (HMid.out.trans ((below_new w6 (.cells #[.int .i64 L0, (.slice ax5 ps0.length cx5), (.slice ayx5 ds0.length cyx5)] 39)).mono HMid.out.size))
  have HBb6 := Lib.hid (blk_new w6 #[.int .i64 L0, (.slice ax5 ps0.length cx5), (.slice ayx5 ds0.length cyx5)] 39)
  have HZw7 : Hid (w6.heap.size < (w6.alloc (.cells #[.int .i64 L0, (.slice ax5 ps0.length cx5), (.slice ayx5 ds0.length cyx5)] 39)).heap.size) := Lib.hid (by simp)
  have hc_b10 := HBb1.out.cell 0
  have hc_b11 := HBb1.out.cell 1
  have hc_b12 := HBb1.out.cell 2
  have hc_b40 := HBb4.out.cell 0
  have hc_b41 := HBb4.out.cell 1
  have hc_b42 := HBb4.out.cell 2
  have hc_b60 := HBb6.out.cell 0
  have hc_b61 := HBb6.out.cell 1
  have hc_b62 := HBb6.out.cell 2
  go_wp2_with fail
  generalize w6.alloc (.cells #[.int .i64 L0, (.slice ax5 ps0.length cx5), (.slice ayx5 ds0.length cyx5)] 39) = w7 at *
  refine (HI.out (.slice ax5 ps0.length cx5) (.slice ayx5 ds0.length cyx5) _ (HOx5.out.readsP hn0) (HOx5.out.readsD hn0)).mono ?_
  rintro e w8 ⟨g7, ug7, rfl, ho, hb⟩
  clear hc_b10 hc_b11 hc_b12 hc_b40 hc_b41 hc_b42 hc_b60 hc_b61 hc_b62
  have HX := Lib.hid (HX.out.next hb)
  have HBb1 := Lib.hid (HBb1.out.below hb)
  have HBb4 := Lib.hid (HBb4.out.below hb)
  have HBb6 := Lib.hid (HBb6.out.below hb)
  have HOg3 := Lib.hid (HOg3.out.below hb)
  have HOx5 := Lib.hid (HOx5.out.below hb)
  have HMid := Lib.hid (HMid.out.trans (hb.mono HMid.out.size))
  have HZw8 : Hid (w7.heap.size ≤ w8.heap.size) := Lib.hid (hb.size)
  obtain ⟨⟨ag7, cg7, hsg7⟩, ⟨aug7, cug7, hsug7⟩⟩ := ho.shape
  subst hsg7 hsug7
  have HOg7 := Lib.hid ho
  clear ho
  clear hb
  have HX := Lib.hid (HX.out.next (below_new w8 (.cells #[.int .i64 zL, (.slice ag7 zp.length cg7), (.slice aug7 zd.length cug7)] 39)))
  have HBb1 := Lib.hid (HBb1.out.below (below_new w8 (.cells #[.int .i64 zL, (.slice ag7 zp.length cg7), (.slice aug7 zd.length cug7)] 39)))
  have HBb4 := Lib.hid (HBb4.out.below (below_new w8 (.cells #[.int .i64 zL, (.slice ag7 zp.length cg7), (.slice aug7 zd.length cug7)] 39)))
  have HBb6 := Lib.hid (HBb6.out.below (below_new w8 (.cells #[.int .i64 zL, (.slice ag7 zp.length cg7), (.slice aug7 zd.length cug7)] 39)))
  have HOg3 := Lib.hid (HOg3.out.below (below_new w8 (.cells #[.int .i64 zL, (.slice ag7 zp.length cg7), (.slice aug7 zd.length cug7)] 39)))
  have HOx5 := Lib.hid (HOx5.out.below (below_new w8 (.cells #[.int .i64 zL, (.slice ag7 zp.length cg7), (.slice aug7 zd.length cug7)] 39)))
  have HOg7 := Lib.hid (HOg7.out.below (below_new w8 (.cells #[.int .i64 zL, (.slice ag7 zp.length cg7), (.slice aug7 zd.length cug7)] 39)))
  have HMid := Lib.hid (HMid.out.trans ((below_new w8 (.cells #[.int .i64 zL, (.slice ag7 zp.length cg7), (.slice aug7 zd.length cug7)] 39)).mono HMid.out.size))
  have HBb8 := Lib.hid (blk_new w8 #[.int .i64 zL, (.slice ag7 zp.length cg7), (.slice aug7 zd.length cug7)] 39)
  have HZw9 : Hid (w8.heap.size < (w8.alloc (.cells #[.int .i64 zL, (.slice ag7 zp.length cg7), (.slice aug7 zd.length cug7)] 39)).heap.size) := Lib.hid (by simp)
  have hc_b10 := HBb1.out.cell 0
  have hc_b11 := HBb1.out.cell 1
  have hc_b12 := HBb1.out.cell 2
  have hc_b40 := HBb4.out.cell 0
  have hc_b41 := HBb4.out.cell 1
  have hc_b42 := HBb4.out.cell 2
  have hc_b60 := HBb6.out.cell 0
  have hc_b61 := HBb6.out.cell 1
  have hc_b62 := HBb6.out.cell 2
  have hc_b80 := HBb8.out.cell 0
  have hc_b81 := HBb8.out.cell 1
  have hc_b82 := HBb8.out.cell 2
  go_wp2_with fail
  generalize w8.alloc (.cells #[.int .i64 zL, (.slice ag7 zp.length cg7), (.slice aug7 zd.length cug7)] 39) = w9 at *
  cases b
  all_goals
    refine (eqWr_any zL (.slice ag7 zp.length cg7) (.slice aug7 zd.length cug7) (.slice ag3 zp.length cg3) (.slice aug3 zd.length cug3) zp zd _ (HOg7.out.readsP hz) (HOg7.out.readsD hz) (HOg3.out.readsP hz) (HOg3.out.readsD hz)).mono ?_
    rintro e w10 ⟨rfl, hb⟩
    clear hc_b10 hc_b11 hc_b12 hc_b40 hc_b41 hc_b42 hc_b60 hc_b61 hc_b62 hc_b80 hc_b81 hc_b82
    have HX := Lib.hid (HX.out.next hb)
    have HBb1 := Lib.hid (HBb1.out.below hb)
    have HBb4 := Lib.hid (HBb4.out.below hb)
    have HBb6 := Lib.hid (HBb6.out.below hb)
    have HBb8 := Lib.hid (HBb8.out.below hb)
    have HOg3 := Lib.hid (HOg3.out.below hb)
    have HOx5 := Lib.hid (HOx5.out.below hb)
    have HOg7 := Lib.hid (HOg7.out.below hb)
    have HMid := Lib.hid (HMid.out.trans (hb.mono HMid.out.size))
    have HZw10 : Hid (w9.heap.size ≤ w10.heap.size) := Lib.hid (hb.size)
    clear hb
    have hc_b10 := HBb1.out.cell 0
    have hc_b11 := HBb1.out.cell 1
    have hc_b12 := HBb1.out.cell 2
    have hc_b40 := HBb4.out.cell 0
    have hc_b41 := HBb4.out.cell 1
    have hc_b42 := HBb4.out.cell 2
    have hc_b60 := HBb6.out.cell 0
    have hc_b61 := HBb6.out.cell 1
    have hc_b62 := HBb6.out.cell 2
    have hc_b80 := HBb8.out.cell 0
    have hc_b81 := HBb8.out.cell 1
    have hc_b82 := HBb8.out.cell 2
    go_wp2_with fail
    clear hc_b10 hc_b11 hc_b12 hc_b40 hc_b41 hc_b42 hc_b60 hc_b61 hc_b62 hc_b80 hc_b81 hc_b82
    have HX := Lib.hid (HX.out.next (below_drewN _ 1))
    have HBb1 := Lib.hid (HBb1.out.below (below_drewN _ 1))
    have HBb4 := Lib.hid (HBb4.out.below (below_drewN _ 1))
    have HBb6 := Lib.hid (HBb6.out.below (below_drewN _ 1))
    have HBb8 := Lib.hid (HBb8.out.below (below_drewN _ 1))
    have HOg3 := Lib.hid (HOg3.out.below (below_drewN _ 1))
    have HOx5 := Lib.hid (HOx5.out.below (below_drewN _ 1))
    have HOg7 := Lib.hid (HOg7.out.below (below_drewN _ 1))
    have HMid := Lib.hid (HMid.out.trans ((below_drewN _ 1).mono HMid.out.size))
    refine wp_region_noPanic ?_
    refine wp_region_held_drew (S := fun w' => Kept w.heap.size w w' ∧ Blk w' (w.heap.size) #[.int .i64 L0, (.slice yv0 ps0.length cv0), (.slice yu0 ds0.length cu0)] 36 ∧ w'.cell? ⟨w.heap.size, 0, none⟩ = some (.int .i64 L0) ∧ w'.cell? ⟨w.heap.size, 1, none⟩ = some ((.slice yv0 ps0.length cv0)) ∧ w'.cell? ⟨w.heap.size, 2, none⟩ = some ((.slice yu0 ds0.length cu0)) ∧ Blk w' (w4.heap.size) #[.int .i64 zL, (.slice ag3 zp.length cg3), (.slice aug3 zd.length cug3)] 39 ∧ w'.cell? ⟨w4.heap.size, 0, none⟩ = some (.int .i64 zL) ∧ w'.cell? ⟨w4.heap.size, 1, none⟩ = some ((.slice ag3 zp.length cg3)) ∧ w'.cell? ⟨w4.heap.size, 2, none⟩ = some ((.slice aug3 zd.length cug3)) ∧ Blk w' (w6.heap.size) #[.int .i64 L0, (.slice ax5 ps0.length cx5), (.slice ayx5 ds0.length cyx5)] 39 ∧ w'.cell? ⟨w6.heap.size, 0, none⟩ = some (.int .i64 L0) ∧ w'.cell? ⟨w6.heap.size, 1, none⟩ = some ((.slice ax5 ps0.length cx5)) ∧ w'.cell? ⟨w6.heap.size, 2, none⟩ = some ((.slice ayx5 ds0.length cyx5)) ∧ Blk w' (w8.heap.size) #[.int .i64 zL, (.slice ag7 zp.length cg7), (.slice aug7 zd.length cug7)] 39 ∧ w'.cell? ⟨w8.heap.size, 0, none⟩ = some (.int .i64 zL) ∧ w'.cell? ⟨w8.heap.size, 1, none⟩ = some ((.slice ag7 zp.length cg7)) ∧ w'.cell? ⟨w8.heap.size, 2, none⟩ = some ((.slice aug7 zd.length cug7))) (by kernel_rfl) (⟨HX.out, HBb1.out, HBb1.out.cell 0, HBb1.out.cell 1, HBb1.out.cell 2, HBb4.out, HBb4.out.cell 0, HBb4.out.cell 1, HBb4.out.cell 2, HBb6.out, HBb6.out.cell 0, HBb6.out.cell 1, HBb6.out.cell 2, HBb8.out, HBb8.out.cell 0, HBb8.out.cell 1, HBb8.out.cell 2⟩) (fun hHeld => ?_)
    refine wpAnyH_take (i := 0) (oi := _) (v := ?_) rfl (by kernel_rfl) (by kernel_rfl) (by kernel_rfl) (fun _ _ _ h => h) (Or.inl ⟨by rfl, ?_⟩) (by assumption) ?_
    rotate_left
    · (intro w hSw; (try dsimp only at hSw); (first | (go_simp; done) | (go_simp; with_reducible rfl)))
    simp only [Act.put, List.getElem_toArray, List.getElem_cons_succ, List.getElem_cons_zero, List.setIfInBounds_toArray, List.set_cons_zero, List.set_cons_succ]
    refine wpAnyH_take (i := 1) (oi := _) (v := ?_) rfl (by kernel_rfl) (by kernel_rfl) (by kernel_rfl) (fun _ _ _ h => h) (Or.inl ⟨by rfl, ?_⟩) (by assumption) ?_
    rotate_left
    · (intro w hSw; (try dsimp only at hSw); (first | (go_simp; done) | (go_simp; with_reducible rfl)))
    simp only [Act.put, List.getElem_toArray, List.getElem_cons_succ, List.getElem_cons_zero, List.setIfInBounds_toArray, List.set_cons_zero, List.set_cons_succ]
    refine wpAnyH_ready (rs := [2]) (by kernel_rfl) (by simp) ?_
    refine AllReadyH.cons rfl (fun K hK => ?_) AllReadyH.nil
    go_simp
    refine (toWr_any L0 (.slice yv0 ps0.length cv0) (.slice yu0 ds0.length cu0) ps0 ds0 _ (HV0.out.below HX.out.below) (HU0.out.below HX.out.below) hn0).mono ?_
    rintro e w11 ⟨x9, yx9, rfl, ho, hb⟩
    have HX := Lib.hid (HX.out.next hb)
    have HBb1 := Lib.hid (HBb1.out.below hb)
    have HBb4 := Lib.hid (HBb4.out.below hb)
    have HBb6 := Lib.hid (HBb6.out.below hb)
    have HBb8 := Lib.hid (HBb8.out.below hb)
    have HOg3 := Lib.hid (HOg3.out.below hb)
    have HOx5 := Lib.hid (HOx5.out.below hb)
    have HOg7 := Lib.hid (HOg7.out.below hb)
    have HMid := Lib.hid (HMid.out.trans (hb.mono HMid.out.size))
    have HZw11 : Hid (w10.heap.size ≤ w11.heap.size) := Lib.hid (hb.size)
    obtain ⟨⟨ax9, cx9, hsx9⟩, ⟨ayx9, cyx9, hsyx9⟩⟩ := ho.shape
    subst hsx9 hsyx9
    have HOx9 := Lib.hid ho
    clear ho
    clear hb
    clear hHeld
    go_wp2_with fail
    refine hK.out _ _ (⟨HX.out, HBb1.out, HBb1.out.cell 0, HBb1.out.cell 1, HBb1.out.cell 2, HBb4.out, HBb4.out.cell 0, HBb4.out.cell 1, HBb4.out.cell 2, HBb6.out, HBb6.out.cell 0, HBb6.out.cell 1, HBb6.out.cell 2, HBb8.out, HBb8.out.cell 0, HBb8.out.cell 1, HBb8.out.cell 2⟩) (fun hHeld => ?_)
    clear hK K
    refine wpAnyH_ready (rs := [3]) (by kernel_rfl) (by simp) ?_
    refine AllReadyH.cons rfl (fun K hK => ?_) AllReadyH.nil
    go_simp
    refine (eqWr_any L0 (.slice ax5 ps0.length cx5) (.slice ayx5 ds0.length cyx5) (.slice ax9 ps0.length cx9) (.slice ayx9 ds0.length cyx9) ps0 ds0 _ (HOx5.out.readsP hn0) (HOx5.out.readsD hn0) (HOx9.out.readsP hn0) (HOx9.out.readsD hn0)).mono ?_
    rintro e w12 ⟨rfl, hb⟩
    have HX := Lib.hid (HX.out.next hb)
    have HBb1 := Lib.hid (HBb1.out.below hb)
    have HBb4 := Lib.hid (HBb4.out.below hb)
    have HBb6 := Lib.hid (HBb6.out.below hb)
    have HBb8 := Lib.hid (HBb8.out.below hb)
    have HOg3 := Lib.hid (HOg3.out.below hb)
    have HOx5 := Lib.hid (HOx5.out.below hb)
    have HOg7 := Lib.hid (HOg7.out.below hb)
    have HOx9 := Lib.hid (HOx9.out.below hb)
    have HMid := Lib.hid (HMid.out.trans (hb.mono HMid.out.size))
    have HZw12 : Hid (w11.heap.size ≤ w12.heap.size) := Lib.hid (hb.size)
    clear hb
    clear hHeld
    go_wp2_with fail
    refine hK.out _ _ (⟨HX.out, HBb1.out, HBb1.out.cell 0, HBb1.out.cell 1, HBb1.out.cell 2, HBb4.out, HBb4.out.cell 0, HBb4.out.cell 1, HBb4.out.cell 2, HBb6.out, HBb6.out.cell 0, HBb6.out.cell 1, HBb6.out.cell 2, HBb8.out, HBb8.out.cell 0, HBb8.out.cell 1, HBb8.out.cell 2⟩) (fun hHeld => ?_)
    clear hK K
    refine wpAnyH_take (i := 4) (oi := _) (v := ?_) rfl (by kernel_rfl) (by kernel_rfl) (by kernel_rfl) (fun _ _ _ h => h) (Or.inl ⟨by rfl, ?_⟩) (by assumption) ?_
    rotate_left
    · (intro w hSw; (try dsimp only at hSw); (first | (go_simp; done) | (go_simp; with_reducible rfl)))
    simp only [Act.put, List.getElem_toArray, List.getElem_cons_succ, List.getElem_cons_zero, List.setIfInBounds_toArray, List.set_cons_zero, List.set_cons_succ]
    refine wpAnyH_done (by kernel_rfl) ?_ _
    refine NoPanic.normal ?_
    clear hHeld
    clear HOx9
    have hc_b10 := HBb1.out.cell 0
    have hc_b11 := HBb1.out.cell 1
    have hc_b12 := HBb1.out.cell 2
    have hc_b40 := HBb4.out.cell 0
    have hc_b41 := HBb4.out.cell 1
    have hc_b42 := HBb4.out.cell 2
    have hc_b60 := HBb6.out.cell 0
    have hc_b61 := HBb6.out.cell 1
    have hc_b62 := HBb6.out.cell 2
    have hc_b80 := HBb8.out.cell 0
    have hc_b81 := HBb8.out.cell 1
    have hc_b82 := HBb8.out.cell 2
    go_wp2_with fail
    refine (HOx5.out.mark (L := L0) (K := 1) hn0 (by omega)).mono ?_
    rintro e w13 ⟨rfl, hch, ho⟩
    clear hc_b10 hc_b11 hc_b12 hc_b40 hc_b41 hc_b42 hc_b60 hc_b61 hc_b62 hc_b80 hc_b81 hc_b82
    have hbM : Below w4.heap.size w12 w13 := hch.below (by have z0 := HZw1.out; have z1 := HZw2.out; have z2 := HZw3.out; have z3 := HZw4.out; have z4 := HZw5.out; have z5 := HZw6.out; have z6 := HZw7.out; have z7 := HZw8.out; have z8 := HZw9.out; have z9 := HZw10.out; have z10 := HZw11.out; have z11 := HZw12.out; omega) HMid.out.size
    have HX := Lib.hid (HX.out.nextAt HXm.out hbM)
    have HMid := Lib.hid (HMid.out.trans hbM)
    have HBb1 := Lib.hid (show Blk w13 (w.heap.size) #[.int .i64 L0, (.slice yv0 ps0.length cv0), (.slice yu0 ds0.length cu0)] 36 from (hch.block _ HBb1.out.lt (by have z0 := HZw1.out; have z1 := HZw2.out; have z2 := HZw3.out; have z3 := HZw4.out; have z4 := HZw5.out; have z5 := HZw6.out; have z6 := HZw7.out; have z7 := HZw8.out; have z8 := HZw9.out; have z9 := HZw10.out; have z10 := HZw11.out; have z11 := HZw12.out; omega)).trans HBb1.out)
    have HBb4 := Lib.hid (show Blk w13 (w4.heap.size) #[.int .i64 zL, (.slice ag3 zp.length cg3), (.slice aug3 zd.length cug3)] 39 from (hch.block _ HBb4.out.lt (by have z0 := HZw1.out; have z1 := HZw2.out; have z2 := HZw3.out; have z3 := HZw4.out; have z4 := HZw5.out; have z5 := HZw6.out; have z6 := HZw7.out; have z7 := HZw8.out; have z8 := HZw9.out; have z9 := HZw10.out; have z10 := HZw11.out; have z11 := HZw12.out; omega)).trans HBb4.out)
    have HBb6 := Lib.hid (show Blk w13 (w6.heap.size) #[.int .i64 L0, (.slice ax5 ps0.length cx5), (.slice ayx5 ds0.length cyx5)] 39 from (hch.block _ HBb6.out.lt (by have z0 := HZw1.out; have z1 := HZw2.out; have z2 := HZw3.out; have z3 := HZw4.out; have z4 := HZw5.out; have z5 := HZw6.out; have z6 := HZw7.out; have z7 := HZw8.out; have z8 := HZw9.out; have z9 := HZw10.out; have z10 := HZw11.out; have z11 := HZw12.out; omega)).trans HBb6.out)
    have HBb8 := Lib.hid (show Blk w13 (w8.heap.size) #[.int .i64 zL, (.slice ag7 zp.length cg7), (.slice aug7 zd.length cug7)] 39 from (hch.block _ HBb8.out.lt (by have z0 := HZw1.out; have z1 := HZw2.out; have z2 := HZw3.out; have z3 := HZw4.out; have z4 := HZw5.out; have z5 := HZw6.out; have z6 := HZw7.out; have z7 := HZw8.out; have z8 := HZw9.out; have z9 := HZw10.out; have z10 := HZw11.out; have z11 := HZw12.out; omega)).trans HBb8.out)
    have HOg3 := Lib.hid (HOg3.out.chg hch (by have z0 := HZw1.out; have z1 := HZw2.out; have z2 := HZw3.out; have z3 := HZw4.out; have z4 := HZw5.out; have z5 := HZw6.out; have z6 := HZw7.out; have z7 := HZw8.out; have z8 := HZw9.out; have z9 := HZw10.out; have z10 := HZw11.out; have z11 := HZw12.out; omega))
    have HOg7 := Lib.hid (HOg7.out.chg hch (by have z0 := HZw1.out; have z1 := HZw2.out; have z2 := HZw3.out; have z3 := HZw4.out; have z4 := HZw5.out; have z5 := HZw6.out; have z6 := HZw7.out; have z7 := HZw8.out; have z8 := HZw9.out; have z9 := HZw10.out; have z10 := HZw11.out; have z11 := HZw12.out; omega))
    have HOx5 := Lib.hid ho
    have HZw13 : Hid (w12.heap.size ≤ w13.heap.size) := Lib.hid hch.size
    clear hch ho hbM
    have hc_b10 := HBb1.out.cell 0
    have hc_b11 := HBb1.out.cell 1
    have hc_b12 := HBb1.out.cell 2
    have hc_b40 := HBb4.out.cell 0
    have hc_b41 := HBb4.out.cell 1
    have hc_b42 := HBb4.out.cell 2
    have hc_b60 := HBb6.out.cell 0
    have hc_b61 := HBb6.out.cell 1
    have hc_b62 := HBb6.out.cell 2
    have hc_b80 := HBb8.out.cell 0
    have hc_b81 := HBb8.out.cell 1
    have hc_b82 := HBb8.out.cell 2
    go_wp2_with fail
    refine (eqWr_any zL (.slice ag7 zp.length cg7) (.slice aug7 zd.length cug7) (.slice ag3 zp.length cg3) (.slice aug3 zd.length cug3) zp zd _ (HOg7.out.readsP hz) (HOg7.out.readsD hz) (HOg3.out.readsP hz) (HOg3.out.readsD hz)).mono ?_
    rintro e w14 ⟨rfl, hb⟩
    clear hc_b10 hc_b11 hc_b12 hc_b40 hc_b41 hc_b42 hc_b60 hc_b61 hc_b62 hc_b80 hc_b81 hc_b82
    have HX := Lib.hid (HX.out.next hb)
    have HBb1 := Lib.hid (HBb1.out.below hb)
    have HBb4 := Lib.hid (HBb4.out.below hb)
    have HBb6 := Lib.hid (HBb6.out.below hb)
    have HBb8 := Lib.hid (HBb8.out.below hb)
    have HOg3 := Lib.hid (HOg3.out.below hb)
    have HOx5 := Lib.hid (HOx5.out.below hb)
    have HOg7 := Lib.hid (HOg7.out.below hb)
    have HMid := Lib.hid (HMid.out.trans (hb.mono HMid.out.size))
    have HZw14 : Hid (w13.heap.size ≤ w14.heap.size) := Lib.hid (hb.size)
    clear hb
    have hc_b10 := HBb1.out.cell 0
    have hc_b11 := HBb1.out.cell 1
    have hc_b12 := HBb1.out.cell 2
    have hc_b40 := HBb4.out.cell 0
    have hc_b41 := HBb4.out.cell 1
    have hc_b42 := HBb4.out.cell 2
    have hc_b60 := HBb6.out.cell 0
    have hc_b61 := HBb6.out.cell 1
    have hc_b62 := HBb6.out.cell 2
    have hc_b80 := HBb8.out.cell 0
    have hc_b81 := HBb8.out.cell 1
    have hc_b82 := HBb8.out.cell 2
    go_wp2_with fail
    refine (HOg7.out.mark (L := zL) (K := 1) hz (by omega)).mono ?_
    rintro e w15 ⟨rfl, hch, ho⟩
    clear hc_b10 hc_b11 hc_b12 hc_b40 hc_b41 hc_b42 hc_b60 hc_b61 hc_b62 hc_b80 hc_b81 hc_b82
    have hbM : Below w4.heap.size w14 w15 := hch.below (by have z0 := HZw1.out; have z1 := HZw2.out; have z2 := HZw3.out; have z3 := HZw4.out; have z4 := HZw5.out; have z5 := HZw6.out; have z6 := HZw7.out; have z7 := HZw8.out; have z8 := HZw9.out; have z9 := HZw10.out; have z10 := HZw11.out; have z11 := HZw12.out; have z12 := HZw13.out; have z13 := HZw14.out; omega) HMid.out.size
    have HX := Lib.hid (HX.out.nextAt HXm.out hbM)
    have HMid := Lib.hid (HMid.out.trans hbM)
    have HBb1 := Lib.hid (show Blk w15 (w.heap.size) #[.int .i64 L0, (.slice yv0 ps0.length cv0), (.slice yu0 ds0.length cu0)] 36 from (hch.block _ HBb1.out.lt (by have z0 := HZw1.out; have z1 := HZw2.out; have z2 := HZw3.out; have z3 := HZw4.out; have z4 := HZw5.out; have z5 := HZw6.out; have z6 := HZw7.out; have z7 := HZw8.out; have z8 := HZw9.out; have z9 := HZw10.out; have z10 := HZw11.out; have z11 := HZw12.out; have z12 := HZw13.out; have z13 := HZw14.out; omega)).trans HBb1.out)
    have HBb4 := Lib.hid (show Blk w15 (w4.heap.size) #[.int .i64 zL, (.slice ag3 zp.length cg3), (.slice aug3 zd.length cug3)] 39 from (hch.block _ HBb4.out.lt (by have z0 := HZw1.out; have z1 := HZw2.out; have z2 := HZw3.out; have z3 := HZw4.out; have z4 := HZw5.out; have z5 := HZw6.out; have z6 := HZw7.out; have z7 := HZw8.out; have z8 := HZw9.out; have z9 := HZw10.out; have z10 := HZw11.out; have z11 := HZw12.out; have z12 := HZw13.out; have z13 := HZw14.out; omega)).trans HBb4.out)
    have HBb6 := Lib.hid (show Blk w15 (w6.heap.size) #[.int .i64 L0, (.slice ax5 ps0.length cx5), (.slice ayx5 ds0.length cyx5)] 39 from (hch.block _ HBb6.out.lt (by have z0 := HZw1.out; have z1 := HZw2.out; have z2 := HZw3.out; have z3 := HZw4.out; have z4 := HZw5.out; have z5 := HZw6.out; have z6 := HZw7.out; have z7 := HZw8.out; have z8 := HZw9.out; have z9 := HZw10.out; have z10 := HZw11.out; have z11 := HZw12.out; have z12 := HZw13.out; have z13 := HZw14.out; omega)).trans HBb6.out)
    have HBb8 := Lib.hid (show Blk w15 (w8.heap.size) #[.int .i64 zL, (.slice ag7 zp.length cg7), (.slice aug7 zd.length cug7)] 39 from (hch.block _ HBb8.out.lt (by have z0 := HZw1.out; have z1 := HZw2.out; have z2 := HZw3.out; have z3 := HZw4.out; have z4 := HZw5.out; have z5 := HZw6.out; have z6 := HZw7.out; have z7 := HZw8.out; have z8 := HZw9.out; have z9 := HZw10.out; have z10 := HZw11.out; have z11 := HZw12.out; have z12 := HZw13.out; have z13 := HZw14.out; omega)).trans HBb8.out)
    have HOg3 := Lib.hid (HOg3.out.chg hch (by have z0 := HZw1.out; have z1 := HZw2.out; have z2 := HZw3.out; have z3 := HZw4.out; have z4 := HZw5.out; have z5 := HZw6.out; have z6 := HZw7.out; have z7 := HZw8.out; have z8 := HZw9.out; have z9 := HZw10.out; have z10 := HZw11.out; have z11 := HZw12.out; have z12 := HZw13.out; have z13 := HZw14.out; omega))
    have HOx5 := Lib.hid (HOx5.out.chg hch (by have z0 := HZw1.out; have z1 := HZw2.out; have z2 := HZw3.out; have z3 := HZw4.out; have z4 := HZw5.out; have z5 := HZw6.out; have z6 := HZw7.out; have z7 := HZw8.out; have z8 := HZw9.out; have z9 := HZw10.out; have z10 := HZw11.out; have z11 := HZw12.out; have z12 := HZw13.out; have z13 := HZw14.out; omega))
    have HOg7 := Lib.hid ho
    have HZw15 : Hid (w14.heap.size ≤ w15.heap.size) := Lib.hid hch.size
    clear hch ho hbM
    have hc_b10 := HBb1.out.cell 0
    have hc_b11 := HBb1.out.cell 1
    have hc_b12 := HBb1.out.cell 2
    have hc_b40 := HBb4.out.cell 0
    have hc_b41 := HBb4.out.cell 1
    have hc_b42 := HBb4.out.cell 2
    have hc_b60 := HBb6.out.cell 0
    have hc_b61 := HBb6.out.cell 1
    have hc_b62 := HBb6.out.cell 2
    have hc_b80 := HBb8.out.cell 0
    have hc_b81 := HBb8.out.cell 1
    have hc_b82 := HBb8.out.cell 2
    go_wp2_with fail
    refine (heldWr_any zL (.slice ag7 zp.length cg7) (.slice aug7 zd.length cug7) zp.length zd.length 1 _ (HOg7.out.readsP (by rw [mts_len, mts_len]; exact hz)) (HOg7.out.readsD (by rw [mts_len, mts_len]; exact hz)) hz (by omega)).mono ?_
    rintro e w16 ⟨rfl, hb⟩
    clear hc_b10 hc_b11 hc_b12 hc_b40 hc_b41 hc_b42 hc_b60 hc_b61 hc_b62 hc_b80 hc_b81 hc_b82
    have HX := Lib.hid (HX.out.next hb)
    have HBb1 := Lib.hid (HBb1.out.below hb)
    have HBb4 := Lib.hid (HBb4.out.below hb)
    have HBb6 := Lib.hid (HBb6.out.below hb)
    have HBb8 := Lib.hid (HBb8.out.below hb)
    have HOg3 := Lib.hid (HOg3.out.below hb)
    have HOx5 := Lib.hid (HOx5.out.below hb)
    have HOg7 := Lib.hid (HOg7.out.below hb)
    have HMid := Lib.hid (HMid.out.trans (hb.mono HMid.out.size))
    have HZw16 : Hid (w15.heap.size ≤ w16.heap.size) := Lib.hid (hb.size)
    clear hb
    have hc_b10 := HBb1.out.cell 0
    have hc_b11 := HBb1.out.cell 1
    have hc_b12 := HBb1.out.cell 2
    have hc_b40 := HBb4.out.cell 0
    have hc_b41 := HBb4.out.cell 1
    have hc_b42 := HBb4.out.cell 2
    have hc_b60 := HBb6.out.cell 0
    have hc_b61 := HBb6.out.cell 1
    have hc_b62 := HBb6.out.cell 2
    have hc_b80 := HBb8.out.cell 0
    have hc_b81 := HBb8.out.cell 1
    have hc_b82 := HBb8.out.cell 2
    go_wp2_with fail
    refine (toWr_any L0 (.slice yv0 ps0.length cv0) (.slice yu0 ds0.length cu0) ps0 ds0 _ (HV0.out.below HX.out.below) (HU0.out.below HX.out.below) hn0).mono ?_
    rintro e w17 ⟨x10, yx10, rfl, ho, hb⟩
    clear hc_b10 hc_b11 hc_b12 hc_b40 hc_b41 hc_b42 hc_b60 hc_b61 hc_b62 hc_b80 hc_b81 hc_b82
    have HX := Lib.hid (HX.out.next hb)
    have HBb1 := Lib.hid (HBb1.out.below hb)
    have HBb4 := Lib.hid (HBb4.out.below hb)
    have HBb6 := Lib.hid (HBb6.out.below hb)
    have HBb8 := Lib.hid (HBb8.out.below hb)
    have HOg3 := Lib.hid (HOg3.out.below hb)
    have HOx5 := Lib.hid (HOx5.out.below hb)
    have HOg7 := Lib.hid (HOg7.out.below hb)
    have HMid := Lib.hid (HMid.out.trans (hb.mono HMid.out.size))
    have HZw17 : Hid (w16.heap.size ≤ w17.heap.size) := Lib.hid (hb.size)
    obtain ⟨⟨ax10, cx10, hsx10⟩, ⟨ayx10, cyx10, hsyx10⟩⟩ := ho.shape
    subst hsx10 hsyx10
    have HOx10 := Lib.hid ho
    clear ho
    clear hb
    have hc_b10 := HBb1.out.cell 0
    have hc_b11 := HBb1.out.cell 1
    have hc_b12 := HBb1.out.cell 2
    have hc_b40 := HBb4.out.cell 0
    have hc_b41 := HBb4.out.cell 1
    have hc_b42 := HBb4.out.cell 2
    have hc_b60 := HBb6.out.cell 0
    have hc_b61 := HBb6.out.cell 1
    have hc_b62 := HBb6.out.cell 2
    have hc_b80 := HBb8.out.cell 0
    have hc_b81 := HBb8.out.cell 1
    have hc_b82 := HBb8.out.cell 2
    go_wp2_with fail
    refine (HI.out (.slice ax10 ps0.length cx10) (.slice ayx10 ds0.length cyx10) _ (HOx10.out.readsP hn0) (HOx10.out.readsD hn0)).mono ?_
    rintro e w18 ⟨g11, ug11, rfl, ho, hb⟩
    clear hc_b10 hc_b11 hc_b12 hc_b40 hc_b41 hc_b42 hc_b60 hc_b61 hc_b62 hc_b80 hc_b81 hc_b82
    have HX := Lib.hid (HX.out.next hb)
    have HBb1 := Lib.hid (HBb1.out.below hb)
    have HBb4 := Lib.hid (HBb4.out.below hb)
    have HBb6 := Lib.hid (HBb6.out.below hb)
    have HBb8 := Lib.hid (HBb8.out.below hb)
    have HOg3 := Lib.hid (HOg3.out.below hb)
    have HOx5 := Lib.hid (HOx5.out.below hb)
    have HOg7 := Lib.hid (HOg7.out.below hb)
    have HOx10 := Lib.hid (HOx10.out.below hb)
    have HMid := Lib.hid (HMid.out.trans (hb.mono HMid.out.size))
    have HZw18 : Hid (w17.heap.size ≤ w18.heap.size) := Lib.hid (hb.size)
    obtain ⟨⟨ag11, cg11, hsg11⟩, ⟨aug11, cug11, hsug11⟩⟩ := ho.shape
    subst hsg11 hsug11
    have HOg11 := Lib.hid ho
    clear ho
    clear hb
    have HX := Lib.hid (HX.out.next (below_new w18 (.cells #[.int .i64 zL, (.slice ag11 zp.length cg11), (.slice aug11 zd.length cug11)] 39)))
    have HBb1 := Lib.hid (HBb1.out.below (below_new w18 (.cells #[.int .i64 zL, (.slice ag11 zp.length cg11), (.slice aug11 zd.length cug11)] 39)))
    have HBb4 := Lib.hid (HBb4.out.below (below_new w18 (.cells #[.int .i64 zL, (.slice ag11 zp.length cg11), (.slice aug11 zd.length cug11)] 39)))
    have HBb6 := Lib.hid (HBb6.out.below (below_new w18 (.cells #[.int .i64 zL, (.slice ag11 zp.length cg11), (.slice aug11 zd.length cug11)] 39)))
    have HBb8 := Lib.hid (HBb8.out.below (below_new w18 (.cells #[.int .i64 zL, (.slice ag11 zp.length cg11), (.slice aug11 zd.length cug11)] 39)))
    have HOg3 := Lib.hid (HOg3.out.below (below_new w18 (.cells #[.int .i64 zL, (.slice ag11 zp.length cg11), (.slice aug11 zd.length cug11)] 39)))
    have HOx5 := Lib.hid (HOx5.out.below (below_new w18 (.cells #[.int .i64 zL, (.slice ag11 zp.length cg11), (.slice aug11 zd.length cug11)] 39)))
    have HOg7 := Lib.hid (HOg7.out.below (below_new w18 (.cells #[.int .i64 zL, (.slice ag11 zp.length cg11), (.slice aug11 zd.length cug11)] 39)))
    have HOx10 := Lib.hid (HOx10.out.below (below_new w18 (.cells #[.int .i64 zL, (.slice ag11 zp.length cg11), (.slice aug11 zd.length cug11)] 39)))
    have HOg11 := Lib.hid (HOg11.out.below (below_new w18 (.cells #[.int .i64 zL, (.slice ag11 zp.length cg11), (.slice aug11 zd.length cug11)] 39)))
    have HMid := Lib.hid (HMid.out.trans ((below_new w18 (.cells #[.int .i64 zL, (.slice ag11 zp.length cg11), (.slice aug11 zd.length cug11)] 39)).mono HMid.out.size))
    have HBb12 := Lib.hid (blk_new w18 #[.int .i64 zL, (.slice ag11 zp.length cg11), (.slice aug11 zd.length cug11)] 39)
    have HZw19 : Hid (w18.heap.size < (w18.alloc (.cells #[.int .i64 zL, (.slice ag11 zp.length cg11), (.slice aug11 zd.length cug11)] 39)).heap.size) := Lib.hid (by simp)
    have hc_b10 := HBb1.out.cell 0
    have hc_b11 := HBb1.out.cell 1
    have hc_b12 := HBb1.out.cell 2
    have hc_b40 := HBb4.out.cell 0
    have hc_b41 := HBb4.out.cell 1
    have hc_b42 := HBb4.out.cell 2
    have hc_b60 := HBb6.out.cell 0
    have hc_b61 := HBb6.out.cell 1
    have hc_b62 := HBb6.out.cell 2
    have hc_b80 := HBb8.out.cell 0
    have hc_b81 := HBb8.out.cell 1
    have hc_b82 := HBb8.out.cell 2
    have hc_b120 := HBb12.out.cell 0
    have hc_b121 := HBb12.out.cell 1
    have hc_b122 := HBb12.out.cell 2
    go_wp2_with fail
    generalize w18.alloc (.cells #[.int .i64 zL, (.slice ag11 zp.length cg11), (.slice aug11 zd.length cug11)] 39) = w19 at *
    clear HOx10
    refine (eqWr_any zL (.slice ag11 zp.length cg11) (.slice aug11 zd.length cug11) (.slice ag3 zp.length cg3) (.slice aug3 zd.length cug3) zp zd _ (HOg11.out.readsP hz) (HOg11.out.readsD hz) (HOg3.out.readsP hz) (HOg3.out.readsD hz)).mono ?_
    rintro e w20 ⟨rfl, hb⟩
    clear hc_b10 hc_b11 hc_b12 hc_b40 hc_b41 hc_b42 hc_b60 hc_b61 hc_b62 hc_b80 hc_b81 hc_b82 hc_b120 hc_b121 hc_b122
    have HX := Lib.hid (HX.out.next hb)
    have HBb1 := Lib.hid (HBb1.out.below hb)
    have HBb4 := Lib.hid (HBb4.out.below hb)
    have HBb6 := Lib.hid (HBb6.out.below hb)
    have HBb8 := Lib.hid (HBb8.out.below hb)
    have HBb12 := Lib.hid (HBb12.out.below hb)
    have HOg3 := Lib.hid (HOg3.out.below hb)
    have HOx5 := Lib.hid (HOx5.out.below hb)
    have HOg7 := Lib.hid (HOg7.out.below hb)
    have HOg11 := Lib.hid (HOg11.out.below hb)
    have HMid := Lib.hid (HMid.out.trans (hb.mono HMid.out.size))
    have HZw20 : Hid (w19.heap.size ≤ w20.heap.size) := Lib.hid (hb.size)
    clear hb
    have hc_b10 := HBb1.out.cell 0
    have hc_b11 := HBb1.out.cell 1
    have hc_b12 := HBb1.out.cell 2
    have hc_b40 := HBb4.out.cell 0
    have hc_b41 := HBb4.out.cell 1
    have hc_b42 := HBb4.out.cell 2
    have hc_b60 := HBb6.out.cell 0
    have hc_b61 := HBb6.out.cell 1
    have hc_b62 := HBb6.out.cell 2
    have hc_b80 := HBb8.out.cell 0
    have hc_b81 := HBb8.out.cell 1
    have hc_b82 := HBb8.out.cell 2
    have hc_b120 := HBb12.out.cell 0
    have hc_b121 := HBb12.out.cell 1
    have hc_b122 := HBb12.out.cell 2
    go_wp2_with fail
    refine (heldWr_any zL (.slice ag7 zp.length cg7) (.slice aug7 zd.length cug7) zp.length zd.length 1 _ (HOg7.out.readsP (by rw [mts_len, mts_len]; exact hz)) (HOg7.out.readsD (by rw [mts_len, mts_len]; exact hz)) hz (by omega)).mono ?_
    rintro e w21 ⟨rfl, hb⟩
    clear hc_b10 hc_b11 hc_b12 hc_b40 hc_b41 hc_b42 hc_b60 hc_b61 hc_b62 hc_b80 hc_b81 hc_b82 hc_b120 hc_b121 hc_b122
    have HX := Lib.hid (HX.out.next hb)
    have HBb1 := Lib.hid (HBb1.out.below hb)
    have HBb4 := Lib.hid (HBb4.out.below hb)
    have HBb6 := Lib.hid (HBb6.out.below hb)
    have HBb8 := Lib.hid (HBb8.out.below hb)
    have HBb12 := Lib.hid (HBb12.out.below hb)
    have HOg3 := Lib.hid (HOg3.out.below hb)
    have HOx5 := Lib.hid (HOx5.out.below hb)
    have HOg7 := Lib.hid (HOg7.out.below hb)
    have HOg11 := Lib.hid (HOg11.out.below hb)
    have HMid := Lib.hid (HMid.out.trans (hb.mono HMid.out.size))
    have HZw21 : Hid (w20.heap.size ≤ w21.heap.size) := Lib.hid (hb.size)
    clear hb
    go_wp2_with fail
    go_ret
    exact ⟨rfl, HX.out.below⟩
set_option maxHeartbeats 800000 in
theorem law_long (L0 : Int) (v0 u0 : Value) (ps0 ds0 : List Int) (w : World) (hv0 : ReadsI w v0 ps0) (hu0 : ReadsI w u0 ds0) (hlong : 1048576 < ps0.length + ds0.length) :
    Calls Try.prog 18 #[wrV L0 v0 u0] w fun e w' => e = .returned (.bool true) ∧ Below w.heap.size w w' := by
  have HN := Lib.hid (fun w h1 h2 => szWr_no L0 v0 u0 ps0 ds0 1048576 w h1 h2 (by omega) hlong)
  have HX := Lib.hid (below_new w (.cells (wrC L0 v0 u0) 36))
  have HBX := Lib.hid (blk_new w (wrC L0 v0 u0) 36)
  have HV := Lib.hid (hv0.below HX.out)
  have HU := Lib.hid (hu0.below HX.out)
  obtain ⟨ya, yc, rfl, _⟩ := hv0
  obtain ⟨za, zc, rfl, _⟩ := hu0
  generalize hpl : ps0.length = pl at *
  generalize hdl : ds0.length = dl at *
  clear hpl hdl
  unfold wrV wrC at *
  go_enter Try.func18, Try.ntmps18
  go_wp2_with fail
  refine (HN.out _ HV.out HU.out).mono ?_
  rintro e w2 ⟨rfl, hb⟩
  have HX := Lib.hid (HX.out.trans (hb.mono HX.out.size))
  clear hb
  go_wp2_with fail
  go_ret
  exact ⟨rfl, HX.out⟩

theorem walk (L0 : Int) (v0 u0 : Value) (ps0 ds0 : List Int) (w : World) (hv0 : ReadsI w v0 ps0) (hu0 : ReadsI w u0 ds0) :
    Calls Try.prog 18 #[wrV L0 v0 u0] w fun e w' => e = .returned (.bool true) ∧ Below w.heap.size w w' := by
  by_cases h : 1048576 < ps0.length + ds0.length
  · exact law_long L0 v0 u0 ps0 ds0 w hv0 hu0 h
  · exact law_two L0 v0 u0 ps0 ds0 ((mirrorWR L0 ps0 ds0)).1 ((mirrorWR L0 ps0 ds0)).2.1 ((mirrorWR L0 ps0 ds0)).2.2.1 ((mirrorWR L0 ps0 ds0)).2.2.2 (mirrorWR_len L0 ps0 ds0) w hv0 hu0 (by omega) (fun x y w h1 h2 => spec_MirrorWire L0 x y ps0 ds0 w h1 h2) (fun x y w h1 h2 => impl_MirrorWire L0 x y ps0 ds0 w h1 h2)
end Go.Proofs.Ythbmiigndhoopaa.fnExactMirrorWire
