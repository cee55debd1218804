/-
  What is proved: the walk of the law FnExactMirrorWalker: for every input impl.MirrorWalker answers as the model does, its arguments read as before, and its answer is memory of its own. Conditions: none beyond the row's own.
-/
import Derived.Test.YtcpembfioelnlaaMeo
namespace Go.Proofs.Ytcpembfioelnlaa.fnExactMirrorWalker
open Go.RowKit
set_option linter.unusedVariables false
set_option linter.unusedSimpArgs false

set_option maxHeartbeats 3200000 in
set_option maxRecDepth 20000 in
theorem law_two (n : Int) (g : Bool) (k1 : Wk) (v1 : Value) (z : Wk) (b : Bool) (hz : z.ms.length ≤ 1048576) (w : World) (hv1 : ReadsI w v1 k1.ms) (hn1 : k1.ms.length ≤ 1048576)
    (hm : ∀ (u1 : Value) (w : World), ReadsI w u1 k1.ms → Calls Try.prog 21 #[rd n g, wkv k1 u1] w (OwnsWB w.heap.size z b w))
    (hi : ∀ (u1 : Value) (w : World), ReadsI w u1 k1.ms → Calls Try.prog 22 #[rd n g, wkv k1 u1] w (OwnsWB w.heap.size z b w)) :
    Calls Try.prog 5 #[rd n g, wkv k1 v1] w fun e w' => e = .returned (.bool true) ∧ Below w.heap.size w w' := by
  have HM := Lib.hid hm
  have HI := Lib.hid hi
  have HT := Lib.hid (fun w => toRoad_any n g w)
  have hnm : k1.ms.length ≤ maxLen := by unfold maxLen; omega
  have Hnk1_ms := Lib.hid hnm
  have Hbk1_ms := Lib.hid hn1
  clear hnm
  have HV1 := Lib.hid hv1
  have hnm : z.ms.length ≤ maxLen := by unfold maxLen; omega
  have Hnz_ms := Lib.hid hnm
  have Hbz_ms := Lib.hid hz
  clear hnm
  obtain ⟨y1, c1, hvv1, _⟩ := hv1
  subst hvv1
  clear hm hi
  have HX := Lib.hid (Boxed.first w n g 23)
  have HX := Lib.hid (HX.out.next (below_new _ (.cells #[.int .i64 k1.s, .int .i64 k1.f, .int .i64 k1.d, (.slice y1 k1.ms.length c1)] 26)))
  have HBb1 := Lib.hid (blk_at (w.alloc (.cells #[.int .i64 n, .bool g] 23)) #[.int .i64 k1.s, .int .i64 k1.f, .int .i64 k1.d, (.slice y1 k1.ms.length c1)] 26 (w.heap.size + 1) (by simp))
  unfold wkv rd at *
  go_enter Try.func5, Try.ntmps5
  go_wp2_with fail
  have HZw1 : Hid (w.heap.size + 2 ≤ ((w.alloc (.cells #[.int .i64 n, .bool g] 23)).alloc (.cells #[.int .i64 k1.s, .int .i64 k1.f, .int .i64 k1.d, (.slice y1 k1.ms.length c1)] 26)).heap.size) := Lib.hid (by simp)
  generalize ((w.alloc (.cells #[.int .i64 n, .bool g] 23)).alloc (.cells #[.int .i64 k1.s, .int .i64 k1.f, .int .i64 k1.d, (.slice y1 k1.ms.length c1)] 26)) = w1 at *
  have hb0 := HX.out.c0
  have hb1 := HX.out.c1
  have hc_b10 := HBb1.out.cell 0
  have hc_b11 := HBb1.out.cell 1
  have hc_b12 := HBb1.out.cell 2
  have hc_b13 := HBb1.out.cell 3
  refine (szW_yes k1 (.slice y1 k1.ms.length c1) (1048576) _ (HV1.out.below HX.out.below) (by omega) (by omega)).mono ?_
  rintro e w2 ⟨rfl, hb⟩
  clear hb0 hb1 hc_b10 hc_b11 hc_b12 hc_b13
  have HX := Lib.hid (HX.out.next hb)
  have HBb1 := Lib.hid (HBb1.out.below hb)
  have HZw2 : Hid (w1.heap.size ≤ w2.heap.size) := Lib.hid (hb.size)
  clear hb
  have hb0 := HX.out.c0
  have hb1 := HX.out.c1
  have hc_b10 := HBb1.out.cell 0
  have hc_b11 := HBb1.out.cell 1
  have hc_b12 := HBb1.out.cell 2
  have hc_b13 := HBb1.out.cell 3
  go_upto_region 5 with (fail)
  clear hb0 hb1 hc_b10 hc_b11 hc_b12 hc_b13
  go_cut [6, 7] from 21 to 28 (fun p c w3 => GotW z b p c w2 w3)
  case first =>
    have HF := Lib.hid (below_drewN w2 1)
    have HX := Lib.hid (HX.out.next (below_drewN _ 1))
    have HBb1 := Lib.hid (HBb1.out.below (below_drewN _ 1))
    refine wp_region_noPanic ?_
    refine wp_region_held_drew (S := fun w' => Boxed w.heap.size n g w w' ∧ w'.cell? ⟨w.heap.size, 0, none⟩ = some (.int .i64 n) ∧ w'.cell? ⟨w.heap.size, 1, none⟩ = some (.bool g) ∧ Blk w' (w.heap.size + 1) #[.int .i64 k1.s, .int .i64 k1.f, .int .i64 k1.d, (.slice y1 k1.ms.length c1)] 26 ∧ w'.cell? ⟨w.heap.size + 1, 0, none⟩ = some (.int .i64 k1.s) ∧ w'.cell? ⟨w.heap.size + 1, 1, none⟩ = some (.int .i64 k1.f) ∧ w'.cell? ⟨w.heap.size + 1, 2, none⟩ = some (.int .i64 k1.d) ∧ w'.cell? ⟨w.heap.size + 1, 3, none⟩ = some ((.slice y1 k1.ms.length c1))) (by kernel_rfl) (⟨HX.out, HX.out.c0, HX.out.c1, HBb1.out, HBb1.out.cell 0, HBb1.out.cell 1, HBb1.out.cell 2, HBb1.out.cell 3⟩) (fun hHeld => ?_)
    refine wpAnyH_take (i := 0) (oi := _) (v := ?_) rfl (by kernel_rfl) (by kernel_rfl) (by kernel_rfl) (fun _ _ _ h => h) (Or.inl ⟨by rfl, ?_⟩) (by assumption) ?_
    rotate_left
    · (intro w hSw; (try dsimp only at hSw); (first | (go_simp; done) | (go_simp; with_reducible rfl)))
    simp only [Act.put, List.getElem_toArray, List.getElem_cons_succ, List.getElem_cons_zero, List.setIfInBounds_toArray, List.set_cons_zero, List.set_cons_succ]
    refine wpAnyH_take (i := 2) (oi := _) (v := ?_) rfl (by kernel_rfl) (by kernel_rfl) (by kernel_rfl) (fun _ _ _ h => h) (Or.inl ⟨by rfl, ?_⟩) (by assumption) ?_
    rotate_left
    · (intro w hSw; (try dsimp only at hSw); (first | (go_simp; done) | (go_simp; with_reducible rfl)))
    simp only [Act.put, List.getElem_toArray, List.getElem_cons_succ, List.getElem_cons_zero, List.setIfInBounds_toArray, List.set_cons_zero, List.set_cons_succ]
    refine wpAnyH_ready (rs := [1, 8]) (by kernel_rfl) (by simp) ?_
    refine AllReadyH.cons rfl (fun K hK => ?_) (AllReadyH.cons rfl (fun K hK => ?_) AllReadyH.nil)
    · skip
      go_simp
      refine (HT.out _).mono ?_
      rintro e w4 ⟨rfl, hb⟩
      have HX := Lib.hid (HX.out.next hb)
      have HBb1 := Lib.hid (HBb1.out.below hb)
      have HF := Lib.hid (HF.out.trans (hb.mono HF.out.size))
      have HZw4 : Hid (w2.heap.size ≤ w4.heap.size) := Lib.hid (hb.size)
      clear hb hHeld
      go_wp2_with fail
      refine hK.out _ _ (⟨HX.out, HX.out.c0, HX.out.c1, HBb1.out, HBb1.out.cell 0, HBb1.out.cell 1, HBb1.out.cell 2, HBb1.out.cell 3⟩) (fun hHeld => ?_)
      clear hK K
      refine wpAnyH_ready (rs := [3, 8]) (by kernel_rfl) (by simp) ?_
      refine AllReadyH.cons rfl (fun K hK => ?_) (AllReadyH.cons rfl (fun K hK => ?_) AllReadyH.nil)
      · skip
        go_simp
        refine (toW_any k1 (.slice y1 k1.ms.length c1) _ (HV1.out.below HX.out.below) hn1).mono ?_
        rintro e w5 ⟨x2, rfl, ho, hb⟩
        have HX := Lib.hid (HX.out.next hb)
        have HBb1 := Lib.hid (HBb1.out.below hb)
        have HF := Lib.hid (HF.out.trans (hb.mono HF.out.size))
        have HZw5 : Hid (w4.heap.size ≤ w5.heap.size) := Lib.hid (hb.size)
        have HRx2 : Hid (∀ b, x2.ownBlock = some b → w4.heap.size ≤ b ∧ b < w5.heap.size) := Lib.hid (fun b hb => owns_block ho b hb)
        obtain ⟨ax2, cx2, hsx2, _⟩ := owns_shape ho
        subst hsx2
        have HOx2 := Lib.hid ho
        clear ho
        clear hb hHeld
        go_wp2_with fail
        refine hK.out _ _ (⟨HX.out, HX.out.c0, HX.out.c1, HBb1.out, HBb1.out.cell 0, HBb1.out.cell 1, HBb1.out.cell 2, HBb1.out.cell 3⟩) (fun hHeld => ?_)
        clear hK K
        refine wpAnyH_ready (rs := [4, 8]) (by kernel_rfl) (by simp) ?_
        refine AllReadyH.cons rfl (fun K hK => ?_) (AllReadyH.cons rfl (fun K hK => ?_) AllReadyH.nil)
        · skip
          go_simp
          refine (HM.out (.slice ax2 k1.ms.length cx2) _ (owns_reads HOx2.out Hnk1_ms.out)).mono ?_
          rintro e w6 ⟨g3, rfl, ho, hb⟩
          have HX := Lib.hid (HX.out.next hb)
          have HBb1 := Lib.hid (HBb1.out.below hb)
          have HOx2 := Lib.hid (owns_below HOx2.out hb)
          have HF := Lib.hid (HF.out.trans (hb.mono HF.out.size))
          have HZw6 : Hid (w5.heap.size ≤ w6.heap.size) := Lib.hid (hb.size)
          have HRg3 : Hid (∀ b, g3.ownBlock = some b → w5.heap.size ≤ b ∧ b < w6.heap.size) := Lib.hid (fun b hb => owns_block ho b hb)
          obtain ⟨ag3, cg3, hsg3, _⟩ := owns_shape ho
          subst hsg3
          have HOg3 := Lib.hid ho
          clear ho
          clear hb hHeld
          go_wp2_with fail
          refine hK.out _ _ (⟨HX.out, HX.out.c0, HX.out.c1, HBb1.out, HBb1.out.cell 0, HBb1.out.cell 1, HBb1.out.cell 2, HBb1.out.cell 3⟩) (fun hHeld => ?_)
          clear hK K
          refine wpAnyH_take (i := 5) (oi := _) (v := ?_) rfl (by kernel_rfl) (by kernel_rfl) (by kernel_rfl) (fun _ _ _ h => h) (Or.inl ⟨by rfl, ?_⟩) (by assumption) ?_
          rotate_left
          · (intro w hSw; (try dsimp only at hSw); (first | (go_simp; done) | (go_simp; with_reducible rfl)))
          simp only [Act.put, List.getElem_toArray, List.getElem_cons_succ, List.getElem_cons_zero, List.setIfInBounds_toArray, List.set_cons_zero, List.set_cons_succ]
          refine wpAnyH_take (i := 6) (oi := _) (v := ?_) rfl (by kernel_rfl) (by kernel_rfl) (by kernel_rfl) (fun _ _ _ h => h) (Or.inl ⟨by rfl, ?_⟩) (by assumption) ?_
          rotate_left
          · (intro w hSw; (try dsimp only at hSw); (first | (go_simp; done) | (go_simp; with_reducible rfl)))
          simp only [Act.put, List.getElem_toArray, List.getElem_cons_succ, List.getElem_cons_zero, List.setIfInBounds_toArray, List.set_cons_zero, List.set_cons_succ]
          refine wpAnyH_take (i := 7) (oi := _) (v := ?_) rfl (by kernel_rfl) (by kernel_rfl) (by kernel_rfl) (fun _ _ _ h => h) (Or.inl ⟨by rfl, ?_⟩) (by assumption) ?_
          rotate_left
          · (intro w hSw; (try dsimp only at hSw); (first | (go_simp; done) | (go_simp; with_reducible rfl)))
          simp only [Act.put, List.getElem_toArray, List.getElem_cons_succ, List.getElem_cons_zero, List.setIfInBounds_toArray, List.set_cons_zero, List.set_cons_succ]
          refine wpAnyH_ready (rs := [8]) (by kernel_rfl) (by simp) ?_
          refine AllReadyH.cons rfl (fun K hK => ?_) AllReadyH.nil
          go_simp
          have HA := Lib.hid (show Blk (w6.alloc (.cells #[.int .i64 0, .int .i64 0, .int .i64 0, .slice none 0 0] 32)) (w6.heap.size) #[.int .i64 0, .int .i64 0, .int .i64 0, .slice none 0 0] 32 from blk_at w6 #[.int .i64 0, .int .i64 0, .int .i64 0, .slice none 0 0] 32 (w6.heap.size) rfl)
          have HX := Lib.hid (HX.out.next (show Below w6.heap.size w6 (w6.alloc (.cells #[.int .i64 0, .int .i64 0, .int .i64 0, .slice none 0 0] 32)) from below_new w6 (.cells #[.int .i64 0, .int .i64 0, .int .i64 0, .slice none 0 0] 32)))
          have HBb1 := Lib.hid (HBb1.out.below (show Below w6.heap.size w6 (w6.alloc (.cells #[.int .i64 0, .int .i64 0, .int .i64 0, .slice none 0 0] 32)) from below_new w6 (.cells #[.int .i64 0, .int .i64 0, .int .i64 0, .slice none 0 0] 32)))
          have HOx2 := Lib.hid (owns_below HOx2.out (show Below w6.heap.size w6 (w6.alloc (.cells #[.int .i64 0, .int .i64 0, .int .i64 0, .slice none 0 0] 32)) from below_new w6 (.cells #[.int .i64 0, .int .i64 0, .int .i64 0, .slice none 0 0] 32)))
          have HOg3 := Lib.hid (owns_below HOg3.out (show Below w6.heap.size w6 (w6.alloc (.cells #[.int .i64 0, .int .i64 0, .int .i64 0, .slice none 0 0] 32)) from below_new w6 (.cells #[.int .i64 0, .int .i64 0, .int .i64 0, .slice none 0 0] 32)))
          have HF := Lib.hid (HF.out.trans ((show Below w6.heap.size w6 (w6.alloc (.cells #[.int .i64 0, .int .i64 0, .int .i64 0, .slice none 0 0] 32)) from below_new w6 (.cells #[.int .i64 0, .int .i64 0, .int .i64 0, .slice none 0 0] 32)).mono HF.out.size))
          have HZw7 : Hid (w6.heap.size < (w6.alloc (.cells #[.int .i64 0, .int .i64 0, .int .i64 0, .slice none 0 0] 32)).heap.size) := Lib.hid (by simp)
          clear hHeld
          refine hK.out _ _ (⟨HX.out, HX.out.c0, HX.out.c1, HBb1.out, HBb1.out.cell 0, HBb1.out.cell 1, HBb1.out.cell 2, HBb1.out.cell 3⟩) (fun hHeld => ?_)
          clear hK K
          generalize w6.alloc (.cells #[.int .i64 0, .int .i64 0, .int .i64 0, .slice none 0 0] 32) = w7 at *
          refine wpAnyH_ready (rs := [9]) (by kernel_rfl) (by simp) ?_
          refine AllReadyH.cons rfl (fun K hK => ?_) AllReadyH.nil
          have a0 := HA.out.cell 0
          have f0 := HA.out.free 0
          have a1 := HA.out.cell 1
          have f1 := HA.out.free 1
          have a2 := HA.out.cell 2
          have f2 := HA.out.free 2
          have a3 := HA.out.cell 3
          have f3 := HA.out.free 3
          have hB4 := below_set4 w7 (w6.heap.size) w2.heap.size (by have z0 := HZw1.out; have z1 := HZw2.out; have z2 := HZw4.out; have z3 := HZw5.out; have z4 := HZw6.out; have z5 := HZw7.out; omega) (.int .i64 z.s) (.int .i64 z.f) (.int .i64 z.d) (.slice ag3 z.ms.length cg3)
          have HAN := Lib.hid (blk_set4 HA.out (.int .i64 z.s) (.int .i64 z.f) (.int .i64 z.d) (.slice ag3 z.ms.length cg3))
          have HON := Lib.hid (own_apart4 (b := w6.heap.size) HOg3.out (fun b h => by have l := HRg3.out b h; have z0 := HZw1.out; have z1 := HZw2.out; have z2 := HZw4.out; have z3 := HZw5.out; have z4 := HZw6.out; have z5 := HZw7.out; omega) (.int .i64 z.s) (.int .i64 z.f) (.int .i64 z.d) (.slice ag3 z.ms.length cg3))
          have HSN := Lib.hid (size_set4 w7 (w6.heap.size) (.int .i64 z.s) (.int .i64 z.f) (.int .i64 z.d) (.slice ag3 z.ms.length cg3))
          have HX := Lib.hid (HX.out.nextAt (m := w2.heap.size) (by have z0 := HZw1.out; have z1 := HZw2.out; have z2 := HZw4.out; have z3 := HZw5.out; have z4 := HZw6.out; have z5 := HZw7.out; omega) hB4)
          have HBb1 := Lib.hid (HBb1.out.belowAt (m := w2.heap.size) (by have z0 := HZw1.out; have z1 := HZw2.out; have z2 := HZw4.out; have z3 := HZw5.out; have z4 := HZw6.out; have z5 := HZw7.out; omega) hB4)
          have HF := Lib.hid (HF.out.trans hB4)
          clear hB4 HA
          go_simp
          clear hHeld
          refine hK.out _ _ (⟨HX.out, HX.out.c0, HX.out.c1, HBb1.out, HBb1.out.cell 0, HBb1.out.cell 1, HBb1.out.cell 2, HBb1.out.cell 3⟩) (fun hHeld => ?_)
          clear hK K a0 a1 a2 a3 f0 f1 f2 f3
          generalize (((w7.setCell ⟨w6.heap.size, 0, none⟩ (.int .i64 z.s)).setCell ⟨w6.heap.size, 1, none⟩ (.int .i64 z.f)).setCell ⟨w6.heap.size, 2, none⟩ (.int .i64 z.d)).setCell ⟨w6.heap.size, 3, none⟩ (.slice ag3 z.ms.length cg3) = w8 at *
          refine wpAnyH_take (i := 10) (oi := _) (v := ?_) rfl (by kernel_rfl) (by kernel_rfl) (by kernel_rfl) (fun _ _ _ h => h) (Or.inl ⟨by rfl, ?_⟩) (by assumption) ?_
          rotate_left
          · (intro w hSw; (try dsimp only at hSw); (first | (go_simp; done) | (go_simp; with_reducible rfl)))
          simp only [Act.put, List.getElem_toArray, List.getElem_cons_succ, List.getElem_cons_zero, List.setIfInBounds_toArray, List.set_cons_zero, List.set_cons_succ]
          refine wpAnyH_done (by kernel_rfl) ?_ _
          refine NoPanic.normal ?_
          clear hHeld
          go_wp2_with fail
          go_meet
          exact ⟨w6.heap.size, (.slice ag3 z.ms.length cg3), rfl, rfl, by have z0 := HSN.out; have y0 := HZw1.out; have y1 := HZw2.out; have y2 := HZw4.out; have y3 := HZw5.out; have y4 := HZw6.out; have y5 := HZw7.out; omega, HAN.out, owns_lower HON.out (by have z0 := HZw1.out; have z1 := HZw2.out; have z2 := HZw4.out; have z3 := HZw5.out; have z4 := HZw6.out; have z5 := HZw7.out; omega), fun b h => by have l := HRg3.out b h; have z0 := HSN.out; have y0 := HZw1.out; have y1 := HZw2.out; have y2 := HZw4.out; have y3 := HZw5.out; have y4 := HZw6.out; have y5 := HZw7.out; omega, HF.out⟩
        · skip
          go_simp
          have HA := Lib.hid (show Blk (w5.alloc (.cells #[.int .i64 0, .int .i64 0, .int .i64 0, .slice none 0 0] 32)) (w5.heap.size) #[.int .i64 0, .int .i64 0, .int .i64 0, .slice none 0 0] 32 from blk_at w5 #[.int .i64 0, .int .i64 0, .int .i64 0, .slice none 0 0] 32 (w5.heap.size) rfl)
          have HX := Lib.hid (HX.out.next (show Below w5.heap.size w5 (w5.alloc (.cells #[.int .i64 0, .int .i64 0, .int .i64 0, .slice none 0 0] 32)) from below_new w5 (.cells #[.int .i64 0, .int .i64 0, .int .i64 0, .slice none 0 0] 32)))
          have HBb1 := Lib.hid (HBb1.out.below (show Below w5.heap.size w5 (w5.alloc (.cells #[.int .i64 0, .int .i64 0, .int .i64 0, .slice none 0 0] 32)) from below_new w5 (.cells #[.int .i64 0, .int .i64 0, .int .i64 0, .slice none 0 0] 32)))
          have HOx2 := Lib.hid (owns_below HOx2.out (show Below w5.heap.size w5 (w5.alloc (.cells #[.int .i64 0, .int .i64 0, .int .i64 0, .slice none 0 0] 32)) from below_new w5 (.cells #[.int .i64 0, .int .i64 0, .int .i64 0, .slice none 0 0] 32)))
          have HF := Lib.hid (HF.out.trans ((show Below w5.heap.size w5 (w5.alloc (.cells #[.int .i64 0, .int .i64 0, .int .i64 0, .slice none 0 0] 32)) from below_new w5 (.cells #[.int .i64 0, .int .i64 0, .int .i64 0, .slice none 0 0] 32)).mono HF.out.size))
          have HZw9 : Hid (w5.heap.size < (w5.alloc (.cells #[.int .i64 0, .int .i64 0, .int .i64 0, .slice none 0 0] 32)).heap.size) := Lib.hid (by simp)
          clear hHeld
          refine hK.out _ _ (⟨HX.out, HX.out.c0, HX.out.c1, HBb1.out, HBb1.out.cell 0, HBb1.out.cell 1, HBb1.out.cell 2, HBb1.out.cell 3⟩) (fun hHeld => ?_)
          clear hK K
          generalize w5.alloc (.cells #[.int .i64 0, .int .i64 0, .int .i64 0, .slice none 0 0] 32) = w9 at *
          refine wpAnyH_ready (rs := [4]) (by kernel_rfl) (by simp) ?_
          refine AllReadyH.cons rfl (fun K hK => ?_) AllReadyH.nil
          go_simp
          refine (HM.out (.slice ax2 k1.ms.length cx2) _ (owns_reads HOx2.out Hnk1_ms.out)).mono ?_
          rintro e w10 ⟨g4, rfl, ho, hb⟩
          have HX := Lib.hid (HX.out.next hb)
          have HBb1 := Lib.hid (HBb1.out.below hb)
          have HOx2 := Lib.hid (owns_below HOx2.out hb)
          have HF := Lib.hid (HF.out.trans (hb.mono HF.out.size))
          have HA := Lib.hid (HA.out.below hb)
          have HZw10 : Hid (w9.heap.size ≤ w10.heap.size) := Lib.hid (hb.size)
          have HRg4 : Hid (∀ b, g4.ownBlock = some b → w9.heap.size ≤ b ∧ b < w10.heap.size) := Lib.hid (fun b hb => owns_block ho b hb)
          obtain ⟨ag4, cg4, hsg4, _⟩ := owns_shape ho
          subst hsg4
          have HOg4 := Lib.hid ho
          clear ho
          clear hb hHeld
          go_wp2_with fail
          refine hK.out _ _ (⟨HX.out, HX.out.c0, HX.out.c1, HBb1.out, HBb1.out.cell 0, HBb1.out.cell 1, HBb1.out.cell 2, HBb1.out.cell 3⟩) (fun hHeld => ?_)
          clear hK K
          refine wpAnyH_take (i := 5) (oi := _) (v := ?_) rfl (by kernel_rfl) (by kernel_rfl) (by kernel_rfl) (fun _ _ _ h => h) (Or.inl ⟨by rfl, ?_⟩) (by assumption) ?_
          rotate_left
          · (intro w hSw; (try dsimp only at hSw); (first | (go_simp; done) | (go_simp; with_reducible rfl)))
          simp only [Act.put, List.getElem_toArray, List.getElem_cons_succ, List.getElem_cons_zero, List.setIfInBounds_toArray, List.set_cons_zero, List.set_cons_succ]
          refine wpAnyH_take (i := 6) (oi := _) (v := ?_) rfl (by kernel_rfl) (by kernel_rfl) (by kernel_rfl) (fun _ _ _ h => h) (Or.inl ⟨by rfl, ?_⟩) (by assumption) ?_
          rotate_left
          · (intro w hSw; (try dsimp only at hSw); (first | (go_simp; done) | (go_simp; with_reducible rfl)))
          simp only [Act.put, List.getElem_toArray, List.getElem_cons_succ, List.getElem_cons_zero, List.setIfInBounds_toArray, List.set_cons_zero, List.set_cons_succ]
          refine wpAnyH_take (i := 7) (oi := _) (v := ?_) rfl (by kernel_rfl) (by kernel_rfl) (by kernel_rfl) (fun _ _ _ h => h) (Or.inl ⟨by rfl, ?_⟩) (by assumption) ?_
          rotate_left
          · (intro w hSw; (try dsimp only at hSw); (first | (go_simp; done) | (go_simp; with_reducible rfl)))
          simp only [Act.put, List.getElem_toArray, List.getElem_cons_succ, List.getElem_cons_zero, List.setIfInBounds_toArray, List.set_cons_zero, List.set_cons_succ]
          refine wpAnyH_ready (rs := [9]) (by kernel_rfl) (by simp) ?_
          refine AllReadyH.cons rfl (fun K hK => ?_) AllReadyH.nil
          have a0 := HA.out.cell 0
          have f0 := HA.out.free 0
          have a1 := HA.out.cell 1
          have f1 := HA.out.free 1
          have a2 := HA.out.cell 2
          have f2 := HA.out.free 2
          have a3 := HA.out.cell 3
          have f3 := HA.out.free 3
          have hB4 := below_set4 w10 (w5.heap.size) w2.heap.size (by have z0 := HZw1.out; have z1 := HZw2.out; have z2 := HZw4.out; have z3 := HZw5.out; have z4 := HZw9.out; have z5 := HZw10.out; omega) (.int .i64 z.s) (.int .i64 z.f) (.int .i64 z.d) (.slice ag4 z.ms.length cg4)
          have HAN := Lib.hid (blk_set4 HA.out (.int .i64 z.s) (.int .i64 z.f) (.int .i64 z.d) (.slice ag4 z.ms.length cg4))
          have HON := Lib.hid (own_apart4 (b := w5.heap.size) HOg4.out (fun b h => by have l := HRg4.out b h; have z0 := HZw1.out; have z1 := HZw2.out; have z2 := HZw4.out; have z3 := HZw5.out; have z4 := HZw9.out; have z5 := HZw10.out; omega) (.int .i64 z.s) (.int .i64 z.f) (.int .i64 z.d) (.slice ag4 z.ms.length cg4))
          have HSN := Lib.hid (size_set4 w10 (w5.heap.size) (.int .i64 z.s) (.int .i64 z.f) (.int .i64 z.d) (.slice ag4 z.ms.length cg4))
          have HX := Lib.hid (HX.out.nextAt (m := w2.heap.size) (by have z0 := HZw1.out; have z1 := HZw2.out; have z2 := HZw4.out; have z3 := HZw5.out; have z4 := HZw9.out; have z5 := HZw10.out; omega) hB4)
          have HBb1 := Lib.hid (HBb1.out.belowAt (m := w2.heap.size) (by have z0 := HZw1.out; have z1 := HZw2.out; have z2 := HZw4.out; have z3 := HZw5.out; have z4 := HZw9.out; have z5 := HZw10.out; omega) hB4)
          have HF := Lib.hid (HF.out.trans hB4)
          clear hB4 HA
          go_simp
          clear hHeld
          refine hK.out _ _ (⟨HX.out, HX.out.c0, HX.out.c1, HBb1.out, HBb1.out.cell 0, HBb1.out.cell 1, HBb1.out.cell 2, HBb1.out.cell 3⟩) (fun hHeld => ?_)
          clear hK K a0 a1 a2 a3 f0 f1 f2 f3
          generalize (((w10.setCell ⟨w5.heap.size, 0, none⟩ (.int .i64 z.s)).setCell ⟨w5.heap.size, 1, none⟩ (.int .i64 z.f)).setCell ⟨w5.heap.size, 2, none⟩ (.int .i64 z.d)).setCell ⟨w5.heap.size, 3, none⟩ (.slice ag4 z.ms.length cg4) = w11 at *
          refine wpAnyH_take (i := 10) (oi := _) (v := ?_) rfl (by kernel_rfl) (by kernel_rfl) (by kernel_rfl) (fun _ _ _ h => h) (Or.inl ⟨by rfl, ?_⟩) (by assumption) ?_
          rotate_left
          · (intro w hSw; (try dsimp only at hSw); (first | (go_simp; done) | (go_simp; with_reducible rfl)))
          simp only [Act.put, List.getElem_toArray, List.getElem_cons_succ, List.getElem_cons_zero, List.setIfInBounds_toArray, List.set_cons_zero, List.set_cons_succ]
          refine wpAnyH_done (by kernel_rfl) ?_ _
          refine NoPanic.normal ?_
          clear hHeld
          go_wp2_with fail
          go_meet
          exact ⟨w5.heap.size, (.slice ag4 z.ms.length cg4), rfl, rfl, by have z0 := HSN.out; have y0 := HZw1.out; have y1 := HZw2.out; have y2 := HZw4.out; have y3 := HZw5.out; have y4 := HZw9.out; have y5 := HZw10.out; omega, HAN.out, owns_lower HON.out (by have z0 := HZw1.out; have z1 := HZw2.out; have z2 := HZw4.out; have z3 := HZw5.out; have z4 := HZw9.out; have z5 := HZw10.out; omega), fun b h => by have l := HRg4.out b h; have z0 := HSN.out; have y0 := HZw1.out; have y1 := HZw2.out; have y2 := HZw4.out; have y3 := HZw5.out; have y4 := HZw9.out; have y5 := HZw10.out; omega, HF.out⟩
      · skip
        go_simp
        have HA := Lib.hid (show Blk (w4.alloc (.cells #[.int .i64 0, .int .i64 0, .int .i64 0, .slice none 0 0] 32)) (w4.heap.size) #[.int .i64 0, .int .i64 0, .int .i64 0, .slice none 0 0] 32 from blk_at w4 #[.int .i64 0, .int .i64 0, .int .i64 0, .slice none 0 0] 32 (w4.heap.size) rfl)
        have HX := Lib.hid (HX.out.next (show Below w4.heap.size w4 (w4.alloc (.cells #[.int .i64 0, .int .i64 0, .int .i64 0, .slice none 0 0] 32)) from below_new w4 (.cells #[.int .i64 0, .int .i64 0, .int .i64 0, .slice none 0 0] 32)))
        have HBb1 := Lib.hid (HBb1.out.below (show Below w4.heap.size w4 (w4.alloc (.cells #[.int .i64 0, .int .i64 0, .int .i64 0, .slice none 0 0] 32)) from below_new w4 (.cells #[.int .i64 0, .int .i64 0, .int .i64 0, .slice none 0 0] 32)))
        have HF := Lib.hid (HF.out.trans ((show Below w4.heap.size w4 (w4.alloc (.cells #[.int .i64 0, .int .i64 0, .int .i64 0, .slice none 0 0] 32)) from below_new w4 (.cells #[.int .i64 0, .int .i64 0, .int .i64 0, .slice none 0 0] 32)).mono HF.out.size))
        have HZw12 : Hid (w4.heap.size < (w4.alloc (.cells #[.int .i64 0, .int .i64 0, .int .i64 0, .slice none 0 0] 32)).heap.size) := Lib.hid (by simp)
        clear hHeld
        refine hK.out _ _ (⟨HX.out, HX.out.c0, HX.out.c1, HBb1.out, HBb1.out.cell 0, HBb1.out.cell 1, HBb1.out.cell 2, HBb1.out.cell 3⟩) (fun hHeld => ?_)
        clear hK K
        generalize w4.alloc (.cells #[.int .i64 0, .int .i64 0, .int .i64 0, .slice none 0 0] 32) = w12 at *
        refine wpAnyH_ready (rs := [3]) (by kernel_rfl) (by simp) ?_
        refine AllReadyH.cons rfl (fun K hK => ?_) AllReadyH.nil
        go_simp
        refine (toW_any k1 (.slice y1 k1.ms.length c1) _ (HV1.out.below HX.out.below) hn1).mono ?_
        rintro e w13 ⟨x5, rfl, ho, hb⟩
        have HX := Lib.hid (HX.out.next hb)
        have HBb1 := Lib.hid (HBb1.out.below hb)
        have HF := Lib.hid (HF.out.trans (hb.mono HF.out.size))
        have HA := Lib.hid (HA.out.below hb)
        have HZw13 : Hid (w12.heap.size ≤ w13.heap.size) := Lib.hid (hb.size)
        have HRx5 : Hid (∀ b, x5.ownBlock = some b → w12.heap.size ≤ b ∧ b < w13.heap.size) := Lib.hid (fun b hb => owns_block ho b hb)
        obtain ⟨ax5, cx5, hsx5, _⟩ := owns_shape ho
        subst hsx5
        have HOx5 := Lib.hid ho
        clear ho
        clear hb hHeld
        go_wp2_with fail
        refine hK.out _ _ (⟨HX.out, HX.out.c0, HX.out.c1, HBb1.out, HBb1.out.cell 0, HBb1.out.cell 1, HBb1.out.cell 2, HBb1.out.cell 3⟩) (fun hHeld => ?_)
        clear hK K
        refine wpAnyH_ready (rs := [4]) (by kernel_rfl) (by simp) ?_
        refine AllReadyH.cons rfl (fun K hK => ?_) AllReadyH.nil
        go_simp
        refine (HM.out (.slice ax5 k1.ms.length cx5) _ (owns_reads HOx5.out Hnk1_ms.out)).mono ?_
        rintro e w14 ⟨g6, rfl, ho, hb⟩
        have HX := Lib.hid (HX.out.next hb)
        have HBb1 := Lib.hid (HBb1.out.below hb)
        have HOx5 := Lib.hid (owns_below HOx5.out hb)
        have HF := Lib.hid (HF.out.trans (hb.mono HF.out.size))
        have HA := Lib.hid (HA.out.below hb)
        have HZw14 : Hid (w13.heap.size ≤ w14.heap.size) := Lib.hid (hb.size)
        have HRg6 : Hid (∀ b, g6.ownBlock = some b → w13.heap.size ≤ b ∧ b < w14.heap.size) := Lib.hid (fun b hb => owns_block ho b hb)
        obtain ⟨ag6, cg6, hsg6, _⟩ := owns_shape ho
        subst hsg6
        have HOg6 := Lib.hid ho
        clear ho
        clear hb hHeld
        go_wp2_with fail
        refine hK.out _ _ (⟨HX.out, HX.out.c0, HX.out.c1, HBb1.out, HBb1.out.cell 0, HBb1.out.cell 1, HBb1.out.cell 2, HBb1.out.cell 3⟩) (fun hHeld => ?_)
        clear hK K
        refine wpAnyH_take (i := 5) (oi := _) (v := ?_) rfl (by kernel_rfl) (by kernel_rfl) (by kernel_rfl) (fun _ _ _ h => h) (Or.inl ⟨by rfl, ?_⟩) (by assumption) ?_
        rotate_left
        · (intro w hSw; (try dsimp only at hSw); (first | (go_simp; done) | (go_simp; with_reducible rfl)))
        simp only [Act.put, List.getElem_toArray, List.getElem_cons_succ, List.getElem_cons_zero, List.setIfInBounds_toArray, List.set_cons_zero, List.set_cons_succ]
        refine wpAnyH_take (i := 6) (oi := _) (v := ?_) rfl (by kernel_rfl) (by kernel_rfl) (by kernel_rfl) (fun _ _ _ h => h) (Or.inl ⟨by rfl, ?_⟩) (by assumption) ?_
        rotate_left
        · (intro w hSw; (try dsimp only at hSw); (first | (go_simp; done) | (go_simp; with_reducible rfl)))
        simp only [Act.put, List.getElem_toArray, List.getElem_cons_succ, List.getElem_cons_zero, List.setIfInBounds_toArray, List.set_cons_zero, List.set_cons_succ]
        refine wpAnyH_take (i := 7) (oi := _) (v := ?_) rfl (by kernel_rfl) (by kernel_rfl) (by kernel_rfl) (fun _ _ _ h => h) (Or.inl ⟨by rfl, ?_⟩) (by assumption) ?_
        rotate_left
        · (intro w hSw; (try dsimp only at hSw); (first | (go_simp; done) | (go_simp; with_reducible rfl)))
        simp only [Act.put, List.getElem_toArray, List.getElem_cons_succ, List.getElem_cons_zero, List.setIfInBounds_toArray, List.set_cons_zero, List.set_cons_succ]
        refine wpAnyH_ready (rs := [9]) (by kernel_rfl) (by simp) ?_
        refine AllReadyH.cons rfl (fun K hK => ?_) AllReadyH.nil
        have a0 := HA.out.cell 0
        have f0 := HA.out.free 0
        have a1 := HA.out.cell 1
        have f1 := HA.out.free 1
        have a2 := HA.out.cell 2
        have f2 := HA.out.free 2
        have a3 := HA.out.cell 3
        have f3 := HA.out.free 3
        have hB4 := below_set4 w14 (w4.heap.size) w2.heap.size (by have z0 := HZw1.out; have z1 := HZw2.out; have z2 := HZw4.out; have z3 := HZw12.out; have z4 := HZw13.out; have z5 := HZw14.out; omega) (.int .i64 z.s) (.int .i64 z.f) (.int .i64 z.d) (.slice ag6 z.ms.length cg6)
        have HAN := Lib.hid (blk_set4 HA.out (.int .i64 z.s) (.int .i64 z.f) (.int .i64 z.d) (.slice ag6 z.ms.length cg6))
        have HON := Lib.hid (own_apart4 (b := w4.heap.size) HOg6.out (fun b h => by have l := HRg6.out b h; have z0 := HZw1.out; have z1 := HZw2.out; have z2 := HZw4.out; have z3 := HZw12.out; have z4 := HZw13.out; have z5 := HZw14.out; omega) (.int .i64 z.s) (.int .i64 z.f) (.int .i64 z.d) (.slice ag6 z.ms.length cg6))
        have HSN := Lib.hid (size_set4 w14 (w4.heap.size) (.int .i64 z.s) (.int .i64 z.f) (.int .i64 z.d) (.slice ag6 z.ms.length cg6))
        have HX := Lib.hid (HX.out.nextAt (m := w2.heap.size) (by have z0 := HZw1.out; have z1 := HZw2.out; have z2 := HZw4.out; have z3 := HZw12.out; have z4 := HZw13.out; have z5 := HZw14.out; omega) hB4)
        have HBb1 := Lib.hid (HBb1.out.belowAt (m := w2.heap.size) (by have z0 := HZw1.out; have z1 := HZw2.out; have z2 := HZw4.out; have z3 := HZw12.out; have z4 := HZw13.out; have z5 := HZw14.out; omega) hB4)
        have HF := Lib.hid (HF.out.trans hB4)
        clear hB4 HA
        go_simp
        clear hHeld
        refine hK.out _ _ (⟨HX.out, HX.out.c0, HX.out.c1, HBb1.out, HBb1.out.cell 0, HBb1.out.cell 1, HBb1.out.cell 2, HBb1.out.cell 3⟩) (fun hHeld => ?_)
        clear hK K a0 a1 a2 a3 f0 f1 f2 f3
        generalize (((w14.setCell ⟨w4.heap.size, 0, none⟩ (.int .i64 z.s)).setCell ⟨w4.heap.size, 1, none⟩ (.int .i64 z.f)).setCell ⟨w4.heap.size, 2, none⟩ (.int .i64 z.d)).setCell ⟨w4.heap.size, 3, none⟩ (.slice ag6 z.ms.length cg6) = w15 at *
        refine wpAnyH_take (i := 10) (oi := _) (v := ?_) rfl (by kernel_rfl) (by kernel_rfl) (by kernel_rfl) (fun _ _ _ h => h) (Or.inl ⟨by rfl, ?_⟩) (by assumption) ?_
        rotate_left
        · (intro w hSw; (try dsimp only at hSw); (first | (go_simp; done) | (go_simp; with_reducible rfl)))
        simp only [Act.put, List.getElem_toArray, List.getElem_cons_succ, List.getElem_cons_zero, List.setIfInBounds_toArray, List.set_cons_zero, List.set_cons_succ]
        refine wpAnyH_done (by kernel_rfl) ?_ _
        refine NoPanic.normal ?_
        clear hHeld
        go_wp2_with fail
        go_meet
        exact ⟨w4.heap.size, (.slice ag6 z.ms.length cg6), rfl, rfl, by have z0 := HSN.out; have y0 := HZw1.out; have y1 := HZw2.out; have y2 := HZw4.out; have y3 := HZw12.out; have y4 := HZw13.out; have y5 := HZw14.out; omega, HAN.out, owns_lower HON.out (by have z0 := HZw1.out; have z1 := HZw2.out; have z2 := HZw4.out; have z3 := HZw12.out; have z4 := HZw13.out; have z5 := HZw14.out; omega), fun b h => by have l := HRg6.out b h; have z0 := HSN.out; have y0 := HZw1.out; have y1 := HZw2.out; have y2 := HZw4.out; have y3 := HZw12.out; have y4 := HZw13.out; have y5 := HZw14.out; omega, HF.out⟩
    · skip
      go_simp
      have HA := Lib.hid (show Blk ((w2.alloc (.cells #[.int .i64 0, .int .i64 0, .int .i64 0, .slice none 0 0] 32)).drew) (w2.heap.size) #[.int .i64 0, .int .i64 0, .int .i64 0, .slice none 0 0] 32 from blk_at (w2.drewN 1) #[.int .i64 0, .int .i64 0, .int .i64 0, .slice none 0 0] 32 (w2.heap.size) rfl)
      have HX := Lib.hid (HX.out.next (show Below (w2.drewN 1).heap.size (w2.drewN 1) ((w2.alloc (.cells #[.int .i64 0, .int .i64 0, .int .i64 0, .slice none 0 0] 32)).drew) from below_new (w2.drewN 1) (.cells #[.int .i64 0, .int .i64 0, .int .i64 0, .slice none 0 0] 32)))
      have HBb1 := Lib.hid (HBb1.out.below (show Below (w2.drewN 1).heap.size (w2.drewN 1) ((w2.alloc (.cells #[.int .i64 0, .int .i64 0, .int .i64 0, .slice none 0 0] 32)).drew) from below_new (w2.drewN 1) (.cells #[.int .i64 0, .int .i64 0, .int .i64 0, .slice none 0 0] 32)))
      have HF := Lib.hid (HF.out.trans ((show Below (w2.drewN 1).heap.size (w2.drewN 1) ((w2.alloc (.cells #[.int .i64 0, .int .i64 0, .int .i64 0, .slice none 0 0] 32)).drew) from below_new (w2.drewN 1) (.cells #[.int .i64 0, .int .i64 0, .int .i64 0, .slice none 0 0] 32)).mono HF.out.size))
      have HZw16 : Hid (w2.heap.size < ((w2.alloc (.cells #[.int .i64 0, .int .i64 0, .int .i64 0, .slice none 0 0] 32)).drew).heap.size) := Lib.hid (by simp)
      clear hHeld
      refine hK.out _ _ (⟨HX.out, HX.out.c0, HX.out.c1, HBb1.out, HBb1.out.cell 0, HBb1.out.cell 1, HBb1.out.cell 2, HBb1.out.cell 3⟩) (fun hHeld => ?_)
      clear hK K
      generalize (w2.alloc (.cells #[.int .i64 0, .int .i64 0, .int .i64 0, .slice none 0 0] 32)).drew = w16 at *
      refine wpAnyH_ready (rs := [1]) (by kernel_rfl) (by simp) ?_
      refine AllReadyH.cons rfl (fun K hK => ?_) AllReadyH.nil
      go_simp
      refine (HT.out _).mono ?_
      rintro e w17 ⟨rfl, hb⟩
      have HX := Lib.hid (HX.out.next hb)
      have HBb1 := Lib.hid (HBb1.out.below hb)
      have HF := Lib.hid (HF.out.trans (hb.mono HF.out.size))
      have HA := Lib.hid (HA.out.below hb)
      have HZw17 : Hid (w16.heap.size ≤ w17.heap.size) := Lib.hid (hb.size)
      clear hb hHeld
      go_wp2_with fail
      refine hK.out _ _ (⟨HX.out, HX.out.c0, HX.out.c1, HBb1.out, HBb1.out.cell 0, HBb1.out.cell 1, HBb1.out.cell 2, HBb1.out.cell 3⟩) (fun hHeld => ?_)
      clear hK K
      refine wpAnyH_ready (rs := [3]) (by kernel_rfl) (by simp) ?_
      refine AllReadyH.cons rfl (fun K hK => ?_) AllReadyH.nil
      go_simp
      refine (toW_any k1 (.slice y1 k1.ms.length c1) _ (HV1.out.below HX.out.below) hn1).mono ?_
      rintro e w18 ⟨x7, rfl, ho, hb⟩
      have HX := Lib.hid (HX.out.next hb)
      have HBb1 := Lib.hid (HBb1.out.below hb)
      have HF := Lib.hid (HF.out.trans (hb.mono HF.out.size))
      have HA := Lib.hid (HA.out.below hb)
      have HZw18 : Hid (w17.heap.size ≤ w18.heap.size) := Lib.hid (hb.size)
      have HRx7 : Hid (∀ b, x7.ownBlock = some b → w17.heap.size ≤ b ∧ b < w18.heap.size) := Lib.hid (fun b hb => owns_block ho b hb)
      obtain ⟨ax7, cx7, hsx7, _⟩ := owns_shape ho
      subst hsx7
      have HOx7 := Lib.hid ho
      clear ho
      clear hb hHeld
      go_wp2_with fail
      refine hK.out _ _ (⟨HX.out, HX.out.c0, HX.out.c1, HBb1.out, HBb1.out.cell 0, HBb1.out.cell 1, HBb1.out.cell 2, HBb1.out.cell 3⟩) (fun hHeld => ?_)
      clear hK K
      refine wpAnyH_ready (rs := [4]) (by kernel_rfl) (by simp) ?_
      refine AllReadyH.cons rfl (fun K hK => ?_) AllReadyH.nil
      go_simp
      refine (HM.out (.slice ax7 k1.ms.length cx7) _ (owns_reads HOx7.out Hnk1_ms.out)).mono ?_
      rintro e w19 ⟨g8, rfl, ho, hb⟩
      have HX := Lib.hid (HX.out.next hb)
      have HBb1 := Lib.hid (HBb1.out.below hb)
      have HOx7 := Lib.hid (owns_below HOx7.out hb)
      have HF := Lib.hid (HF.out.trans (hb.mono HF.out.size))
      have HA := Lib.hid (HA.out.below hb)
      have HZw19 : Hid (w18.heap.size ≤ w19.heap.size) := Lib.hid (hb.size)
      have HRg8 : Hid (∀ b, g8.ownBlock = some b → w18.heap.size ≤ b ∧ b < w19.heap.size) := Lib.hid (fun b hb => owns_block ho b hb)
      obtain ⟨ag8, cg8, hsg8, _⟩ := owns_shape ho
      subst hsg8
      have HOg8 := Lib.hid ho
      clear ho
      clear hb hHeld
      go_wp2_with fail
      refine hK.out _ _ (⟨HX.out, HX.out.c0, HX.out.c1, HBb1.out, HBb1.out.cell 0, HBb1.out.cell 1, HBb1.out.cell 2, HBb1.out.cell 3⟩) (fun hHeld => ?_)
      clear hK K
      refine wpAnyH_take (i := 5) (oi := _) (v := ?_) rfl (by kernel_rfl) (by kernel_rfl) (by kernel_rfl) (fun _ _ _ h => h) (Or.inl ⟨by rfl, ?_⟩) (by assumption) ?_
      rotate_left
      · (intro w hSw; (try dsimp only at hSw); (first | (go_simp; done) | (go_simp; with_reducible rfl)))
      simp only [Act.put, List.getElem_toArray, List.getElem_cons_succ, List.getElem_cons_zero, List.setIfInBounds_toArray, List.set_cons_zero, List.set_cons_succ]
      refine wpAnyH_take (i := 6) (oi := _) (v := ?_) rfl (by kernel_rfl) (by kernel_rfl) (by kernel_rfl) (fun _ _ _ h => h) (Or.inl ⟨by rfl, ?_⟩) (by assumption) ?_
      rotate_left
      · (intro w hSw; (try dsimp only at hSw); (first | (go_simp; done) | (go_simp; with_reducible rfl)))
      simp only [Act.put, List.getElem_toArray, List.getElem_cons_succ, List.getElem_cons_zero, List.setIfInBounds_toArray, List.set_cons_zero, List.set_cons_succ]
      refine wpAnyH_take (i := 7) (oi := _) (v := ?_) rfl (by kernel_rfl) (by kernel_rfl) (by kernel_rfl) (fun _ _ _ h => h) (Or.inl ⟨by rfl, ?_⟩) (by assumption) ?_
      rotate_left
      · (intro w hSw; (try dsimp only at hSw); (first | (go_simp; done) | (go_simp; with_reducible rfl)))
      simp only [Act.put, List.getElem_toArray, List.getElem_cons_succ, List.getElem_cons_zero, List.setIfInBounds_toArray, List.set_cons_zero, List.set_cons_succ]
      refine wpAnyH_ready (rs := [9]) (by kernel_rfl) (by simp) ?_
      refine AllReadyH.cons rfl (fun K hK => ?_) AllReadyH.nil
      have a0 := HA.out.cell 0
      have f0 := HA.out.free 0
      have a1 := HA.out.cell 1
      have f1 := HA.out.free 1
      have a2 := HA.out.cell 2
      have f2 := HA.out.free 2
      have a3 := HA.out.cell 3
      have f3 := HA.out.free 3
      have hB4 := below_set4 w19 (w2.heap.size) w2.heap.size (by have z0 := HZw1.out; have z1 := HZw2.out; have z2 := HZw16.out; have z3 := HZw17.out; have z4 := HZw18.out; have z5 := HZw19.out; omega) (.int .i64 z.s) (.int .i64 z.f) (.int .i64 z.d) (.slice ag8 z.ms.length cg8)
      have HAN := Lib.hid (blk_set4 HA.out (.int .i64 z.s) (.int .i64 z.f) (.int .i64 z.d) (.slice ag8 z.ms.length cg8))
      have HON := Lib.hid (own_apart4 (b := w2.heap.size) HOg8.out (fun b h => by have l := HRg8.out b h; have z0 := HZw1.out; have z1 := HZw2.out; have z2 := HZw16.out; have z3 := HZw17.out; have z4 := HZw18.out; have z5 := HZw19.out; omega) (.int .i64 z.s) (.int .i64 z.f) (.int .i64 z.d) (.slice ag8 z.ms.length cg8))
      have HSN := Lib.hid (size_set4 w19 (w2.heap.size) (.int .i64 z.s) (.int .i64 z.f) (.int .i64 z.d) (.slice ag8 z.ms.length cg8))
      have HX := Lib.hid (HX.out.nextAt (m := w2.heap.size) (by have z0 := HZw1.out; have z1 := HZw2.out; have z2 := HZw16.out; have z3 := HZw17.out; have z4 := HZw18.out; have z5 := HZw19.out; omega) hB4)
      have HBb1 := Lib.hid (HBb1.out.belowAt (m := w2.heap.size) (by have z0 := HZw1.out; have z1 := HZw2.out; have z2 := HZw16.out; have z3 := HZw17.out; have z4 := HZw18.out; have z5 := HZw19.out; omega) hB4)
      have HF := Lib.hid (HF.out.trans hB4)
      clear hB4 HA
      go_simp
      clear hHeld
      refine hK.out _ _ (⟨HX.out, HX.out.c0, HX.out.c1, HBb1.out, HBb1.out.cell 0, HBb1.out.cell 1, HBb1.out.cell 2, HBb1.out.cell 3⟩) (fun hHeld => ?_)
      clear hK K a0 a1 a2 a3 f0 f1 f2 f3
      generalize (((w19.setCell ⟨w2.heap.size, 0, none⟩ (.int .i64 z.s)).setCell ⟨w2.heap.size, 1, none⟩ (.int .i64 z.f)).setCell ⟨w2.heap.size, 2, none⟩ (.int .i64 z.d)).setCell ⟨w2.heap.size, 3, none⟩ (.slice ag8 z.ms.length cg8) = w20 at *
      refine wpAnyH_take (i := 10) (oi := _) (v := ?_) rfl (by kernel_rfl) (by kernel_rfl) (by kernel_rfl) (fun _ _ _ h => h) (Or.inl ⟨by rfl, ?_⟩) (by assumption) ?_
      rotate_left
      · (intro w hSw; (try dsimp only at hSw); (first | (go_simp; done) | (go_simp; with_reducible rfl)))
      simp only [Act.put, List.getElem_toArray, List.getElem_cons_succ, List.getElem_cons_zero, List.setIfInBounds_toArray, List.set_cons_zero, List.set_cons_succ]
      refine wpAnyH_done (by kernel_rfl) ?_ _
      refine NoPanic.normal ?_
      clear hHeld
      go_wp2_with fail
      go_meet
      exact ⟨w2.heap.size, (.slice ag8 z.ms.length cg8), rfl, rfl, by have z0 := HSN.out; have y0 := HZw1.out; have y1 := HZw2.out; have y2 := HZw16.out; have y3 := HZw17.out; have y4 := HZw18.out; have y5 := HZw19.out; omega, HAN.out, owns_lower HON.out (by have z0 := HZw1.out; have z1 := HZw2.out; have z2 := HZw16.out; have z3 := HZw17.out; have z4 := HZw18.out; have z5 := HZw19.out; omega), fun b h => by have l := HRg8.out b h; have z0 := HSN.out; have y0 := HZw1.out; have y1 := HZw2.out; have y2 := HZw16.out; have y3 := HZw17.out; have y4 := HZw18.out; have y5 := HZw19.out; omega, HF.out⟩
  case rest =>
    generalize wc = w3 at *
    clear wc
    obtain ⟨adg9, g9, rfl, rfl, hlo, hbk, ho, hr, hb⟩ := hcut
    obtain ⟨ag9, cg9, hsg9, _⟩ := owns_shape ho
    subst hsg9
    have HX := Lib.hid (HX.out.next hb)
    have HBb1 := Lib.hid (HBb1.out.below hb)
    have HZw3 : Hid (w2.heap.size ≤ w3.heap.size) := Lib.hid (hb.size)
    have HZadg9 : Hid (w2.heap.size ≤ adg9 ∧ adg9 < w3.heap.size) := Lib.hid hlo
    have HRg9 := Lib.hid hr
    have HOg9 := Lib.hid ho
    have HBb10 := Lib.hid hbk
    clear hlo hbk ho hr hb
    have HMid : Hid (Below w3.heap.size w3 w3) := Lib.hid (Below.refl _ _)
    have HXm := Lib.hid HX.out.size
    have hb0 := HX.out.c0
    have hb1 := HX.out.c1
    have hc_b10 := HBb1.out.cell 0
    have hc_b11 := HBb1.out.cell 1
    have hc_b12 := HBb1.out.cell 2
    have hc_b13 := HBb1.out.cell 3
    have hc_b100 := HBb10.out.cell 0
    have hc_b101 := HBb10.out.cell 1
    have hc_b102 := HBb10.out.cell 2
    have hc_b103 := HBb10.out.cell 3
    go_wp2_with fail
    refine (toW_any k1 (.slice y1 k1.ms.length c1) _ (HV1.out.below HX.out.below) hn1).mono ?_
    rintro e w21 ⟨x11, rfl, ho, hb⟩
    clear hb0 hb1 hc_b10 hc_b11 hc_b12 hc_b13 hc_b100 hc_b101 hc_b102 hc_b103
    have HX := Lib.hid (HX.out.next hb)
    have HBb1 := Lib.hid (HBb1.out.below hb)
    have HBb10 := Lib.hid (HBb10.out.below hb)
    have HOg9 := Lib.hid (owns_below HOg9.out hb)
    have HMid := Lib.hid (HMid.out.trans (hb.mono HMid.out.size))
    have HZw21 : Hid (w3.heap.size ≤ w21.heap.size) := Lib.hid (hb.size)
    have HRx11 : Hid (∀ b, x11.ownBlock = some b → w3.heap.size ≤ b ∧ b < w21.heap.size) := Lib.hid (fun b hb => owns_block ho b hb)
    obtain ⟨ax11, cx11, hsx11, _⟩ := owns_shape ho
    subst hsx11
    have HOx11 := Lib.hid ho
    clear ho
    clear hb
    have HX := Lib.hid (HX.out.next (below_new w21 (.cells #[.int .i64 k1.s, .int .i64 k1.f, .int .i64 k1.d, (.slice ax11 k1.ms.length cx11)] 32)))
    have HBb1 := Lib.hid (HBb1.out.below (below_new w21 (.cells #[.int .i64 k1.s, .int .i64 k1.f, .int .i64 k1.d, (.slice ax11 k1.ms.length cx11)] 32)))
    have HBb10 := Lib.hid (HBb10.out.below (below_new w21 (.cells #[.int .i64 k1.s, .int .i64 k1.f, .int .i64 k1.d, (.slice ax11 k1.ms.length cx11)] 32)))
    have HOg9 := Lib.hid (owns_below HOg9.out (below_new w21 (.cells #[.int .i64 k1.s, .int .i64 k1.f, .int .i64 k1.d, (.slice ax11 k1.ms.length cx11)] 32)))
    have HOx11 := Lib.hid (owns_below HOx11.out (below_new w21 (.cells #[.int .i64 k1.s, .int .i64 k1.f, .int .i64 k1.d, (.slice ax11 k1.ms.length cx11)] 32)))
    have HMid := Lib.hid (HMid.out.trans ((below_new w21 (.cells #[.int .i64 k1.s, .int .i64 k1.f, .int .i64 k1.d, (.slice ax11 k1.ms.length cx11)] 32)).mono HMid.out.size))
    have HBb12 := Lib.hid (blk_new w21 #[.int .i64 k1.s, .int .i64 k1.f, .int .i64 k1.d, (.slice ax11 k1.ms.length cx11)] 32)
    have HZw22 : Hid (w21.heap.size < (w21.alloc (.cells #[.int .i64 k1.s, .int .i64 k1.f, .int .i64 k1.d, (.slice ax11 k1.ms.length cx11)] 32)).heap.size) := Lib.hid (by simp)
    have hb0 := HX.out.c0
    have hb1 := HX.out.c1
    have hc_b10 := HBb1.out.cell 0
    have hc_b11 := HBb1.out.cell 1
    have hc_b12 := HBb1.out.cell 2
    have hc_b13 := HBb1.out.cell 3
    have hc_b100 := HBb10.out.cell 0
    have hc_b101 := HBb10.out.cell 1
    have hc_b102 := HBb10.out.cell 2
    have hc_b103 := HBb10.out.cell 3
    have hc_b120 := HBb12.out.cell 0
    have hc_b121 := HBb12.out.cell 1
    have hc_b122 := HBb12.out.cell 2
    have hc_b123 := HBb12.out.cell 3
    go_wp2_with fail
    generalize w21.alloc (.cells #[.int .i64 k1.s, .int .i64 k1.f, .int .i64 k1.d, (.slice ax11 k1.ms.length cx11)] 32) = w22 at *
    clear hb0 hb1 hc_b10 hc_b11 hc_b12 hc_b13 hc_b100 hc_b101 hc_b102 hc_b103 hc_b120 hc_b121 hc_b122 hc_b123
    go_cut [9, 10] from 31 to 37 (fun p c w23 => GotW z b p c w22 w23)
    case first =>
      have HF := Lib.hid (below_drewN w22 1)
      have HX := Lib.hid (HX.out.next (below_drewN _ 1))
      have HBb1 := Lib.hid (HBb1.out.below (below_drewN _ 1))
      have HBb10 := Lib.hid (HBb10.out.below (below_drewN _ 1))
      have HBb12 := Lib.hid (HBb12.out.below (below_drewN _ 1))
      have HOg9 := Lib.hid (owns_below HOg9.out (below_drewN _ 1))
      have HOx11 := Lib.hid (owns_below HOx11.out (below_drewN _ 1))
      have HMid := Lib.hid (HMid.out.trans ((below_drewN _ 1).mono HMid.out.size))
      refine wp_region_noPanic ?_
      refine wp_region_held_drew (S := fun w' => Boxed w.heap.size n g w w' ∧ w'.cell? ⟨w.heap.size, 0, none⟩ = some (.int .i64 n) ∧ w'.cell? ⟨w.heap.size, 1, none⟩ = some (.bool g) ∧ Blk w' (w.heap.size + 1) #[.int .i64 k1.s, .int .i64 k1.f, .int .i64 k1.d, (.slice y1 k1.ms.length c1)] 26 ∧ w'.cell? ⟨w.heap.size + 1, 0, none⟩ = some (.int .i64 k1.s) ∧ w'.cell? ⟨w.heap.size + 1, 1, none⟩ = some (.int .i64 k1.f) ∧ w'.cell? ⟨w.heap.size + 1, 2, none⟩ = some (.int .i64 k1.d) ∧ w'.cell? ⟨w.heap.size + 1, 3, none⟩ = some ((.slice y1 k1.ms.length c1)) ∧ Blk w' (adg9) #[.int .i64 z.s, .int .i64 z.f, .int .i64 z.d, (.slice ag9 z.ms.length cg9)] 32 ∧ w'.cell? ⟨adg9, 0, none⟩ = some (.int .i64 z.s) ∧ w'.cell? ⟨adg9, 1, none⟩ = some (.int .i64 z.f) ∧ w'.cell? ⟨adg9, 2, none⟩ = some (.int .i64 z.d) ∧ w'.cell? ⟨adg9, 3, none⟩ = some ((.slice ag9 z.ms.length cg9)) ∧ Blk w' (w21.heap.size) #[.int .i64 k1.s, .int .i64 k1.f, .int .i64 k1.d, (.slice ax11 k1.ms.length cx11)] 32 ∧ w'.cell? ⟨w21.heap.size, 0, none⟩ = some (.int .i64 k1.s) ∧ w'.cell? ⟨w21.heap.size, 1, none⟩ = some (.int .i64 k1.f) ∧ w'.cell? ⟨w21.heap.size, 2, none⟩ = some (.int .i64 k1.d) ∧ w'.cell? ⟨w21.heap.size, 3, none⟩ = some ((.slice ax11 k1.ms.length cx11))) (by kernel_rfl) (⟨HX.out, HX.out.c0, HX.out.c1, HBb1.out, HBb1.out.cell 0, HBb1.out.cell 1, HBb1.out.cell 2, HBb1.out.cell 3, HBb10.out, HBb10.out.cell 0, HBb10.out.cell 1, HBb10.out.cell 2, HBb10.out.cell 3, HBb12.out, HBb12.out.cell 0, HBb12.out.cell 1, HBb12.out.cell 2, HBb12.out.cell 3⟩) (fun hHeld => ?_)
      refine wpAnyH_take (i := 0) (oi := _) (v := ?_) rfl (by kernel_rfl) (by kernel_rfl) (by kernel_rfl) (fun _ _ _ h => h) (Or.inl ⟨by rfl, ?_⟩) (by assumption) ?_
      rotate_left
      · (intro w hSw; (try dsimp only at hSw); (first | (go_simp; done) | (go_simp; with_reducible rfl)))
      simp only [Act.put, List.getElem_toArray, List.getElem_cons_succ, List.getElem_cons_zero, List.setIfInBounds_toArray, List.set_cons_zero, List.set_cons_succ]
      refine wpAnyH_take (i := 2) (oi := _) (v := ?_) rfl (by kernel_rfl) (by kernel_rfl) (by kernel_rfl) (fun _ _ _ h => h) (Or.inl ⟨by rfl, ?_⟩) (by assumption) ?_
      rotate_left
      · (intro w hSw; (try dsimp only at hSw); (first | (go_simp; done) | (go_simp; with_reducible rfl)))
      simp only [Act.put, List.getElem_toArray, List.getElem_cons_succ, List.getElem_cons_zero, List.setIfInBounds_toArray, List.set_cons_zero, List.set_cons_succ]
      refine wpAnyH_ready (rs := [1, 7]) (by kernel_rfl) (by simp) ?_
      refine AllReadyH.cons rfl (fun K hK => ?_) (AllReadyH.cons rfl (fun K hK => ?_) AllReadyH.nil)
      · skip
        go_simp
        refine (HT.out _).mono ?_
        rintro e w24 ⟨rfl, hb⟩
        have HX := Lib.hid (HX.out.next hb)
        have HBb1 := Lib.hid (HBb1.out.below hb)
        have HBb10 := Lib.hid (HBb10.out.below hb)
        have HBb12 := Lib.hid (HBb12.out.below hb)
        have HOg9 := Lib.hid (owns_below HOg9.out hb)
        have HOx11 := Lib.hid (owns_below HOx11.out hb)
        have HMid := Lib.hid (HMid.out.trans (hb.mono HMid.out.size))
        have HF := Lib.hid (HF.out.trans (hb.mono HF.out.size))
        have HZw24 : Hid (w22.heap.size ≤ w24.heap.size) := Lib.hid (hb.size)
        clear hb hHeld
        go_wp2_with fail
        refine hK.out _ _ (⟨HX.out, HX.out.c0, HX.out.c1, HBb1.out, HBb1.out.cell 0, HBb1.out.cell 1, HBb1.out.cell 2, HBb1.out.cell 3, HBb10.out, HBb10.out.cell 0, HBb10.out.cell 1, HBb10.out.cell 2, HBb10.out.cell 3, HBb12.out, HBb12.out.cell 0, HBb12.out.cell 1, HBb12.out.cell 2, HBb12.out.cell 3⟩) (fun hHeld => ?_)
        clear hK K
        refine wpAnyH_ready (rs := [3, 7]) (by kernel_rfl) (by simp) ?_
        refine AllReadyH.cons rfl (fun K hK => ?_) (AllReadyH.cons rfl (fun K hK => ?_) AllReadyH.nil)
        · skip
          go_simp
          refine (HI.out (.slice ax11 k1.ms.length cx11) _ (owns_reads HOx11.out Hnk1_ms.out)).mono ?_
          rintro e w25 ⟨g13, rfl, ho, hb⟩
          have HX := Lib.hid (HX.out.next hb)
          have HBb1 := Lib.hid (HBb1.out.below hb)
          have HBb10 := Lib.hid (HBb10.out.below hb)
          have HBb12 := Lib.hid (HBb12.out.below hb)
          have HOg9 := Lib.hid (owns_below HOg9.out hb)
          have HOx11 := Lib.hid (owns_below HOx11.out hb)
          have HMid := Lib.hid (HMid.out.trans (hb.mono HMid.out.size))
          have HF := Lib.hid (HF.out.trans (hb.mono HF.out.size))
          have HZw25 : Hid (w24.heap.size ≤ w25.heap.size) := Lib.hid (hb.size)
          have HRg13 : Hid (∀ b, g13.ownBlock = some b → w24.heap.size ≤ b ∧ b < w25.heap.size) := Lib.hid (fun b hb => owns_block ho b hb)
          obtain ⟨ag13, cg13, hsg13, _⟩ := owns_shape ho
          subst hsg13
          have HOg13 := Lib.hid ho
          clear ho
          clear hb hHeld
          go_wp2_with fail
          refine hK.out _ _ (⟨HX.out, HX.out.c0, HX.out.c1, HBb1.out, HBb1.out.cell 0, HBb1.out.cell 1, HBb1.out.cell 2, HBb1.out.cell 3, HBb10.out, HBb10.out.cell 0, HBb10.out.cell 1, HBb10.out.cell 2, HBb10.out.cell 3, HBb12.out, HBb12.out.cell 0, HBb12.out.cell 1, HBb12.out.cell 2, HBb12.out.cell 3⟩) (fun hHeld => ?_)
          clear hK K
          refine wpAnyH_take (i := 4) (oi := _) (v := ?_) rfl (by kernel_rfl) (by kernel_rfl) (by kernel_rfl) (fun _ _ _ h => h) (Or.inl ⟨by rfl, ?_⟩) (by assumption) ?_
          rotate_left
          · (intro w hSw; (try dsimp only at hSw); (first | (go_simp; done) | (go_simp; with_reducible rfl)))
          simp only [Act.put, List.getElem_toArray, List.getElem_cons_succ, List.getElem_cons_zero, List.setIfInBounds_toArray, List.set_cons_zero, List.set_cons_succ]
          refine wpAnyH_take (i := 5) (oi := _) (v := ?_) rfl (by kernel_rfl) (by kernel_rfl) (by kernel_rfl) (fun _ _ _ h => h) (Or.inl ⟨by rfl, ?_⟩) (by assumption) ?_
          rotate_left
          · (intro w hSw; (try dsimp only at hSw); (first | (go_simp; done) | (go_simp; with_reducible rfl)))
          simp only [Act.put, List.getElem_toArray, List.getElem_cons_succ, List.getElem_cons_zero, List.setIfInBounds_toArray, List.set_cons_zero, List.set_cons_succ]
          refine wpAnyH_take (i := 6) (oi := _) (v := ?_) rfl (by kernel_rfl) (by kernel_rfl) (by kernel_rfl) (fun _ _ _ h => h) (Or.inl ⟨by rfl, ?_⟩) (by assumption) ?_
          rotate_left
          · (intro w hSw; (try dsimp only at hSw); (first | (go_simp; done) | (go_simp; with_reducible rfl)))
          simp only [Act.put, List.getElem_toArray, List.getElem_cons_succ, List.getElem_cons_zero, List.setIfInBounds_toArray, List.set_cons_zero, List.set_cons_succ]
          refine wpAnyH_ready (rs := [7]) (by kernel_rfl) (by simp) ?_
          refine AllReadyH.cons rfl (fun K hK => ?_) AllReadyH.nil
          go_simp
          have HA := Lib.hid (show Blk (w25.alloc (.cells #[.int .i64 0, .int .i64 0, .int .i64 0, .slice none 0 0] 32)) (w25.heap.size) #[.int .i64 0, .int .i64 0, .int .i64 0, .slice none 0 0] 32 from blk_at w25 #[.int .i64 0, .int .i64 0, .int .i64 0, .slice none 0 0] 32 (w25.heap.size) rfl)
          have HX := Lib.hid (HX.out.next (show Below w25.heap.size w25 (w25.alloc (.cells #[.int .i64 0, .int .i64 0, .int .i64 0, .slice none 0 0] 32)) from below_new w25 (.cells #[.int .i64 0, .int .i64 0, .int .i64 0, .slice none 0 0] 32)))
          have HBb1 := Lib.hid (HBb1.out.below (show Below w25.heap.size w25 (w25.alloc (.cells #[.int .i64 0, .int .i64 0, .int .i64 0, .slice none 0 0] 32)) from below_new w25 (.cells #[.int .i64 0, .int .i64 0, .int .i64 0, .slice none 0 0] 32)))
          have HBb10 := Lib.hid (HBb10.out.below (show Below w25.heap.size w25 (w25.alloc (.cells #[.int .i64 0, .int .i64 0, .int .i64 0, .slice none 0 0] 32)) from below_new w25 (.cells #[.int .i64 0, .int .i64 0, .int .i64 0, .slice none 0 0] 32)))
          have HBb12 := Lib.hid (HBb12.out.below (show Below w25.heap.size w25 (w25.alloc (.cells #[.int .i64 0, .int .i64 0, .int .i64 0, .slice none 0 0] 32)) from below_new w25 (.cells #[.int .i64 0, .int .i64 0, .int .i64 0, .slice none 0 0] 32)))
          have HOg9 := Lib.hid (owns_below HOg9.out (show Below w25.heap.size w25 (w25.alloc (.cells #[.int .i64 0, .int .i64 0, .int .i64 0, .slice none 0 0] 32)) from below_new w25 (.cells #[.int .i64 0, .int .i64 0, .int .i64 0, .slice none 0 0] 32)))
          have HOx11 := Lib.hid (owns_below HOx11.out (show Below w25.heap.size w25 (w25.alloc (.cells #[.int .i64 0, .int .i64 0, .int .i64 0, .slice none 0 0] 32)) from below_new w25 (.cells #[.int .i64 0, .int .i64 0, .int .i64 0, .slice none 0 0] 32)))
          have HOg13 := Lib.hid (owns_below HOg13.out (show Below w25.heap.size w25 (w25.alloc (.cells #[.int .i64 0, .int .i64 0, .int .i64 0, .slice none 0 0] 32)) from below_new w25 (.cells #[.int .i64 0, .int .i64 0, .int .i64 0, .slice none 0 0] 32)))
          have HMid := Lib.hid (HMid.out.trans ((show Below w25.heap.size w25 (w25.alloc (.cells #[.int .i64 0, .int .i64 0, .int .i64 0, .slice none 0 0] 32)) from below_new w25 (.cells #[.int .i64 0, .int .i64 0, .int .i64 0, .slice none 0 0] 32)).mono HMid.out.size))
          have HF := Lib.hid (HF.out.trans ((show Below w25.heap.size w25 (w25.alloc (.cells #[.int .i64 0, .int .i64 0, .int .i64 0, .slice none 0 0] 32)) from below_new w25 (.cells #[.int .i64 0, .int .i64 0, .int .i64 0, .slice none 0 0] 32)).mono HF.out.size))
          have HZw26 : Hid (w25.heap.size < (w25.alloc (.cells #[.int .i64 0, .int .i64 0, .int .i64 0, .slice none 0 0] 32)).heap.size) := Lib.hid (by simp)
          clear hHeld
          refine hK.out _ _ (⟨HX.out, HX.out.c0, HX.out.c1, HBb1.out, HBb1.out.cell 0, HBb1.out.cell 1, HBb1.out.cell 2, HBb1.out.cell 3, HBb10.out, HBb10.out.cell 0, HBb10.out.cell 1, HBb10.out.cell 2, HBb10.out.cell 3, HBb12.out, HBb12.out.cell 0, HBb12.out.cell 1, HBb12.out.cell 2, HBb12.out.cell 3⟩) (fun hHeld => ?_)
          clear hK K
          generalize w25.alloc (.cells #[.int .i64 0, .int .i64 0, .int .i64 0, .slice none 0 0] 32) = w26 at *
          refine wpAnyH_ready (rs := [8]) (by kernel_rfl) (by simp) ?_
          refine AllReadyH.cons rfl (fun K hK => ?_) AllReadyH.nil
          have a0 := HA.out.cell 0
          have f0 := HA.out.free 0
          have a1 := HA.out.cell 1
          have f1 := HA.out.free 1
          have a2 := HA.out.cell 2
          have f2 := HA.out.free 2
          have a3 := HA.out.cell 3
          have f3 := HA.out.free 3
          have hB4 := below_set4 w26 (w25.heap.size) w22.heap.size (by have z0 := HZw1.out; have z1 := HZw2.out; have z2 := HZw3.out; have z3 := HZadg9.out; have z4 := HZw21.out; have z5 := HZw22.out; have z6 := HZw24.out; have z7 := HZw25.out; have z8 := HZw26.out; omega) (.int .i64 z.s) (.int .i64 z.f) (.int .i64 z.d) (.slice ag13 z.ms.length cg13)
          have HAN := Lib.hid (blk_set4 HA.out (.int .i64 z.s) (.int .i64 z.f) (.int .i64 z.d) (.slice ag13 z.ms.length cg13))
          have HON := Lib.hid (own_apart4 (b := w25.heap.size) HOg13.out (fun b h => by have l := HRg13.out b h; have z0 := HZw1.out; have z1 := HZw2.out; have z2 := HZw3.out; have z3 := HZadg9.out; have z4 := HZw21.out; have z5 := HZw22.out; have z6 := HZw24.out; have z7 := HZw25.out; have z8 := HZw26.out; omega) (.int .i64 z.s) (.int .i64 z.f) (.int .i64 z.d) (.slice ag13 z.ms.length cg13))
          have HSN := Lib.hid (size_set4 w26 (w25.heap.size) (.int .i64 z.s) (.int .i64 z.f) (.int .i64 z.d) (.slice ag13 z.ms.length cg13))
          have HX := Lib.hid (HX.out.nextAt (m := w22.heap.size) (by have z0 := HZw1.out; have z1 := HZw2.out; have z2 := HZw3.out; have z3 := HZadg9.out; have z4 := HZw21.out; have z5 := HZw22.out; have z6 := HZw24.out; have z7 := HZw25.out; have z8 := HZw26.out; omega) hB4)
          have HBb1 := Lib.hid (HBb1.out.belowAt (m := w22.heap.size) (by have z0 := HZw1.out; have z1 := HZw2.out; have z2 := HZw3.out; have z3 := HZadg9.out; have z4 := HZw21.out; have z5 := HZw22.out; have z6 := HZw24.out; have z7 := HZw25.out; have z8 := HZw26.out; omega) hB4)
          have HBb10 := Lib.hid (HBb10.out.belowAt (m := w22.heap.size) (by have z0 := HZw1.out; have z1 := HZw2.out; have z2 := HZw3.out; have z3 := HZadg9.out; have z4 := HZw21.out; have z5 := HZw22.out; have z6 := HZw24.out; have z7 := HZw25.out; have z8 := HZw26.out; omega) hB4)
          have HBb12 := Lib.hid (HBb12.out.belowAt (m := w22.heap.size) (by have z0 := HZw1.out; have z1 := HZw2.out; have z2 := HZw3.out; have z3 := HZadg9.out; have z4 := HZw21.out; have z5 := HZw22.out; have z6 := HZw24.out; have z7 := HZw25.out; have z8 := HZw26.out; omega) hB4)
          have HF := Lib.hid (HF.out.trans hB4)
          clear hB4 HA
          go_simp
          clear hHeld
          refine hK.out _ _ (⟨HX.out, HX.out.c0, HX.out.c1, HBb1.out, HBb1.out.cell 0, HBb1.out.cell 1, HBb1.out.cell 2, HBb1.out.cell 3, HBb10.out, HBb10.out.cell 0, HBb10.out.cell 1, HBb10.out.cell 2, HBb10.out.cell 3, HBb12.out, HBb12.out.cell 0, HBb12.out.cell 1, HBb12.out.cell 2, HBb12.out.cell 3⟩) (fun hHeld => ?_)
          clear hK K a0 a1 a2 a3 f0 f1 f2 f3
          generalize (((w26.setCell ⟨w25.heap.size, 0, none⟩ (.int .i64 z.s)).setCell ⟨w25.heap.size, 1, none⟩ (.int .i64 z.f)).setCell ⟨w25.heap.size, 2, none⟩ (.int .i64 z.d)).setCell ⟨w25.heap.size, 3, none⟩ (.slice ag13 z.ms.length cg13) = w27 at *
          refine wpAnyH_take (i := 9) (oi := _) (v := ?_) rfl (by kernel_rfl) (by kernel_rfl) (by kernel_rfl) (fun _ _ _ h => h) (Or.inl ⟨by rfl, ?_⟩) (by assumption) ?_
          rotate_left
          · (intro w hSw; (try dsimp only at hSw); (first | (go_simp; done) | (go_simp; with_reducible rfl)))
          simp only [Act.put, List.getElem_toArray, List.getElem_cons_succ, List.getElem_cons_zero, List.setIfInBounds_toArray, List.set_cons_zero, List.set_cons_succ]
          refine wpAnyH_done (by kernel_rfl) ?_ _
          refine NoPanic.normal ?_
          clear hHeld
          go_wp2_with fail
          go_meet
          exact ⟨w25.heap.size, (.slice ag13 z.ms.length cg13), rfl, rfl, by have z0 := HSN.out; have y0 := HZw1.out; have y1 := HZw2.out; have y2 := HZw3.out; have y3 := HZadg9.out; have y4 := HZw21.out; have y5 := HZw22.out; have y6 := HZw24.out; have y7 := HZw25.out; have y8 := HZw26.out; omega, HAN.out, owns_lower HON.out (by have z0 := HZw1.out; have z1 := HZw2.out; have z2 := HZw3.out; have z3 := HZadg9.out; have z4 := HZw21.out; have z5 := HZw22.out; have z6 := HZw24.out; have z7 := HZw25.out; have z8 := HZw26.out; omega), fun b h => by have l := HRg13.out b h; have z0 := HSN.out; have y0 := HZw1.out; have y1 := HZw2.out; have y2 := HZw3.out; have y3 := HZadg9.out; have y4 := HZw21.out; have y5 := HZw22.out; have y6 := HZw24.out; have y7 := HZw25.out; have y8 := HZw26.out; omega, HF.out⟩
        · skip
          go_simp
          have HA := Lib.hid (show Blk (w24.alloc (.cells #[.int .i64 0, .int .i64 0, .int .i64 0, .slice none 0 0] 32)) (w24.heap.size) #[.int .i64 0, .int .i64 0, .int .i64 0, .slice none 0 0] 32 from blk_at w24 #[.int .i64 0, .int .i64 0, .int .i64 0, .slice none 0 0] 32 (w24.heap.size) rfl)
          have HX := Lib.hid (HX.out.next (show Below w24.heap.size w24 (w24.alloc (.cells #[.int .i64 0, .int .i64 0, .int .i64 0, .slice none 0 0] 32)) from below_new w24 (.cells #[.int .i64 0, .int .i64 0, .int .i64 0, .slice none 0 0] 32)))
          have HBb1 := Lib.hid (HBb1.out.below (show Below w24.heap.size w24 (w24.alloc (.cells #[.int .i64 0, .int .i64 0, .int .i64 0, .slice none 0 0] 32)) from below_new w24 (.cells #[.int .i64 0, .int .i64 0, .int .i64 0, .slice none 0 0] 32)))
          have HBb10 := Lib.hid (HBb10.out.below (show Below w24.heap.size w24 (w24.alloc (.cells #[.int .i64 0, .int .i64 0, .int .i64 0, .slice none 0 0] 32)) from below_new w24 (.cells #[.int .i64 0, .int .i64 0, .int .i64 0, .slice none 0 0] 32)))
          have HBb12 := Lib.hid (HBb12.out.below (show Below w24.heap.size w24 (w24.alloc (.cells #[.int .i64 0, .int .i64 0, .int .i64 0, .slice none 0 0] 32)) from below_new w24 (.cells #[.int .i64 0, .int .i64 0, .int .i64 0, .slice none 0 0] 32)))
          have HOg9 := Lib.hid (owns_below HOg9.out (show Below w24.heap.size w24 (w24.alloc (.cells #[.int .i64 0, .int .i64 0, .int .i64 0, .slice none 0 0] 32)) from below_new w24 (.cells #[.int .i64 0, .int .i64 0, .int .i64 0, .slice none 0 0] 32)))
          have HOx11 := Lib.hid (owns_below HOx11.out (show Below w24.heap.size w24 (w24.alloc (.cells #[.int .i64 0, .int .i64 0, .int .i64 0, .slice none 0 0] 32)) from below_new w24 (.cells #[.int .i64 0, .int .i64 0, .int .i64 0, .slice none 0 0] 32)))
          have HMid := Lib.hid (HMid.out.trans ((show Below w24.heap.size w24 (w24.alloc (.cells #[.int .i64 0, .int .i64 0, .int .i64 0, .slice none 0 0] 32)) from below_new w24 (.cells #[.int .i64 0, .int .i64 0, .int .i64 0, .slice none 0 0] 32)).mono HMid.out.size))
          have HF := Lib.hid (HF.out.trans ((show Below w24.heap.size w24 (w24.alloc (.cells #[.int .i64 0, .int .i64 0, .int .i64 0, .slice none 0 0] 32)) from below_new w24 (.cells #[.int .i64 0, .int .i64 0, .int .i64 0, .slice none 0 0] 32)).mono HF.out.size))
          have HZw28 : Hid (w24.heap.size < (w24.alloc (.cells #[.int .i64 0, .int .i64 0, .int .i64 0, .slice none 0 0] 32)).heap.size) := Lib.hid (by simp)
          clear hHeld
          refine hK.out _ _ (⟨HX.out, HX.out.c0, HX.out.c1, HBb1.out, HBb1.out.cell 0, HBb1.out.cell 1, HBb1.out.cell 2, HBb1.out.cell 3, HBb10.out, HBb10.out.cell 0, HBb10.out.cell 1, HBb10.out.cell 2, HBb10.out.cell 3, HBb12.out, HBb12.out.cell 0, HBb12.out.cell 1, HBb12.out.cell 2, HBb12.out.cell 3⟩) (fun hHeld => ?_)
          clear hK K
          generalize w24.alloc (.cells #[.int .i64 0, .int .i64 0, .int .i64 0, .slice none 0 0] 32) = w28 at *
          refine wpAnyH_ready (rs := [3]) (by kernel_rfl) (by simp) ?_
          refine AllReadyH.cons rfl (fun K hK => ?_) AllReadyH.nil
          go_simp
          refine (HI.out (.slice ax11 k1.ms.length cx11) _ (owns_reads HOx11.out Hnk1_ms.out)).mono ?_
          rintro e w29 ⟨g14, rfl, ho, hb⟩
          have HX := Lib.hid (HX.out.next hb)
          have HBb1 := Lib.hid (HBb1.out.below hb)
          have HBb10 := Lib.hid (HBb10.out.below hb)
          have HBb12 := Lib.hid (HBb12.out.below hb)
          have HOg9 := Lib.hid (owns_below HOg9.out hb)
          have HOx11 := Lib.hid (owns_below HOx11.out hb)
          have HMid := Lib.hid (HMid.out.trans (hb.mono HMid.out.size))
          have HF := Lib.hid (HF.out.trans (hb.mono HF.out.size))
          have HA := Lib.hid (HA.out.below hb)
          have HZw29 : Hid (w28.heap.size ≤ w29.heap.size) := Lib.hid (hb.size)
          have HRg14 : Hid (∀ b, g14.ownBlock = some b → w28.heap.size ≤ b ∧ b < w29.heap.size) := Lib.hid (fun b hb => owns_block ho b hb)
          obtain ⟨ag14, cg14, hsg14, _⟩ := owns_shape ho
          subst hsg14
          have HOg14 := Lib.hid ho
          clear ho
          clear hb hHeld
          go_wp2_with fail
          refine hK.out _ _ (⟨HX.out, HX.out.c0, HX.out.c1, HBb1.out, HBb1.out.cell 0, HBb1.out.cell 1, HBb1.out.cell 2, HBb1.out.cell 3, HBb10.out, HBb10.out.cell 0, HBb10.out.cell 1, HBb10.out.cell 2, HBb10.out.cell 3, HBb12.out, HBb12.out.cell 0, HBb12.out.cell 1, HBb12.out.cell 2, HBb12.out.cell 3⟩) (fun hHeld => ?_)
          clear hK K
          refine wpAnyH_take (i := 4) (oi := _) (v := ?_) rfl (by kernel_rfl) (by kernel_rfl) (by kernel_rfl) (fun _ _ _ h => h) (Or.inl ⟨by rfl, ?_⟩) (by assumption) ?_
          rotate_left
          · (intro w hSw; (try dsimp only at hSw); (first | (go_simp; done) | (go_simp; with_reducible rfl)))
          simp only [Act.put, List.getElem_toArray, List.getElem_cons_succ, List.getElem_cons_zero, List.setIfInBounds_toArray, List.set_cons_zero, List.set_cons_succ]
          refine wpAnyH_take (i := 5) (oi := _) (v := ?_) rfl (by kernel_rfl) (by kernel_rfl) (by kernel_rfl) (fun _ _ _ h => h) (Or.inl ⟨by rfl, ?_⟩) (by assumption) ?_
          rotate_left
          · (intro w hSw; (try dsimp only at hSw); (first | (go_simp; done) | (go_simp; with_reducible rfl)))
          simp only [Act.put, List.getElem_toArray, List.getElem_cons_succ, List.getElem_cons_zero, List.setIfInBounds_toArray, List.set_cons_zero, List.set_cons_succ]
          refine wpAnyH_take (i := 6) (oi := _) (v := ?_) rfl (by kernel_rfl) (by kernel_rfl) (by kernel_rfl) (fun _ _ _ h => h) (Or.inl ⟨by rfl, ?_⟩) (by assumption) ?_
          rotate_left
          · (intro w hSw; (try dsimp only at hSw); (first | (go_simp; done) | (go_simp; with_reducible rfl)))
          simp only [Act.put, List.getElem_toArray, List.getElem_cons_succ, List.getElem_cons_zero, List.setIfInBounds_toArray, List.set_cons_zero, List.set_cons_succ]
          refine wpAnyH_ready (rs := [8]) (by kernel_rfl) (by simp) ?_
          refine AllReadyH.cons rfl (fun K hK => ?_) AllReadyH.nil
          have a0 := HA.out.cell 0
          have f0 := HA.out.free 0
          have a1 := HA.out.cell 1
          have f1 := HA.out.free 1
          have a2 := HA.out.cell 2
          have f2 := HA.out.free 2
          have a3 := HA.out.cell 3
          have f3 := HA.out.free 3
          have hB4 := below_set4 w29 (w24.heap.size) w22.heap.size (by have z0 := HZw1.out; have z1 := HZw2.out; have z2 := HZw3.out; have z3 := HZadg9.out; have z4 := HZw21.out; have z5 := HZw22.out; have z6 := HZw24.out; have z7 := HZw28.out; have z8 := HZw29.out; omega) (.int .i64 z.s) (.int .i64 z.f) (.int .i64 z.d) (.slice ag14 z.ms.length cg14)
          have HAN := Lib.hid (blk_set4 HA.out (.int .i64 z.s) (.int .i64 z.f) (.int .i64 z.d) (.slice ag14 z.ms.length cg14))
          have HON := Lib.hid (own_apart4 (b := w24.heap.size) HOg14.out (fun b h => by have l := HRg14.out b h; have z0 := HZw1.out; have z1 := HZw2.out; have z2 := HZw3.out; have z3 := HZadg9.out; have z4 := HZw21.out; have z5 := HZw22.out; have z6 := HZw24.out; have z7 := HZw28.out; have z8 := HZw29.out; omega) (.int .i64 z.s) (.int .i64 z.f) (.int .i64 z.d) (.slice ag14 z.ms.length cg14))
          have HSN := Lib.hid (size_set4 w29 (w24.heap.size) (.int .i64 z.s) (.int .i64 z.f) (.int .i64 z.d) (.slice ag14 z.ms.length cg14))
          have HX := Lib.hid (HX.out.nextAt (m := w22.heap.size) (by have z0 := HZw1.out; have z1 := HZw2.out; have z2 := HZw3.out; have z3 := HZadg9.out; have z4 := HZw21.out; have z5 := HZw22.out; have z6 := HZw24.out; have z7 := HZw28.out; have z8 := HZw29.out; omega) hB4)
          have HBb1 := Lib.hid (HBb1.out.belowAt (m := w22.heap.size) (by have z0 := HZw1.out; have z1 := HZw2.out; have z2 := HZw3.out; have z3 := HZadg9.out; have z4 := HZw21.out; have z5 := HZw22.out; have z6 := HZw24.out; have z7 := HZw28.out; have z8 := HZw29.out; omega) hB4)
          have HBb10 := Lib.hid (HBb10.out.belowAt (m := w22.heap.size) (by have z0 := HZw1.out; have z1 := HZw2.out; have z2 := HZw3.out; have z3 := HZadg9.out; have z4 := HZw21.out; have z5 := HZw22.out; have z6 := HZw24.out; have z7 := HZw28.out; have z8 := HZw29.out; omega) hB4)
          have HBb12 := Lib.hid (HBb12.out.belowAt (m := w22.heap.size) (by have z0 := HZw1.out; have z1 := HZw2.out; have z2 := HZw3.out; have z3 := HZadg9.out; have z4 := HZw21.out; have z5 := HZw22.out; have z6 := HZw24.out; have z7 := HZw28.out; have z8 := HZw29.out; omega) hB4)
          have HF := Lib.hid (HF.out.trans hB4)
          clear hB4 HA
          go_simp
          clear hHeld
          refine hK.out _ _ (⟨HX.out, HX.out.c0, HX.out.c1, HBb1.out, HBb1.out.cell 0, HBb1.out.cell 1, HBb1.out.cell 2, HBb1.out.cell 3, HBb10.out, HBb10.out.cell 0, HBb10.out.cell 1, HBb10.out.cell 2, HBb10.out.cell 3, HBb12.out, HBb12.out.cell 0, HBb12.out.cell 1, HBb12.out.cell 2, HBb12.out.cell 3⟩) (fun hHeld => ?_)
          clear hK K a0 a1 a2 a3 f0 f1 f2 f3
          generalize (((w29.setCell ⟨w24.heap.size, 0, none⟩ (.int .i64 z.s)).setCell ⟨w24.heap.size, 1, none⟩ (.int .i64 z.f)).setCell ⟨w24.heap.size, 2, none⟩ (.int .i64 z.d)).setCell ⟨w24.heap.size, 3, none⟩ (.slice ag14 z.ms.length cg14) = w30 at *
          refine wpAnyH_take (i := 9) (oi := _) (v := ?_) rfl (by kernel_rfl) (by kernel_rfl) (by kernel_rfl) (fun _ _ _ h => h) (Or.inl ⟨by rfl, ?_⟩) (by assumption) ?_
          rotate_left
          · (intro w hSw; (try dsimp only at hSw); (first | (go_simp; done) | (go_simp; with_reducible rfl)))
          simp only [Act.put, List.getElem_toArray, List.getElem_cons_succ, List.getElem_cons_zero, List.setIfInBounds_toArray, List.set_cons_zero, List.set_cons_succ]
          refine wpAnyH_done (by kernel_rfl) ?_ _
          refine NoPanic.normal ?_
          clear hHeld
          go_wp2_with fail
          go_meet
          exact ⟨w24.heap.size, (.slice ag14 z.ms.length cg14), rfl, rfl, by have z0 := HSN.out; have y0 := HZw1.out; have y1 := HZw2.out; have y2 := HZw3.out; have y3 := HZadg9.out; have y4 := HZw21.out; have y5 := HZw22.out; have y6 := HZw24.out; have y7 := HZw28.out; have y8 := HZw29.out; omega, HAN.out, owns_lower HON.out (by have z0 := HZw1.out; have z1 := HZw2.out; have z2 := HZw3.out; have z3 := HZadg9.out; have z4 := HZw21.out; have z5 := HZw22.out; have z6 := HZw24.out; have z7 := HZw28.out; have z8 := HZw29.out; omega), fun b h => by have l := HRg14.out b h; have z0 := HSN.out; have y0 := HZw1.out; have y1 := HZw2.out; have y2 := HZw3.out; have y3 := HZadg9.out; have y4 := HZw21.out; have y5 := HZw22.out; have y6 := HZw24.out; have y7 := HZw28.out; have y8 := HZw29.out; omega, HF.out⟩
      · skip
        go_simp
        have HA := Lib.hid (show Blk ((w22.alloc (.cells #[.int .i64 0, .int .i64 0, .int .i64 0, .slice none 0 0] 32)).drew) (w22.heap.size) #[.int .i64 0, .int .i64 0, .int .i64 0, .slice none 0 0] 32 from blk_at (w22.drewN 1) #[.int .i64 0, .int .i64 0, .int .i64 0, .slice none 0 0] 32 (w22.heap.size) rfl)
        have HX := Lib.hid (HX.out.next (show Below (w22.drewN 1).heap.size (w22.drewN 1) ((w22.alloc (.cells #[.int .i64 0, .int .i64 0, .int .i64 0, .slice none 0 0] 32)).drew) from below_new (w22.drewN 1) (.cells #[.int .i64 0, .int .i64 0, .int .i64 0, .slice none 0 0] 32)))
        have HBb1 := Lib.hid (HBb1.out.below (show Below (w22.drewN 1).heap.size (w22.drewN 1) ((w22.alloc (.cells #[.int .i64 0, .int .i64 0, .int .i64 0, .slice none 0 0] 32)).drew) from below_new (w22.drewN 1) (.cells #[.int .i64 0, .int .i64 0, .int .i64 0, .slice none 0 0] 32)))
        have HBb10 := Lib.hid (HBb10.out.below (show Below (w22.drewN 1).heap.size (w22.drewN 1) ((w22.alloc (.cells #[.int .i64 0, .int .i64 0, .int .i64 0, .slice none 0 0] 32)).drew) from below_new (w22.drewN 1) (.cells #[.int .i64 0, .int .i64 0, .int .i64 0, .slice none 0 0] 32)))
        have HBb12 := Lib.hid (HBb12.out.below (show Below (w22.drewN 1).heap.size (w22.drewN 1) ((w22.alloc (.cells #[.int .i64 0, .int .i64 0, .int .i64 0, .slice none 0 0] 32)).drew) from below_new (w22.drewN 1) (.cells #[.int .i64 0, .int .i64 0, .int .i64 0, .slice none 0 0] 32)))
        have HOg9 := Lib.hid (owns_below HOg9.out (show Below (w22.drewN 1).heap.size (w22.drewN 1) ((w22.alloc (.cells #[.int .i64 0, .int .i64 0, .int .i64 0, .slice none 0 0] 32)).drew) from below_new (w22.drewN 1) (.cells #[.int .i64 0, .int .i64 0, .int .i64 0, .slice none 0 0] 32)))
        have HOx11 := Lib.hid (owns_below HOx11.out (show Below (w22.drewN 1).heap.size (w22.drewN 1) ((w22.alloc (.cells #[.int .i64 0, .int .i64 0, .int .i64 0, .slice none 0 0] 32)).drew) from below_new (w22.drewN 1) (.cells #[.int .i64 0, .int .i64 0, .int .i64 0, .slice none 0 0] 32)))
        have HMid := Lib.hid (HMid.out.trans ((show Below (w22.drewN 1).heap.size (w22.drewN 1) ((w22.alloc (.cells #[.int .i64 0, .int .i64 0, .int .i64 0, .slice none 0 0] 32)).drew) from below_new (w22.drewN 1) (.cells #[.int .i64 0, .int .i64 0, .int .i64 0, .slice none 0 0] 32)).mono HMid.out.size))
        have HF := Lib.hid (HF.out.trans ((show Below (w22.drewN 1).heap.size (w22.drewN 1) ((w22.alloc (.cells #[.int .i64 0, .int .i64 0, .int .i64 0, .slice none 0 0] 32)).drew) from below_new (w22.drewN 1) (.cells #[.int .i64 0, .int .i64 0, .int .i64 0, .slice none 0 0] 32)).mono HF.out.size))
        have HZw31 : Hid (w22.heap.size < ((w22.alloc (.cells #[.int .i64 0, .int .i64 0, .int .i64 0, .slice none 0 0] 32)).drew).heap.size) := Lib.hid (by simp)
        clear hHeld
        refine hK.out _ _ (⟨HX.out, HX.out.c0, HX.out.c1, HBb1.out, HBb1.out.cell 0, HBb1.out.cell 1, HBb1.out.cell 2, HBb1.out.cell 3, HBb10.out, HBb10.out.cell 0, HBb10.out.cell 1, HBb10.out.cell 2, HBb10.out.cell 3, HBb12.out, HBb12.out.cell 0, HBb12.out.cell 1, HBb12.out.cell 2, HBb12.out.cell 3⟩) (fun hHeld => ?_)
        clear hK K
        generalize (w22.alloc (.cells #[.int .i64 0, .int .i64 0, .int .i64 0, .slice none 0 0] 32)).drew = w31 at *
        refine wpAnyH_ready (rs := [1]) (by kernel_rfl) (by simp) ?_
        refine AllReadyH.cons rfl (fun K hK => ?_) AllReadyH.nil
        go_simp
        refine (HT.out _).mono ?_
        rintro e w32 ⟨rfl, hb⟩
        have HX := Lib.hid (HX.out.next hb)
        have HBb1 := Lib.hid (HBb1.out.below hb)
        have HBb10 := Lib.hid (HBb10.out.below hb)
        have HBb12 := Lib.hid (HBb12.out.below hb)
        have HOg9 := Lib.hid (owns_below HOg9.out hb)
        have HOx11 := Lib.hid (owns_below HOx11.out hb)
        have HMid := Lib.hid (HMid.out.trans (hb.mono HMid.out.size))
        have HF := Lib.hid (HF.out.trans (hb.mono HF.out.size))
        have HA := Lib.hid (HA.out.below hb)
        have HZw32 : Hid (w31.heap.size ≤ w32.heap.size) := Lib.hid (hb.size)
        clear hb hHeld
        go_wp2_with fail
        refine hK.out _ _ (⟨HX.out, HX.out.c0, HX.out.c1, HBb1.out, HBb1.out.cell 0, HBb1.out.cell 1, HBb1.out.cell 2, HBb1.out.cell 3, HBb10.out, HBb10.out.cell 0, HBb10.out.cell 1, HBb10.out.cell 2, HBb10.out.cell 3, HBb12.out, HBb12.out.cell 0, HBb12.out.cell 1, HBb12.out.cell 2, HBb12.out.cell 3⟩) (fun hHeld => ?_)
        clear hK K
        refine wpAnyH_ready (rs := [3]) (by kernel_rfl) (by simp) ?_
        refine AllReadyH.cons rfl (fun K hK => ?_) AllReadyH.nil
        go_simp
        refine (HI.out (.slice ax11 k1.ms.length cx11) _ (owns_reads HOx11.out Hnk1_ms.out)).mono ?_
        rintro e w33 ⟨g15, rfl, ho, hb⟩
        have HX := Lib.hid (HX.out.next hb)
        have HBb1 := Lib.hid (HBb1.out.below hb)
        have HBb10 := Lib.hid (HBb10.out.below hb)
        have HBb12 := Lib.hid (HBb12.out.below hb)
        have HOg9 := Lib.hid (owns_below HOg9.out hb)
        have HOx11 := Lib.hid (owns_below HOx11.out hb)
        have HMid := Lib.hid (HMid.out.trans (hb.mono HMid.out.size))
        have HF := Lib.hid (HF.out.trans (hb.mono HF.out.size))
        have HA := Lib.hid (HA.out.below hb)
        have HZw33 : Hid (w32.heap.size ≤ w33.heap.size) := Lib.hid (hb.size)
        have HRg15 : Hid (∀ b, g15.ownBlock = some b → w32.heap.size ≤ b ∧ b < w33.heap.size) := Lib.hid (fun b hb => owns_block ho b hb)
        obtain ⟨ag15, cg15, hsg15, _⟩ := owns_shape ho
        subst hsg15
        have HOg15 := Lib.hid ho
        clear ho
        clear hb hHeld
        go_wp2_with fail
        refine hK.out _ _ (⟨HX.out, HX.out.c0, HX.out.c1, HBb1.out, HBb1.out.cell 0, HBb1.out.cell 1, HBb1.out.cell 2, HBb1.out.cell 3, HBb10.out, HBb10.out.cell 0, HBb10.out.cell 1, HBb10.out.cell 2, HBb10.out.cell 3, HBb12.out, HBb12.out.cell 0, HBb12.out.cell 1, HBb12.out.cell 2, HBb12.out.cell 3⟩) (fun hHeld => ?_)
        clear hK K
        refine wpAnyH_take (i := 4) (oi := _) (v := ?_) rfl (by kernel_rfl) (by kernel_rfl) (by kernel_rfl) (fun _ _ _ h => h) (Or.inl ⟨by rfl, ?_⟩) (by assumption) ?_
        rotate_left
        · (intro w hSw; (try dsimp only at hSw); (first | (go_simp; done) | (go_simp; with_reducible rfl)))
        simp only [Act.put, List.getElem_toArray, List.getElem_cons_succ, List.getElem_cons_zero, List.setIfInBounds_toArray, List.set_cons_zero, List.set_cons_succ]
        refine wpAnyH_take (i := 5) (oi := _) (v := ?_) rfl (by kernel_rfl) (by kernel_rfl) (by kernel_rfl) (fun _ _ _ h => h) (Or.inl ⟨by rfl, ?_⟩) (by assumption) ?_
        rotate_left
        · (intro w hSw; (try dsimp only at hSw); (first | (go_simp; done) | (go_simp; with_reducible rfl)))
        simp only [Act.put, List.getElem_toArray, List.getElem_cons_succ, List.getElem_cons_zero, List.setIfInBounds_toArray, List.set_cons_zero, List.set_cons_succ]
        refine wpAnyH_take (i := 6) (oi := _) (v := ?_) rfl (by kernel_rfl) (by kernel_rfl) (by kernel_rfl) (fun _ _ _ h => h) (Or.inl ⟨by rfl, ?_⟩) (by assumption) ?_
        rotate_left
        · (intro w hSw; (try dsimp only at hSw); (first | (go_simp; done) | (go_simp; with_reducible rfl)))
        simp only [Act.put, List.getElem_toArray, List.getElem_cons_succ, List.getElem_cons_zero, List.setIfInBounds_toArray, List.set_cons_zero, List.set_cons_succ]
        refine wpAnyH_ready (rs := [8]) (by kernel_rfl) (by simp) ?_
        refine AllReadyH.cons rfl (fun K hK => ?_) AllReadyH.nil
        have a0 := HA.out.cell 0
        have f0 := HA.out.free 0
        have a1 := HA.out.cell 1
        have f1 := HA.out.free 1
        have a2 := HA.out.cell 2
        have f2 := HA.out.free 2
        have a3 := HA.out.cell 3
        have f3 := HA.out.free 3
        have hB4 := below_set4 w33 (w22.heap.size) w22.heap.size (by have z0 := HZw1.out; have z1 := HZw2.out; have z2 := HZw3.out; have z3 := HZadg9.out; have z4 := HZw21.out; have z5 := HZw22.out; have z6 := HZw31.out; have z7 := HZw32.out; have z8 := HZw33.out; omega) (.int .i64 z.s) (.int .i64 z.f) (.int .i64 z.d) (.slice ag15 z.ms.length cg15)
        have HAN := Lib.hid (blk_set4 HA.out (.int .i64 z.s) (.int .i64 z.f) (.int .i64 z.d) (.slice ag15 z.ms.length cg15))
        have HON := Lib.hid (own_apart4 (b := w22.heap.size) HOg15.out (fun b h => by have l := HRg15.out b h; have z0 := HZw1.out; have z1 := HZw2.out; have z2 := HZw3.out; have z3 := HZadg9.out; have z4 := HZw21.out; have z5 := HZw22.out; have z6 := HZw31.out; have z7 := HZw32.out; have z8 := HZw33.out; omega) (.int .i64 z.s) (.int .i64 z.f) (.int .i64 z.d) (.slice ag15 z.ms.length cg15))
        have HSN := Lib.hid (size_set4 w33 (w22.heap.size) (.int .i64 z.s) (.int .i64 z.f) (.int .i64 z.d) (.slice ag15 z.ms.length cg15))
        have HX := Lib.hid (HX.out.nextAt (m := w22.heap.size) (by have z0 := HZw1.out; have z1 := HZw2.out; have z2 := HZw3.out; have z3 := HZadg9.out; have z4 := HZw21.out; have z5 := HZw22.out; have z6 := HZw31.out; have z7 := HZw32.out; have z8 := HZw33.out; omega) hB4)
        have HBb1 := Lib.hid (HBb1.out.belowAt (m := w22.heap.size) (by have z0 := HZw1.out; have z1 := HZw2.out; have z2 := HZw3.out; have z3 := HZadg9.out; have z4 := HZw21.out; have z5 := HZw22.out; have z6 := HZw31.out; have z7 := HZw32.out; have z8 := HZw33.out; omega) hB4)
        have HBb10 := Lib.hid (HBb10.out.belowAt (m := w22.heap.size) (by have z0 := HZw1.out; have z1 := HZw2.out; have z2 := HZw3.out; have z3 := HZadg9.out; have z4 := HZw21.out; have z5 := HZw22.out; have z6 := HZw31.out; have z7 := HZw32.out; have z8 := HZw33.out; omega) hB4)
        have HBb12 := Lib.hid (HBb12.out.belowAt (m := w22.heap.size) (by have z0 := HZw1.out; have z1 := HZw2.out; have z2 := HZw3.out; have z3 := HZadg9.out; have z4 := HZw21.out; have z5 := HZw22.out; have z6 := HZw31.out; have z7 := HZw32.out; have z8 := HZw33.out; omega) hB4)
        have HF := Lib.hid (HF.out.trans hB4)
        clear hB4 HA
        go_simp
        clear hHeld
        refine hK.out _ _ (⟨HX.out, HX.out.c0, HX.out.c1, HBb1.out, HBb1.out.cell 0, HBb1.out.cell 1, HBb1.out.cell 2, HBb1.out.cell 3, HBb10.out, HBb10.out.cell 0, HBb10.out.cell 1, HBb10.out.cell 2, HBb10.out.cell 3, HBb12.out, HBb12.out.cell 0, HBb12.out.cell 1, HBb12.out.cell 2, HBb12.out.cell 3⟩) (fun hHeld => ?_)
        clear hK K a0 a1 a2 a3 f0 f1 f2 f3
        generalize (((w33.setCell ⟨w22.heap.size, 0, none⟩ (.int .i64 z.s)).setCell ⟨w22.heap.size, 1, none⟩ (.int .i64 z.f)).setCell ⟨w22.heap.size, 2, none⟩ (.int .i64 z.d)).setCell ⟨w22.heap.size, 3, none⟩ (.slice ag15 z.ms.length cg15) = w34 at *
        refine wpAnyH_take (i := 9) (oi := _) (v := ?_) rfl (by kernel_rfl) (by kernel_rfl) (by kernel_rfl) (fun _ _ _ h => h) (Or.inl ⟨by rfl, ?_⟩) (by assumption) ?_
        rotate_left
        · (intro w hSw; (try dsimp only at hSw); (first | (go_simp; done) | (go_simp; with_reducible rfl)))
        simp only [Act.put, List.getElem_toArray, List.getElem_cons_succ, List.getElem_cons_zero, List.setIfInBounds_toArray, List.set_cons_zero, List.set_cons_succ]
        refine wpAnyH_done (by kernel_rfl) ?_ _
        refine NoPanic.normal ?_
        clear hHeld
        go_wp2_with fail
        go_meet
        exact ⟨w22.heap.size, (.slice ag15 z.ms.length cg15), rfl, rfl, by have z0 := HSN.out; have y0 := HZw1.out; have y1 := HZw2.out; have y2 := HZw3.out; have y3 := HZadg9.out; have y4 := HZw21.out; have y5 := HZw22.out; have y6 := HZw31.out; have y7 := HZw32.out; have y8 := HZw33.out; omega, HAN.out, owns_lower HON.out (by have z0 := HZw1.out; have z1 := HZw2.out; have z2 := HZw3.out; have z3 := HZadg9.out; have z4 := HZw21.out; have z5 := HZw22.out; have z6 := HZw31.out; have z7 := HZw32.out; have z8 := HZw33.out; omega), fun b h => by have l := HRg15.out b h; have z0 := HSN.out; have y0 := HZw1.out; have y1 := HZw2.out; have y2 := HZw3.out; have y3 := HZadg9.out; have y4 := HZw21.out; have y5 := HZw22.out; have y6 := HZw31.out; have y7 := HZw32.out; have y8 := HZw33.out; omega, HF.out⟩
    case rest =>
      generalize wc = w23 at *
      clear wc
      obtain ⟨adg16, g16, rfl, rfl, hlo, hbk, ho, hr, hb⟩ := hcut
      obtain ⟨ag16, cg16, hsg16, _⟩ := owns_shape ho
      subst hsg16
      have HX := Lib.hid (HX.out.next hb)
      have HBb1 := Lib.hid (HBb1.out.below hb)
      have HBb10 := Lib.hid (HBb10.out.below hb)
      have HBb12 := Lib.hid (HBb12.out.below hb)
      have HOg9 := Lib.hid (owns_below HOg9.out hb)
      have HOx11 := Lib.hid (owns_below HOx11.out hb)
      have HMid := Lib.hid (HMid.out.trans (hb.mono HMid.out.size))
      have HZw23 : Hid (w22.heap.size ≤ w23.heap.size) := Lib.hid (hb.size)
      have HZadg16 : Hid (w22.heap.size ≤ adg16 ∧ adg16 < w23.heap.size) := Lib.hid hlo
      have HRg16 := Lib.hid hr
      have HOg16 := Lib.hid ho
      have HBb17 := Lib.hid hbk
      clear hlo hbk ho hr hb
      obtain ⟨b1, hb1⟩ : ∃ b1, b1 = b := ⟨_, rfl⟩
      have HBB := Lib.hid hb1
      clear hb1
      cases b
      all_goals
        have hb0 := HX.out.c0
        have hb1 := HX.out.c1
        have hc_b10 := HBb1.out.cell 0
        have hc_b11 := HBb1.out.cell 1
        have hc_b12 := HBb1.out.cell 2
        have hc_b13 := HBb1.out.cell 3
        have hc_b100 := HBb10.out.cell 0
        have hc_b101 := HBb10.out.cell 1
        have hc_b102 := HBb10.out.cell 2
        have hc_b103 := HBb10.out.cell 3
        have hc_b120 := HBb12.out.cell 0
        have hc_b121 := HBb12.out.cell 1
        have hc_b122 := HBb12.out.cell 2
        have hc_b123 := HBb12.out.cell 3
        have hc_b170 := HBb17.out.cell 0
        have hc_b171 := HBb17.out.cell 1
        have hc_b172 := HBb17.out.cell 2
        have hc_b173 := HBb17.out.cell 3
        go_wp2_with fail
        refine (eqW_any z (.slice ag16 z.ms.length cg16) (.slice ag9 z.ms.length cg9) _ (owns_reads HOg16.out Hnz_ms.out) (owns_reads HOg9.out Hnz_ms.out)).mono ?_
        rintro e w35 ⟨rfl, hb⟩
        clear hb0 hb1 hc_b10 hc_b11 hc_b12 hc_b13 hc_b100 hc_b101 hc_b102 hc_b103 hc_b120 hc_b121 hc_b122 hc_b123 hc_b170 hc_b171 hc_b172 hc_b173
        have HX := Lib.hid (HX.out.next hb)
        have HBb1 := Lib.hid (HBb1.out.below hb)
        have HBb10 := Lib.hid (HBb10.out.below hb)
        have HBb12 := Lib.hid (HBb12.out.below hb)
        have HBb17 := Lib.hid (HBb17.out.below hb)
        have HOg9 := Lib.hid (owns_below HOg9.out hb)
        have HOx11 := Lib.hid (owns_below HOx11.out hb)
        have HOg16 := Lib.hid (owns_below HOg16.out hb)
        have HMid := Lib.hid (HMid.out.trans (hb.mono HMid.out.size))
        have HZw35 : Hid (w23.heap.size ≤ w35.heap.size) := Lib.hid (hb.size)
        clear hb
        have hb0 := HX.out.c0
        have hb1 := HX.out.c1
        have hc_b10 := HBb1.out.cell 0
        have hc_b11 := HBb1.out.cell 1
        have hc_b12 := HBb1.out.cell 2
        have hc_b13 := HBb1.out.cell 3
        have hc_b100 := HBb10.out.cell 0
        have hc_b101 := HBb10.out.cell 1
        have hc_b102 := HBb10.out.cell 2
        have hc_b103 := HBb10.out.cell 3
        have hc_b120 := HBb12.out.cell 0
        have hc_b121 := HBb12.out.cell 1
        have hc_b122 := HBb12.out.cell 2
        have hc_b123 := HBb12.out.cell 3
        have hc_b170 := HBb17.out.cell 0
        have hc_b171 := HBb17.out.cell 1
        have hc_b172 := HBb17.out.cell 2
        have hc_b173 := HBb17.out.cell 3
        go_wp2_with fail
        clear hb0 hb1 hc_b10 hc_b11 hc_b12 hc_b13 hc_b100 hc_b101 hc_b102 hc_b103 hc_b120 hc_b121 hc_b122 hc_b123 hc_b170 hc_b171 hc_b172 hc_b173
        have HX := Lib.hid (HX.out.next (below_drewN _ 1))
        have HBb1 := Lib.hid (HBb1.out.below (below_drewN _ 1))
        have HBb10 := Lib.hid (HBb10.out.below (below_drewN _ 1))
        have HBb12 := Lib.hid (HBb12.out.below (below_drewN _ 1))
        have HBb17 := Lib.hid (HBb17.out.below (below_drewN _ 1))
        have HOg9 := Lib.hid (owns_below HOg9.out (below_drewN _ 1))
        have HOx11 := Lib.hid (owns_below HOx11.out (below_drewN _ 1))
        have HOg16 := Lib.hid (owns_below HOg16.out (below_drewN _ 1))
        have HMid := Lib.hid (HMid.out.trans ((below_drewN _ 1).mono HMid.out.size))
        refine wp_region_noPanic ?_
        refine wp_region_held_drew (S := fun w' => Boxed w.heap.size n g w w' ∧ w'.cell? ⟨w.heap.size, 0, none⟩ = some (.int .i64 n) ∧ w'.cell? ⟨w.heap.size, 1, none⟩ = some (.bool g) ∧ Blk w' (w.heap.size + 1) #[.int .i64 k1.s, .int .i64 k1.f, .int .i64 k1.d, (.slice y1 k1.ms.length c1)] 26 ∧ w'.cell? ⟨w.heap.size + 1, 0, none⟩ = some (.int .i64 k1.s) ∧ w'.cell? ⟨w.heap.size + 1, 1, none⟩ = some (.int .i64 k1.f) ∧ w'.cell? ⟨w.heap.size + 1, 2, none⟩ = some (.int .i64 k1.d) ∧ w'.cell? ⟨w.heap.size + 1, 3, none⟩ = some ((.slice y1 k1.ms.length c1)) ∧ Blk w' (adg9) #[.int .i64 z.s, .int .i64 z.f, .int .i64 z.d, (.slice ag9 z.ms.length cg9)] 32 ∧ w'.cell? ⟨adg9, 0, none⟩ = some (.int .i64 z.s) ∧ w'.cell? ⟨adg9, 1, none⟩ = some (.int .i64 z.f) ∧ w'.cell? ⟨adg9, 2, none⟩ = some (.int .i64 z.d) ∧ w'.cell? ⟨adg9, 3, none⟩ = some ((.slice ag9 z.ms.length cg9)) ∧ Blk w' (w21.heap.size) #[.int .i64 k1.s, .int .i64 k1.f, .int .i64 k1.d, (.slice ax11 k1.ms.length cx11)] 32 ∧ w'.cell? ⟨w21.heap.size, 0, none⟩ = some (.int .i64 k1.s) ∧ w'.cell? ⟨w21.heap.size, 1, none⟩ = some (.int .i64 k1.f) ∧ w'.cell? ⟨w21.heap.size, 2, none⟩ = some (.int .i64 k1.d) ∧ w'.cell? ⟨w21.heap.size, 3, none⟩ = some ((.slice ax11 k1.ms.length cx11)) ∧ Blk w' (adg16) #[.int .i64 z.s, .int .i64 z.f, .int .i64 z.d, (.slice ag16 z.ms.length cg16)] 32 ∧ w'.cell? ⟨adg16, 0, none⟩ = some (.int .i64 z.s) ∧ w'.cell? ⟨adg16, 1, none⟩ = some (.int .i64 z.f) ∧ w'.cell? ⟨adg16, 2, none⟩ = some (.int .i64 z.d) ∧ w'.cell? ⟨adg16, 3, none⟩ = some ((.slice ag16 z.ms.length cg16))) (by kernel_rfl) (⟨HX.out, HX.out.c0, HX.out.c1, HBb1.out, HBb1.out.cell 0, HBb1.out.cell 1, HBb1.out.cell 2, HBb1.out.cell 3, HBb10.out, HBb10.out.cell 0, HBb10.out.cell 1, HBb10.out.cell 2, HBb10.out.cell 3, HBb12.out, HBb12.out.cell 0, HBb12.out.cell 1, HBb12.out.cell 2, HBb12.out.cell 3, HBb17.out, HBb17.out.cell 0, HBb17.out.cell 1, HBb17.out.cell 2, HBb17.out.cell 3⟩) (fun hHeld => ?_)
        refine wpAnyH_take (i := 0) (oi := _) (v := ?_) rfl (by kernel_rfl) (by kernel_rfl) (by kernel_rfl) (fun _ _ _ h => h) (Or.inl ⟨by rfl, ?_⟩) (by assumption) ?_
        rotate_left
        · (intro w hSw; (try dsimp only at hSw); (first | (go_simp; done) | (go_simp; with_reducible rfl)))
        simp only [Act.put, List.getElem_toArray, List.getElem_cons_succ, List.getElem_cons_zero, List.setIfInBounds_toArray, List.set_cons_zero, List.set_cons_succ]
        refine wpAnyH_take (i := 1) (oi := _) (v := ?_) rfl (by kernel_rfl) (by kernel_rfl) (by kernel_rfl) (fun _ _ _ h => h) (Or.inl ⟨by rfl, ?_⟩) (by assumption) ?_
        rotate_left
        · (intro w hSw; (try dsimp only at hSw); (first | (go_simp; done) | (go_simp; with_reducible rfl)))
        simp only [Act.put, List.getElem_toArray, List.getElem_cons_succ, List.getElem_cons_zero, List.setIfInBounds_toArray, List.set_cons_zero, List.set_cons_succ]
        refine wpAnyH_ready (rs := [2]) (by kernel_rfl) (by simp) ?_
        refine AllReadyH.cons rfl (fun K hK => ?_) AllReadyH.nil
        go_simp
        refine (toW_any k1 (.slice y1 k1.ms.length c1) _ (HV1.out.below HX.out.below) hn1).mono ?_
        rintro e w36 ⟨x18, rfl, ho, hb⟩
        have HX := Lib.hid (HX.out.next hb)
        have HBb1 := Lib.hid (HBb1.out.below hb)
        have HBb10 := Lib.hid (HBb10.out.below hb)
        have HBb12 := Lib.hid (HBb12.out.below hb)
        have HBb17 := Lib.hid (HBb17.out.below hb)
        have HOg9 := Lib.hid (owns_below HOg9.out hb)
        have HOx11 := Lib.hid (owns_below HOx11.out hb)
        have HOg16 := Lib.hid (owns_below HOg16.out hb)
        have HMid := Lib.hid (HMid.out.trans (hb.mono HMid.out.size))
        have HZw36 : Hid (w35.heap.size ≤ w36.heap.size) := Lib.hid (hb.size)
        have HRx18 : Hid (∀ b, x18.ownBlock = some b → w35.heap.size ≤ b ∧ b < w36.heap.size) := Lib.hid (fun b hb => owns_block ho b hb)
        obtain ⟨ax18, cx18, hsx18, _⟩ := owns_shape ho
        subst hsx18
        have HOx18 := Lib.hid ho
        clear ho
        clear hb
        clear hHeld
        go_wp2_with fail
        refine hK.out _ _ (⟨HX.out, HX.out.c0, HX.out.c1, HBb1.out, HBb1.out.cell 0, HBb1.out.cell 1, HBb1.out.cell 2, HBb1.out.cell 3, HBb10.out, HBb10.out.cell 0, HBb10.out.cell 1, HBb10.out.cell 2, HBb10.out.cell 3, HBb12.out, HBb12.out.cell 0, HBb12.out.cell 1, HBb12.out.cell 2, HBb12.out.cell 3, HBb17.out, HBb17.out.cell 0, HBb17.out.cell 1, HBb17.out.cell 2, HBb17.out.cell 3⟩) (fun hHeld => ?_)
        clear hK K
        refine wpAnyH_ready (rs := [3]) (by kernel_rfl) (by simp) ?_
        refine AllReadyH.cons rfl (fun K hK => ?_) AllReadyH.nil
        go_simp
        refine (eqW_any k1 (.slice ax11 k1.ms.length cx11) (.slice ax18 k1.ms.length cx18) _ (owns_reads HOx11.out Hnk1_ms.out) (owns_reads HOx18.out Hnk1_ms.out)).mono ?_
        rintro e w37 ⟨rfl, hb⟩
        have HX := Lib.hid (HX.out.next hb)
        have HBb1 := Lib.hid (HBb1.out.below hb)
        have HBb10 := Lib.hid (HBb10.out.below hb)
        have HBb12 := Lib.hid (HBb12.out.below hb)
        have HBb17 := Lib.hid (HBb17.out.below hb)
        have HOg9 := Lib.hid (owns_below HOg9.out hb)
        have HOx11 := Lib.hid (owns_below HOx11.out hb)
        have HOg16 := Lib.hid (owns_below HOg16.out hb)
        have HOx18 := Lib.hid (owns_below HOx18.out hb)
        have HMid := Lib.hid (HMid.out.trans (hb.mono HMid.out.size))
        have HZw37 : Hid (w36.heap.size ≤ w37.heap.size) := Lib.hid (hb.size)
        clear hb
        clear hHeld
        go_wp2_with fail
        refine hK.out _ _ (⟨HX.out, HX.out.c0, HX.out.c1, HBb1.out, HBb1.out.cell 0, HBb1.out.cell 1, HBb1.out.cell 2, HBb1.out.cell 3, HBb10.out, HBb10.out.cell 0, HBb10.out.cell 1, HBb10.out.cell 2, HBb10.out.cell 3, HBb12.out, HBb12.out.cell 0, HBb12.out.cell 1, HBb12.out.cell 2, HBb12.out.cell 3, HBb17.out, HBb17.out.cell 0, HBb17.out.cell 1, HBb17.out.cell 2, HBb17.out.cell 3⟩) (fun hHeld => ?_)
        clear hK K
        refine wpAnyH_take (i := 4) (oi := _) (v := ?_) rfl (by kernel_rfl) (by kernel_rfl) (by kernel_rfl) (fun _ _ _ h => h) (Or.inl ⟨by rfl, ?_⟩) (by assumption) ?_
        rotate_left
        · (intro w hSw; (try dsimp only at hSw); (first | (go_simp; done) | (go_simp; with_reducible rfl)))
        simp only [Act.put, List.getElem_toArray, List.getElem_cons_succ, List.getElem_cons_zero, List.setIfInBounds_toArray, List.set_cons_zero, List.set_cons_succ]
        refine wpAnyH_done (by kernel_rfl) ?_ _
        refine NoPanic.normal ?_
        clear hHeld
        clear HOx18 HRx18
        have hb0 := HX.out.c0
        have hb1 := HX.out.c1
        have hc_b10 := HBb1.out.cell 0
        have hc_b11 := HBb1.out.cell 1
        have hc_b12 := HBb1.out.cell 2
        have hc_b13 := HBb1.out.cell 3
        have hc_b100 := HBb10.out.cell 0
        have hc_b101 := HBb10.out.cell 1
        have hc_b102 := HBb10.out.cell 2
        have hc_b103 := HBb10.out.cell 3
        have hc_b120 := HBb12.out.cell 0
        have hc_b121 := HBb12.out.cell 1
        have hc_b122 := HBb12.out.cell 2
        have hc_b123 := HBb12.out.cell 3
        have hc_b170 := HBb17.out.cell 0
        have hc_b171 := HBb17.out.cell 1
        have hc_b172 := HBb17.out.cell 2
        have hc_b173 := HBb17.out.cell 3
        go_wp2_with fail
        refine (markW_any k1 (.slice ax11 k1.ms.length cx11) _ (1) _ HOx11.out (Hbk1_ms.out) (by omega)).mono ?_
        rintro e w38 ⟨rfl, hg, ho⟩
        clear hb0 hb1 hc_b10 hc_b11 hc_b12 hc_b13 hc_b100 hc_b101 hc_b102 hc_b103 hc_b120 hc_b121 hc_b122 hc_b123 hc_b170 hc_b171 hc_b172 hc_b173
        have hbM : Below w3.heap.size _ w38 := below_grown hg (fun b hb => by have l := HRx11.out b hb; have z0 := HZw1.out; have z1 := HZw2.out; have z2 := HZw3.out; have z3 := HZadg9.out; have z4 := HZw21.out; have z5 := HZw22.out; have z6 := HZw23.out; have z7 := HZadg16.out; have z8 := HZw35.out; have z9 := HZw36.out; have z10 := HZw37.out; omega) HMid.out.size
        have HX := Lib.hid (HX.out.nextAt HXm.out hbM)
        have HMid := Lib.hid (HMid.out.trans hbM)
        have HBb1 := Lib.hid (HBb1.out.kept hg (fun h => by have l := HRx11.out _ h; have z0 := HZw1.out; have z1 := HZw2.out; have z2 := HZw3.out; have z3 := HZadg9.out; have z4 := HZw21.out; have z5 := HZw22.out; have z6 := HZw23.out; have z7 := HZadg16.out; have z8 := HZw35.out; have z9 := HZw36.out; have z10 := HZw37.out; omega))
        have HBb10 := Lib.hid (HBb10.out.kept hg (fun h => by have l := HRx11.out _ h; have z0 := HZw1.out; have z1 := HZw2.out; have z2 := HZw3.out; have z3 := HZadg9.out; have z4 := HZw21.out; have z5 := HZw22.out; have z6 := HZw23.out; have z7 := HZadg16.out; have z8 := HZw35.out; have z9 := HZw36.out; have z10 := HZw37.out; omega))
        have HBb12 := Lib.hid (HBb12.out.kept hg (fun h => by have l := HRx11.out _ h; have z0 := HZw1.out; have z1 := HZw2.out; have z2 := HZw3.out; have z3 := HZadg9.out; have z4 := HZw21.out; have z5 := HZw22.out; have z6 := HZw23.out; have z7 := HZadg16.out; have z8 := HZw35.out; have z9 := HZw36.out; have z10 := HZw37.out; omega))
        have HBb17 := Lib.hid (HBb17.out.kept hg (fun h => by have l := HRx11.out _ h; have z0 := HZw1.out; have z1 := HZw2.out; have z2 := HZw3.out; have z3 := HZadg9.out; have z4 := HZw21.out; have z5 := HZw22.out; have z6 := HZw23.out; have z7 := HZadg16.out; have z8 := HZw35.out; have z9 := HZw36.out; have z10 := HZw37.out; omega))
        have HOg9 := Lib.hid (row_kept HOg9.out hg (fun b h h2 => by have l := HRx11.out b h2; have l2 := HRg9.out b h; have z0 := HZw1.out; have z1 := HZw2.out; have z2 := HZw3.out; have z3 := HZadg9.out; have z4 := HZw21.out; have z5 := HZw22.out; have z6 := HZw23.out; have z7 := HZadg16.out; have z8 := HZw35.out; have z9 := HZw36.out; have z10 := HZw37.out; omega))
        have HOg16 := Lib.hid (row_kept HOg16.out hg (fun b h h2 => by have l := HRx11.out b h2; have l2 := HRg16.out b h; have z0 := HZw1.out; have z1 := HZw2.out; have z2 := HZw3.out; have z3 := HZadg9.out; have z4 := HZw21.out; have z5 := HZw22.out; have z6 := HZw23.out; have z7 := HZadg16.out; have z8 := HZw35.out; have z9 := HZw36.out; have z10 := HZw37.out; omega))
        have HOx11 := Lib.hid ho
        have HZw38 : Hid (w37.heap.size ≤ w38.heap.size) := Lib.hid hg.size
        clear hg ho hbM
        have hb0 := HX.out.c0
        have hb1 := HX.out.c1
        have hc_b10 := HBb1.out.cell 0
        have hc_b11 := HBb1.out.cell 1
        have hc_b12 := HBb1.out.cell 2
        have hc_b13 := HBb1.out.cell 3
        have hc_b100 := HBb10.out.cell 0
        have hc_b101 := HBb10.out.cell 1
        have hc_b102 := HBb10.out.cell 2
        have hc_b103 := HBb10.out.cell 3
        have hc_b120 := HBb12.out.cell 0
        have hc_b121 := HBb12.out.cell 1
        have hc_b122 := HBb12.out.cell 2
        have hc_b123 := HBb12.out.cell 3
        have hc_b170 := HBb17.out.cell 0
        have hc_b171 := HBb17.out.cell 1
        have hc_b172 := HBb17.out.cell 2
        have hc_b173 := HBb17.out.cell 3
        go_wp2_with fail
        refine (eqW_any z (.slice ag16 z.ms.length cg16) (.slice ag9 z.ms.length cg9) _ (owns_reads HOg16.out Hnz_ms.out) (owns_reads HOg9.out Hnz_ms.out)).mono ?_
        rintro e w39 ⟨rfl, hb⟩
        clear hb0 hb1 hc_b10 hc_b11 hc_b12 hc_b13 hc_b100 hc_b101 hc_b102 hc_b103 hc_b120 hc_b121 hc_b122 hc_b123 hc_b170 hc_b171 hc_b172 hc_b173
        have HX := Lib.hid (HX.out.next hb)
        have HBb1 := Lib.hid (HBb1.out.below hb)
        have HBb10 := Lib.hid (HBb10.out.below hb)
        have HBb12 := Lib.hid (HBb12.out.below hb)
        have HBb17 := Lib.hid (HBb17.out.below hb)
        have HOg9 := Lib.hid (owns_below HOg9.out hb)
        have HOx11 := Lib.hid (owns_below HOx11.out hb)
        have HOg16 := Lib.hid (owns_below HOg16.out hb)
        have HMid := Lib.hid (HMid.out.trans (hb.mono HMid.out.size))
        have HZw39 : Hid (w38.heap.size ≤ w39.heap.size) := Lib.hid (hb.size)
        clear hb
        have hb0 := HX.out.c0
        have hb1 := HX.out.c1
        have hc_b10 := HBb1.out.cell 0
        have hc_b11 := HBb1.out.cell 1
        have hc_b12 := HBb1.out.cell 2
        have hc_b13 := HBb1.out.cell 3
        have hc_b100 := HBb10.out.cell 0
        have hc_b101 := HBb10.out.cell 1
        have hc_b102 := HBb10.out.cell 2
        have hc_b103 := HBb10.out.cell 3
        have hc_b120 := HBb12.out.cell 0
        have hc_b121 := HBb12.out.cell 1
        have hc_b122 := HBb12.out.cell 2
        have hc_b123 := HBb12.out.cell 3
        have hc_b170 := HBb17.out.cell 0
        have hc_b171 := HBb17.out.cell 1
        have hc_b172 := HBb17.out.cell 2
        have hc_b173 := HBb17.out.cell 3
        go_wp2_with fail
        refine (markW_any z (.slice ag16 z.ms.length cg16) _ (1) _ HOg16.out (Hbz_ms.out) (by omega)).mono ?_
        rintro e w40 ⟨rfl, hg, ho⟩
        clear hb0 hb1 hc_b10 hc_b11 hc_b12 hc_b13 hc_b100 hc_b101 hc_b102 hc_b103 hc_b120 hc_b121 hc_b122 hc_b123 hc_b170 hc_b171 hc_b172 hc_b173
        have hbM : Below w3.heap.size _ w40 := below_grown hg (fun b hb => by have l := HRg16.out b hb; have z0 := HZw1.out; have z1 := HZw2.out; have z2 := HZw3.out; have z3 := HZadg9.out; have z4 := HZw21.out; have z5 := HZw22.out; have z6 := HZw23.out; have z7 := HZadg16.out; have z8 := HZw35.out; have z9 := HZw36.out; have z10 := HZw37.out; have z11 := HZw38.out; have z12 := HZw39.out; omega) HMid.out.size
        have HX := Lib.hid (HX.out.nextAt HXm.out hbM)
        have HMid := Lib.hid (HMid.out.trans hbM)
        have HBb1 := Lib.hid (HBb1.out.kept hg (fun h => by have l := HRg16.out _ h; have z0 := HZw1.out; have z1 := HZw2.out; have z2 := HZw3.out; have z3 := HZadg9.out; have z4 := HZw21.out; have z5 := HZw22.out; have z6 := HZw23.out; have z7 := HZadg16.out; have z8 := HZw35.out; have z9 := HZw36.out; have z10 := HZw37.out; have z11 := HZw38.out; have z12 := HZw39.out; omega))
        have HBb10 := Lib.hid (HBb10.out.kept hg (fun h => by have l := HRg16.out _ h; have z0 := HZw1.out; have z1 := HZw2.out; have z2 := HZw3.out; have z3 := HZadg9.out; have z4 := HZw21.out; have z5 := HZw22.out; have z6 := HZw23.out; have z7 := HZadg16.out; have z8 := HZw35.out; have z9 := HZw36.out; have z10 := HZw37.out; have z11 := HZw38.out; have z12 := HZw39.out; omega))
        have HBb12 := Lib.hid (HBb12.out.kept hg (fun h => by have l := HRg16.out _ h; have z0 := HZw1.out; have z1 := HZw2.out; have z2 := HZw3.out; have z3 := HZadg9.out; have z4 := HZw21.out; have z5 := HZw22.out; have z6 := HZw23.out; have z7 := HZadg16.out; have z8 := HZw35.out; have z9 := HZw36.out; have z10 := HZw37.out; have z11 := HZw38.out; have z12 := HZw39.out; omega))
        have HBb17 := Lib.hid (HBb17.out.kept hg (fun h => by have l := HRg16.out _ h; have z0 := HZw1.out; have z1 := HZw2.out; have z2 := HZw3.out; have z3 := HZadg9.out; have z4 := HZw21.out; have z5 := HZw22.out; have z6 := HZw23.out; have z7 := HZadg16.out; have z8 := HZw35.out; have z9 := HZw36.out; have z10 := HZw37.out; have z11 := HZw38.out; have z12 := HZw39.out; omega))
        have HOg9 := Lib.hid (row_kept HOg9.out hg (fun b h h2 => by have l := HRg16.out b h2; have l2 := HRg9.out b h; have z0 := HZw1.out; have z1 := HZw2.out; have z2 := HZw3.out; have z3 := HZadg9.out; have z4 := HZw21.out; have z5 := HZw22.out; have z6 := HZw23.out; have z7 := HZadg16.out; have z8 := HZw35.out; have z9 := HZw36.out; have z10 := HZw37.out; have z11 := HZw38.out; have z12 := HZw39.out; omega))
        have HOx11 := Lib.hid (row_kept HOx11.out hg (fun b h h2 => by have l := HRg16.out b h2; have l2 := HRx11.out b h; have z0 := HZw1.out; have z1 := HZw2.out; have z2 := HZw3.out; have z3 := HZadg9.out; have z4 := HZw21.out; have z5 := HZw22.out; have z6 := HZw23.out; have z7 := HZadg16.out; have z8 := HZw35.out; have z9 := HZw36.out; have z10 := HZw37.out; have z11 := HZw38.out; have z12 := HZw39.out; omega))
        have HOg16 := Lib.hid ho
        have HZw40 : Hid (w39.heap.size ≤ w40.heap.size) := Lib.hid hg.size
        clear hg ho hbM
        have hb0 := HX.out.c0
        have hb1 := HX.out.c1
        have hc_b10 := HBb1.out.cell 0
        have hc_b11 := HBb1.out.cell 1
        have hc_b12 := HBb1.out.cell 2
        have hc_b13 := HBb1.out.cell 3
        have hc_b100 := HBb10.out.cell 0
        have hc_b101 := HBb10.out.cell 1
        have hc_b102 := HBb10.out.cell 2
        have hc_b103 := HBb10.out.cell 3
        have hc_b120 := HBb12.out.cell 0
        have hc_b121 := HBb12.out.cell 1
        have hc_b122 := HBb12.out.cell 2
        have hc_b123 := HBb12.out.cell 3
        have hc_b170 := HBb17.out.cell 0
        have hc_b171 := HBb17.out.cell 1
        have hc_b172 := HBb17.out.cell 2
        have hc_b173 := HBb17.out.cell 3
        go_wp2_with fail
        refine (heldW_any z (.slice ag16 z.ms.length cg16) z.ms.length (1) _ (owns_reads (by rw [mts_len]; exact HOg16.out) (by rw [mts_len]; exact Hnz_ms.out)) (Hbz_ms.out) (by omega)).mono ?_
        rintro e w41 ⟨rfl, hb⟩
        clear hb0 hb1 hc_b10 hc_b11 hc_b12 hc_b13 hc_b100 hc_b101 hc_b102 hc_b103 hc_b120 hc_b121 hc_b122 hc_b123 hc_b170 hc_b171 hc_b172 hc_b173
        have HX := Lib.hid (HX.out.next hb)
        have HBb1 := Lib.hid (HBb1.out.below hb)
        have HBb10 := Lib.hid (HBb10.out.below hb)
        have HBb12 := Lib.hid (HBb12.out.below hb)
        have HBb17 := Lib.hid (HBb17.out.below hb)
        have HOg9 := Lib.hid (owns_below HOg9.out hb)
        have HOx11 := Lib.hid (owns_below HOx11.out hb)
        have HOg16 := Lib.hid (owns_below HOg16.out hb)
        have HMid := Lib.hid (HMid.out.trans (hb.mono HMid.out.size))
        have HZw41 : Hid (w40.heap.size ≤ w41.heap.size) := Lib.hid (hb.size)
        clear hb
        have hb0 := HX.out.c0
        have hb1 := HX.out.c1
        have hc_b10 := HBb1.out.cell 0
        have hc_b11 := HBb1.out.cell 1
        have hc_b12 := HBb1.out.cell 2
        have hc_b13 := HBb1.out.cell 3
        have hc_b100 := HBb10.out.cell 0
        have hc_b101 := HBb10.out.cell 1
        have hc_b102 := HBb10.out.cell 2
        have hc_b103 := HBb10.out.cell 3
        have hc_b120 := HBb12.out.cell 0
        have hc_b121 := HBb12.out.cell 1
        have hc_b122 := HBb12.out.cell 2
        have hc_b123 := HBb12.out.cell 3
        have hc_b170 := HBb17.out.cell 0
        have hc_b171 := HBb17.out.cell 1
        have hc_b172 := HBb17.out.cell 2
        have hc_b173 := HBb17.out.cell 3
        go_upto_region 24 with (fail)
        clear hb0 hb1 hc_b10 hc_b11 hc_b12 hc_b13 hc_b100 hc_b101 hc_b102 hc_b103 hc_b120 hc_b121 hc_b122 hc_b123 hc_b170 hc_b171 hc_b172 hc_b173
        go_cut [14, 15] from 79 to 86 (fun p c w42 => GotW z b1 p c w41 w42)
        case first =>
          have HF := Lib.hid (below_drewN w41 1)
          have HX := Lib.hid (HX.out.next (below_drewN _ 1))
          have HBb1 := Lib.hid (HBb1.out.below (below_drewN _ 1))
          have HBb10 := Lib.hid (HBb10.out.below (below_drewN _ 1))
          have HBb12 := Lib.hid (HBb12.out.below (below_drewN _ 1))
          have HBb17 := Lib.hid (HBb17.out.below (below_drewN _ 1))
          have HOg9 := Lib.hid (owns_below HOg9.out (below_drewN _ 1))
          have HOx11 := Lib.hid (owns_below HOx11.out (below_drewN _ 1))
          have HOg16 := Lib.hid (owns_below HOg16.out (below_drewN _ 1))
          have HMid := Lib.hid (HMid.out.trans ((below_drewN _ 1).mono HMid.out.size))
          refine wp_region_noPanic ?_
          refine wp_region_held_drew (S := fun w' => Boxed w.heap.size n g w w' ∧ w'.cell? ⟨w.heap.size, 0, none⟩ = some (.int .i64 n) ∧ w'.cell? ⟨w.heap.size, 1, none⟩ = some (.bool g) ∧ Blk w' (w.heap.size + 1) #[.int .i64 k1.s, .int .i64 k1.f, .int .i64 k1.d, (.slice y1 k1.ms.length c1)] 26 ∧ w'.cell? ⟨w.heap.size + 1, 0, none⟩ = some (.int .i64 k1.s) ∧ w'.cell? ⟨w.heap.size + 1, 1, none⟩ = some (.int .i64 k1.f) ∧ w'.cell? ⟨w.heap.size + 1, 2, none⟩ = some (.int .i64 k1.d) ∧ w'.cell? ⟨w.heap.size + 1, 3, none⟩ = some ((.slice y1 k1.ms.length c1)) ∧ Blk w' (adg9) #[.int .i64 z.s, .int .i64 z.f, .int .i64 z.d, (.slice ag9 z.ms.length cg9)] 32 ∧ w'.cell? ⟨adg9, 0, none⟩ = some (.int .i64 z.s) ∧ w'.cell? ⟨adg9, 1, none⟩ = some (.int .i64 z.f) ∧ w'.cell? ⟨adg9, 2, none⟩ = some (.int .i64 z.d) ∧ w'.cell? ⟨adg9, 3, none⟩ = some ((.slice ag9 z.ms.length cg9)) ∧ Blk w' (w21.heap.size) #[.int .i64 k1.s, .int .i64 k1.f, .int .i64 k1.d, (.slice ax11 k1.ms.length cx11)] 32 ∧ w'.cell? ⟨w21.heap.size, 0, none⟩ = some (.int .i64 k1.s) ∧ w'.cell? ⟨w21.heap.size, 1, none⟩ = some (.int .i64 k1.f) ∧ w'.cell? ⟨w21.heap.size, 2, none⟩ = some (.int .i64 k1.d) ∧ w'.cell? ⟨w21.heap.size, 3, none⟩ = some ((.slice ax11 k1.ms.length cx11)) ∧ Blk w' (adg16) #[.int .i64 z.s, .int .i64 z.f, .int .i64 z.d, (.slice ag16 z.ms.length cg16)] 32 ∧ w'.cell? ⟨adg16, 0, none⟩ = some (.int .i64 z.s) ∧ w'.cell? ⟨adg16, 1, none⟩ = some (.int .i64 z.f) ∧ w'.cell? ⟨adg16, 2, none⟩ = some (.int .i64 z.d) ∧ w'.cell? ⟨adg16, 3, none⟩ = some ((.slice ag16 z.ms.length cg16))) (by kernel_rfl) (⟨HX.out, HX.out.c0, HX.out.c1, HBb1.out, HBb1.out.cell 0, HBb1.out.cell 1, HBb1.out.cell 2, HBb1.out.cell 3, HBb10.out, HBb10.out.cell 0, HBb10.out.cell 1, HBb10.out.cell 2, HBb10.out.cell 3, HBb12.out, HBb12.out.cell 0, HBb12.out.cell 1, HBb12.out.cell 2, HBb12.out.cell 3, HBb17.out, HBb17.out.cell 0, HBb17.out.cell 1, HBb17.out.cell 2, HBb17.out.cell 3⟩) (fun hHeld => ?_)
          refine wpAnyH_take (i := 0) (oi := _) (v := ?_) rfl (by kernel_rfl) (by kernel_rfl) (by kernel_rfl) (fun _ _ _ h => h) (Or.inl ⟨by rfl, ?_⟩) (by assumption) ?_
          rotate_left
          · (intro w hSw; (try dsimp only at hSw); (first | (go_simp; done) | (go_simp; with_reducible rfl)))
          simp only [Act.put, List.getElem_toArray, List.getElem_cons_succ, List.getElem_cons_zero, List.setIfInBounds_toArray, List.set_cons_zero, List.set_cons_succ]
          refine wpAnyH_take (i := 2) (oi := _) (v := ?_) rfl (by kernel_rfl) (by kernel_rfl) (by kernel_rfl) (fun _ _ _ h => h) (Or.inl ⟨by rfl, ?_⟩) (by assumption) ?_
          rotate_left
          · (intro w hSw; (try dsimp only at hSw); (first | (go_simp; done) | (go_simp; with_reducible rfl)))
          simp only [Act.put, List.getElem_toArray, List.getElem_cons_succ, List.getElem_cons_zero, List.setIfInBounds_toArray, List.set_cons_zero, List.set_cons_succ]
          refine wpAnyH_ready (rs := [1, 8]) (by kernel_rfl) (by simp) ?_
          refine AllReadyH.cons rfl (fun K hK => ?_) (AllReadyH.cons rfl (fun K hK => ?_) AllReadyH.nil)
          · skip
            go_simp
            refine (HT.out _).mono ?_
            rintro e w43 ⟨rfl, hb⟩
            have HX := Lib.hid (HX.out.next hb)
            have HBb1 := Lib.hid (HBb1.out.below hb)
            have HBb10 := Lib.hid (HBb10.out.below hb)
            have HBb12 := Lib.hid (HBb12.out.below hb)
            have HBb17 := Lib.hid (HBb17.out.below hb)
            have HOg9 := Lib.hid (owns_below HOg9.out hb)
            have HOx11 := Lib.hid (owns_below HOx11.out hb)
            have HOg16 := Lib.hid (owns_below HOg16.out hb)
            have HMid := Lib.hid (HMid.out.trans (hb.mono HMid.out.size))
            have HF := Lib.hid (HF.out.trans (hb.mono HF.out.size))
            have HZw43 : Hid (w41.heap.size ≤ w43.heap.size) := Lib.hid (hb.size)
            clear hb hHeld
            go_wp2_with fail
            refine hK.out _ _ (⟨HX.out, HX.out.c0, HX.out.c1, HBb1.out, HBb1.out.cell 0, HBb1.out.cell 1, HBb1.out.cell 2, HBb1.out.cell 3, HBb10.out, HBb10.out.cell 0, HBb10.out.cell 1, HBb10.out.cell 2, HBb10.out.cell 3, HBb12.out, HBb12.out.cell 0, HBb12.out.cell 1, HBb12.out.cell 2, HBb12.out.cell 3, HBb17.out, HBb17.out.cell 0, HBb17.out.cell 1, HBb17.out.cell 2, HBb17.out.cell 3⟩) (fun hHeld => ?_)
            clear hK K
            refine wpAnyH_ready (rs := [3, 8]) (by kernel_rfl) (by simp) ?_
            refine AllReadyH.cons rfl (fun K hK => ?_) (AllReadyH.cons rfl (fun K hK => ?_) AllReadyH.nil)
            · skip
              go_simp
              refine (toW_any k1 (.slice y1 k1.ms.length c1) _ (HV1.out.below HX.out.below) hn1).mono ?_
              rintro e w44 ⟨x19, rfl, ho, hb⟩
              have HX := Lib.hid (HX.out.next hb)
              have HBb1 := Lib.hid (HBb1.out.below hb)
              have HBb10 := Lib.hid (HBb10.out.below hb)
              have HBb12 := Lib.hid (HBb12.out.below hb)
              have HBb17 := Lib.hid (HBb17.out.below hb)
              have HOg9 := Lib.hid (owns_below HOg9.out hb)
              have HOx11 := Lib.hid (owns_below HOx11.out hb)
              have HOg16 := Lib.hid (owns_below HOg16.out hb)
              have HMid := Lib.hid (HMid.out.trans (hb.mono HMid.out.size))
              have HF := Lib.hid (HF.out.trans (hb.mono HF.out.size))
              have HZw44 : Hid (w43.heap.size ≤ w44.heap.size) := Lib.hid (hb.size)
              have HRx19 : Hid (∀ b, x19.ownBlock = some b → w43.heap.size ≤ b ∧ b < w44.heap.size) := Lib.hid (fun b hb => owns_block ho b hb)
              obtain ⟨ax19, cx19, hsx19, _⟩ := owns_shape ho
              subst hsx19
              have HOx19 := Lib.hid ho
              clear ho
              clear hb hHeld
              go_wp2_with fail
              refine hK.out _ _ (⟨HX.out, HX.out.c0, HX.out.c1, HBb1.out, HBb1.out.cell 0, HBb1.out.cell 1, HBb1.out.cell 2, HBb1.out.cell 3, HBb10.out, HBb10.out.cell 0, HBb10.out.cell 1, HBb10.out.cell 2, HBb10.out.cell 3, HBb12.out, HBb12.out.cell 0, HBb12.out.cell 1, HBb12.out.cell 2, HBb12.out.cell 3, HBb17.out, HBb17.out.cell 0, HBb17.out.cell 1, HBb17.out.cell 2, HBb17.out.cell 3⟩) (fun hHeld => ?_)
              clear hK K
              refine wpAnyH_ready (rs := [4, 8]) (by kernel_rfl) (by simp) ?_
              refine AllReadyH.cons rfl (fun K hK => ?_) (AllReadyH.cons rfl (fun K hK => ?_) AllReadyH.nil)
              · skip
                go_simp
                refine (HI.out (.slice ax19 k1.ms.length cx19) _ (owns_reads HOx19.out Hnk1_ms.out)).mono ?_
                rintro e w45 ⟨g20, rfl, ho, hb⟩
                have HX := Lib.hid (HX.out.next hb)
                have HBb1 := Lib.hid (HBb1.out.below hb)
                have HBb10 := Lib.hid (HBb10.out.below hb)
                have HBb12 := Lib.hid (HBb12.out.below hb)
                have HBb17 := Lib.hid (HBb17.out.below hb)
                have HOg9 := Lib.hid (owns_below HOg9.out hb)
                have HOx11 := Lib.hid (owns_below HOx11.out hb)
                have HOg16 := Lib.hid (owns_below HOg16.out hb)
                have HOx19 := Lib.hid (owns_below HOx19.out hb)
                have HMid := Lib.hid (HMid.out.trans (hb.mono HMid.out.size))
                have HF := Lib.hid (HF.out.trans (hb.mono HF.out.size))
                have HZw45 : Hid (w44.heap.size ≤ w45.heap.size) := Lib.hid (hb.size)
                have HRg20 : Hid (∀ b, g20.ownBlock = some b → w44.heap.size ≤ b ∧ b < w45.heap.size) := Lib.hid (fun b hb => owns_block ho b hb)
                obtain ⟨ag20, cg20, hsg20, _⟩ := owns_shape ho
                subst hsg20
                have HOg20 := Lib.hid ho
                clear ho
                clear hb hHeld
                go_wp2_with fail
                refine hK.out _ _ (⟨HX.out, HX.out.c0, HX.out.c1, HBb1.out, HBb1.out.cell 0, HBb1.out.cell 1, HBb1.out.cell 2, HBb1.out.cell 3, HBb10.out, HBb10.out.cell 0, HBb10.out.cell 1, HBb10.out.cell 2, HBb10.out.cell 3, HBb12.out, HBb12.out.cell 0, HBb12.out.cell 1, HBb12.out.cell 2, HBb12.out.cell 3, HBb17.out, HBb17.out.cell 0, HBb17.out.cell 1, HBb17.out.cell 2, HBb17.out.cell 3⟩) (fun hHeld => ?_)
                clear hK K
                refine wpAnyH_take (i := 5) (oi := _) (v := ?_) rfl (by kernel_rfl) (by kernel_rfl) (by kernel_rfl) (fun _ _ _ h => h) (Or.inl ⟨by rfl, ?_⟩) (by assumption) ?_
                rotate_left
                · (intro w hSw; (try dsimp only at hSw); (first | (go_simp; done) | (go_simp; with_reducible rfl)))
                simp only [Act.put, List.getElem_toArray, List.getElem_cons_succ, List.getElem_cons_zero, List.setIfInBounds_toArray, List.set_cons_zero, List.set_cons_succ]
                refine wpAnyH_take (i := 6) (oi := _) (v := ?_) rfl (by kernel_rfl) (by kernel_rfl) (by kernel_rfl) (fun _ _ _ h => h) (Or.inl ⟨by rfl, ?_⟩) (by assumption) ?_
                rotate_left
                · (intro w hSw; (try dsimp only at hSw); (first | (go_simp; done) | (go_simp; with_reducible rfl)))
                simp only [Act.put, List.getElem_toArray, List.getElem_cons_succ, List.getElem_cons_zero, List.setIfInBounds_toArray, List.set_cons_zero, List.set_cons_succ]
                refine wpAnyH_take (i := 7) (oi := _) (v := ?_) rfl (by kernel_rfl) (by kernel_rfl) (by kernel_rfl) (fun _ _ _ h => h) (Or.inl ⟨by rfl, ?_⟩) (by assumption) ?_
                rotate_left
                · (intro w hSw; (try dsimp only at hSw); (first | (go_simp; done) | (go_simp; with_reducible rfl)))
                simp only [Act.put, List.getElem_toArray, List.getElem_cons_succ, List.getElem_cons_zero, List.setIfInBounds_toArray, List.set_cons_zero, List.set_cons_succ]
                refine wpAnyH_ready (rs := [8]) (by kernel_rfl) (by simp) ?_
                refine AllReadyH.cons rfl (fun K hK => ?_) AllReadyH.nil
                go_simp
                have HA := Lib.hid (show Blk (w45.alloc (.cells #[.int .i64 0, .int .i64 0, .int .i64 0, .slice none 0 0] 32)) (w45.heap.size) #[.int .i64 0, .int .i64 0, .int .i64 0, .slice none 0 0] 32 from blk_at w45 #[.int .i64 0, .int .i64 0, .int .i64 0, .slice none 0 0] 32 (w45.heap.size) rfl)
                have HX := Lib.hid (HX.out.next (show Below w45.heap.size w45 (w45.alloc (.cells #[.int .i64 0, .int .i64 0, .int .i64 0, .slice none 0 0] 32)) from below_new w45 (.cells #[.int .i64 0, .int .i64 0, .int .i64 0, .slice none 0 0] 32)))
                have HBb1 := Lib.hid (HBb1.out.below (show Below w45.heap.size w45 (w45.alloc (.cells #[.int .i64 0, .int .i64 0, .int .i64 0, .slice none 0 0] 32)) from below_new w45 (.cells #[.int .i64 0, .int .i64 0, .int .i64 0, .slice none 0 0] 32)))
                have HBb10 := Lib.hid (HBb10.out.below (show Below w45.heap.size w45 (w45.alloc (.cells #[.int .i64 0, .int .i64 0, .int .i64 0, .slice none 0 0] 32)) from below_new w45 (.cells #[.int .i64 0, .int .i64 0, .int .i64 0, .slice none 0 0] 32)))
                have HBb12 := Lib.hid (HBb12.out.below (show Below w45.heap.size w45 (w45.alloc (.cells #[.int .i64 0, .int .i64 0, .int .i64 0, .slice none 0 0] 32)) from below_new w45 (.cells #[.int .i64 0, .int .i64 0, .int .i64 0, .slice none 0 0] 32)))
                have HBb17 := Lib.hid (HBb17.out.below (show Below w45.heap.size w45 (w45.alloc (.cells #[.int .i64 0, .int .i64 0, .int .i64 0, .slice none 0 0] 32)) from below_new w45 (.cells #[.int .i64 0, .int .i64 0, .int .i64 0, .slice none 0 0] 32)))
                have HOg9 := Lib.hid (owns_below HOg9.out (show Below w45.heap.size w45 (w45.alloc (.cells #[.int .i64 0, .int .i64 0, .int .i64 0, .slice none 0 0] 32)) from below_new w45 (.cells #[.int .i64 0, .int .i64 0, .int .i64 0, .slice none 0 0] 32)))
                have HOx11 := Lib.hid (owns_below HOx11.out (show Below w45.heap.size w45 (w45.alloc (.cells #[.int .i64 0, .int .i64 0, .int .i64 0, .slice none 0 0] 32)) from below_new w45 (.cells #[.int .i64 0, .int .i64 0, .int .i64 0, .slice none 0 0] 32)))
                have HOg16 := Lib.hid (owns_below HOg16.out (show Below w45.heap.size w45 (w45.alloc (.cells #[.int .i64 0, .int .i64 0, .int .i64 0, .slice none 0 0] 32)) from below_new w45 (.cells #[.int .i64 0, .int .i64 0, .int .i64 0, .slice none 0 0] 32)))
                have HOx19 := Lib.hid (owns_below HOx19.out (show Below w45.heap.size w45 (w45.alloc (.cells #[.int .i64 0, .int .i64 0, .int .i64 0, .slice none 0 0] 32)) from below_new w45 (.cells #[.int .i64 0, .int .i64 0, .int .i64 0, .slice none 0 0] 32)))
                have HOg20 := Lib.hid (owns_below HOg20.out (show Below w45.heap.size w45 (w45.alloc (.cells #[.int .i64 0, .int .i64 0, .int .i64 0, .slice none 0 0] 32)) from below_new w45 (.cells #[.int .i64 0, .int .i64 0, .int .i64 0, .slice none 0 0] 32)))
                have HMid := Lib.hid (HMid.out.trans ((show Below w45.heap.size w45 (w45.alloc (.cells #[.int .i64 0, .int .i64 0, .int .i64 0, .slice none 0 0] 32)) from below_new w45 (.cells #[.int .i64 0, .int .i64 0, .int .i64 0, .slice none 0 0] 32)).mono HMid.out.size))
                have HF := Lib.hid (HF.out.trans ((show Below w45.heap.size w45 (w45.alloc (.cells #[.int .i64 0, .int .i64 0, .int .i64 0, .slice none 0 0] 32)) from below_new w45 (.cells #[.int .i64 0, .int .i64 0, .int .i64 0, .slice none 0 0] 32)).mono HF.out.size))
                have HZw46 : Hid (w45.heap.size < (w45.alloc (.cells #[.int .i64 0, .int .i64 0, .int .i64 0, .slice none 0 0] 32)).heap.size) := Lib.hid (by simp)
                clear hHeld
                refine hK.out _ _ (⟨HX.out, HX.out.c0, HX.out.c1, HBb1.out, HBb1.out.cell 0, HBb1.out.cell 1, HBb1.out.cell 2, HBb1.out.cell 3, HBb10.out, HBb10.out.cell 0, HBb10.out.cell 1, HBb10.out.cell 2, HBb10.out.cell 3, HBb12.out, HBb12.out.cell 0, HBb12.out.cell 1, HBb12.out.cell 2, HBb12.out.cell 3, HBb17.out, HBb17.out.cell 0, HBb17.out.cell 1, HBb17.out.cell 2, HBb17.out.cell 3⟩) (fun hHeld => ?_)
                clear hK K
                generalize w45.alloc (.cells #[.int .i64 0, .int .i64 0, .int .i64 0, .slice none 0 0] 32) = w46 at *
                refine wpAnyH_ready (rs := [9]) (by kernel_rfl) (by simp) ?_
                refine AllReadyH.cons rfl (fun K hK => ?_) AllReadyH.nil
                have a0 := HA.out.cell 0
                have f0 := HA.out.free 0
                have a1 := HA.out.cell 1
                have f1 := HA.out.free 1
                have a2 := HA.out.cell 2
                have f2 := HA.out.free 2
                have a3 := HA.out.cell 3
                have f3 := HA.out.free 3
                have hB4 := below_set4 w46 (w45.heap.size) w41.heap.size (by have z0 := HZw1.out; have z1 := HZw2.out; have z2 := HZw3.out; have z3 := HZadg9.out; have z4 := HZw21.out; have z5 := HZw22.out; have z6 := HZw23.out; have z7 := HZadg16.out; have z8 := HZw35.out; have z9 := HZw36.out; have z10 := HZw37.out; have z11 := HZw38.out; have z12 := HZw39.out; have z13 := HZw40.out; have z14 := HZw41.out; have z15 := HZw43.out; have z16 := HZw44.out; have z17 := HZw45.out; have z18 := HZw46.out; omega) (.int .i64 z.s) (.int .i64 z.f) (.int .i64 z.d) (.slice ag20 z.ms.length cg20)
                have HAN := Lib.hid (blk_set4 HA.out (.int .i64 z.s) (.int .i64 z.f) (.int .i64 z.d) (.slice ag20 z.ms.length cg20))
                have HON := Lib.hid (own_apart4 (b := w45.heap.size) HOg20.out (fun b h => by have l := HRg20.out b h; have z0 := HZw1.out; have z1 := HZw2.out; have z2 := HZw3.out; have z3 := HZadg9.out; have z4 := HZw21.out; have z5 := HZw22.out; have z6 := HZw23.out; have z7 := HZadg16.out; have z8 := HZw35.out; have z9 := HZw36.out; have z10 := HZw37.out; have z11 := HZw38.out; have z12 := HZw39.out; have z13 := HZw40.out; have z14 := HZw41.out; have z15 := HZw43.out; have z16 := HZw44.out; have z17 := HZw45.out; have z18 := HZw46.out; omega) (.int .i64 z.s) (.int .i64 z.f) (.int .i64 z.d) (.slice ag20 z.ms.length cg20))
                have HSN := Lib.hid (size_set4 w46 (w45.heap.size) (.int .i64 z.s) (.int .i64 z.f) (.int .i64 z.d) (.slice ag20 z.ms.length cg20))
                have HX := Lib.hid (HX.out.nextAt (m := w41.heap.size) (by have z0 := HZw1.out; have z1 := HZw2.out; have z2 := HZw3.out; have z3 := HZadg9.out; have z4 := HZw21.out; have z5 := HZw22.out; have z6 := HZw23.out; have z7 := HZadg16.out; have z8 := HZw35.out; have z9 := HZw36.out; have z10 := HZw37.out; have z11 := HZw38.out; have z12 := HZw39.out; have z13 := HZw40.out; have z14 := HZw41.out; have z15 := HZw43.out; have z16 := HZw44.out; have z17 := HZw45.out; have z18 := HZw46.out; omega) hB4)
                have HBb1 := Lib.hid (HBb1.out.belowAt (m := w41.heap.size) (by have z0 := HZw1.out; have z1 := HZw2.out; have z2 := HZw3.out; have z3 := HZadg9.out; have z4 := HZw21.out; have z5 := HZw22.out; have z6 := HZw23.out; have z7 := HZadg16.out; have z8 := HZw35.out; have z9 := HZw36.out; have z10 := HZw37.out; have z11 := HZw38.out; have z12 := HZw39.out; have z13 := HZw40.out; have z14 := HZw41.out; have z15 := HZw43.out; have z16 := HZw44.out; have z17 := HZw45.out; have z18 := HZw46.out; omega) hB4)
                have HBb10 := Lib.hid (HBb10.out.belowAt (m := w41.heap.size) (by have z0 := HZw1.out; have z1 := HZw2.out; have z2 := HZw3.out; have z3 := HZadg9.out; have z4 := HZw21.out; have z5 := HZw22.out; have z6 := HZw23.out; have z7 := HZadg16.out; have z8 := HZw35.out; have z9 := HZw36.out; have z10 := HZw37.out; have z11 := HZw38.out; have z12 := HZw39.out; have z13 := HZw40.out; have z14 := HZw41.out; have z15 := HZw43.out; have z16 := HZw44.out; have z17 := HZw45.out; have z18 := HZw46.out; omega) hB4)
                have HBb12 := Lib.hid (HBb12.out.belowAt (m := w41.heap.size) (by have z0 := HZw1.out; have z1 := HZw2.out; have z2 := HZw3.out; have z3 := HZadg9.out; have z4 := HZw21.out; have z5 := HZw22.out; have z6 := HZw23.out; have z7 := HZadg16.out; have z8 := HZw35.out; have z9 := HZw36.out; have z10 := HZw37.out; have z11 := HZw38.out; have z12 := HZw39.out; have z13 := HZw40.out; have z14 := HZw41.out; have z15 := HZw43.out; have z16 := HZw44.out; have z17 := HZw45.out; have z18 := HZw46.out; omega) hB4)
                have HBb17 := Lib.hid (HBb17.out.belowAt (m := w41.heap.size) (by have z0 := HZw1.out; have z1 := HZw2.out; have z2 := HZw3.out; have z3 := HZadg9.out; have z4 := HZw21.out; have z5 := HZw22.out; have z6 := HZw23.out; have z7 := HZadg16.out; have z8 := HZw35.out; have z9 := HZw36.out; have z10 := HZw37.out; have z11 := HZw38.out; have z12 := HZw39.out; have z13 := HZw40.out; have z14 := HZw41.out; have z15 := HZw43.out; have z16 := HZw44.out; have z17 := HZw45.out; have z18 := HZw46.out; omega) hB4)
                have HF := Lib.hid (HF.out.trans hB4)
                clear hB4 HA
                go_simp
                clear hHeld
                refine hK.out _ _ (⟨HX.out, HX.out.c0, HX.out.c1, HBb1.out, HBb1.out.cell 0, HBb1.out.cell 1, HBb1.out.cell 2, HBb1.out.cell 3, HBb10.out, HBb10.out.cell 0, HBb10.out.cell 1, HBb10.out.cell 2, HBb10.out.cell 3, HBb12.out, HBb12.out.cell 0, HBb12.out.cell 1, HBb12.out.cell 2, HBb12.out.cell 3, HBb17.out, HBb17.out.cell 0, HBb17.out.cell 1, HBb17.out.cell 2, HBb17.out.cell 3⟩) (fun hHeld => ?_)
                clear hK K a0 a1 a2 a3 f0 f1 f2 f3
                generalize (((w46.setCell ⟨w45.heap.size, 0, none⟩ (.int .i64 z.s)).setCell ⟨w45.heap.size, 1, none⟩ (.int .i64 z.f)).setCell ⟨w45.heap.size, 2, none⟩ (.int .i64 z.d)).setCell ⟨w45.heap.size, 3, none⟩ (.slice ag20 z.ms.length cg20) = w47 at *
                refine wpAnyH_take (i := 10) (oi := _) (v := ?_) rfl (by kernel_rfl) (by kernel_rfl) (by kernel_rfl) (fun _ _ _ h => h) (Or.inl ⟨by rfl, ?_⟩) (by assumption) ?_
                rotate_left
                · (intro w hSw; (try dsimp only at hSw); (first | (go_simp; done) | (go_simp; with_reducible rfl)))
                simp only [Act.put, List.getElem_toArray, List.getElem_cons_succ, List.getElem_cons_zero, List.setIfInBounds_toArray, List.set_cons_zero, List.set_cons_succ]
                refine wpAnyH_done (by kernel_rfl) ?_ _
                refine NoPanic.normal ?_
                clear hHeld
                go_wp2_with fail
                go_meet
                exact ⟨w45.heap.size, (.slice ag20 z.ms.length cg20), rfl, (by rw [HBB.out]), by have z0 := HSN.out; have y0 := HZw1.out; have y1 := HZw2.out; have y2 := HZw3.out; have y3 := HZadg9.out; have y4 := HZw21.out; have y5 := HZw22.out; have y6 := HZw23.out; have y7 := HZadg16.out; have y8 := HZw35.out; have y9 := HZw36.out; have y10 := HZw37.out; have y11 := HZw38.out; have y12 := HZw39.out; have y13 := HZw40.out; have y14 := HZw41.out; have y15 := HZw43.out; have y16 := HZw44.out; have y17 := HZw45.out; have y18 := HZw46.out; omega, HAN.out, owns_lower HON.out (by have z0 := HZw1.out; have z1 := HZw2.out; have z2 := HZw3.out; have z3 := HZadg9.out; have z4 := HZw21.out; have z5 := HZw22.out; have z6 := HZw23.out; have z7 := HZadg16.out; have z8 := HZw35.out; have z9 := HZw36.out; have z10 := HZw37.out; have z11 := HZw38.out; have z12 := HZw39.out; have z13 := HZw40.out; have z14 := HZw41.out; have z15 := HZw43.out; have z16 := HZw44.out; have z17 := HZw45.out; have z18 := HZw46.out; omega), fun b h => by have l := HRg20.out b h; have z0 := HSN.out; have y0 := HZw1.out; have y1 := HZw2.out; have y2 := HZw3.out; have y3 := HZadg9.out; have y4 := HZw21.out; have y5 := HZw22.out; have y6 := HZw23.out; have y7 := HZadg16.out; have y8 := HZw35.out; have y9 := HZw36.out; have y10 := HZw37.out; have y11 := HZw38.out; have y12 := HZw39.out; have y13 := HZw40.out; have y14 := HZw41.out; have y15 := HZw43.out; have y16 := HZw44.out; have y17 := HZw45.out; have y18 := HZw46.out; omega, HF.out⟩
              · skip
                go_simp
                have HA := Lib.hid (show Blk (w44.alloc (.cells #[.int .i64 0, .int .i64 0, .int .i64 0, .slice none 0 0] 32)) (w44.heap.size) #[.int .i64 0, .int .i64 0, .int .i64 0, .slice none 0 0] 32 from blk_at w44 #[.int .i64 0, .int .i64 0, .int .i64 0, .slice none 0 0] 32 (w44.heap.size) rfl)
                have HX := Lib.hid (HX.out.next (show Below w44.heap.size w44 (w44.alloc (.cells #[.int .i64 0, .int .i64 0, .int .i64 0, .slice none 0 0] 32)) from below_new w44 (.cells #[.int .i64 0, .int .i64 0, .int .i64 0, .slice none 0 0] 32)))
                have HBb1 := Lib.hid (HBb1.out.below (show Below w44.heap.size w44 (w44.alloc (.cells #[.int .i64 0, .int .i64 0, .int .i64 0, .slice none 0 0] 32)) from below_new w44 (.cells #[.int .i64 0, .int .i64 0, .int .i64 0, .slice none 0 0] 32)))
                have HBb10 := Lib.hid (HBb10.out.below (show Below w44.heap.size w44 (w44.alloc (.cells #[.int .i64 0, .int .i64 0, .int .i64 0, .slice none 0 0] 32)) from below_new w44 (.cells #[.int .i64 0, .int .i64 0, .int .i64 0, .slice none 0 0] 32)))
                have HBb12 := Lib.hid (HBb12.out.below (show Below w44.heap.size w44 (w44.alloc (.cells #[.int .i64 0, .int .i64 0, .int .i64 0, .slice none 0 0] 32)) from below_new w44 (.cells #[.int .i64 0, .int .i64 0, .int .i64 0, .slice none 0 0] 32)))
                have HBb17 := Lib.hid (HBb17.out.below (show Below w44.heap.size w44 (w44.alloc (.cells #[.int .i64 0, .int .i64 0, .int .i64 0, .slice none 0 0] 32)) from below_new w44 (.cells #[.int .i64 0, .int .i64 0, .int .i64 0, .slice none 0 0] 32)))
                have HOg9 := Lib.hid (owns_below HOg9.out (show Below w44.heap.size w44 (w44.alloc (.cells #[.int .i64 0, .int .i64 0, .int .i64 0, .slice none 0 0] 32)) from below_new w44 (.cells #[.int .i64 0, .int .i64 0, .int .i64 0, .slice none 0 0] 32)))
                have HOx11 := Lib.hid (owns_below HOx11.out (show Below w44.heap.size w44 (w44.alloc (.cells #[.int .i64 0, .int .i64 0, .int .i64 0, .slice none 0 0] 32)) from below_new w44 (.cells #[.int .i64 0, .int .i64 0, .int .i64 0, .slice none 0 0] 32)))
                have HOg16 := Lib.hid (owns_below HOg16.out (show Below w44.heap.size w44 (w44.alloc (.cells #[.int .i64 0, .int .i64 0, .int .i64 0, .slice none 0 0] 32)) from below_new w44 (.cells #[.int .i64 0, .int .i64 0, .int .i64 0, .slice none 0 0] 32)))
                have HOx19 := Lib.hid (owns_below HOx19.out (show Below w44.heap.size w44 (w44.alloc (.cells #[.int .i64 0, .int .i64 0, .int .i64 0, .slice none 0 0] 32)) from below_new w44 (.cells #[.int .i64 0, .int .i64 0, .int .i64 0, .slice none 0 0] 32)))
                have HMid := Lib.hid (HMid.out.trans ((show Below w44.heap.size w44 (w44.alloc (.cells #[.int .i64 0, .int .i64 0, .int .i64 0, .slice none 0 0] 32)) from below_new w44 (.cells #[.int .i64 0, .int .i64 0, .int .i64 0, .slice none 0 0] 32)).mono HMid.out.size))
                have HF := Lib.hid (HF.out.trans ((show Below w44.heap.size w44 (w44.alloc (.cells #[.int .i64 0, .int .i64 0, .int .i64 0, .slice none 0 0] 32)) from below_new w44 (.cells #[.int .i64 0, .int .i64 0, .int .i64 0, .slice none 0 0] 32)).mono HF.out.size))
                have HZw48 : Hid (w44.heap.size < (w44.alloc (.cells #[.int .i64 0, .int .i64 0, .int .i64 0, .slice none 0 0] 32)).heap.size) := Lib.hid (by simp)
                clear hHeld
                refine hK.out _ _ (⟨HX.out, HX.out.c0, HX.out.c1, HBb1.out, HBb1.out.cell 0, HBb1.out.cell 1, HBb1.out.cell 2, HBb1.out.cell 3, HBb10.out, HBb10.out.cell 0, HBb10.out.cell 1, HBb10.out.cell 2, HBb10.out.cell 3, HBb12.out, HBb12.out.cell 0, HBb12.out.cell 1, HBb12.out.cell 2, HBb12.out.cell 3, HBb17.out, HBb17.out.cell 0, HBb17.out.cell 1, HBb17.out.cell 2, HBb17.out.cell 3⟩) (fun hHeld => ?_)
                clear hK K
                generalize w44.alloc (.cells #[.int .i64 0, .int .i64 0, .int .i64 0, .slice none 0 0] 32) = w48 at *
                refine wpAnyH_ready (rs := [4]) (by kernel_rfl) (by simp) ?_
                refine AllReadyH.cons rfl (fun K hK => ?_) AllReadyH.nil
                go_simp
                refine (HI.out (.slice ax19 k1.ms.length cx19) _ (owns_reads HOx19.out Hnk1_ms.out)).mono ?_
                rintro e w49 ⟨g21, rfl, ho, hb⟩
                have HX := Lib.hid (HX.out.next hb)
                have HBb1 := Lib.hid (HBb1.out.below hb)
                have HBb10 := Lib.hid (HBb10.out.below hb)
                have HBb12 := Lib.hid (HBb12.out.below hb)
                have HBb17 := Lib.hid (HBb17.out.below hb)
                have HOg9 := Lib.hid (owns_below HOg9.out hb)
                have HOx11 := Lib.hid (owns_below HOx11.out hb)
                have HOg16 := Lib.hid (owns_below HOg16.out hb)
                have HOx19 := Lib.hid (owns_below HOx19.out hb)
                have HMid := Lib.hid (HMid.out.trans (hb.mono HMid.out.size))
                have HF := Lib.hid (HF.out.trans (hb.mono HF.out.size))
                have HA := Lib.hid (HA.out.below hb)
                have HZw49 : Hid (w48.heap.size ≤ w49.heap.size) := Lib.hid (hb.size)
                have HRg21 : Hid (∀ b, g21.ownBlock = some b → w48.heap.size ≤ b ∧ b < w49.heap.size) := Lib.hid (fun b hb => owns_block ho b hb)
                obtain ⟨ag21, cg21, hsg21, _⟩ := owns_shape ho
                subst hsg21
                have HOg21 := Lib.hid ho
                clear ho
                clear hb hHeld
                go_wp2_with fail
                refine hK.out _ _ (⟨HX.out, HX.out.c0, HX.out.c1, HBb1.out, HBb1.out.cell 0, HBb1.out.cell 1, HBb1.out.cell 2, HBb1.out.cell 3, HBb10.out, HBb10.out.cell 0, HBb10.out.cell 1, HBb10.out.cell 2, HBb10.out.cell 3, HBb12.out, HBb12.out.cell 0, HBb12.out.cell 1, HBb12.out.cell 2, HBb12.out.cell 3, HBb17.out, HBb17.out.cell 0, HBb17.out.cell 1, HBb17.out.cell 2, HBb17.out.cell 3⟩) (fun hHeld => ?_)
                clear hK K
                refine wpAnyH_take (i := 5) (oi := _) (v := ?_) rfl (by kernel_rfl) (by kernel_rfl) (by kernel_rfl) (fun _ _ _ h => h) (Or.inl ⟨by rfl, ?_⟩) (by assumption) ?_
                rotate_left
                · (intro w hSw; (try dsimp only at hSw); (first | (go_simp; done) | (go_simp; with_reducible rfl)))
                simp only [Act.put, List.getElem_toArray, List.getElem_cons_succ, List.getElem_cons_zero, List.setIfInBounds_toArray, List.set_cons_zero, List.set_cons_succ]
                refine wpAnyH_take (i := 6) (oi := _) (v := ?_) rfl (by kernel_rfl) (by kernel_rfl) (by kernel_rfl) (fun _ _ _ h => h) (Or.inl ⟨by rfl, ?_⟩) (by assumption) ?_
                rotate_left
                · (intro w hSw; (try dsimp only at hSw); (first | (go_simp; done) | (go_simp; with_reducible rfl)))
                simp only [Act.put, List.getElem_toArray, List.getElem_cons_succ, List.getElem_cons_zero, List.setIfInBounds_toArray, List.set_cons_zero, List.set_cons_succ]
                refine wpAnyH_take (i := 7) (oi := _) (v := ?_) rfl (by kernel_rfl) (by kernel_rfl) (by kernel_rfl) (fun _ _ _ h => h) (Or.inl ⟨by rfl, ?_⟩) (by assumption) ?_
                rotate_left
                · (intro w hSw; (try dsimp only at hSw); (first | (go_simp; done) | (go_simp; with_reducible rfl)))
                simp only [Act.put, List.getElem_toArray, List.getElem_cons_succ, List.getElem_cons_zero, List.setIfInBounds_toArray, List.set_cons_zero, List.set_cons_succ]
                refine wpAnyH_ready (rs := [9]) (by kernel_rfl) (by simp) ?_
                refine AllReadyH.cons rfl (fun K hK => ?_) AllReadyH.nil
                have a0 := HA.out.cell 0
                have f0 := HA.out.free 0
                have a1 := HA.out.cell 1
                have f1 := HA.out.free 1
                have a2 := HA.out.cell 2
                have f2 := HA.out.free 2
                have a3 := HA.out.cell 3
                have f3 := HA.out.free 3
                have hB4 := below_set4 w49 (w44.heap.size) w41.heap.size (by have z0 := HZw1.out; have z1 := HZw2.out; have z2 := HZw3.out; have z3 := HZadg9.out; have z4 := HZw21.out; have z5 := HZw22.out; have z6 := HZw23.out; have z7 := HZadg16.out; have z8 := HZw35.out; have z9 := HZw36.out; have z10 := HZw37.out; have z11 := HZw38.out; have z12 := HZw39.out; have z13 := HZw40.out; have z14 := HZw41.out; have z15 := HZw43.out; have z16 := HZw44.out; have z17 := HZw48.out; have z18 := HZw49.out; omega) (.int .i64 z.s) (.int .i64 z.f) (.int .i64 z.d) (.slice ag21 z.ms.length cg21)
                have HAN := Lib.hid (blk_set4 HA.out (.int .i64 z.s) (.int .i64 z.f) (.int .i64 z.d) (.slice ag21 z.ms.length cg21))
                have HON := Lib.hid (own_apart4 (b := w44.heap.size) HOg21.out (fun b h => by have l := HRg21.out b h; have z0 := HZw1.out; have z1 := HZw2.out; have z2 := HZw3.out; have z3 := HZadg9.out; have z4 := HZw21.out; have z5 := HZw22.out; have z6 := HZw23.out; have z7 := HZadg16.out; have z8 := HZw35.out; have z9 := HZw36.out; have z10 := HZw37.out; have z11 := HZw38.out; have z12 := HZw39.out; have z13 := HZw40.out; have z14 := HZw41.out; have z15 := HZw43.out; have z16 := HZw44.out; have z17 := HZw48.out; have z18 := HZw49.out; omega) (.int .i64 z.s) (.int .i64 z.f) (.int .i64 z.d) (.slice ag21 z.ms.length cg21))
                have HSN := Lib.hid (size_set4 w49 (w44.heap.size) (.int .i64 z.s) (.int .i64 z.f) (.int .i64 z.d) (.slice ag21 z.ms.length cg21))
                have HX := Lib.hid (HX.out.nextAt (m := w41.heap.size) (by have z0 := HZw1.out; have z1 := HZw2.out; have z2 := HZw3.out; have z3 := HZadg9.out; have z4 := HZw21.out; have z5 := HZw22.out; have z6 := HZw23.out; have z7 := HZadg16.out; have z8 := HZw35.out; have z9 := HZw36.out; have z10 := HZw37.out; have z11 := HZw38.out; have z12 := HZw39.out; have z13 := HZw40.out; have z14 := HZw41.out; have z15 := HZw43.out; have z16 := HZw44.out; have z17 := HZw48.out; have z18 := HZw49.out; omega) hB4)
                have HBb1 := Lib.hid (HBb1.out.belowAt (m := w41.heap.size) (by have z0 := HZw1.out; have z1 := HZw2.out; have z2 := HZw3.out; have z3 := HZadg9.out; have z4 := HZw21.out; have z5 := HZw22.out; have z6 := HZw23.out; have z7 := HZadg16.out; have z8 := HZw35.out; have z9 := HZw36.out; have z10 := HZw37.out; have z11 := HZw38.out; have z12 := HZw39.out; have z13 := HZw40.out; have z14 := HZw41.out; have z15 := HZw43.out; have z16 := HZw44.out; have z17 := HZw48.out; have z18 := HZw49.out; omega) hB4)
                have HBb10 := Lib.hid (HBb10.out.belowAt (m := w41.heap.size) (by have z0 := HZw1.out; have z1 := HZw2.out; have z2 := HZw3.out; have z3 := HZadg9.out; have z4 := HZw21.out; have z5 := HZw22.out; have z6 := HZw23.out; have z7 := HZadg16.out; have z8 := HZw35.out; have z9 := HZw36.out; have z10 := HZw37.out; have z11 := HZw38.out; have z12 := HZw39.out; have z13 := HZw40.out; have z14 := HZw41.out; have z15 := HZw43.out; have z16 := HZw44.out; have z17 := HZw48.out; have z18 := HZw49.out; omega) hB4)
                have HBb12 := Lib.hid (HBb12.out.belowAt (m := w41.heap.size) (by have z0 := HZw1.out; have z1 := HZw2.out; have z2 := HZw3.out; have z3 := HZadg9.out; have z4 := HZw21.out; have z5 := HZw22.out; have z6 := HZw23.out; have z7 := HZadg16.out; have z8 := HZw35.out; have z9 := HZw36.out; have z10 := HZw37.out; have z11 := HZw38.out; have z12 := HZw39.out; have z13 := HZw40.out; have z14 := HZw41.out; have z15 := HZw43.out; have z16 := HZw44.out; have z17 := HZw48.out; have z18 := HZw49.out; omega) hB4)
                have HBb17 := Lib.hid (HBb17.out.belowAt (m := w41.heap.size) (by have z0 := HZw1.out; have z1 := HZw2.out; have z2 := HZw3.out; have z3 := HZadg9.out; have z4 := HZw21.out; have z5 := HZw22.out; have z6 := HZw23.out; have z7 := HZadg16.out; have z8 := HZw35.out; have z9 := HZw36.out; have z10 := HZw37.out; have z11 := HZw38.out; have z12 := HZw39.out; have z13 := HZw40.out; have z14 := HZw41.out; have z15 := HZw43.out; have z16 := HZw44.out; have z17 := HZw48.out; have z18 := HZw49.out; omega) hB4)
                have HF := Lib.hid (HF.out.trans hB4)
                clear hB4 HA
                go_simp
                clear hHeld
                refine hK.out _ _ (⟨HX.out, HX.out.c0, HX.out.c1, HBb1.out, HBb1.out.cell 0, HBb1.out.cell 1, HBb1.out.cell 2, HBb1.out.cell 3, HBb10.out, HBb10.out.cell 0, HBb10.out.cell 1, HBb10.out.cell 2, HBb10.out.cell 3, HBb12.out, HBb12.out.cell 0, HBb12.out.cell 1, HBb12.out.cell 2, HBb12.out.cell 3, HBb17.out, HBb17.out.cell 0, HBb17.out.cell 1, HBb17.out.cell 2, HBb17.out.cell 3⟩) (fun hHeld => ?_)
                clear hK K a0 a1 a2 a3 f0 f1 f2 f3
                generalize (((w49.setCell ⟨w44.heap.size, 0, none⟩ (.int .i64 z.s)).setCell ⟨w44.heap.size, 1, none⟩ (.int .i64 z.f)).setCell ⟨w44.heap.size, 2, none⟩ (.int .i64 z.d)).setCell ⟨w44.heap.size, 3, none⟩ (.slice ag21 z.ms.length cg21) = w50 at *
                refine wpAnyH_take (i := 10) (oi := _) (v := ?_) rfl (by kernel_rfl) (by kernel_rfl) (by kernel_rfl) (fun _ _ _ h => h) (Or.inl ⟨by rfl, ?_⟩) (by assumption) ?_
                rotate_left
                · (intro w hSw; (try dsimp only at hSw); (first | (go_simp; done) | (go_simp; with_reducible rfl)))
                simp only [Act.put, List.getElem_toArray, List.getElem_cons_succ, List.getElem_cons_zero, List.setIfInBounds_toArray, List.set_cons_zero, List.set_cons_succ]
                refine wpAnyH_done (by kernel_rfl) ?_ _
                refine NoPanic.normal ?_
                clear hHeld
                go_wp2_with fail
                go_meet
                exact ⟨w44.heap.size, (.slice ag21 z.ms.length cg21), rfl, (by rw [HBB.out]), by have z0 := HSN.out; have y0 := HZw1.out; have y1 := HZw2.out; have y2 := HZw3.out; have y3 := HZadg9.out; have y4 := HZw21.out; have y5 := HZw22.out; have y6 := HZw23.out; have y7 := HZadg16.out; have y8 := HZw35.out; have y9 := HZw36.out; have y10 := HZw37.out; have y11 := HZw38.out; have y12 := HZw39.out; have y13 := HZw40.out; have y14 := HZw41.out; have y15 := HZw43.out; have y16 := HZw44.out; have y17 := HZw48.out; have y18 := HZw49.out; omega, HAN.out, owns_lower HON.out (by have z0 := HZw1.out; have z1 := HZw2.out; have z2 := HZw3.out; have z3 := HZadg9.out; have z4 := HZw21.out; have z5 := HZw22.out; have z6 := HZw23.out; have z7 := HZadg16.out; have z8 := HZw35.out; have z9 := HZw36.out; have z10 := HZw37.out; have z11 := HZw38.out; have z12 := HZw39.out; have z13 := HZw40.out; have z14 := HZw41.out; have z15 := HZw43.out; have z16 := HZw44.out; have z17 := HZw48.out; have z18 := HZw49.out; omega), fun b h => by have l := HRg21.out b h; have z0 := HSN.out; have y0 := HZw1.out; have y1 := HZw2.out; have y2 := HZw3.out; have y3 := HZadg9.out; have y4 := HZw21.out; have y5 := HZw22.out; have y6 := HZw23.out; have y7 := HZadg16.out; have y8 := HZw35.out; have y9 := HZw36.out; have y10 := HZw37.out; have y11 := HZw38.out; have y12 := HZw39.out; have y13 := HZw40.out; have y14 := HZw41.out; have y15 := HZw43.out; have y16 := HZw44.out; have y17 := HZw48.out; have y18 := HZw49.out; omega, HF.out⟩
            · skip
              go_simp
              have HA := Lib.hid (show Blk (w43.alloc (.cells #[.int .i64 0, .int .i64 0, .int .i64 0, .slice none 0 0] 32)) (w43.heap.size) #[.int .i64 0, .int .i64 0, .int .i64 0, .slice none 0 0] 32 from blk_at w43 #[.int .i64 0, .int .i64 0, .int .i64 0, .slice none 0 0] 32 (w43.heap.size) rfl)
              have HX := Lib.hid (HX.out.next (show Below w43.heap.size w43 (w43.alloc (.cells #[.int .i64 0, .int .i64 0, .int .i64 0, .slice none 0 0] 32)) from below_new w43 (.cells #[.int .i64 0, .int .i64 0, .int .i64 0, .slice none 0 0] 32)))
              have HBb1 := Lib.hid (HBb1.out.below (show Below w43.heap.size w43 (w43.alloc (.cells #[.int .i64 0, .int .i64 0, .int .i64 0, .slice none 0 0] 32)) from below_new w43 (.cells #[.int .i64 0, .int .i64 0, .int .i64 0, .slice none 0 0] 32)))
              have HBb10 := Lib.hid (HBb10.out.below (show Below w43.heap.size w43 (w43.alloc (.cells #[.int .i64 0, .int .i64 0, .int .i64 0, .slice none 0 0] 32)) from below_new w43 (.cells #[.int .i64 0, .int .i64 0, .int .i64 0, .slice none 0 0] 32)))
              have HBb12 := Lib.hid (HBb12.out.below (show Below w43.heap.size w43 (w43.alloc (.cells #[.int .i64 0, .int .i64 0, .int .i64 0, .slice none 0 0] 32)) from below_new w43 (.cells #[.int .i64 0, .int .i64 0, .int .i64 0, .slice none 0 0] 32)))
              have HBb17 := Lib.hid (HBb17.out.below (show Below w43.heap.size w43 (w43.alloc (.cells #[.int .i64 0, .int .i64 0, .int .i64 0, .slice none 0 0] 32)) from below_new w43 (.cells #[.int .i64 0, .int .i64 0, .int .i64 0, .slice none 0 0] 32)))
              have HOg9 := Lib.hid (owns_below HOg9.out (show Below w43.heap.size w43 (w43.alloc (.cells #[.int .i64 0, .int .i64 0, .int .i64 0, .slice none 0 0] 32)) from below_new w43 (.cells #[.int .i64 0, .int .i64 0, .int .i64 0, .slice none 0 0] 32)))
              have HOx11 := Lib.hid (owns_below HOx11.out (show Below w43.heap.size w43 (w43.alloc (.cells #[.int .i64 0, .int .i64 0, .int .i64 0, .slice none 0 0] 32)) from below_new w43 (.cells #[.int .i64 0, .int .i64 0, .int .i64 0, .slice none 0 0] 32)))
              have HOg16 := Lib.hid (owns_below HOg16.out (show Below w43.heap.size w43 (w43.alloc (.cells #[.int .i64 0, .int .i64 0, .int .i64 0, .slice none 0 0] 32)) from below_new w43 (.cells #[.int .i64 0, .int .i64 0, .int .i64 0, .slice none 0 0] 32)))
              have HMid := Lib.hid (HMid.out.trans ((show Below w43.heap.size w43 (w43.alloc (.cells #[.int .i64 0, .int .i64 0, .int .i64 0, .slice none 0 0] 32)) from below_new w43 (.cells #[.int .i64 0, .int .i64 0, .int .i64 0, .slice none 0 0] 32)).mono HMid.out.size))
              have HF := Lib.hid (HF.out.trans ((show Below w43.heap.size w43 (w43.alloc (.cells #[.int .i64 0, .int .i64 0, .int .i64 0, .slice none 0 0] 32)) from below_new w43 (.cells #[.int .i64 0, .int .i64 0, .int .i64 0, .slice none 0 0] 32)).mono HF.out.size))
              have HZw51 : Hid (w43.heap.size < (w43.alloc (.cells #[.int .i64 0, .int .i64 0, .int .i64 0, .slice none 0 0] 32)).heap.size) := Lib.hid (by simp)
              clear hHeld
              refine hK.out _ _ (⟨HX.out, HX.out.c0, HX.out.c1, HBb1.out, HBb1.out.cell 0, HBb1.out.cell 1, HBb1.out.cell 2, HBb1.out.cell 3, HBb10.out, HBb10.out.cell 0, HBb10.out.cell 1, HBb10.out.cell 2, HBb10.out.cell 3, HBb12.out, HBb12.out.cell 0, HBb12.out.cell 1, HBb12.out.cell 2, HBb12.out.cell 3, HBb17.out, HBb17.out.cell 0, HBb17.out.cell 1, HBb17.out.cell 2, HBb17.out.cell 3⟩) (fun hHeld => ?_)
              clear hK K
              generalize w43.alloc (.cells #[.int .i64 0, .int .i64 0, .int .i64 0, .slice none 0 0] 32) = w51 at *
              refine wpAnyH_ready (rs := [3]) (by kernel_rfl) (by simp) ?_
              refine AllReadyH.cons rfl (fun K hK => ?_) AllReadyH.nil
              go_simp
              refine (toW_any k1 (.slice y1 k1.ms.length c1) _ (HV1.out.below HX.out.below) hn1).mono ?_
              rintro e w52 ⟨x22, rfl, ho, hb⟩
              have HX := Lib.hid (HX.out.next hb)
              have HBb1 := Lib.hid (HBb1.out.below hb)
              have HBb10 := Lib.hid (HBb10.out.below hb)
              have HBb12 := Lib.hid (HBb12.out.below hb)
              have HBb17 := Lib.hid (HBb17.out.below hb)
              have HOg9 := Lib.hid (owns_below HOg9.out hb)
              have HOx11 := Lib.hid (owns_below HOx11.out hb)
              have HOg16 := Lib.hid (owns_below HOg16.out hb)
              have HMid := Lib.hid (HMid.out.trans (hb.mono HMid.out.size))
              have HF := Lib.hid (HF.out.trans (hb.mono HF.out.size))
              have HA := Lib.hid (HA.out.below hb)
              have HZw52 : Hid (w51.heap.size ≤ w52.heap.size) := Lib.hid (hb.size)
              have HRx22 : Hid (∀ b, x22.ownBlock = some b → w51.heap.size ≤ b ∧ b < w52.heap.size) := Lib.hid (fun b hb => owns_block ho b hb)
              obtain ⟨ax22, cx22, hsx22, _⟩ := owns_shape ho
              subst hsx22
              have HOx22 := Lib.hid ho
              clear ho
              clear hb hHeld
              go_wp2_with fail
              refine hK.out _ _ (⟨HX.out, HX.out.c0, HX.out.c1, HBb1.out, HBb1.out.cell 0, HBb1.out.cell 1, HBb1.out.cell 2, HBb1.out.cell 3, HBb10.out, HBb10.out.cell 0, HBb10.out.cell 1, HBb10.out.cell 2, HBb10.out.cell 3, HBb12.out, HBb12.out.cell 0, HBb12.out.cell 1, HBb12.out.cell 2, HBb12.out.cell 3, HBb17.out, HBb17.out.cell 0, HBb17.out.cell 1, HBb17.out.cell 2, HBb17.out.cell 3⟩) (fun hHeld => ?_)
              clear hK K
              refine wpAnyH_ready (rs := [4]) (by kernel_rfl) (by simp) ?_
              refine AllReadyH.cons rfl (fun K hK => ?_) AllReadyH.nil
              go_simp
              refine (HI.out (.slice ax22 k1.ms.length cx22) _ (owns_reads HOx22.out Hnk1_ms.out)).mono ?_
              rintro e w53 ⟨g23, rfl, ho, hb⟩
              have HX := Lib.hid (HX.out.next hb)
              have HBb1 := Lib.hid (HBb1.out.below hb)
              have HBb10 := Lib.hid (HBb10.out.below hb)
              have HBb12 := Lib.hid (HBb12.out.below hb)
              have HBb17 := Lib.hid (HBb17.out.below hb)
              have HOg9 := Lib.hid (owns_below HOg9.out hb)
              have HOx11 := Lib.hid (owns_below HOx11.out hb)
              have HOg16 := Lib.hid (owns_below HOg16.out hb)
              have HOx22 := Lib.hid (owns_below HOx22.out hb)
              have HMid := Lib.hid (HMid.out.trans (hb.mono HMid.out.size))
              have HF := Lib.hid (HF.out.trans (hb.mono HF.out.size))
              have HA := Lib.hid (HA.out.below hb)
              have HZw53 : Hid (w52.heap.size ≤ w53.heap.size) := Lib.hid (hb.size)
              have HRg23 : Hid (∀ b, g23.ownBlock = some b → w52.heap.size ≤ b ∧ b < w53.heap.size) := Lib.hid (fun b hb => owns_block ho b hb)
              obtain ⟨ag23, cg23, hsg23, _⟩ := owns_shape ho
              subst hsg23
              have HOg23 := Lib.hid ho
              clear ho
              clear hb hHeld
              go_wp2_with fail
              refine hK.out _ _ (⟨HX.out, HX.out.c0, HX.out.c1, HBb1.out, HBb1.out.cell 0, HBb1.out.cell 1, HBb1.out.cell 2, HBb1.out.cell 3, HBb10.out, HBb10.out.cell 0, HBb10.out.cell 1, HBb10.out.cell 2, HBb10.out.cell 3, HBb12.out, HBb12.out.cell 0, HBb12.out.cell 1, HBb12.out.cell 2, HBb12.out.cell 3, HBb17.out, HBb17.out.cell 0, HBb17.out.cell 1, HBb17.out.cell 2, HBb17.out.cell 3⟩) (fun hHeld => ?_)
              clear hK K
              refine wpAnyH_take (i := 5) (oi := _) (v := ?_) rfl (by kernel_rfl) (by kernel_rfl) (by kernel_rfl) (fun _ _ _ h => h) (Or.inl ⟨by rfl, ?_⟩) (by assumption) ?_
              rotate_left
              · (intro w hSw; (try dsimp only at hSw); (first | (go_simp; done) | (go_simp; with_reducible rfl)))
              simp only [Act.put, List.getElem_toArray, List.getElem_cons_succ, List.getElem_cons_zero, List.setIfInBounds_toArray, List.set_cons_zero, List.set_cons_succ]
              refine wpAnyH_take (i := 6) (oi := _) (v := ?_) rfl (by kernel_rfl) (by kernel_rfl) (by kernel_rfl) (fun _ _ _ h => h) (Or.inl ⟨by rfl, ?_⟩) (by assumption) ?_
              rotate_left
              · (intro w hSw; (try dsimp only at hSw); (first | (go_simp; done) | (go_simp; with_reducible rfl)))
              simp only [Act.put, List.getElem_toArray, List.getElem_cons_succ, List.getElem_cons_zero, List.setIfInBounds_toArray, List.set_cons_zero, List.set_cons_succ]
              refine wpAnyH_take (i := 7) (oi := _) (v := ?_) rfl (by kernel_rfl) (by kernel_rfl) (by kernel_rfl) (fun _ _ _ h => h) (Or.inl ⟨by rfl, ?_⟩) (by assumption) ?_
              rotate_left
              · (intro w hSw; (try dsimp only at hSw); (first | (go_simp; done) | (go_simp; with_reducible rfl)))
              simp only [Act.put, List.getElem_toArray, List.getElem_cons_succ, List.getElem_cons_zero, List.setIfInBounds_toArray, List.set_cons_zero, List.set_cons_succ]
              refine wpAnyH_ready (rs := [9]) (by kernel_rfl) (by simp) ?_
              refine AllReadyH.cons rfl (fun K hK => ?_) AllReadyH.nil
              have a0 := HA.out.cell 0
              have f0 := HA.out.free 0
              have a1 := HA.out.cell 1
              have f1 := HA.out.free 1
              have a2 := HA.out.cell 2
              have f2 := HA.out.free 2
              have a3 := HA.out.cell 3
              have f3 := HA.out.free 3
              have hB4 := below_set4 w53 (w43.heap.size) w41.heap.size (by have z0 := HZw1.out; have z1 := HZw2.out; have z2 := HZw3.out; have z3 := HZadg9.out; have z4 := HZw21.out; have z5 := HZw22.out; have z6 := HZw23.out; have z7 := HZadg16.out; have z8 := HZw35.out; have z9 := HZw36.out; have z10 := HZw37.out; have z11 := HZw38.out; have z12 := HZw39.out; have z13 := HZw40.out; have z14 := HZw41.out; have z15 := HZw43.out; have z16 := HZw51.out; have z17 := HZw52.out; have z18 := HZw53.out; omega) (.int .i64 z.s) (.int .i64 z.f) (.int .i64 z.d) (.slice ag23 z.ms.length cg23)
              have HAN := Lib.hid (blk_set4 HA.out (.int .i64 z.s) (.int .i64 z.f) (.int .i64 z.d) (.slice ag23 z.ms.length cg23))
              have HON := Lib.hid (own_apart4 (b := w43.heap.size) HOg23.out (fun b h => by have l := HRg23.out b h; have z0 := HZw1.out; have z1 := HZw2.out; have z2 := HZw3.out; have z3 := HZadg9.out; have z4 := HZw21.out; have z5 := HZw22.out; have z6 := HZw23.out; have z7 := HZadg16.out; have z8 := HZw35.out; have z9 := HZw36.out; have z10 := HZw37.out; have z11 := HZw38.out; have z12 := HZw39.out; have z13 := HZw40.out; have z14 := HZw41.out; have z15 := HZw43.out; have z16 := HZw51.out; have z17 := HZw52.out; have z18 := HZw53.out; omega) (.int .i64 z.s) (.int .i64 z.f) (.int .i64 z.d) (.slice ag23 z.ms.length cg23))
              have HSN := Lib.hid (size_set4 w53 (w43.heap.size) (.int .i64 z.s) (.int .i64 z.f) (.int .i64 z.d) (.slice ag23 z.ms.length cg23))
              have HX := Lib.hid (HX.out.nextAt (m := w41.heap.size) (by have z0 := HZw1.out; have z1 := HZw2.out; have z2 := HZw3.out; have z3 := HZadg9.out; have z4 := HZw21.out; have z5 := HZw22.out; have z6 := HZw23.out; have z7 := HZadg16.out; have z8 := HZw35.out; have z9 := HZw36.out; have z10 := HZw37.out; have z11 := HZw38.out; have z12 := HZw39.out; have z13 := HZw40.out; have z14 := HZw41.out; have z15 := HZw43.out; have z16 := HZw51.out; have z17 := HZw52.out; have z18 := HZw53.out; omega) hB4)
              have HBb1 := Lib.hid (HBb1.out.belowAt (m := w41.heap.size) (by have z0 := HZw1.out; have z1 := HZw2.out; have z2 := HZw3.out; have z3 := HZadg9.out; have z4 := HZw21.out; have z5 := HZw22.out; have z6 := HZw23.out; have z7 := HZadg16.out; have z8 := HZw35.out; have z9 := HZw36.out; have z10 := HZw37.out; have z11 := HZw38.out; have z12 := HZw39.out; have z13 := HZw40.out; have z14 := HZw41.out; have z15 := HZw43.out; have z16 := HZw51.out; have z17 := HZw52.out; have z18 := HZw53.out; omega) hB4)
              have HBb10 := Lib.hid (HBb10.out.belowAt (m := w41.heap.size) (by have z0 := HZw1.out; have z1 := HZw2.out; have z2 := HZw3.out; have z3 := HZadg9.out; have z4 := HZw21.out; have z5 := HZw22.out; have z6 := HZw23.out; have z7 := HZadg16.out; have z8 := HZw35.out; have z9 := HZw36.out; have z10 := HZw37.out; have z11 := HZw38.out; have z12 := HZw39.out; have z13 := HZw40.out; have z14 := HZw41.out; have z15 := HZw43.out; have z16 := HZw51.out; have z17 := HZw52.out; have z18 := HZw53.out; omega) hB4)
              have HBb12 := Lib.hid (HBb12.out.belowAt (m := w41.heap.size) (by have z0 := HZw1.out; have z1 := HZw2.out; have z2 := HZw3.out; have z3 := HZadg9.out; have z4 := HZw21.out; have z5 := HZw22.out; have z6 := HZw23.out; have z7 := HZadg16.out; have z8 := HZw35.out; have z9 := HZw36.out; have z10 := HZw37.out; have z11 := HZw38.out; have z12 := HZw39.out; have z13 := HZw40.out; have z14 := HZw41.out; have z15 := HZw43.out; have z16 := HZw51.out; have z17 := HZw52.out; have z18 := HZw53.out; omega) hB4)
              have HBb17 := Lib.hid (HBb17.out.belowAt (m := w41.heap.size) (by have z0 := HZw1.out; have z1 := HZw2.out; have z2 := HZw3.out; have z3 := HZadg9.out; have z4 := HZw21.out; have z5 := HZw22.out; have z6 := HZw23.out; have z7 := HZadg16.out; have z8 := HZw35.out; have z9 := HZw36.out; have z10 := HZw37.out; have z11 := HZw38.out; have z12 := HZw39.out; have z13 := HZw40.out; have z14 := HZw41.out; have z15 := HZw43.out; have z16 := HZw51.out; have z17 := HZw52.out; have z18 := HZw53.out; omega) hB4)
              have HF := Lib.hid (HF.out.trans hB4)
              clear hB4 HA
              go_simp
              clear hHeld
              refine hK.out _ _ (⟨HX.out, HX.out.c0, HX.out.c1, HBb1.out, HBb1.out.cell 0, HBb1.out.cell 1, HBb1.out.cell 2, HBb1.out.cell 3, HBb10.out, HBb10.out.cell 0, HBb10.out.cell 1, HBb10.out.cell 2, HBb10.out.cell 3, HBb12.out, HBb12.out.cell 0, HBb12.out.cell 1, HBb12.out.cell 2, HBb12.out.cell 3, HBb17.out, HBb17.out.cell 0, HBb17.out.cell 1, HBb17.out.cell 2, HBb17.out.cell 3⟩) (fun hHeld => ?_)
              clear hK K a0 a1 a2 a3 f0 f1 f2 f3
              generalize (((w53.setCell ⟨w43.heap.size, 0, none⟩ (.int .i64 z.s)).setCell ⟨w43.heap.size, 1, none⟩ (.int .i64 z.f)).setCell ⟨w43.heap.size, 2, none⟩ (.int .i64 z.d)).setCell ⟨w43.heap.size, 3, none⟩ (.slice ag23 z.ms.length cg23) = w54 at *
              refine wpAnyH_take (i := 10) (oi := _) (v := ?_) rfl (by kernel_rfl) (by kernel_rfl) (by kernel_rfl) (fun _ _ _ h => h) (Or.inl ⟨by rfl, ?_⟩) (by assumption) ?_
              rotate_left
              · (intro w hSw; (try dsimp only at hSw); (first | (go_simp; done) | (go_simp; with_reducible rfl)))
              simp only [Act.put, List.getElem_toArray, List.getElem_cons_succ, List.getElem_cons_zero, List.setIfInBounds_toArray, List.set_cons_zero, List.set_cons_succ]
              refine wpAnyH_done (by kernel_rfl) ?_ _
              refine NoPanic.normal ?_
              clear hHeld
              go_wp2_with fail
              go_meet
              exact ⟨w43.heap.size, (.slice ag23 z.ms.length cg23), rfl, (by rw [HBB.out]), by have z0 := HSN.out; have y0 := HZw1.out; have y1 := HZw2.out; have y2 := HZw3.out; have y3 := HZadg9.out; have y4 := HZw21.out; have y5 := HZw22.out; have y6 := HZw23.out; have y7 := HZadg16.out; have y8 := HZw35.out; have y9 := HZw36.out; have y10 := HZw37.out; have y11 := HZw38.out; have y12 := HZw39.out; have y13 := HZw40.out; have y14 := HZw41.out; have y15 := HZw43.out; have y16 := HZw51.out; have y17 := HZw52.out; have y18 := HZw53.out; omega, HAN.out, owns_lower HON.out (by have z0 := HZw1.out; have z1 := HZw2.out; have z2 := HZw3.out; have z3 := HZadg9.out; have z4 := HZw21.out; have z5 := HZw22.out; have z6 := HZw23.out; have z7 := HZadg16.out; have z8 := HZw35.out; have z9 := HZw36.out; have z10 := HZw37.out; have z11 := HZw38.out; have z12 := HZw39.out; have z13 := HZw40.out; have z14 := HZw41.out; have z15 := HZw43.out; have z16 := HZw51.out; have z17 := HZw52.out; have z18 := HZw53.out; omega), fun b h => by have l := HRg23.out b h; have z0 := HSN.out; have y0 := HZw1.out; have y1 := HZw2.out; have y2 := HZw3.out; have y3 := HZadg9.out; have y4 := HZw21.out; have y5 := HZw22.out; have y6 := HZw23.out; have y7 := HZadg16.out; have y8 := HZw35.out; have y9 := HZw36.out; have y10 := HZw37.out; have y11 := HZw38.out; have y12 := HZw39.out; have y13 := HZw40.out; have y14 := HZw41.out; have y15 := HZw43.out; have y16 := HZw51.out; have y17 := HZw52.out; have y18 := HZw53.out; omega, HF.out⟩
          · skip
            go_simp
            have HA := Lib.hid (show Blk ((w41.alloc (.cells #[.int .i64 0, .int .i64 0, .int .i64 0, .slice none 0 0] 32)).drew) (w41.heap.size) #[.int .i64 0, .int .i64 0, .int .i64 0, .slice none 0 0] 32 from blk_at (w41.drewN 1) #[.int .i64 0, .int .i64 0, .int .i64 0, .slice none 0 0] 32 (w41.heap.size) rfl)
            have HX := Lib.hid (HX.out.next (show Below (w41.drewN 1).heap.size (w41.drewN 1) ((w41.alloc (.cells #[.int .i64 0, .int .i64 0, .int .i64 0, .slice none 0 0] 32)).drew) from below_new (w41.drewN 1) (.cells #[.int .i64 0, .int .i64 0, .int .i64 0, .slice none 0 0] 32)))
            have HBb1 := Lib.hid (HBb1.out.below (show Below (w41.drewN 1).heap.size (w41.drewN 1) ((w41.alloc (.cells #[.int .i64 0, .int .i64 0, .int .i64 0, .slice none 0 0] 32)).drew) from below_new (w41.drewN 1) (.cells #[.int .i64 0, .int .i64 0, .int .i64 0, .slice none 0 0] 32)))
            have HBb10 := Lib.hid (HBb10.out.below (show Below (w41.drewN 1).heap.size (w41.drewN 1) ((w41.alloc (.cells #[.int .i64 0, .int .i64 0, .int .i64 0, .slice none 0 0] 32)).drew) from below_new (w41.drewN 1) (.cells #[.int .i64 0, .int .i64 0, .int .i64 0, .slice none 0 0] 32)))
            have HBb12 := Lib.hid (HBb12.out.below (show Below (w41.drewN 1).heap.size (w41.drewN 1) ((w41.alloc (.cells #[.int .i64 0, .int .i64 0, .int .i64 0, .slice none 0 0] 32)).drew) from below_new (w41.drewN 1) (.cells #[.int .i64 0, .int .i64 0, .int .i64 0, .slice none 0 0] 32)))
            have HBb17 := Lib.hid (HBb17.out.below (show Below (w41.drewN 1).heap.size (w41.drewN 1) ((w41.alloc (.cells #[.int .i64 0, .int .i64 0, .int .i64 0, .slice none 0 0] 32)).drew) from below_new (w41.drewN 1) (.cells #[.int .i64 0, .int .i64 0, .int .i64 0, .slice none 0 0] 32)))
            have HOg9 := Lib.hid (owns_below HOg9.out (show Below (w41.drewN 1).heap.size (w41.drewN 1) ((w41.alloc (.cells #[.int .i64 0, .int .i64 0, .int .i64 0, .slice none 0 0] 32)).drew) from below_new (w41.drewN 1) (.cells #[.int .i64 0, .int .i64 0, .int .i64 0, .slice none 0 0] 32)))
            have HOx11 := Lib.hid (owns_below HOx11.out (show Below (w41.drewN 1).heap.size (w41.drewN 1) ((w41.alloc (.cells #[.int .i64 0, .int .i64 0, .int .i64 0, .slice none 0 0] 32)).drew) from below_new (w41.drewN 1) (.cells #[.int .i64 0, .int .i64 0, .int .i64 0, .slice none 0 0] 32)))
            have HOg16 := Lib.hid (owns_below HOg16.out (show Below (w41.drewN 1).heap.size (w41.drewN 1) ((w41.alloc (.cells #[.int .i64 0, .int .i64 0, .int .i64 0, .slice none 0 0] 32)).drew) from below_new (w41.drewN 1) (.cells #[.int .i64 0, .int .i64 0, .int .i64 0, .slice none 0 0] 32)))
            have HMid := Lib.hid (HMid.out.trans ((show Below (w41.drewN 1).heap.size (w41.drewN 1) ((w41.alloc (.cells #[.int .i64 0, .int .i64 0, .int .i64 0, .slice none 0 0] 32)).drew) from below_new (w41.drewN 1) (.cells #[.int .i64 0, .int .i64 0, .int .i64 0, .slice none 0 0] 32)).mono HMid.out.size))
            have HF := Lib.hid (HF.out.trans ((show Below (w41.drewN 1).heap.size (w41.drewN 1) ((w41.alloc (.cells #[.int .i64 0, .int .i64 0, .int .i64 0, .slice none 0 0] 32)).drew) from below_new (w41.drewN 1) (.cells #[.int .i64 0, .int .i64 0, .int .i64 0, .slice none 0 0] 32)).mono HF.out.size))
            have HZw55 : Hid (w41.heap.size < ((w41.alloc (.cells #[.int .i64 0, .int .i64 0, .int .i64 0, .slice none 0 0] 32)).drew).heap.size) := Lib.hid (by simp)
            clear hHeld
            refine hK.out _ _ (⟨HX.out, HX.out.c0, HX.out.c1, HBb1.out, HBb1.out.cell 0, HBb1.out.cell 1, HBb1.out.cell 2, HBb1.out.cell 3, HBb10.out, HBb10.out.cell 0, HBb10.out.cell 1, HBb10.out.cell 2, HBb10.out.cell 3, HBb12.out, HBb12.out.cell 0, HBb12.out.cell 1, HBb12.out.cell 2, HBb12.out.cell 3, HBb17.out, HBb17.out.cell 0, HBb17.out.cell 1, HBb17.out.cell 2, HBb17.out.cell 3⟩) (fun hHeld => ?_)
            clear hK K
            generalize (w41.alloc (.cells #[.int .i64 0, .int .i64 0, .int .i64 0, .slice none 0 0] 32)).drew = w55 at *
            refine wpAnyH_ready (rs := [1]) (by kernel_rfl) (by simp) ?_
            refine AllReadyH.cons rfl (fun K hK => ?_) AllReadyH.nil
            go_simp
            refine (HT.out _).mono ?_
            rintro e w56 ⟨rfl, hb⟩
            have HX := Lib.hid (HX.out.next hb)
            have HBb1 := Lib.hid (HBb1.out.below hb)
            have HBb10 := Lib.hid (HBb10.out.below hb)
            have HBb12 := Lib.hid (HBb12.out.below hb)
            have HBb17 := Lib.hid (HBb17.out.below hb)
            have HOg9 := Lib.hid (owns_below HOg9.out hb)
            have HOx11 := Lib.hid (owns_below HOx11.out hb)
            have HOg16 := Lib.hid (owns_below HOg16.out hb)
            have HMid := Lib.hid (HMid.out.trans (hb.mono HMid.out.size))
            have HF := Lib.hid (HF.out.trans (hb.mono HF.out.size))
            have HA := Lib.hid (HA.out.below hb)
            have HZw56 : Hid (w55.heap.size ≤ w56.heap.size) := Lib.hid (hb.size)
            clear hb hHeld
            go_wp2_with fail
            refine hK.out _ _ (⟨HX.out, HX.out.c0, HX.out.c1, HBb1.out, HBb1.out.cell 0, HBb1.out.cell 1, HBb1.out.cell 2, HBb1.out.cell 3, HBb10.out, HBb10.out.cell 0, HBb10.out.cell 1, HBb10.out.cell 2, HBb10.out.cell 3, HBb12.out, HBb12.out.cell 0, HBb12.out.cell 1, HBb12.out.cell 2, HBb12.out.cell 3, HBb17.out, HBb17.out.cell 0, HBb17.out.cell 1, HBb17.out.cell 2, HBb17.out.cell 3⟩) (fun hHeld => ?_)
            clear hK K
            refine wpAnyH_ready (rs := [3]) (by kernel_rfl) (by simp) ?_
            refine AllReadyH.cons rfl (fun K hK => ?_) AllReadyH.nil
            go_simp
            refine (toW_any k1 (.slice y1 k1.ms.length c1) _ (HV1.out.below HX.out.below) hn1).mono ?_
            rintro e w57 ⟨x24, rfl, ho, hb⟩
            have HX := Lib.hid (HX.out.next hb)
            have HBb1 := Lib.hid (HBb1.out.below hb)
            have HBb10 := Lib.hid (HBb10.out.below hb)
            have HBb12 := Lib.hid (HBb12.out.below hb)
            have HBb17 := Lib.hid (HBb17.out.below hb)
            have HOg9 := Lib.hid (owns_below HOg9.out hb)
            have HOx11 := Lib.hid (owns_below HOx11.out hb)
            have HOg16 := Lib.hid (owns_below HOg16.out hb)
            have HMid := Lib.hid (HMid.out.trans (hb.mono HMid.out.size))
            have HF := Lib.hid (HF.out.trans (hb.mono HF.out.size))
            have HA := Lib.hid (HA.out.below hb)
            have HZw57 : Hid (w56.heap.size ≤ w57.heap.size) := Lib.hid (hb.size)
            have HRx24 : Hid (∀ b, x24.ownBlock = some b → w56.heap.size ≤ b ∧ b < w57.heap.size) := Lib.hid (fun b hb => owns_block ho b hb)
            obtain ⟨ax24, cx24, hsx24, _⟩ := owns_shape ho
            subst hsx24
            have HOx24 := Lib.hid ho
            clear ho
            clear hb hHeld
            go_wp2_with fail
            refine hK.out _ _ (⟨HX.out, HX.out.c0, HX.out.c1, HBb1.out, HBb1.out.cell 0, HBb1.out.cell 1, HBb1.out.cell 2, HBb1.out.cell 3, HBb10.out, HBb10.out.cell 0, HBb10.out.cell 1, HBb10.out.cell 2, HBb10.out.cell 3, HBb12.out, HBb12.out.cell 0, HBb12.out.cell 1, HBb12.out.cell 2, HBb12.out.cell 3, HBb17.out, HBb17.out.cell 0, HBb17.out.cell 1, HBb17.out.cell 2, HBb17.out.cell 3⟩) (fun hHeld => ?_)
            clear hK K
            refine wpAnyH_ready (rs := [4]) (by kernel_rfl) (by simp) ?_
            refine AllReadyH.cons rfl (fun K hK => ?_) AllReadyH.nil
            go_simp
            refine (HI.out (.slice ax24 k1.ms.length cx24) _ (owns_reads HOx24.out Hnk1_ms.out)).mono ?_
            rintro e w58 ⟨g25, rfl, ho, hb⟩
            have HX := Lib.hid (HX.out.next hb)
            have HBb1 := Lib.hid (HBb1.out.below hb)
            have HBb10 := Lib.hid (HBb10.out.below hb)
            have HBb12 := Lib.hid (HBb12.out.below hb)
            have HBb17 := Lib.hid (HBb17.out.below hb)
            have HOg9 := Lib.hid (owns_below HOg9.out hb)
            have HOx11 := Lib.hid (owns_below HOx11.out hb)
            have HOg16 := Lib.hid (owns_below HOg16.out hb)
            have HOx24 := Lib.hid (owns_below HOx24.out hb)
            have HMid := Lib.hid (HMid.out.trans (hb.mono HMid.out.size))
            have HF := Lib.hid (HF.out.trans (hb.mono HF.out.size))
            have HA := Lib.hid (HA.out.below hb)
            have HZw58 : Hid (w57.heap.size ≤ w58.heap.size) := Lib.hid (hb.size)
            have HRg25 : Hid (∀ b, g25.ownBlock = some b → w57.heap.size ≤ b ∧ b < w58.heap.size) := Lib.hid (fun b hb => owns_block ho b hb)
            obtain ⟨ag25, cg25, hsg25, _⟩ := owns_shape ho
            subst hsg25
            have HOg25 := Lib.hid ho
            clear ho
            clear hb hHeld
            go_wp2_with fail
            refine hK.out _ _ (⟨HX.out, HX.out.c0, HX.out.c1, HBb1.out, HBb1.out.cell 0, HBb1.out.cell 1, HBb1.out.cell 2, HBb1.out.cell 3, HBb10.out, HBb10.out.cell 0, HBb10.out.cell 1, HBb10.out.cell 2, HBb10.out.cell 3, HBb12.out, HBb12.out.cell 0, HBb12.out.cell 1, HBb12.out.cell 2, HBb12.out.cell 3, HBb17.out, HBb17.out.cell 0, HBb17.out.cell 1, HBb17.out.cell 2, HBb17.out.cell 3⟩) (fun hHeld => ?_)
            clear hK K
            refine wpAnyH_take (i := 5) (oi := _) (v := ?_) rfl (by kernel_rfl) (by kernel_rfl) (by kernel_rfl) (fun _ _ _ h => h) (Or.inl ⟨by rfl, ?_⟩) (by assumption) ?_
            rotate_left
            · (intro w hSw; (try dsimp only at hSw); (first | (go_simp; done) | (go_simp; with_reducible rfl)))
            simp only [Act.put, List.getElem_toArray, List.getElem_cons_succ, List.getElem_cons_zero, List.setIfInBounds_toArray, List.set_cons_zero, List.set_cons_succ]
            refine wpAnyH_take (i := 6) (oi := _) (v := ?_) rfl (by kernel_rfl) (by kernel_rfl) (by kernel_rfl) (fun _ _ _ h => h) (Or.inl ⟨by rfl, ?_⟩) (by assumption) ?_
            rotate_left
            · (intro w hSw; (try dsimp only at hSw); (first | (go_simp; done) | (go_simp; with_reducible rfl)))
            simp only [Act.put, List.getElem_toArray, List.getElem_cons_succ, List.getElem_cons_zero, List.setIfInBounds_toArray, List.set_cons_zero, List.set_cons_succ]
            refine wpAnyH_take (i := 7) (oi := _) (v := ?_) rfl (by kernel_rfl) (by kernel_rfl) (by kernel_rfl) (fun _ _ _ h => h) (Or.inl ⟨by rfl, ?_⟩) (by assumption) ?_
            rotate_left
            · (intro w hSw; (try dsimp only at hSw); (first | (go_simp; done) | (go_simp; with_reducible rfl)))
            simp only [Act.put, List.getElem_toArray, List.getElem_cons_succ, List.getElem_cons_zero, List.setIfInBounds_toArray, List.set_cons_zero, List.set_cons_succ]
            refine wpAnyH_ready (rs := [9]) (by kernel_rfl) (by simp) ?_
            refine AllReadyH.cons rfl (fun K hK => ?_) AllReadyH.nil
            have a0 := HA.out.cell 0
            have f0 := HA.out.free 0
            have a1 := HA.out.cell 1
            have f1 := HA.out.free 1
            have a2 := HA.out.cell 2
            have f2 := HA.out.free 2
            have a3 := HA.out.cell 3
            have f3 := HA.out.free 3
            have hB4 := below_set4 w58 (w41.heap.size) w41.heap.size (by have z0 := HZw1.out; have z1 := HZw2.out; have z2 := HZw3.out; have z3 := HZadg9.out; have z4 := HZw21.out; have z5 := HZw22.out; have z6 := HZw23.out; have z7 := HZadg16.out; have z8 := HZw35.out; have z9 := HZw36.out; have z10 := HZw37.out; have z11 := HZw38.out; have z12 := HZw39.out; have z13 := HZw40.out; have z14 := HZw41.out; have z15 := HZw55.out; have z16 := HZw56.out; have z17 := HZw57.out; have z18 := HZw58.out; omega) (.int .i64 z.s) (.int .i64 z.f) (.int .i64 z.d) (.slice ag25 z.ms.length cg25)
            have HAN := Lib.hid (blk_set4 HA.out (.int .i64 z.s) (.int .i64 z.f) (.int .i64 z.d) (.slice ag25 z.ms.length cg25))
            have HON := Lib.hid (own_apart4 (b := w41.heap.size) HOg25.out (fun b h => by have l := HRg25.out b h; have z0 := HZw1.out; have z1 := HZw2.out; have z2 := HZw3.out; have z3 := HZadg9.out; have z4 := HZw21.out; have z5 := HZw22.out; have z6 := HZw23.out; have z7 := HZadg16.out; have z8 := HZw35.out; have z9 := HZw36.out; have z10 := HZw37.out; have z11 := HZw38.out; have z12 := HZw39.out; have z13 := HZw40.out; have z14 := HZw41.out; have z15 := HZw55.out; have z16 := HZw56.out; have z17 := HZw57.out; have z18 := HZw58.out; omega) (.int .i64 z.s) (.int .i64 z.f) (.int .i64 z.d) (.slice ag25 z.ms.length cg25))
            have HSN := Lib.hid (size_set4 w58 (w41.heap.size) (.int .i64 z.s) (.int .i64 z.f) (.int .i64 z.d) (.slice ag25 z.ms.length cg25))
            have HX := Lib.hid (HX.out.nextAt (m := w41.heap.size) (by have z0 := HZw1.out; have z1 := HZw2.out; have z2 := HZw3.out; have z3 := HZadg9.out; have z4 := HZw21.out; have z5 := HZw22.out; have z6 := HZw23.out; have z7 := HZadg16.out; have z8 := HZw35.out; have z9 := HZw36.out; have z10 := HZw37.out; have z11 := HZw38.out; have z12 := HZw39.out; have z13 := HZw40.out; have z14 := HZw41.out; have z15 := HZw55.out; have z16 := HZw56.out; have z17 := HZw57.out; have z18 := HZw58.out; omega) hB4)
            have HBb1 := Lib.hid (HBb1.out.belowAt (m := w41.heap.size) (by have z0 := HZw1.out; have z1 := HZw2.out; have z2 := HZw3.out; have z3 := HZadg9.out; have z4 := HZw21.out; have z5 := HZw22.out; have z6 := HZw23.out; have z7 := HZadg16.out; have z8 := HZw35.out; have z9 := HZw36.out; have z10 := HZw37.out; have z11 := HZw38.out; have z12 := HZw39.out; have z13 := HZw40.out; have z14 := HZw41.out; have z15 := HZw55.out; have z16 := HZw56.out; have z17 := HZw57.out; have z18 := HZw58.out; omega) hB4)
            have HBb10 := Lib.hid (HBb10.out.belowAt (m := w41.heap.size) (by have z0 := HZw1.out; have z1 := HZw2.out; have z2 := HZw3.out; have z3 := HZadg9.out; have z4 := HZw21.out; have z5 := HZw22.out; have z6 := HZw23.out; have z7 := HZadg16.out; have z8 := HZw35.out; have z9 := HZw36.out; have z10 := HZw37.out; have z11 := HZw38.out; have z12 := HZw39.out; have z13 := HZw40.out; have z14 := HZw41.out; have z15 := HZw55.out; have z16 := HZw56.out; have z17 := HZw57.out; have z18 := HZw58.out; omega) hB4)
            have HBb12 := Lib.hid (HBb12.out.belowAt (m := w41.heap.size) (by have z0 := HZw1.out; have z1 := HZw2.out; have z2 := HZw3.out; have z3 := HZadg9.out; have z4 := HZw21.out; have z5 := HZw22.out; have z6 := HZw23.out; have z7 := HZadg16.out; have z8 := HZw35.out; have z9 := HZw36.out; have z10 := HZw37.out; have z11 := HZw38.out; have z12 := HZw39.out; have z13 := HZw40.out; have z14 := HZw41.out; have z15 := HZw55.out; have z16 := HZw56.out; have z17 := HZw57.out; have z18 := HZw58.out; omega) hB4)
            have HBb17 := Lib.hid (HBb17.out.belowAt (m := w41.heap.size) (by have z0 := HZw1.out; have z1 := HZw2.out; have z2 := HZw3.out; have z3 := HZadg9.out; have z4 := HZw21.out; have z5 := HZw22.out; have z6 := HZw23.out; have z7 := HZadg16.out; have z8 := HZw35.out; have z9 := HZw36.out; have z10 := HZw37.out; have z11 := HZw38.out; have z12 := HZw39.out; have z13 := HZw40.out; have z14 := HZw41.out; have z15 := HZw55.out; have z16 := HZw56.out; have z17 := HZw57.out; have z18 := HZw58.out; omega) hB4)
            have HF := Lib.hid (HF.out.trans hB4)
            clear hB4 HA
            go_simp
            clear hHeld
            refine hK.out _ _ (⟨HX.out, HX.out.c0, HX.out.c1, HBb1.out, HBb1.out.cell 0, HBb1.out.cell 1, HBb1.out.cell 2, HBb1.out.cell 3, HBb10.out, HBb10.out.cell 0, HBb10.out.cell 1, HBb10.out.cell 2, HBb10.out.cell 3, HBb12.out, HBb12.out.cell 0, HBb12.out.cell 1, HBb12.out.cell 2, HBb12.out.cell 3, HBb17.out, HBb17.out.cell 0, HBb17.out.cell 1, HBb17.out.cell 2, HBb17.out.cell 3⟩) (fun hHeld => ?_)
            clear hK K a0 a1 a2 a3 f0 f1 f2 f3
            generalize (((w58.setCell ⟨w41.heap.size, 0, none⟩ (.int .i64 z.s)).setCell ⟨w41.heap.size, 1, none⟩ (.int .i64 z.f)).setCell ⟨w41.heap.size, 2, none⟩ (.int .i64 z.d)).setCell ⟨w41.heap.size, 3, none⟩ (.slice ag25 z.ms.length cg25) = w59 at *
            refine wpAnyH_take (i := 10) (oi := _) (v := ?_) rfl (by kernel_rfl) (by kernel_rfl) (by kernel_rfl) (fun _ _ _ h => h) (Or.inl ⟨by rfl, ?_⟩) (by assumption) ?_
            rotate_left
            · (intro w hSw; (try dsimp only at hSw); (first | (go_simp; done) | (go_simp; with_reducible rfl)))
            simp only [Act.put, List.getElem_toArray, List.getElem_cons_succ, List.getElem_cons_zero, List.setIfInBounds_toArray, List.set_cons_zero, List.set_cons_succ]
            refine wpAnyH_done (by kernel_rfl) ?_ _
            refine NoPanic.normal ?_
            clear hHeld
            go_wp2_with fail
            go_meet
            exact ⟨w41.heap.size, (.slice ag25 z.ms.length cg25), rfl, (by rw [HBB.out]), by have z0 := HSN.out; have y0 := HZw1.out; have y1 := HZw2.out; have y2 := HZw3.out; have y3 := HZadg9.out; have y4 := HZw21.out; have y5 := HZw22.out; have y6 := HZw23.out; have y7 := HZadg16.out; have y8 := HZw35.out; have y9 := HZw36.out; have y10 := HZw37.out; have y11 := HZw38.out; have y12 := HZw39.out; have y13 := HZw40.out; have y14 := HZw41.out; have y15 := HZw55.out; have y16 := HZw56.out; have y17 := HZw57.out; have y18 := HZw58.out; omega, HAN.out, owns_lower HON.out (by have z0 := HZw1.out; have z1 := HZw2.out; have z2 := HZw3.out; have z3 := HZadg9.out; have z4 := HZw21.out; have z5 := HZw22.out; have z6 := HZw23.out; have z7 := HZadg16.out; have z8 := HZw35.out; have z9 := HZw36.out; have z10 := HZw37.out; have z11 := HZw38.out; have z12 := HZw39.out; have z13 := HZw40.out; have z14 := HZw41.out; have z15 := HZw55.out; have z16 := HZw56.out; have z17 := HZw57.out; have z18 := HZw58.out; omega), fun b h => by have l := HRg25.out b h; have z0 := HSN.out; have y0 := HZw1.out; have y1 := HZw2.out; have y2 := HZw3.out; have y3 := HZadg9.out; have y4 := HZw21.out; have y5 := HZw22.out; have y6 := HZw23.out; have y7 := HZadg16.out; have y8 := HZw35.out; have y9 := HZw36.out; have y10 := HZw37.out; have y11 := HZw38.out; have y12 := HZw39.out; have y13 := HZw40.out; have y14 := HZw41.out; have y15 := HZw55.out; have y16 := HZw56.out; have y17 := HZw57.out; have y18 := HZw58.out; omega, HF.out⟩
        case rest =>
          generalize wc = w42 at *
          clear wc
          obtain ⟨adg26, g26, rfl, rfl, hlo, hbk, ho, hr, hb⟩ := hcut
          obtain ⟨ag26, cg26, hsg26, _⟩ := owns_shape ho
          subst hsg26
          have hbb := HBB.out
          subst hbb
          have HX := Lib.hid (HX.out.next hb)
          have HBb1 := Lib.hid (HBb1.out.below hb)
          have HBb10 := Lib.hid (HBb10.out.below hb)
          have HBb12 := Lib.hid (HBb12.out.below hb)
          have HBb17 := Lib.hid (HBb17.out.below hb)
          have HOg9 := Lib.hid (owns_below HOg9.out hb)
          have HOx11 := Lib.hid (owns_below HOx11.out hb)
          have HOg16 := Lib.hid (owns_below HOg16.out hb)
          have HMid := Lib.hid (HMid.out.trans (hb.mono HMid.out.size))
          have HZw42 : Hid (w41.heap.size ≤ w42.heap.size) := Lib.hid (hb.size)
          have HZadg26 : Hid (w41.heap.size ≤ adg26 ∧ adg26 < w42.heap.size) := Lib.hid hlo
          have HRg26 := Lib.hid hr
          have HOg26 := Lib.hid ho
          have HBb27 := Lib.hid hbk
          clear hlo hbk ho hr hb
          have hb0 := HX.out.c0
          have hb1 := HX.out.c1
          have hc_b10 := HBb1.out.cell 0
          have hc_b11 := HBb1.out.cell 1
          have hc_b12 := HBb1.out.cell 2
          have hc_b13 := HBb1.out.cell 3
          have hc_b100 := HBb10.out.cell 0
          have hc_b101 := HBb10.out.cell 1
          have hc_b102 := HBb10.out.cell 2
          have hc_b103 := HBb10.out.cell 3
          have hc_b120 := HBb12.out.cell 0
          have hc_b121 := HBb12.out.cell 1
          have hc_b122 := HBb12.out.cell 2
          have hc_b123 := HBb12.out.cell 3
          have hc_b170 := HBb17.out.cell 0
          have hc_b171 := HBb17.out.cell 1
          have hc_b172 := HBb17.out.cell 2
          have hc_b173 := HBb17.out.cell 3
          have hc_b270 := HBb27.out.cell 0
          have hc_b271 := HBb27.out.cell 1
          have hc_b272 := HBb27.out.cell 2
          have hc_b273 := HBb27.out.cell 3
          go_wp2_with fail
          refine (eqW_any z (.slice ag26 z.ms.length cg26) (.slice ag9 z.ms.length cg9) _ (owns_reads HOg26.out Hnz_ms.out) (owns_reads HOg9.out Hnz_ms.out)).mono ?_
          rintro e w60 ⟨rfl, hb⟩
          clear hb0 hb1 hc_b10 hc_b11 hc_b12 hc_b13 hc_b100 hc_b101 hc_b102 hc_b103 hc_b120 hc_b121 hc_b122 hc_b123 hc_b170 hc_b171 hc_b172 hc_b173 hc_b270 hc_b271 hc_b272 hc_b273
          have HX := Lib.hid (HX.out.next hb)
          have HBb1 := Lib.hid (HBb1.out.below hb)
          have HBb10 := Lib.hid (HBb10.out.below hb)
          have HBb12 := Lib.hid (HBb12.out.below hb)
          have HBb17 := Lib.hid (HBb17.out.below hb)
          have HBb27 := Lib.hid (HBb27.out.below hb)
          have HOg9 := Lib.hid (owns_below HOg9.out hb)
          have HOx11 := Lib.hid (owns_below HOx11.out hb)
          have HOg16 := Lib.hid (owns_below HOg16.out hb)
          have HOg26 := Lib.hid (owns_below HOg26.out hb)
          have HMid := Lib.hid (HMid.out.trans (hb.mono HMid.out.size))
          have HZw60 : Hid (w42.heap.size ≤ w60.heap.size) := Lib.hid (hb.size)
          clear hb
          have hb0 := HX.out.c0
          have hb1 := HX.out.c1
          have hc_b10 := HBb1.out.cell 0
          have hc_b11 := HBb1.out.cell 1
          have hc_b12 := HBb1.out.cell 2
          have hc_b13 := HBb1.out.cell 3
          have hc_b100 := HBb10.out.cell 0
          have hc_b101 := HBb10.out.cell 1
          have hc_b102 := HBb10.out.cell 2
          have hc_b103 := HBb10.out.cell 3
          have hc_b120 := HBb12.out.cell 0
          have hc_b121 := HBb12.out.cell 1
          have hc_b122 := HBb12.out.cell 2
          have hc_b123 := HBb12.out.cell 3
          have hc_b170 := HBb17.out.cell 0
          have hc_b171 := HBb17.out.cell 1
          have hc_b172 := HBb17.out.cell 2
          have hc_b173 := HBb17.out.cell 3
          have hc_b270 := HBb27.out.cell 0
          have hc_b271 := HBb27.out.cell 1
          have hc_b272 := HBb27.out.cell 2
          have hc_b273 := HBb27.out.cell 3
          go_wp2_with fail
          refine (heldW_any z (.slice ag16 z.ms.length cg16) z.ms.length (1) _ (owns_reads (by rw [mts_len]; exact HOg16.out) (by rw [mts_len]; exact Hnz_ms.out)) (Hbz_ms.out) (by omega)).mono ?_
          rintro e w61 ⟨rfl, hb⟩
          clear hb0 hb1 hc_b10 hc_b11 hc_b12 hc_b13 hc_b100 hc_b101 hc_b102 hc_b103 hc_b120 hc_b121 hc_b122 hc_b123 hc_b170 hc_b171 hc_b172 hc_b173 hc_b270 hc_b271 hc_b272 hc_b273
          have HX := Lib.hid (HX.out.next hb)
          have HBb1 := Lib.hid (HBb1.out.below hb)
          have HBb10 := Lib.hid (HBb10.out.below hb)
          have HBb12 := Lib.hid (HBb12.out.below hb)
          have HBb17 := Lib.hid (HBb17.out.below hb)
          have HBb27 := Lib.hid (HBb27.out.below hb)
          have HOg9 := Lib.hid (owns_below HOg9.out hb)
          have HOx11 := Lib.hid (owns_below HOx11.out hb)
          have HOg16 := Lib.hid (owns_below HOg16.out hb)
          have HOg26 := Lib.hid (owns_below HOg26.out hb)
          have HMid := Lib.hid (HMid.out.trans (hb.mono HMid.out.size))
          have HZw61 : Hid (w60.heap.size ≤ w61.heap.size) := Lib.hid (hb.size)
          clear hb
          go_wp2_with fail
          go_ret
          exact ⟨rfl, HX.out.below⟩
set_option maxHeartbeats 800000 in
theorem law_long (n : Int) (g : Bool) (k1 : Wk) (v1 : Value) (w : World) (hv1 : ReadsI w v1 k1.ms) (hlong : 1048576 < k1.ms.length) :
    Calls Try.prog 5 #[rd n g, wkv k1 v1] w fun e w' => e = .returned (.bool true) ∧ Below w.heap.size w w' := by
  have HX := Lib.hid (Boxed.first w n g 23)
  have HS1 := Lib.hid (fun l w hv (hl : l ≤ 1048576) (h : k1.ms.length ≤ l) => szW_yes k1 v1 l w hv hl h)
  have HN1 := Lib.hid (fun l w hv (hl : l ≤ 1048576) (h : l < k1.ms.length) => szW_no k1 v1 l w hv hl h)
  have HV1 := Lib.hid hv1
  obtain ⟨y1, c1, hvv1, _⟩ := hv1
  subst hvv1
  have HX := Lib.hid (HX.out.next (below_new _ (.cells #[.int .i64 k1.s, .int .i64 k1.f, .int .i64 k1.d, .slice y1 k1.ms.length c1] 26)))
  have HB1 := Lib.hid (blk_at (w.alloc (.cells #[.int .i64 n, .bool g] 23)) #[.int .i64 k1.s, .int .i64 k1.f, .int .i64 k1.d, .slice y1 k1.ms.length c1] 26 (w.heap.size + 1) (by simp))
  unfold wkv rd at *
  go_enter Try.func5, Try.ntmps5
  go_wp2_with fail
  generalize ((w.alloc (.cells #[.int .i64 n, .bool g] 23)).alloc (.cells #[.int .i64 k1.s, .int .i64 k1.f, .int .i64 k1.d, .slice y1 k1.ms.length c1] 26)) = w1 at *
  refine (HN1.out (1048576) _ (HV1.out.below HX.out.below) (by omega) (by omega)).mono ?_
  rintro e w2 ⟨rfl, hb⟩
  have HX := Lib.hid (HX.out.next hb)
  clear hb
  go_wp2_with fail
  go_ret
  exact ⟨rfl, HX.out.below⟩

theorem walk (n : Int) (g : Bool) (k1 : Wk) (v1 : Value) (w : World) (hv1 : ReadsI w v1 k1.ms) :
    Calls Try.prog 5 #[rd n g, wkv k1 v1] w fun e w' => e = .returned (.bool true) ∧ Below w.heap.size w w' := by
  by_cases h : 1048576 < k1.ms.length
  · exact law_long n g k1 v1 w hv1 h
  · skip
    have hn : k1.ms.length ≤ 1048576 := by omega
    have hlen : ((mirwR n g k1)).1.ms.length ≤ 1048576 := mirwR_len n g k1 (by omega)
    exact law_two n g k1 v1 ((mirwR n g k1)).1 ((mirwR n g k1)).2 hlen w hv1 (by omega) (fun u1 w h1 => spec_MirrorWalker n g k1 u1 w h1) (fun u1 w h1 => impl_MirrorWalker n g k1 u1 w h1)
end Go.Proofs.Ytcpembfioelnlaa.fnExactMirrorWalker
