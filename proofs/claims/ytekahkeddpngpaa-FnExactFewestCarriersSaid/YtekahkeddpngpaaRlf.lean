/-
  What is proved: how far a carrier brings the parcel, and LegEnd, of the model and of the program. Conditions: carriers and places on a line.
-/
import Derived.Test.YtekahkeddpngpaaRle
namespace Go.Proofs.Ytekahkeddpngpaa
open Go.RowKit
set_option linter.unusedVariables false
set_option linter.unusedSimpArgs false

theorem gap_app (n : Int) (c : Cr) (x : Int) : gapI n false c.s x = appI c x := by
  simp [gapI, appI]
set_option maxHeartbeats 800000 in
set_option maxRecDepth 20000 in
theorem l7End_any (n : Int) (c : Cr) (x : Int) (w : World) (h : CrWk n c) (hx : 0 ≤ x ∧ x < n) :
    Calls Try.prog 67 #[rd n false, crv c, .int .i64 x] w fun e w' => e = .returned (.int .i64 (endM n c x)) ∧ Below w.heap.size w w' := by
  have HG := Lib.hid (fun w => (by have := l2Gap_any n false c.s x w ⟨by have := h.n2; omega, h.n24⟩ ⟨h.s0, by have := h.sn; omega⟩ ⟨hx.1, by omega⟩; rwa [gap_app] at this : Calls Try.prog 82 #[rd n false, .int .i64 c.s, .int .i64 x] w fun e w' => e = .returned (.int .i64 (appI c x)) ∧ Below w.heap.size w w'))
  have HL := Lib.hid (fun a b w => l1Least_any a b w)
  have hap := appI_range (c := c) ⟨h.s0, h.sn⟩ hx
  have HX := Lib.hid ((Boxed.first w n false 27).next (below_new _ (.cells (crc c) 60)))
  have HB := Lib.hid (blk_at (w.alloc (.cells #[.int .i64 n, .bool false] 27)) (crc c) 60 (w.heap.size + 1) (by simp))
  have HE := Lib.hid (show endM n c x = if c.r - appI c x < 0 then -1 else min (n - 1) (x + (c.r - appI c x)) from rfl)
  obtain ⟨hn2, hn24, hs0, hsn, hr0, hr96⟩ := h
  unfold crv crc rd at *
  generalize appI c x = ap at *
  go_enter Try.func67, Try.ntmps67
  go_wp2_with fail
  refine wp_region_noPanic ?_
  have HX := Lib.hid (HX.out.next (below_drewN _ 1))
  have HB := Lib.hid (HB.out.below (below_drewN _ 1))
  refine wp_region_held_drew (S := fun w' => (Boxed w.heap.size n false w w' ∧ Blk w' (w.heap.size + 1) #[.int .i64 c.s, .int .i64 c.r, .int .i64 c.f] 60) ∧ w'.cell? ⟨w.heap.size, 0, none⟩ = some (.int .i64 n) ∧ w'.cell? ⟨w.heap.size, 1, none⟩ = some (.bool false) ∧ w'.cell? ⟨w.heap.size + 1, 0, none⟩ = some (.int .i64 c.s) ∧ w'.cell? ⟨w.heap.size + 1, 1, none⟩ = some (.int .i64 c.r)) (by kernel_rfl) (⟨⟨HX.out, HB.out⟩, HX.out.c0, HX.out.c1, HB.out.cell 0, HB.out.cell 1⟩) (fun hHeld => ?_)
  refine wpAnyH_take (i := 0) (oi := _) (v := ?_) rfl (by kernel_rfl) (by kernel_rfl) (by kernel_rfl) (fun _ _ _ h => h) (Or.inl ⟨by rfl, ?_⟩) (by assumption) ?_
  rotate_left
  · (intro w hSw; (try dsimp only at hSw); (first | (go_simp; done) | (go_simp; with_reducible rfl)))
  simp only [Act.put, List.getElem_toArray, List.getElem_cons_succ, List.getElem_cons_zero, List.setIfInBounds_toArray, List.set_cons_zero, List.set_cons_succ]
  refine wpAnyH_take (i := 1) (oi := _) (v := ?_) rfl (by kernel_rfl) (by kernel_rfl) (by kernel_rfl) (fun _ _ _ h => h) (Or.inl ⟨by rfl, ?_⟩) (by assumption) ?_
  rotate_left
  · (intro w hSw; (try dsimp only at hSw); (first | (go_simp; done) | (go_simp; with_reducible rfl)))
  simp only [Act.put, List.getElem_toArray, List.getElem_cons_succ, List.getElem_cons_zero, List.setIfInBounds_toArray, List.set_cons_zero, List.set_cons_succ]
  refine wpAnyH_take (i := 2) (oi := _) (v := ?_) rfl (by kernel_rfl) (by kernel_rfl) (by kernel_rfl) (fun _ _ _ h => h) (Or.inl ⟨by rfl, ?_⟩) (by assumption) ?_
  rotate_left
  · (intro w hSw; (try dsimp only at hSw); (first | (go_simp; done) | (go_simp; with_reducible rfl)))
  simp only [Act.put, List.getElem_toArray, List.getElem_cons_succ, List.getElem_cons_zero, List.setIfInBounds_toArray, List.set_cons_zero, List.set_cons_succ]
  refine wpAnyH_take (i := 3) (oi := _) (v := ?_) rfl (by kernel_rfl) (by kernel_rfl) (by kernel_rfl) (fun _ _ _ h => h) (Or.inl ⟨by rfl, ?_⟩) (by assumption) ?_
  rotate_left
  · (intro w hSw; (try dsimp only at hSw); (first | (go_simp; done) | (go_simp; with_reducible rfl)))
  simp only [Act.put, List.getElem_toArray, List.getElem_cons_succ, List.getElem_cons_zero, List.setIfInBounds_toArray, List.set_cons_zero, List.set_cons_succ]
  refine wpAnyH_take (i := 4) (oi := _) (v := ?_) rfl (by kernel_rfl) (by kernel_rfl) (by kernel_rfl) (fun _ _ _ h => h) (Or.inl ⟨by rfl, ?_⟩) (by assumption) ?_
  rotate_left
  · (intro w hSw; (try dsimp only at hSw); (first | (go_simp; done) | (go_simp; with_reducible rfl)))
  simp only [Act.put, List.getElem_toArray, List.getElem_cons_succ, List.getElem_cons_zero, List.setIfInBounds_toArray, List.set_cons_zero, List.set_cons_succ]
  refine wpAnyH_take (i := 5) (oi := _) (v := ?_) rfl (by kernel_rfl) (by kernel_rfl) (by kernel_rfl) (fun _ _ _ h => h) (Or.inl ⟨by rfl, ?_⟩) (by assumption) ?_
  rotate_left
  · (intro w hSw; (try dsimp only at hSw); (first | (go_simp; done) | (go_simp; with_reducible rfl)))
  simp only [Act.put, List.getElem_toArray, List.getElem_cons_succ, List.getElem_cons_zero, List.setIfInBounds_toArray, List.set_cons_zero, List.set_cons_succ]
  refine wpAnyH_ready (rs := [6]) (by kernel_rfl) (by simp) ?_
  refine AllReadyH.cons rfl (fun K hK => ?_) AllReadyH.nil
  go_simp
  refine (HG.out _).mono ?_
  rintro e w21 ⟨rfl, hb⟩
  have HX := Lib.hid (HX.out.next hb)
  have HB := Lib.hid (HB.out.below hb)
  clear hb
  clear hHeld
  try go_wp2_with fail
  refine hK.out _ _ (⟨⟨HX.out, HB.out⟩, HX.out.c0, HX.out.c1, HB.out.cell 0, HB.out.cell 1⟩) (fun hHeld => ?_)
  clear hK K
  refine wpAnyH_take (i := 7) (oi := _) (v := ?_) rfl (by kernel_rfl) (by kernel_rfl) (by kernel_rfl) (fun _ _ _ h => h) (Or.inl ⟨by rfl, ?_⟩) (by assumption) ?_
  rotate_left
  · (intro w hSw; (try dsimp only at hSw); (first | (go_simp; done) | (go_simp; with_reducible rfl)))
  simp only [Act.put, List.getElem_toArray, List.getElem_cons_succ, List.getElem_cons_zero, List.setIfInBounds_toArray, List.set_cons_zero, List.set_cons_succ]
  refine wpAnyH_take (i := 8) (oi := _) (v := ?_) rfl (by kernel_rfl) (by kernel_rfl) (by kernel_rfl) (fun _ _ _ h => h) (Or.inl ⟨by rfl, ?_⟩) (by assumption) ?_
  rotate_left
  · (intro w hSw; (try dsimp only at hSw); (first | (go_simp; done) | (go_simp; with_reducible rfl)))
  simp only [Act.put, List.getElem_toArray, List.getElem_cons_succ, List.getElem_cons_zero, List.setIfInBounds_toArray, List.set_cons_zero, List.set_cons_succ]
  refine wpAnyH_done (by kernel_rfl) ?_ _
  refine NoPanic.normal ?_
  clear hHeld
  have h0 := HX.out.c0
  by_cases hl : c.r - ap < 0
  · have HV := Lib.hid (HE.out.trans (if_pos hl))
    go_wp2_with fail
    go_ret
    exact ⟨ret_int HV.out.symm, HX.out.below⟩
  · have HV := Lib.hid (HE.out.trans (if_neg hl))
    go_wp2_with fail
    refine (HL.out _ _ _).mono ?_
    rintro e w2 ⟨rfl, rfl⟩
    go_wp2_with fail
    go_ret
    exact ⟨ret_int HV.out.symm, HX.out.below⟩
theorem approach_any (c : Cr) (x : Int) (w : World) (h : 0 ≤ c.s ∧ c.s ≤ 24) (hx : 0 ≤ x ∧ x ≤ 24) :
    Calls Try.prog 115 #[crv c, .int .i64 x] w fun e w' => e = .returned (.int .i64 (appI c x)) ∧ Below w.heap.size w w' := by
  have h1 : IntKind.i64.wrap (c.s - x) = c.s - x := IntWalk.i64_in _ (by omega)
  have h2 : IntKind.i64.wrap (x - c.s) = x - c.s := IntWalk.i64_in _ (by omega)
  unfold crv appI
  rcases Int.lt_trichotomy (c.s - x) (x - c.s) with hlt | heq | hgt
  · go_enter Try.func115, Try.ntmps115
    go_wp2
    go_ret
    exact ⟨ret_int (by omega), below_new w _⟩
  · go_enter Try.func115, Try.ntmps115
    go_wp2
    go_ret
    exact ⟨ret_int (by omega), below_new w _⟩
  · go_enter Try.func115, Try.ntmps115
    go_wp2
    go_ret
    exact ⟨ret_int (by omega), below_new w _⟩
set_option maxHeartbeats 800000 in
set_option maxRecDepth 20000 in
theorem endC_any (n : Int) (g : Bool) (c : Cr) (x : Int) (w : World) (h : CrWk n c) (hx : 0 ≤ x ∧ x < n) :
    Calls Try.prog 108 #[crv c, rd n g, .int .i64 x] w fun e w' => e = .returned (.int .i64 (endI n c x)) ∧ Below w.heap.size w w' := by
  have HA := Lib.hid (fun w => approach_any c x w ⟨h.s0, by have := h.sn; have := h.n24; omega⟩ ⟨hx.1, by have := h.n24; omega⟩)
  have hap := appI_range (c := c) ⟨h.s0, h.sn⟩ hx
  have HX := Lib.hid ((below_new w (.cells (crc c) 60)).trans ((below_new _ (.cells #[.int .i64 n, .bool g] 27)).mono (by simp)))
  have HB := Lib.hid ((blk_new w (crc c) 60).below (below_new _ (.cells #[.int .i64 n, .bool g] 27)))
  have HR := Lib.hid (blk_at (w.alloc (.cells (crc c) 60)) #[.int .i64 n, .bool g] 27 (w.heap.size + 1) (by simp))
  have HE := Lib.hid (show endI n c x = min (x + c.r - appI c x) (n - 1) from rfl)
  obtain ⟨hn2, hn24, hs0, hsn, hr0, hr96⟩ := h
  unfold crv crc rd at *
  generalize appI c x = ap at *
  have w1 : IntKind.i64.wrap (x + c.r) = x + c.r := IntWalk.i64_in _ (by omega)
  have w2 : IntKind.i64.wrap (x + c.r - ap) = x + c.r - ap := IntWalk.i64_in _ (by omega)
  have w3 : IntKind.i64.wrap (n - 1) = n - 1 := IntWalk.i64_in _ (by omega)
  go_enter Try.func108, Try.ntmps108
  go_wp2_with fail
  refine wp_region_noPanic ?_
  have HX := Lib.hid (HX.out.trans ((below_drewN _ 1).mono HX.out.size))
  have HB := Lib.hid (HB.out.below (below_drewN _ 1))
  have HR := Lib.hid (HR.out.below (below_drewN _ 1))
  refine wp_region_held_drew (S := fun w' => (Below w.heap.size w w' ∧ Blk w' w.heap.size #[.int .i64 c.s, .int .i64 c.r, .int .i64 c.f] 60 ∧ Blk w' (w.heap.size + 1) #[.int .i64 n, .bool g] 27) ∧ w'.cell? ⟨w.heap.size, 0, none⟩ = some (.int .i64 c.s) ∧ w'.cell? ⟨w.heap.size, 1, none⟩ = some (.int .i64 c.r) ∧ w'.cell? ⟨w.heap.size, 2, none⟩ = some (.int .i64 c.f) ∧ w'.cell? ⟨w.heap.size + 1, 0, none⟩ = some (.int .i64 n)) (by kernel_rfl) (⟨⟨HX.out, HB.out, HR.out⟩, HB.out.cell 0, HB.out.cell 1, HB.out.cell 2, HR.out.cell 0⟩) (fun hHeld => ?_)
  refine wpAnyH_take (i := 0) (oi := _) (v := ?_) rfl (by kernel_rfl) (by kernel_rfl) (by kernel_rfl) (fun _ _ _ h => h) (Or.inl ⟨by rfl, ?_⟩) (by assumption) ?_
  rotate_left
  · (intro w hSw; (try dsimp only at hSw); (first | (go_simp; done) | (go_simp; with_reducible rfl)))
  simp only [Act.put, List.getElem_toArray, List.getElem_cons_succ, List.getElem_cons_zero, List.setIfInBounds_toArray, List.set_cons_zero, List.set_cons_succ]
  refine wpAnyH_take (i := 1) (oi := _) (v := ?_) rfl (by kernel_rfl) (by kernel_rfl) (by kernel_rfl) (fun _ _ _ h => h) (Or.inl ⟨by rfl, ?_⟩) (by assumption) ?_
  rotate_left
  · (intro w hSw; (try dsimp only at hSw); (first | (go_simp; done) | (go_simp; with_reducible rfl)))
  simp only [Act.put, List.getElem_toArray, List.getElem_cons_succ, List.getElem_cons_zero, List.setIfInBounds_toArray, List.set_cons_zero, List.set_cons_succ]
  refine wpAnyH_take (i := 2) (oi := _) (v := ?_) rfl (by kernel_rfl) (by kernel_rfl) (by kernel_rfl) (fun _ _ _ h => h) (Or.inl ⟨by rfl, ?_⟩) (by assumption) ?_
  rotate_left
  · (intro w hSw; (try dsimp only at hSw); (first | (go_simp; done) | (go_simp; with_reducible rfl)))
  simp only [Act.put, List.getElem_toArray, List.getElem_cons_succ, List.getElem_cons_zero, List.setIfInBounds_toArray, List.set_cons_zero, List.set_cons_succ]
  refine wpAnyH_take (i := 3) (oi := _) (v := ?_) rfl (by kernel_rfl) (by kernel_rfl) (by kernel_rfl) (fun _ _ _ h => h) (Or.inl ⟨by rfl, ?_⟩) (by assumption) ?_
  rotate_left
  · (intro w hSw; (try dsimp only at hSw); (first | (go_simp; done) | (go_simp; with_reducible rfl)))
  simp only [Act.put, List.getElem_toArray, List.getElem_cons_succ, List.getElem_cons_zero, List.setIfInBounds_toArray, List.set_cons_zero, List.set_cons_succ]
  refine wpAnyH_take (i := 4) (oi := _) (v := ?_) rfl (by kernel_rfl) (by kernel_rfl) (by kernel_rfl) (fun _ _ _ h => h) (Or.inl ⟨by rfl, ?_⟩) (by assumption) ?_
  rotate_left
  · (intro w hSw; (try dsimp only at hSw); (first | (go_simp; done) | (go_simp; with_reducible rfl)))
  simp only [Act.put, List.getElem_toArray, List.getElem_cons_succ, List.getElem_cons_zero, List.setIfInBounds_toArray, List.set_cons_zero, List.set_cons_succ]
  refine wpAnyH_take (i := 5) (oi := _) (v := ?_) rfl (by kernel_rfl) (by kernel_rfl) (by kernel_rfl) (fun _ _ _ h => h) (Or.inl ⟨by rfl, ?_⟩) (by assumption) ?_
  rotate_left
  · (intro w hSw; (try dsimp only at hSw); (first | (go_simp; done) | (go_simp; with_reducible rfl)))
  simp only [Act.put, List.getElem_toArray, List.getElem_cons_succ, List.getElem_cons_zero, List.setIfInBounds_toArray, List.set_cons_zero, List.set_cons_succ]
  refine wpAnyH_take (i := 8) (oi := _) (v := ?_) rfl (by kernel_rfl) (by kernel_rfl) (by kernel_rfl) (fun _ _ _ h => h) (Or.inl ⟨by rfl, ?_⟩) (by assumption) ?_
  rotate_left
  · (intro w hSw; (try dsimp only at hSw); (first | (go_simp; done) | (go_simp; with_reducible rfl)))
  simp only [Act.put, List.getElem_toArray, List.getElem_cons_succ, List.getElem_cons_zero, List.setIfInBounds_toArray, List.set_cons_zero, List.set_cons_succ]
  refine wpAnyH_take (i := 9) (oi := _) (v := ?_) rfl (by kernel_rfl) (by kernel_rfl) (by kernel_rfl) (fun _ _ _ h => h) (Or.inl ⟨by rfl, ?_⟩) (by assumption) ?_
  rotate_left
  · (intro w hSw; (try dsimp only at hSw); (first | (go_simp; done) | (go_simp; with_reducible rfl)))
  simp only [Act.put, List.getElem_toArray, List.getElem_cons_succ, List.getElem_cons_zero, List.setIfInBounds_toArray, List.set_cons_zero, List.set_cons_succ]
  refine wpAnyH_take (i := 10) (oi := _) (v := ?_) rfl (by kernel_rfl) (by kernel_rfl) (by kernel_rfl) (fun _ _ _ h => h) (Or.inl ⟨by rfl, ?_⟩) (by assumption) ?_
  rotate_left
  · (intro w hSw; (try dsimp only at hSw); (first | (go_simp; done) | (go_simp; with_reducible rfl)))
  simp only [Act.put, List.getElem_toArray, List.getElem_cons_succ, List.getElem_cons_zero, List.setIfInBounds_toArray, List.set_cons_zero, List.set_cons_succ]
  refine wpAnyH_ready (rs := [6]) (by kernel_rfl) (by simp) ?_
  refine AllReadyH.cons rfl (fun K hK => ?_) AllReadyH.nil
  go_simp
  refine (HA.out _).mono ?_
  rintro e w21 ⟨rfl, hb⟩
  have HX := Lib.hid (HX.out.trans (hb.mono HX.out.size))
  have HB := Lib.hid (HB.out.below hb)
  have HR := Lib.hid (HR.out.below hb)
  clear hb
  clear hHeld
  try go_wp2_with fail
  refine hK.out _ _ (⟨⟨HX.out, HB.out, HR.out⟩, HB.out.cell 0, HB.out.cell 1, HB.out.cell 2, HR.out.cell 0⟩) (fun hHeld => ?_)
  clear hK K
  refine wpAnyH_take (i := 7) (oi := _) (v := ?_) rfl (by kernel_rfl) (by kernel_rfl) (by kernel_rfl) (fun _ _ _ h => h) (Or.inl ⟨by rfl, ?_⟩) (by assumption) ?_
  rotate_left
  · (intro w hSw; (try dsimp only at hSw); (first | (go_simp; done) | (go_simp; with_reducible rfl)))
  simp only [Act.put, List.getElem_toArray, List.getElem_cons_succ, List.getElem_cons_zero, List.setIfInBounds_toArray, List.set_cons_zero, List.set_cons_succ]
  refine wpAnyH_take (i := 11) (oi := _) (v := ?_) rfl (by kernel_rfl) (by kernel_rfl) (by kernel_rfl) (fun _ _ _ h => h) (Or.inl ⟨by rfl, ?_⟩) (by assumption) ?_
  rotate_left
  · (intro w hSw; (try dsimp only at hSw); (first | (go_simp; done) | (go_simp; with_reducible rfl)))
  simp only [Act.put, List.getElem_toArray, List.getElem_cons_succ, List.getElem_cons_zero, List.setIfInBounds_toArray, List.set_cons_zero, List.set_cons_succ]
  refine wpAnyH_take (i := 12) (oi := _) (v := ?_) rfl (by kernel_rfl) (by kernel_rfl) (by kernel_rfl) (fun _ _ _ h => h) (Or.inl ⟨by rfl, ?_⟩) (by assumption) ?_
  rotate_left
  · (intro w hSw; (try dsimp only at hSw); (first | (go_simp; done) | (go_simp; with_reducible rfl)))
  simp only [Act.put, List.getElem_toArray, List.getElem_cons_succ, List.getElem_cons_zero, List.setIfInBounds_toArray, List.set_cons_zero, List.set_cons_succ]
  refine wpAnyH_done (by kernel_rfl) ?_ _
  refine NoPanic.normal ?_
  clear hHeld
  go_wp2_with fail
  all_goals
    go_ret
    exact ⟨ret_int (by rw [HE.out]; omega), HX.out⟩
end Go.Proofs.Ytekahkeddpngpaa
