/-
  What is proved: what a relay is asked: l7Asks, the steps of a leg, and whether a carrier makes them. Conditions: lists that read as carriers.
-/
import Derived.Test.YtekahkeddpngpaaRlj
import Derived.Test.YtekahkeddpngpaaRlc
namespace Go.Proofs.Ytekahkeddpngpaa
open Go.RowKit
set_option linter.unusedVariables false
set_option linter.unusedSimpArgs false

theorem ask_ok {n : Int} {g : Bool} {cs : List Cr} {a b : Int} (h : askB n g cs a b = true) : g = false ∧ WkL n cs ∧ 0 ≤ a ∧ a ≤ b ∧ b < n := by
  have h1 := (askB_iff n g cs a b).1 h
  exact ⟨(csB_line h1.1).1, csB_wk h1.1, h1.2⟩
set_option maxHeartbeats 800000 in
theorem l7Asks_any (n : Int) (g : Bool) (v : Value) (cs : List Cr) (a b : Int) (w : World) (hv : ReadsC w v cs) :
    Calls Try.prog 39 #[rd n g, v, .int .i64 a, .int .i64 b] w fun e w' => e = .returned (.bool (askB n g cs a b)) ∧ Below w.heap.size w w' := by
  have HC := Lib.hid (fun w hv => l7Carriers_any n g v cs w hv)
  have HP := Lib.hid (fun w => l2Place_any n g b w)
  have HI := Lib.hid (fun w => inB_any a 0 b w)
  have HQ := Lib.hid (askB_iff n g cs a b)
  have H1 := Lib.hid hv
  have HX := Lib.hid (Boxed.first w n g 27)
  clear hv
  unfold rd at *
  go_enter Try.func39, Try.ntmps39
  go_wp2_with fail
  refine (HC.out _ (H1.out.below HX.out.below)).mono ?_
  rintro e w1 ⟨rfl, hb⟩
  replace HX := Lib.hid (HX.out.next hb)
  clear hb
  have h0 := HX.out.c0
  have h1 := HX.out.c1
  cases hc : csB n g cs
  · have HR := Lib.hid (askB_no (a := a) (b := b) (fun h => by rw [hc] at h; cases h.1))
    go_wp2_with fail
    go_ret
    exact ⟨ret_bool HR.out.symm, HX.out.below⟩
  · have HCS := Lib.hid hc
    have HRO := Lib.hid (csB_line hc).2
    clear hc
    go_wp2_with fail
    refine (HP.out _).mono ?_
    rintro e w2 ⟨rfl, hb⟩
    replace HX := Lib.hid (HX.out.next hb)
    clear hb h0 h1
    cases hp : placeB n g b
    · have HR := Lib.hid (fun (h0 : 0 ≤ a ∧ a ≤ b) => askB_no (n := n) (g := g) (cs := cs) (a := a) (b := b) (fun h => by
        rw [(placeB_iff n g b).2 ⟨HRO.out, by omega, h.2.2.2⟩] at hp
        cases hp))
      have HR2 := Lib.hid (fun (h0 : ¬ (0 ≤ a ∧ a ≤ b)) => askB_no (n := n) (g := g) (cs := cs) (a := a) (b := b) (fun h => h0 ⟨h.2.1, h.2.2.1⟩))
      have HF := Lib.hid (show askB n g cs a b = false from by by_cases h : 0 ≤ a ∧ a ≤ b; exact HR.out h; exact HR2.out h)
      clear hp
      go_wp2_with fail
      go_ret
      exact ⟨ret_bool HF.out.symm, HX.out.below⟩
    · have HPL := Lib.hid ((placeB_iff n g b).1 hp).2
      clear hp
      have HF := Lib.hid (show inB 0 b a = askB n g cs a b by
        rw [Bool.eq_iff_iff, inB_iff, HQ.out]
        exact ⟨fun h => ⟨HCS.out, h.1, h.2, HPL.out.2⟩, fun h => ⟨h.2.1, h.2.2.1⟩⟩)
      go_wp2_with fail
      refine (HI.out _).mono ?_
      rintro e w3 ⟨rfl, rfl⟩
      go_wp2_with fail
      go_ret
      exact ⟨ret_bool HF.out, HX.out.below⟩
set_option maxHeartbeats 800000 in
theorem l7Steps_any (n : Int) (c : Cr) (x y : Int) (w : World) (h : CrWk n c) (hx : 0 ≤ x ∧ x < n) (hy : 0 ≤ y ∧ y < n) :
    Calls Try.prog 69 #[rd n false, crv c, .int .i64 x, .int .i64 y] w fun e w' => e = .returned (.int .i64 (stpI c x y)) ∧ Below w.heap.size w w' := by
  have HG := Lib.hid (fun w => (by have := l2Gap_any n false c.s x w ⟨by have := h.n2; omega, h.n24⟩ ⟨h.s0, by have := h.sn; omega⟩ ⟨hx.1, by omega⟩; rwa [gap_app] at this : Calls Try.prog 82 #[rd n false, .int .i64 c.s, .int .i64 x] w fun e w' => e = .returned (.int .i64 (appI c x)) ∧ Below w.heap.size w w'))
  have hap := appI_range (c := c) ⟨h.s0, h.sn⟩ hx
  have HX := Lib.hid ((Boxed.first w n false 27).next (below_new _ (.cells (crc c) 60)))
  have HE := Lib.hid (show stpI c x y = appI c x + y - x from rfl)
  have hn := h.n24
  have HB := Lib.hid (blk_at (w.alloc (.cells #[.int .i64 n, .bool false] 27)) (crc c) 60 (w.heap.size + 1) (by simp))
  unfold crv crc rd at *
  generalize appI c x = ap at *
  have w1 : IntKind.i64.wrap (ap + y) = ap + y := IntWalk.i64_in _ (by omega)
  have w2 : IntKind.i64.wrap (ap + y - x) = ap + y - x := IntWalk.i64_in _ (by omega)
  go_enter Try.func69, Try.ntmps69
  go_wp2_with fail
  refine (HG.out _).mono ?_
  rintro e w3 ⟨rfl, hb⟩
  replace HX := Lib.hid (HX.out.next hb)
  clear hb
  go_wp2_with fail
  go_ret
  exact ⟨ret_int HE.out.symm, HX.out.below⟩
set_option maxHeartbeats 800000 in
theorem stepsC_any (n : Int) (c : Cr) (x y : Int) (w : World) (h : CrWk n c) (hx : 0 ≤ x ∧ x < n) (hy : 0 ≤ y ∧ y < n) :
    Calls Try.prog 133 #[crv c, .int .i64 x, .int .i64 y] w fun e w' => e = .returned (.int .i64 (stpI c x y)) ∧ Below w.heap.size w w' := by
  have HA := Lib.hid (fun w => approach_any c x w ⟨h.s0, by have := h.sn; have := h.n24; omega⟩ ⟨hx.1, by have := h.n24; omega⟩)
  have hap := appI_range (c := c) ⟨h.s0, h.sn⟩ hx
  have HW := Lib.hid (below_new w (.cells (crc c) 60))
  have HE := Lib.hid (show stpI c x y = appI c x + y - x from rfl)
  have hn := h.n24
  unfold crv crc at *
  generalize appI c x = ap at *
  have w1 : IntKind.i64.wrap (ap + y) = ap + y := IntWalk.i64_in _ (by omega)
  have w2 : IntKind.i64.wrap (ap + y - x) = ap + y - x := IntWalk.i64_in _ (by omega)
  go_enter Try.func133, Try.ntmps133
  go_wp2_with fail
  refine (HA.out _).mono ?_
  rintro e w3 ⟨rfl, hb⟩
  replace HW := Lib.hid (HW.out.trans (hb.mono HW.out.size))
  clear hb
  go_wp2_with fail
  go_ret
  exact ⟨ret_int HE.out.symm, HW.out⟩
set_option maxHeartbeats 800000 in
set_option maxRecDepth 20000 in
theorem brings_any (n : Int) (c : Cr) (x y : Int) (w : World) (h : CrWk n c) (hx : 0 ≤ x ∧ x < n) (hy : 0 ≤ y ∧ y < n) :
    Calls Try.prog 132 #[crv c, .int .i64 x, .int .i64 y] w fun e w' => e = .returned (.bool (decide (stpI c x y ≤ c.r))) ∧ Below w.heap.size w w' := by
  have HS := Lib.hid (fun w => stepsC_any n c x y w h hx hy)
  have HW := Lib.hid (below_new w (.cells (crc c) 60))
  have HB := Lib.hid (blk_new w (crc c) 60)
  unfold crv crc at *
  go_enter Try.func132, Try.ntmps132
  go_wp2_with fail
  refine wp_region_noPanic ?_
  have HW := Lib.hid (HW.out.trans ((below_drewN _ 1).mono HW.out.size))
  have HB := Lib.hid (HB.out.below (below_drewN _ 1))
  refine wp_region_held_drew (S := fun w' => (Below w.heap.size w w' ∧ Blk w' w.heap.size #[.int .i64 c.s, .int .i64 c.r, .int .i64 c.f] 60) ∧ w'.cell? ⟨w.heap.size, 0, none⟩ = some (.int .i64 c.s) ∧ w'.cell? ⟨w.heap.size, 1, none⟩ = some (.int .i64 c.r) ∧ w'.cell? ⟨w.heap.size, 2, none⟩ = some (.int .i64 c.f)) (by kernel_rfl) (⟨⟨HW.out, HB.out⟩, HB.out.cell 0, HB.out.cell 1, HB.out.cell 2⟩) (fun hHeld => ?_)
  refine wpAnyH_take (i := 0) (oi := _) (v := ?_) rfl (by kernel_rfl) (by kernel_rfl) (by kernel_rfl) (fun _ _ _ h => h) (Or.inl ⟨by rfl, ?_⟩) (by assumption) ?_
  rotate_left
  · (intro w hSw; (try dsimp only at hSw); (first | (go_simp; done) | (go_simp; with_reducible rfl)))
  simp only [Act.put, List.getElem_toArray, List.getElem_cons_succ, List.getElem_cons_zero, List.setIfInBounds_toArray, List.set_cons_zero, List.set_cons_succ]
  refine wpAnyH_take (i := 1) (oi := _) (v := ?_) rfl (by kernel_rfl) (by kernel_rfl) (by kernel_rfl) (fun _ _ _ h => h) (Or.inl ⟨by rfl, ?_⟩) (by assumption) ?_
  rotate_left
  · (intro w hSw; (try dsimp only at hSw); (first | (go_simp; done) | (go_simp; with_reducible rfl)))
  simp only [Act.put, List.getElem_toArray, List.getElem_cons_succ, List.getElem_cons_zero, List.setIfInBounds_toArray, List.set_cons_zero, List.set_cons_succ]
  refine wpAnyH_take (i := 2) (oi := _) (v := ?_) rfl (by kernel_rfl) (by kernel_rfl) (by kernel_rfl) (fun _ _ _ h => h) (Or.inl ⟨by rfl, ?_⟩) (by assumption) ?_
  rotate_left
  · (intro w hSw; (try dsimp only at hSw); (first | (go_simp; done) | (go_simp; with_reducible rfl)))
  simp only [Act.put, List.getElem_toArray, List.getElem_cons_succ, List.getElem_cons_zero, List.setIfInBounds_toArray, List.set_cons_zero, List.set_cons_succ]
  refine wpAnyH_take (i := 4) (oi := _) (v := ?_) rfl (by kernel_rfl) (by kernel_rfl) (by kernel_rfl) (fun _ _ _ h => h) (Or.inl ⟨by rfl, ?_⟩) (by assumption) ?_
  rotate_left
  · (intro w hSw; (try dsimp only at hSw); (first | (go_simp; done) | (go_simp; with_reducible rfl)))
  simp only [Act.put, List.getElem_toArray, List.getElem_cons_succ, List.getElem_cons_zero, List.setIfInBounds_toArray, List.set_cons_zero, List.set_cons_succ]
  refine wpAnyH_take (i := 5) (oi := _) (v := ?_) rfl (by kernel_rfl) (by kernel_rfl) (by kernel_rfl) (fun _ _ _ h => h) (Or.inl ⟨by rfl, ?_⟩) (by assumption) ?_
  rotate_left
  · (intro w hSw; (try dsimp only at hSw); (first | (go_simp; done) | (go_simp; with_reducible rfl)))
  simp only [Act.put, List.getElem_toArray, List.getElem_cons_succ, List.getElem_cons_zero, List.setIfInBounds_toArray, List.set_cons_zero, List.set_cons_succ]
  refine wpAnyH_ready (rs := [3]) (by kernel_rfl) (by simp) ?_
  refine AllReadyH.cons rfl (fun K hK => ?_) AllReadyH.nil
  go_simp
  refine (HS.out _).mono ?_
  rintro e w21 ⟨rfl, hb⟩
  have HW := Lib.hid (HW.out.trans (hb.mono HW.out.size))
  have HB := Lib.hid (HB.out.below hb)
  clear hb
  clear hHeld
  try go_wp2_with fail
  refine hK.out _ _ (⟨⟨HW.out, HB.out⟩, HB.out.cell 0, HB.out.cell 1, HB.out.cell 2⟩) (fun hHeld => ?_)
  clear hK K
  refine wpAnyH_take (i := 6) (oi := _) (v := ?_) rfl (by kernel_rfl) (by kernel_rfl) (by kernel_rfl) (fun _ _ _ h => h) (Or.inl ⟨by rfl, ?_⟩) (by assumption) ?_
  rotate_left
  · (intro w hSw; (try dsimp only at hSw); (first | (go_simp; done) | (go_simp; with_reducible rfl)))
  simp only [Act.put, List.getElem_toArray, List.getElem_cons_succ, List.getElem_cons_zero, List.setIfInBounds_toArray, List.set_cons_zero, List.set_cons_succ]
  refine wpAnyH_take (i := 7) (oi := _) (v := ?_) rfl (by kernel_rfl) (by kernel_rfl) (by kernel_rfl) (fun _ _ _ h => h) (Or.inl ⟨by rfl, ?_⟩) (by assumption) ?_
  rotate_left
  · (intro w hSw; (try dsimp only at hSw); (first | (go_simp; done) | (go_simp; with_reducible rfl)))
  simp only [Act.put, List.getElem_toArray, List.getElem_cons_succ, List.getElem_cons_zero, List.setIfInBounds_toArray, List.set_cons_zero, List.set_cons_succ]
  refine wpAnyH_done (by kernel_rfl) ?_ _
  refine NoPanic.normal ?_
  clear hHeld
  go_wp2_with fail
  go_ret
  exact ⟨rfl, HW.out⟩
end Go.Proofs.Ytekahkeddpngpaa
