/-
  What is proved: the counts of a relay, of the program. Conditions: lists that read as carriers and as legs.
-/
import Derived.Test.YtgchodielkodeaaRlp
namespace Go.Proofs.Ytgchodielkodeaa
open Go.RowKit
set_option linter.unusedVariables false
set_option linter.unusedSimpArgs false

set_option maxHeartbeats 800000 in
set_option maxRecDepth 20000 in
theorem payee_any (n : Int) (c : Cr) (z x y : Int) (w : World) (h : CrWk n c) (hx : 0 ≤ x ∧ x < n) (hy : 0 ≤ y ∧ y < n) (hz : 0 ≤ z ∧ z ≤ 2000000000) (hp : 0 ≤ stpI c x y * c.f ∧ stpI c x y * c.f ≤ 960) :
    Calls Try.prog 180 #[crv c, .int .i64 z, .int .i64 x, .int .i64 y] w fun e w' => e = .returned (.int .i64 (z + stpI c x y * c.f)) ∧ Below w.heap.size w w' := by
  have HS := Lib.hid (fun w => stepsC_any n c x y w h hx hy)
  have HW := Lib.hid (below_new w (.cells (crc c) 128))
  have HB := Lib.hid (blk_new w (crc c) 128)
  unfold crv crc at *
  generalize stpI c x y = st at *
  have w1 : IntKind.i64.wrap (st * c.f) = st * c.f := IntWalk.i64_in _ (by omega)
  have w2 : IntKind.i64.wrap (z + st * c.f) = z + st * c.f := IntWalk.i64_in _ (by omega)
  go_enter Try.func180, Try.ntmps180
  go_wp2_with fail
  refine wp_region_noPanic ?_
  have HW := Lib.hid (HW.out.trans ((below_drewN _ 1).mono HW.out.size))
  have HB := Lib.hid (HB.out.below (below_drewN _ 1))
  refine wp_region_held_drew (S := fun w' => (Below w.heap.size w w' ∧ Blk w' w.heap.size #[.int .i64 c.s, .int .i64 c.r, .int .i64 c.f] 128) ∧ w'.cell? ⟨w.heap.size, 0, none⟩ = some (.int .i64 c.s) ∧ w'.cell? ⟨w.heap.size, 1, none⟩ = some (.int .i64 c.r) ∧ w'.cell? ⟨w.heap.size, 2, none⟩ = some (.int .i64 c.f)) (by kernel_rfl) (⟨⟨HW.out, HB.out⟩, HB.out.cell 0, HB.out.cell 1, HB.out.cell 2⟩) (fun hHeld => ?_)
  refine wpAnyH_take (i := 0) (oi := _) (v := ?_) rfl (by kernel_rfl) (by kernel_rfl) (by kernel_rfl) (fun _ _ _ h => h) (Or.inl ⟨by rfl, ?_⟩) (by assumption) ?_
  rotate_left
  · (intro w hSw; (try dsimp only at hSw); (first | (go_simp; done) | (go_simp; with_reducible rfl)))
  simp only [Act.put, List.getElem_toArray, List.getElem_cons_succ, List.getElem_cons_zero, List.setIfInBounds_toArray, List.set_cons_zero, List.set_cons_succ]
  refine wpAnyH_take (i := 1) (oi := _) (v := ?_) rfl (by kernel_rfl) (by kernel_rfl) (by kernel_rfl) (fun _ _ _ h => h) (Or.inl ⟨by rfl, ?_⟩) (by assumption) ?_
  rotate_left
  · (intro w hSw; (try dsimp only at hSw); (first | (go_simp; done) | (go_simp; with_reducible rfl)))
  simp only [Act.put, List.getElem_toArray, List.getElem_cons_succ, List.getElem_cons_zero, List.setIfInBounds_toArray, List.set_cons_zero, List.set_cons_succ]
  refine wpAnyH_take (i := 2) (oi := _) (v := ?_) rfl (by kernel_rfl) (by kernel_rfl) (by kernel_rfl) (fun _ _ _ h => h) (Or.inl ⟨by rfl, ?_⟩) (by assumption) ?_
  rotate_left
  · (intro w hSw; (try dsimp only at hSw); (first | (go_simp; done) | (go_simp; with_reducible rfl)))
  simp only [Act.put, List.getElem_toArray, List.getElem_cons_succ, List.getElem_cons_zero, List.setIfInBounds_toArray, List.set_cons_zero, List.set_cons_succ]
  refine wpAnyH_take (i := 3) (oi := _) (v := ?_) rfl (by kernel_rfl) (by kernel_rfl) (by kernel_rfl) (fun _ _ _ h => h) (Or.inl ⟨by rfl, ?_⟩) (by assumption) ?_
  rotate_left
  · (intro w hSw; (try dsimp only at hSw); (first | (go_simp; done) | (go_simp; with_reducible rfl)))
  simp only [Act.put, List.getElem_toArray, List.getElem_cons_succ, List.getElem_cons_zero, List.setIfInBounds_toArray, List.set_cons_zero, List.set_cons_succ]
  refine wpAnyH_take (i := 4) (oi := _) (v := ?_) rfl (by kernel_rfl) (by kernel_rfl) (by kernel_rfl) (fun _ _ _ h => h) (Or.inl ⟨by rfl, ?_⟩) (by assumption) ?_
  rotate_left
  · (intro w hSw; (try dsimp only at hSw); (first | (go_simp; done) | (go_simp; with_reducible rfl)))
  simp only [Act.put, List.getElem_toArray, List.getElem_cons_succ, List.getElem_cons_zero, List.setIfInBounds_toArray, List.set_cons_zero, List.set_cons_succ]
  refine wpAnyH_take (i := 6) (oi := _) (v := ?_) rfl (by kernel_rfl) (by kernel_rfl) (by kernel_rfl) (fun _ _ _ h => h) (Or.inl ⟨by rfl, ?_⟩) (by assumption) ?_
  rotate_left
  · (intro w hSw; (try dsimp only at hSw); (first | (go_simp; done) | (go_simp; with_reducible rfl)))
  simp only [Act.put, List.getElem_toArray, List.getElem_cons_succ, List.getElem_cons_zero, List.setIfInBounds_toArray, List.set_cons_zero, List.set_cons_succ]
  refine wpAnyH_take (i := 7) (oi := _) (v := ?_) rfl (by kernel_rfl) (by kernel_rfl) (by kernel_rfl) (fun _ _ _ h => h) (Or.inl ⟨by rfl, ?_⟩) (by assumption) ?_
  rotate_left
  · (intro w hSw; (try dsimp only at hSw); (first | (go_simp; done) | (go_simp; with_reducible rfl)))
  simp only [Act.put, List.getElem_toArray, List.getElem_cons_succ, List.getElem_cons_zero, List.setIfInBounds_toArray, List.set_cons_zero, List.set_cons_succ]
  refine wpAnyH_take (i := 8) (oi := _) (v := ?_) rfl (by kernel_rfl) (by kernel_rfl) (by kernel_rfl) (fun _ _ _ h => h) (Or.inl ⟨by rfl, ?_⟩) (by assumption) ?_
  rotate_left
  · (intro w hSw; (try dsimp only at hSw); (first | (go_simp; done) | (go_simp; with_reducible rfl)))
  simp only [Act.put, List.getElem_toArray, List.getElem_cons_succ, List.getElem_cons_zero, List.setIfInBounds_toArray, List.set_cons_zero, List.set_cons_succ]
  refine wpAnyH_ready (rs := [5]) (by kernel_rfl) (by simp) ?_
  refine AllReadyH.cons rfl (fun K hK => ?_) AllReadyH.nil
  go_simp
  refine (HS.out _).mono ?_
  rintro e w21 ⟨rfl, hb⟩
  have HW := Lib.hid (HW.out.trans (hb.mono HW.out.size))
  have HB := Lib.hid (HB.out.below hb)
  clear hb
  clear hHeld
  try go_wp2_with fail
  refine hK.out _ _ (⟨⟨HW.out, HB.out⟩, HB.out.cell 0, HB.out.cell 1, HB.out.cell 2⟩) (fun hHeld => ?_)
  clear hK K
  refine wpAnyH_take (i := 9) (oi := _) (v := ?_) rfl (by kernel_rfl) (by kernel_rfl) (by kernel_rfl) (fun _ _ _ h => h) (Or.inl ⟨by rfl, ?_⟩) (by assumption) ?_
  rotate_left
  · (intro w hSw; (try dsimp only at hSw); (first | (go_simp; done) | (go_simp; with_reducible rfl)))
  simp only [Act.put, List.getElem_toArray, List.getElem_cons_succ, List.getElem_cons_zero, List.setIfInBounds_toArray, List.set_cons_zero, List.set_cons_succ]
  refine wpAnyH_take (i := 10) (oi := _) (v := ?_) rfl (by kernel_rfl) (by kernel_rfl) (by kernel_rfl) (fun _ _ _ h => h) (Or.inl ⟨by rfl, ?_⟩) (by assumption) ?_
  rotate_left
  · (intro w hSw; (try dsimp only at hSw); (first | (go_simp; done) | (go_simp; with_reducible rfl)))
  simp only [Act.put, List.getElem_toArray, List.getElem_cons_succ, List.getElem_cons_zero, List.setIfInBounds_toArray, List.set_cons_zero, List.set_cons_succ]
  refine wpAnyH_take (i := 11) (oi := _) (v := ?_) rfl (by kernel_rfl) (by kernel_rfl) (by kernel_rfl) (fun _ _ _ h => h) (Or.inl ⟨by rfl, ?_⟩) (by assumption) ?_
  rotate_left
  · (intro w hSw; (try dsimp only at hSw); (first | (go_simp; done) | (go_simp; with_reducible rfl)))
  simp only [Act.put, List.getElem_toArray, List.getElem_cons_succ, List.getElem_cons_zero, List.setIfInBounds_toArray, List.set_cons_zero, List.set_cons_succ]
  refine wpAnyH_done (by kernel_rfl) ?_ _
  refine NoPanic.normal ?_
  clear hHeld
  go_wp2_with fail
  go_ret
  exact ⟨rfl, HW.out⟩
set_option maxHeartbeats 800000 in
theorem runner_any (n : Int) (c : Cr) (z x y : Int) (w : World) (h : CrWk n c) (hx : 0 ≤ x ∧ x < n) (hy : 0 ≤ y ∧ y < n) (hz : 0 ≤ z ∧ z ≤ 1000000000) :
    Calls Try.prog 181 #[crv c, .int .i64 z, .int .i64 x, .int .i64 y] w fun e w' => e = .returned (.int .i64 (max z (appI c x) + y - x)) ∧ Below w.heap.size w w' := by
  have HA := Lib.hid (fun w => approach_any c x w ⟨h.s0, by have := h.sn; have := h.n24; omega⟩ ⟨hx.1, by have := h.n24; omega⟩)
  have HW := Lib.hid (below_new w (.cells (crc c) 129))
  have hap := appI_range (c := c) ⟨h.s0, h.sn⟩ hx
  have hn := h.n24
  unfold crv crc at *
  generalize appI c x = ap at *
  rcases Int.lt_trichotomy z ap with hlt | heq | hgt
  · have hmx : max z ap = ap := by omega
    have w1 : IntKind.i64.wrap (ap + y) = ap + y := IntWalk.i64_in _ (by omega)
    have w2 : IntKind.i64.wrap (ap + y - x) = ap + y - x := IntWalk.i64_in _ (by omega)
    go_enter Try.func181, Try.ntmps181
    go_wp2_with fail
    refine (HA.out _).mono ?_
    rintro e w3 ⟨rfl, hb⟩
    replace HW := Lib.hid (HW.out.trans (hb.mono HW.out.size))
    clear hb
    go_wp2_with fail
    go_ret
    exact ⟨ret_int (by omega), HW.out⟩
  · subst heq
    have hmx : max z z = z := by omega
    have w1 : IntKind.i64.wrap (z + y) = z + y := IntWalk.i64_in _ (by omega)
    have w2 : IntKind.i64.wrap (z + y - x) = z + y - x := IntWalk.i64_in _ (by omega)
    go_enter Try.func181, Try.ntmps181
    go_wp2_with fail
    refine (HA.out _).mono ?_
    rintro e w3 ⟨rfl, hb⟩
    replace HW := Lib.hid (HW.out.trans (hb.mono HW.out.size))
    clear hb
    go_wp2_with fail
    go_ret
    exact ⟨ret_int (by omega), HW.out⟩
  · have hmx : max z ap = z := by omega
    have w1 : IntKind.i64.wrap (z + y) = z + y := IntWalk.i64_in _ (by omega)
    have w2 : IntKind.i64.wrap (z + y - x) = z + y - x := IntWalk.i64_in _ (by omega)
    go_enter Try.func181, Try.ntmps181
    go_wp2_with fail
    refine (HA.out _).mono ?_
    rintro e w3 ⟨rfl, hb⟩
    replace HW := Lib.hid (HW.out.trans (hb.mono HW.out.size))
    clear hb
    go_wp2_with fail
    go_ret
    exact ⟨ret_int (by omega), HW.out⟩
theorem asPayee_any (c : Cr) (w : World) :
    Calls Try.prog 90 #[crv c] w fun e w' => e = .returned (.iface 128 (crv c)) ∧ Below w.heap.size w w' := by
  have HW := Lib.hid (below_new w (.cells (crc c) 38))
  unfold crv crc at *
  go_enter Try.func90, Try.ntmps90
  go_wp2_with fail
  go_ret
  exact ⟨rfl, HW.out⟩
theorem asRunner_any (c : Cr) (w : World) :
    Calls Try.prog 92 #[crv c] w fun e w' => e = .returned (.iface 129 (crv c)) ∧ Below w.heap.size w w' := by
  have HW := Lib.hid (below_new w (.cells (crc c) 38))
  unfold crv crc at *
  go_enter Try.func92, Try.ntmps92
  go_wp2_with fail
  go_ret
  exact ⟨rfl, HW.out⟩
end Go.Proofs.Ytgchodielkodeaa
