/-
  What is proved: the contract of the draw of a walk that may be a sweep. Conditions: the bytes read as bytes.
-/
import Derived.Test.YtiokgnabiidlbaaDh
import Derived.Test.YtiokgnabiidlbaaSwa
namespace Go.Proofs.Ytiokgnabiidlbaa
open Go.RowKit
set_option linter.unusedVariables false
set_option linter.unusedSimpArgs false

theorem sweepL_len {n : Int} {g : Bool} {a : Int} (h : placeB n g a = true) : 1 ≤ (sweepL n g a).length ∧ (sweepL n g a).length ≤ 62 := by
  obtain ⟨hr, h0, h1⟩ := (placeB_iff n g a).1 h
  obtain ⟨h2, h24, _⟩ := (roadB_iff n g).1 hr
  unfold sweepL
  split
  · simp only [List.length_append, List.length_drop, wlk_len]
    omega
  · split <;> simp only [List.length_append, List.length_drop, wlk_len] <;> omega
set_option maxHeartbeats 1600000 in
set_option maxRecDepth 20000 in
theorem drawCover_any (v : Value) (w : World) (hv : CodeOK w v) :
    Calls Try.prog 20 #[v] w (fun e w' => ∃ (n : Int) (g : Bool) (vl : Value) (xs : List Int), e = .returned (.tuple #[rd n g, vl]) ∧ SizeOk n ∧ w'.ownsRow w.heap.size 3 1 vl xs.length (xs.map iv) ∧ xs.length ≤ 62 ∧ Below w.heap.size w w') := by
  have HC0 := Lib.hid (show ∀ a n cp, v = .slice a n cp → CurOK (w.heap.size + 1) (w.heap.size + 1) 0 ((w.alloc (.cells #[.int .i64 0, .bool false] 25)).alloc (.cells #[.slice a n cp, .int .i64 0, .int .u64 0] 66)) from by
    intro a n cp e
    subst e
    have h := cur_new (hv.below (below_new w (.cells #[.int .i64 0, .bool false] 25)))
    simpa using h)
  obtain ⟨av, nv, cv, hvv, _⟩ := hv
  subst hvv
  go_enter Try.func20, Try.ntmps20
  go_wp2_with fail
  refine (road_any (w.heap.size + 1) (w.heap.size + 1) 0 _ (HC0.out _ _ _ rfl) (by omega)).mono ?_
  rintro e w1 ⟨n, g, rfl, hn, hc, hg⟩
  have HD := Lib.hid (DSt.first (n := n) (g := g) hc hg)
  have HN := Lib.hid hn
  have HPO := Lib.hid (fun t W h ht => placeOn_any (w.heap.size + 1) (w.heap.size + 1) t n g W h ht hn)
  have HWK := Lib.hid (fun t W h ht => walk_any (w.heap.size + 1) (w.heap.size + 1) t n g W h ht hn)
  have hlo : w.heap.size + 1 < w1.heap.size := HD.out.lo
  clear hn hc hg HC0
  have HSW := Lib.hid (fun a W => spec_SweepWalk n g a W)
  unfold rd at *
  go_wp2_with fail
  generalize w1.alloc (.cells #[.int .i64 n, .bool g] 25) = W1 at *
  generalize w1.heap.size = K at *
  refine wp_region_noPanic ?_
  refine wp_region_held_drew (S := fun w' => w'.cell? ⟨K, 0, none⟩ = some (.int .i64 n) ∧ w'.cell? ⟨K, 1, none⟩ = some (.bool g)) (by kernel_rfl) HD.out.drew.keep (fun hHeld => ?_)
  refine wpAnyH_take (i := 0) (oi := _) (v := ?_) rfl (by kernel_rfl) (by kernel_rfl) (by kernel_rfl) (fun _ _ _ h => h) (Or.inl ⟨by rfl, ?_⟩) (by assumption) ?_
  rotate_left
  · (intro w hSw; (try dsimp only at hSw); (first | (go_simp; done) | (go_simp; with_reducible rfl)))
  simp only [Act.put, List.getElem_toArray, List.getElem_cons_succ, List.getElem_cons_zero, List.setIfInBounds_toArray, List.set_cons_zero, List.set_cons_succ]
  refine wpAnyH_take (i := 1) (oi := _) (v := ?_) rfl (by kernel_rfl) (by kernel_rfl) (by kernel_rfl) (fun _ _ _ h => h) (Or.inl ⟨by rfl, ?_⟩) (by assumption) ?_
  rotate_left
  · (intro w hSw; (try dsimp only at hSw); (first | (go_simp; done) | (go_simp; with_reducible rfl)))
  simp only [Act.put, List.getElem_toArray, List.getElem_cons_succ, List.getElem_cons_zero, List.setIfInBounds_toArray, List.set_cons_zero, List.set_cons_succ]
  refine wpAnyH_take (i := 2) (oi := _) (v := ?_) rfl (by kernel_rfl) (by kernel_rfl) (by kernel_rfl) (fun _ _ _ h => h) (Or.inl ⟨by rfl, ?_⟩) (by assumption) ?_
  rotate_left
  · (intro w hSw; (try dsimp only at hSw); (first | (go_simp; done) | (go_simp; with_reducible rfl)))
  simp only [Act.put, List.getElem_toArray, List.getElem_cons_succ, List.getElem_cons_zero, List.setIfInBounds_toArray, List.set_cons_zero, List.set_cons_succ]
  have HD1 := Lib.hid HD.out.drew
  refine wpAnyH_ready (rs := [3]) (by kernel_rfl) (by simp) ?_
  refine AllReadyH.cons rfl (fun K hK => ?_) AllReadyH.nil
  go_simp
  refine (HPO.out _ _ HD1.out.cur (by omega)).mono ?_
  rintro e w3 ⟨a, rfl, _, hc, hg⟩
  have HD2 := Lib.hid (HD1.out.grown hc hg)
  clear hc hg
  go_wp2_with fail
  refine hK.out _ _ (HD2.out.keep) (fun hHeld => ?_)
  clear hK K
  refine wpAnyH_ready (rs := [4]) (by kernel_rfl) (by simp) ?_
  refine AllReadyH.cons rfl (fun K hK => ?_) AllReadyH.nil
  go_simp
  refine (HSW.out a _).mono ?_
  rintro e w4 ⟨v4, rfl, ho, hb⟩
  have HD3 := Lib.hid (HD2.out.under hb)
  have HO3 := Lib.hid (owns_lower ho HD2.out.big)
  clear hb ho
  go_wp2_with fail
  refine hK.out _ _ (HD3.out.keep) (fun hHeld => ?_)
  clear hK K
  refine wpAnyH_take (i := 5) (oi := _) (v := ?_) rfl (by kernel_rfl) (by kernel_rfl) (by kernel_rfl) (fun _ _ _ h => h) (Or.inl ⟨by rfl, ?_⟩) (by assumption) ?_
  rotate_left
  · (intro w hSw; (try dsimp only at hSw); (first | (go_simp; done) | (go_simp; with_reducible rfl)))
  simp only [Act.put, List.getElem_toArray, List.getElem_cons_succ, List.getElem_cons_zero, List.setIfInBounds_toArray, List.set_cons_zero, List.set_cons_succ]
  refine wpAnyH_take (i := 6) (oi := _) (v := ?_) rfl (by kernel_rfl) (by kernel_rfl) (by kernel_rfl) (fun _ _ _ h => h) (Or.inl ⟨by rfl, ?_⟩) (by assumption) ?_
  rotate_left
  · (intro w hSw; (try dsimp only at hSw); (first | (go_simp; done) | (go_simp; with_reducible rfl)))
  simp only [Act.put, List.getElem_toArray, List.getElem_cons_succ, List.getElem_cons_zero, List.setIfInBounds_toArray, List.set_cons_zero, List.set_cons_succ]
  refine wpAnyH_take (i := 7) (oi := _) (v := ?_) rfl (by kernel_rfl) (by kernel_rfl) (by kernel_rfl) (fun _ _ _ h => h) (Or.inl ⟨by rfl, ?_⟩) (by assumption) ?_
  rotate_left
  · (intro w hSw; (try dsimp only at hSw); (first | (go_simp; done) | (go_simp; with_reducible rfl)))
  simp only [Act.put, List.getElem_toArray, List.getElem_cons_succ, List.getElem_cons_zero, List.setIfInBounds_toArray, List.set_cons_zero, List.set_cons_succ]
  refine wpAnyH_take (i := 8) (oi := _) (v := ?_) rfl (by kernel_rfl) (by kernel_rfl) (by kernel_rfl) (fun _ _ _ h => h) (Or.inl ⟨by rfl, ?_⟩) (by assumption) ?_
  rotate_left
  · (intro w hSw; (try dsimp only at hSw); (first | (go_simp; done) | (go_simp; with_reducible rfl)))
  simp only [Act.put, List.getElem_toArray, List.getElem_cons_succ, List.getElem_cons_zero, List.setIfInBounds_toArray, List.set_cons_zero, List.set_cons_succ]
  refine wpAnyH_take (i := 9) (oi := _) (v := ?_) rfl (by kernel_rfl) (by kernel_rfl) (by kernel_rfl) (fun _ _ _ h => h) (Or.inl ⟨by rfl, ?_⟩) (by assumption) ?_
  rotate_left
  · (intro w hSw; (try dsimp only at hSw); (first | (go_simp; done) | (go_simp; with_reducible rfl)))
  simp only [Act.put, List.getElem_toArray, List.getElem_cons_succ, List.getElem_cons_zero, List.setIfInBounds_toArray, List.set_cons_zero, List.set_cons_succ]
  refine wpAnyH_done (by kernel_rfl) ?_ _
  refine NoPanic.normal ?_
  clear hHeld
  cases hpl : placeB n g a
  · have hR : sweepR n g a = ([], false) := sweepR_no hpl
    rw [hR]
    clear hR hpl HO3
    have HDX := HD3
    go_wp2_with fail
    refine wp_region_noPanic ?_
    refine wp_region_held_drew (S := fun w' => w'.cell? ⟨K, 0, none⟩ = some (.int .i64 n) ∧ w'.cell? ⟨K, 1, none⟩ = some (.bool g)) (by kernel_rfl) HDX.out.drew.keep (fun hHeld => ?_)
    refine wpAnyH_take (i := 0) (oi := _) (v := ?_) rfl (by kernel_rfl) (by kernel_rfl) (by kernel_rfl) (fun _ _ _ h => h) (Or.inl ⟨by rfl, ?_⟩) (by assumption) ?_
    rotate_left
    · (intro w hSw; (try dsimp only at hSw); (first | (go_simp; done) | (go_simp; with_reducible rfl)))
    simp only [Act.put, List.getElem_toArray, List.getElem_cons_succ, List.getElem_cons_zero, List.setIfInBounds_toArray, List.set_cons_zero, List.set_cons_succ]
    refine wpAnyH_take (i := 1) (oi := _) (v := ?_) rfl (by kernel_rfl) (by kernel_rfl) (by kernel_rfl) (fun _ _ _ h => h) (Or.inl ⟨by rfl, ?_⟩) (by assumption) ?_
    rotate_left
    · (intro w hSw; (try dsimp only at hSw); (first | (go_simp; done) | (go_simp; with_reducible rfl)))
    simp only [Act.put, List.getElem_toArray, List.getElem_cons_succ, List.getElem_cons_zero, List.setIfInBounds_toArray, List.set_cons_zero, List.set_cons_succ]
    refine wpAnyH_take (i := 2) (oi := _) (v := ?_) rfl (by kernel_rfl) (by kernel_rfl) (by kernel_rfl) (fun _ _ _ h => h) (Or.inl ⟨by rfl, ?_⟩) (by assumption) ?_
    rotate_left
    · (intro w hSw; (try dsimp only at hSw); (first | (go_simp; done) | (go_simp; with_reducible rfl)))
    simp only [Act.put, List.getElem_toArray, List.getElem_cons_succ, List.getElem_cons_zero, List.setIfInBounds_toArray, List.set_cons_zero, List.set_cons_succ]
    have HD5 := Lib.hid HDX.out.drew
    refine wpAnyH_ready (rs := [3]) (by kernel_rfl) (by simp) ?_
    refine AllReadyH.cons rfl (fun K hK => ?_) AllReadyH.nil
    go_simp
    refine (HWK.out _ _ HD5.out.cur (by omega)).mono ?_
    rintro e w7 ⟨vl, xs, rfl, hl1, hl2, ho, hc, hg⟩
    have HD6 := Lib.hid (HD5.out.grown hc hg)
    have HL6 := Lib.hid (lst_new (w := w) ho hl1 hl2 HD5.out.big)
    clear hc hg ho
    go_wp2_with fail
    refine hK.out _ _ (HD6.out.keep) (fun hHeld => ?_)
    clear hK K
    refine wpAnyH_ready (rs := [4]) (by kernel_rfl) (by simp) ?_
    refine AllReadyH.cons rfl (fun K hK => ?_) AllReadyH.nil
    have r0 : w7.cell? ⟨w.heap.size, 0, none⟩ = some (.int .i64 0) := cell_of_block HD6.out.res 0
    have r1 : w7.cell? ⟨w.heap.size, 1, none⟩ = some (.bool false) := cell_of_block HD6.out.res 1
    have f0 := frozen_of_block HD6.out.res 0
    have f1 := frozen_of_block HD6.out.res 1
    have hS9 := HD6.out.stored
    have hL9 := (HL6.out.stored (x := .int .i64 n) (y := .bool g))
    go_simp
    refine hK.out _ _ (hS9.keep) (fun hHeld => ?_)
    clear hK K
    refine wpAnyH_take (i := 5) (oi := _) (v := ?_) rfl (by kernel_rfl) (by kernel_rfl) (by kernel_rfl) (fun _ _ _ h => h) (Or.inl ⟨by rfl, ?_⟩) (by assumption) ?_
    rotate_left
    · (intro w hSw; (try dsimp only at hSw); (first | (go_simp; done) | (go_simp; with_reducible rfl)))
    simp only [Act.put, List.getElem_toArray, List.getElem_cons_succ, List.getElem_cons_zero, List.setIfInBounds_toArray, List.set_cons_zero, List.set_cons_succ]
    refine wpAnyH_done (by kernel_rfl) ?_ _
    refine NoPanic.normal ?_
    clear hHeld
    have hcell0 := cell_of_block hS9.res 0
    have hcell1 := cell_of_block hS9.res 1
    go_wp2_with fail
    exact bodyPost_ret (v := .tuple #[.agg #[.int .i64 n, .bool g], vl]) (by simp [results, Try.results20, go_sem, r0, r1]) rfl ⟨n, g, vl, xs, rfl, HN.out, owns_lower hL9.1 (by omega), hL9.2.2, hS9.below⟩
  · have hR : sweepR n g a = (sweepL n g a, true) := sweepR_yes hpl
    have hlen := sweepL_len hpl
    have HL3 := Lib.hid (show LSt w v4 (sweepL n g a) w4 from ⟨by have h := HO3.out; rw [hR] at h; exact h, hlen.1, hlen.2⟩)
    rw [hR]
    clear hR hpl HO3
    go_wp2_with fail
    refine (one_any (w.heap.size + 1) (w.heap.size + 1) 12 2 _ (HD3.out.cur) (by omega) (by omega) (by omega)).mono ?_
    rintro e w5 ⟨⟨z, rfl⟩, hc, hg⟩
    have HDX := Lib.hid (HD3.out.grown hc hg)
    have HLX := Lib.hid (HL3.out.grown hg)
    clear hc hg
    cases z
    · go_wp2_with fail
      refine wp_region_noPanic ?_
      refine wp_region_held_drew (S := fun w' => w'.cell? ⟨K, 0, none⟩ = some (.int .i64 n) ∧ w'.cell? ⟨K, 1, none⟩ = some (.bool g)) (by kernel_rfl) HDX.out.drew.keep (fun hHeld => ?_)
      refine wpAnyH_take (i := 0) (oi := _) (v := ?_) rfl (by kernel_rfl) (by kernel_rfl) (by kernel_rfl) (fun _ _ _ h => h) (Or.inl ⟨by rfl, ?_⟩) (by assumption) ?_
      rotate_left
      · (intro w hSw; (try dsimp only at hSw); (first | (go_simp; done) | (go_simp; with_reducible rfl)))
      simp only [Act.put, List.getElem_toArray, List.getElem_cons_succ, List.getElem_cons_zero, List.setIfInBounds_toArray, List.set_cons_zero, List.set_cons_succ]
      refine wpAnyH_take (i := 1) (oi := _) (v := ?_) rfl (by kernel_rfl) (by kernel_rfl) (by kernel_rfl) (fun _ _ _ h => h) (Or.inl ⟨by rfl, ?_⟩) (by assumption) ?_
      rotate_left
      · (intro w hSw; (try dsimp only at hSw); (first | (go_simp; done) | (go_simp; with_reducible rfl)))
      simp only [Act.put, List.getElem_toArray, List.getElem_cons_succ, List.getElem_cons_zero, List.setIfInBounds_toArray, List.set_cons_zero, List.set_cons_succ]
      refine wpAnyH_take (i := 2) (oi := _) (v := ?_) rfl (by kernel_rfl) (by kernel_rfl) (by kernel_rfl) (fun _ _ _ h => h) (Or.inl ⟨by rfl, ?_⟩) (by assumption) ?_
      rotate_left
      · (intro w hSw; (try dsimp only at hSw); (first | (go_simp; done) | (go_simp; with_reducible rfl)))
      simp only [Act.put, List.getElem_toArray, List.getElem_cons_succ, List.getElem_cons_zero, List.setIfInBounds_toArray, List.set_cons_zero, List.set_cons_succ]
      have HD5 := Lib.hid HDX.out.drew
      refine wpAnyH_ready (rs := [3]) (by kernel_rfl) (by simp) ?_
      refine AllReadyH.cons rfl (fun K hK => ?_) AllReadyH.nil
      go_simp
      refine (HWK.out _ _ HD5.out.cur (by omega)).mono ?_
      rintro e w7 ⟨vl, xs, rfl, hl1, hl2, ho, hc, hg⟩
      have HD6 := Lib.hid (HD5.out.grown hc hg)
      have HL6 := Lib.hid (lst_new (w := w) ho hl1 hl2 HD5.out.big)
      clear hc hg ho
      go_wp2_with fail
      refine hK.out _ _ (HD6.out.keep) (fun hHeld => ?_)
      clear hK K
      refine wpAnyH_ready (rs := [4]) (by kernel_rfl) (by simp) ?_
      refine AllReadyH.cons rfl (fun K hK => ?_) AllReadyH.nil
      have r0 : w7.cell? ⟨w.heap.size, 0, none⟩ = some (.int .i64 0) := cell_of_block HD6.out.res 0
      have r1 : w7.cell? ⟨w.heap.size, 1, none⟩ = some (.bool false) := cell_of_block HD6.out.res 1
      have f0 := frozen_of_block HD6.out.res 0
      have f1 := frozen_of_block HD6.out.res 1
      have hS9 := HD6.out.stored
      have hL9 := (HL6.out.stored (x := .int .i64 n) (y := .bool g))
      go_simp
      refine hK.out _ _ (hS9.keep) (fun hHeld => ?_)
      clear hK K
      refine wpAnyH_take (i := 5) (oi := _) (v := ?_) rfl (by kernel_rfl) (by kernel_rfl) (by kernel_rfl) (fun _ _ _ h => h) (Or.inl ⟨by rfl, ?_⟩) (by assumption) ?_
      rotate_left
      · (intro w hSw; (try dsimp only at hSw); (first | (go_simp; done) | (go_simp; with_reducible rfl)))
      simp only [Act.put, List.getElem_toArray, List.getElem_cons_succ, List.getElem_cons_zero, List.setIfInBounds_toArray, List.set_cons_zero, List.set_cons_succ]
      refine wpAnyH_done (by kernel_rfl) ?_ _
      refine NoPanic.normal ?_
      clear hHeld
      have hcell0 := cell_of_block hS9.res 0
      have hcell1 := cell_of_block hS9.res 1
      go_wp2_with fail
      exact bodyPost_ret (v := .tuple #[.agg #[.int .i64 n, .bool g], vl]) (by simp [results, Try.results20, go_sem, r0, r1]) rfl ⟨n, g, vl, xs, rfl, HN.out, owns_lower hL9.1 (by omega), hL9.2.2, hS9.below⟩
    · have k0 := cell_of_block HDX.out.box 0
      have k1 := cell_of_block HDX.out.box 1
      have r0 : w5.cell? ⟨w.heap.size, 0, none⟩ = some (.int .i64 0) := cell_of_block HDX.out.res 0
      have r1 : w5.cell? ⟨w.heap.size, 1, none⟩ = some (.bool false) := cell_of_block HDX.out.res 1
      have f0 := frozen_of_block HDX.out.res 0
      have f1 := frozen_of_block HDX.out.res 1
      have hS9 := HDX.out.stored
      have hL9 := (HLX.out.stored (x := .int .i64 n) (y := .bool g))
      have HS9 := Lib.hid hS9
      have HL9 := Lib.hid hL9
      clear hS9 hL9
      go_wp2_with fail
      exact bodyPost_ret (v := .tuple #[.agg #[.int .i64 n, .bool g], v4]) (by simp [results, Try.results20, go_sem, r0, r1]) rfl ⟨n, g, v4, sweepL n g a, rfl, HN.out, owns_lower HL9.out.1 (by omega), HL9.out.2.2, HS9.out.below⟩
end Go.Proofs.Ytiokgnabiidlbaa
