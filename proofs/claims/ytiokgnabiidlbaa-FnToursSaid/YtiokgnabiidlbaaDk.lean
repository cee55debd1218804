/-
  What is proved: contracts of draws of the law FnTours. Conditions: the bytes read as bytes.
-/
import Derived.Test.YtiokgnabiidlbaaDj
namespace Go.Proofs.Ytiokgnabiidlbaa
open Go.RowKit
set_option linter.unusedVariables false
set_option linter.unusedSimpArgs false

set_option maxHeartbeats 1600000 in
set_option maxRecDepth 20000 in
theorem drawWait_any (v : Value) (w : World) (hv : CodeOK w v) :
    Calls Try.prog 38 #[v] w (fun e w' => ∃ (n : Int) (g : Bool) (vl : Value) (xs : List Int) (a m : Int), e = .returned (.tuple #[rd n g, vl, .int .i64 a, .int .i64 m]) ∧ SizeOk n ∧ w'.ownsRow w.heap.size 3 1 vl xs.length (xs.map iv) ∧ xs.length ≤ 62 ∧ Below w.heap.size w w') := by
  have HC0 := Lib.hid (show ∀ a n cp, v = .slice a n cp → CurOK (w.heap.size + 1) (w.heap.size + 1) 0 ((w.alloc (.cells #[.int .i64 0, .bool false] 25)).alloc (.cells #[.slice a n cp, .int .i64 0, .int .u64 0] 66)) from by
    intro a n cp e
    subst e
    have h := cur_new (hv.below (below_new w (.cells #[.int .i64 0, .bool false] 25)))
    simpa using h)
  obtain ⟨av, nv, cv, hvv, _⟩ := hv
  subst hvv
  go_enter Try.func38, Try.ntmps38
  go_wp2_with fail
  refine (road_any (w.heap.size + 1) (w.heap.size + 1) 0 _ (HC0.out _ _ _ rfl) (by omega)).mono ?_
  rintro e w1 ⟨n, g, rfl, hn, hc, hg⟩
  have HD := Lib.hid (DSt.first (n := n) (g := g) hc hg)
  have HN := Lib.hid hn
  have HPO := Lib.hid (fun t W h ht => placeOn_any (w.heap.size + 1) (w.heap.size + 1) t n g W h ht hn)
  have HWK := Lib.hid (fun t W h ht => walk_any (w.heap.size + 1) (w.heap.size + 1) t n g W h ht hn)
  have hlo : w.heap.size + 1 < w1.heap.size := HD.out.lo
  clear hn hc hg HC0
  have HPK := Lib.hid (fun t m W h ht h1 hm => pick_any (w.heap.size + 1) (w.heap.size + 1) t m W h ht h1 hm)
  unfold rd at *
  go_wp2_with fail
  generalize w1.alloc (.cells #[.int .i64 n, .bool g] 25) = W1 at *
  generalize w1.heap.size = K at *
  refine (HWK.out _ _ HD.out.cur (by omega)).mono ?_
  rintro e w3 ⟨vl, xs, rfl, hl1, hl2, ho, hc, hg⟩
  have HD2 := Lib.hid (HD.out.grown hc hg)
  have HL2 := Lib.hid (lst_new (w := w) ho hl1 hl2 HD.out.big)
  clear hc hg ho
  obtain ⟨va, vc, hvl, _⟩ := owns_shape HL2.out.1
  subst hvl
  go_wp2_with fail
  refine wp_region_noPanic ?_
  refine wp_region_held_drew (S := fun w' => w'.cell? ⟨K, 0, none⟩ = some (.int .i64 n) ∧ w'.cell? ⟨K, 1, none⟩ = some (.bool g)) (by kernel_rfl) HD2.out.drew.keep (fun hHeld => ?_)
  refine wpAnyH_take (i := 0) (oi := _) (v := ?_) rfl (by kernel_rfl) (by kernel_rfl) (by kernel_rfl) (fun _ _ _ h => h) (Or.inl ⟨by rfl, ?_⟩) (by assumption) ?_
  rotate_left
  · (intro w hSw; (try dsimp only at hSw); (first | (go_simp; done) | (go_simp; with_reducible rfl)))
  simp only [Act.put, List.getElem_toArray, List.getElem_cons_succ, List.getElem_cons_zero, List.setIfInBounds_toArray, List.set_cons_zero, List.set_cons_succ]
  refine wpAnyH_take (i := 1) (oi := _) (v := ?_) rfl (by kernel_rfl) (by kernel_rfl) (by kernel_rfl) (fun _ _ _ h => h) (Or.inl ⟨by rfl, ?_⟩) (by assumption) ?_
  rotate_left
  · (intro w hSw; (try dsimp only at hSw); (first | (go_simp; done) | (go_simp; with_reducible rfl)))
  simp only [Act.put, List.getElem_toArray, List.getElem_cons_succ, List.getElem_cons_zero, List.setIfInBounds_toArray, List.set_cons_zero, List.set_cons_succ]
  refine wpAnyH_take (i := 2) (oi := _) (v := ?_) rfl (by kernel_rfl) (by kernel_rfl) (by kernel_rfl) (fun _ _ _ h => h) (Or.inl ⟨by rfl, ?_⟩) (by assumption) ?_
  rotate_left
  · (intro w hSw; (try dsimp only at hSw); (first | (go_simp; done) | (go_simp; with_reducible rfl)))
  simp only [Act.put, List.getElem_toArray, List.getElem_cons_succ, List.getElem_cons_zero, List.setIfInBounds_toArray, List.set_cons_zero, List.set_cons_succ]
  refine wpAnyH_take (i := 3) (oi := _) (v := ?_) rfl (by kernel_rfl) (by kernel_rfl) (by kernel_rfl) (fun _ _ _ h => h) (Or.inl ⟨by rfl, ?_⟩) (by assumption) ?_
  rotate_left
  · (intro w hSw; (try dsimp only at hSw); (first | (go_simp; done) | (go_simp; with_reducible rfl)))
  simp only [Act.put, List.getElem_toArray, List.getElem_cons_succ, List.getElem_cons_zero, List.setIfInBounds_toArray, List.set_cons_zero, List.set_cons_succ]
  refine wpAnyH_take (i := 4) (oi := _) (v := ?_) rfl (by kernel_rfl) (by kernel_rfl) (by kernel_rfl) (fun _ _ _ h => h) (Or.inl ⟨by rfl, ?_⟩) (by assumption) ?_
  rotate_left
  · (intro w hSw; (try dsimp only at hSw); (first | (go_simp; done) | (go_simp; with_reducible rfl)))
  simp only [Act.put, List.getElem_toArray, List.getElem_cons_succ, List.getElem_cons_zero, List.setIfInBounds_toArray, List.set_cons_zero, List.set_cons_succ]
  refine wpAnyH_take (i := 6) (oi := _) (v := ?_) rfl (by kernel_rfl) (by kernel_rfl) (by kernel_rfl) (fun _ _ _ h => h) (Or.inl ⟨by rfl, ?_⟩) (by assumption) ?_
  rotate_left
  · (intro w hSw; (try dsimp only at hSw); (first | (go_simp; done) | (go_simp; with_reducible rfl)))
  simp only [Act.put, List.getElem_toArray, List.getElem_cons_succ, List.getElem_cons_zero, List.setIfInBounds_toArray, List.set_cons_zero, List.set_cons_succ]
  refine wpAnyH_take (i := 10) (oi := _) (v := ?_) rfl (by kernel_rfl) (by kernel_rfl) (by kernel_rfl) (fun _ _ _ h => h) (Or.inl ⟨by rfl, ?_⟩) (by assumption) ?_
  rotate_left
  · (intro w hSw; (try dsimp only at hSw); (first | (go_simp; done) | (go_simp; with_reducible rfl)))
  simp only [Act.put, List.getElem_toArray, List.getElem_cons_succ, List.getElem_cons_zero, List.setIfInBounds_toArray, List.set_cons_zero, List.set_cons_succ]
  have HD3 := Lib.hid HD2.out.drew
  have HL3 := Lib.hid HL2.out.drew
  have hl1 := HL2.out.2.1
  have hl2 := HL2.out.2.2
  refine wpAnyH_ready (rs := [5, 11]) (by kernel_rfl) (by simp) ?_
  refine AllReadyH.cons rfl (fun K hK => ?_) (AllReadyH.cons rfl (fun K hK => ?_) AllReadyH.nil)
  · go_simp
    refine (HPK.out _ (xs.length : Int) _ HD3.out.cur (by omega) (by omega) (by omega)).mono ?_
    rintro e w4 ⟨y1, rfl, hy1, hc, hg⟩
    have HD4 := Lib.hid (HD3.out.grown hc hg)
    have HL4 := Lib.hid (HL3.out.grown hg)
    clear hc hg
    go_wp2_with fail
    refine hK.out _ _ (HD4.out.keep) (fun hHeld => ?_)
    clear hK K
    refine wpAnyH_ready (rs := [7, 11]) (by kernel_rfl) (by simp) ?_
    refine AllReadyH.cons rfl (fun K hK => ?_) (AllReadyH.cons rfl (fun K hK => ?_) AllReadyH.nil)
    · go_simp
      refine (HPK.out _ 24 _ HD4.out.cur (by omega) (by omega) (by omega)).mono ?_
      rintro e w5 ⟨y2, rfl, hy2, hc, hg⟩
      have HD5 := Lib.hid (HD4.out.grown hc hg)
      have HL5 := Lib.hid (HL4.out.grown hg)
      clear hc hg
      go_wp2_with fail
      refine hK.out _ _ (HD5.out.keep) (fun hHeld => ?_)
      clear hK K
      have hq0 := hy2.1
      have hq1 := hy2.2
      have hr0 := hy1.1
      have hr9 := hy1.2
      have hdv : 0 ≤ y2.tdiv 23 ∧ y2.tdiv 23 ≤ 1 := by rw [Int.tdiv_eq_ediv_of_nonneg hq0]; omega
      have hwd : IntKind.i64.wrap (y2.tdiv 23) = y2.tdiv 23 := IntWalk.i64_in _ (by omega)
      have hwd2 : IntKind.i64.wrap (y1 + y2.tdiv 23) = y1 + y2.tdiv 23 := IntWalk.i64_in _ (by omega)
      refine wpAnyH_take (i := 8) (oi := _) (v := ?_) rfl (by kernel_rfl) (by kernel_rfl) (by kernel_rfl) (fun _ _ _ h => h) (Or.inl ⟨by rfl, ?_⟩) (by assumption) ?_
      rotate_left
      · (intro w hSw; (try dsimp only at hSw); (first | (go_simp; done) | (go_simp; with_reducible rfl)))
      simp only [Act.put, List.getElem_toArray, List.getElem_cons_succ, List.getElem_cons_zero, List.setIfInBounds_toArray, List.set_cons_zero, List.set_cons_succ]
      refine wpAnyH_take (i := 9) (oi := _) (v := ?_) rfl (by kernel_rfl) (by kernel_rfl) (by kernel_rfl) (fun _ _ _ h => h) (Or.inl ⟨by rfl, ?_⟩) (by assumption) ?_
      rotate_left
      · (intro w hSw; (try dsimp only at hSw); (first | (go_simp; done) | (go_simp; with_reducible rfl)))
      simp only [Act.put, List.getElem_toArray, List.getElem_cons_succ, List.getElem_cons_zero, List.setIfInBounds_toArray, List.set_cons_zero, List.set_cons_succ]
      refine wpAnyH_ready (rs := [11]) (by kernel_rfl) (by simp) ?_
      refine AllReadyH.cons rfl (fun K hK => ?_) AllReadyH.nil
      go_simp
      refine hK.out _ _ ((HD5.out.alloc (.cells #[.int .i64 1, .int .i64 2, .int .i64 5, .int .i64 0, .int .i64 30, .int .i64 60, .int .i64 (-1), .int .i64 4611686018427387904] 3)).keep) (fun hHeld => ?_)
      clear hK K
      have hbg5 := HD5.out.big
      have hlo5 := HD5.out.lo
      have HD6 := Lib.hid (HD5.out.alloc (.cells #[.int .i64 1, .int .i64 2, .int .i64 5, .int .i64 0, .int .i64 30, .int .i64 60, .int .i64 (-1), .int .i64 4611686018427387904] 3))
      have HL6 := Lib.hid (HL5.out.allocd (.cells #[.int .i64 1, .int .i64 2, .int .i64 5, .int .i64 0, .int .i64 30, .int .i64 60, .int .i64 (-1), .int .i64 4611686018427387904] 3))
      have HLIT := Lib.hid (MapKept.heap_alloc w5 (.cells #[.int .i64 1, .int .i64 2, .int .i64 5, .int .i64 0, .int .i64 30, .int .i64 60, .int .i64 (-1), .int .i64 4611686018427387904] 3)).1
      have hkb : w5.heap.size ≠ w.heap.size + 1 := by have : w5.heap.size = w5.heap.size := rfl; omega
      have HKB := Lib.hid hkb
      clear hkb
      refine wpAnyH_ready (rs := [12]) (by kernel_rfl) (by simp) ?_
      refine AllReadyH.cons rfl (fun K hK => ?_) AllReadyH.nil
      go_simp
      refine (among_blk _ _ _ 8 _ [1, 2, 5, 0, 30, 60, -1, 4611686018427387904] _ _ ?hcs rfl (HLIT.out) (fun e => HKB.out e) HD6.out.cur (by omega) (by omega) (by omega)).mono ?_
      case hcs => rfl
      rintro e w6 ⟨m, rfl, hm, hc, hg⟩
      have HD7 := Lib.hid (HD6.out.grown hc hg)
      have HL7 := Lib.hid (HL6.out.grown hg)
      clear hc hg hm
      go_wp2_with fail
      refine hK.out _ _ (HD7.out.keep) (fun hHeld => ?_)
      clear hK K
      refine wpAnyH_ready (rs := [13]) (by kernel_rfl) (by simp) ?_
      refine AllReadyH.cons rfl (fun K hK => ?_) AllReadyH.nil
      have r0 : w6.cell? ⟨w.heap.size, 0, none⟩ = some (.int .i64 0) := cell_of_block HD7.out.res 0
      have r1 : w6.cell? ⟨w.heap.size, 1, none⟩ = some (.bool false) := cell_of_block HD7.out.res 1
      have f0 := frozen_of_block HD7.out.res 0
      have f1 := frozen_of_block HD7.out.res 1
      have hS9 := HD7.out.stored
      have hL9 := (HL7.out.stored (x := .int .i64 n) (y := .bool g))
      go_simp
      refine hK.out _ _ (hS9.keep) (fun hHeld => ?_)
      clear hK K
      refine wpAnyH_take (i := 14) (oi := _) (v := ?_) rfl (by kernel_rfl) (by kernel_rfl) (by kernel_rfl) (fun _ _ _ h => h) (Or.inl ⟨by rfl, ?_⟩) (by assumption) ?_
      rotate_left
      · (intro w hSw; (try dsimp only at hSw); (first | (go_simp; done) | (go_simp; with_reducible rfl)))
      simp only [Act.put, List.getElem_toArray, List.getElem_cons_succ, List.getElem_cons_zero, List.setIfInBounds_toArray, List.set_cons_zero, List.set_cons_succ]
      refine wpAnyH_take (i := 15) (oi := _) (v := ?_) rfl (by kernel_rfl) (by kernel_rfl) (by kernel_rfl) (fun _ _ _ h => h) (Or.inl ⟨by rfl, ?_⟩) (by assumption) ?_
      rotate_left
      · (intro w hSw; (try dsimp only at hSw); (first | (go_simp; done) | (go_simp; with_reducible rfl)))
      simp only [Act.put, List.getElem_toArray, List.getElem_cons_succ, List.getElem_cons_zero, List.setIfInBounds_toArray, List.set_cons_zero, List.set_cons_succ]
      refine wpAnyH_take (i := 16) (oi := _) (v := ?_) rfl (by kernel_rfl) (by kernel_rfl) (by kernel_rfl) (fun _ _ _ h => h) (Or.inl ⟨by rfl, ?_⟩) (by assumption) ?_
      rotate_left
      · (intro w hSw; (try dsimp only at hSw); (first | (go_simp; done) | (go_simp; with_reducible rfl)))
      simp only [Act.put, List.getElem_toArray, List.getElem_cons_succ, List.getElem_cons_zero, List.setIfInBounds_toArray, List.set_cons_zero, List.set_cons_succ]
      refine wpAnyH_done (by kernel_rfl) ?_ _
      refine NoPanic.normal ?_
      clear hHeld
      have hcell0 := cell_of_block hS9.res 0
      have hcell1 := cell_of_block hS9.res 1
      go_wp2_with fail
      exact bodyPost_ret (v := .tuple #[.agg #[.int .i64 n, .bool g], .slice va xs.length vc, .int .i64 (y1 + y2.tdiv 23), .int .i64 m]) (by simp [results, Try.results38, go_sem, r0, r1]) rfl ⟨n, g, _, xs, _, m, rfl, HN.out, owns_lower hL9.1 (by omega), hL9.2.2, hS9.below⟩
    · go_simp
      refine hK.out _ _ ((HD4.out.alloc (.cells #[.int .i64 1, .int .i64 2, .int .i64 5, .int .i64 0, .int .i64 30, .int .i64 60, .int .i64 (-1), .int .i64 4611686018427387904] 3)).keep) (fun hHeld => ?_)
      clear hK K
      have hbg4 := HD4.out.big
      have hlo4 := HD4.out.lo
      have HD5 := Lib.hid (HD4.out.alloc (.cells #[.int .i64 1, .int .i64 2, .int .i64 5, .int .i64 0, .int .i64 30, .int .i64 60, .int .i64 (-1), .int .i64 4611686018427387904] 3))
      have HL5 := Lib.hid (HL4.out.allocd (.cells #[.int .i64 1, .int .i64 2, .int .i64 5, .int .i64 0, .int .i64 30, .int .i64 60, .int .i64 (-1), .int .i64 4611686018427387904] 3))
      have HLIT := Lib.hid (MapKept.heap_alloc w4 (.cells #[.int .i64 1, .int .i64 2, .int .i64 5, .int .i64 0, .int .i64 30, .int .i64 60, .int .i64 (-1), .int .i64 4611686018427387904] 3)).1
      have hkb : w4.heap.size ≠ w.heap.size + 1 := by have : w4.heap.size = w4.heap.size := rfl; omega
      have HKB := Lib.hid hkb
      clear hkb
      refine wpAnyH_ready (rs := [7]) (by kernel_rfl) (by simp) ?_
      refine AllReadyH.cons rfl (fun K hK => ?_) AllReadyH.nil
      go_simp
      refine (HPK.out _ 24 _ HD5.out.cur (by omega) (by omega) (by omega)).mono ?_
      rintro e w5 ⟨y2, rfl, hy2, hc, hg⟩
      have HD6 := Lib.hid (HD5.out.grown hc hg)
      have HL6 := Lib.hid (HL5.out.grown hg)
      have HLIT := Lib.hid ((hg.block _ (Array.getElem?_eq_some_iff.1 HLIT.out).1 (by intro e; exact HKB.out (Option.some.inj e))).trans HLIT.out)
      clear hc hg
      go_wp2_with fail
      refine hK.out _ _ (HD6.out.keep) (fun hHeld => ?_)
      clear hK K
      have hq0 := hy2.1
      have hq1 := hy2.2
      have hr0 := hy1.1
      have hr9 := hy1.2
      have hdv : 0 ≤ y2.tdiv 23 ∧ y2.tdiv 23 ≤ 1 := by rw [Int.tdiv_eq_ediv_of_nonneg hq0]; omega
      have hwd : IntKind.i64.wrap (y2.tdiv 23) = y2.tdiv 23 := IntWalk.i64_in _ (by omega)
      have hwd2 : IntKind.i64.wrap (y1 + y2.tdiv 23) = y1 + y2.tdiv 23 := IntWalk.i64_in _ (by omega)
      refine wpAnyH_take (i := 8) (oi := _) (v := ?_) rfl (by kernel_rfl) (by kernel_rfl) (by kernel_rfl) (fun _ _ _ h => h) (Or.inl ⟨by rfl, ?_⟩) (by assumption) ?_
      rotate_left
      · (intro w hSw; (try dsimp only at hSw); (first | (go_simp; done) | (go_simp; with_reducible rfl)))
      simp only [Act.put, List.getElem_toArray, List.getElem_cons_succ, List.getElem_cons_zero, List.setIfInBounds_toArray, List.set_cons_zero, List.set_cons_succ]
      refine wpAnyH_take (i := 9) (oi := _) (v := ?_) rfl (by kernel_rfl) (by kernel_rfl) (by kernel_rfl) (fun _ _ _ h => h) (Or.inl ⟨by rfl, ?_⟩) (by assumption) ?_
      rotate_left
      · (intro w hSw; (try dsimp only at hSw); (first | (go_simp; done) | (go_simp; with_reducible rfl)))
      simp only [Act.put, List.getElem_toArray, List.getElem_cons_succ, List.getElem_cons_zero, List.setIfInBounds_toArray, List.set_cons_zero, List.set_cons_succ]
      refine wpAnyH_ready (rs := [12]) (by kernel_rfl) (by simp) ?_
      refine AllReadyH.cons rfl (fun K hK => ?_) AllReadyH.nil
      go_simp
      refine (among_blk _ _ _ 8 _ [1, 2, 5, 0, 30, 60, -1, 4611686018427387904] _ _ ?hcs rfl (HLIT.out) (fun e => HKB.out e) HD6.out.cur (by omega) (by omega) (by omega)).mono ?_
      case hcs => rfl
      rintro e w6 ⟨m, rfl, hm, hc, hg⟩
      have HD7 := Lib.hid (HD6.out.grown hc hg)
      have HL7 := Lib.hid (HL6.out.grown hg)
      clear hc hg hm
      go_wp2_with fail
      refine hK.out _ _ (HD7.out.keep) (fun hHeld => ?_)
      clear hK K
      refine wpAnyH_ready (rs := [13]) (by kernel_rfl) (by simp) ?_
      refine AllReadyH.cons rfl (fun K hK => ?_) AllReadyH.nil
      have r0 : w6.cell? ⟨w.heap.size, 0, none⟩ = some (.int .i64 0) := cell_of_block HD7.out.res 0
      have r1 : w6.cell? ⟨w.heap.size, 1, none⟩ = some (.bool false) := cell_of_block HD7.out.res 1
      have f0 := frozen_of_block HD7.out.res 0
      have f1 := frozen_of_block HD7.out.res 1
      have hS9 := HD7.out.stored
      have hL9 := (HL7.out.stored (x := .int .i64 n) (y := .bool g))
      go_simp
      refine hK.out _ _ (hS9.keep) (fun hHeld => ?_)
      clear hK K
      refine wpAnyH_take (i := 14) (oi := _) (v := ?_) rfl (by kernel_rfl) (by kernel_rfl) (by kernel_rfl) (fun _ _ _ h => h) (Or.inl ⟨by rfl, ?_⟩) (by assumption) ?_
      rotate_left
      · (intro w hSw; (try dsimp only at hSw); (first | (go_simp; done) | (go_simp; with_reducible rfl)))
      simp only [Act.put, List.getElem_toArray, List.getElem_cons_succ, List.getElem_cons_zero, List.setIfInBounds_toArray, List.set_cons_zero, List.set_cons_succ]
      refine wpAnyH_take (i := 15) (oi := _) (v := ?_) rfl (by kernel_rfl) (by kernel_rfl) (by kernel_rfl) (fun _ _ _ h => h) (Or.inl ⟨by rfl, ?_⟩) (by assumption) ?_
      rotate_left
      · (intro w hSw; (try dsimp only at hSw); (first | (go_simp; done) | (go_simp; with_reducible rfl)))
      simp only [Act.put, List.getElem_toArray, List.getElem_cons_succ, List.getElem_cons_zero, List.setIfInBounds_toArray, List.set_cons_zero, List.set_cons_succ]
      refine wpAnyH_take (i := 16) (oi := _) (v := ?_) rfl (by kernel_rfl) (by kernel_rfl) (by kernel_rfl) (fun _ _ _ h => h) (Or.inl ⟨by rfl, ?_⟩) (by assumption) ?_
      rotate_left
      · (intro w hSw; (try dsimp only at hSw); (first | (go_simp; done) | (go_simp; with_reducible rfl)))
      simp only [Act.put, List.getElem_toArray, List.getElem_cons_succ, List.getElem_cons_zero, List.setIfInBounds_toArray, List.set_cons_zero, List.set_cons_succ]
      refine wpAnyH_done (by kernel_rfl) ?_ _
      refine NoPanic.normal ?_
      clear hHeld
      have hcell0 := cell_of_block hS9.res 0
      have hcell1 := cell_of_block hS9.res 1
      go_wp2_with fail
      exact bodyPost_ret (v := .tuple #[.agg #[.int .i64 n, .bool g], .slice va xs.length vc, .int .i64 (y1 + y2.tdiv 23), .int .i64 m]) (by simp [results, Try.results38, go_sem, r0, r1]) rfl ⟨n, g, _, xs, _, m, rfl, HN.out, owns_lower hL9.1 (by omega), hL9.2.2, hS9.below⟩
  · go_simp
    refine hK.out _ _ ((HD3.out.alloc (.cells #[.int .i64 1, .int .i64 2, .int .i64 5, .int .i64 0, .int .i64 30, .int .i64 60, .int .i64 (-1), .int .i64 4611686018427387904] 3)).keep) (fun hHeld => ?_)
    clear hK K
    have hbg3 := HD3.out.big
    have hlo3 := HD3.out.lo
    have HD4 := Lib.hid (HD3.out.alloc (.cells #[.int .i64 1, .int .i64 2, .int .i64 5, .int .i64 0, .int .i64 30, .int .i64 60, .int .i64 (-1), .int .i64 4611686018427387904] 3))
    have HL4 := Lib.hid (HL3.out.allocd (.cells #[.int .i64 1, .int .i64 2, .int .i64 5, .int .i64 0, .int .i64 30, .int .i64 60, .int .i64 (-1), .int .i64 4611686018427387904] 3))
    have HLIT := Lib.hid (MapKept.heap_alloc w3.drew (.cells #[.int .i64 1, .int .i64 2, .int .i64 5, .int .i64 0, .int .i64 30, .int .i64 60, .int .i64 (-1), .int .i64 4611686018427387904] 3)).1
    have hkb : w3.drew.heap.size ≠ w.heap.size + 1 := by have : w3.drew.heap.size = w3.drew.heap.size := rfl; omega
    have HKB := Lib.hid hkb
    clear hkb
    refine wpAnyH_ready (rs := [5]) (by kernel_rfl) (by simp) ?_
    refine AllReadyH.cons rfl (fun K hK => ?_) AllReadyH.nil
    go_simp
    refine (HPK.out _ (xs.length : Int) _ HD4.out.cur (by omega) (by omega) (by omega)).mono ?_
    rintro e w4 ⟨y1, rfl, hy1, hc, hg⟩
    have HD5 := Lib.hid (HD4.out.grown hc hg)
    have HL5 := Lib.hid (HL4.out.grown hg)
    have HLIT := Lib.hid ((hg.block _ (Array.getElem?_eq_some_iff.1 HLIT.out).1 (by intro e; exact HKB.out (Option.some.inj e))).trans HLIT.out)
    clear hc hg
    go_wp2_with fail
    refine hK.out _ _ (HD5.out.keep) (fun hHeld => ?_)
    clear hK K
    refine wpAnyH_ready (rs := [7]) (by kernel_rfl) (by simp) ?_
    refine AllReadyH.cons rfl (fun K hK => ?_) AllReadyH.nil
    go_simp
    refine (HPK.out _ 24 _ HD5.out.cur (by omega) (by omega) (by omega)).mono ?_
    rintro e w5 ⟨y2, rfl, hy2, hc, hg⟩
    have HD6 := Lib.hid (HD5.out.grown hc hg)
    have HL6 := Lib.hid (HL5.out.grown hg)
    have HLIT := Lib.hid ((hg.block _ (Array.getElem?_eq_some_iff.1 HLIT.out).1 (by intro e; exact HKB.out (Option.some.inj e))).trans HLIT.out)
    clear hc hg
    go_wp2_with fail
    refine hK.out _ _ (HD6.out.keep) (fun hHeld => ?_)
    clear hK K
    have hq0 := hy2.1
    have hq1 := hy2.2
    have hr0 := hy1.1
    have hr9 := hy1.2
    have hdv : 0 ≤ y2.tdiv 23 ∧ y2.tdiv 23 ≤ 1 := by rw [Int.tdiv_eq_ediv_of_nonneg hq0]; omega
    have hwd : IntKind.i64.wrap (y2.tdiv 23) = y2.tdiv 23 := IntWalk.i64_in _ (by omega)
    have hwd2 : IntKind.i64.wrap (y1 + y2.tdiv 23) = y1 + y2.tdiv 23 := IntWalk.i64_in _ (by omega)
    refine wpAnyH_take (i := 8) (oi := _) (v := ?_) rfl (by kernel_rfl) (by kernel_rfl) (by kernel_rfl) (fun _ _ _ h => h) (Or.inl ⟨by rfl, ?_⟩) (by assumption) ?_
    rotate_left
    · (intro w hSw; (try dsimp only at hSw); (first | (go_simp; done) | (go_simp; with_reducible rfl)))
    simp only [Act.put, List.getElem_toArray, List.getElem_cons_succ, List.getElem_cons_zero, List.setIfInBounds_toArray, List.set_cons_zero, List.set_cons_succ]
    refine wpAnyH_take (i := 9) (oi := _) (v := ?_) rfl (by kernel_rfl) (by kernel_rfl) (by kernel_rfl) (fun _ _ _ h => h) (Or.inl ⟨by rfl, ?_⟩) (by assumption) ?_
    rotate_left
    · (intro w hSw; (try dsimp only at hSw); (first | (go_simp; done) | (go_simp; with_reducible rfl)))
    simp only [Act.put, List.getElem_toArray, List.getElem_cons_succ, List.getElem_cons_zero, List.setIfInBounds_toArray, List.set_cons_zero, List.set_cons_succ]
    refine wpAnyH_ready (rs := [12]) (by kernel_rfl) (by simp) ?_
    refine AllReadyH.cons rfl (fun K hK => ?_) AllReadyH.nil
    go_simp
    refine (among_blk _ _ _ 8 _ [1, 2, 5, 0, 30, 60, -1, 4611686018427387904] _ _ ?hcs rfl (HLIT.out) (fun e => HKB.out e) HD6.out.cur (by omega) (by omega) (by omega)).mono ?_
    case hcs => rfl
    rintro e w6 ⟨m, rfl, hm, hc, hg⟩
    have HD7 := Lib.hid (HD6.out.grown hc hg)
    have HL7 := Lib.hid (HL6.out.grown hg)
    clear hc hg hm
    go_wp2_with fail
    refine hK.out _ _ (HD7.out.keep) (fun hHeld => ?_)
    clear hK K
    refine wpAnyH_ready (rs := [13]) (by kernel_rfl) (by simp) ?_
    refine AllReadyH.cons rfl (fun K hK => ?_) AllReadyH.nil
    have r0 : w6.cell? ⟨w.heap.size, 0, none⟩ = some (.int .i64 0) := cell_of_block HD7.out.res 0
    have r1 : w6.cell? ⟨w.heap.size, 1, none⟩ = some (.bool false) := cell_of_block HD7.out.res 1
    have f0 := frozen_of_block HD7.out.res 0
    have f1 := frozen_of_block HD7.out.res 1
    have hS9 := HD7.out.stored
    have hL9 := (HL7.out.stored (x := .int .i64 n) (y := .bool g))
    go_simp
    refine hK.out _ _ (hS9.keep) (fun hHeld => ?_)
    clear hK K
    refine wpAnyH_take (i := 14) (oi := _) (v := ?_) rfl (by kernel_rfl) (by kernel_rfl) (by kernel_rfl) (fun _ _ _ h => h) (Or.inl ⟨by rfl, ?_⟩) (by assumption) ?_
    rotate_left
    · (intro w hSw; (try dsimp only at hSw); (first | (go_simp; done) | (go_simp; with_reducible rfl)))
    simp only [Act.put, List.getElem_toArray, List.getElem_cons_succ, List.getElem_cons_zero, List.setIfInBounds_toArray, List.set_cons_zero, List.set_cons_succ]
    refine wpAnyH_take (i := 15) (oi := _) (v := ?_) rfl (by kernel_rfl) (by kernel_rfl) (by kernel_rfl) (fun _ _ _ h => h) (Or.inl ⟨by rfl, ?_⟩) (by assumption) ?_
    rotate_left
    · (intro w hSw; (try dsimp only at hSw); (first | (go_simp; done) | (go_simp; with_reducible rfl)))
    simp only [Act.put, List.getElem_toArray, List.getElem_cons_succ, List.getElem_cons_zero, List.setIfInBounds_toArray, List.set_cons_zero, List.set_cons_succ]
    refine wpAnyH_take (i := 16) (oi := _) (v := ?_) rfl (by kernel_rfl) (by kernel_rfl) (by kernel_rfl) (fun _ _ _ h => h) (Or.inl ⟨by rfl, ?_⟩) (by assumption) ?_
    rotate_left
    · (intro w hSw; (try dsimp only at hSw); (first | (go_simp; done) | (go_simp; with_reducible rfl)))
    simp only [Act.put, List.getElem_toArray, List.getElem_cons_succ, List.getElem_cons_zero, List.setIfInBounds_toArray, List.set_cons_zero, List.set_cons_succ]
    refine wpAnyH_done (by kernel_rfl) ?_ _
    refine NoPanic.normal ?_
    clear hHeld
    have hcell0 := cell_of_block hS9.res 0
    have hcell1 := cell_of_block hS9.res 1
    go_wp2_with fail
    exact bodyPost_ret (v := .tuple #[.agg #[.int .i64 n, .bool g], .slice va xs.length vc, .int .i64 (y1 + y2.tdiv 23), .int .i64 m]) (by simp [results, Try.results38, go_sem, r0, r1]) rfl ⟨n, g, _, xs, _, m, rfl, HN.out, owns_lower hL9.1 (by omega), hL9.2.2, hS9.below⟩
end Go.Proofs.Ytiokgnabiidlbaa
