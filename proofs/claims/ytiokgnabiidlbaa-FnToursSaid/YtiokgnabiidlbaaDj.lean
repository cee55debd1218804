/-
  What is proved: contracts of the draws of the law FnTours. Conditions: the bytes read as bytes.
-/
import Derived.Test.YtiokgnabiidlbaaDh
namespace Go.Proofs.Ytiokgnabiidlbaa
open Go.RowKit
set_option linter.unusedVariables false
set_option linter.unusedSimpArgs false

theorem LSt.drew {w W : World} {v : Value} {xs : List Int} (h : LSt w v xs W) : LSt w v xs W.drew := ⟨h.1, h.2⟩
theorem LSt.allocd {w W : World} {v : Value} {xs : List Int} (h : LSt w v xs W) (o : Obj) : LSt w v xs (W.alloc o) := ⟨h.1.alloc _, h.2⟩
theorem cell_stored {w W : World} {k j : Nat} {x y v : Value} (hk : w.heap.size < k) (h : W.cell? ⟨k, j, none⟩ = some v) : ((W.setCell ⟨w.heap.size, 0, none⟩ x).setCell ⟨w.heap.size, 1, none⟩ y).cell? ⟨k, j, none⟩ = some v := by
  have e : ((W.setCell ⟨w.heap.size, 0, none⟩ x).setCell ⟨w.heap.size, 1, none⟩ y).heap[k]? = W.heap[k]? :=
    (Below.heap_setCell (W.setCell ⟨w.heap.size, 0, none⟩ x) ⟨w.heap.size, 1, none⟩ y k (by show k ≠ w.heap.size; omega)).trans (Below.heap_setCell W ⟨w.heap.size, 0, none⟩ x k (by show k ≠ w.heap.size; omega))
  simp only [World.cell?, e] at h ⊢
  exact h
theorem DSt.low {w W W' : World} {n : Int} {g : Bool} {K t : Nat} (h : DSt w n g K t W) (hb : Below (K + 1) W W') : DSt w n g K t W' := by
  have hlo := h.lo
  exact ⟨(hb.block _ (by omega)).trans h.res, (hb.block _ (by omega)).trans h.box, h.cur.low (by omega) hb, h.below.trans (hb.mono (by omega)), h.lo⟩
set_option maxHeartbeats 1600000 in
set_option maxRecDepth 20000 in
theorem drawSweep_any (v : Value) (w : World) (hv : CodeOK w v) :
    Calls Try.prog 32 #[v] w fun e w' => ∃ (n : Int) (g : Bool) (a : Int), e = .returned (.tuple #[rd n g, .int .i64 a]) ∧ SizeOk n ∧ Below w.heap.size w w' := by
  have HI := Lib.hid (drawNbr_any v (w.alloc (.cells #[.int .i64 0, .bool false] 25)) (hv.below (below_new w _)))
  obtain ⟨av, nv, cv, hvv, _⟩ := hv
  subst hvv
  go_enter Try.func32, Try.ntmps32
  go_wp2_with fail
  refine HI.out.mono ?_
  rintro e w1 ⟨n, g, a, rfl, hn, hb⟩
  have hR := (hb.block w.heap.size (by simp)).trans (MapKept.heap_alloc w (.cells #[.int .i64 0, .bool false] 25)).1
  have r0 : w1.cell? ⟨w.heap.size, 0, none⟩ = some (.int .i64 0) := cell_of_block hR 0
  have r1 : w1.cell? ⟨w.heap.size, 1, none⟩ = some (.bool false) := cell_of_block hR 1
  have f0 := frozen_of_block hR 0
  have f1 := frozen_of_block hR 1
  have HN := Lib.hid hn
  have HB := Lib.hid ((((below_new w (.cells #[.int .i64 0, .bool false] 25)).trans (hb.mono (by simp))).setCell (p := ⟨w.heap.size, 0, none⟩) (Nat.le_refl _) (.int .i64 n)).setCell (p := ⟨w.heap.size, 1, none⟩) (Nat.le_refl _) (.bool g))
  clear hn hb hR
  unfold rd
  go_wp2_with fail
  exact bodyPost_ret (v := .tuple #[.agg #[.int .i64 n, .bool g], .int .i64 a]) (by simp [results, Try.results32, go_sem, r0, r1]) rfl ⟨n, g, a, rfl, HN.out, HB.out⟩
set_option maxHeartbeats 1600000 in
set_option maxRecDepth 20000 in
theorem drawJoin_any (v : Value) (w : World) (hv : CodeOK w v) :
    Calls Try.prog 35 #[v] w (fun e w' => ∃ (n : Int) (g : Bool) (vl : Value) (xs : List Int) (vm : Value) (ys : List Int), e = .returned (.tuple #[rd n g, vl, vm]) ∧ SizeOk n ∧ w'.ownsRow w.heap.size 3 1 vl xs.length (xs.map iv) ∧ xs.length ≤ 62 ∧ w'.ownsRow w.heap.size 3 1 vm ys.length (ys.map iv) ∧ ys.length ≤ 62 ∧ Below w.heap.size w w') := by
  have HC0 := Lib.hid (show ∀ a n cp, v = .slice a n cp → CurOK (w.heap.size + 1) (w.heap.size + 1) 0 ((w.alloc (.cells #[.int .i64 0, .bool false] 25)).alloc (.cells #[.slice a n cp, .int .i64 0, .int .u64 0] 66)) from by
    intro a n cp e
    subst e
    have h := cur_new (hv.below (below_new w (.cells #[.int .i64 0, .bool false] 25)))
    simpa using h)
  obtain ⟨av, nv, cv, hvv, _⟩ := hv
  subst hvv
  go_enter Try.func35, Try.ntmps35
  go_wp2_with fail
  refine (road_any (w.heap.size + 1) (w.heap.size + 1) 0 _ (HC0.out _ _ _ rfl) (by omega)).mono ?_
  rintro e w1 ⟨n, g, rfl, hn, hc, hg⟩
  have HD := Lib.hid (DSt.first (n := n) (g := g) hc hg)
  have HN := Lib.hid hn
  have HPO := Lib.hid (fun t W h ht => placeOn_any (w.heap.size + 1) (w.heap.size + 1) t n g W h ht hn)
  have HWK := Lib.hid (fun t W h ht => walk_any (w.heap.size + 1) (w.heap.size + 1) t n g W h ht hn)
  have hlo : w.heap.size + 1 < w1.heap.size := HD.out.lo
  clear hn hc hg HC0
  have HWF := Lib.hid (fun t a m W h ht hm => walkFrom_any (w.heap.size + 1) (w.heap.size + 1) t n g a m W h ht hm)
  unfold rd at *
  go_wp2_with fail
  generalize w1.alloc (.cells #[.int .i64 n, .bool g] 25) = W1 at *
  generalize w1.heap.size = K at *
  refine (HWK.out _ _ HD.out.cur (by omega)).mono ?_
  rintro e w3 ⟨vl, xs, rfl, hl1, hl2, ho, hc, hg⟩
  have HD2 := Lib.hid (HD.out.grown hc hg)
  have HL2 := Lib.hid (lst_new (w := w) ho hl1 hl2 HD.out.big)
  clear hc hg ho
  go_wp2_with fail
  refine (one_any (w.heap.size + 1) (w.heap.size + 1) _ 8 _ HD2.out.cur (by omega) (by omega) (by omega)).mono ?_
  rintro e w4 ⟨⟨z, rfl⟩, hc, hg⟩
  have HD3 := Lib.hid (HD2.out.grown hc hg)
  have HL3 := Lib.hid (HL2.out.grown hg)
  clear hc hg
  cases z
  · obtain ⟨va, vc, hvl, hva⟩ := owns_shape HL3.out.1
    subst hvl
    obtain ⟨gk, rfl, hgk1, hgk2⟩ := hva HL3.out.2.1
    obtain ⟨p, hxp⟩ := get_some (xs := xs) (k := xs.length - 1) (by have := HL3.out.2.1; omega)
    have hcp : w4.cell? ⟨gk, xs.length - 1, none⟩ = some (.int .i64 p) := (HL3.out.1.cellAt (xs.length - 1) (by have := HL3.out.2.1; omega)).trans (by rw [List.getElem?_map, hxp]; rfl)
    have hl1 := HL3.out.2.1
    have hl2 := HL3.out.2.2
    have hi0 : 0 ≤ (xs.length : Int) - 1 := by omega
    have hi1 : (xs.length : Int) - 1 < xs.length := by omega
    have hi2 : 1 ≤ (xs.length : Int) := by omega
    have hw9 : IntKind.i64.wrap ((xs.length : Int) - 1) = (xs.length : Int) - 1 := IntWalk.i64_in _ (by omega)
    clear hxp hva
    go_wp2_with fail
    refine wp_region_noPanic ?_
    refine wp_region_held_drew (S := fun w' => w'.cell? ⟨K, 0, none⟩ = some (.int .i64 n) ∧ w'.cell? ⟨K, 1, none⟩ = some (.bool g) ∧ w'.cell? ⟨gk, xs.length - 1, none⟩ = some (.int .i64 p)) (by kernel_rfl) ⟨HD3.out.drew.keep.1, HD3.out.drew.keep.2, hcp⟩ (fun hHeld => ?_)
    refine wpAnyH_take (i := 0) (oi := _) (v := ?_) rfl (by kernel_rfl) (by kernel_rfl) (by kernel_rfl) (fun _ _ _ h => h) (Or.inl ⟨by rfl, ?_⟩) (by assumption) ?_
    rotate_left
    · (intro w hSw; (try dsimp only at hSw); (first | (go_simp; done) | (go_simp; with_reducible rfl)))
    simp only [Act.put, List.getElem_toArray, List.getElem_cons_succ, List.getElem_cons_zero, List.setIfInBounds_toArray, List.set_cons_zero, List.set_cons_succ]
    refine wpAnyH_take (i := 1) (oi := _) (v := ?_) rfl (by kernel_rfl) (by kernel_rfl) (by kernel_rfl) (fun _ _ _ h => h) (Or.inl ⟨by rfl, ?_⟩) (by assumption) ?_
    rotate_left
    · (intro w hSw; (try dsimp only at hSw); (first | (go_simp; done) | (go_simp; with_reducible rfl)))
    simp only [Act.put, List.getElem_toArray, List.getElem_cons_succ, List.getElem_cons_zero, List.setIfInBounds_toArray, List.set_cons_zero, List.set_cons_succ]
    refine wpAnyH_take (i := 2) (oi := _) (v := ?_) rfl (by kernel_rfl) (by kernel_rfl) (by kernel_rfl) (fun _ _ _ h => h) (Or.inl ⟨by rfl, ?_⟩) (by assumption) ?_
    rotate_left
    · (intro w hSw; (try dsimp only at hSw); (first | (go_simp; done) | (go_simp; with_reducible rfl)))
    simp only [Act.put, List.getElem_toArray, List.getElem_cons_succ, List.getElem_cons_zero, List.setIfInBounds_toArray, List.set_cons_zero, List.set_cons_succ]
    refine wpAnyH_take (i := 3) (oi := _) (v := ?_) rfl (by kernel_rfl) (by kernel_rfl) (by kernel_rfl) (fun _ _ _ h => h) (Or.inl ⟨by rfl, ?_⟩) (by assumption) ?_
    rotate_left
    · (intro w hSw; (try dsimp only at hSw); (first | (go_simp; done) | (go_simp; with_reducible rfl)))
    simp only [Act.put, List.getElem_toArray, List.getElem_cons_succ, List.getElem_cons_zero, List.setIfInBounds_toArray, List.set_cons_zero, List.set_cons_succ]
    refine wpAnyH_take (i := 4) (oi := _) (v := ?_) rfl (by kernel_rfl) (by kernel_rfl) (by kernel_rfl) (fun _ _ _ h => h) (Or.inl ⟨by rfl, ?_⟩) (by assumption) ?_
    rotate_left
    · (intro w hSw; (try dsimp only at hSw); (first | (go_simp; done) | (go_simp; with_reducible rfl)))
    simp only [Act.put, List.getElem_toArray, List.getElem_cons_succ, List.getElem_cons_zero, List.setIfInBounds_toArray, List.set_cons_zero, List.set_cons_succ]
    refine wpAnyH_take (i := 5) (oi := _) (v := ?_) rfl (by kernel_rfl) (by kernel_rfl) (by kernel_rfl) (fun _ _ _ h => h) (Or.inl ⟨by rfl, ?_⟩) (by assumption) ?_
    rotate_left
    · (intro w hSw; (try dsimp only at hSw); (first | (go_simp; done) | (go_simp; with_reducible rfl)))
    simp only [Act.put, List.getElem_toArray, List.getElem_cons_succ, List.getElem_cons_zero, List.setIfInBounds_toArray, List.set_cons_zero, List.set_cons_succ]
    refine wpAnyH_take (i := 6) (oi := _) (v := ?_) rfl (by kernel_rfl) (by kernel_rfl) (by kernel_rfl) (fun _ _ _ h => h) (Or.inl ⟨by rfl, ?_⟩) (by assumption) ?_
    rotate_left
    · (intro w hSw; (try dsimp only at hSw); (first | (go_simp; done) | (go_simp; with_reducible rfl)))
    simp only [Act.put, List.getElem_toArray, List.getElem_cons_succ, List.getElem_cons_zero, List.setIfInBounds_toArray, List.set_cons_zero, List.set_cons_succ]
    refine wpAnyH_take (i := 7) (oi := _) (v := ?_) rfl (by kernel_rfl) (by kernel_rfl) (by kernel_rfl) (fun _ _ _ h => h) (Or.inl ⟨by rfl, ?_⟩) (by assumption) ?_
    rotate_left
    · (intro w hSw; (try dsimp only at hSw); (first | (go_simp; done) | (go_simp; with_reducible rfl)))
    simp only [Act.put, List.getElem_toArray, List.getElem_cons_succ, List.getElem_cons_zero, List.setIfInBounds_toArray, List.set_cons_zero, List.set_cons_succ]
    refine wpAnyH_take (i := 8) (oi := _) (v := ?_) rfl (by kernel_rfl) (by kernel_rfl) (by kernel_rfl) (fun _ _ _ h => h) (Or.inl ⟨by rfl, ?_⟩) (by assumption) ?_
    rotate_left
    · (intro w hSw; (try dsimp only at hSw); (first | (go_simp; done) | (go_simp; with_reducible rfl)))
    simp only [Act.put, List.getElem_toArray, List.getElem_cons_succ, List.getElem_cons_zero, List.setIfInBounds_toArray, List.set_cons_zero, List.set_cons_succ]
    refine wpAnyH_take (i := 9) (oi := _) (v := ?_) rfl (by kernel_rfl) (by kernel_rfl) (by kernel_rfl) (fun _ _ _ h => h) (Or.inl ⟨by rfl, ?_⟩) (by assumption) ?_
    rotate_left
    · (intro w hSw; (try dsimp only at hSw); (first | (go_simp; done) | (go_simp; with_reducible rfl)))
    simp only [Act.put, List.getElem_toArray, List.getElem_cons_succ, List.getElem_cons_zero, List.setIfInBounds_toArray, List.set_cons_zero, List.set_cons_succ]
    refine wpAnyH_take (i := 10) (oi := _) (v := ?_) rfl (by kernel_rfl) (by kernel_rfl) (by kernel_rfl) (fun _ _ _ h => h) (Or.inl ⟨by rfl, ?_⟩) (by assumption) ?_
    rotate_left
    · (intro w hSw; (try dsimp only at hSw); (first | (go_simp; done) | (go_simp; with_reducible rfl)))
    simp only [Act.put, List.getElem_toArray, List.getElem_cons_succ, List.getElem_cons_zero, List.setIfInBounds_toArray, List.set_cons_zero, List.set_cons_succ]
    have HD4 := Lib.hid HD3.out.drew
    have HL4 := Lib.hid HL3.out.drew
    have HP4 := Lib.hid hHeld.2.2
    refine wpAnyH_ready (rs := [11]) (by kernel_rfl) (by simp) ?_
    refine AllReadyH.cons rfl (fun K hK => ?_) AllReadyH.nil
    go_simp
    refine hK.out _ _ (⟨(HD4.out.alloc (.cells #[.int .i64 4, .int .i64 8, .int .i64 1, .int .i64 20, .int .i64 40] 3)).keep.1, (HD4.out.alloc (.cells #[.int .i64 4, .int .i64 8, .int .i64 1, .int .i64 20, .int .i64 40] 3)).keep.2, ((below_new w4.drew (.cells #[.int .i64 4, .int .i64 8, .int .i64 1, .int .i64 20, .int .i64 40] 3)).cell (p := ⟨gk, xs.length - 1, none⟩) hgk2).trans HP4.out⟩) (fun hHeld => ?_)
    clear hK K
    have hbg := HD4.out.big
    have hlo4 := HD4.out.lo
    have HD5 := Lib.hid (HD4.out.alloc (.cells #[.int .i64 4, .int .i64 8, .int .i64 1, .int .i64 20, .int .i64 40] 3))
    have HL5 := Lib.hid (HL4.out.allocd (.cells #[.int .i64 4, .int .i64 8, .int .i64 1, .int .i64 20, .int .i64 40] 3))
    have HP5 := Lib.hid hHeld.2.2
    have HLIT := Lib.hid (MapKept.heap_alloc w4.drew (.cells #[.int .i64 4, .int .i64 8, .int .i64 1, .int .i64 20, .int .i64 40] 3)).1
    refine wpAnyH_ready (rs := [12]) (by kernel_rfl) (by simp) ?_
    refine AllReadyH.cons rfl (fun K hK => ?_) AllReadyH.nil
    go_simp
    refine (among_blk _ _ _ 5 _ [4, 8, 1, 20, 40] _ _ ?hcs rfl (HLIT.out) ?hkb HD5.out.cur (by omega) (by omega) (by omega)).mono ?_
    case hcs => rfl
    case hkb => have : w4.drew.heap.size = w4.heap.size := rfl; omega
    rintro e w5 ⟨m, rfl, hm, hc, hg⟩
    have hm62 : m ≤ 62 := by simp at hm; omega
    have HD6 := Lib.hid (HD5.out.grown hc hg)
    have HL6 := Lib.hid (HL5.out.grown hg)
    have HP6 := Lib.hid (hg.cell HP5.out (by intro e; have h9 : gk = w.heap.size + 1 := Option.some.inj e; omega))
    clear hc hg hm
    go_wp2_with fail
    refine hK.out _ _ (⟨HD6.out.keep.1, HD6.out.keep.2, HP6.out⟩) (fun hHeld => ?_)
    clear hK K
    refine wpAnyH_ready (rs := [13]) (by kernel_rfl) (by simp) ?_
    refine AllReadyH.cons rfl (fun K hK => ?_) AllReadyH.nil
    go_simp
    refine (HWF.out _ p m _ HD6.out.cur (by omega) hm62).mono ?_
    rintro e w6 ⟨vm, ys, rfl, hm1, hm2, ho, hc, hg⟩
    have HD7 := Lib.hid (HD6.out.grown hc hg)
    have HL7 := Lib.hid (HL6.out.grown hg)
    have HM7 := Lib.hid (lst_new (w := w) ho hm1 hm2 HD6.out.big)
    have HP7 := Lib.hid (hg.cell HP6.out (by intro e; have h9 : gk = w.heap.size + 1 := Option.some.inj e; omega))
    clear hc hg ho
    go_wp2_with fail
    refine hK.out _ _ (⟨HD7.out.keep.1, HD7.out.keep.2, HP7.out⟩) (fun hHeld => ?_)
    clear hK K
    refine wpAnyH_ready (rs := [14]) (by kernel_rfl) (by simp) ?_
    refine AllReadyH.cons rfl (fun K hK => ?_) AllReadyH.nil
    have r0 : w6.cell? ⟨w.heap.size, 0, none⟩ = some (.int .i64 0) := cell_of_block HD7.out.res 0
    have r1 : w6.cell? ⟨w.heap.size, 1, none⟩ = some (.bool false) := cell_of_block HD7.out.res 1
    have f0 := frozen_of_block HD7.out.res 0
    have f1 := frozen_of_block HD7.out.res 1
    have hS9 := HD7.out.stored
    have hL9 := (HL7.out.stored (x := .int .i64 n) (y := .bool g))
    have hM9 := (HM7.out.stored (x := .int .i64 n) (y := .bool g))
    have hP9 := HP7.out
    go_simp
    refine hK.out _ _ (⟨hS9.keep.1, hS9.keep.2, cell_stored (by omega) hP9⟩) (fun hHeld => ?_)
    clear hK K
    refine wpAnyH_take (i := 15) (oi := _) (v := ?_) rfl (by kernel_rfl) (by kernel_rfl) (by kernel_rfl) (fun _ _ _ h => h) (Or.inl ⟨by rfl, ?_⟩) (by assumption) ?_
    rotate_left
    · (intro w hSw; (try dsimp only at hSw); (first | (go_simp; done) | (go_simp; with_reducible rfl)))
    simp only [Act.put, List.getElem_toArray, List.getElem_cons_succ, List.getElem_cons_zero, List.setIfInBounds_toArray, List.set_cons_zero, List.set_cons_succ]
    refine wpAnyH_take (i := 16) (oi := _) (v := ?_) rfl (by kernel_rfl) (by kernel_rfl) (by kernel_rfl) (fun _ _ _ h => h) (Or.inl ⟨by rfl, ?_⟩) (by assumption) ?_
    rotate_left
    · (intro w hSw; (try dsimp only at hSw); (first | (go_simp; done) | (go_simp; with_reducible rfl)))
    simp only [Act.put, List.getElem_toArray, List.getElem_cons_succ, List.getElem_cons_zero, List.setIfInBounds_toArray, List.set_cons_zero, List.set_cons_succ]
    refine wpAnyH_done (by kernel_rfl) ?_ _
    refine NoPanic.normal ?_
    clear hHeld
    have hcell0 := cell_of_block hS9.res 0
    have hcell1 := cell_of_block hS9.res 1
    go_wp2_with fail
    exact bodyPost_ret (v := .tuple #[.agg #[.int .i64 n, .bool g], .slice (some ⟨gk, 0, none⟩) xs.length vc, vm]) (by simp [results, Try.results35, go_sem, r0, r1]) rfl ⟨n, g, _, xs, vm, ys, rfl, HN.out, owns_lower hL9.1 (by omega), hL9.2.2, owns_lower hM9.1 (by omega), hM9.2.2, hS9.below⟩
  · go_wp2_with fail
    refine wp_region_noPanic ?_
    refine wp_region_held_drew (S := fun w' => w'.cell? ⟨K, 0, none⟩ = some (.int .i64 n) ∧ w'.cell? ⟨K, 1, none⟩ = some (.bool g)) (by kernel_rfl) HD3.out.drew.keep (fun hHeld => ?_)
    refine wpAnyH_take (i := 0) (oi := _) (v := ?_) rfl (by kernel_rfl) (by kernel_rfl) (by kernel_rfl) (fun _ _ _ h => h) (Or.inl ⟨by rfl, ?_⟩) (by assumption) ?_
    rotate_left
    · (intro w hSw; (try dsimp only at hSw); (first | (go_simp; done) | (go_simp; with_reducible rfl)))
    simp only [Act.put, List.getElem_toArray, List.getElem_cons_succ, List.getElem_cons_zero, List.setIfInBounds_toArray, List.set_cons_zero, List.set_cons_succ]
    refine wpAnyH_take (i := 1) (oi := _) (v := ?_) rfl (by kernel_rfl) (by kernel_rfl) (by kernel_rfl) (fun _ _ _ h => h) (Or.inl ⟨by rfl, ?_⟩) (by assumption) ?_
    rotate_left
    · (intro w hSw; (try dsimp only at hSw); (first | (go_simp; done) | (go_simp; with_reducible rfl)))
    simp only [Act.put, List.getElem_toArray, List.getElem_cons_succ, List.getElem_cons_zero, List.setIfInBounds_toArray, List.set_cons_zero, List.set_cons_succ]
    refine wpAnyH_take (i := 2) (oi := _) (v := ?_) rfl (by kernel_rfl) (by kernel_rfl) (by kernel_rfl) (fun _ _ _ h => h) (Or.inl ⟨by rfl, ?_⟩) (by assumption) ?_
    rotate_left
    · (intro w hSw; (try dsimp only at hSw); (first | (go_simp; done) | (go_simp; with_reducible rfl)))
    simp only [Act.put, List.getElem_toArray, List.getElem_cons_succ, List.getElem_cons_zero, List.setIfInBounds_toArray, List.set_cons_zero, List.set_cons_succ]
    refine wpAnyH_take (i := 3) (oi := _) (v := ?_) rfl (by kernel_rfl) (by kernel_rfl) (by kernel_rfl) (fun _ _ _ h => h) (Or.inl ⟨by rfl, ?_⟩) (by assumption) ?_
    rotate_left
    · (intro w hSw; (try dsimp only at hSw); (first | (go_simp; done) | (go_simp; with_reducible rfl)))
    simp only [Act.put, List.getElem_toArray, List.getElem_cons_succ, List.getElem_cons_zero, List.setIfInBounds_toArray, List.set_cons_zero, List.set_cons_succ]
    have HD4 := Lib.hid HD3.out.drew
    have HL4 := Lib.hid HL3.out.drew
    refine wpAnyH_ready (rs := [4]) (by kernel_rfl) (by simp) ?_
    refine AllReadyH.cons rfl (fun K hK => ?_) AllReadyH.nil
    go_simp
    refine (HWK.out _ _ HD4.out.cur (by omega)).mono ?_
    rintro e w5 ⟨vm, ys, rfl, hm1, hm2, ho, hc, hg⟩
    have HD5 := Lib.hid (HD4.out.grown hc hg)
    have HL5 := Lib.hid (HL4.out.grown hg)
    have HM5 := Lib.hid (lst_new (w := w) ho hm1 hm2 HD4.out.big)
    clear hc hg ho
    go_wp2_with fail
    refine hK.out _ _ (HD5.out.keep) (fun hHeld => ?_)
    clear hK K
    refine wpAnyH_ready (rs := [5]) (by kernel_rfl) (by simp) ?_
    refine AllReadyH.cons rfl (fun K hK => ?_) AllReadyH.nil
    have r0 : w5.cell? ⟨w.heap.size, 0, none⟩ = some (.int .i64 0) := cell_of_block HD5.out.res 0
    have r1 : w5.cell? ⟨w.heap.size, 1, none⟩ = some (.bool false) := cell_of_block HD5.out.res 1
    have f0 := frozen_of_block HD5.out.res 0
    have f1 := frozen_of_block HD5.out.res 1
    have hS9 := HD5.out.stored
    have hL9 := (HL5.out.stored (x := .int .i64 n) (y := .bool g))
    have hM9 := (HM5.out.stored (x := .int .i64 n) (y := .bool g))
    go_simp
    refine hK.out _ _ (hS9.keep) (fun hHeld => ?_)
    clear hK K
    refine wpAnyH_take (i := 6) (oi := _) (v := ?_) rfl (by kernel_rfl) (by kernel_rfl) (by kernel_rfl) (fun _ _ _ h => h) (Or.inl ⟨by rfl, ?_⟩) (by assumption) ?_
    rotate_left
    · (intro w hSw; (try dsimp only at hSw); (first | (go_simp; done) | (go_simp; with_reducible rfl)))
    simp only [Act.put, List.getElem_toArray, List.getElem_cons_succ, List.getElem_cons_zero, List.setIfInBounds_toArray, List.set_cons_zero, List.set_cons_succ]
    refine wpAnyH_take (i := 7) (oi := _) (v := ?_) rfl (by kernel_rfl) (by kernel_rfl) (by kernel_rfl) (fun _ _ _ h => h) (Or.inl ⟨by rfl, ?_⟩) (by assumption) ?_
    rotate_left
    · (intro w hSw; (try dsimp only at hSw); (first | (go_simp; done) | (go_simp; with_reducible rfl)))
    simp only [Act.put, List.getElem_toArray, List.getElem_cons_succ, List.getElem_cons_zero, List.setIfInBounds_toArray, List.set_cons_zero, List.set_cons_succ]
    refine wpAnyH_done (by kernel_rfl) ?_ _
    refine NoPanic.normal ?_
    clear hHeld
    have hcell0 := cell_of_block hS9.res 0
    have hcell1 := cell_of_block hS9.res 1
    go_wp2_with fail
    exact bodyPost_ret (v := .tuple #[.agg #[.int .i64 n, .bool g], vl, vm]) (by simp [results, Try.results35, go_sem, r0, r1]) rfl ⟨n, g, vl, xs, vm, ys, rfl, HN.out, owns_lower hL9.1 (by omega), hL9.2.2, owns_lower hM9.1 (by omega), hM9.2.2, hS9.below⟩
end Go.Proofs.Ytiokgnabiidlbaa
