/-
  What is proved: contracts of the draws of walks with a road. Conditions: the bytes read as bytes.
-/
import Derived.Test.YtiokgnabiidlbaaDg
import Derived.Test.YtiokgnabiidlbaaWkg
namespace Go.Proofs.Ytiokgnabiidlbaa
open Go.RowKit
set_option linter.unusedVariables false
set_option linter.unusedSimpArgs false

theorem owns_road {w W : World} {base n : Nat} {v x y : Value} {xs : List Value} (h : W.ownsRow base 3 1 v n xs) (hb : w.heap.size < base) : ((W.setCell ⟨w.heap.size, 0, none⟩ x).setCell ⟨w.heap.size, 1, none⟩ y).ownsRow base 3 1 v n xs := by
  have hg : W.grownBy ((W.setCell ⟨w.heap.size, 0, none⟩ x).setCell ⟨w.heap.size, 1, none⟩ y) (some w.heap.size) :=
    ⟨rfl, rfl, rfl, (((Below.refl 0 W).setCell (p := ⟨w.heap.size, 0, none⟩) (Nat.zero_le _) x).setCell (p := ⟨w.heap.size, 1, none⟩) (Nat.zero_le _) y).size, fun k _ hne =>
      (Below.heap_setCell (W.setCell ⟨w.heap.size, 0, none⟩ x) ⟨w.heap.size, 1, none⟩ y k (fun e => hne (by rw [e]))).trans (Below.heap_setCell W ⟨w.heap.size, 0, none⟩ x k (fun e => hne (by rw [e])))⟩
  exact owns_cur h hg hb
/-- a drawn list lies apart from the cursor and the answer's road -/
abbrev LSt (w : World) (v : Value) (xs : List Int) (W : World) : Prop := W.ownsRow (w.heap.size + 2) 3 1 v xs.length (xs.map iv) ∧ 1 ≤ xs.length ∧ xs.length ≤ 62
theorem LSt.reads {w W : World} {v : Value} {xs : List Int} (h : LSt w v xs W) : ReadsI W v xs := owns_reads h.1 (by have := h.2.2; unfold maxLen; omega)
theorem lst_new {w W w' : World} {v : Value} {xs : List Int} (h : w'.ownsRow W.heap.size 3 1 v xs.length (xs.map iv)) (h1 : 1 ≤ xs.length) (h2 : xs.length ≤ 62) (hb : w.heap.size + 2 ≤ W.heap.size) : LSt w v xs w' := ⟨owns_lower h hb, h1, h2⟩
theorem LSt.grown {w W W' : World} {v : Value} {xs : List Int} (h : LSt w v xs W) (hg : W.grownBy W' (some (w.heap.size + 1))) : LSt w v xs W' := ⟨owns_cur h.1 hg (by omega), h.2⟩
theorem LSt.stored {w W : World} {v x y : Value} {xs : List Int} (h : LSt w v xs W) : LSt w v xs ((W.setCell ⟨w.heap.size, 0, none⟩ x).setCell ⟨w.heap.size, 1, none⟩ y) := ⟨owns_road h.1 (by omega), h.2⟩
theorem DSt.big {w W : World} {n : Int} {g : Bool} {K t : Nat} (h : DSt w n g K t W) : w.heap.size + 2 ≤ W.heap.size := by
  have h1 := h.lo
  have h2 := (Array.getElem?_eq_some_iff.1 h.box).1
  omega
theorem DSt.alloc {w W : World} {n : Int} {g : Bool} {K t : Nat} (h : DSt w n g K t W) (o : Obj) : DSt w n g K t (W.alloc o) :=
  ⟨((below_new W o).block _ (Array.getElem?_eq_some_iff.1 h.res).1).trans h.res, ((below_new W o).block _ (Array.getElem?_eq_some_iff.1 h.box).1).trans h.box, h.cur.alloc o h.cur.base, h.below.alloc h.below.size o, h.lo⟩
theorem DSt.under {w W W' : World} {n : Int} {g : Bool} {K t : Nat} (h : DSt w n g K t W) (hb : Below W.heap.size W W') : DSt w n g K t W' :=
  ⟨(hb.block _ (Array.getElem?_eq_some_iff.1 h.res).1).trans h.res, (hb.block _ (Array.getElem?_eq_some_iff.1 h.box).1).trans h.box, h.cur.below hb h.cur.base, h.below.trans (hb.mono h.below.size), h.lo⟩
theorem DSt.restore {w W : World} {n : Int} {g : Bool} {K t : Nat} (h : DSt w n g K t W) (n' : Int) (g' : Bool) : DSt w n' g' K t ((W.setCell ⟨K, 0, none⟩ (.int .i64 n')).setCell ⟨K, 1, none⟩ (.bool g')) := by
  have hlo := h.lo
  refine ⟨?_, road_set W K _ _ _ _ _ h.box, h.cur.low hlo (((Below.refl _ _).setCell (p := ⟨K, 0, none⟩) (Nat.le_refl _) _).setCell (p := ⟨K, 1, none⟩) (Nat.le_refl _) _), (h.below.setCell (p := ⟨K, 0, none⟩) (by show w.heap.size ≤ K; omega) _).setCell (p := ⟨K, 1, none⟩) (by show w.heap.size ≤ K; omega) _, h.lo⟩
  exact ((Below.heap_setCell (W.setCell ⟨K, 0, none⟩ (.int .i64 n')) ⟨K, 1, none⟩ (.bool g') w.heap.size (by show w.heap.size ≠ K; omega)).trans (Below.heap_setCell W ⟨K, 0, none⟩ (.int .i64 n') w.heap.size (by show w.heap.size ≠ K; omega))).trans h.res
theorem DSt.more {w W : World} {n : Int} {g : Bool} {K t t' : Nat} (h : DSt w n g K t W) (ht : t ≤ t') : DSt w n g K t' W := ⟨h.res, h.box, h.cur.more ht, h.below, h.lo⟩
set_option maxHeartbeats 1600000 in
set_option maxRecDepth 20000 in
theorem drawIsWalk_any (v : Value) (w : World) (hv : CodeOK w v) :
    Calls Try.prog 42 #[v] w (fun e w' => ∃ (n : Int) (g : Bool) (vl : Value) (xs : List Int), e = .returned (.tuple #[rd n g, vl]) ∧ SizeOk n ∧ w'.ownsRow w.heap.size 3 1 vl xs.length (xs.map iv) ∧ xs.length ≤ 62 ∧ Below w.heap.size w w') := by
  have HC0 := Lib.hid (show ∀ a n cp, v = .slice a n cp → CurOK (w.heap.size + 1) (w.heap.size + 1) 0 ((w.alloc (.cells #[.int .i64 0, .bool false] 25)).alloc (.cells #[.slice a n cp, .int .i64 0, .int .u64 0] 66)) from by
    intro a n cp e
    subst e
    have h := cur_new (hv.below (below_new w (.cells #[.int .i64 0, .bool false] 25)))
    simpa using h)
  obtain ⟨av, nv, cv, hvv, _⟩ := hv
  subst hvv
  go_enter Try.func42, Try.ntmps42
  go_wp2_with fail
  refine (road_any (w.heap.size + 1) (w.heap.size + 1) 0 _ (HC0.out _ _ _ rfl) (by omega)).mono ?_
  rintro e w1 ⟨n, g, rfl, hn, hc, hg⟩
  have HD := Lib.hid (DSt.first (n := n) (g := g) hc hg)
  have HN := Lib.hid hn
  have HPO := Lib.hid (fun t W h ht => placeOn_any (w.heap.size + 1) (w.heap.size + 1) t n g W h ht hn)
  have HWK := Lib.hid (fun t W h ht => walk_any (w.heap.size + 1) (w.heap.size + 1) t n g W h ht hn)
  have hlo : w.heap.size + 1 < w1.heap.size := HD.out.lo
  clear hn hc hg HC0
  unfold rd at *
  go_wp2_with fail
  generalize w1.alloc (.cells #[.int .i64 n, .bool g] 25) = W1 at *
  generalize w1.heap.size = K at *
  refine wp_region_noPanic ?_
  refine wp_region_held_drew (S := fun w' => w'.cell? ⟨K, 0, none⟩ = some (.int .i64 n) ∧ w'.cell? ⟨K, 1, none⟩ = some (.bool g)) (by kernel_rfl) HD.out.drew.keep (fun hHeld => ?_)
  refine wpAnyH_take (i := 0) (oi := _) (v := ?_) rfl (by kernel_rfl) (by kernel_rfl) (by kernel_rfl) (fun _ _ _ h => h) (Or.inl ⟨by rfl, ?_⟩) (by assumption) ?_
  rotate_left
  · (intro w hSw; (try dsimp only at hSw); (first | (go_simp; done) | (go_simp; with_reducible rfl)))
  simp only [Act.put, List.getElem_toArray, List.getElem_cons_succ, List.getElem_cons_zero, List.setIfInBounds_toArray, List.set_cons_zero, List.set_cons_succ]
  refine wpAnyH_take (i := 1) (oi := _) (v := ?_) rfl (by kernel_rfl) (by kernel_rfl) (by kernel_rfl) (fun _ _ _ h => h) (Or.inl ⟨by rfl, ?_⟩) (by assumption) ?_
  rotate_left
  · (intro w hSw; (try dsimp only at hSw); (first | (go_simp; done) | (go_simp; with_reducible rfl)))
  simp only [Act.put, List.getElem_toArray, List.getElem_cons_succ, List.getElem_cons_zero, List.setIfInBounds_toArray, List.set_cons_zero, List.set_cons_succ]
  refine wpAnyH_take (i := 2) (oi := _) (v := ?_) rfl (by kernel_rfl) (by kernel_rfl) (by kernel_rfl) (fun _ _ _ h => h) (Or.inl ⟨by rfl, ?_⟩) (by assumption) ?_
  rotate_left
  · (intro w hSw; (try dsimp only at hSw); (first | (go_simp; done) | (go_simp; with_reducible rfl)))
  simp only [Act.put, List.getElem_toArray, List.getElem_cons_succ, List.getElem_cons_zero, List.setIfInBounds_toArray, List.set_cons_zero, List.set_cons_succ]
  have HD1 := Lib.hid HD.out.drew
  refine wpAnyH_ready (rs := [3]) (by kernel_rfl) (by simp) ?_
  refine AllReadyH.cons rfl (fun K hK => ?_) AllReadyH.nil
  go_simp
  refine (HWK.out _ _ HD1.out.cur (by omega)).mono ?_
  rintro e w3 ⟨vl, xs, rfl, hl1, hl2, ho, hc, hg⟩
  have HD2 := Lib.hid (HD1.out.grown hc hg)
  have HL2 := Lib.hid (lst_new (w := w) ho hl1 hl2 HD1.out.big)
  clear hc hg ho
  go_wp2_with fail
  refine hK.out _ _ (HD2.out.keep) (fun hHeld => ?_)
  clear hK K
  refine wpAnyH_ready (rs := [4]) (by kernel_rfl) (by simp) ?_
  refine AllReadyH.cons rfl (fun K hK => ?_) AllReadyH.nil
  have r0 : w3.cell? ⟨w.heap.size, 0, none⟩ = some (.int .i64 0) := cell_of_block HD2.out.res 0
  have r1 : w3.cell? ⟨w.heap.size, 1, none⟩ = some (.bool false) := cell_of_block HD2.out.res 1
  have f0 := frozen_of_block HD2.out.res 0
  have f1 := frozen_of_block HD2.out.res 1
  have hS9 := HD2.out.stored
  have hL9 := (HL2.out.stored (x := .int .i64 n) (y := .bool g))
  go_simp
  refine hK.out _ _ (hS9.keep) (fun hHeld => ?_)
  clear hK K
  refine wpAnyH_take (i := 5) (oi := _) (v := ?_) rfl (by kernel_rfl) (by kernel_rfl) (by kernel_rfl) (fun _ _ _ h => h) (Or.inl ⟨by rfl, ?_⟩) (by assumption) ?_
  rotate_left
  · (intro w hSw; (try dsimp only at hSw); (first | (go_simp; done) | (go_simp; with_reducible rfl)))
  simp only [Act.put, List.getElem_toArray, List.getElem_cons_succ, List.getElem_cons_zero, List.setIfInBounds_toArray, List.set_cons_zero, List.set_cons_succ]
  refine wpAnyH_done (by kernel_rfl) ?_ _
  refine NoPanic.normal ?_
  clear hHeld
  have hcell0 := cell_of_block hS9.res 0
  have hcell1 := cell_of_block hS9.res 1
  go_wp2_with fail
  exact bodyPost_ret (v := .tuple #[.agg #[.int .i64 n, .bool g], vl]) (by simp [results, Try.results42, go_sem, r0, r1]) rfl ⟨n, g, vl, xs, rfl, HN.out, owns_lower hL9.1 (by omega), hL9.2.2, hS9.below⟩
set_option maxHeartbeats 1600000 in
set_option maxRecDepth 20000 in
theorem drawPlaceAt_any (v : Value) (w : World) (hv : CodeOK w v) :
    Calls Try.prog 26 #[v] w (fun e w' => ∃ (n : Int) (g : Bool) (vl : Value) (xs : List Int) (a : Int), e = .returned (.tuple #[rd n g, vl, .int .i64 a]) ∧ SizeOk n ∧ w'.ownsRow w.heap.size 3 1 vl xs.length (xs.map iv) ∧ xs.length ≤ 62 ∧ Below w.heap.size w w') := by
  have HC0 := Lib.hid (show ∀ a n cp, v = .slice a n cp → CurOK (w.heap.size + 1) (w.heap.size + 1) 0 ((w.alloc (.cells #[.int .i64 0, .bool false] 25)).alloc (.cells #[.slice a n cp, .int .i64 0, .int .u64 0] 66)) from by
    intro a n cp e
    subst e
    have h := cur_new (hv.below (below_new w (.cells #[.int .i64 0, .bool false] 25)))
    simpa using h)
  obtain ⟨av, nv, cv, hvv, _⟩ := hv
  subst hvv
  go_enter Try.func26, Try.ntmps26
  go_wp2_with fail
  refine (road_any (w.heap.size + 1) (w.heap.size + 1) 0 _ (HC0.out _ _ _ rfl) (by omega)).mono ?_
  rintro e w1 ⟨n, g, rfl, hn, hc, hg⟩
  have HD := Lib.hid (DSt.first (n := n) (g := g) hc hg)
  have HN := Lib.hid hn
  have HPO := Lib.hid (fun t W h ht => placeOn_any (w.heap.size + 1) (w.heap.size + 1) t n g W h ht hn)
  have HWK := Lib.hid (fun t W h ht => walk_any (w.heap.size + 1) (w.heap.size + 1) t n g W h ht hn)
  have hlo : w.heap.size + 1 < w1.heap.size := HD.out.lo
  clear hn hc hg HC0
  unfold rd at *
  go_wp2_with fail
  generalize w1.alloc (.cells #[.int .i64 n, .bool g] 25) = W1 at *
  generalize w1.heap.size = K at *
  refine wp_region_noPanic ?_
  refine wp_region_held_drew (S := fun w' => w'.cell? ⟨K, 0, none⟩ = some (.int .i64 n) ∧ w'.cell? ⟨K, 1, none⟩ = some (.bool g)) (by kernel_rfl) HD.out.drew.keep (fun hHeld => ?_)
  refine wpAnyH_take (i := 0) (oi := _) (v := ?_) rfl (by kernel_rfl) (by kernel_rfl) (by kernel_rfl) (fun _ _ _ h => h) (Or.inl ⟨by rfl, ?_⟩) (by assumption) ?_
  rotate_left
  · (intro w hSw; (try dsimp only at hSw); (first | (go_simp; done) | (go_simp; with_reducible rfl)))
  simp only [Act.put, List.getElem_toArray, List.getElem_cons_succ, List.getElem_cons_zero, List.setIfInBounds_toArray, List.set_cons_zero, List.set_cons_succ]
  refine wpAnyH_take (i := 1) (oi := _) (v := ?_) rfl (by kernel_rfl) (by kernel_rfl) (by kernel_rfl) (fun _ _ _ h => h) (Or.inl ⟨by rfl, ?_⟩) (by assumption) ?_
  rotate_left
  · (intro w hSw; (try dsimp only at hSw); (first | (go_simp; done) | (go_simp; with_reducible rfl)))
  simp only [Act.put, List.getElem_toArray, List.getElem_cons_succ, List.getElem_cons_zero, List.setIfInBounds_toArray, List.set_cons_zero, List.set_cons_succ]
  refine wpAnyH_take (i := 2) (oi := _) (v := ?_) rfl (by kernel_rfl) (by kernel_rfl) (by kernel_rfl) (fun _ _ _ h => h) (Or.inl ⟨by rfl, ?_⟩) (by assumption) ?_
  rotate_left
  · (intro w hSw; (try dsimp only at hSw); (first | (go_simp; done) | (go_simp; with_reducible rfl)))
  simp only [Act.put, List.getElem_toArray, List.getElem_cons_succ, List.getElem_cons_zero, List.setIfInBounds_toArray, List.set_cons_zero, List.set_cons_succ]
  refine wpAnyH_take (i := 4) (oi := _) (v := ?_) rfl (by kernel_rfl) (by kernel_rfl) (by kernel_rfl) (fun _ _ _ h => h) (Or.inl ⟨by rfl, ?_⟩) (by assumption) ?_
  rotate_left
  · (intro w hSw; (try dsimp only at hSw); (first | (go_simp; done) | (go_simp; with_reducible rfl)))
  simp only [Act.put, List.getElem_toArray, List.getElem_cons_succ, List.getElem_cons_zero, List.setIfInBounds_toArray, List.set_cons_zero, List.set_cons_succ]
  have HD1 := Lib.hid HD.out.drew
  refine wpAnyH_ready (rs := [3, 5]) (by kernel_rfl) (by simp) ?_
  refine AllReadyH.cons rfl (fun K hK => ?_) (AllReadyH.cons rfl (fun K hK => ?_) AllReadyH.nil)
  · go_simp
    refine (HWK.out _ _ HD1.out.cur (by omega)).mono ?_
    rintro e w3 ⟨vl, xs, rfl, hl1, hl2, ho, hc, hg⟩
    have HD2 := Lib.hid (HD1.out.grown hc hg)
    have HL2 := Lib.hid (lst_new (w := w) ho hl1 hl2 HD1.out.big)
    clear hc hg ho
    go_wp2_with fail
    refine hK.out _ _ (HD2.out.keep) (fun hHeld => ?_)
    clear hK K
    refine wpAnyH_ready (rs := [5]) (by kernel_rfl) (by simp) ?_
    refine AllReadyH.cons rfl (fun K hK => ?_) AllReadyH.nil
    go_simp
    refine hK.out _ _ ((HD2.out.alloc (.cells #[.int .i64 0, .int .i64 3, .int .i64 5, .int .i64 9, .int .i64 60, .int .i64 (-1), .int .i64 4611686018427387904] 3)).keep) (fun hHeld => ?_)
    clear hK K
    have hbg := HD2.out.big
    have HD3 := Lib.hid (HD2.out.alloc (.cells #[.int .i64 0, .int .i64 3, .int .i64 5, .int .i64 9, .int .i64 60, .int .i64 (-1), .int .i64 4611686018427387904] 3))
    have HL3 := Lib.hid (show LSt w vl xs (w3.alloc (.cells #[.int .i64 0, .int .i64 3, .int .i64 5, .int .i64 9, .int .i64 60, .int .i64 (-1), .int .i64 4611686018427387904] 3)) from ⟨HL2.out.1.alloc _, HL2.out.2⟩)
    refine wpAnyH_ready (rs := [6]) (by kernel_rfl) (by simp) ?_
    refine AllReadyH.cons rfl (fun K hK => ?_) AllReadyH.nil
    go_simp
    refine (among_blk _ _ _ 7 _ [0, 3, 5, 9, 60, -1, 4611686018427387904] _ _ ?hcs rfl ((MapKept.heap_alloc w3 _).1) ?hkb HD3.out.cur (by omega) (by omega) (by omega)).mono ?_
    case hcs => rfl
    case hkb => omega
    rintro e w4 ⟨a, rfl, ha, hc, hg⟩
    have HD4 := Lib.hid (HD3.out.grown hc hg)
    have HL4 := Lib.hid (HL3.out.grown hg)
    clear hc hg
    go_wp2_with fail
    refine hK.out _ _ (HD4.out.keep) (fun hHeld => ?_)
    clear hK K
    refine wpAnyH_ready (rs := [7]) (by kernel_rfl) (by simp) ?_
    refine AllReadyH.cons rfl (fun K hK => ?_) AllReadyH.nil
    have r0 : w4.cell? ⟨w.heap.size, 0, none⟩ = some (.int .i64 0) := cell_of_block HD4.out.res 0
    have r1 : w4.cell? ⟨w.heap.size, 1, none⟩ = some (.bool false) := cell_of_block HD4.out.res 1
    have f0 := frozen_of_block HD4.out.res 0
    have f1 := frozen_of_block HD4.out.res 1
    have hS9 := HD4.out.stored
    have hL9 := (HL4.out.stored (x := .int .i64 n) (y := .bool g))
    go_simp
    refine hK.out _ _ (hS9.keep) (fun hHeld => ?_)
    clear hK K
    refine wpAnyH_take (i := 8) (oi := _) (v := ?_) rfl (by kernel_rfl) (by kernel_rfl) (by kernel_rfl) (fun _ _ _ h => h) (Or.inl ⟨by rfl, ?_⟩) (by assumption) ?_
    rotate_left
    · (intro w hSw; (try dsimp only at hSw); (first | (go_simp; done) | (go_simp; with_reducible rfl)))
    simp only [Act.put, List.getElem_toArray, List.getElem_cons_succ, List.getElem_cons_zero, List.setIfInBounds_toArray, List.set_cons_zero, List.set_cons_succ]
    refine wpAnyH_take (i := 9) (oi := _) (v := ?_) rfl (by kernel_rfl) (by kernel_rfl) (by kernel_rfl) (fun _ _ _ h => h) (Or.inl ⟨by rfl, ?_⟩) (by assumption) ?_
    rotate_left
    · (intro w hSw; (try dsimp only at hSw); (first | (go_simp; done) | (go_simp; with_reducible rfl)))
    simp only [Act.put, List.getElem_toArray, List.getElem_cons_succ, List.getElem_cons_zero, List.setIfInBounds_toArray, List.set_cons_zero, List.set_cons_succ]
    refine wpAnyH_done (by kernel_rfl) ?_ _
    refine NoPanic.normal ?_
    clear hHeld
    have hcell0 := cell_of_block hS9.res 0
    have hcell1 := cell_of_block hS9.res 1
    go_wp2_with fail
    exact bodyPost_ret (v := .tuple #[.agg #[.int .i64 n, .bool g], vl, .int .i64 a]) (by simp [results, Try.results26, go_sem, r0, r1]) rfl ⟨n, g, vl, xs, a, rfl, HN.out, owns_lower hL9.1 (by omega), hL9.2.2, hS9.below⟩
  · go_simp
    refine hK.out _ _ (((HD.out.alloc (.cells #[.int .i64 0, .int .i64 3, .int .i64 5, .int .i64 9, .int .i64 60, .int .i64 (-1), .int .i64 4611686018427387904] 3)).drew).keep) (fun hHeld => ?_)
    clear hK K
    have hbg := HD.out.big
    have HD2 := Lib.hid (show DSt w n g K 8 ((W1.alloc (.cells #[.int .i64 0, .int .i64 3, .int .i64 5, .int .i64 9, .int .i64 60, .int .i64 (-1), .int .i64 4611686018427387904] 3)).drew) from ((HD.out.alloc (.cells #[.int .i64 0, .int .i64 3, .int .i64 5, .int .i64 9, .int .i64 60, .int .i64 (-1), .int .i64 4611686018427387904] 3)).more (by omega)).drew)
    have HLIT := Lib.hid (show ((W1.alloc (.cells #[.int .i64 0, .int .i64 3, .int .i64 5, .int .i64 9, .int .i64 60, .int .i64 (-1), .int .i64 4611686018427387904] 3)).drew).heap[W1.heap.size]? = some (.cells #[.int .i64 0, .int .i64 3, .int .i64 5, .int .i64 9, .int .i64 60, .int .i64 (-1), .int .i64 4611686018427387904] 3) from (MapKept.heap_alloc W1 _).1)
    refine wpAnyH_ready (rs := [3]) (by kernel_rfl) (by simp) ?_
    refine AllReadyH.cons rfl (fun K hK => ?_) AllReadyH.nil
    go_simp
    refine (HWK.out _ _ HD2.out.cur (by omega)).mono ?_
    rintro e w3 ⟨vl, xs, rfl, hl1, hl2, ho, hc, hg⟩
    have HD3 := Lib.hid (HD2.out.grown hc hg)
    have HL3 := Lib.hid (lst_new (w := w) ho hl1 hl2 HD2.out.big)
    have HLIT2 := Lib.hid ((hg.block W1.heap.size (Array.getElem?_eq_some_iff.1 HLIT.out).1 (by intro e; have := Option.some.inj e; omega)).trans HLIT.out)
    clear hc hg ho
    go_wp2_with fail
    refine hK.out _ _ (HD3.out.keep) (fun hHeld => ?_)
    clear hK K
    refine wpAnyH_ready (rs := [6]) (by kernel_rfl) (by simp) ?_
    refine AllReadyH.cons rfl (fun K hK => ?_) AllReadyH.nil
    go_simp
    refine (among_blk _ _ _ 7 _ [0, 3, 5, 9, 60, -1, 4611686018427387904] _ _ ?hcs rfl (HLIT2.out) ?hkb HD3.out.cur (by omega) (by omega) (by omega)).mono ?_
    case hcs => rfl
    case hkb => omega
    rintro e w4 ⟨a, rfl, ha, hc, hg⟩
    have HD4 := Lib.hid (HD3.out.grown hc hg)
    have HL4 := Lib.hid (HL3.out.grown hg)
    clear hc hg
    go_wp2_with fail
    refine hK.out _ _ (HD4.out.keep) (fun hHeld => ?_)
    clear hK K
    refine wpAnyH_ready (rs := [7]) (by kernel_rfl) (by simp) ?_
    refine AllReadyH.cons rfl (fun K hK => ?_) AllReadyH.nil
    have r0 : w4.cell? ⟨w.heap.size, 0, none⟩ = some (.int .i64 0) := cell_of_block HD4.out.res 0
    have r1 : w4.cell? ⟨w.heap.size, 1, none⟩ = some (.bool false) := cell_of_block HD4.out.res 1
    have f0 := frozen_of_block HD4.out.res 0
    have f1 := frozen_of_block HD4.out.res 1
    have hS9 := HD4.out.stored
    have hL9 := (HL4.out.stored (x := .int .i64 n) (y := .bool g))
    go_simp
    refine hK.out _ _ (hS9.keep) (fun hHeld => ?_)
    clear hK K
    refine wpAnyH_take (i := 8) (oi := _) (v := ?_) rfl (by kernel_rfl) (by kernel_rfl) (by kernel_rfl) (fun _ _ _ h => h) (Or.inl ⟨by rfl, ?_⟩) (by assumption) ?_
    rotate_left
    · (intro w hSw; (try dsimp only at hSw); (first | (go_simp; done) | (go_simp; with_reducible rfl)))
    simp only [Act.put, List.getElem_toArray, List.getElem_cons_succ, List.getElem_cons_zero, List.setIfInBounds_toArray, List.set_cons_zero, List.set_cons_succ]
    refine wpAnyH_take (i := 9) (oi := _) (v := ?_) rfl (by kernel_rfl) (by kernel_rfl) (by kernel_rfl) (fun _ _ _ h => h) (Or.inl ⟨by rfl, ?_⟩) (by assumption) ?_
    rotate_left
    · (intro w hSw; (try dsimp only at hSw); (first | (go_simp; done) | (go_simp; with_reducible rfl)))
    simp only [Act.put, List.getElem_toArray, List.getElem_cons_succ, List.getElem_cons_zero, List.setIfInBounds_toArray, List.set_cons_zero, List.set_cons_succ]
    refine wpAnyH_done (by kernel_rfl) ?_ _
    refine NoPanic.normal ?_
    clear hHeld
    have hcell0 := cell_of_block hS9.res 0
    have hcell1 := cell_of_block hS9.res 1
    go_wp2_with fail
    exact bodyPost_ret (v := .tuple #[.agg #[.int .i64 n, .bool g], vl, .int .i64 a]) (by simp [results, Try.results26, go_sem, r0, r1]) rfl ⟨n, g, vl, xs, a, rfl, HN.out, owns_lower hL9.1 (by omega), hL9.2.2, hS9.below⟩
set_option maxHeartbeats 1600000 in
set_option maxRecDepth 20000 in
theorem drawFirst_any (v : Value) (w : World) (hv : CodeOK w v) :
    Calls Try.prog 6 #[v] w (fun e w' => ∃ (n : Int) (g : Bool) (vl : Value) (xs : List Int), e = .returned (.tuple #[rd n g, vl]) ∧ SizeOk n ∧ w'.ownsRow w.heap.size 3 1 vl xs.length (xs.map iv) ∧ xs.length ≤ 62 ∧ Below w.heap.size w w') := by
  have HI := Lib.hid (drawIsWalk_any v (w.alloc (.cells #[.int .i64 0, .bool false] 25)) (hv.below (below_new w _)))
  obtain ⟨av, nv, cv, hvv, _⟩ := hv
  subst hvv
  go_enter Try.func6, Try.ntmps6
  go_wp2_with fail
  refine HI.out.mono ?_
  rintro e w1 ⟨n, g, vl, xs, rfl, hn, ho, hl, hb⟩
  have hR := (hb.block w.heap.size (by simp)).trans (MapKept.heap_alloc w (.cells #[.int .i64 0, .bool false] 25)).1
  have r0 : w1.cell? ⟨w.heap.size, 0, none⟩ = some (.int .i64 0) := cell_of_block hR 0
  have r1 : w1.cell? ⟨w.heap.size, 1, none⟩ = some (.bool false) := cell_of_block hR 1
  have f0 := frozen_of_block hR 0
  have f1 := frozen_of_block hR 1
  have HN := Lib.hid hn
  have HO := Lib.hid (owns_road (w := w) (x := .int .i64 n) (y := .bool g) ho (by simp))
  have HB := Lib.hid ((((below_new w (.cells #[.int .i64 0, .bool false] 25)).trans (hb.mono (by simp))).setCell (p := ⟨w.heap.size, 0, none⟩) (Nat.le_refl _) (.int .i64 n)).setCell (p := ⟨w.heap.size, 1, none⟩) (Nat.le_refl _) (.bool g))
  clear hn ho hb hR
  unfold rd
  go_wp2_with fail
  exact bodyPost_ret (v := .tuple #[.agg #[.int .i64 n, .bool g], vl]) (by simp [results, Try.results6, go_sem, r0, r1]) rfl ⟨n, g, vl, xs, rfl, HN.out, owns_lower HO.out (by simp), hl, HB.out⟩
set_option maxHeartbeats 1600000 in
set_option maxRecDepth 20000 in
theorem drawShift_any (v : Value) (w : World) (hv : CodeOK w v) :
    Calls Try.prog 23 #[v] w (fun e w' => ∃ (n : Int) (g : Bool) (vl : Value) (xs : List Int) (a : Int), e = .returned (.tuple #[rd n g, vl, .int .i64 a]) ∧ SizeOk n ∧ w'.ownsRow w.heap.size 3 1 vl xs.length (xs.map iv) ∧ xs.length ≤ 62 ∧ Below w.heap.size w w') := by
  have HC0 := Lib.hid (show ∀ a n cp, v = .slice a n cp → CurOK (w.heap.size + 1) (w.heap.size + 1) 0 ((w.alloc (.cells #[.int .i64 0, .bool false] 25)).alloc (.cells #[.slice a n cp, .int .i64 0, .int .u64 0] 66)) from by
    intro a n cp e
    subst e
    have h := cur_new (hv.below (below_new w (.cells #[.int .i64 0, .bool false] 25)))
    simpa using h)
  obtain ⟨av, nv, cv, hvv, _⟩ := hv
  subst hvv
  go_enter Try.func23, Try.ntmps23
  go_wp2_with fail
  refine (ring_any (w.heap.size + 1) (w.heap.size + 1) 0 _ (HC0.out _ _ _ rfl) (by omega)).mono ?_
  rintro e w1 ⟨n, g, rfl, hn, hc, hg⟩
  have HD := Lib.hid (DSt.first (n := n) (g := g) hc hg)
  have HN := Lib.hid hn
  have HPO := Lib.hid (fun t W h ht => placeOn_any (w.heap.size + 1) (w.heap.size + 1) t n g W h ht hn)
  have HWK := Lib.hid (fun t W h ht => walk_any (w.heap.size + 1) (w.heap.size + 1) t n g W h ht hn)
  have hlo : w.heap.size + 1 < w1.heap.size := HD.out.lo
  clear hn hc hg HC0
  unfold rd at *
  go_wp2_with fail
  generalize w1.alloc (.cells #[.int .i64 n, .bool g] 25) = W1 at *
  generalize w1.heap.size = K at *
  refine (one_any (w.heap.size + 1) (w.heap.size + 1) 6 12 _ HD.out.cur (by omega) (by omega) (by omega)).mono ?_
  rintro e w2 ⟨⟨z, rfl⟩, hc, hg⟩
  have HD2 := Lib.hid (HD.out.grown hc hg)
  clear hc hg
  cases z
  · go_wp2_with fail
    refine wp_region_noPanic ?_
    refine wp_region_held_drew (S := fun w' => w'.cell? ⟨K, 0, none⟩ = some (.int .i64 n) ∧ w'.cell? ⟨K, 1, none⟩ = some (.bool g)) (by kernel_rfl) HD2.out.drew.keep (fun hHeld => ?_)
    refine wpAnyH_take (i := 0) (oi := _) (v := ?_) rfl (by kernel_rfl) (by kernel_rfl) (by kernel_rfl) (fun _ _ _ h => h) (Or.inl ⟨by rfl, ?_⟩) (by assumption) ?_
    rotate_left
    · (intro w hSw; (try dsimp only at hSw); (first | (go_simp; done) | (go_simp; with_reducible rfl)))
    simp only [Act.put, List.getElem_toArray, List.getElem_cons_succ, List.getElem_cons_zero, List.setIfInBounds_toArray, List.set_cons_zero, List.set_cons_succ]
    refine wpAnyH_take (i := 1) (oi := _) (v := ?_) rfl (by kernel_rfl) (by kernel_rfl) (by kernel_rfl) (fun _ _ _ h => h) (Or.inl ⟨by rfl, ?_⟩) (by assumption) ?_
    rotate_left
    · (intro w hSw; (try dsimp only at hSw); (first | (go_simp; done) | (go_simp; with_reducible rfl)))
    simp only [Act.put, List.getElem_toArray, List.getElem_cons_succ, List.getElem_cons_zero, List.setIfInBounds_toArray, List.set_cons_zero, List.set_cons_succ]
    refine wpAnyH_take (i := 2) (oi := _) (v := ?_) rfl (by kernel_rfl) (by kernel_rfl) (by kernel_rfl) (fun _ _ _ h => h) (Or.inl ⟨by rfl, ?_⟩) (by assumption) ?_
    rotate_left
    · (intro w hSw; (try dsimp only at hSw); (first | (go_simp; done) | (go_simp; with_reducible rfl)))
    simp only [Act.put, List.getElem_toArray, List.getElem_cons_succ, List.getElem_cons_zero, List.setIfInBounds_toArray, List.set_cons_zero, List.set_cons_succ]
    refine wpAnyH_take (i := 4) (oi := _) (v := ?_) rfl (by kernel_rfl) (by kernel_rfl) (by kernel_rfl) (fun _ _ _ h => h) (Or.inl ⟨by rfl, ?_⟩) (by assumption) ?_
    rotate_left
    · (intro w hSw; (try dsimp only at hSw); (first | (go_simp; done) | (go_simp; with_reducible rfl)))
    simp only [Act.put, List.getElem_toArray, List.getElem_cons_succ, List.getElem_cons_zero, List.setIfInBounds_toArray, List.set_cons_zero, List.set_cons_succ]
    refine wpAnyH_take (i := 5) (oi := _) (v := ?_) rfl (by kernel_rfl) (by kernel_rfl) (by kernel_rfl) (fun _ _ _ h => h) (Or.inl ⟨by rfl, ?_⟩) (by assumption) ?_
    rotate_left
    · (intro w hSw; (try dsimp only at hSw); (first | (go_simp; done) | (go_simp; with_reducible rfl)))
    simp only [Act.put, List.getElem_toArray, List.getElem_cons_succ, List.getElem_cons_zero, List.setIfInBounds_toArray, List.set_cons_zero, List.set_cons_succ]
    have HD3 := Lib.hid HD2.out.drew
    refine wpAnyH_ready (rs := [3]) (by kernel_rfl) (by simp) ?_
    refine AllReadyH.cons rfl (fun K hK => ?_) AllReadyH.nil
    go_simp
    refine (HWK.out _ _ HD3.out.cur (by omega)).mono ?_
    rintro e w5 ⟨vl, xs, rfl, hl1, hl2, ho, hc, hg⟩
    have HD4 := Lib.hid (HD3.out.grown hc hg)
    have HL4 := Lib.hid (lst_new (w := w) ho hl1 hl2 HD3.out.big)
    clear hc hg ho
    go_wp2_with fail
    refine hK.out _ _ (HD4.out.keep) (fun hHeld => ?_)
    clear hK K
    refine wpAnyH_ready (rs := [6]) (by kernel_rfl) (by simp) ?_
    refine AllReadyH.cons rfl (fun K hK => ?_) AllReadyH.nil
    go_simp
    refine (HPO.out _ _ HD4.out.cur (by omega)).mono ?_
    rintro e w6 ⟨a, rfl, _, hc, hg⟩
    have HD5 := Lib.hid (HD4.out.grown hc hg)
    have HL5 := Lib.hid (HL4.out.grown hg)
    clear hc hg
    go_wp2_with fail
    refine hK.out _ _ (HD5.out.keep) (fun hHeld => ?_)
    clear hK K
    refine wpAnyH_ready (rs := [7]) (by kernel_rfl) (by simp) ?_
    refine AllReadyH.cons rfl (fun K hK => ?_) AllReadyH.nil
    have r0 : w6.cell? ⟨w.heap.size, 0, none⟩ = some (.int .i64 0) := cell_of_block HD5.out.res 0
    have r1 : w6.cell? ⟨w.heap.size, 1, none⟩ = some (.bool false) := cell_of_block HD5.out.res 1
    have f0 := frozen_of_block HD5.out.res 0
    have f1 := frozen_of_block HD5.out.res 1
    have hS9 := HD5.out.stored
    have hL9 := (HL5.out.stored (x := .int .i64 n) (y := .bool g))
    go_simp
    refine hK.out _ _ (hS9.keep) (fun hHeld => ?_)
    clear hK K
    refine wpAnyH_take (i := 8) (oi := _) (v := ?_) rfl (by kernel_rfl) (by kernel_rfl) (by kernel_rfl) (fun _ _ _ h => h) (Or.inl ⟨by rfl, ?_⟩) (by assumption) ?_
    rotate_left
    · (intro w hSw; (try dsimp only at hSw); (first | (go_simp; done) | (go_simp; with_reducible rfl)))
    simp only [Act.put, List.getElem_toArray, List.getElem_cons_succ, List.getElem_cons_zero, List.setIfInBounds_toArray, List.set_cons_zero, List.set_cons_succ]
    refine wpAnyH_take (i := 9) (oi := _) (v := ?_) rfl (by kernel_rfl) (by kernel_rfl) (by kernel_rfl) (fun _ _ _ h => h) (Or.inl ⟨by rfl, ?_⟩) (by assumption) ?_
    rotate_left
    · (intro w hSw; (try dsimp only at hSw); (first | (go_simp; done) | (go_simp; with_reducible rfl)))
    simp only [Act.put, List.getElem_toArray, List.getElem_cons_succ, List.getElem_cons_zero, List.setIfInBounds_toArray, List.set_cons_zero, List.set_cons_succ]
    refine wpAnyH_done (by kernel_rfl) ?_ _
    refine NoPanic.normal ?_
    clear hHeld
    have hcell0 := cell_of_block hS9.res 0
    have hcell1 := cell_of_block hS9.res 1
    go_wp2_with fail
    exact bodyPost_ret (v := .tuple #[.agg #[.int .i64 n, .bool g], vl, .int .i64 a]) (by simp [results, Try.results23, go_sem, r0, r1]) rfl ⟨n, g, vl, xs, a, rfl, HN.out, owns_lower hL9.1 (by omega), hL9.2.2, hS9.below⟩
  · go_wp2_with fail
    refine (line_any (w.heap.size + 1) (w.heap.size + 1) 8 _ (HD2.out.cur) (by omega)).mono ?_
    rintro e w3 ⟨n, g, rfl, hn, hc, hg⟩
    have HDL := Lib.hid (HD2.out.grown hc hg)
    have k0 := cell_of_block HDL.out.box 0
    have k1 := cell_of_block HDL.out.box 1
    have q0 := frozen_of_block HDL.out.box 0
    have q1 := frozen_of_block HDL.out.box 1
    have HD2 := Lib.hid (HDL.out.restore n g)
    have HN := Lib.hid hn
    have HPO := Lib.hid (fun t W h ht => placeOn_any (w.heap.size + 1) (w.heap.size + 1) t n g W h ht hn)
    have HWK := Lib.hid (fun t W h ht => walk_any (w.heap.size + 1) (w.heap.size + 1) t n g W h ht hn)
    clear hn hc hg
    unfold rd at *
    go_wp2_with fail
    clear k0 k1 q0 q1
    generalize (w3.setCell ⟨K, 0, none⟩ (.int .i64 n)).setCell ⟨K, 1, none⟩ (.bool g) = W3 at *
    refine wp_region_noPanic ?_
    refine wp_region_held_drew (S := fun w' => w'.cell? ⟨K, 0, none⟩ = some (.int .i64 n) ∧ w'.cell? ⟨K, 1, none⟩ = some (.bool g)) (by kernel_rfl) HD2.out.drew.keep (fun hHeld => ?_)
    refine wpAnyH_take (i := 0) (oi := _) (v := ?_) rfl (by kernel_rfl) (by kernel_rfl) (by kernel_rfl) (fun _ _ _ h => h) (Or.inl ⟨by rfl, ?_⟩) (by assumption) ?_
    rotate_left
    · (intro w hSw; (try dsimp only at hSw); (first | (go_simp; done) | (go_simp; with_reducible rfl)))
    simp only [Act.put, List.getElem_toArray, List.getElem_cons_succ, List.getElem_cons_zero, List.setIfInBounds_toArray, List.set_cons_zero, List.set_cons_succ]
    refine wpAnyH_take (i := 1) (oi := _) (v := ?_) rfl (by kernel_rfl) (by kernel_rfl) (by kernel_rfl) (fun _ _ _ h => h) (Or.inl ⟨by rfl, ?_⟩) (by assumption) ?_
    rotate_left
    · (intro w hSw; (try dsimp only at hSw); (first | (go_simp; done) | (go_simp; with_reducible rfl)))
    simp only [Act.put, List.getElem_toArray, List.getElem_cons_succ, List.getElem_cons_zero, List.setIfInBounds_toArray, List.set_cons_zero, List.set_cons_succ]
    refine wpAnyH_take (i := 2) (oi := _) (v := ?_) rfl (by kernel_rfl) (by kernel_rfl) (by kernel_rfl) (fun _ _ _ h => h) (Or.inl ⟨by rfl, ?_⟩) (by assumption) ?_
    rotate_left
    · (intro w hSw; (try dsimp only at hSw); (first | (go_simp; done) | (go_simp; with_reducible rfl)))
    simp only [Act.put, List.getElem_toArray, List.getElem_cons_succ, List.getElem_cons_zero, List.setIfInBounds_toArray, List.set_cons_zero, List.set_cons_succ]
    refine wpAnyH_take (i := 4) (oi := _) (v := ?_) rfl (by kernel_rfl) (by kernel_rfl) (by kernel_rfl) (fun _ _ _ h => h) (Or.inl ⟨by rfl, ?_⟩) (by assumption) ?_
    rotate_left
    · (intro w hSw; (try dsimp only at hSw); (first | (go_simp; done) | (go_simp; with_reducible rfl)))
    simp only [Act.put, List.getElem_toArray, List.getElem_cons_succ, List.getElem_cons_zero, List.setIfInBounds_toArray, List.set_cons_zero, List.set_cons_succ]
    refine wpAnyH_take (i := 5) (oi := _) (v := ?_) rfl (by kernel_rfl) (by kernel_rfl) (by kernel_rfl) (fun _ _ _ h => h) (Or.inl ⟨by rfl, ?_⟩) (by assumption) ?_
    rotate_left
    · (intro w hSw; (try dsimp only at hSw); (first | (go_simp; done) | (go_simp; with_reducible rfl)))
    simp only [Act.put, List.getElem_toArray, List.getElem_cons_succ, List.getElem_cons_zero, List.setIfInBounds_toArray, List.set_cons_zero, List.set_cons_succ]
    have HD3 := Lib.hid HD2.out.drew
    refine wpAnyH_ready (rs := [3]) (by kernel_rfl) (by simp) ?_
    refine AllReadyH.cons rfl (fun K hK => ?_) AllReadyH.nil
    go_simp
    refine (HWK.out _ _ HD3.out.cur (by omega)).mono ?_
    rintro e w5 ⟨vl, xs, rfl, hl1, hl2, ho, hc, hg⟩
    have HD4 := Lib.hid (HD3.out.grown hc hg)
    have HL4 := Lib.hid (lst_new (w := w) ho hl1 hl2 HD3.out.big)
    clear hc hg ho
    go_wp2_with fail
    refine hK.out _ _ (HD4.out.keep) (fun hHeld => ?_)
    clear hK K
    refine wpAnyH_ready (rs := [6]) (by kernel_rfl) (by simp) ?_
    refine AllReadyH.cons rfl (fun K hK => ?_) AllReadyH.nil
    go_simp
    refine (HPO.out _ _ HD4.out.cur (by omega)).mono ?_
    rintro e w6 ⟨a, rfl, _, hc, hg⟩
    have HD5 := Lib.hid (HD4.out.grown hc hg)
    have HL5 := Lib.hid (HL4.out.grown hg)
    clear hc hg
    go_wp2_with fail
    refine hK.out _ _ (HD5.out.keep) (fun hHeld => ?_)
    clear hK K
    refine wpAnyH_ready (rs := [7]) (by kernel_rfl) (by simp) ?_
    refine AllReadyH.cons rfl (fun K hK => ?_) AllReadyH.nil
    have r0 : w6.cell? ⟨w.heap.size, 0, none⟩ = some (.int .i64 0) := cell_of_block HD5.out.res 0
    have r1 : w6.cell? ⟨w.heap.size, 1, none⟩ = some (.bool false) := cell_of_block HD5.out.res 1
    have f0 := frozen_of_block HD5.out.res 0
    have f1 := frozen_of_block HD5.out.res 1
    have hS9 := HD5.out.stored
    have hL9 := (HL5.out.stored (x := .int .i64 n) (y := .bool g))
    go_simp
    refine hK.out _ _ (hS9.keep) (fun hHeld => ?_)
    clear hK K
    refine wpAnyH_take (i := 8) (oi := _) (v := ?_) rfl (by kernel_rfl) (by kernel_rfl) (by kernel_rfl) (fun _ _ _ h => h) (Or.inl ⟨by rfl, ?_⟩) (by assumption) ?_
    rotate_left
    · (intro w hSw; (try dsimp only at hSw); (first | (go_simp; done) | (go_simp; with_reducible rfl)))
    simp only [Act.put, List.getElem_toArray, List.getElem_cons_succ, List.getElem_cons_zero, List.setIfInBounds_toArray, List.set_cons_zero, List.set_cons_succ]
    refine wpAnyH_take (i := 9) (oi := _) (v := ?_) rfl (by kernel_rfl) (by kernel_rfl) (by kernel_rfl) (fun _ _ _ h => h) (Or.inl ⟨by rfl, ?_⟩) (by assumption) ?_
    rotate_left
    · (intro w hSw; (try dsimp only at hSw); (first | (go_simp; done) | (go_simp; with_reducible rfl)))
    simp only [Act.put, List.getElem_toArray, List.getElem_cons_succ, List.getElem_cons_zero, List.setIfInBounds_toArray, List.set_cons_zero, List.set_cons_succ]
    refine wpAnyH_done (by kernel_rfl) ?_ _
    refine NoPanic.normal ?_
    clear hHeld
    have hcell0 := cell_of_block hS9.res 0
    have hcell1 := cell_of_block hS9.res 1
    go_wp2_with fail
    exact bodyPost_ret (v := .tuple #[.agg #[.int .i64 n, .bool g], vl, .int .i64 a]) (by simp [results, Try.results23, go_sem, r0, r1]) rfl ⟨n, g, vl, xs, a, rfl, HN.out, owns_lower hL9.1 (by omega), hL9.2.2, hS9.below⟩
end Go.Proofs.Ytiokgnabiidlbaa
