/-
  What is proved: contracts of the draws of arguments: a road and places. Conditions: the bytes read as bytes.
-/
import Derived.Test.YtiokgnabiidlbaaDrw
import Derived.Deep.RegionHeld3
namespace Go.Proofs.Ytiokgnabiidlbaa
open Go.RowKit
set_option linter.unusedVariables false
set_option linter.unusedSimpArgs false

/-- the state of a draw: the cursor lies in block w.heap.size + 1, the answer's road in block w.heap.size, the drawn road in block K -/
structure DSt (w : World) (n : Int) (g : Bool) (K t : Nat) (W : World) : Prop where
  res : W.heap[w.heap.size]? = some (.cells #[.int .i64 0, .bool false] 25 (0, 0))
  box : W.heap[K]? = some (.cells #[.int .i64 n, .bool g] 25 (0, 0))
  cur : CurOK (w.heap.size + 1) (w.heap.size + 1) t W
  below : Below w.heap.size w W
  lo : w.heap.size + 1 < K
theorem DSt.grown {w W W' : World} {n : Int} {g : Bool} {K t t' : Nat} (h : DSt w n g K t W) (hc : CurOK (w.heap.size + 1) (w.heap.size + 1) t' W') (hg : W.grownBy W' (some (w.heap.size + 1))) : DSt w n g K t' W' :=
  ⟨(hg.block _ (Array.getElem?_eq_some_iff.1 h.res).1 (by intro e; have := Option.some.inj e; omega)).trans h.res, (hg.block _ (Array.getElem?_eq_some_iff.1 h.box).1 (by intro e; have h1 := h.lo; have := Option.some.inj e; omega)).trans h.box, hc, h.below.grown hg h.below.size (fun k e => by cases e; omega), h.lo⟩
theorem DSt.drew {w W : World} {n : Int} {g : Bool} {K t : Nat} (h : DSt w n g K t W) : DSt w n g K t W.drew :=
  ⟨h.res, h.box, h.cur.below (below_drewN W 1) (h.cur.base), h.below.trans ((below_drewN W 1).mono h.below.size), h.lo⟩
abbrev DKeep (n : Int) (g : Bool) (K : Nat) (W : World) : Prop := W.cell? ⟨K, 0, none⟩ = some (.int .i64 n) ∧ W.cell? ⟨K, 1, none⟩ = some (.bool g)
theorem DSt.keep {w W : World} {n : Int} {g : Bool} {K t : Nat} (h : DSt w n g K t W) : DKeep n g K W := ⟨cell_of_block h.box 0, cell_of_block h.box 1⟩
/-- behind the store of the answer's road -/
structure DEnd (w : World) (n : Int) (g : Bool) (K : Nat) (W : World) : Prop where
  res : W.heap[w.heap.size]? = some (.cells #[.int .i64 n, .bool g] 25 (0, 0))
  keep : DKeep n g K W
  below : Below w.heap.size w W
theorem road_set (W : World) (b : Nat) (x0 x1 v0 v1 : Value) (t : TypeId) (h : W.heap[b]? = some (.cells #[x0, x1] t (0, 0))) : ((W.setCell ⟨b, 0, none⟩ v0).setCell ⟨b, 1, none⟩ v1).heap[b]? = some (.cells #[v0, v1] t (0, 0)) :=
  heap_setCell_same (W.setCell ⟨b, 0, none⟩ v0) b 1 _ t v1 (heap_setCell_same W b 0 _ t v0 h)
theorem DSt.stored {w W : World} {n : Int} {g : Bool} {K t : Nat} (h : DSt w n g K t W) : DEnd w n g K ((W.setCell ⟨w.heap.size, 0, none⟩ (.int .i64 n)).setCell ⟨w.heap.size, 1, none⟩ (.bool g)) := by
  have hlo := h.lo
  have hb : ∀ j, ((W.setCell ⟨w.heap.size, 0, none⟩ (.int .i64 n)).setCell ⟨w.heap.size, 1, none⟩ (.bool g)).cell? ⟨K, j, none⟩ = W.cell? ⟨K, j, none⟩ := fun j => by
    have e : ((W.setCell ⟨w.heap.size, 0, none⟩ (.int .i64 n)).setCell ⟨w.heap.size, 1, none⟩ (.bool g)).heap[K]? = W.heap[K]? :=
      (Below.heap_setCell (W.setCell ⟨w.heap.size, 0, none⟩ (.int .i64 n)) ⟨w.heap.size, 1, none⟩ (.bool g) K (by show K ≠ w.heap.size; omega)).trans (Below.heap_setCell W ⟨w.heap.size, 0, none⟩ (.int .i64 n) K (by show K ≠ w.heap.size; omega))
    simp only [World.cell?, e]
  exact ⟨road_set W w.heap.size _ _ _ _ _ h.res, ⟨(hb 0).trans h.keep.1, (hb 1).trans h.keep.2⟩, (h.below.setCell (p := ⟨w.heap.size, 0, none⟩) (Nat.le_refl _) _).setCell (p := ⟨w.heap.size, 1, none⟩) (Nat.le_refl _) _⟩
/-- the beginning: behind the draw of the road -/
theorem DSt.first {w w1 : World} {n : Int} {g : Bool} {t : Nat} {v : Value} (hc : CurOK (w.heap.size + 1) (w.heap.size + 1) t w1)
    (hg : ((w.alloc (.cells #[.int .i64 0, .bool false] 25)).alloc (.cells #[v, .int .i64 0, .int .u64 0] 66)).grownBy w1 (some (w.heap.size + 1))) :
    DSt w n g w1.heap.size t (w1.alloc (.cells #[.int .i64 n, .bool g] 25)) := by
  have hsz := hg.size
  simp only [World.size_alloc] at hsz
  have hr : ((w.alloc (.cells #[.int .i64 0, .bool false] 25)).alloc (.cells #[v, .int .i64 0, .int .u64 0] 66)).heap[w.heap.size]? = some (.cells #[.int .i64 0, .bool false] 25 (0, 0)) :=
    ((below_new (w.alloc (.cells #[.int .i64 0, .bool false] 25)) _).block w.heap.size (by simp)).trans (MapKept.heap_alloc w _).1
  have hr1 : w1.heap[w.heap.size]? = some (.cells #[.int .i64 0, .bool false] 25 (0, 0)) := (hg.block _ (Array.getElem?_eq_some_iff.1 hr).1 (by intro e; have := Option.some.inj e; omega)).trans hr
  refine ⟨((below_new w1 _).block w.heap.size (Array.getElem?_eq_some_iff.1 hr1).1).trans hr1, (MapKept.heap_alloc w1 _).1, hc.alloc _ hc.base, ?_, by omega⟩
  have hb : Below w.heap.size w ((w.alloc (.cells #[.int .i64 0, .bool false] 25)).alloc (.cells #[v, .int .i64 0, .int .u64 0] 66)) := ((Below.refl _ _).alloc (Nat.le_refl _) _).alloc (by simp) _
  exact ((hb.grown hg hb.size (fun k e => by cases e; omega)).alloc (by omega) _)
set_option maxHeartbeats 1600000 in
set_option maxRecDepth 20000 in
theorem drawNbr_any (v : Value) (w : World) (hv : CodeOK w v) :
    Calls Try.prog 75 #[v] w fun e w' => ∃ (n : Int) (g : Bool) (a : Int), e = .returned (.tuple #[rd n g, .int .i64 a]) ∧ SizeOk n ∧ Below w.heap.size w w' := by
  have HC0 := Lib.hid (show ∀ a n cp, v = .slice a n cp → CurOK (w.heap.size + 1) (w.heap.size + 1) 0 ((w.alloc (.cells #[.int .i64 0, .bool false] 25)).alloc (.cells #[.slice a n cp, .int .i64 0, .int .u64 0] 66)) from by
    intro a n cp e
    subst e
    have h := cur_new (hv.below (below_new w (.cells #[.int .i64 0, .bool false] 25)))
    simpa using h)
  obtain ⟨av, nv, cv, hvv, _⟩ := hv
  subst hvv
  go_enter Try.func75, Try.ntmps75
  go_wp2_with fail
  refine (road_any (w.heap.size + 1) (w.heap.size + 1) 0 _ (HC0.out _ _ _ rfl) (by omega)).mono ?_
  rintro e w1 ⟨n, g, rfl, hn, hc, hg⟩
  have HD := Lib.hid (DSt.first (n := n) (g := g) hc hg)
  have HN := Lib.hid hn
  have HPO := Lib.hid (fun t w h ht => placeOn_any (w.heap.size + 1) (w.heap.size + 1) t n g w h ht hn)
  have HPO := Lib.hid (fun t W h ht => placeOn_any (w.heap.size + 1) (w.heap.size + 1) t n g W h ht hn)
  have hlo : w.heap.size + 1 < w1.heap.size := HD.out.lo
  clear hn hc hg HC0
  unfold rd at *
  go_wp2_with fail
  generalize w1.alloc (.cells #[.int .i64 n, .bool g] 25) = W1 at *
  generalize w1.heap.size = K at *
  refine wp_region_noPanic ?_
  refine wp_region_held_drew (S := fun w' => w'.cell? ⟨K, 0, none⟩ = some (.int .i64 n) ∧ w'.cell? ⟨K, 1, none⟩ = some (.bool g)) (by kernel_rfl) HD.out.drew.keep (fun hHeld => ?_)
  have HD1 := Lib.hid HD.out.drew
  refine wpAnyH_take (i := 0) (oi := _) (v := ?_) rfl (by kernel_rfl) (by kernel_rfl) (by kernel_rfl) (fun _ _ _ h => h) (Or.inl ⟨by rfl, ?_⟩) (by assumption) ?_
  rotate_left
  · (intro w hSw; (try dsimp only at hSw); (first | (go_simp; done) | (go_simp; with_reducible rfl)))
  simp only [Act.put, List.getElem_toArray, List.getElem_cons_succ, List.getElem_cons_zero, List.setIfInBounds_toArray, List.set_cons_zero, List.set_cons_succ]
  refine wpAnyH_take (i := 1) (oi := _) (v := ?_) rfl (by kernel_rfl) (by kernel_rfl) (by kernel_rfl) (fun _ _ _ h => h) (Or.inl ⟨by rfl, ?_⟩) (by assumption) ?_
  rotate_left
  · (intro w hSw; (try dsimp only at hSw); (first | (go_simp; done) | (go_simp; with_reducible rfl)))
  simp only [Act.put, List.getElem_toArray, List.getElem_cons_succ, List.getElem_cons_zero, List.setIfInBounds_toArray, List.set_cons_zero, List.set_cons_succ]
  refine wpAnyH_take (i := 2) (oi := _) (v := ?_) rfl (by kernel_rfl) (by kernel_rfl) (by kernel_rfl) (fun _ _ _ h => h) (Or.inl ⟨by rfl, ?_⟩) (by assumption) ?_
  rotate_left
  · (intro w hSw; (try dsimp only at hSw); (first | (go_simp; done) | (go_simp; with_reducible rfl)))
  simp only [Act.put, List.getElem_toArray, List.getElem_cons_succ, List.getElem_cons_zero, List.setIfInBounds_toArray, List.set_cons_zero, List.set_cons_succ]
  refine wpAnyH_ready (rs := [3]) (by kernel_rfl) (by simp) ?_
  refine AllReadyH.cons rfl (fun K hK => ?_) AllReadyH.nil
  go_simp
  refine (HPO.out _ _ HD1.out.cur (by omega)).mono ?_
  rintro e w3 ⟨a, rfl, _, hc, hg⟩
  have HD2 := Lib.hid (HD1.out.grown hc hg)
  clear hc hg hHeld
  go_wp2_with fail
  refine hK.out _ _ (HD2.out.keep) (fun hHeld => ?_)
  clear hK K
  refine wpAnyH_ready (rs := [4]) (by kernel_rfl) (by simp) ?_
  refine AllReadyH.cons rfl (fun K hK => ?_) AllReadyH.nil
  have r0 : w3.cell? ⟨w.heap.size, 0, none⟩ = some (.int .i64 0) := cell_of_block HD2.out.res 0
  have r1 : w3.cell? ⟨w.heap.size, 1, none⟩ = some (.bool false) := cell_of_block HD2.out.res 1
  have f0 := frozen_of_block HD2.out.res 0
  have f1 := frozen_of_block HD2.out.res 1
  have hS9 := HD2.out.stored
  clear hHeld
  go_simp
  refine hK.out _ _ (hS9.keep) (fun hHeld => ?_)
  clear hK K
  refine wpAnyH_take (i := 5) (oi := _) (v := ?_) rfl (by kernel_rfl) (by kernel_rfl) (by kernel_rfl) (fun _ _ _ h => h) (Or.inl ⟨by rfl, ?_⟩) (by assumption) ?_
  rotate_left
  · (intro w hSw; (try dsimp only at hSw); (first | (go_simp; done) | (go_simp; with_reducible rfl)))
  simp only [Act.put, List.getElem_toArray, List.getElem_cons_succ, List.getElem_cons_zero, List.setIfInBounds_toArray, List.set_cons_zero, List.set_cons_succ]
  refine wpAnyH_done (by kernel_rfl) ?_ _
  refine NoPanic.normal ?_
  have hcell0 := cell_of_block hS9.res 0
  have hcell1 := cell_of_block hS9.res 1
  clear hHeld
  go_wp2_with fail
  exact bodyPost_ret (v := .tuple #[.agg #[.int .i64 n, .bool g], .int .i64 a]) (by simp [results, Try.results75, go_sem, r0, r1]) rfl ⟨n, g, a, rfl, HN.out, hS9.below⟩
end Go.Proofs.Ytiokgnabiidlbaa
