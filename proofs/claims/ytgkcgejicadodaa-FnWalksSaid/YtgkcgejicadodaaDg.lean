/-
  What is proved: contracts of the draws of arguments: a road and places. Conditions: the bytes read as bytes.
-/
import Derived.Test.YtgkcgejicadodaaDrw
import Derived.Deep.RegionHeld3
namespace Go.Proofs.Ytgkcgejicadodaa
open Go.RowKit
set_option linter.unusedVariables false
set_option linter.unusedSimpArgs false

/-- the state of a draw: the cursor lies in block w.heap.size + 1, the answer's road in block w.heap.size, the drawn road in block K -/
structure DSt (w : World) (n : Int) (g : Bool) (K t : Nat) (W : World) : Prop where
  res : W.heap[w.heap.size]? = some (.cells #[.int .i64 0, .bool false] 25 (0, 0))
  box : W.heap[K]? = some (.cells #[.int .i64 n, .bool g] 25 (0, 0))
  cur : CurOK (w.heap.size + 1) (w.heap.size + 1) t W
  below : Below w.heap.size w W
  lo : w.heap.size + 1 < K
theorem DSt.grown {w W W' : World} {n : Int} {g : Bool} {K t t' : Nat} (h : DSt w n g K t W) (hc : CurOK (w.heap.size + 1) (w.heap.size + 1) t' W') (hg : W.grownBy W' (some (w.heap.size + 1))) : DSt w n g K t' W' :=
  ⟨(hg.block _ (Array.getElem?_eq_some_iff.1 h.res).1 (by intro e; have := Option.some.inj e; omega)).trans h.res, (hg.block _ (Array.getElem?_eq_some_iff.1 h.box).1 (by intro e; have h1 := h.lo; have := Option.some.inj e; omega)).trans h.box, hc, h.below.grown hg h.below.size (fun k e => by cases e; omega), h.lo⟩
theorem DSt.drew {w W : World} {n : Int} {g : Bool} {K t : Nat} (h : DSt w n g K t W) : DSt w n g K t W.drew :=
  ⟨h.res, h.box, h.cur.below (below_drewN W 1) (h.cur.base), h.below.trans ((below_drewN W 1).mono h.below.size), h.lo⟩
abbrev DKeep (n : Int) (g : Bool) (K : Nat) (W : World) : Prop := W.cell? ⟨K, 0, none⟩ = some (.int .i64 n) ∧ W.cell? ⟨K, 1, none⟩ = some (.bool g)
theorem DSt.keep {w W : World} {n : Int} {g : Bool} {K t : Nat} (h : DSt w n g K t W) : DKeep n g K W := ⟨cell_of_block h.box 0, cell_of_block h.box 1⟩
/-- behind the store of the answer's road -/
structure DEnd (w : World) (n : Int) (g : Bool) (K : Nat) (W : World) : Prop where
  res : W.heap[w.heap.size]? = some (.cells #[.int .i64 n, .bool g] 25 (0, 0))
  keep : DKeep n g K W
  below : Below w.heap.size w W
theorem road_set (W : World) (b : Nat) (x0 x1 v0 v1 : Value) (t : TypeId) (h : W.heap[b]? = some (.cells #[x0, x1] t (0, 0))) : ((W.setCell ⟨b, 0, none⟩ v0).setCell ⟨b, 1, none⟩ v1).heap[b]? = some (.cells #[v0, v1] t (0, 0)) :=
  heap_setCell_same (W.setCell ⟨b, 0, none⟩ v0) b 1 _ t v1 (heap_setCell_same W b 0 _ t v0 h)
theorem DSt.stored {w W : World} {n : Int} {g : Bool} {K t : Nat} (h : DSt w n g K t W) : DEnd w n g K ((W.setCell ⟨w.heap.size, 0, none⟩ (.int .i64 n)).setCell ⟨w.heap.size, 1, none⟩ (.bool g)) := by
  have hlo := h.lo
  have hb : ∀ j, ((W.setCell ⟨w.heap.size, 0, none⟩ (.int .i64 n)).setCell ⟨w.heap.size, 1, none⟩ (.bool g)).cell? ⟨K, j, none⟩ = W.cell? ⟨K, j, none⟩ := fun j => by
    have e : ((W.setCell ⟨w.heap.size, 0, none⟩ (.int .i64 n)).setCell ⟨w.heap.size, 1, none⟩ (.bool g)).heap[K]? = W.heap[K]? :=
      (Below.heap_setCell (W.setCell ⟨w.heap.size, 0, none⟩ (.int .i64 n)) ⟨w.heap.size, 1, none⟩ (.bool g) K (by show K ≠ w.heap.size; omega)).trans (Below.heap_setCell W ⟨w.heap.size, 0, none⟩ (.int .i64 n) K (by show K ≠ w.heap.size; omega))
    simp only [World.cell?, e]
  exact ⟨road_set W w.heap.size _ _ _ _ _ h.res, ⟨(hb 0).trans h.keep.1, (hb 1).trans h.keep.2⟩, (h.below.setCell (p := ⟨w.heap.size, 0, none⟩) (Nat.le_refl _) _).setCell (p := ⟨w.heap.size, 1, none⟩) (Nat.le_refl _) _⟩
/-- the beginning: behind the draw of the road -/
theorem DSt.first {w w1 : World} {n : Int} {g : Bool} {t : Nat} {v : Value} (hc : CurOK (w.heap.size + 1) (w.heap.size + 1) t w1)
    (hg : ((w.alloc (.cells #[.int .i64 0, .bool false] 25)).alloc (.cells #[v, .int .i64 0, .int .u64 0] 54)).grownBy w1 (some (w.heap.size + 1))) :
    DSt w n g w1.heap.size t (w1.alloc (.cells #[.int .i64 n, .bool g] 25)) := by
  have hsz := hg.size
  simp only [World.size_alloc] at hsz
  have hr : ((w.alloc (.cells #[.int .i64 0, .bool false] 25)).alloc (.cells #[v, .int .i64 0, .int .u64 0] 54)).heap[w.heap.size]? = some (.cells #[.int .i64 0, .bool false] 25 (0, 0)) :=
    ((below_new (w.alloc (.cells #[.int .i64 0, .bool false] 25)) _).block w.heap.size (by simp)).trans (MapKept.heap_alloc w _).1
  have hr1 : w1.heap[w.heap.size]? = some (.cells #[.int .i64 0, .bool false] 25 (0, 0)) := (hg.block _ (Array.getElem?_eq_some_iff.1 hr).1 (by intro e; have := Option.some.inj e; omega)).trans hr
  refine ⟨((below_new w1 _).block w.heap.size (Array.getElem?_eq_some_iff.1 hr1).1).trans hr1, (MapKept.heap_alloc w1 _).1, hc.alloc _ hc.base, ?_, by omega⟩
  have hb : Below w.heap.size w ((w.alloc (.cells #[.int .i64 0, .bool false] 25)).alloc (.cells #[v, .int .i64 0, .int .u64 0] 54)) := ((Below.refl _ _).alloc (Nat.le_refl _) _).alloc (by simp) _
  exact ((hb.grown hg hb.size (fun k e => by cases e; omega)).alloc (by omega) _)
end Go.Proofs.Ytgkcgejicadodaa
