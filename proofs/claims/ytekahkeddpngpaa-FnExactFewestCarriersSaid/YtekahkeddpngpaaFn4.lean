/-
  What is proved: impl.MirrorWalk, impl.ShiftWalk, impl.BackWalk and the model's answer alike. Conditions: those of each contract.
-/
import Derived.Test.YtekahkeddpngpaaFn2
import Derived.Deep.AppendLies
import Derived.Deep.RegionHeld3
namespace Go.Proofs.Ytekahkeddpngpaa
open Go.RowKit

theorem made_at (w : World) (base k : Nat) (hk : w.heap.size = k) (hb : base ≤ k) : (w.alloc (.cells #[] 3)).ownsRow base 3 1 (.slice (some ⟨k, 0, none⟩) 0 0) 0 [] := by
  subst hk
  exact World.ownsRow_made w #[] 0 hb (by decide) (by simp)
theorem cell_at (w : World) (cs : Array Value) (t : TypeId) (k : Nat) (u : Value) (hk : w.heap.size = k) (hu : cs[0]? = some u) : (w.alloc (.cells cs t)).cell? ⟨k, 0, none⟩ = some u := by
  subst hk
  rw [cell_new]
  exact hu
theorem owns_out {base : Nat} {n : Int} {g : Bool} {w wr : World} {v : Value} {zs : List Int} {b : Bool} (h : Boxed base n g w wr) (ho : wr.ownsRow (base + 1) 3 1 v zs.length (zs.map iv)) : OwnsB base zs b w (.returned (.tuple #[v, .bool b])) wr :=
  ⟨v, rfl, owns_lower ho (Nat.le_succ _), h.below⟩
theorem boxed_append {base : Nat} {n : Int} {g : Bool} {w wr w1 : World} {v : Value} {o : Obj} (h : Boxed base n g w wr) (hg : (wr.alloc o).grownBy w1 v.ownBlock) (hv : ∀ b, v.ownBlock = some b → base + 1 ≤ b) : Boxed base n g w w1 :=
  (h.next (below_new wr o)).nextAt (Nat.lt_succ_self _) (below_grown hg hv (by have := h.size; simp; omega))
theorem boxed_appendD {base : Nat} {n : Int} {g : Bool} {w wr w1 : World} {v : Value} {o : Obj} (h : Boxed base n g w wr) (hg : (wr.alloc o).drew.grownBy w1 v.ownBlock) (hv : ∀ b, v.ownBlock = some b → base + 1 ≤ b) : Boxed base n g w w1 :=
  ((h.next (below_new wr o)).next (below_drewN _ 1)).nextAt (Nat.lt_succ_self _) (below_grown hg hv (by have := h.size; simp; omega))
theorem sOf {base : Nat} {n : Int} {g : Bool} {w w1 : World} {b i : Nat} {u : Value} (h : Boxed base n g w w1) (hbl : b < base) (h0 : w.cell? ⟨b, i, none⟩ = some u) (hbase : base = w.heap.size) : Boxed base n g w w1 ∧ w1.cell? ⟨base, 0, none⟩ = some (.int .i64 n) ∧ w1.cell? ⟨b, i, none⟩ = some u := by
  subst hbase
  exact ⟨h, h.c0, (h.below.cell (p := ⟨b, i, none⟩) hbl).trans h0⟩
theorem append_below {base n : Nat} {wr w1 : World} {v : Value} {xs : List Value} {o : Obj} (_h : wr.ownsRow base 3 1 v n xs) (_hg : (wr.alloc o).grownBy w1 v.ownBlock) : True := trivial
/-- behind k rounds the list holds what f makes of the first k numbers -/
def LRel (n : Int) (g : Bool) (xs : List Int) (f : Int → Int) (base : Nat) (w : World) (v i : Value) (wr : World) : Prop :=
  Boxed base n g w wr ∧ ∃ k : Nat, k ≤ xs.length ∧ i = .int .i64 k ∧ wr.ownsRow (base + 1) 3 1 v k (((xs.take k).map f).map iv)
theorem take_map_snoc (xs : List Int) (f : Int → Int) (k : Nat) (x : Int) (h : xs[k]? = some x) : ((xs.take k).map f).map iv ++ [Value.int .i64 (f x)] = ((xs.take (k + 1)).map f).map iv := by
  obtain ⟨hk, rfl⟩ := List.getElem?_eq_some_iff.1 h
  rw [List.take_succ_eq_append_getElem hk]
  simp only [List.map_append, List.map_cons, List.map_nil]
theorem lrel_next {n : Int} {g : Bool} {xs : List Int} {f : Int → Int} {base : Nat} {w wr : World} {v i : Value} {k : Nat} {x : Int} (hx : xs[k]? = some x) (hi : i = .int .i64 ((k + 1 : Nat) : Int)) (h : Boxed base n g w wr) (ho : wr.ownsRow (base + 1) 3 1 v (k + 1) (((xs.take k).map f).map iv ++ [Value.int .i64 (f x)])) : LRel n g xs f base w v i wr := by
  refine ⟨h, k + 1, (List.getElem?_eq_some_iff.1 hx).1, hi, ?_⟩
  rw [← take_map_snoc xs f k x hx]
  exact ho
theorem lrel_next2 {n : Int} {g : Bool} {xs : List Int} {f : Int → Int} {base : Nat} {w wr : World} {v i : Value} {k : Nat} {x : Int} {ys : List Value} (hys : ((xs.take k).map f).map iv = ys) (hx : xs[k]? = some x) (hi : i = .int .i64 ((k + 1 : Nat) : Int)) (h : Boxed base n g w wr) (ho : wr.ownsRow (base + 1) 3 1 v (k + 1) (ys ++ [Value.int .i64 (f x)])) : LRel n g xs f base w v i wr := by
  subst hys
  exact lrel_next hx hi h ho
theorem lrel_end {n : Int} {g : Bool} {xs : List Int} {f : Int → Int} {base : Nat} {w wr : World} {v : Value} {k : Nat} {b : Bool} (hk : k = xs.length) (h : Boxed base n g w wr) (ho : wr.ownsRow (base + 1) 3 1 v k (((xs.take k).map f).map iv)) : OwnsB base (xs.map f) b w (.returned (.tuple #[v, .bool b])) wr := by
  subst hk
  rw [List.take_length] at ho
  exact owns_out h (by rw [List.length_map]; exact ho)
theorem lrel_endI {n : Int} {g : Bool} {xs : List Int} {f : Int → Int} {base : Nat} {w wr : World} {v : Value} {k : Nat} (hk : k = xs.length) (h : Boxed base n g w wr) (ho : wr.ownsRow (base + 1) 3 1 v k (((xs.take k).map f).map iv)) : OwnsI base (xs.map f) w (.returned v) wr := by
  subst hk
  rw [List.take_length] at ho
  exact ⟨v, rfl, owns_lower (by rw [List.length_map]; exact ho) (Nat.le_succ _), h.below⟩
theorem owns_R {base : Nat} {R : List Int × Bool} {zs : List Int} {b : Bool} {w w' : World} {e : Ending} (hR : R = (zs, b)) (h : OwnsB base zs b w e w') : OwnsB base R.1 R.2 w e w' := by
  rw [hR]
  exact h
noncomputable def mirrorR (n : Int) (g : Bool) (xs : List Int) : List Int × Bool := if walkD n g xs = true then (xs.map (fun p => n - 1 - p), true) else ([], false)
end Go.Proofs.Ytekahkeddpngpaa
