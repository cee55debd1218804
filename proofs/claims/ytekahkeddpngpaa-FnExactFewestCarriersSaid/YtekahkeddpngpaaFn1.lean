/-
  What is proved: impl.IsWalk, impl.GapOf and the model's answer alike; helpers on a list of lists. Conditions: those of each contract.
-/
import Derived.Test.YtekahkeddpngpaaAre
namespace Go.Proofs.Ytekahkeddpngpaa
open Go.RowKit

theorem ret_bool2 {a b c d : Bool} (h : a = b) (h2 : c = d) : Ending.returned (.tuple #[.bool a, .bool c]) = .returned (.tuple #[.bool b, .bool d]) := by rw [h, h2]
open Classical in
/-- whether xs is a walk -/
noncomputable def walkD (n : Int) (g : Bool) (xs : List Int) : Bool := decide (Walk n g xs)
theorem walkD_iff (n : Int) (g : Bool) (xs : List Int) : walkD n g xs = true ↔ Walk n g xs := by unfold walkD; simp
theorem walkD_no {n : Int} {g : Bool} {xs : List Int} (h : walkD n g xs = false) : ¬ Walk n g xs := fun h2 => by rw [(walkD_iff n g xs).2 h2] at h; cases h
theorem bool_of_iff {a b : Bool} {P : Prop} (h : a = true ↔ P) (h2 : b = true ↔ P) : a = b := by
  cases a <;> cases b <;> simp_all
theorem and_iff {a b : Bool} {P Q : Prop} (h : a = true ↔ P) (h2 : b = true ↔ Q) : (a && b) = true ↔ P ∧ Q := by
  rw [Bool.and_eq_true, h, h2]
theorem cell_new (w : World) (cs : Array Value) (t : TypeId) (j : Nat) : (w.alloc (.cells cs t)).cell? ⟨w.heap.size, j, none⟩ = cs[j]? := by
  have hg : (w.alloc (.cells cs t)).heap[w.heap.size]? = some (.cells cs t) := by
    unfold World.alloc
    exact Array.getElem?_push_size
  unfold World.cell?
  simp only [hg, Option.isSome_none, Bool.false_eq_true, if_false]
theorem one_list {w : World} {v : Value} {xs : List Int} {t : TypeId} (h : ReadsI w v xs) : ReadsL (w.alloc (.cells #[v] t)) (.slice (some ⟨w.heap.size, 0, none⟩) 1 1) [xs] := by
  refine ⟨_, 1, rfl, Nat.le_refl _, by simp [maxLen], fun j ys hj => ?_⟩
  match j, hj with
  | 0, hj =>
    cases hj
    exact ⟨_, 0, v, rfl, by simp, by rw [cell_new]; rfl, h.below (below_new w _)⟩
theorem one_list_drew {w : World} {v : Value} {xs : List Int} {t : TypeId} (h : ReadsI w v xs) : ReadsL (w.alloc (.cells #[v] t)).drew (.slice (some ⟨w.heap.size, 0, none⟩) 1 1) [xs] :=
  (one_list h).below (below_drewN _ 1)
theorem two_list {w : World} {v u : Value} {xs ys : List Int} {t : TypeId} (h : ReadsI w v xs) (h2 : ReadsI w u ys) : ReadsL (w.alloc (.cells #[v, u] t)) (.slice (some ⟨w.heap.size, 0, none⟩) 2 2) [xs, ys] := by
  refine ⟨_, 2, rfl, Nat.le_refl _, by simp [maxLen], fun j zs hj => ?_⟩
  match j, hj with
  | 0, hj =>
    cases hj
    exact ⟨_, 0, v, rfl, by simp, by rw [cell_new]; rfl, h.below (below_new w _)⟩
  | 1, hj =>
    cases hj
    exact ⟨_, 0, u, rfl, by simp, by rw [cell_new]; rfl, h2.below (below_new w _)⟩
abbrev KeepR (base : Nat) (n : Int) (g : Bool) (v : Value) (xs : List Int) (w w1 : World) : Prop :=
  Boxed base n g w w1 ∧ w1.cell? ⟨base, 0, none⟩ = some (.int .i64 n) ∧ w1.cell? ⟨base, 1, none⟩ = some (.bool g) ∧ ReadsI w1 v xs
theorem keepB {base : Nat} {n : Int} {g : Bool} {v : Value} {xs : List Int} {w w1 w2 : World} (h : KeepR base n g v xs w w1) (hb : Below w1.heap.size w1 w2) : KeepR base n g v xs w w2 :=
  ⟨h.1.next hb, (h.1.next hb).c0, (h.1.next hb).c1, h.2.2.2.below hb⟩
theorem keepA {base : Nat} {n : Int} {g : Bool} {v : Value} {xs : List Int} {w w1 : World} {o : Obj} (h : KeepR base n g v xs w w1) : KeepR base n g v xs w (w1.alloc o) := keepB h (below_new w1 o)
theorem keepRd {base : Nat} {n : Int} {g : Bool} {v : Value} {xs : List Int} {w w1 : World} (h : KeepR base n g v xs w w1) : ReadsI w1 v xs := h.2.2.2
theorem one_list_at {w : World} {v : Value} {xs : List Int} {t : TypeId} (h : ReadsI w v xs) (k : Nat) (hk : w.heap.size = k) : ReadsL (w.alloc (.cells #[v] t)) (.slice (some ⟨k, 0, none⟩) 1 1) [xs] := by
  subst hk
  exact one_list h
theorem two_list_at {w : World} {v u : Value} {xs ys : List Int} {t : TypeId} (h : ReadsI w v xs) (h2 : ReadsI w u ys) (k : Nat) (hk : w.heap.size = k) : ReadsL (w.alloc (.cells #[v, u] t)) (.slice (some ⟨k, 0, none⟩) 2 2) [xs, ys] := by
  subst hk
  exact two_list h h2
end Go.Proofs.Ytekahkeddpngpaa
