/-
  What is proved: the contracts of IsWalker of the model and of the program. Conditions: slices that read as lists.
-/
import Derived.Test.YtiokgnabiidlbaaDoorMed
import Derived.Deep.RegionHeld3
namespace Go.Proofs.YtiokgnabiidlbaaDoor
open Go.RowKit
set_option linter.unusedVariables false
set_option linter.unusedSimpArgs false

theorem walkers_one {w : World} {k : Wk} {m : Value} {t : TypeId} (h : ReadsI w m k.ms) (b : Nat) (hk : w.heap.size = b) : ReadsW (w.alloc (.cells #[.int .i64 k.s, .int .i64 k.f, .int .i64 k.d, m] t)) (.slice (some ⟨b, 0, none⟩) 1 1) [k] := by
  subst hk
  refine ⟨_, 1, rfl, Nat.le_refl _, by simp [maxLen], fun j x hj => ?_⟩
  match j, hj with
  | 0, hj =>
    cases hj
    exact ⟨_, 0, m, rfl, by simp, by rw [cell_new]; rfl, by rw [cell_new]; rfl, by rw [cell_new]; rfl, by rw [cell_new]; rfl, h.below (below_new w _)⟩
theorem walkers_two {w : World} {k k2 : Wk} {m m2 : Value} {t : TypeId} (h : ReadsI w m k.ms) (h2 : ReadsI w m2 k2.ms) (b : Nat) (hk : w.heap.size = b) : ReadsW (w.alloc (.cells #[.int .i64 k.s, .int .i64 k.f, .int .i64 k.d, m, .int .i64 k2.s, .int .i64 k2.f, .int .i64 k2.d, m2] t)) (.slice (some ⟨b, 0, none⟩) 2 2) [k, k2] := by
  subst hk
  refine ⟨_, 2, rfl, Nat.le_refl _, by simp [maxLen], fun j x hj => ?_⟩
  match j, hj with
  | 0, hj =>
    cases hj
    exact ⟨_, 0, m, rfl, by simp, by rw [cell_new]; rfl, by rw [cell_new]; rfl, by rw [cell_new]; rfl, by rw [cell_new]; rfl, h.below (below_new w _)⟩
  | 1, hj =>
    cases hj
    exact ⟨_, 0, m2, rfl, by simp, by rw [cell_new]; rfl, by rw [cell_new]; rfl, by rw [cell_new]; rfl, by rw [cell_new]; rfl, h2.below (below_new w _)⟩
theorem wksB_one (n : Int) (g : Bool) (k : Wk) : wksB n g [k] = wkB n g k := by
  rw [Bool.eq_iff_iff, wksB_iff]
  constructor
  · intro h
    exact h.2 0 k rfl
  · intro h
    refine ⟨((wkB_iff n g k).1 h).road, fun j x hj => ?_⟩
    match j, hj with
    | 0, hj => cases hj; exact h
theorem wksB_two (n : Int) (g : Bool) (k k2 : Wk) : wksB n g [k, k2] = (wkB n g k && wkB n g k2) := by
  rw [Bool.eq_iff_iff, wksB_iff, Bool.and_eq_true]
  constructor
  · intro h
    exact ⟨h.2 0 k rfl, h.2 1 k2 rfl⟩
  · intro h
    refine ⟨((wkB_iff n g k).1 h.1).road, fun j x hj => ?_⟩
    match j, hj with
    | 0, hj => cases hj; exact h.1
    | 1, hj => cases hj; exact h.2
theorem areWalkers_one (n : Int) (g : Bool) (v : Value) (k : Wk) (w : World) (hv : ReadsW w v [k]) :
    Calls Tryd.prog 24 #[rd n g, v] w fun e w' => e = .returned (.bool (wkB n g k)) ∧ Below w.heap.size w w' := by
  rw [← wksB_one]
  exact areWalkers_any n g v [k] w hv
theorem areWalkers_two (n : Int) (g : Bool) (v : Value) (k k2 : Wk) (w : World) (hv : ReadsW w v [k, k2]) :
    Calls Tryd.prog 24 #[rd n g, v] w fun e w' => e = .returned (.bool (wkB n g k && wkB n g k2)) ∧ Below w.heap.size w w' := by
  rw [← wksB_two]
  exact areWalkers_any n g v [k, k2] w hv
/-- what stays: the boxes of the road and of a walker -/
abbrev KeepW (base : Nat) (n : Int) (g : Bool) (k : Wk) (m : Value) (w w1 : World) : Prop :=
  Boxed base n g w w1 ∧ w1.cell? ⟨base, 0, none⟩ = some (.int .i64 n) ∧ w1.cell? ⟨base, 1, none⟩ = some (.bool g) ∧ Blk w1 (base + 1) #[.int .i64 k.s, .int .i64 k.f, .int .i64 k.d, m] 32 ∧
  w1.cell? ⟨base + 1, 0, none⟩ = some (.int .i64 k.s) ∧ w1.cell? ⟨base + 1, 1, none⟩ = some (.int .i64 k.f) ∧ w1.cell? ⟨base + 1, 2, none⟩ = some (.int .i64 k.d) ∧ w1.cell? ⟨base + 1, 3, none⟩ = some m
theorem keepW_mk {base : Nat} {n : Int} {g : Bool} {k : Wk} {m : Value} {w w1 : World} (h : Boxed base n g w w1) (h2 : Blk w1 (base + 1) #[.int .i64 k.s, .int .i64 k.f, .int .i64 k.d, m] 32) : KeepW base n g k m w w1 :=
  ⟨h, h.c0, h.c1, h2, h2.cell 0, h2.cell 1, h2.cell 2, h2.cell 3⟩
theorem keepW {base : Nat} {n : Int} {g : Bool} {k : Wk} {m : Value} {w w1 w2 : World} (h : KeepW base n g k m w w1) (hb : Below w1.heap.size w1 w2) : KeepW base n g k m w w2 :=
  keepW_mk (h.1.next hb) (h.2.2.2.1.below hb)
theorem keepW_first (w : World) (n : Int) (g : Bool) (k : Wk) (m : Value) : KeepW w.heap.size n g k m w ((w.alloc (.cells #[.int .i64 n, .bool g] 30)).alloc (.cells #[.int .i64 k.s, .int .i64 k.f, .int .i64 k.d, m] 32)) :=
  keepW_mk ((Boxed.first w n g _).next (below_new _ _)) (blk_at _ _ _ _ (by simp))
end Go.Proofs.YtiokgnabiidlbaaDoor
