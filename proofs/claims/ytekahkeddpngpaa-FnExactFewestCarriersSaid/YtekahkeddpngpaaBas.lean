/-
  What is proved: the contracts of the small functions on roads and places, of the program and of the model. Conditions: those of each contract.
-/
import Derived.Test.YtekahkeddpngpaaProg
import Derived.WalkKit
import Derived.WalkLawsBesides
import Derived.LoopTactic
import Derived.Lib.Hide
namespace Go.Proofs.Ytekahkeddpngpaa
open Go.RowKit

/-- a road as a value -/
def rd (n : Int) (g : Bool) : Value := .agg #[.int .i64 n, .bool g]
/-- a valid road -/
def roadB (n : Int) (g : Bool) : Bool := decide (2 ≤ n) && decide (n ≤ 24) && (!g || decide (2 < n))
theorem ret_int {k : IntKind} {a b : Int} (h : a = b) : Ending.returned (.int k a) = .returned (.int k b) := by rw [h]
theorem ret_bool {a b : Bool} (h : a = b) : Ending.returned (.bool a) = .returned (.bool b) := by rw [h]
theorem ret_int_bool {k : IntKind} {a b : Int} {c d : Bool} (h : a = b) (h2 : c = d) : Ending.returned (.tuple #[.int k a, .bool c]) = .returned (.tuple #[.int k b, .bool d]) := by rw [h, h2]
theorem roadB_iff (n : Int) (g : Bool) : roadB n g = true ↔ 2 ≤ n ∧ n ≤ 24 ∧ (g = true → 2 < n) := by
  unfold roadB
  cases g <;> simp [and_assoc]
theorem below_new (w : World) (o : Obj) : Below w.heap.size w (w.alloc o) := (Below.refl _ _).alloc (Nat.le_refl _) _
theorem cell_two_new (w : World) (u v : Value) (t : TypeId) (j : Nat) (_h : j < 2) : (w.alloc (.cells #[u, v] t)).cell? ⟨w.heap.size, j, none⟩ = (#[u, v] : Array Value)[j]? := by
  have hg : (w.alloc (.cells #[u, v] t)).heap[w.heap.size]? = some (.cells #[u, v] t) := by
    unfold World.alloc
    exact Array.getElem?_push_size
  unfold World.cell?
  simp only [hg, Option.isSome_none, Bool.false_eq_true, if_false]
/-- the road n, g lies in the block base, and what lay below base in w lies there as it did -/
structure Boxed (base : Nat) (n : Int) (g : Bool) (w wr : World) : Prop where
  below : Below base w wr
  size : base < wr.heap.size
  c0 : wr.cell? ⟨base, 0, none⟩ = some (.int .i64 n)
  c1 : wr.cell? ⟨base, 1, none⟩ = some (.bool g)
theorem Boxed.first (w : World) (n : Int) (g : Bool) (t : TypeId) : Boxed w.heap.size n g w (w.alloc (.cells #[.int .i64 n, .bool g] t)) :=
  ⟨below_new w _, by simp, cell_two_new w _ _ t 0 (by decide), cell_two_new w _ _ t 1 (by decide)⟩
theorem Boxed.next {base : Nat} {n : Int} {g : Bool} {w wr w' : World} (h : Boxed base n g w wr) (hb : Below wr.heap.size wr w') : Boxed base n g w w' :=
  ⟨h.below.trans (hb.mono (Nat.le_of_lt h.size)), Nat.lt_of_lt_of_le h.size hb.size, (hb.cell (p := ⟨base, 0, none⟩) h.size).trans h.c0, (hb.cell (p := ⟨base, 1, none⟩) h.size).trans h.c1⟩

theorem Boxed.nextAt {base m : Nat} {n : Int} {g : Bool} {w wr w' : World} (h : Boxed base n g w wr) (hm : base < m) (hb : Below m wr w') : Boxed base n g w w' :=
  ⟨h.below.trans (hb.mono (Nat.le_of_lt hm)), Nat.lt_of_lt_of_le h.size hb.size, (hb.cell (p := ⟨base, 0, none⟩) hm).trans h.c0, (hb.cell (p := ⟨base, 1, none⟩) hm).trans h.c1⟩
theorem l1In_any (x a b : Int) (w : World) :
    Calls Try.prog 51 #[.int .i64 x, .int .i64 a, .int .i64 b] w fun e w' => e = .returned (.bool (decide (a ≤ x) && decide (x ≤ b))) ∧ w = w' := by
  go_enter Try.func51, Try.ntmps51
  by_cases h1 : a ≤ x
  · by_cases h2 : x ≤ b
    · go_wp2
      go_ret
      exact ⟨ret_bool (by simp [h1, h2]), rfl⟩
    · go_wp2
      go_ret
      exact ⟨ret_bool (by simp [h2]), rfl⟩
  · go_wp2
    go_ret
    exact ⟨ret_bool (by simp; omega), rfl⟩
theorem isRoad_any (n : Int) (g : Bool) (w : World) :
    Calls Try.prog 83 #[rd n g] w fun e w' => e = .returned (.bool (roadB n g)) ∧ Below w.heap.size w w' := by
  unfold rd
  go_enter Try.func83, Try.ntmps83
  by_cases h1 : 2 ≤ n
  · by_cases h2 : n ≤ 24
    · by_cases h3 : 3 ≤ n
      · go_wp2
        go_ret
        exact ⟨ret_bool (by cases g <;> simp [roadB] <;> omega), below_new w _⟩
      · cases g
        all_goals
          go_wp2
          go_ret
          exact ⟨ret_bool (by simp [roadB] <;> omega), below_new w _⟩
    · go_wp2
      go_ret
      exact ⟨ret_bool (by simp [roadB]; omega), below_new w _⟩
  · go_wp2
    go_ret
    exact ⟨ret_bool (by simp [roadB]; omega), below_new w _⟩
theorem l2Road_any (n : Int) (g : Bool) (w : World) :
    Calls Try.prog 50 #[rd n g] w fun e w' => e = .returned (.bool (roadB n g)) ∧ Below w.heap.size w w' := by
  unfold rd
  go_enter Try.func50, Try.ntmps50
  have hin := fun w => l1In_any n 2 24 w
  by_cases h1 : 2 ≤ n ∧ n ≤ 24
  · obtain ⟨h1, h2⟩ := h1
    have e : (decide (2 ≤ n) && decide (n ≤ 24)) = true := by simp [h1, h2]
    rw [e] at hin
    by_cases h3 : 2 < n
    · cases g
      all_goals
        go_wp2_with (go_at_call 51; refine (hin _).mono ?_; rintro e w' ⟨rfl, rfl⟩)
        go_ret
        exact ⟨ret_bool (by simp [roadB] <;> omega), below_new w _⟩
    · cases g
      all_goals
        go_wp2_with (go_at_call 51; refine (hin _).mono ?_; rintro e w' ⟨rfl, rfl⟩)
        go_ret
        exact ⟨ret_bool (by simp [roadB] <;> omega), below_new w _⟩
  · have e : (decide (2 ≤ n) && decide (n ≤ 24)) = false := by simp; omega
    rw [e] at hin
    go_wp2_with (go_at_call 51; refine (hin _).mono ?_; rintro e w' ⟨rfl, rfl⟩)
    go_ret
    exact ⟨ret_bool (by simp [roadB]; omega), below_new w _⟩
theorem wf_bounds {n : Int} (h : (Lit.int .i64 n).wf = true) : -9223372036854775808 ≤ n ∧ n ≤ 9223372036854775807 := by
  have h1 := h
  simp [Lit.wf, IntKind.min, IntKind.signed, IntKind.bits] at h1
  omega
theorem l1Most_any (a b : Int) (w : World) :
    Calls Try.prog 66 #[.int .i64 a, .int .i64 b] w fun e w' => e = .returned (.int .i64 (max a b)) ∧ w = w' := by
  go_enter Try.func66, Try.ntmps66
  by_cases h : b < a
  · go_wp2
    go_ret
    exact ⟨ret_int (by omega), rfl⟩
  · go_wp2
    go_ret
    exact ⟨ret_int (by omega), rfl⟩
theorem l1Least_any (a b : Int) (w : World) :
    Calls Try.prog 68 #[.int .i64 a, .int .i64 b] w fun e w' => e = .returned (.int .i64 (min a b)) ∧ w = w' := by
  go_enter Try.func68, Try.ntmps68
  by_cases h : a < b
  · go_wp2
    go_ret
    exact ⟨ret_int (by omega), rfl⟩
  · go_wp2
    go_ret
    exact ⟨ret_int (by omega), rfl⟩
/-- a place of a valid road -/
def placeB (n : Int) (g : Bool) (p : Int) : Bool := roadB n g && (decide (0 ≤ p) && decide (p < n))
theorem placeB_iff (n : Int) (g : Bool) (p : Int) : placeB n g p = true ↔ roadB n g = true ∧ 0 ≤ p ∧ p < n := by simp [placeB]
theorem l2Place_any (n : Int) (g : Bool) (p : Int) (w : World) :
    Calls Try.prog 49 #[rd n g, .int .i64 p] w fun e w' => e = .returned (.bool (placeB n g p)) ∧ Below w.heap.size w w' := by
  have hroad := fun w => l2Road_any n g w
  have hin := fun w => l1In_any p 0 (n - 1) w
  have hr := roadB_iff n g
  unfold placeB
  unfold rd at *
  go_enter Try.func49, Try.ntmps49
  go_wp2_with fail
  refine (hroad _).mono ?_
  rintro e w1 ⟨rfl, hb⟩
  have hx := (Boxed.first w n g 27).next hb
  obtain ⟨hxb, hxs, hx0, hx1⟩ := hx
  clear hb
  cases hg : roadB n g
  · go_wp2
    go_ret
    exact ⟨ret_bool (by simp [hg]), hxb⟩
  · obtain ⟨h1, h2, h3⟩ := hr.1 hg
    go_wp2_with (go_at_call 51; refine (hin _).mono ?_; rintro e w' ⟨rfl, rfl⟩)
    go_ret
    refine ⟨ret_bool ?_, hxb⟩
    rw [hg]
    by_cases h4 : 0 ≤ p
    · by_cases h5 : p < n
      · have : p ≤ n - 1 := by omega
        simp [h4, h5, this]
      · have : ¬ p ≤ n - 1 := by omega
        simp [h5, this]
    · simp [h4]
end Go.Proofs.Ytekahkeddpngpaa
