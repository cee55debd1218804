/-
  What is proved: the contracts of LabelMoves and DoubleLabel of the model and of the program. Conditions: slices that read as lists of numbers.
-/
import Derived.Test.YtiokgnabiidlbaaDoorMec
import Derived.Test.YtiokgnabiidlbaaDoorFn4
import Derived.Test.YtiokgnabiidlbaaDoorFn24
namespace Go.Proofs.YtiokgnabiidlbaaDoor
open Go.RowKit
set_option linter.unusedVariables false
set_option linter.unusedSimpArgs false

theorem cell_new_all (w : World) (cs : Array Value) (t : TypeId) : ∀ j u, cs.toList[j]? = some u → (w.alloc (.cells cs t)).cell? ((⟨w.heap.size, 0, none⟩ : Addr).add j) = some u :=
  World.news_of_block (fr := (0, 0)) (heap_alloc_new w _)
/-- the moves of the first k bits of a label -/
def toldL (xs : List Int) (m k : Nat) : List Int := (xs.take k).flatMap fun b => List.replicate m b
theorem toldL_next {xs : List Int} {m k : Nat} {x : Int} (h : xs[k]? = some x) : toldL xs m (k + 1) = toldL xs m k ++ List.replicate m x := by
  obtain ⟨hk, rfl⟩ := List.getElem?_eq_some_iff.1 h
  unfold toldL
  rw [List.take_succ_eq_append_getElem hk, List.flatMap_append]
  simp
theorem toldL_len (xs : List Int) (m : Nat) : ∀ k, k ≤ xs.length → (toldL xs m k).length = k * m
  | 0, _ => by simp [toldL]
  | k + 1, hk => by
    obtain ⟨x, hx⟩ := get_some (xs := xs) (k := k) (by omega)
    rw [toldL_next hx, List.length_append, toldL_len xs m k (by omega), List.length_replicate, Nat.add_mul, Nat.one_mul]
/-- the label in which each of the first k bits stands twice -/
def dblL (xs : List Int) (k : Nat) : List Int := (xs.take k).flatMap fun b => [b, b]
theorem dblL_next {xs : List Int} {k : Nat} {x : Int} (h : xs[k]? = some x) : dblL xs (k + 1) = dblL xs k ++ [x, x] := by
  obtain ⟨hk, rfl⟩ := List.getElem?_eq_some_iff.1 h
  unfold dblL
  rw [List.take_succ_eq_append_getElem hk, List.flatMap_append]
  simp
theorem dblL_len (xs : List Int) : ∀ k, k ≤ xs.length → (dblL xs k).length = k * 2
  | 0, _ => by simp [dblL]
  | k + 1, hk => by
    obtain ⟨x, hx⟩ := get_some (xs := xs) (k := k) (by omega)
    rw [dblL_next hx, List.length_append, dblL_len xs k (by omega)]
    simp
    omega
/-- what LabelMoves answers -/
def toldR (xs : List Int) (a : Int) : List Int × Bool := if withB 6 0 1 xs = true ∧ 1 ≤ a ∧ a * xs.length ≤ 24 then (toldL xs a.toNat xs.length, true) else ([], false)
theorem toldR_no {xs : List Int} {a : Int} (h : ¬ (withB 6 0 1 xs = true ∧ 1 ≤ a ∧ a * xs.length ≤ 24)) : toldR xs a = ([], false) := if_neg h
theorem toldR_yes {xs : List Int} {a : Int} (h : withB 6 0 1 xs = true ∧ 1 ≤ a ∧ a * xs.length ≤ 24) : toldR xs a = (toldL xs a.toNat xs.length, true) := if_pos h
theorem told_small {xs : List Int} {a : Int} (h : withB 6 0 1 xs = true) (h1 : 1 ≤ a) (h2 : a * xs.length ≤ 24) : a ≤ 24 := by
  have hl := ((withB_iff 6 0 1 xs).1 h).1
  have : a * 1 ≤ a * (xs.length : Int) := Int.mul_le_mul_of_nonneg_left (by omega) (by omega)
  omega
theorem toldR_len (xs : List Int) (a : Int) : (toldR xs a).1.length ≤ 1048576 := by
  unfold toldR
  split
  · rename_i h
    rw [toldL_len _ _ _ (Nat.le_refl _)]
    have h2 := h.2.2
    have h1 := h.2.1
    have e : ((xs.length * a.toNat : Nat) : Int) = a * xs.length := by
      rw [Int.natCast_mul, Int.toNat_of_nonneg (by omega), Int.mul_comm]
    omega
  · simp
/-- what DoubleLabel answers -/
def dblR (xs : List Int) : List Int × Bool := if withB 6 0 1 xs = true ∧ xs.length ≤ 2 then (dblL xs xs.length ++ [0, 1], true) else ([], false)
theorem dblR_no {xs : List Int} (h : ¬ (withB 6 0 1 xs = true ∧ xs.length ≤ 2)) : dblR xs = ([], false) := if_neg h
theorem dblR_yes {xs : List Int} (h : withB 6 0 1 xs = true ∧ xs.length ≤ 2) : dblR xs = (dblL xs xs.length ++ [0, 1], true) := if_pos h
theorem dblR_len (xs : List Int) : (dblR xs).1.length ≤ 1048576 := by
  unfold dblR
  split
  · rename_i h
    rw [List.length_append, dblL_len _ _ (Nat.le_refl _)]
    simp
    omega
  · simp
theorem made_0 (w : World) : (w.alloc (.cells #[] 3)).ownsRow w.heap.size 3 1 (.slice (some ⟨w.heap.size, 0, none⟩) 0 0) 0 [] := made_at w w.heap.size w.heap.size rfl (Nat.le_refl _)
theorem owns_RL {base : Nat} {R : List Int × Bool} {zs : List Int} {b : Bool} {w w' : World} {v : Value} {l : Nat} (hR : R = (zs, b)) (hl : zs.length = l) (ho : w'.ownsRow base 3 1 v l (zs.map iv)) (hb : Below base w w') : OwnsB base R.1 R.2 w (.returned (.tuple #[v, .bool b])) w' := by
  rw [hR]
  subst hl
  exact ⟨v, rfl, ho, hb⟩
/-- behind k rounds the list is f k -/
def GrowR (f : Nat → List Int) (l base : Nat) (w : World) (v i : Value) (wr : World) : Prop :=
  Below base w wr ∧ base ≤ wr.heap.size ∧ ∃ k m : Nat, k ≤ l ∧ i = .int .i64 k ∧ (f k).length = m ∧ wr.ownsRow base 3 1 v m ((f k).map iv)
/-- the same while one more list is being appended -/
def GrowJ (zs : List Int) (x : Int) (l base : Nat) (w : World) (v i : Value) (wr : World) : Prop :=
  Below base w wr ∧ base ≤ wr.heap.size ∧ ∃ k m : Nat, k ≤ l ∧ i = .int .i64 k ∧ m = zs.length + k ∧ wr.ownsRow base 3 1 v m ((zs ++ List.replicate k x).map iv)
theorem rep_snoc (zs : List Int) (x : Int) (k : Nat) : (zs ++ List.replicate k x).map iv ++ [Value.int .i64 x] = (zs ++ List.replicate (k + 1) x).map iv := by
  rw [List.replicate_succ', ← List.append_assoc, List.map_append (l₂ := [x])]
  rfl
end Go.Proofs.YtiokgnabiidlbaaDoor
