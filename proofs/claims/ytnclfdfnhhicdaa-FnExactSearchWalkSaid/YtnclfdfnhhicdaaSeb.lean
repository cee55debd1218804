/-
  What is proved: the contracts of the program's small functions on searches: whether a searcher is valid, what a stretch is, whether a list is a search. Conditions: those of each contract.
-/
import Derived.Test.YtnclfdfnhhicdaaSea
import Derived.Test.YtnclfdfnhhicdaaFn9
namespace Go.Proofs.Ytnclfdfnhhicdaa
open Go.RowKit
set_option linter.unusedVariables false
set_option linter.unusedSimpArgs false

/-- block b holds the cells cs -/
def Blk (w : World) (b : Nat) (cs : Array Value) (t : TypeId) : Prop := w.heap[b]? = some (.cells cs t (0, 0))
theorem Blk.cell {w : World} {b : Nat} {cs : Array Value} {t : TypeId} (h : Blk w b cs t) (j : Nat) : w.cell? ⟨b, j, none⟩ = cs[j]? := by
  simp [World.cell?, show w.heap[b]? = some (.cells cs t (0, 0)) from h]
theorem Blk.free {w : World} {b : Nat} {cs : Array Value} {t : TypeId} (h : Blk w b cs t) (j : Nat) : w.frozen? ⟨b, j, none⟩ = false := by
  simp [World.frozen?, show w.heap[b]? = some (.cells cs t (0, 0)) from h]
theorem Blk.lt {w : World} {b : Nat} {cs : Array Value} {t : TypeId} (h : Blk w b cs t) : b < w.heap.size := (Array.getElem?_eq_some_iff.1 h).1
theorem Blk.below {w w' : World} {b : Nat} {cs : Array Value} {t : TypeId} (h : Blk w b cs t) (hb : Below w.heap.size w w') : Blk w' b cs t := (hb.block b h.lt).trans h
theorem Blk.belowAt {m : Nat} {w w' : World} {b : Nat} {cs : Array Value} {t : TypeId} (h : Blk w b cs t) (hm : b < m) (hb : Below m w w') : Blk w' b cs t := (hb.block b hm).trans h
theorem blk_new (w : World) (cs : Array Value) (t : TypeId) : Blk (w.alloc (.cells cs t)) w.heap.size cs t := heap_alloc_new w _
theorem blk_at (w : World) (cs : Array Value) (t : TypeId) (b : Nat) (h : w.heap.size = b) : Blk (w.alloc (.cells cs t)) b cs t := h ▸ heap_alloc_new w _
/-- a searcher as a value -/
def sr (n : Int) (g : Bool) (a x : Int) : Value := .agg #[.int .i64 n, .bool g, .int .i64 a, .int .i64 x]
/-- a stretch as a value -/
def tv (lo hi q : Int) : Value := .agg #[.int .i64 lo, .int .i64 hi, .int .i64 q]
/-- a valid line, a place on it, a valid extra time -/
def validB (n : Int) (g : Bool) (a x : Int) : Bool := lineB n g a && (decide (0 ≤ x) && decide (x ≤ 9))
theorem isValid_any (n : Int) (g : Bool) (a x : Int) (w : World) :
    Calls Try.prog 54 #[sr n g a x] w fun e w' => e = .returned (.bool (validB n g a x)) ∧ Below w.heap.size w w' := by
  have HP := Lib.hid (fun v w hv => arePlaces_one n g a v w hv)
  have HB := Lib.hid (blk_new w #[.int .i64 n, .bool g, .int .i64 a, .int .i64 x] 60)
  have HBL := Lib.hid (below_new w (.cells #[.int .i64 n, .bool g, .int .i64 a, .int .i64 x] 60))
  unfold sr
  unfold rd at *
  cases g
  · go_enter Try.func54, Try.ntmps54
    go_wp2_with fail
    refine (HP.out _ _ (ints_one_at (w.heap.size + 1) (by simp))).mono ?_
    rintro e w2 ⟨rfl, hb⟩
    have HB2 := Lib.hid ((HB.out.below (below_new _ _)).below hb)
    have HBL := Lib.hid (HBL.out.trans (((below_new _ _).trans (hb.mono (by simp))).mono HBL.out.size))
    clear hb
    have h3 := HB2.out.cell 3
    cases hp : placeB n false a
    · go_wp2_with fail
      go_ret
      exact ⟨ret_bool (by simp [validB, lineB, hp]), HBL.out⟩
    · by_cases hx : 0 ≤ x
      · go_wp2_with fail
        go_ret
        exact ⟨ret_bool (by simp [validB, lineB, hp, hx]), HBL.out⟩
      · go_wp2_with fail
        go_ret
        exact ⟨ret_bool (by simp [validB, lineB, hp]; omega), HBL.out⟩
  · go_enter Try.func54, Try.ntmps54
    go_wp2_with fail
    go_ret
    exact ⟨ret_bool (by simp [validB, lineB]), HBL.out⟩
theorem isWhole_any (lo hi q n : Int) (g : Bool) (w : World) (hn : 2 ≤ n ∧ n ≤ 24) :
    Calls Try.prog 77 #[tv lo hi q, rd n g] w fun e w' => e = .returned (.bool (lo == 0 && hi == n - 1)) ∧ Below w.heap.size w w' := by
  unfold tv rd
  go_enter Try.func77, Try.ntmps77
  by_cases h : lo = 0
  · subst h
    go_wp2
    go_ret
    exact ⟨ret_bool (by simp), (below_new w _).trans ((below_new _ _).mono (by simp))⟩
  · have h' : (lo == 0) = false := by simp [h]
    go_wp2
    go_ret
    exact ⟨ret_bool (by simp [h']), (below_new w _).trans ((below_new _ _).mono (by simp))⟩
theorem mayTurn_any (lo hi q p : Int) (w : World) :
    Calls Try.prog 78 #[tv lo hi q, .int .i64 p] w fun e w' => e = .returned (.bool (mayB lo hi q p)) ∧ Below w.heap.size w w' := by
  unfold tv
  go_enter Try.func78, Try.ntmps78
  by_cases h1 : p < lo
  · cases h2 : (q == hi)
    · by_cases h3 : hi < p
      · go_wp2
        go_ret
        exact ⟨ret_bool (by simp [mayB, h1, h2, h3] <;> omega), below_new w _⟩
      · go_wp2
        go_ret
        exact ⟨ret_bool (by simp [mayB, h1, h2, h3] <;> omega), below_new w _⟩
    · go_wp2
      go_ret
      exact ⟨ret_bool (by simp [mayB, h1, h2]), below_new w _⟩
  · by_cases h3 : hi < p
    · go_wp2
      go_ret
      exact ⟨ret_bool (by simp [mayB, h1, h3] <;> omega), below_new w _⟩
    · go_wp2
      go_ret
      exact ⟨ret_bool (by simp [mayB, h1, h3] <;> omega), below_new w _⟩
set_option maxRecDepth 20000 in
theorem widened_any (lo hi q p : Int) (w : World) :
    Calls Try.prog 95 #[tv lo hi q, .int .i64 p] w fun e w' => e = .returned (tv (min lo p) (max hi p) p) ∧ Below w.heap.size w w' := by
  unfold tv
  go_enter Try.func95, Try.ntmps95
  rcases Int.lt_trichotomy lo p with h | h | h <;> rcases Int.lt_trichotomy hi p with h2 | h2 | h2
  all_goals
    go_wp2
    refine bodyPost_ret (v := .agg #[.int .i64 (min lo p), .int .i64 (max hi p), .int .i64 p]) (by simp [results, Try.results95, go_sem] <;> omega) rfl ⟨rfl, ?_⟩
    exact (below_new w _).trans ((below_new _ _).mono (by simp))
end Go.Proofs.Ytnclfdfnhhicdaa
