/-
  What is proved: the contracts of spec.l2Step, spec.l2Gap, impl's after, before, headingOf, arePlaces and rise. Conditions: those of each contract (places of a valid road).
-/
import Derived.Test.YtiokgnabiidlbaaBas
import Derived.Laws.EntriesVeiled
namespace Go.Proofs.Ytiokgnabiidlbaa
open Go.RowKit

def gapI (n : Int) (g : Bool) (a b : Int) : Int := if g then min (max (a - b) (b - a)) (n - max (a - b) (b - a)) else max (a - b) (b - a)
theorem l2Gap_any (n : Int) (g : Bool) (a b : Int) (w : World) (hn : 0 ≤ n ∧ n ≤ 24) (ha : 0 ≤ a ∧ a ≤ n) (hb : 0 ≤ b ∧ b ≤ n) :
    Calls Try.prog 88 #[rd n g, .int .i64 a, .int .i64 b] w fun e w' => e = .returned (.int .i64 (gapI n g a b)) ∧ Below w.heap.size w w' := by
  have hm := fun w => l1Most_any (a - b) (b - a) w
  have hl := fun w => l1Least_any (max (a - b) (b - a)) (n - max (a - b) (b - a)) w
  unfold rd at *
  go_enter Try.func88, Try.ntmps88
  cases g
  · go_wp2_with (go_at_call 60; refine (hm _).mono ?_; rintro e w' ⟨rfl, rfl⟩)
    go_ret
    exact ⟨ret_int (by simp [gapI]), below_new w _⟩
  · go_wp2_with (first | (go_at_call 60; refine (hm _).mono ?_; rintro e w' ⟨rfl, rfl⟩) | (go_at_call 74; refine (hl _).mono ?_; rintro e w' ⟨rfl, rfl⟩))
    go_ret
    exact ⟨ret_int (by simp [gapI]), below_new w _⟩
def stepI (n : Int) (g : Bool) (p d : Int) : Int := if g then (p + d + n) % n else max (min (p + d) (n - 1)) 0
theorem l2Step_any (n : Int) (g : Bool) (p d : Int) (w : World) (hn : 2 ≤ n ∧ n ≤ 24) (hp : 0 ≤ p ∧ p < n) (hd : -1 ≤ d ∧ d ≤ 1) :
    Calls Try.prog 90 #[rd n g, .int .i64 p, .int .i64 d] w fun e w' => e = .returned (.int .i64 (stepI n g p d)) ∧ Below w.heap.size w w' := by
  have hl := fun w => l1Least_any (p + d) (n - 1) w
  have hm := fun w => l1Most_any (min (p + d) (n - 1)) 0 w
  have hnz : n ≠ 0 := by omega
  have hsum : 0 ≤ p + d + n := by omega
  unfold rd at *
  go_enter Try.func90, Try.ntmps90
  cases g
  · go_wp2_with (first | (go_at_call 60; refine (hm _).mono ?_; rintro e w' ⟨rfl, rfl⟩) | (go_at_call 74; refine (hl _).mono ?_; rintro e w' ⟨rfl, rfl⟩))
    go_ret
    exact ⟨ret_int (by simp [stepI]), below_new w _⟩
  · go_wp2
    go_ret
    exact ⟨ret_int (by simp [stepI]), below_new w _⟩
def afterI (n : Int) (g : Bool) (p : Int) : Int := if g = true ∧ p = n - 1 then 0 else p + 1
def beforeI (n : Int) (g : Bool) (p : Int) : Int := if g = true ∧ p = 0 then n - 1 else p - 1
theorem after_any (n : Int) (g : Bool) (p : Int) (w : World) (hn : 2 ≤ n ∧ n ≤ 24) (hp : 0 ≤ p ∧ p < n) :
    Calls Try.prog 78 #[rd n g, .int .i64 p] w fun e w' => e = .returned (.int .i64 (afterI n g p)) ∧ Below w.heap.size w w' := by
  unfold rd at *
  go_enter Try.func78, Try.ntmps78
  cases g
  · go_wp2
    go_ret
    exact ⟨ret_int (by simp [afterI]), below_new w _⟩
  · by_cases h : p = n - 1
    · go_wp2
      go_ret
      exact ⟨ret_int (by simp [afterI, h]), below_new w _⟩
    · go_wp2
      go_ret
      exact ⟨ret_int (by simp [afterI, h]), below_new w _⟩
theorem before_any (n : Int) (g : Bool) (p : Int) (w : World) (hn : 2 ≤ n ∧ n ≤ 24) (hp : 0 ≤ p ∧ p < n) :
    Calls Try.prog 77 #[rd n g, .int .i64 p] w fun e w' => e = .returned (.int .i64 (beforeI n g p)) ∧ Below w.heap.size w w' := by
  unfold rd at *
  go_enter Try.func77, Try.ntmps77
  cases g
  · go_wp2
    go_ret
    exact ⟨ret_int (by simp [beforeI]), below_new w _⟩
  · by_cases h : p = 0
    · go_wp2
      go_ret
      exact ⟨ret_int (by simp [beforeI, h]), below_new w _⟩
    · go_wp2
      go_ret
      exact ⟨ret_int (by simp [beforeI, h]), below_new w _⟩
theorem headings_any (w : World) :
    Calls Try.prog 89 #[] w fun e w' => e = .returned (.agg #[.func (.func 78) #[] #[], .func (.func 77) #[] #[]]) ∧ Below w.heap.size w w' := by
  go_enter Try.func89, Try.ntmps89
  go_wp2
  refine bodyPost_ret (v := .agg #[.func (.func 78) #[] #[], .func (.func 77) #[] #[]]) (by simp [results, Try.results89, go_sem]) rfl ⟨rfl, below_new w _⟩
theorem idx0 (u v : Value) (w : World) : (Instr.index 85 (.agg #[u, v]) (.int .i64 0)).run Try.prog w = .ok u w := by
  simp [Instr.index, run_underlying Try.underlying85, asIntOf, go_sem]
theorem idx1 (u v : Value) (w : World) : (Instr.index 85 (.agg #[u, v]) (.int .i64 1)).run Try.prog w = .ok v w := by
  simp [Instr.index, run_underlying Try.underlying85, asIntOf, go_sem]
/-- the heading that leads from p to q, and whether there is one -/
def headI (n : Int) (g : Bool) (p q : Int) : Int × Bool := if afterI n g p = q then (0, true) else if beforeI n g p = q then (1, true) else (0, false)
def HeadRel (n : Int) (g : Bool) (p q : Int) (w : World) (i : Value) (wr : World) : Prop :=
  Boxed w.heap.size n g w wr ∧ (i = .int .i64 0 ∨ (i = .int .i64 1 ∧ afterI n g p ≠ q) ∨ (i = .int .i64 2 ∧ afterI n g p ≠ q ∧ beforeI n g p ≠ q))
set_option maxRecDepth 20000 in
theorem headingOf_any (n : Int) (g : Bool) (p q : Int) (w : World) (hn : 2 ≤ n ∧ n ≤ 24) (hp : 0 ≤ p ∧ p < n) :
    Calls Try.prog 49 #[rd n g, .int .i64 p, .int .i64 q] w fun e w' => e = .returned (.tuple #[.int .i64 (headI n g p q).1, .bool (headI n g p q).2]) ∧ Below w.heap.size w w' := by
  have ha := fun w => after_any n g p w hn hp
  have hb := fun w => before_any n g p w hn hp
  have hix0 := fun w => idx0 (.func (.func 78) #[] #[]) (.func (.func 77) #[] #[]) w
  have hix1 := fun w => idx1 (.func (.func 78) #[] #[]) (.func (.func 77) #[] #[]) w
  unfold rd at *
  have HA := Lib.hid ha
  have HB := Lib.hid hb
  clear ha hb
  go_enter Try.func49, Try.ntmps49
  go_wp2_with fail
  refine (headings_any _).mono ?_
  rintro e w1 ⟨rfl, hb⟩
  have HX := Lib.hid ((Boxed.first w n g 25).next hb)
  clear hb
  go_wp2_with fail
  go_loopw [6, 7, 11] (fun r s i wr => r = .int .i64 0 ∧ s = .bool false ∧ HeadRel n g p q w i wr) (fun _ _ i _ => 2 - (intOf i).toNat)
  case atStart => exact ⟨rfl, rfl, HX.out, .inl rfl⟩
  case round =>
    obtain ⟨rfl, rfl, hx, hi⟩ := hrel
    have HW := Lib.hid hx
    obtain ⟨_, hxs, hx0, hx1⟩ := hx
    rcases hi with rfl | ⟨rfl, hne⟩ | ⟨rfl, hne, hne2⟩
    · go_wp2_with fail
      refine (HA.out _).mono ?_
      rintro e w2 ⟨rfl, hb⟩
      have HY := Lib.hid (HW.out.next hb)
      clear hb
      by_cases h : afterI n g p = q
      · go_wp2_with fail
        go_ret2
        exact ⟨ret_int_bool (by simp [headI, h]) (by simp [headI, h]), HY.out.below⟩
      · go_wp2_with fail
        go_roundw
        case rel => exact ⟨rfl, rfl, HY.out, .inr (.inl ⟨rfl, h⟩)⟩
        case measure => simp [intOf]
    · go_wp2_with fail
      refine (HB.out _).mono ?_
      rintro e w2 ⟨rfl, hb⟩
      have HY := Lib.hid (HW.out.next hb)
      clear hb
      by_cases h : beforeI n g p = q
      · go_wp2_with fail
        go_ret2
        exact ⟨ret_int_bool (by simp [headI, h, hne]) (by simp [headI, h, hne]), HY.out.below⟩
      · go_wp2_with fail
        go_roundw
        case rel => exact ⟨rfl, rfl, HY.out, .inr (.inr ⟨rfl, hne, h⟩)⟩
        case measure => simp [intOf]
    · go_wp2_with fail
      go_ret2
      exact ⟨ret_int_bool (by simp [headI, hne, hne2]) (by simp [headI, hne, hne2]), HW.out.below⟩
end Go.Proofs.Ytiokgnabiidlbaa
