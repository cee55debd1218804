/-
  What is proved: impl.GapOf and the model's answer alike. Conditions: none.
-/
import Derived.Test.YtgkcgejicadodaaFn2
import Derived.Deep.RegionHeld3
namespace Go.Proofs.Ytgkcgejicadodaa
open Go.RowKit

abbrev Keep2 (base : Nat) (n : Int) (g : Bool) (w w1 : World) : Prop :=
  Boxed base n g w w1 ∧ w1.cell? ⟨base, 0, none⟩ = some (.int .i64 n) ∧ w1.cell? ⟨base, 1, none⟩ = some (.bool g)
theorem keep2 {base : Nat} {n : Int} {g : Bool} {w w1 w2 : World} (h : Keep2 base n g w w1) (hb : Below w1.heap.size w1 w2) : Keep2 base n g w w2 := ⟨h.1.next hb, (h.1.next hb).c0, (h.1.next hb).c1⟩
theorem keep2_new {base : Nat} {n : Int} {g : Bool} {w w1 : World} (h : Boxed base n g w w1) : Keep2 base n g w w1.drew := ⟨h.next (below_drewN _ 1), h.c0, h.c1⟩
end Go.Proofs.Ytgkcgejicadodaa
