/-
  What is proved: the contract of spec.JoinWalks. Conditions: slices that read as lists of numbers.
-/
import Derived.Test.YtnclfdfnhhicdaaFn19
import Derived.Test.YtnclfdfnhhicdaaFn9
namespace Go.Proofs.Ytnclfdfnhhicdaa
open Go.RowKit
set_option linter.unusedVariables false
set_option linter.unusedSimpArgs false

abbrev KeepJ (base : Nat) (n : Int) (g : Bool) (b i : Nat) (u : Value) (b2 i2 : Nat) (u2 : Value) (w w1 : World) : Prop :=
  Boxed base n g w w1 ∧ w1.cell? ⟨base, 0, none⟩ = some (.int .i64 n) ∧ w1.cell? ⟨base, 1, none⟩ = some (.bool g) ∧ w1.cell? ⟨b, i, none⟩ = some u ∧ w1.cell? ⟨b2, i2, none⟩ = some u2
theorem keepJ {base : Nat} {n : Int} {g : Bool} {w w1 w2 : World} {b i b2 i2 : Nat} {u u2 : Value} (h : KeepJ base n g b i u b2 i2 u2 w w1) (hbl : b < base) (hbl2 : b2 < base) (hb : Below w1.heap.size w1 w2) : KeepJ base n g b i u b2 i2 u2 w w2 :=
  ⟨h.1.next hb, (h.1.next hb).c0, (h.1.next hb).c1, (hb.cell (p := ⟨b, i, none⟩) (Nat.lt_trans hbl h.1.size)).trans h.2.2.2.1, (hb.cell (p := ⟨b2, i2, none⟩) (Nat.lt_trans hbl2 h.1.size)).trans h.2.2.2.2⟩
theorem keepJ_new {base : Nat} {n : Int} {g : Bool} {w w1 : World} {b i b2 i2 : Nat} {u u2 : Value} (h : Boxed base n g w w1) (h3 : w1.cell? ⟨b, i, none⟩ = some u) (h4 : w1.cell? ⟨b2, i2, none⟩ = some u2) : KeepJ base n g b i u b2 i2 u2 w w1.drew :=
  ⟨h.next (below_drewN _ 1), h.c0, h.c1, h3, h4⟩
theorem readsJ {base : Nat} {n : Int} {g : Bool} {w w1 : World} {b i b2 i2 : Nat} {u u2 : Value} {v : Value} {xs : List Int} (h : KeepJ base n g b i u b2 i2 u2 w w1) (hv : ReadsI w v xs) (hb : base = w.heap.size) : ReadsI w1 v xs := hv.below (hb ▸ h.1.below)
theorem reads2 {base : Nat} {n : Int} {g : Bool} {w w1 : World} {v : Value} {xs : List Int} (h : Keep2 base n g w w1) (hv : ReadsI w v xs) (hb : base = w.heap.size) : ReadsI w1 v xs := hv.below (hb ▸ h.1.below)
theorem keep2_grown {base : Nat} {n : Int} {g : Bool} {w wr w1 : World} {v : Value} (h : Keep2 base n g w wr) (hg : wr.grownBy w1 v.ownBlock) (hv : ∀ b, v.ownBlock = some b → base + 1 ≤ b) : Keep2 base n g w w1 := by
  have hB := h.1.nextAt (Nat.lt_succ_self _) (below_grown hg hv (Nat.succ_le_of_lt h.1.size))
  exact ⟨hB, hB.c0, hB.c1⟩
end Go.Proofs.Ytnclfdfnhhicdaa
