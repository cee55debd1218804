/-
  What is proved: the contracts of spec.l3Gcd and impl.reduced. Conditions: numbers up to 1000.
-/
import Derived.Test.YtijhbhjapcfddaaBlk
import Derived.Test.YtijhbhjapcfddaaTba
import Derived.Deep.QuietTactic
import Derived.BigQuiet
import Derived.RegionTactic
import Derived.ChangeAlike
import Derived.IntWalk
namespace Go.Proofs.Ytijhbhjapcfddaa
open Go.RowKit
set_option linter.unusedVariables false
set_option linter.unusedSimpArgs false

theorem set1_same (W : World) (b j : Nat) (cs : Array Value) (t : TypeId) (v : Value) (h : Blk W b cs t) : Blk (W.setCell ⟨b, j, none⟩ v) b (cs.setIfInBounds j v) t := heap_setCell_same W b j _ t v h
theorem set1_other {W : World} {b c j : Nat} {cs : Array Value} {t : TypeId} {v : Value} (h : Blk W c cs t) (hne : c ≠ b) : Blk (W.setCell ⟨b, j, none⟩ v) c cs t := (Below.heap_setCell W ⟨b, j, none⟩ v c hne).trans h
theorem set2_same {W : World} {b : Nat} {x0 x1 : Value} {t : TypeId} (v0 v1 : Value) (h : Blk W b #[x0, x1] t) : Blk ((W.setCell ⟨b, 0, none⟩ v0).setCell ⟨b, 1, none⟩ v1) b #[v0, v1] t :=
  set1_same _ b 1 _ t v1 (set1_same _ b 0 _ t v0 h)
theorem set2_other {W : World} {b c : Nat} {cs : Array Value} {t : TypeId} {v0 v1 : Value} (h : Blk W c cs t) (hne : c ≠ b) : Blk ((W.setCell ⟨b, 0, none⟩ v0).setCell ⟨b, 1, none⟩ v1) c cs t :=
  set1_other (set1_other h hne) hne
theorem set2_below {base : Nat} {w W : World} {b : Nat} {v0 v1 : Value} (h : Below base w W) (hb : base ≤ b) : Below base w ((W.setCell ⟨b, 0, none⟩ v0).setCell ⟨b, 1, none⟩ v1) :=
  (h.setCell (p := ⟨b, 0, none⟩) hb _).setCell (p := ⟨b, 1, none⟩) hb _
theorem gcd_step {p q a b : Nat} (h : Nat.gcd p q = Nat.gcd a b) : Nat.gcd q (p % q) = Nat.gcd a b := by
  rw [← h, Nat.gcd_comm p q, Nat.gcd_rec q p, Nat.gcd_comm]
/-- a fraction without a common divisor -/
def red (t g : Nat) : Int × Int := (((t / Nat.gcd t g : Nat) : Int), ((g / Nat.gcd t g : Nat) : Int))
theorem div_small (t d : Nat) (ht : t ≤ 1000) : t / d ≤ 1000 := Nat.le_trans (Nat.div_le_self t d) ht
end Go.Proofs.Ytijhbhjapcfddaa
