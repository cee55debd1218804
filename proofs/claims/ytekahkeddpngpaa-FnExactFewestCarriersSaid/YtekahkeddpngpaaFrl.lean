/-
  What is proved: facts of the seat's program that its frames share: how it was made. Conditions: none.
-/
import Derived.Test.YtekahkeddpngpaaChecked
import Derived.Test.YtekahkeddpngpaaRows
import Derived.JoinedOf
namespace Go.Proofs.Ytekahkeddpngpaa
set_option linter.unusedVariables false

def makeSigns : List Nat := [
  104, 97, 114, 110, 101, 115, 115, 32, 101, 54, 57, 49, 98, 98, 101, 101, 102, 52, 97, 54, 54, 55, 99, 49, 57, 54, 54, 50, 57, 102, 56, 98, 50, 98, 99, 
  98, 101, 53, 97, 97, 54, 97, 99, 56, 57, 57, 48, 98, 53, 57, 49, 101, 97, 57, 98, 98, 98, 57, 48, 101, 51, 55, 97, 48, 53, 49, 48, 48, 49, 56, 50, 99, 
  32, 99, 117, 116, 32, 97, 116, 32, 108, 111, 111, 112, 46, 101, 120, 97, 109, 112, 108, 101, 47, 103, 48, 49, 49, 52, 56, 47, 108, 97, 119, 115, 46, 
  70, 110, 69, 120, 97, 99, 116, 82, 101, 97, 99, 104, 84, 105, 109, 101, 32, 108, 111, 111, 112, 46, 101, 120, 97, 109, 112, 108, 101, 47, 103, 48, 49, 
  49, 52, 56, 47, 108, 97, 119, 115, 46, 70, 110, 69, 120, 97, 99, 116, 82, 101, 116, 117, 114, 110, 84, 105, 109, 101, 32, 108, 111, 111, 112, 46, 101, 
  120, 97, 109, 112, 108, 101, 47, 103, 48, 49, 49, 52, 56, 47, 108, 97, 119, 115, 46, 70, 110, 69, 120, 97, 99, 116, 70, 105, 114, 115, 116, 79, 114, 
  100, 101, 114, 32, 108, 111, 111, 112, 46, 101, 120, 97, 109, 112, 108, 101, 47, 103, 48, 49, 49, 52, 56, 47, 108, 97, 119, 115, 46, 70, 110, 69, 120, 
  97, 99, 116, 67, 97, 110, 82, 101, 97, 99, 104, 32, 108, 111, 111, 112, 46, 101, 120, 97, 109, 112, 108, 101, 47, 103, 48, 49, 49, 52, 56, 47, 108, 97, 
  119, 115, 46, 70, 110, 69, 120, 97, 99, 116, 76, 101, 97, 115, 116, 80, 114, 105, 99, 101, 32, 108, 111, 111, 112, 46, 101, 120, 97, 109, 112, 108, 
  101, 47, 103, 48, 49, 49, 52, 56, 47, 108, 97, 119, 115, 46, 70, 110, 69, 120, 97, 99, 116, 70, 105, 114, 115, 116, 65, 114, 114, 105, 118, 97, 108, 
  32, 108, 111, 111, 112, 46, 101, 120, 97, 109, 112, 108, 101, 47, 103, 48, 49, 49, 52, 56, 47, 108, 97, 119, 115, 46, 70, 110, 69, 120, 97, 99, 116, 
  70, 101, 119, 101, 115, 116, 67, 97, 114, 114, 105, 101, 114, 115]
theorem made_signs : Try.pinned.checked.prog.initOrder = String.ofList (makeSigns.map Char.ofNat) := by kernel_rfl
theorem cut_word {P : Program} (h : ((behindMainWord (wordsSigns P.initOrder.toList)).head? == some "cut".toList) = true) : ∃ rest, behindMainWord (wordsSigns P.initOrder.toList) = "cut".toList :: rest := by
  cases hb : behindMainWord (wordsSigns P.initOrder.toList) with
  | nil =>
    rw [hb] at h
    exact absurd h (by simp)
  | cons c rest =>
    rw [hb] at h
    have e := eq_of_beq h
    rw [List.head?_cons] at e
    cases e
    exact ⟨rest, rfl⟩
theorem strip_cut (rest : List (List Char)) : stripLifts liftWords ("cut".toList :: rest) = ([], "cut".toList :: rest) := by kernel_rfl
theorem make_cut {P : Program} (h : ((behindMainWord (wordsSigns P.initOrder.toList)).head? == some "cut".toList) = true) : P.make = some .cut := by
  obtain ⟨rest, hb⟩ := cut_word h
  unfold Program.make
  rw [hb]
  rfl
theorem lifts_cut {P : Program} (h : ((behindMainWord (wordsSigns P.initOrder.toList)).head? == some "cut".toList) = true) : P.liftsFinal = false := by
  obtain ⟨rest, hb⟩ := cut_word h
  unfold Program.liftsFinal Program.headLifts
  simp only [hb, strip_cut, List.head?_cons]
  rfl
theorem may_cut {P : Program} (h : ((behindMainWord (wordsSigns P.initOrder.toList)).head? == some "cut".toList) = true) (h1 : (!P.laysLater) = true) (h2 : (!P.bearsReflect) = true) (h3 : P.doorFits [] = true) : P.mayEnter = true := by
  obtain ⟨rest, hb⟩ := cut_word h
  unfold Program.mayEnter
  simp only [hb, strip_cut, List.head?_cons, h1, h2, h3]
  rfl
theorem made_cut : ((behindMainWord (wordsSigns Try.pinned.checked.prog.initOrder.toList)).head? == some "cut".toList) = true := by
  rw [made_signs, String.toList_ofList]
  kernel_rfl
theorem may_enter : Try.pinned.checked.prog.mayEnter = true := may_cut made_cut (by kernel_rfl) (by kernel_rfl) (by kernel_rfl)
theorem lifts_final : Try.pinned.checked.prog.liftsFinal = false := lifts_cut made_cut
theorem made_so : Try.pinned.checked.prog.make = some .cut := make_cut made_cut
theorem and_of {a b : Bool} (h1 : a = true) (h2 : b = true) : (a && b) = true := by rw [h1, h2]; rfl
end Go.Proofs.Ytekahkeddpngpaa
