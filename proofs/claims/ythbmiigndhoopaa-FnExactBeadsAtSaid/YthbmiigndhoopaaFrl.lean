/-
  What is proved: facts of the seat's program that its frames share: how it was made. Conditions: none.
-/
import Derived.Test.YthbmiigndhoopaaChecked
import Derived.Test.YthbmiigndhoopaaRows
import Derived.JoinedOf
namespace Go.Proofs.Ythbmiigndhoopaa
set_option linter.unusedVariables false

def makeSigns : List Nat := [
  104, 97, 114, 110, 101, 115, 115, 32, 52, 102, 99, 49, 52, 99, 101, 48, 53, 49, 98, 52, 49, 98, 52, 97, 54, 56, 51, 100, 97, 53, 51, 48, 53, 53, 55, 
  101, 50, 55, 51, 50, 56, 97, 49, 102, 50, 52, 53, 55, 48, 97, 57, 99, 98, 101, 101, 97, 52, 99, 51, 98, 102, 101, 100, 56, 102, 48, 101, 55, 102, 51, 
  99, 50, 32, 99, 117, 116, 32, 97, 116, 32, 108, 111, 111, 112, 46, 101, 120, 97, 109, 112, 108, 101, 47, 103, 48, 49, 49, 52, 56, 47, 108, 97, 119, 
  115, 46, 70, 110, 69, 120, 97, 99, 116, 73, 115, 76, 97, 110, 101, 32, 108, 111, 111, 112, 46, 101, 120, 97, 109, 112, 108, 101, 47, 103, 48, 49, 49, 
  52, 56, 47, 108, 97, 119, 115, 46, 70, 110, 69, 120, 97, 99, 116, 84, 117, 114, 110, 76, 97, 110, 101, 32, 108, 111, 111, 112, 46, 101, 120, 97, 109, 
  112, 108, 101, 47, 103, 48, 49, 49, 52, 56, 47, 108, 97, 119, 115, 46, 70, 110, 69, 120, 97, 99, 116, 76, 97, 110, 101, 65, 102, 116, 101, 114, 32, 
  108, 111, 111, 112, 46, 101, 120, 97, 109, 112, 108, 101, 47, 103, 48, 49, 49, 52, 56, 47, 108, 97, 119, 115, 46, 70, 110, 69, 120, 97, 99, 116, 70, 
  108, 111, 119, 115, 79, 102, 32, 108, 111, 111, 112, 46, 101, 120, 97, 109, 112, 108, 101, 47, 103, 48, 49, 49, 52, 56, 47, 108, 97, 119, 115, 46, 70, 
  110, 69, 120, 97, 99, 116, 76, 97, 115, 116, 70, 108, 111, 119, 32, 108, 111, 111, 112, 46, 101, 120, 97, 109, 112, 108, 101, 47, 103, 48, 49, 49, 52, 
  56, 47, 108, 97, 119, 115, 46, 70, 110, 69, 120, 97, 99, 116, 67, 97, 108, 109, 84, 117, 114, 110, 32, 108, 111, 111, 112, 46, 101, 120, 97, 109, 112, 
  108, 101, 47, 103, 48, 49, 49, 52, 56, 47, 108, 97, 119, 115, 46, 70, 110, 69, 120, 97, 99, 116, 67, 97, 114, 80, 108, 97, 99, 101, 115, 32, 108, 111, 
  111, 112, 46, 101, 120, 97, 109, 112, 108, 101, 47, 103, 48, 49, 49, 52, 56, 47, 108, 97, 119, 115, 46, 70, 110, 69, 120, 97, 99, 116, 84, 117, 114, 
  110, 65, 114, 111, 117, 110, 100, 32, 108, 111, 111, 112, 46, 101, 120, 97, 109, 112, 108, 101, 47, 103, 48, 49, 49, 52, 56, 47, 108, 97, 119, 115, 46, 
  70, 110, 69, 120, 97, 99, 116, 74, 97, 109, 115, 79, 102, 32, 108, 111, 111, 112, 46, 101, 120, 97, 109, 112, 108, 101, 47, 103, 48, 49, 49, 52, 56, 
  47, 108, 97, 119, 115, 46, 70, 110, 69, 120, 97, 99, 116, 73, 115, 87, 105, 114, 101, 32, 108, 111, 111, 112, 46, 101, 120, 97, 109, 112, 108, 101, 47, 
  103, 48, 49, 49, 52, 56, 47, 108, 97, 119, 115, 46, 70, 110, 69, 120, 97, 99, 116, 83, 104, 97, 100, 101, 84, 105, 109, 101, 115, 32, 108, 111, 111, 
  112, 46, 101, 120, 97, 109, 112, 108, 101, 47, 103, 48, 49, 49, 52, 56, 47, 108, 97, 119, 115, 46, 70, 110, 69, 120, 97, 99, 116, 76, 97, 115, 116, 70, 
  97, 108, 108, 32, 108, 111, 111, 112, 46, 101, 120, 97, 109, 112, 108, 101, 47, 103, 48, 49, 49, 52, 56, 47, 108, 97, 119, 115, 46, 70, 110, 69, 120, 
  97, 99, 116, 70, 97, 108, 108, 115, 79, 102, 32, 108, 111, 111, 112, 46, 101, 120, 97, 109, 112, 108, 101, 47, 103, 48, 49, 49, 52, 56, 47, 108, 97, 
  119, 115, 46, 70, 110, 69, 120, 97, 99, 116, 67, 111, 117, 110, 116, 77, 101, 101, 116, 115, 32, 108, 111, 111, 112, 46, 101, 120, 97, 109, 112, 108, 
  101, 47, 103, 48, 49, 49, 52, 56, 47, 108, 97, 119, 115, 46, 70, 110, 69, 120, 97, 99, 116, 66, 101, 97, 100, 115, 65, 116, 32, 108, 111, 111, 112, 46, 
  101, 120, 97, 109, 112, 108, 101, 47, 103, 48, 49, 49, 52, 56, 47, 108, 97, 119, 115, 46, 70, 110, 69, 120, 97, 99, 116, 77, 105, 114, 114, 111, 114, 
  87, 105, 114, 101]
theorem made_signs : Try.pinned.checked.prog.initOrder = String.ofList (makeSigns.map Char.ofNat) := by kernel_rfl
theorem cut_word {P : Program} (h : ((behindMainWord (wordsSigns P.initOrder.toList)).head? == some "cut".toList) = true) : ∃ rest, behindMainWord (wordsSigns P.initOrder.toList) = "cut".toList :: rest := by
  cases hb : behindMainWord (wordsSigns P.initOrder.toList) with
  | nil =>
    rw [hb] at h
    exact absurd h (by simp)
  | cons c rest =>
    rw [hb] at h
    have e := eq_of_beq h
    rw [List.head?_cons] at e
    cases e
    exact ⟨rest, rfl⟩
theorem strip_cut (rest : List (List Char)) : stripLifts liftWords ("cut".toList :: rest) = ([], "cut".toList :: rest) := by kernel_rfl
theorem make_cut {P : Program} (h : ((behindMainWord (wordsSigns P.initOrder.toList)).head? == some "cut".toList) = true) : P.make = some .cut := by
  obtain ⟨rest, hb⟩ := cut_word h
  unfold Program.make
  rw [hb]
  rfl
theorem lifts_cut {P : Program} (h : ((behindMainWord (wordsSigns P.initOrder.toList)).head? == some "cut".toList) = true) : P.liftsFinal = false := by
  obtain ⟨rest, hb⟩ := cut_word h
  unfold Program.liftsFinal Program.headLifts
  simp only [hb, strip_cut, List.head?_cons]
  rfl
theorem may_cut {P : Program} (h : ((behindMainWord (wordsSigns P.initOrder.toList)).head? == some "cut".toList) = true) (h1 : (!P.laysLater) = true) (h2 : (!P.bearsReflect) = true) (h3 : P.doorFits [] = true) : P.mayEnter = true := by
  obtain ⟨rest, hb⟩ := cut_word h
  unfold Program.mayEnter
  simp only [hb, strip_cut, List.head?_cons, h1, h2, h3]
  rfl
theorem made_cut : ((behindMainWord (wordsSigns Try.pinned.checked.prog.initOrder.toList)).head? == some "cut".toList) = true := by
  rw [made_signs, String.toList_ofList]
  kernel_rfl
theorem may_enter : Try.pinned.checked.prog.mayEnter = true := may_cut made_cut (by kernel_rfl) (by kernel_rfl) (by kernel_rfl)
theorem lifts_final : Try.pinned.checked.prog.liftsFinal = false := lifts_cut made_cut
theorem made_so : Try.pinned.checked.prog.make = some .cut := make_cut made_cut
theorem and_of {a b : Bool} (h1 : a = true) (h2 : b = true) : (a && b) = true := by rw [h1, h2]; rfl
end Go.Proofs.Ythbmiigndhoopaa
