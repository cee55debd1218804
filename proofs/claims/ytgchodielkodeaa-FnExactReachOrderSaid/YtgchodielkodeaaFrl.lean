/-
  What is proved: facts of the seat's program that its frames share: how it was made. Conditions: none.
-/
import Derived.Test.YtgchodielkodeaaChecked
import Derived.Test.YtgchodielkodeaaRows
import Derived.JoinedOf
namespace Go.Proofs.Ytgchodielkodeaa
set_option linter.unusedVariables false

def makeSigns : List Nat := [
  104, 97, 114, 110, 101, 115, 115, 32, 51, 48, 49, 99, 101, 51, 57, 98, 54, 100, 55, 53, 49, 57, 100, 55, 99, 50, 99, 53, 55, 101, 48, 48, 52, 53, 56, 
  50, 54, 102, 55, 52, 56, 102, 51, 57, 102, 102, 49, 52, 51, 102, 50, 55, 55, 100, 52, 48, 51, 101, 57, 100, 51, 49, 99, 100, 57, 56, 102, 97, 50, 51, 
  100, 49, 32, 99, 117, 116, 32, 97, 116, 32, 108, 111, 111, 112, 46, 101, 120, 97, 109, 112, 108, 101, 47, 103, 48, 49, 49, 52, 56, 47, 108, 97, 119, 
  115, 46, 70, 110, 69, 120, 97, 99, 116, 65, 114, 101, 67, 97, 114, 114, 105, 101, 114, 115, 32, 108, 111, 111, 112, 46, 101, 120, 97, 109, 112, 108, 
  101, 47, 103, 48, 49, 49, 52, 56, 47, 108, 97, 119, 115, 46, 70, 110, 69, 120, 97, 99, 116, 76, 101, 103, 69, 110, 100, 32, 108, 111, 111, 112, 46, 
  101, 120, 97, 109, 112, 108, 101, 47, 103, 48, 49, 49, 52, 56, 47, 108, 97, 119, 115, 46, 70, 110, 69, 120, 97, 99, 116, 79, 114, 100, 101, 114, 82, 
  101, 97, 99, 104, 32, 108, 111, 111, 112, 46, 101, 120, 97, 109, 112, 108, 101, 47, 103, 48, 49, 49, 52, 56, 47, 108, 97, 119, 115, 46, 70, 110, 69, 
  120, 97, 99, 116, 71, 114, 101, 97, 116, 101, 115, 116, 82, 101, 97, 99, 104, 32, 108, 111, 111, 112, 46, 101, 120, 97, 109, 112, 108, 101, 47, 103, 
  48, 49, 49, 52, 56, 47, 108, 97, 119, 115, 46, 70, 110, 69, 120, 97, 99, 116, 82, 101, 97, 99, 104, 79, 114, 100, 101, 114, 32, 108, 111, 111, 112, 46, 
  101, 120, 97, 109, 112, 108, 101, 47, 103, 48, 49, 49, 52, 56, 47, 108, 97, 119, 115, 46, 70, 110, 69, 120, 97, 99, 116, 73, 115, 82, 101, 108, 97, 
  121, 32, 108, 111, 111, 112, 46, 101, 120, 97, 109, 112, 108, 101, 47, 103, 48, 49, 49, 52, 56, 47, 108, 97, 119, 115, 46, 70, 110, 69, 120, 97, 99, 
  116, 82, 101, 108, 97, 121, 80, 114, 105, 99, 101, 32, 108, 111, 111, 112, 46, 101, 120, 97, 109, 112, 108, 101, 47, 103, 48, 49, 49, 52, 56, 47, 108, 
  97, 119, 115, 46, 70, 110, 69, 120, 97, 99, 116, 82, 101, 108, 97, 121, 65, 114, 114, 105, 118, 97, 108, 32, 108, 111, 111, 112, 46, 101, 120, 97, 109, 
  112, 108, 101, 47, 103, 48, 49, 49, 52, 56, 47, 108, 97, 119, 115, 46, 70, 110, 69, 120, 97, 99, 116, 76, 101, 97, 115, 116, 80, 114, 105, 99, 101, 32, 
  108, 111, 111, 112, 46, 101, 120, 97, 109, 112, 108, 101, 47, 103, 48, 49, 49, 52, 56, 47, 108, 97, 119, 115, 46, 70, 110, 69, 120, 97, 99, 116, 70, 
  105, 114, 115, 116, 65, 114, 114, 105, 118, 97, 108, 32, 108, 111, 111, 112, 46, 101, 120, 97, 109, 112, 108, 101, 47, 103, 48, 49, 49, 52, 56, 47, 
  108, 97, 119, 115, 46, 70, 110, 69, 120, 97, 99, 116, 69, 120, 116, 114, 97, 82, 97, 110, 103, 101, 32, 108, 111, 111, 112, 46, 101, 120, 97, 109, 112, 
  108, 101, 47, 103, 48, 49, 49, 52, 56, 47, 108, 97, 119, 115, 46, 70, 110, 69, 120, 97, 99, 116, 70, 101, 119, 101, 115, 116, 67, 97, 114, 114, 105, 
  101, 114, 115, 32, 108, 111, 111, 112, 46, 101, 120, 97, 109, 112, 108, 101, 47, 103, 48, 49, 49, 52, 56, 47, 108, 97, 119, 115, 46, 70, 110, 69, 120, 
  97, 99, 116, 82, 101, 97, 99, 104, 84, 105, 109, 101, 32, 108, 111, 111, 112, 46, 101, 120, 97, 109, 112, 108, 101, 47, 103, 48, 49, 49, 52, 56, 47, 
  108, 97, 119, 115, 46, 70, 110, 69, 120, 97, 99, 116, 82, 101, 116, 117, 114, 110, 84, 105, 109, 101, 32, 108, 111, 111, 112, 46, 101, 120, 97, 109, 
  112, 108, 101, 47, 103, 48, 49, 49, 52, 56, 47, 108, 97, 119, 115, 46, 70, 110, 69, 120, 97, 99, 116, 70, 105, 114, 115, 116, 79, 114, 100, 101, 114, 
  32, 108, 111, 111, 112, 46, 101, 120, 97, 109, 112, 108, 101, 47, 103, 48, 49, 49, 52, 56, 47, 108, 97, 119, 115, 46, 70, 110, 69, 120, 97, 99, 116, 
  67, 97, 110, 82, 101, 97, 99, 104]
theorem made_signs : Try.pinned.checked.prog.initOrder = String.ofList (makeSigns.map Char.ofNat) := by kernel_rfl
theorem cut_word {P : Program} (h : ((behindMainWord (wordsSigns P.initOrder.toList)).head? == some "cut".toList) = true) : ∃ rest, behindMainWord (wordsSigns P.initOrder.toList) = "cut".toList :: rest := by
  cases hb : behindMainWord (wordsSigns P.initOrder.toList) with
  | nil =>
    rw [hb] at h
    exact absurd h (by simp)
  | cons c rest =>
    rw [hb] at h
    have e := eq_of_beq h
    rw [List.head?_cons] at e
    cases e
    exact ⟨rest, rfl⟩
theorem strip_cut (rest : List (List Char)) : stripLifts liftWords ("cut".toList :: rest) = ([], "cut".toList :: rest) := by kernel_rfl
theorem make_cut {P : Program} (h : ((behindMainWord (wordsSigns P.initOrder.toList)).head? == some "cut".toList) = true) : P.make = some .cut := by
  obtain ⟨rest, hb⟩ := cut_word h
  unfold Program.make
  rw [hb]
  rfl
theorem lifts_cut {P : Program} (h : ((behindMainWord (wordsSigns P.initOrder.toList)).head? == some "cut".toList) = true) : P.liftsFinal = false := by
  obtain ⟨rest, hb⟩ := cut_word h
  unfold Program.liftsFinal Program.headLifts
  simp only [hb, strip_cut, List.head?_cons]
  rfl
theorem may_cut {P : Program} (h : ((behindMainWord (wordsSigns P.initOrder.toList)).head? == some "cut".toList) = true) (h1 : (!P.laysLater) = true) (h2 : (!P.bearsReflect) = true) (h3 : P.doorFits [] = true) : P.mayEnter = true := by
  obtain ⟨rest, hb⟩ := cut_word h
  unfold Program.mayEnter
  simp only [hb, strip_cut, List.head?_cons, h1, h2, h3]
  rfl
theorem made_cut : ((behindMainWord (wordsSigns Try.pinned.checked.prog.initOrder.toList)).head? == some "cut".toList) = true := by
  rw [made_signs, String.toList_ofList]
  kernel_rfl
theorem may_enter : Try.pinned.checked.prog.mayEnter = true := may_cut made_cut (by kernel_rfl) (by kernel_rfl) (by kernel_rfl)
theorem lifts_final : Try.pinned.checked.prog.liftsFinal = false := lifts_cut made_cut
theorem made_so : Try.pinned.checked.prog.make = some .cut := make_cut made_cut
theorem and_of {a b : Bool} (h1 : a = true) (h2 : b = true) : (a && b) = true := by rw [h1, h2]; rfl
end Go.Proofs.Ytgchodielkodeaa
