/-
  What is proved: facts of the seat's program that its frames share: how it was made. Conditions: none.
-/
import Derived.Test.YtijhbhjapcfddaaChecked
import Derived.Test.YtijhbhjapcfddaaRows
import Derived.JoinedOf
namespace Go.Proofs.Ytijhbhjapcfddaa
set_option linter.unusedVariables false

def makeSigns : List Nat := [
  104, 97, 114, 110, 101, 115, 115, 32, 57, 48, 55, 98, 100, 53, 98, 48, 57, 51, 49, 56, 54, 48, 56, 54, 56, 102, 49, 55, 55, 50, 101, 57, 97, 54, 53, 
  53, 54, 51, 55, 50, 52, 50, 48, 101, 98, 54, 98, 56, 50, 48, 52, 97, 99, 53, 102, 54, 98, 54, 101, 52, 54, 56, 55, 99, 100, 99, 57, 98, 49, 101, 56, 
  99, 32, 99, 117, 116, 32, 97, 116, 32, 108, 111, 111, 112, 46, 101, 120, 97, 109, 112, 108, 101, 47, 103, 48, 49, 49, 52, 56, 47, 108, 97, 119, 115, 
  46, 70, 110, 69, 120, 97, 99, 116, 65, 114, 101, 69, 120, 112, 108, 111, 114, 101, 114, 115, 32, 108, 111, 111, 112, 46, 101, 120, 97, 109, 112, 108, 
  101, 47, 103, 48, 49, 49, 52, 56, 47, 108, 97, 119, 115, 46, 70, 110, 69, 120, 97, 99, 116, 82, 117, 110, 80, 108, 97, 99, 101, 115, 32, 108, 111, 111, 
  112, 46, 101, 120, 97, 109, 112, 108, 101, 47, 103, 48, 49, 49, 52, 56, 47, 108, 97, 119, 115, 46, 70, 110, 69, 120, 97, 99, 116, 82, 117, 110, 84, 
  105, 109, 101, 32, 108, 111, 111, 112, 46, 101, 120, 97, 109, 112, 108, 101, 47, 103, 48, 49, 49, 52, 56, 47, 108, 97, 119, 115, 46, 70, 110, 69, 120, 
  97, 99, 116, 82, 101, 97, 99, 104, 84, 105, 109, 101, 32, 108, 111, 111, 112, 46, 101, 120, 97, 109, 112, 108, 101, 47, 103, 48, 49, 49, 52, 56, 47, 
  108, 97, 119, 115, 46, 70, 110, 69, 120, 97, 99, 116, 82, 101, 116, 117, 114, 110, 84, 105, 109, 101, 32, 108, 111, 111, 112, 46, 101, 120, 97, 109, 
  112, 108, 101, 47, 103, 48, 49, 49, 52, 56, 47, 108, 97, 119, 115, 46, 70, 110, 69, 120, 97, 99, 116, 84, 97, 107, 101, 110, 82, 117, 110, 115, 32, 
  108, 111, 111, 112, 46, 101, 120, 97, 109, 112, 108, 101, 47, 103, 48, 49, 49, 52, 56, 47, 108, 97, 119, 115, 46, 70, 110, 69, 120, 97, 99, 116, 70, 
  105, 114, 115, 116, 79, 114, 100, 101, 114, 32, 108, 111, 111, 112, 46, 101, 120, 97, 109, 112, 108, 101, 47, 103, 48, 49, 49, 52, 56, 47, 108, 97, 
  119, 115, 46, 70, 110, 69, 120, 97, 99, 116, 67, 97, 110, 82, 101, 97, 99, 104, 32, 108, 111, 111, 112, 46, 101, 120, 97, 109, 112, 108, 101, 47, 103, 
  48, 49, 49, 52, 56, 47, 108, 97, 119, 115, 46, 70, 110, 69, 120, 97, 99, 116, 69, 120, 112, 108, 111, 114, 101, 66, 111, 117, 110, 100, 32, 108, 111, 
  111, 112, 46, 101, 120, 97, 109, 112, 108, 101, 47, 103, 48, 49, 49, 52, 56, 47, 108, 97, 119, 115, 46, 70, 110, 69, 120, 97, 99, 116, 76, 101, 97, 
  118, 101, 84, 105, 109, 101, 115, 32, 108, 111, 111, 112, 46, 101, 120, 97, 109, 112, 108, 101, 47, 103, 48, 49, 49, 52, 56, 47, 108, 97, 119, 115, 46, 
  70, 110, 69, 120, 97, 99, 116, 87, 111, 114, 115, 116, 76, 101, 97, 118, 101, 32, 108, 111, 111, 112, 46, 101, 120, 97, 109, 112, 108, 101, 47, 103, 
  48, 49, 49, 52, 56, 47, 108, 97, 119, 115, 46, 70, 110, 69, 120, 97, 99, 116, 83, 112, 108, 105, 116, 87, 97, 108, 107, 115, 32, 108, 111, 111, 112, 
  46, 101, 120, 97, 109, 112, 108, 101, 47, 103, 48, 49, 49, 52, 56, 47, 108, 97, 119, 115, 46, 70, 110, 69, 120, 97, 99, 116, 67, 111, 118, 101, 114, 
  84, 105, 109, 101, 32, 108, 111, 111, 112, 46, 101, 120, 97, 109, 112, 108, 101, 47, 103, 48, 49, 49, 52, 56, 47, 108, 97, 119, 115, 46, 70, 110, 69, 
  120, 97, 99, 116, 86, 105, 115, 105, 116, 84, 105, 109, 101, 115, 32, 108, 111, 111, 112, 46, 101, 120, 97, 109, 112, 108, 101, 47, 103, 48, 49, 49, 
  52, 56, 47, 108, 97, 119, 115, 46, 70, 110, 69, 120, 97, 99, 116, 73, 100, 108, 101, 84, 105, 109, 101, 115, 32, 108, 111, 111, 112, 46, 101, 120, 97, 
  109, 112, 108, 101, 47, 103, 48, 49, 49, 52, 56, 47, 108, 97, 119, 115, 46, 70, 110, 69, 120, 97, 99, 116, 80, 97, 117, 115, 101, 79, 102]
theorem made_signs : Try.pinned.checked.prog.initOrder = String.ofList (makeSigns.map Char.ofNat) := by kernel_rfl
theorem cut_word {P : Program} (h : ((behindMainWord (wordsSigns P.initOrder.toList)).head? == some "cut".toList) = true) : ∃ rest, behindMainWord (wordsSigns P.initOrder.toList) = "cut".toList :: rest := by
  cases hb : behindMainWord (wordsSigns P.initOrder.toList) with
  | nil =>
    rw [hb] at h
    exact absurd h (by simp)
  | cons c rest =>
    rw [hb] at h
    have e := eq_of_beq h
    rw [List.head?_cons] at e
    cases e
    exact ⟨rest, rfl⟩
theorem strip_cut (rest : List (List Char)) : stripLifts liftWords ("cut".toList :: rest) = ([], "cut".toList :: rest) := by kernel_rfl
theorem make_cut {P : Program} (h : ((behindMainWord (wordsSigns P.initOrder.toList)).head? == some "cut".toList) = true) : P.make = some .cut := by
  obtain ⟨rest, hb⟩ := cut_word h
  unfold Program.make
  rw [hb]
  rfl
theorem lifts_cut {P : Program} (h : ((behindMainWord (wordsSigns P.initOrder.toList)).head? == some "cut".toList) = true) : P.liftsFinal = false := by
  obtain ⟨rest, hb⟩ := cut_word h
  unfold Program.liftsFinal Program.headLifts
  simp only [hb, strip_cut, List.head?_cons]
  rfl
theorem may_cut {P : Program} (h : ((behindMainWord (wordsSigns P.initOrder.toList)).head? == some "cut".toList) = true) (h1 : (!P.laysLater) = true) (h2 : (!P.bearsReflect) = true) (h3 : P.doorFits [] = true) : P.mayEnter = true := by
  obtain ⟨rest, hb⟩ := cut_word h
  unfold Program.mayEnter
  simp only [hb, strip_cut, List.head?_cons, h1, h2, h3]
  rfl
theorem made_cut : ((behindMainWord (wordsSigns Try.pinned.checked.prog.initOrder.toList)).head? == some "cut".toList) = true := by
  rw [made_signs, String.toList_ofList]
  kernel_rfl
theorem may_enter : Try.pinned.checked.prog.mayEnter = true := may_cut made_cut (by kernel_rfl) (by kernel_rfl) (by kernel_rfl)
theorem lifts_final : Try.pinned.checked.prog.liftsFinal = false := lifts_cut made_cut
theorem made_so : Try.pinned.checked.prog.make = some .cut := make_cut made_cut
theorem and_of {a b : Bool} (h1 : a = true) (h2 : b = true) : (a && b) = true := by rw [h1, h2]; rfl
end Go.Proofs.Ytijhbhjapcfddaa
