/-
  What is proved: the walk of the law FnExactIsRoad: for every road, impl.IsRoad answers as the model does. Conditions: none beyond the row's own.
-/
import Derived.Test.YtebahfbegeoamaaAre
namespace Go.Proofs.Ytebahfbegeoamaa.fnExactIsRoad
open Go.RowKit

theorem walk (n : Int) (g : Bool) (w : World) :
    Calls Try.prog 3 #[rd n g] w fun e w' => e = .returned (.bool true) ∧ Below w.heap.size w w' := by
  have HT := Lib.hid (fun w => toRoad_any n g w)
  have HM := Lib.hid (fun w => modelIsRoad_any n g w)
  have HI := Lib.hid (fun w => isRoad_any n g w)
  have HX := Lib.hid (Boxed.first w n g 23)
  unfold rd at *
  go_enter Try.func3, Try.ntmps3
  go_wp2_with fail
  refine (HT.out _).mono ?_
  rintro e w1 ⟨rfl, hb⟩
  have HX1 := Lib.hid (HX.out.next hb)
  clear hb
  go_wp2_with fail
  refine (HM.out _).mono ?_
  rintro e w2 ⟨rfl, hb⟩
  have HX2 := Lib.hid (HX1.out.next hb)
  have h0 := HX2.out.c0
  have h1 := HX2.out.c1
  clear hb
  go_wp2_with fail
  refine (HT.out _).mono ?_
  rintro e w3 ⟨rfl, hb⟩
  have HX3 := Lib.hid (HX2.out.next hb)
  clear hb
  go_wp2_with fail
  refine (HI.out _).mono ?_
  rintro e w4 ⟨rfl, hb⟩
  have HX4 := Lib.hid (HX3.out.next hb)
  clear hb h0 h1
  cases roadB n g
  · go_wp2_with fail
    go_ret
    exact ⟨rfl, HX4.out.below⟩
  · go_wp2_with fail
    go_ret
    exact ⟨rfl, HX4.out.below⟩
end Go.Proofs.Ytebahfbegeoamaa.fnExactIsRoad
