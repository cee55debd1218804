/-
  What is proved: the walk of the law FnExactGapOf: for every input impl.GapOf answers as the model does, its arguments read as before, and its answer is memory of its own. Conditions: none beyond the row's own.
-/
import Derived.Test.YtebahfbegeoamaaFn9
namespace Go.Proofs.Ytebahfbegeoamaa.fnExactGapOf
open Go.RowKit
set_option linter.unusedVariables false

set_option maxHeartbeats 1600000 in
theorem law_two (n : Int) (g : Bool) (a1 : Int) (a2 : Int) (z : Int) (b : Bool) (w : World) 
    (hm : ∀ (w : World), Calls Try.prog 24 #[rd n g, .int .i64 a1, .int .i64 a2] w fun e w' => e = .returned (.tuple #[.int .i64 z, .bool b]) ∧ Below w.heap.size w w')
    (hi : ∀ (w : World), Calls Try.prog 25 #[rd n g, .int .i64 a1, .int .i64 a2] w fun e w' => e = .returned (.tuple #[.int .i64 z, .bool b]) ∧ Below w.heap.size w w') :
    Calls Try.prog 5 #[rd n g, .int .i64 a1, .int .i64 a2] w fun e w' => e = .returned (.bool true) ∧ Below w.heap.size w w' := by
  have HM := Lib.hid hm
  have HI := Lib.hid hi
  have HT := Lib.hid (fun w => toRoad_any n g w)
  have HX := Lib.hid (Boxed.first w n g 23)
  clear hm hi
  unfold rd at *
  go_enter Try.func5, Try.ntmps5
  go_wp2_with fail
  refine (HT.out _).mono ?_
  rintro e w1 ⟨rfl, hb⟩
  have HX := Lib.hid (HX.out.next hb)
  have hb0 := HX.out.c0
  have hb1 := HX.out.c1
  clear hb
  go_wp2_with fail
  refine (HM.out _).mono ?_
  rintro e w2 ⟨rfl, hb⟩
  clear hb0 hb1
  have HX := Lib.hid (HX.out.next hb)
  have hb0 := HX.out.c0
  have hb1 := HX.out.c1
  clear hb
  have HMid : Hid (Below w2.heap.size w2 w2) := Lib.hid (Below.refl _ _)
  have HXm := Lib.hid HX.out.size
  go_wp2_with fail
  refine (HT.out _).mono ?_
  rintro e w3 ⟨rfl, hb⟩
  clear hb0 hb1
  have HX := Lib.hid (HX.out.next hb)
  have HMid := Lib.hid (HMid.out.trans (hb.mono HMid.out.size))
  have hb0 := HX.out.c0
  have hb1 := HX.out.c1
  clear hb
  go_wp2_with fail
  refine (HI.out _).mono ?_
  rintro e w4 ⟨rfl, hb⟩
  clear hb0 hb1
  have HX := Lib.hid (HX.out.next hb)
  have HMid := Lib.hid (HMid.out.trans (hb.mono HMid.out.size))
  have hb0 := HX.out.c0
  have hb1 := HX.out.c1
  clear hb
  cases b
  all_goals
    go_wp2_with fail
    go_ret
    exact ⟨rfl, HX.out.below⟩

theorem walk (n : Int) (g : Bool) (a1 : Int) (a2 : Int) (w : World) (ha1 : -9223372036854775808 ≤ a1 ∧ a1 ≤ 9223372036854775807) (ha2 : -9223372036854775808 ≤ a2 ∧ a2 ≤ 9223372036854775807) :
    Calls Try.prog 5 #[rd n g, .int .i64 a1, .int .i64 a2] w fun e w' => e = .returned (.bool true) ∧ Below w.heap.size w w' := by
  exact law_two n g a1 a2 (gapR n g a1 a2).1 (gapR n g a1 a2).2 w  (fun w => spec_GapOf n g a1 a2 w) (fun w => impl_GapOf n g a1 a2 w)
end Go.Proofs.Ytebahfbegeoamaa.fnExactGapOf
