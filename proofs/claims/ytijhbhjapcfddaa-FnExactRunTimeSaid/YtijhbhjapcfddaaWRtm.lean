/-
  What is proved: the walk of the law FnExactRunTime: for every input impl.RunTime answers as the model does, its arguments read as before, and its answer is memory of its own. Conditions: none beyond the row's own.
-/
import Derived.Test.YtijhbhjapcfddaaExf
import Derived.Test.YtijhbhjapcfddaaTbb
namespace Go.Proofs.Ytijhbhjapcfddaa.fnExactRunTime
open Go.RowKit
set_option linter.unusedVariables false
set_option linter.unusedSimpArgs false

set_option maxHeartbeats 3200000 in
set_option maxRecDepth 20000 in
theorem law_two (n : Int) (g : Bool) (a1 : Int) (a2 : Int) (a3 : Int) (a4 : Bool) (z : Int) (b : Bool) (w : World) 
    (hm : ∀  (w : World), Calls Try.prog 28 #[rd n g, .int .i64 a1, .int .i64 a2, .int .i64 a3, .bool a4] w fun e w' => e = .returned (.tuple #[.int .i64 z, .bool b]) ∧ Below w.heap.size w w')
    (hi : ∀  (w : World), Calls Try.prog 29 #[rd n g, .int .i64 a1, .int .i64 a2, .int .i64 a3, .bool a4] w fun e w' => e = .returned (.tuple #[.int .i64 z, .bool b]) ∧ Below w.heap.size w w') :
    Calls Try.prog 5 #[rd n g, .int .i64 a1, .int .i64 a2, .int .i64 a3, .bool a4] w fun e w' => e = .returned (.bool true) ∧ Below w.heap.size w w' := by
  have HM := Lib.hid hm
  have HI := Lib.hid hi
  have HT := Lib.hid (fun w => toRoad_any n g w)
  clear hm hi
  have HX := Lib.hid (Boxed.first w n g 23)
  unfold rd at *
  go_enter Try.func5, Try.ntmps5
  go_wp2_with fail
  have HZw1 : Hid (w.heap.size + 1 ≤ (w.alloc (.cells #[.int .i64 n, .bool g] 23)).heap.size) := Lib.hid (by simp)
  generalize (w.alloc (.cells #[.int .i64 n, .bool g] 23)) = w1 at *
  have hb0 := HX.out.c0
  have hb1 := HX.out.c1
  refine (HT.out _).mono ?_
  rintro e w2 ⟨rfl, hb⟩
  clear hb0 hb1
  have HX := Lib.hid (HX.out.next hb)
  have HZw2 : Hid (w1.heap.size ≤ w2.heap.size) := Lib.hid (hb.size)
  clear hb
  have hb0 := HX.out.c0
  have hb1 := HX.out.c1
  go_wp2_with fail
  refine (HM.out _).mono ?_
  rintro e w3 ⟨rfl, hb⟩
  clear hb0 hb1
  have HX := Lib.hid (HX.out.next hb)
  have HZw3 : Hid (w2.heap.size ≤ w3.heap.size) := Lib.hid (hb.size)
  clear hb
  have HMid : Hid (Below w3.heap.size w3 w3) := Lib.hid (Below.refl _ _)
  have HXm := Lib.hid HX.out.size
  have hb0 := HX.out.c0
  have hb1 := HX.out.c1
  go_wp2_with fail
  refine (HT.out _).mono ?_
  rintro e w4 ⟨rfl, hb⟩
  clear hb0 hb1
  have HX := Lib.hid (HX.out.next hb)
  have HMid := Lib.hid (HMid.out.trans (hb.mono HMid.out.size))
  have HZw4 : Hid (w3.heap.size ≤ w4.heap.size) := Lib.hid (hb.size)
  clear hb
  have hb0 := HX.out.c0
  have hb1 := HX.out.c1
  go_wp2_with fail
  refine (HI.out _).mono ?_
  rintro e w5 ⟨rfl, hb⟩
  clear hb0 hb1
  have HX := Lib.hid (HX.out.next hb)
  have HMid := Lib.hid (HMid.out.trans (hb.mono HMid.out.size))
  have HZw5 : Hid (w4.heap.size ≤ w5.heap.size) := Lib.hid (hb.size)
  clear hb
  cases b
  all_goals
    go_wp2_with fail
    go_ret
    exact ⟨rfl, HX.out.below⟩

theorem walk (n : Int) (g : Bool) (a1 : Int) (a2 : Int) (a3 : Int) (a4 : Bool) (w : World) (ha1 : -9223372036854775808 ≤ a1 ∧ a1 ≤ 9223372036854775807) (ha2 : -9223372036854775808 ≤ a2 ∧ a2 ≤ 9223372036854775807) (ha3 : -9223372036854775808 ≤ a3 ∧ a3 ≤ 9223372036854775807) :
    Calls Try.prog 5 #[rd n g, .int .i64 a1, .int .i64 a2, .int .i64 a3, .bool a4] w fun e w' => e = .returned (.bool true) ∧ Below w.heap.size w w' := by
  · skip
    exact law_two n g a1 a2 a3 a4 ((rtimeR n g a1 a2 a3 a4)).1 ((rtimeR n g a1 a2 a3 a4)).2 w  (fun  w  => spec_RunTime n g a1 a2 a3 a4 w ) (fun  w  => impl_RunTime n g a1 a2 a3 a4 w )
end Go.Proofs.Ytijhbhjapcfddaa.fnExactRunTime
