/-
  What is proved: the walk of the law FnExactFewestCarriers: for every input impl.FewestCarriers answers as the model does, its arguments read as before, and its answer is memory of its own. Conditions: none beyond the row's own.
-/
import Derived.Test.YtekahkeddpngpaaRzb
import Derived.Test.YtekahkeddpngpaaRlb
import Derived.Test.YtekahkeddpngpaaTbb
namespace Go.Proofs.Ytekahkeddpngpaa.fnExactFewestCarriers
open Go.RowKit
set_option linter.unusedVariables false
set_option linter.unusedSimpArgs false

set_option maxHeartbeats 3200000 in
set_option maxRecDepth 20000 in
theorem law_two (n : Int) (g : Bool) (v1 : Value) (cs1 : List Cr) (a2 : Int) (a3 : Int) (z : Int) (b : Bool) (w : World) (hv1 : ReadsC w v1 cs1) (hn1 : cs1.length ≤ 1048576)
    (hm : ∀ (u1 : Value) (w : World), ReadsC w u1 cs1 → Calls Try.prog 30 #[rd n g, u1, .int .i64 a2, .int .i64 a3] w fun e w' => e = .returned (.tuple #[.int .i64 z, .bool b]) ∧ Below w.heap.size w w')
    (hi : ∀ (u1 : Value) (w : World), ReadsC w u1 cs1 → Calls Try.prog 31 #[rd n g, u1, .int .i64 a2, .int .i64 a3] w fun e w' => e = .returned (.tuple #[.int .i64 z, .bool b]) ∧ Below w.heap.size w w') :
    Calls Try.prog 9 #[rd n g, v1, .int .i64 a2, .int .i64 a3] w fun e w' => e = .returned (.bool true) ∧ Below w.heap.size w w' := by
  have HM := Lib.hid hm
  have HI := Lib.hid hi
  have HT := Lib.hid (fun w => toRoad_any n g w)
  have HV1 := Lib.hid hv1
  clear hv1
  clear hm hi
  have HX := Lib.hid (Boxed.first w n g 23)
  unfold rd at *
  go_enter Try.func9, Try.ntmps9
  go_wp2_with fail
  have HZw1 : Hid (w.heap.size + 1 ≤ (w.alloc (.cells #[.int .i64 n, .bool g] 23)).heap.size) := Lib.hid (by simp)
  generalize (w.alloc (.cells #[.int .i64 n, .bool g] 23)) = w1 at *
  have hb0 := HX.out.c0
  have hb1 := HX.out.c1
  refine (szCS_yes v1 cs1 (1048576) _ (HV1.out.below HX.out.below) (by omega) (by omega)).mono ?_
  rintro e w2 ⟨rfl, rfl⟩
  go_wp2_with fail
  refine (HT.out _).mono ?_
  rintro e w2 ⟨rfl, hb⟩
  clear hb0 hb1
  have HX := Lib.hid (HX.out.next hb)
  have HZw2 : Hid (w1.heap.size ≤ w2.heap.size) := Lib.hid (hb.size)
  clear hb
  have hb0 := HX.out.c0
  have hb1 := HX.out.c1
  go_wp2_with fail
  refine (toCS_any v1 cs1 _ (HV1.out.below HX.out.below) hn1).mono ?_
  rintro e w3 ⟨x1, rfl, ho, hb⟩
  clear hb0 hb1
  have HX := Lib.hid (HX.out.next hb)
  have HZw3 : Hid (w2.heap.size ≤ w3.heap.size) := Lib.hid (hb.size)
  have HOx1 := Lib.hid ho
  clear ho
  clear hb
  have hb0 := HX.out.c0
  have hb1 := HX.out.c1
  go_wp2_with fail
  refine (HM.out x1 _ HOx1.out).mono ?_
  rintro e w4 ⟨rfl, hb⟩
  clear hb0 hb1
  have HX := Lib.hid (HX.out.next hb)
  have HOx1 := Lib.hid (HOx1.out.below hb)
  have HZw4 : Hid (w3.heap.size ≤ w4.heap.size) := Lib.hid (hb.size)
  clear hb
  have HMid : Hid (Below w4.heap.size w4 w4) := Lib.hid (Below.refl _ _)
  have HXm := Lib.hid HX.out.size
  clear HOx1
  have hb0 := HX.out.c0
  have hb1 := HX.out.c1
  go_wp2_with fail
  refine (toCS_any v1 cs1 _ (HV1.out.below HX.out.below) hn1).mono ?_
  rintro e w5 ⟨x2, rfl, ho, hb⟩
  clear hb0 hb1
  have HX := Lib.hid (HX.out.next hb)
  have HMid := Lib.hid (HMid.out.trans (hb.mono HMid.out.size))
  have HZw5 : Hid (w4.heap.size ≤ w5.heap.size) := Lib.hid (hb.size)
  have HOx2 := Lib.hid ho
  clear ho
  clear hb
  have hb0 := HX.out.c0
  have hb1 := HX.out.c1
  go_wp2_with fail
  refine (HT.out _).mono ?_
  rintro e w6 ⟨rfl, hb⟩
  clear hb0 hb1
  have HX := Lib.hid (HX.out.next hb)
  have HOx2 := Lib.hid (HOx2.out.below hb)
  have HMid := Lib.hid (HMid.out.trans (hb.mono HMid.out.size))
  have HZw6 : Hid (w5.heap.size ≤ w6.heap.size) := Lib.hid (hb.size)
  clear hb
  have hb0 := HX.out.c0
  have hb1 := HX.out.c1
  go_wp2_with fail
  refine (HI.out x2 _ HOx2.out).mono ?_
  rintro e w7 ⟨rfl, hb⟩
  clear hb0 hb1
  have HX := Lib.hid (HX.out.next hb)
  have HOx2 := Lib.hid (HOx2.out.below hb)
  have HMid := Lib.hid (HMid.out.trans (hb.mono HMid.out.size))
  have HZw7 : Hid (w6.heap.size ≤ w7.heap.size) := Lib.hid (hb.size)
  clear hb
  cases b
  all_goals
    have hb0 := HX.out.c0
    have hb1 := HX.out.c1
    go_wp2_with fail
    refine (toCS_any v1 cs1 _ (HV1.out.below HX.out.below) hn1).mono ?_
    rintro e w8 ⟨x3, rfl, ho, hb⟩
    clear hb0 hb1
    have HX := Lib.hid (HX.out.next hb)
    have HOx2 := Lib.hid (HOx2.out.below hb)
    have HMid := Lib.hid (HMid.out.trans (hb.mono HMid.out.size))
    have HZw8 : Hid (w7.heap.size ≤ w8.heap.size) := Lib.hid (hb.size)
    have HOx3 := Lib.hid ho
    clear ho
    clear hb
    have hb0 := HX.out.c0
    have hb1 := HX.out.c1
    go_wp2_with fail
    refine (eqCS_yes x2 x3 cs1 _ HOx2.out HOx3.out).mono ?_
    rintro e w9 ⟨rfl, hb⟩
    clear hb0 hb1
    have HX := Lib.hid (HX.out.next hb)
    have HOx2 := Lib.hid (HOx2.out.below hb)
    have HOx3 := Lib.hid (HOx3.out.below hb)
    have HMid := Lib.hid (HMid.out.trans (hb.mono HMid.out.size))
    have HZw9 : Hid (w8.heap.size ≤ w9.heap.size) := Lib.hid (hb.size)
    clear hb
    clear HOx3
    go_wp2_with fail
    go_ret
    exact ⟨rfl, HX.out.below⟩
set_option maxHeartbeats 800000 in
theorem law_long (n : Int) (g : Bool) (v1 : Value) (cs1 : List Cr) (a2 : Int) (a3 : Int) (w : World) (hv1 : ReadsC w v1 cs1) (hlong : 1048576 < cs1.length) :
    Calls Try.prog 9 #[rd n g, v1, .int .i64 a2, .int .i64 a3] w fun e w' => e = .returned (.bool true) ∧ Below w.heap.size w w' := by
  have HX := Lib.hid (below_new w (.cells #[.int .i64 n, .bool g] 23))
  have HS1 := Lib.hid (fun l w hv (hl : l ≤ 1048576) (h : cs1.length ≤ l) => szCS_yes v1 cs1 l w hv hl h)
  have HN1 := Lib.hid (fun l w hv (hl : l ≤ 1048576) (h : l < cs1.length) => szCS_no v1 cs1 l w hv hl h)
  have HV1 := Lib.hid (hv1.below HX.out)
  clear hv1
  unfold rd at *
  have hlg : 1048576 < cs1.length := hlong
  go_enter Try.func9, Try.ntmps9
  go_wp2_with fail
  refine (HN1.out (1048576) _ HV1.out (by omega) (by omega)).mono ?_
  rintro e w2 ⟨rfl, rfl⟩
  go_wp2_with fail
  go_ret
  exact ⟨rfl, HX.out⟩

theorem walk (n : Int) (g : Bool) (v1 : Value) (cs1 : List Cr) (a2 : Int) (a3 : Int) (w : World) (hv1 : ReadsC w v1 cs1) (ha2 : -9223372036854775808 ≤ a2 ∧ a2 ≤ 9223372036854775807) (ha3 : -9223372036854775808 ≤ a3 ∧ a3 ≤ 9223372036854775807) :
    Calls Try.prog 9 #[rd n g, v1, .int .i64 a2, .int .i64 a3] w fun e w' => e = .returned (.bool true) ∧ Below w.heap.size w w' := by
  by_cases h : 1048576 < cs1.length
  · exact law_long n g v1 cs1 a2 a3 w hv1 h
  · skip
    exact law_two n g v1 cs1 a2 a3 ((fewR n g cs1 a2 a3)).1 ((fewR n g cs1 a2 a3)).2 w hv1 (by omega) (fun u1 w h1 => spec_FewestCarriers n g u1 cs1 a2 a3 w h1) (fun u1 w h1 => impl_FewestCarriers n g u1 cs1 a2 a3 w h1)
end Go.Proofs.Ytekahkeddpngpaa.fnExactFewestCarriers
