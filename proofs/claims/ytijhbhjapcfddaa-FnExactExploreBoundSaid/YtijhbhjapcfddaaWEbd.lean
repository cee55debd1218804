/-
  What is proved: the walk of the law FnExactExploreBound: for every input impl.ExploreBound answers as the model does, its arguments read as before, and its answer is memory of its own. Conditions: none beyond the row's own.
-/
import Derived.Test.YtijhbhjapcfddaaExg
import Derived.Test.YtijhbhjapcfddaaTbb
namespace Go.Proofs.Ytijhbhjapcfddaa.fnExactExploreBound
open Go.RowKit
set_option linter.unusedVariables false
set_option linter.unusedSimpArgs false

set_option maxHeartbeats 3200000 in
set_option maxRecDepth 20000 in
theorem law_two (n : Int) (g : Bool) (v1 : Value) (xs1 : List Int) (z : Int) (b : Bool) (w : World) (hv1 : ReadsI w v1 xs1) (hn1 : xs1.length ≤ 1048576)
    (hm : ∀ (u1 : Value) (w : World), ReadsI w u1 xs1 → Calls Try.prog 40 #[rd n g, u1] w fun e w' => e = .returned (.tuple #[.int .i64 z, .bool b]) ∧ Below w.heap.size w w')
    (hi : ∀ (u1 : Value) (w : World), ReadsI w u1 xs1 → Calls Try.prog 41 #[rd n g, u1] w fun e w' => e = .returned (.tuple #[.int .i64 z, .bool b]) ∧ Below w.heap.size w w') :
    Calls Try.prog 11 #[rd n g, v1] w fun e w' => e = .returned (.bool true) ∧ Below w.heap.size w w' := by
  have HM := Lib.hid hm
  have HI := Lib.hid hi
  have HT := Lib.hid (fun w => toRoad_any n g w)
  have hnm : xs1.length ≤ maxLen := by unfold maxLen; omega
  have Hnxs1 := Lib.hid hnm
  have Hbxs1 := Lib.hid hn1
  clear hnm
  have HV1 := Lib.hid hv1
  obtain ⟨y1, c1, hvv1, _⟩ := hv1
  subst hvv1
  clear hm hi
  have HX := Lib.hid (Boxed.first w n g 23)
  unfold rd at *
  go_enter Try.func11, Try.ntmps11
  go_wp2_with fail
  have HZw1 : Hid (w.heap.size + 1 ≤ (w.alloc (.cells #[.int .i64 n, .bool g] 23)).heap.size) := Lib.hid (by simp)
  generalize (w.alloc (.cells #[.int .i64 n, .bool g] 23)) = w1 at *
  have hb0 := HX.out.c0
  have hb1 := HX.out.c1
  refine (HT.out _).mono ?_
  rintro e w2 ⟨rfl, hb⟩
  clear hb0 hb1
  have HX := Lib.hid (HX.out.next hb)
  have HZw2 : Hid (w1.heap.size ≤ w2.heap.size) := Lib.hid (hb.size)
  clear hb
  have hb0 := HX.out.c0
  have hb1 := HX.out.c1
  go_wp2_with fail
  refine (toI_any (.slice y1 xs1.length c1) xs1 _ (HV1.out.below HX.out.below) hn1).mono ?_
  rintro e w3 ⟨x1, rfl, ho, hb⟩
  clear hb0 hb1
  have HX := Lib.hid (HX.out.next hb)
  have HZw3 : Hid (w2.heap.size ≤ w3.heap.size) := Lib.hid (hb.size)
  have HRx1 : Hid (∀ b, x1.ownBlock = some b → w2.heap.size ≤ b ∧ b < w3.heap.size) := Lib.hid (fun b hb => owns_block ho b hb)
  have HOx1 := Lib.hid ho
  clear ho
  clear hb
  have hb0 := HX.out.c0
  have hb1 := HX.out.c1
  go_wp2_with fail
  refine (HM.out x1 _ (owns_reads HOx1.out Hnxs1.out)).mono ?_
  rintro e w4 ⟨rfl, hb⟩
  clear hb0 hb1
  have HX := Lib.hid (HX.out.next hb)
  have HOx1 := Lib.hid (owns_below HOx1.out hb)
  have HZw4 : Hid (w3.heap.size ≤ w4.heap.size) := Lib.hid (hb.size)
  clear hb
  have HMid : Hid (Below w4.heap.size w4 w4) := Lib.hid (Below.refl _ _)
  have HXm := Lib.hid HX.out.size
  clear HOx1 HRx1
  have hb0 := HX.out.c0
  have hb1 := HX.out.c1
  go_wp2_with fail
  refine (toI_any (.slice y1 xs1.length c1) xs1 _ (HV1.out.below HX.out.below) hn1).mono ?_
  rintro e w5 ⟨x2, rfl, ho, hb⟩
  clear hb0 hb1
  have HX := Lib.hid (HX.out.next hb)
  have HMid := Lib.hid (HMid.out.trans (hb.mono HMid.out.size))
  have HZw5 : Hid (w4.heap.size ≤ w5.heap.size) := Lib.hid (hb.size)
  have HRx2 : Hid (∀ b, x2.ownBlock = some b → w4.heap.size ≤ b ∧ b < w5.heap.size) := Lib.hid (fun b hb => owns_block ho b hb)
  have HOx2 := Lib.hid ho
  clear ho
  clear hb
  have hb0 := HX.out.c0
  have hb1 := HX.out.c1
  go_wp2_with fail
  refine (HT.out _).mono ?_
  rintro e w6 ⟨rfl, hb⟩
  clear hb0 hb1
  have HX := Lib.hid (HX.out.next hb)
  have HOx2 := Lib.hid (owns_below HOx2.out hb)
  have HMid := Lib.hid (HMid.out.trans (hb.mono HMid.out.size))
  have HZw6 : Hid (w5.heap.size ≤ w6.heap.size) := Lib.hid (hb.size)
  clear hb
  have hb0 := HX.out.c0
  have hb1 := HX.out.c1
  go_wp2_with fail
  refine (HI.out x2 _ (owns_reads HOx2.out Hnxs1.out)).mono ?_
  rintro e w7 ⟨rfl, hb⟩
  clear hb0 hb1
  have HX := Lib.hid (HX.out.next hb)
  have HOx2 := Lib.hid (owns_below HOx2.out hb)
  have HMid := Lib.hid (HMid.out.trans (hb.mono HMid.out.size))
  have HZw7 : Hid (w6.heap.size ≤ w7.heap.size) := Lib.hid (hb.size)
  clear hb
  cases b
  all_goals
    have hb0 := HX.out.c0
    have hb1 := HX.out.c1
    go_wp2_with fail
    refine (toI_any (.slice y1 xs1.length c1) xs1 _ (HV1.out.below HX.out.below) hn1).mono ?_
    rintro e w8 ⟨x3, rfl, ho, hb⟩
    clear hb0 hb1
    have HX := Lib.hid (HX.out.next hb)
    have HOx2 := Lib.hid (owns_below HOx2.out hb)
    have HMid := Lib.hid (HMid.out.trans (hb.mono HMid.out.size))
    have HZw8 : Hid (w7.heap.size ≤ w8.heap.size) := Lib.hid (hb.size)
    have HRx3 : Hid (∀ b, x3.ownBlock = some b → w7.heap.size ≤ b ∧ b < w8.heap.size) := Lib.hid (fun b hb => owns_block ho b hb)
    have HOx3 := Lib.hid ho
    clear ho
    clear hb
    have hb0 := HX.out.c0
    have hb1 := HX.out.c1
    go_wp2_with fail
    refine (eqI_below x2 x3 xs1 _ (owns_reads HOx2.out Hnxs1.out) (owns_reads HOx3.out Hnxs1.out)).mono ?_
    rintro e w9 ⟨rfl, hb⟩
    clear hb0 hb1
    have HX := Lib.hid (HX.out.next hb)
    have HOx2 := Lib.hid (owns_below HOx2.out hb)
    have HOx3 := Lib.hid (owns_below HOx3.out hb)
    have HMid := Lib.hid (HMid.out.trans (hb.mono HMid.out.size))
    have HZw9 : Hid (w8.heap.size ≤ w9.heap.size) := Lib.hid (hb.size)
    clear hb
    clear HOx3 HRx3
    go_wp2_with fail
    go_ret
    exact ⟨rfl, HX.out.below⟩
set_option maxHeartbeats 800000 in
theorem law_long (n : Int) (g : Bool) (v1 : Value) (xs1 : List Int) (w : World) (hv1 : ReadsI w v1 xs1) (hlong : 1048576 < xs1.length) :
    Calls Try.prog 11 #[rd n g, v1] w fun e w' => e = .returned (.bool true) ∧ Below w.heap.size w w' := by
  obtain ⟨y1, c1, rfl, _, hm1, _⟩ := hv1
  unfold maxLen at hm1
  have HB := Lib.hid (below_new w (.cells #[.int .i64 n, .bool g] 23))
  unfold rd at *
  go_enter Try.func11, Try.ntmps11
  go_wp2_with fail
  go_ret
  exact ⟨rfl, HB.out⟩

theorem walk (n : Int) (g : Bool) (v1 : Value) (xs1 : List Int) (w : World) (hv1 : ReadsI w v1 xs1) :
    Calls Try.prog 11 #[rd n g, v1] w fun e w' => e = .returned (.bool true) ∧ Below w.heap.size w w' := by
  by_cases h : 1048576 < xs1.length
  · exact law_long n g v1 xs1 w hv1 h
  · skip
    exact law_two n g v1 xs1 ((eboundR n g xs1)).1 ((eboundR n g xs1)).2 w hv1 (by omega) (fun u1 w h1 => spec_ExploreBound n g u1 xs1 w h1) (fun u1 w h1 => impl_ExploreBound n g u1 xs1 w h1)
end Go.Proofs.Ytijhbhjapcfddaa.fnExactExploreBound
