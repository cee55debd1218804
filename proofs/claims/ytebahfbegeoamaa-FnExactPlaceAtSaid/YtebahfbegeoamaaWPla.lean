/-
  What is proved: the walk of the law FnExactPlaceAt: for every input impl.PlaceAt answers as the model does, its arguments read as before, and its answer is memory of its own. Conditions: none beyond the row's own.
-/
import Derived.Test.YtebahfbegeoamaaFn2
namespace Go.Proofs.Ytebahfbegeoamaa.fnExactPlaceAt
open Go.RowKit
set_option linter.unusedVariables false

set_option maxHeartbeats 1600000 in
theorem law_two (n : Int) (g : Bool) (v1 : Value) (xs1 : List Int) (a2 : Int) (z : Int) (b : Bool) (w : World) (hv1 : ReadsI w v1 xs1) (hn1 : xs1.length ≤ 1048576)
    (hm : ∀ (u1 : Value) (w : World), ReadsI w u1 xs1 → Calls Try.prog 29 #[rd n g, u1, .int .i64 a2] w fun e w' => e = .returned (.tuple #[.int .i64 z, .bool b]) ∧ Below w.heap.size w w')
    (hi : ∀ (u1 : Value) (w : World), ReadsI w u1 xs1 → Calls Try.prog 30 #[rd n g, u1, .int .i64 a2] w fun e w' => e = .returned (.tuple #[.int .i64 z, .bool b]) ∧ Below w.heap.size w w') :
    Calls Try.prog 7 #[rd n g, v1, .int .i64 a2] w fun e w' => e = .returned (.bool true) ∧ Below w.heap.size w w' := by
  have HM := Lib.hid hm
  have HI := Lib.hid hi
  have HT := Lib.hid (fun w => toRoad_any n g w)
  have HX := Lib.hid (Boxed.first w n g 23)
  have HV1 := Lib.hid hv1
  have hnm : xs1.length ≤ maxLen := by unfold maxLen; omega
  have Hnm1 := Lib.hid hnm
  clear hnm
  obtain ⟨y1, c1, hvv1, _⟩ := hv1
  subst hvv1
  clear hm hi
  unfold rd at *
  go_enter Try.func7, Try.ntmps7
  go_wp2_with fail
  refine (HT.out _).mono ?_
  rintro e w1 ⟨rfl, hb⟩
  have HX := Lib.hid (HX.out.next hb)
  have hb0 := HX.out.c0
  have hb1 := HX.out.c1
  clear hb
  go_wp2_with fail
  refine (toI_any (.slice y1 xs1.length c1) xs1 _ (HV1.out.below HX.out.below) hn1).mono ?_
  rintro e w2 ⟨p1, rfl, ho, hb⟩
  clear hb0 hb1
  have HX := Lib.hid (HX.out.next hb)
  have hb0 := HX.out.c0
  have hb1 := HX.out.c1
  have HOp1 := Lib.hid ho
  clear ho hb
  go_wp2_with fail
  refine (HM.out p1 _ (owns_reads HOp1.out Hnm1.out)).mono ?_
  rintro e w3 ⟨rfl, hb⟩
  clear hb0 hb1
  have HX := Lib.hid (HX.out.next hb)
  have HOp1 := Lib.hid (owns_below HOp1.out hb)
  have hb0 := HX.out.c0
  have hb1 := HX.out.c1
  clear hb
  have HMid : Hid (Below w3.heap.size w3 w3) := Lib.hid (Below.refl _ _)
  have HXm := Lib.hid HX.out.size
  have HB1 := Lib.hid HMid.out.size
  go_wp2_with fail
  refine (toI_any (.slice y1 xs1.length c1) xs1 _ (HV1.out.below HX.out.below) hn1).mono ?_
  rintro e w4 ⟨x1, rfl, ho, hb⟩
  clear hb0 hb1
  have HX := Lib.hid (HX.out.next hb)
  have HMid := Lib.hid (HMid.out.trans (hb.mono HMid.out.size))
  have hb0 := HX.out.c0
  have hb1 := HX.out.c1
  have HOx1 := Lib.hid ho
  clear ho hb
  go_wp2_with fail
  refine (HT.out _).mono ?_
  rintro e w5 ⟨rfl, hb⟩
  clear hb0 hb1
  have HX := Lib.hid (HX.out.next hb)
  have HMid := Lib.hid (HMid.out.trans (hb.mono HMid.out.size))
  have HOx1 := Lib.hid (owns_below HOx1.out hb)
  have hb0 := HX.out.c0
  have hb1 := HX.out.c1
  clear hb
  have HL1 := Lib.hid (fun b (hb : x1.ownBlock = some b) => (⟨Nat.le_trans HB1.out (owns_block HOx1.out b hb).1, (owns_block HOx1.out b hb).2⟩ : _ ∧ _))
  go_wp2_with fail
  refine (HI.out x1 _ (owns_reads HOx1.out Hnm1.out)).mono ?_
  rintro e w6 ⟨rfl, hb⟩
  clear hb0 hb1
  have HX := Lib.hid (HX.out.next hb)
  have HMid := Lib.hid (HMid.out.trans (hb.mono HMid.out.size))
  have HOx1 := Lib.hid (owns_below HOx1.out hb)
  have hb0 := HX.out.c0
  have hb1 := HX.out.c1
  clear hb
  cases b
  all_goals
    go_wp2_with fail
    refine (toI_any (.slice y1 xs1.length c1) xs1 _ (HV1.out.below HX.out.below) hn1).mono ?_
    rintro e w7 ⟨t1, rfl, ho, hb⟩
    clear hb0 hb1
    have HX := Lib.hid (HX.out.next hb)
    have HMid := Lib.hid (HMid.out.trans (hb.mono HMid.out.size))
    have HOx1 := Lib.hid (owns_below HOx1.out hb)
    have hb0 := HX.out.c0
    have hb1 := HX.out.c1
    have HOt1 := Lib.hid ho
    clear ho hb
    go_wp2_with fail
    refine (eqI_below x1 t1 xs1 _ (owns_reads HOx1.out Hnm1.out) (owns_reads HOt1.out Hnm1.out)).mono ?_
    rintro e w8 ⟨rfl, hb⟩
    clear hb0 hb1
    have HX := Lib.hid (HX.out.next hb)
    have HMid := Lib.hid (HMid.out.trans (hb.mono HMid.out.size))
    have HOx1 := Lib.hid (owns_below HOx1.out hb)
    have HOt1 := Lib.hid (owns_below HOt1.out hb)
    have hb0 := HX.out.c0
    have hb1 := HX.out.c1
    clear hb
    go_wp2_with fail
    go_ret
    exact ⟨rfl, HX.out.below⟩
set_option maxHeartbeats 400000 in
theorem law_long (n : Int) (g : Bool) (v1 : Value) (xs1 : List Int) (a2 : Int) (w : World) (hv1 : ReadsI w v1 xs1) (hlong : 1048576 < xs1.length) :
    Calls Try.prog 7 #[rd n g, v1, .int .i64 a2] w fun e w' => e = .returned (.bool true) ∧ Below w.heap.size w w' := by
  obtain ⟨y1, c1, rfl, _, hm1, _⟩ := hv1
  unfold maxLen at hm1
  have hb := below_new w (.cells #[.int .i64 n, .bool g] 23)
  have HB := Lib.hid hb
  clear hb
  unfold rd at *
  go_enter Try.func7, Try.ntmps7
  go_wp2_with fail
  go_ret
  exact ⟨rfl, HB.out⟩

theorem walk (n : Int) (g : Bool) (v1 : Value) (xs1 : List Int) (a2 : Int) (w : World) (hv1 : ReadsI w v1 xs1) (ha2 : -9223372036854775808 ≤ a2 ∧ a2 ≤ 9223372036854775807) :
    Calls Try.prog 7 #[rd n g, v1, .int .i64 a2] w fun e w' => e = .returned (.bool true) ∧ Below w.heap.size w w' := by
  by_cases h : 1048576 < xs1.length
  · exact law_long n g v1 xs1 a2 w hv1 h
  · exact law_two n g v1 xs1 a2 (placeR n g xs1 a2).1 (placeR n g xs1 a2).2 w hv1 (by omega) (fun u1 w h1 => spec_PlaceAt n g u1 xs1 a2 w h1) (fun u1 w h1 => impl_PlaceAt n g u1 xs1 a2 w h1)
end Go.Proofs.Ytebahfbegeoamaa.fnExactPlaceAt
