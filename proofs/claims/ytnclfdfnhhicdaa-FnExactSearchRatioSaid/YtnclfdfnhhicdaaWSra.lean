/-
  What is proved: the walk of the law FnExactSearchRatio: for every input impl.SearchRatio answers as the model does, its arguments read as before, and its answer is memory of its own. Conditions: none beyond the row's own.
-/
import Derived.Test.YtnclfdfnhhicdaaSer
namespace Go.Proofs.Ytnclfdfnhhicdaa.fnExactSearchRatio
open Go.RowKit
set_option linter.unusedVariables false

set_option maxHeartbeats 1600000 in
theorem law_two (n : Int) (g : Bool) (a1 : Int) (v2 : Value) (xs2 : List Int) (a3 : Int) (z : Int × Int) (b : Bool) (w : World) (hv2 : ReadsI w v2 xs2) (hn2 : xs2.length ≤ 1048576)
    (hm : ∀ (u2 : Value) (w : World), ReadsI w u2 xs2 → Calls Try.prog 37 #[rd n g, .int .i64 a1, u2, .int .i64 a3] w fun e w' => e = .returned (.tuple #[.agg #[.int .i64 z.1, .int .i64 z.2], .bool b]) ∧ Below w.heap.size w w')
    (hi : ∀ (u2 : Value) (w : World), ReadsI w u2 xs2 → Calls Try.prog 38 #[rd n g, .int .i64 a1, u2, .int .i64 a3] w fun e w' => e = .returned (.tuple #[.agg #[.int .i64 z.1, .int .i64 z.2], .bool b]) ∧ Below w.heap.size w w') :
    Calls Try.prog 11 #[rd n g, .int .i64 a1, v2, .int .i64 a3] w fun e w' => e = .returned (.bool true) ∧ Below w.heap.size w w' := by
  have HM := Lib.hid hm
  have HI := Lib.hid hi
  have HT := Lib.hid (fun w => toRoad_any n g w)
  have HX := Lib.hid (Boxed.first w n g 23)
  have HV2 := Lib.hid hv2
  have hnm : xs2.length ≤ maxLen := by unfold maxLen; omega
  have Hnm2 := Lib.hid hnm
  clear hnm
  obtain ⟨y2, c2, hvv2, _⟩ := hv2
  subst hvv2
  clear hm hi
  unfold rd at *
  go_enter Try.func11, Try.ntmps11
  have HEQ := Lib.hid (fun w => eqA2_same z.1 z.2 w)
  go_wp2_with fail
  refine (HT.out _).mono ?_
  rintro e w1 ⟨rfl, hb⟩
  have HX := Lib.hid (HX.out.next hb)
  have hb0 := HX.out.c0
  have hb1 := HX.out.c1
  clear hb
  go_wp2_with fail
  refine (toI_any (.slice y2 xs2.length c2) xs2 _ (HV2.out.below HX.out.below) hn2).mono ?_
  rintro e w2 ⟨p2, rfl, ho, hb⟩
  clear hb0 hb1
  have HX := Lib.hid (HX.out.next hb)
  have hb0 := HX.out.c0
  have hb1 := HX.out.c1
  have HOp2 := Lib.hid ho
  clear ho hb
  go_wp2_with fail
  refine (HM.out p2 _ (owns_reads HOp2.out Hnm2.out)).mono ?_
  rintro e w3 ⟨rfl, hb⟩
  clear hb0 hb1
  have HX := Lib.hid (HX.out.next hb)
  have HOp2 := Lib.hid (owns_below HOp2.out hb)
  have hb0 := HX.out.c0
  have hb1 := HX.out.c1
  clear hb
  have HMid : Hid (Below w3.heap.size w3 w3) := Lib.hid (Below.refl _ _)
  have HXm := Lib.hid HX.out.size
  have hb := below_new w3 (.cells #[.int .i64 z.1, .int .i64 z.2] 46)
  clear hb0 hb1
  have HX := Lib.hid (HX.out.next hb)
  have HMid := Lib.hid (HMid.out.trans (hb.mono HMid.out.size))
  have hb0 := HX.out.c0
  have hb1 := HX.out.c1
  have HAq := Lib.hid (blk_new w3 #[.int .i64 z.1, .int .i64 z.2] 46)
  clear hb
  have HB2 := Lib.hid HMid.out.size
  go_wp2_with fail
  refine (toI_any (.slice y2 xs2.length c2) xs2 _ (HV2.out.below HX.out.below) hn2).mono ?_
  rintro e w4 ⟨x2, rfl, ho, hb⟩
  clear hb0 hb1
  have HX := Lib.hid (HX.out.next hb)
  have HMid := Lib.hid (HMid.out.trans (hb.mono HMid.out.size))
  have HAq := Lib.hid (HAq.out.below hb)
  have hb0 := HX.out.c0
  have hb1 := HX.out.c1
  have HOx2 := Lib.hid ho
  clear ho hb
  go_wp2_with fail
  refine (HT.out _).mono ?_
  rintro e w5 ⟨rfl, hb⟩
  clear hb0 hb1
  have HX := Lib.hid (HX.out.next hb)
  have HMid := Lib.hid (HMid.out.trans (hb.mono HMid.out.size))
  have HOx2 := Lib.hid (owns_below HOx2.out hb)
  have HAq := Lib.hid (HAq.out.below hb)
  have hb0 := HX.out.c0
  have hb1 := HX.out.c1
  clear hb
  have HL2 := Lib.hid (fun b (hb : x2.ownBlock = some b) => (⟨Nat.le_trans HB2.out (owns_block HOx2.out b hb).1, (owns_block HOx2.out b hb).2⟩ : _ ∧ _))
  go_wp2_with fail
  refine (HI.out x2 _ (owns_reads HOx2.out Hnm2.out)).mono ?_
  rintro e w6 ⟨rfl, hb⟩
  clear hb0 hb1
  have HX := Lib.hid (HX.out.next hb)
  have HMid := Lib.hid (HMid.out.trans (hb.mono HMid.out.size))
  have HOx2 := Lib.hid (owns_below HOx2.out hb)
  have HAq := Lib.hid (HAq.out.below hb)
  have hb0 := HX.out.c0
  have hb1 := HX.out.c1
  clear hb
  have hb := below_new w6 (.cells #[.int .i64 z.1, .int .i64 z.2] 46)
  clear hb0 hb1
  have HX := Lib.hid (HX.out.next hb)
  have HMid := Lib.hid (HMid.out.trans (hb.mono HMid.out.size))
  have HOx2 := Lib.hid (owns_below HOx2.out hb)
  have HAq := Lib.hid (HAq.out.below hb)
  have hb0 := HX.out.c0
  have hb1 := HX.out.c1
  have HAg := Lib.hid (blk_new w6 #[.int .i64 z.1, .int .i64 z.2] 46)
  clear hb
  cases b
  all_goals
    have e0 := HAg.out.cell 0
    have e1 := HAg.out.cell 1
    have e2 := HAq.out.cell 0
    have e3 := HAq.out.cell 1
    go_wp2_with fail
    refine (HEQ.out _).mono ?_
    rintro e w7 ⟨rfl, hb⟩
    clear hb0 hb1
    have HX := Lib.hid (HX.out.next hb)
    have HMid := Lib.hid (HMid.out.trans (hb.mono HMid.out.size))
    have HOx2 := Lib.hid (owns_below HOx2.out hb)
    have HAq := Lib.hid (HAq.out.below hb)
    have HAg := Lib.hid (HAg.out.below hb)
    have hb0 := HX.out.c0
    have hb1 := HX.out.c1
    clear hb
    clear e0 e1 e2 e3
    go_wp2_with fail
    refine (toI_any (.slice y2 xs2.length c2) xs2 _ (HV2.out.below HX.out.below) hn2).mono ?_
    rintro e w8 ⟨t2, rfl, ho, hb⟩
    clear hb0 hb1
    have HX := Lib.hid (HX.out.next hb)
    have HMid := Lib.hid (HMid.out.trans (hb.mono HMid.out.size))
    have HOx2 := Lib.hid (owns_below HOx2.out hb)
    have HAq := Lib.hid (HAq.out.below hb)
    have HAg := Lib.hid (HAg.out.below hb)
    have hb0 := HX.out.c0
    have hb1 := HX.out.c1
    have HOt2 := Lib.hid ho
    clear ho hb
    go_wp2_with fail
    refine (eqI_below x2 t2 xs2 _ (owns_reads HOx2.out Hnm2.out) (owns_reads HOt2.out Hnm2.out)).mono ?_
    rintro e w9 ⟨rfl, hb⟩
    clear hb0 hb1
    have HX := Lib.hid (HX.out.next hb)
    have HMid := Lib.hid (HMid.out.trans (hb.mono HMid.out.size))
    have HOx2 := Lib.hid (owns_below HOx2.out hb)
    have HOt2 := Lib.hid (owns_below HOt2.out hb)
    have HAq := Lib.hid (HAq.out.below hb)
    have HAg := Lib.hid (HAg.out.below hb)
    have hb0 := HX.out.c0
    have hb1 := HX.out.c1
    clear hb
    go_wp2_with fail
    go_ret
    exact ⟨rfl, HX.out.below⟩
set_option maxHeartbeats 400000 in
theorem law_long (n : Int) (g : Bool) (a1 : Int) (v2 : Value) (xs2 : List Int) (a3 : Int) (w : World) (hv2 : ReadsI w v2 xs2) (hlong : 1048576 < xs2.length) :
    Calls Try.prog 11 #[rd n g, .int .i64 a1, v2, .int .i64 a3] w fun e w' => e = .returned (.bool true) ∧ Below w.heap.size w w' := by
  obtain ⟨y2, c2, rfl, _, hm2, _⟩ := hv2
  unfold maxLen at hm2
  have hb := below_new w (.cells #[.int .i64 n, .bool g] 23)
  have HB := Lib.hid hb
  clear hb
  unfold rd at *
  go_enter Try.func11, Try.ntmps11
  go_wp2_with fail
  go_ret
  exact ⟨rfl, HB.out⟩

theorem walk (n : Int) (g : Bool) (a1 : Int) (v2 : Value) (xs2 : List Int) (a3 : Int) (w : World) (ha1 : -9223372036854775808 ≤ a1 ∧ a1 ≤ 9223372036854775807) (hv2 : ReadsI w v2 xs2) (ha3 : -9223372036854775808 ≤ a3 ∧ a3 ≤ 9223372036854775807) :
    Calls Try.prog 11 #[rd n g, .int .i64 a1, v2, .int .i64 a3] w fun e w' => e = .returned (.bool true) ∧ Below w.heap.size w w' := by
  by_cases h : 1048576 < xs2.length
  · exact law_long n g a1 v2 xs2 a3 w hv2 h
  · exact law_two n g a1 v2 xs2 a3 ((ratioR n g a1 xs2 a3)).1 ((ratioR n g a1 xs2 a3)).2 w hv2 (by omega) (fun u2 w h2 => spec_SearchRatio n g a1 u2 xs2 a3 w h2 (by omega)) (fun u2 w h2 => impl_SearchRatio n g a1 u2 xs2 a3 w h2 (by omega))
end Go.Proofs.Ytnclfdfnhhicdaa.fnExactSearchRatio
