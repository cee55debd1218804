/-
  What is proved: the walk of the law FnExactSearchLoad: for every input impl.SearchLoad answers as the model does, its arguments read as before, and its answer is memory of its own. Conditions: none beyond the row's own.
-/
import Derived.Test.YtnclfdfnhhicdaaSej
namespace Go.Proofs.Ytnclfdfnhhicdaa.fnExactSearchLoad
open Go.RowKit
set_option linter.unusedVariables false

set_option maxHeartbeats 1600000 in
theorem law_two (n : Int) (g : Bool) (a1 : Int) (v2 : Value) (xs2 : List Int) (v3 : Value) (xs3 : List Int) (z : Int) (b : Bool) (w : World) (hv2 : ReadsI w v2 xs2) (hn2 : xs2.length ≤ 1048576) (hv3 : ReadsI w v3 xs3) (hn3 : xs3.length ≤ 1048576)
    (hm : ∀ (u2 : Value) (u3 : Value) (w : World), ReadsI w u2 xs2 → ReadsI w u3 xs3 → Calls Try.prog 29 #[rd n g, .int .i64 a1, u2, u3] w fun e w' => e = .returned (.tuple #[.int .i64 z, .bool b]) ∧ Below w.heap.size w w')
    (hi : ∀ (u2 : Value) (u3 : Value) (w : World), ReadsI w u2 xs2 → ReadsI w u3 xs3 → Calls Try.prog 30 #[rd n g, .int .i64 a1, u2, u3] w fun e w' => e = .returned (.tuple #[.int .i64 z, .bool b]) ∧ Below w.heap.size w w') :
    Calls Try.prog 7 #[rd n g, .int .i64 a1, v2, v3] w fun e w' => e = .returned (.bool true) ∧ Below w.heap.size w w' := by
  have HM := Lib.hid hm
  have HI := Lib.hid hi
  have HT := Lib.hid (fun w => toRoad_any n g w)
  have HX := Lib.hid (Boxed.first w n g 23)
  have HV2 := Lib.hid hv2
  have hnm : xs2.length ≤ maxLen := by unfold maxLen; omega
  have Hnm2 := Lib.hid hnm
  clear hnm
  have HV3 := Lib.hid hv3
  have hnm : xs3.length ≤ maxLen := by unfold maxLen; omega
  have Hnm3 := Lib.hid hnm
  clear hnm
  obtain ⟨y2, c2, hvv2, _⟩ := hv2
  subst hvv2
  obtain ⟨y3, c3, hvv3, _⟩ := hv3
  subst hvv3
  clear hm hi
  unfold rd at *
  go_enter Try.func7, Try.ntmps7
  go_wp2_with fail
  refine (HT.out _).mono ?_
  rintro e w1 ⟨rfl, hb⟩
  have HX := Lib.hid (HX.out.next hb)
  have hb0 := HX.out.c0
  have hb1 := HX.out.c1
  clear hb
  go_wp2_with fail
  refine (toI_any (.slice y2 xs2.length c2) xs2 _ (HV2.out.below HX.out.below) hn2).mono ?_
  rintro e w2 ⟨p2, rfl, ho, hb⟩
  clear hb0 hb1
  have HX := Lib.hid (HX.out.next hb)
  have hb0 := HX.out.c0
  have hb1 := HX.out.c1
  have HOp2 := Lib.hid ho
  clear ho hb
  go_wp2_with fail
  refine (toI_any (.slice y3 xs3.length c3) xs3 _ (HV3.out.below HX.out.below) hn3).mono ?_
  rintro e w3 ⟨p3, rfl, ho, hb⟩
  clear hb0 hb1
  have HX := Lib.hid (HX.out.next hb)
  have HOp2 := Lib.hid (owns_below HOp2.out hb)
  have hb0 := HX.out.c0
  have hb1 := HX.out.c1
  have HOp3 := Lib.hid ho
  clear ho hb
  go_wp2_with fail
  refine (HM.out p2 p3 _ (owns_reads HOp2.out Hnm2.out) (owns_reads HOp3.out Hnm3.out)).mono ?_
  rintro e w4 ⟨rfl, hb⟩
  clear hb0 hb1
  have HX := Lib.hid (HX.out.next hb)
  have HOp2 := Lib.hid (owns_below HOp2.out hb)
  have HOp3 := Lib.hid (owns_below HOp3.out hb)
  have hb0 := HX.out.c0
  have hb1 := HX.out.c1
  clear hb
  have HMid : Hid (Below w4.heap.size w4 w4) := Lib.hid (Below.refl _ _)
  have HXm := Lib.hid HX.out.size
  have HB2 := Lib.hid HMid.out.size
  go_wp2_with fail
  refine (toI_any (.slice y2 xs2.length c2) xs2 _ (HV2.out.below HX.out.below) hn2).mono ?_
  rintro e w5 ⟨x2, rfl, ho, hb⟩
  clear hb0 hb1
  have HX := Lib.hid (HX.out.next hb)
  have HMid := Lib.hid (HMid.out.trans (hb.mono HMid.out.size))
  have hb0 := HX.out.c0
  have hb1 := HX.out.c1
  have HOx2 := Lib.hid ho
  clear ho hb
  have HB3 := Lib.hid HMid.out.size
  go_wp2_with fail
  refine (toI_any (.slice y3 xs3.length c3) xs3 _ (HV3.out.below HX.out.below) hn3).mono ?_
  rintro e w6 ⟨x3, rfl, ho, hb⟩
  clear hb0 hb1
  have HX := Lib.hid (HX.out.next hb)
  have HMid := Lib.hid (HMid.out.trans (hb.mono HMid.out.size))
  have HOx2 := Lib.hid (owns_below HOx2.out hb)
  have hb0 := HX.out.c0
  have hb1 := HX.out.c1
  have HOx3 := Lib.hid ho
  clear ho hb
  go_wp2_with fail
  refine (HT.out _).mono ?_
  rintro e w7 ⟨rfl, hb⟩
  clear hb0 hb1
  have HX := Lib.hid (HX.out.next hb)
  have HMid := Lib.hid (HMid.out.trans (hb.mono HMid.out.size))
  have HOx2 := Lib.hid (owns_below HOx2.out hb)
  have HOx3 := Lib.hid (owns_below HOx3.out hb)
  have hb0 := HX.out.c0
  have hb1 := HX.out.c1
  clear hb
  have HL2 := Lib.hid (fun b (hb : x2.ownBlock = some b) => (⟨Nat.le_trans HB2.out (owns_block HOx2.out b hb).1, (owns_block HOx2.out b hb).2⟩ : _ ∧ _))
  have HL3 := Lib.hid (fun b (hb : x3.ownBlock = some b) => (⟨Nat.le_trans HB3.out (owns_block HOx3.out b hb).1, (owns_block HOx3.out b hb).2⟩ : _ ∧ _))
  go_wp2_with fail
  refine (HI.out x2 x3 _ (owns_reads HOx2.out Hnm2.out) (owns_reads HOx3.out Hnm3.out)).mono ?_
  rintro e w8 ⟨rfl, hb⟩
  clear hb0 hb1
  have HX := Lib.hid (HX.out.next hb)
  have HMid := Lib.hid (HMid.out.trans (hb.mono HMid.out.size))
  have HOx2 := Lib.hid (owns_below HOx2.out hb)
  have HOx3 := Lib.hid (owns_below HOx3.out hb)
  have hb0 := HX.out.c0
  have hb1 := HX.out.c1
  clear hb
  cases b
  all_goals
    go_wp2_with fail
    refine (toI_any (.slice y2 xs2.length c2) xs2 _ (HV2.out.below HX.out.below) hn2).mono ?_
    rintro e w9 ⟨t2, rfl, ho, hb⟩
    clear hb0 hb1
    have HX := Lib.hid (HX.out.next hb)
    have HMid := Lib.hid (HMid.out.trans (hb.mono HMid.out.size))
    have HOx2 := Lib.hid (owns_below HOx2.out hb)
    have HOx3 := Lib.hid (owns_below HOx3.out hb)
    have hb0 := HX.out.c0
    have hb1 := HX.out.c1
    have HOt2 := Lib.hid ho
    clear ho hb
    go_wp2_with fail
    refine (eqI_below x2 t2 xs2 _ (owns_reads HOx2.out Hnm2.out) (owns_reads HOt2.out Hnm2.out)).mono ?_
    rintro e w10 ⟨rfl, hb⟩
    clear hb0 hb1
    have HX := Lib.hid (HX.out.next hb)
    have HMid := Lib.hid (HMid.out.trans (hb.mono HMid.out.size))
    have HOx2 := Lib.hid (owns_below HOx2.out hb)
    have HOx3 := Lib.hid (owns_below HOx3.out hb)
    have HOt2 := Lib.hid (owns_below HOt2.out hb)
    have hb0 := HX.out.c0
    have hb1 := HX.out.c1
    clear hb
    go_wp2_with fail
    refine (toI_any (.slice y3 xs3.length c3) xs3 _ (HV3.out.below HX.out.below) hn3).mono ?_
    rintro e w11 ⟨t3, rfl, ho, hb⟩
    clear hb0 hb1
    have HX := Lib.hid (HX.out.next hb)
    have HMid := Lib.hid (HMid.out.trans (hb.mono HMid.out.size))
    have HOx2 := Lib.hid (owns_below HOx2.out hb)
    have HOx3 := Lib.hid (owns_below HOx3.out hb)
    have hb0 := HX.out.c0
    have hb1 := HX.out.c1
    have HOt3 := Lib.hid ho
    clear ho hb
    go_wp2_with fail
    refine (eqI_below x3 t3 xs3 _ (owns_reads HOx3.out Hnm3.out) (owns_reads HOt3.out Hnm3.out)).mono ?_
    rintro e w12 ⟨rfl, hb⟩
    clear hb0 hb1
    have HX := Lib.hid (HX.out.next hb)
    have HMid := Lib.hid (HMid.out.trans (hb.mono HMid.out.size))
    have HOx2 := Lib.hid (owns_below HOx2.out hb)
    have HOx3 := Lib.hid (owns_below HOx3.out hb)
    have HOt3 := Lib.hid (owns_below HOt3.out hb)
    have hb0 := HX.out.c0
    have hb1 := HX.out.c1
    clear hb
    go_wp2_with fail
    go_ret
    exact ⟨rfl, HX.out.below⟩
set_option maxHeartbeats 400000 in
theorem law_long (n : Int) (g : Bool) (a1 : Int) (v2 : Value) (xs2 : List Int) (v3 : Value) (xs3 : List Int) (w : World) (hv2 : ReadsI w v2 xs2) (hv3 : ReadsI w v3 xs3) (hlong : 1048576 < xs2.length ∨ 1048576 < xs3.length) :
    Calls Try.prog 7 #[rd n g, .int .i64 a1, v2, v3] w fun e w' => e = .returned (.bool true) ∧ Below w.heap.size w w' := by
  obtain ⟨y2, c2, rfl, _, hm2, _⟩ := hv2
  unfold maxLen at hm2
  obtain ⟨y3, c3, rfl, _, hm3, _⟩ := hv3
  unfold maxLen at hm3
  have hb := below_new w (.cells #[.int .i64 n, .bool g] 23)
  have HB := Lib.hid hb
  clear hb
  unfold rd at *
  by_cases hl : 1048576 < xs2.length
  · go_enter Try.func7, Try.ntmps7
    go_wp2_with fail
    go_ret
    exact ⟨rfl, HB.out⟩
  · have hl2 : 1048576 < xs3.length := by omega
    go_enter Try.func7, Try.ntmps7
    go_wp2_with fail
    go_ret
    exact ⟨rfl, HB.out⟩

theorem walk (n : Int) (g : Bool) (a1 : Int) (v2 : Value) (xs2 : List Int) (v3 : Value) (xs3 : List Int) (w : World) (ha1 : -9223372036854775808 ≤ a1 ∧ a1 ≤ 9223372036854775807) (hv2 : ReadsI w v2 xs2) (hv3 : ReadsI w v3 xs3) :
    Calls Try.prog 7 #[rd n g, .int .i64 a1, v2, v3] w fun e w' => e = .returned (.bool true) ∧ Below w.heap.size w w' := by
  by_cases h : 1048576 < xs2.length ∨ 1048576 < xs3.length
  · exact law_long n g a1 v2 xs2 v3 xs3 w hv2 hv3 h
  · exact law_two n g a1 v2 xs2 v3 xs3 ((loadR n g a1 xs2 xs3)).1 ((loadR n g a1 xs2 xs3)).2 w hv2 (by omega) hv3 (by omega) (fun u2 u3 w h2 h3 => spec_SearchLoad n g a1 u2 xs2 u3 xs3 w h2 h3 (by omega)) (fun u2 u3 w h2 h3 => impl_SearchLoad n g a1 u2 xs2 u3 xs3 w h2 h3 (by omega))
end Go.Proofs.Ytnclfdfnhhicdaa.fnExactSearchLoad
