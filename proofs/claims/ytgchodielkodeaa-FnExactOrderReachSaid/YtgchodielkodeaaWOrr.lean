/-
  What is proved: the walk of the law FnExactOrderReach: for every input impl.OrderReach answers as the model does, its arguments read as before, and its answer is memory of its own. Conditions: none beyond the row's own.
-/
import Derived.Test.YtgchodielkodeaaRlj
import Derived.Test.YtgchodielkodeaaRlb
import Derived.Test.YtgchodielkodeaaTbb
namespace Go.Proofs.Ytgchodielkodeaa.fnExactOrderReach
open Go.RowKit
set_option linter.unusedVariables false
set_option linter.unusedSimpArgs false

set_option maxHeartbeats 3200000 in
set_option maxRecDepth 20000 in
theorem law_two (n : Int) (g : Bool) (v1 : Value) (cs1 : List Cr) (v2 : Value) (xs2 : List Int) (a3 : Int) (z : Int) (b : Bool) (w : World) (hv1 : ReadsC w v1 cs1) (hn1 : cs1.length ≤ 1048576) (hv2 : ReadsI w v2 xs2) (hn2 : xs2.length ≤ 1048576)
    (hm : ∀ (u1 : Value) (u2 : Value) (w : World), ReadsC w u1 cs1 → ReadsI w u2 xs2 → Calls Try.prog 28 #[rd n g, u1, u2, .int .i64 a3] w fun e w' => e = .returned (.tuple #[.int .i64 z, .bool b]) ∧ Below w.heap.size w w')
    (hi : ∀ (u1 : Value) (u2 : Value) (w : World), ReadsC w u1 cs1 → ReadsI w u2 xs2 → Calls Try.prog 30 #[rd n g, u1, u2, .int .i64 a3] w fun e w' => e = .returned (.tuple #[.int .i64 z, .bool b]) ∧ Below w.heap.size w w') :
    Calls Try.prog 5 #[rd n g, v1, v2, .int .i64 a3] w fun e w' => e = .returned (.bool true) ∧ Below w.heap.size w w' := by
  have HM := Lib.hid hm
  have HI := Lib.hid hi
  have HT := Lib.hid (fun w => toRoad_any n g w)
  have hnm : xs2.length ≤ maxLen := by unfold maxLen; omega
  have Hnxs2 := Lib.hid hnm
  have Hbxs2 := Lib.hid hn2
  clear hnm
  have HV2 := Lib.hid hv2
  obtain ⟨y2, c2, hvv2, _⟩ := hv2
  subst hvv2
  have HV1 := Lib.hid hv1
  clear hv1
  clear hm hi
  have HX := Lib.hid (Boxed.first w n g 23)
  unfold rd at *
  go_enter Try.func5, Try.ntmps5
  go_wp2_with fail
  have HZw1 : Hid (w.heap.size + 1 ≤ (w.alloc (.cells #[.int .i64 n, .bool g] 23)).heap.size) := Lib.hid (by simp)
  generalize (w.alloc (.cells #[.int .i64 n, .bool g] 23)) = w1 at *
  have hb0 := HX.out.c0
  have hb1 := HX.out.c1
  refine (szCS_yes v1 cs1 (1048576) _ (HV1.out.below HX.out.below) (by omega) (by omega)).mono ?_
  rintro e w2 ⟨rfl, rfl⟩
  go_wp2_with fail
  refine (HT.out _).mono ?_
  rintro e w2 ⟨rfl, hb⟩
  clear hb0 hb1
  have HX := Lib.hid (HX.out.next hb)
  have HZw2 : Hid (w1.heap.size ≤ w2.heap.size) := Lib.hid (hb.size)
  clear hb
  have hb0 := HX.out.c0
  have hb1 := HX.out.c1
  go_wp2_with fail
  refine (toCS_any v1 cs1 _ (HV1.out.below HX.out.below) hn1).mono ?_
  rintro e w3 ⟨x1, rfl, ho, hb⟩
  clear hb0 hb1
  have HX := Lib.hid (HX.out.next hb)
  have HZw3 : Hid (w2.heap.size ≤ w3.heap.size) := Lib.hid (hb.size)
  have HOx1 := Lib.hid ho
  clear ho
  clear hb
  have hb0 := HX.out.c0
  have hb1 := HX.out.c1
  go_wp2_with fail
  refine (toI_any (.slice y2 xs2.length c2) xs2 _ (HV2.out.below HX.out.below) hn2).mono ?_
  rintro e w4 ⟨x2, rfl, ho, hb⟩
  clear hb0 hb1
  have HX := Lib.hid (HX.out.next hb)
  have HOx1 := Lib.hid (HOx1.out.below hb)
  have HZw4 : Hid (w3.heap.size ≤ w4.heap.size) := Lib.hid (hb.size)
  have HRx2 : Hid (∀ b, x2.ownBlock = some b → w3.heap.size ≤ b ∧ b < w4.heap.size) := Lib.hid (fun b hb => owns_block ho b hb)
  have HOx2 := Lib.hid ho
  clear ho
  clear hb
  have hb0 := HX.out.c0
  have hb1 := HX.out.c1
  go_wp2_with fail
  refine (HM.out x1 x2 _ HOx1.out (owns_reads HOx2.out Hnxs2.out)).mono ?_
  rintro e w5 ⟨rfl, hb⟩
  clear hb0 hb1
  have HX := Lib.hid (HX.out.next hb)
  have HOx1 := Lib.hid (HOx1.out.below hb)
  have HOx2 := Lib.hid (owns_below HOx2.out hb)
  have HZw5 : Hid (w4.heap.size ≤ w5.heap.size) := Lib.hid (hb.size)
  clear hb
  have HMid : Hid (Below w5.heap.size w5 w5) := Lib.hid (Below.refl _ _)
  have HXm := Lib.hid HX.out.size
  clear HOx1
  clear HOx2 HRx2
  have hb0 := HX.out.c0
  have hb1 := HX.out.c1
  go_wp2_with fail
  refine (toCS_any v1 cs1 _ (HV1.out.below HX.out.below) hn1).mono ?_
  rintro e w6 ⟨x3, rfl, ho, hb⟩
  clear hb0 hb1
  have HX := Lib.hid (HX.out.next hb)
  have HMid := Lib.hid (HMid.out.trans (hb.mono HMid.out.size))
  have HZw6 : Hid (w5.heap.size ≤ w6.heap.size) := Lib.hid (hb.size)
  have HOx3 := Lib.hid ho
  clear ho
  clear hb
  have hb0 := HX.out.c0
  have hb1 := HX.out.c1
  go_wp2_with fail
  refine (toI_any (.slice y2 xs2.length c2) xs2 _ (HV2.out.below HX.out.below) hn2).mono ?_
  rintro e w7 ⟨x4, rfl, ho, hb⟩
  clear hb0 hb1
  have HX := Lib.hid (HX.out.next hb)
  have HOx3 := Lib.hid (HOx3.out.below hb)
  have HMid := Lib.hid (HMid.out.trans (hb.mono HMid.out.size))
  have HZw7 : Hid (w6.heap.size ≤ w7.heap.size) := Lib.hid (hb.size)
  have HRx4 : Hid (∀ b, x4.ownBlock = some b → w6.heap.size ≤ b ∧ b < w7.heap.size) := Lib.hid (fun b hb => owns_block ho b hb)
  have HOx4 := Lib.hid ho
  clear ho
  clear hb
  have hb0 := HX.out.c0
  have hb1 := HX.out.c1
  go_wp2_with fail
  refine (HT.out _).mono ?_
  rintro e w8 ⟨rfl, hb⟩
  clear hb0 hb1
  have HX := Lib.hid (HX.out.next hb)
  have HOx3 := Lib.hid (HOx3.out.below hb)
  have HOx4 := Lib.hid (owns_below HOx4.out hb)
  have HMid := Lib.hid (HMid.out.trans (hb.mono HMid.out.size))
  have HZw8 : Hid (w7.heap.size ≤ w8.heap.size) := Lib.hid (hb.size)
  clear hb
  have hb0 := HX.out.c0
  have hb1 := HX.out.c1
  go_wp2_with fail
  refine (HI.out x3 x4 _ HOx3.out (owns_reads HOx4.out Hnxs2.out)).mono ?_
  rintro e w9 ⟨rfl, hb⟩
  clear hb0 hb1
  have HX := Lib.hid (HX.out.next hb)
  have HOx3 := Lib.hid (HOx3.out.below hb)
  have HOx4 := Lib.hid (owns_below HOx4.out hb)
  have HMid := Lib.hid (HMid.out.trans (hb.mono HMid.out.size))
  have HZw9 : Hid (w8.heap.size ≤ w9.heap.size) := Lib.hid (hb.size)
  clear hb
  cases b
  all_goals
    have hb0 := HX.out.c0
    have hb1 := HX.out.c1
    go_wp2_with fail
    refine (toCS_any v1 cs1 _ (HV1.out.below HX.out.below) hn1).mono ?_
    rintro e w10 ⟨x5, rfl, ho, hb⟩
    clear hb0 hb1
    have HX := Lib.hid (HX.out.next hb)
    have HOx3 := Lib.hid (HOx3.out.below hb)
    have HOx4 := Lib.hid (owns_below HOx4.out hb)
    have HMid := Lib.hid (HMid.out.trans (hb.mono HMid.out.size))
    have HZw10 : Hid (w9.heap.size ≤ w10.heap.size) := Lib.hid (hb.size)
    have HOx5 := Lib.hid ho
    clear ho
    clear hb
    have hb0 := HX.out.c0
    have hb1 := HX.out.c1
    go_wp2_with fail
    refine (eqCS_yes x3 x5 cs1 _ HOx3.out HOx5.out).mono ?_
    rintro e w11 ⟨rfl, hb⟩
    clear hb0 hb1
    have HX := Lib.hid (HX.out.next hb)
    have HOx3 := Lib.hid (HOx3.out.below hb)
    have HOx4 := Lib.hid (owns_below HOx4.out hb)
    have HOx5 := Lib.hid (HOx5.out.below hb)
    have HMid := Lib.hid (HMid.out.trans (hb.mono HMid.out.size))
    have HZw11 : Hid (w10.heap.size ≤ w11.heap.size) := Lib.hid (hb.size)
    clear hb
    clear HOx5
    have hb0 := HX.out.c0
    have hb1 := HX.out.c1
    go_wp2_with fail
    refine (toI_any (.slice y2 xs2.length c2) xs2 _ (HV2.out.below HX.out.below) hn2).mono ?_
    rintro e w12 ⟨x6, rfl, ho, hb⟩
    clear hb0 hb1
    have HX := Lib.hid (HX.out.next hb)
    have HOx3 := Lib.hid (HOx3.out.below hb)
    have HOx4 := Lib.hid (owns_below HOx4.out hb)
    have HMid := Lib.hid (HMid.out.trans (hb.mono HMid.out.size))
    have HZw12 : Hid (w11.heap.size ≤ w12.heap.size) := Lib.hid (hb.size)
    have HRx6 : Hid (∀ b, x6.ownBlock = some b → w11.heap.size ≤ b ∧ b < w12.heap.size) := Lib.hid (fun b hb => owns_block ho b hb)
    have HOx6 := Lib.hid ho
    clear ho
    clear hb
    have hb0 := HX.out.c0
    have hb1 := HX.out.c1
    go_wp2_with fail
    refine (eqI_below x4 x6 xs2 _ (owns_reads HOx4.out Hnxs2.out) (owns_reads HOx6.out Hnxs2.out)).mono ?_
    rintro e w13 ⟨rfl, hb⟩
    clear hb0 hb1
    have HX := Lib.hid (HX.out.next hb)
    have HOx3 := Lib.hid (HOx3.out.below hb)
    have HOx4 := Lib.hid (owns_below HOx4.out hb)
    have HOx6 := Lib.hid (owns_below HOx6.out hb)
    have HMid := Lib.hid (HMid.out.trans (hb.mono HMid.out.size))
    have HZw13 : Hid (w12.heap.size ≤ w13.heap.size) := Lib.hid (hb.size)
    clear hb
    clear HOx6 HRx6
    go_wp2_with fail
    go_ret
    exact ⟨rfl, HX.out.below⟩
set_option maxHeartbeats 800000 in
theorem law_long (n : Int) (g : Bool) (v1 : Value) (cs1 : List Cr) (v2 : Value) (xs2 : List Int) (a3 : Int) (w : World) (hv1 : ReadsC w v1 cs1) (hv2 : ReadsI w v2 xs2) (hlong : 1048576 < xs2.length ∨ 1048576 < cs1.length) :
    Calls Try.prog 5 #[rd n g, v1, v2, .int .i64 a3] w fun e w' => e = .returned (.bool true) ∧ Below w.heap.size w w' := by
  have HX := Lib.hid (below_new w (.cells #[.int .i64 n, .bool g] 23))
  have HS1 := Lib.hid (fun l w hv (hl : l ≤ 1048576) (h : cs1.length ≤ l) => szCS_yes v1 cs1 l w hv hl h)
  have HN1 := Lib.hid (fun l w hv (hl : l ≤ 1048576) (h : l < cs1.length) => szCS_no v1 cs1 l w hv hl h)
  have HV1 := Lib.hid (hv1.below HX.out)
  clear hv1
  obtain ⟨y2, c2, rfl, _, hm2, _⟩ := hv2
  unfold maxLen at hm2
  unfold rd at *
  by_cases hl2 : 1048576 < xs2.length
  · skip
    go_enter Try.func5, Try.ntmps5
    go_wp2_with fail
    go_ret
    exact ⟨rfl, HX.out⟩
  · skip
    have hlg : 1048576 < cs1.length := by omega
    go_enter Try.func5, Try.ntmps5
    go_wp2_with fail
    refine (HN1.out (1048576) _ HV1.out (by omega) (by omega)).mono ?_
    rintro e w2 ⟨rfl, rfl⟩
    go_wp2_with fail
    go_ret
    exact ⟨rfl, HX.out⟩

theorem walk (n : Int) (g : Bool) (v1 : Value) (cs1 : List Cr) (v2 : Value) (xs2 : List Int) (a3 : Int) (w : World) (hv1 : ReadsC w v1 cs1) (hv2 : ReadsI w v2 xs2) (ha3 : -9223372036854775808 ≤ a3 ∧ a3 ≤ 9223372036854775807) :
    Calls Try.prog 5 #[rd n g, v1, v2, .int .i64 a3] w fun e w' => e = .returned (.bool true) ∧ Below w.heap.size w w' := by
  by_cases h : 1048576 < xs2.length ∨ 1048576 < cs1.length
  · exact law_long n g v1 cs1 v2 xs2 a3 w hv1 hv2 h
  · skip
    exact law_two n g v1 cs1 v2 xs2 a3 ((oreachR n g cs1 xs2 a3)).1 ((oreachR n g cs1 xs2 a3)).2 w hv1 (by omega) hv2 (by omega) (fun u1 u2 w h1 h2 => spec_OrderReach n g u1 cs1 u2 xs2 a3 w h1 h2) (fun u1 u2 w h1 h2 => impl_OrderReach n g u1 cs1 u2 xs2 a3 w h1 h2)
end Go.Proofs.Ytgchodielkodeaa.fnExactOrderReach
