/-
  What is proved: the walk of the law FnExactShiftWalk: for every input impl.ShiftWalk answers as the model does, its arguments read as before, and its answer is memory of its own. Conditions: none beyond the row's own.
-/
import Derived.Test.YtcpembfioelnlaaFn4
namespace Go.Proofs.Ytcpembfioelnlaa.fnExactShiftWalk
open Go.RowKit
set_option linter.unusedVariables false

set_option maxHeartbeats 1600000 in
theorem law_two (n : Int) (g : Bool) (v1 : Value) (xs1 : List Int) (a2 : Int) (zs : List Int) (b : Bool) (hz : zs.length ≤ 1048576) (w : World) (hv1 : ReadsI w v1 xs1) (hn1 : xs1.length ≤ 1048576)
    (hm : ∀ (u1 : Value) (w : World), ReadsI w u1 xs1 → Calls Try.prog 29 #[rd n g, u1, .int .i64 a2] w (OwnsB w.heap.size zs b w))
    (hi : ∀ (u1 : Value) (w : World), ReadsI w u1 xs1 → Calls Try.prog 30 #[rd n g, u1, .int .i64 a2] w (OwnsB w.heap.size zs b w)) :
    Calls Try.prog 8 #[rd n g, v1, .int .i64 a2] w fun e w' => e = .returned (.bool true) ∧ Below w.heap.size w w' := by
  have HM := Lib.hid hm
  have HI := Lib.hid hi
  have HT := Lib.hid (fun w => toRoad_any n g w)
  have HX := Lib.hid (Boxed.first w n g 23)
  have HV1 := Lib.hid hv1
  have hnm : xs1.length ≤ maxLen := by unfold maxLen; omega
  have Hnm1 := Lib.hid hnm
  clear hnm
  have hnm : zs.length ≤ maxLen := by unfold maxLen; omega
  have Hzm := Lib.hid hnm
  clear hnm
  obtain ⟨y1, c1, hvv1, _⟩ := hv1
  subst hvv1
  clear hm hi
  unfold rd at *
  go_enter Try.func8, Try.ntmps8
  go_wp2_with fail
  refine (HT.out _).mono ?_
  rintro e w1 ⟨rfl, hb⟩
  have HX := Lib.hid (HX.out.next hb)
  have hb0 := HX.out.c0
  have hb1 := HX.out.c1
  clear hb
  go_wp2_with fail
  refine (toI_any (.slice y1 xs1.length c1) xs1 _ (HV1.out.below HX.out.below) hn1).mono ?_
  rintro e w2 ⟨p1, rfl, ho, hb⟩
  clear hb0 hb1
  have HX := Lib.hid (HX.out.next hb)
  have hb0 := HX.out.c0
  have hb1 := HX.out.c1
  have HOp1 := Lib.hid ho
  clear ho hb
  go_wp2_with fail
  refine (HM.out p1 _ (owns_reads HOp1.out Hnm1.out)).mono ?_
  rintro e w3 ⟨q0, rfl, ho, hb⟩
  clear hb0 hb1
  have HX := Lib.hid (HX.out.next hb)
  have HOp1 := Lib.hid (owns_below HOp1.out hb)
  have hb0 := HX.out.c0
  have hb1 := HX.out.c1
  have HOq0 := Lib.hid ho
  clear ho hb
  have HQ := Lib.hid (owns_reads HOq0.out Hzm.out)
  have HMid : Hid (Below w3.heap.size w3 w3) := Lib.hid (Below.refl _ _)
  have HXm := Lib.hid HX.out.size
  have HB1 := Lib.hid HMid.out.size
  go_wp2_with fail
  refine (toI_any (.slice y1 xs1.length c1) xs1 _ (HV1.out.below HX.out.below) hn1).mono ?_
  rintro e w4 ⟨x1, rfl, ho, hb⟩
  clear hb0 hb1
  have HX := Lib.hid (HX.out.next hb)
  have HMid := Lib.hid (HMid.out.trans (hb.mono HMid.out.size))
  have hb0 := HX.out.c0
  have hb1 := HX.out.c1
  have HOx1 := Lib.hid ho
  clear ho hb
  go_wp2_with fail
  refine (HT.out _).mono ?_
  rintro e w5 ⟨rfl, hb⟩
  clear hb0 hb1
  have HX := Lib.hid (HX.out.next hb)
  have HMid := Lib.hid (HMid.out.trans (hb.mono HMid.out.size))
  have HOx1 := Lib.hid (owns_below HOx1.out hb)
  have hb0 := HX.out.c0
  have hb1 := HX.out.c1
  clear hb
  have HL1 := Lib.hid (fun b (hb : x1.ownBlock = some b) => (⟨Nat.le_trans HB1.out (owns_block HOx1.out b hb).1, (owns_block HOx1.out b hb).2⟩ : _ ∧ _))
  have HBg := Lib.hid HMid.out.size
  go_wp2_with fail
  refine (HI.out x1 _ (owns_reads HOx1.out Hnm1.out)).mono ?_
  rintro e w6 ⟨g0, rfl, ho, hb⟩
  clear hb0 hb1
  have HX := Lib.hid (HX.out.next hb)
  have HMid := Lib.hid (HMid.out.trans (hb.mono HMid.out.size))
  have HOx1 := Lib.hid (owns_below HOx1.out hb)
  have hb0 := HX.out.c0
  have hb1 := HX.out.c1
  have HOg0 := Lib.hid ho
  clear ho hb
  have HLg := Lib.hid (fun b (hb : g0.ownBlock = some b) => Nat.le_trans HBg.out (owns_block HOg0.out b hb).1)
  cases b
  all_goals
    go_wp2_with fail
    refine (eqI_below g0 q0 zs _ (owns_reads HOg0.out Hzm.out) (HQ.out.below HMid.out)).mono ?_
    rintro e w7 ⟨rfl, hb⟩
    clear hb0 hb1
    have HX := Lib.hid (HX.out.next hb)
    have HMid := Lib.hid (HMid.out.trans (hb.mono HMid.out.size))
    have HOx1 := Lib.hid (owns_below HOx1.out hb)
    have HOg0 := Lib.hid (owns_below HOg0.out hb)
    have hb0 := HX.out.c0
    have hb1 := HX.out.c1
    clear hb
    go_wp2_with fail
    refine (toI_any (.slice y1 xs1.length c1) xs1 _ (HV1.out.below HX.out.below) hn1).mono ?_
    rintro e w8 ⟨t1, rfl, ho, hb⟩
    clear hb0 hb1
    have HX := Lib.hid (HX.out.next hb)
    have HMid := Lib.hid (HMid.out.trans (hb.mono HMid.out.size))
    have HOx1 := Lib.hid (owns_below HOx1.out hb)
    have HOg0 := Lib.hid (owns_below HOg0.out hb)
    have hb0 := HX.out.c0
    have hb1 := HX.out.c1
    have HOt1 := Lib.hid ho
    clear ho hb
    go_wp2_with fail
    refine (eqI_below x1 t1 xs1 _ (owns_reads HOx1.out Hnm1.out) (owns_reads HOt1.out Hnm1.out)).mono ?_
    rintro e w9 ⟨rfl, hb⟩
    clear hb0 hb1
    have HX := Lib.hid (HX.out.next hb)
    have HMid := Lib.hid (HMid.out.trans (hb.mono HMid.out.size))
    have HOx1 := Lib.hid (owns_below HOx1.out hb)
    have HOg0 := Lib.hid (owns_below HOg0.out hb)
    have HOt1 := Lib.hid (owns_below HOt1.out hb)
    have hb0 := HX.out.c0
    have hb1 := HX.out.c1
    clear hb
    go_wp2_with fail
    refine (mark_list x1 xs1 _ 1 _ HOx1.out hn1 (by omega)).mono ?_
    rintro e w10 ⟨rfl, hg, _⟩
    clear hb0 hb1
    have hbM := below_grown hg (fun b hb => (HL1.out b hb).1) HMid.out.size
    have HX := Lib.hid (HX.out.nextAt HXm.out hbM)
    have HMid := Lib.hid (HMid.out.trans hbM)
    have HOg0 := Lib.hid (owns_apart HOg0.out hg (fun b hb => (HL1.out b hb).2))
    have hb0 := HX.out.c0
    have hb1 := HX.out.c1
    clear hg hbM
    go_wp2_with fail
    refine (eqI_below g0 q0 zs _ (owns_reads HOg0.out Hzm.out) (HQ.out.below HMid.out)).mono ?_
    rintro e w11 ⟨rfl, hb⟩
    clear hb0 hb1
    have HX := Lib.hid (HX.out.next hb)
    have HMid := Lib.hid (HMid.out.trans (hb.mono HMid.out.size))
    have HOg0 := Lib.hid (owns_below HOg0.out hb)
    have hb0 := HX.out.c0
    have hb1 := HX.out.c1
    clear hb
    go_wp2_with fail
    refine (mark_list g0 zs _ 1 _ HOg0.out hz (by omega)).mono ?_
    rintro e w12 ⟨rfl, hg, ho⟩
    clear hb0 hb1
    have hbM := below_grown hg HLg.out HMid.out.size
    have HX := Lib.hid (HX.out.nextAt HXm.out hbM)
    have HMid := Lib.hid (HMid.out.trans hbM)
    have HOg0 := Lib.hid ho
    have hb0 := HX.out.c0
    have hb1 := HX.out.c1
    clear hg hbM ho
    go_wp2_with fail
    refine (held_any g0 zs.length 1 _ (owns_reads (by rw [mts_len]; exact HOg0.out) (by rw [mts_len]; exact Hzm.out)) hz (by omega)).mono ?_
    rintro e w' ⟨rfl, rfl⟩
    go_wp2_with fail
    refine (HT.out _).mono ?_
    rintro e w13 ⟨rfl, hb⟩
    clear hb0 hb1
    have HX := Lib.hid (HX.out.next hb)
    have HMid := Lib.hid (HMid.out.trans (hb.mono HMid.out.size))
    have HOg0 := Lib.hid (owns_below HOg0.out hb)
    have hb0 := HX.out.c0
    have hb1 := HX.out.c1
    clear hb
    go_wp2_with fail
    refine (toI_any (.slice y1 xs1.length c1) xs1 _ (HV1.out.below HX.out.below) hn1).mono ?_
    rintro e w14 ⟨s1, rfl, ho, hb⟩
    clear hb0 hb1
    have HX := Lib.hid (HX.out.next hb)
    have HMid := Lib.hid (HMid.out.trans (hb.mono HMid.out.size))
    have HOg0 := Lib.hid (owns_below HOg0.out hb)
    have hb0 := HX.out.c0
    have hb1 := HX.out.c1
    have HOs1 := Lib.hid ho
    clear ho hb
    go_wp2_with fail
    refine (HI.out s1 _ (owns_reads HOs1.out Hnm1.out)).mono ?_
    rintro e w15 ⟨h0, rfl, ho, hb⟩
    clear hb0 hb1
    have HX := Lib.hid (HX.out.next hb)
    have HMid := Lib.hid (HMid.out.trans (hb.mono HMid.out.size))
    have HOg0 := Lib.hid (owns_below HOg0.out hb)
    have HOs1 := Lib.hid (owns_below HOs1.out hb)
    have hb0 := HX.out.c0
    have hb1 := HX.out.c1
    have HOh0 := Lib.hid ho
    clear ho hb
    go_wp2_with fail
    refine (eqI_below h0 q0 zs _ (owns_reads HOh0.out Hzm.out) (HQ.out.below HMid.out)).mono ?_
    rintro e w16 ⟨rfl, hb⟩
    clear hb0 hb1
    have HX := Lib.hid (HX.out.next hb)
    have HMid := Lib.hid (HMid.out.trans (hb.mono HMid.out.size))
    have HOg0 := Lib.hid (owns_below HOg0.out hb)
    have HOs1 := Lib.hid (owns_below HOs1.out hb)
    have HOh0 := Lib.hid (owns_below HOh0.out hb)
    have hb0 := HX.out.c0
    have hb1 := HX.out.c1
    clear hb
    go_wp2_with fail
    refine (held_any g0 zs.length 1 _ (owns_reads (by rw [mts_len]; exact HOg0.out) (by rw [mts_len]; exact Hzm.out)) hz (by omega)).mono ?_
    rintro e w' ⟨rfl, rfl⟩
    go_wp2_with fail
    go_ret
    exact ⟨rfl, HX.out.below⟩
set_option maxHeartbeats 400000 in
theorem law_long (n : Int) (g : Bool) (v1 : Value) (xs1 : List Int) (a2 : Int) (w : World) (hv1 : ReadsI w v1 xs1) (hlong : 1048576 < xs1.length) :
    Calls Try.prog 8 #[rd n g, v1, .int .i64 a2] w fun e w' => e = .returned (.bool true) ∧ Below w.heap.size w w' := by
  obtain ⟨y1, c1, rfl, _, hm1, _⟩ := hv1
  unfold maxLen at hm1
  have hb := below_new w (.cells #[.int .i64 n, .bool g] 23)
  have HB := Lib.hid hb
  clear hb
  unfold rd at *
  go_enter Try.func8, Try.ntmps8
  go_wp2_with fail
  go_ret
  exact ⟨rfl, HB.out⟩

theorem walk (n : Int) (g : Bool) (v1 : Value) (xs1 : List Int) (a2 : Int) (w : World) (hv1 : ReadsI w v1 xs1) (ha2 : -9223372036854775808 ≤ a2 ∧ a2 ≤ 9223372036854775807) :
    Calls Try.prog 8 #[rd n g, v1, .int .i64 a2] w fun e w' => e = .returned (.bool true) ∧ Below w.heap.size w w' := by
  by_cases h : 1048576 < xs1.length
  · exact law_long n g v1 xs1 a2 w hv1 h
  · have hlen : (shiftR n g xs1 a2).1.length ≤ 1048576 := shiftR_len n g xs1 a2 (by omega)
    exact law_two n g v1 xs1 a2 (shiftR n g xs1 a2).1 (shiftR n g xs1 a2).2 hlen w hv1 (by omega) (fun u1 w h1 => spec_ShiftWalk n g u1 xs1 a2 w h1) (fun u1 w h1 => impl_ShiftWalk n g u1 xs1 a2 w h1)
end Go.Proofs.Ytcpembfioelnlaa.fnExactShiftWalk
