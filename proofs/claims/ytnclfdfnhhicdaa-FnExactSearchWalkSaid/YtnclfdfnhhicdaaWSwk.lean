/-
  What is proved: the walk of the law FnExactSearchWalk: for every input impl.SearchWalk answers as the model does, its arguments read as before, and its answer is memory of its own. Conditions: none beyond the row's own.
-/
import Derived.Test.YtnclfdfnhhicdaaSez
namespace Go.Proofs.Ytnclfdfnhhicdaa.fnExactSearchWalk
open Go.RowKit
set_option linter.unusedVariables false

set_option maxHeartbeats 1600000 in
theorem law_two (n : Int) (g : Bool) (a1 : Int) (v2 : Value) (xs2 : List Int) (zs : List Int) (b : Bool) (hz : zs.length ≤ 1048576) (w : World) (hv2 : ReadsI w v2 xs2) (hn2 : xs2.length ≤ 1048576)
    (hm : ∀ (u2 : Value) (w : World), ReadsI w u2 xs2 → Calls Try.prog 33 #[rd n g, .int .i64 a1, u2] w (OwnsB w.heap.size zs b w))
    (hi : ∀ (u2 : Value) (w : World), ReadsI w u2 xs2 → Calls Try.prog 34 #[rd n g, .int .i64 a1, u2] w (OwnsB w.heap.size zs b w)) :
    Calls Try.prog 9 #[rd n g, .int .i64 a1, v2] w fun e w' => e = .returned (.bool true) ∧ Below w.heap.size w w' := by
  have HM := Lib.hid hm
  have HI := Lib.hid hi
  have HT := Lib.hid (fun w => toRoad_any n g w)
  have HX := Lib.hid (Boxed.first w n g 23)
  have HV2 := Lib.hid hv2
  have hnm : xs2.length ≤ maxLen := by unfold maxLen; omega
  have Hnm2 := Lib.hid hnm
  clear hnm
  have hnm : zs.length ≤ maxLen := by unfold maxLen; omega
  have Hzm := Lib.hid hnm
  clear hnm
  obtain ⟨y2, c2, hvv2, _⟩ := hv2
  subst hvv2
  clear hm hi
  unfold rd at *
  go_enter Try.func9, Try.ntmps9
  go_wp2_with fail
  refine (HT.out _).mono ?_
  rintro e w1 ⟨rfl, hb⟩
  have HX := Lib.hid (HX.out.next hb)
  have hb0 := HX.out.c0
  have hb1 := HX.out.c1
  clear hb
  go_wp2_with fail
  refine (toI_any (.slice y2 xs2.length c2) xs2 _ (HV2.out.below HX.out.below) hn2).mono ?_
  rintro e w2 ⟨p2, rfl, ho, hb⟩
  clear hb0 hb1
  have HX := Lib.hid (HX.out.next hb)
  have hb0 := HX.out.c0
  have hb1 := HX.out.c1
  have HOp2 := Lib.hid ho
  clear ho hb
  go_wp2_with fail
  refine (HM.out p2 _ (owns_reads HOp2.out Hnm2.out)).mono ?_
  rintro e w3 ⟨q0, rfl, ho, hb⟩
  clear hb0 hb1
  have HX := Lib.hid (HX.out.next hb)
  have HOp2 := Lib.hid (owns_below HOp2.out hb)
  have hb0 := HX.out.c0
  have hb1 := HX.out.c1
  have HOq0 := Lib.hid ho
  clear ho hb
  have HQ := Lib.hid (owns_reads HOq0.out Hzm.out)
  have HMid : Hid (Below w3.heap.size w3 w3) := Lib.hid (Below.refl _ _)
  have HXm := Lib.hid HX.out.size
  have HB2 := Lib.hid HMid.out.size
  go_wp2_with fail
  refine (toI_any (.slice y2 xs2.length c2) xs2 _ (HV2.out.below HX.out.below) hn2).mono ?_
  rintro e w4 ⟨x2, rfl, ho, hb⟩
  clear hb0 hb1
  have HX := Lib.hid (HX.out.next hb)
  have HMid := Lib.hid (HMid.out.trans (hb.mono HMid.out.size))
  have hb0 := HX.out.c0
  have hb1 := HX.out.c1
  have HOx2 := Lib.hid ho
  clear ho hb
  go_wp2_with fail
  refine (HT.out _).mono ?_
  rintro e w5 ⟨rfl, hb⟩
  clear hb0 hb1
  have HX := Lib.hid (HX.out.next hb)
  have HMid := Lib.hid (HMid.out.trans (hb.mono HMid.out.size))
  have HOx2 := Lib.hid (owns_below HOx2.out hb)
  have hb0 := HX.out.c0
  have hb1 := HX.out.c1
  clear hb
  have HL2 := Lib.hid (fun b (hb : x2.ownBlock = some b) => (⟨Nat.le_trans HB2.out (owns_block HOx2.out b hb).1, (owns_block HOx2.out b hb).2⟩ : _ ∧ _))
  have HBg := Lib.hid HMid.out.size
  go_wp2_with fail
  refine (HI.out x2 _ (owns_reads HOx2.out Hnm2.out)).mono ?_
  rintro e w6 ⟨g0, rfl, ho, hb⟩
  clear hb0 hb1
  have HX := Lib.hid (HX.out.next hb)
  have HMid := Lib.hid (HMid.out.trans (hb.mono HMid.out.size))
  have HOx2 := Lib.hid (owns_below HOx2.out hb)
  have hb0 := HX.out.c0
  have hb1 := HX.out.c1
  have HOg0 := Lib.hid ho
  clear ho hb
  have HLg := Lib.hid (fun b (hb : g0.ownBlock = some b) => Nat.le_trans HBg.out (owns_block HOg0.out b hb).1)
  cases b
  all_goals
    go_wp2_with fail
    refine (eqI_below g0 q0 zs _ (owns_reads HOg0.out Hzm.out) (HQ.out.below HMid.out)).mono ?_
    rintro e w7 ⟨rfl, hb⟩
    clear hb0 hb1
    have HX := Lib.hid (HX.out.next hb)
    have HMid := Lib.hid (HMid.out.trans (hb.mono HMid.out.size))
    have HOx2 := Lib.hid (owns_below HOx2.out hb)
    have HOg0 := Lib.hid (owns_below HOg0.out hb)
    have hb0 := HX.out.c0
    have hb1 := HX.out.c1
    clear hb
    go_wp2_with fail
    refine (toI_any (.slice y2 xs2.length c2) xs2 _ (HV2.out.below HX.out.below) hn2).mono ?_
    rintro e w8 ⟨t2, rfl, ho, hb⟩
    clear hb0 hb1
    have HX := Lib.hid (HX.out.next hb)
    have HMid := Lib.hid (HMid.out.trans (hb.mono HMid.out.size))
    have HOx2 := Lib.hid (owns_below HOx2.out hb)
    have HOg0 := Lib.hid (owns_below HOg0.out hb)
    have hb0 := HX.out.c0
    have hb1 := HX.out.c1
    have HOt2 := Lib.hid ho
    clear ho hb
    go_wp2_with fail
    refine (eqI_below x2 t2 xs2 _ (owns_reads HOx2.out Hnm2.out) (owns_reads HOt2.out Hnm2.out)).mono ?_
    rintro e w9 ⟨rfl, hb⟩
    clear hb0 hb1
    have HX := Lib.hid (HX.out.next hb)
    have HMid := Lib.hid (HMid.out.trans (hb.mono HMid.out.size))
    have HOx2 := Lib.hid (owns_below HOx2.out hb)
    have HOg0 := Lib.hid (owns_below HOg0.out hb)
    have HOt2 := Lib.hid (owns_below HOt2.out hb)
    have hb0 := HX.out.c0
    have hb1 := HX.out.c1
    clear hb
    go_wp2_with fail
    refine (mark_list x2 xs2 _ 1 _ HOx2.out hn2 (by omega)).mono ?_
    rintro e w10 ⟨rfl, hg, _⟩
    clear hb0 hb1
    have hbM := below_grown hg (fun b hb => (HL2.out b hb).1) HMid.out.size
    have HX := Lib.hid (HX.out.nextAt HXm.out hbM)
    have HMid := Lib.hid (HMid.out.trans hbM)
    have HOg0 := Lib.hid (owns_apart HOg0.out hg (fun b hb => (HL2.out b hb).2))
    have hb0 := HX.out.c0
    have hb1 := HX.out.c1
    clear hg hbM
    go_wp2_with fail
    refine (eqI_below g0 q0 zs _ (owns_reads HOg0.out Hzm.out) (HQ.out.below HMid.out)).mono ?_
    rintro e w11 ⟨rfl, hb⟩
    clear hb0 hb1
    have HX := Lib.hid (HX.out.next hb)
    have HMid := Lib.hid (HMid.out.trans (hb.mono HMid.out.size))
    have HOg0 := Lib.hid (owns_below HOg0.out hb)
    have hb0 := HX.out.c0
    have hb1 := HX.out.c1
    clear hb
    go_wp2_with fail
    refine (mark_list g0 zs _ 1 _ HOg0.out hz (by omega)).mono ?_
    rintro e w12 ⟨rfl, hg, ho⟩
    clear hb0 hb1
    have hbM := below_grown hg HLg.out HMid.out.size
    have HX := Lib.hid (HX.out.nextAt HXm.out hbM)
    have HMid := Lib.hid (HMid.out.trans hbM)
    have HOg0 := Lib.hid ho
    have hb0 := HX.out.c0
    have hb1 := HX.out.c1
    clear hg hbM ho
    go_wp2_with fail
    refine (held_any g0 zs.length 1 _ (owns_reads (by rw [mts_len]; exact HOg0.out) (by rw [mts_len]; exact Hzm.out)) hz (by omega)).mono ?_
    rintro e w' ⟨rfl, rfl⟩
    go_wp2_with fail
    refine (HT.out _).mono ?_
    rintro e w13 ⟨rfl, hb⟩
    clear hb0 hb1
    have HX := Lib.hid (HX.out.next hb)
    have HMid := Lib.hid (HMid.out.trans (hb.mono HMid.out.size))
    have HOg0 := Lib.hid (owns_below HOg0.out hb)
    have hb0 := HX.out.c0
    have hb1 := HX.out.c1
    clear hb
    go_wp2_with fail
    refine (toI_any (.slice y2 xs2.length c2) xs2 _ (HV2.out.below HX.out.below) hn2).mono ?_
    rintro e w14 ⟨s2, rfl, ho, hb⟩
    clear hb0 hb1
    have HX := Lib.hid (HX.out.next hb)
    have HMid := Lib.hid (HMid.out.trans (hb.mono HMid.out.size))
    have HOg0 := Lib.hid (owns_below HOg0.out hb)
    have hb0 := HX.out.c0
    have hb1 := HX.out.c1
    have HOs2 := Lib.hid ho
    clear ho hb
    go_wp2_with fail
    refine (HI.out s2 _ (owns_reads HOs2.out Hnm2.out)).mono ?_
    rintro e w15 ⟨h0, rfl, ho, hb⟩
    clear hb0 hb1
    have HX := Lib.hid (HX.out.next hb)
    have HMid := Lib.hid (HMid.out.trans (hb.mono HMid.out.size))
    have HOg0 := Lib.hid (owns_below HOg0.out hb)
    have HOs2 := Lib.hid (owns_below HOs2.out hb)
    have hb0 := HX.out.c0
    have hb1 := HX.out.c1
    have HOh0 := Lib.hid ho
    clear ho hb
    go_wp2_with fail
    refine (eqI_below h0 q0 zs _ (owns_reads HOh0.out Hzm.out) (HQ.out.below HMid.out)).mono ?_
    rintro e w16 ⟨rfl, hb⟩
    clear hb0 hb1
    have HX := Lib.hid (HX.out.next hb)
    have HMid := Lib.hid (HMid.out.trans (hb.mono HMid.out.size))
    have HOg0 := Lib.hid (owns_below HOg0.out hb)
    have HOs2 := Lib.hid (owns_below HOs2.out hb)
    have HOh0 := Lib.hid (owns_below HOh0.out hb)
    have hb0 := HX.out.c0
    have hb1 := HX.out.c1
    clear hb
    go_wp2_with fail
    refine (held_any g0 zs.length 1 _ (owns_reads (by rw [mts_len]; exact HOg0.out) (by rw [mts_len]; exact Hzm.out)) hz (by omega)).mono ?_
    rintro e w' ⟨rfl, rfl⟩
    go_wp2_with fail
    go_ret
    exact ⟨rfl, HX.out.below⟩
set_option maxHeartbeats 400000 in
theorem law_long (n : Int) (g : Bool) (a1 : Int) (v2 : Value) (xs2 : List Int) (w : World) (hv2 : ReadsI w v2 xs2) (hlong : 1048576 < xs2.length) :
    Calls Try.prog 9 #[rd n g, .int .i64 a1, v2] w fun e w' => e = .returned (.bool true) ∧ Below w.heap.size w w' := by
  obtain ⟨y2, c2, rfl, _, hm2, _⟩ := hv2
  unfold maxLen at hm2
  have hb := below_new w (.cells #[.int .i64 n, .bool g] 23)
  have HB := Lib.hid hb
  clear hb
  unfold rd at *
  go_enter Try.func9, Try.ntmps9
  go_wp2_with fail
  go_ret
  exact ⟨rfl, HB.out⟩

theorem walk (n : Int) (g : Bool) (a1 : Int) (v2 : Value) (xs2 : List Int) (w : World) (ha1 : -9223372036854775808 ≤ a1 ∧ a1 ≤ 9223372036854775807) (hv2 : ReadsI w v2 xs2) :
    Calls Try.prog 9 #[rd n g, .int .i64 a1, v2] w fun e w' => e = .returned (.bool true) ∧ Below w.heap.size w w' := by
  by_cases h : 1048576 < xs2.length
  · exact law_long n g a1 v2 xs2 w hv2 h
  · have hlen : ((swalkR n g a1 xs2)).1.length ≤ 1048576 := swalkR_len n g a1 xs2
    exact law_two n g a1 v2 xs2 ((swalkR n g a1 xs2)).1 ((swalkR n g a1 xs2)).2 hlen w hv2 (by omega) (fun u2 w h2 => spec_SearchWalk n g a1 u2 xs2 w h2 (by omega)) (fun u2 w h2 => impl_SearchWalk n g a1 u2 xs2 w h2 (by omega))
end Go.Proofs.Ytnclfdfnhhicdaa.fnExactSearchWalk
