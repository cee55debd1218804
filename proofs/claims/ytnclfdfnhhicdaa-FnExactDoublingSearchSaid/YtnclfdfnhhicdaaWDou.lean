/-
  What is proved: the walk of the law FnExactDoublingSearch: for every input impl.DoublingSearch answers as the model does, its arguments read as before, and its answer is memory of its own. Conditions: none beyond the row's own.
-/
import Derived.Test.YtnclfdfnhhicdaaSew
namespace Go.Proofs.Ytnclfdfnhhicdaa.fnExactDoublingSearch
open Go.RowKit
set_option linter.unusedVariables false

set_option maxHeartbeats 1600000 in
theorem law_two (n : Int) (g : Bool) (a1 : Int) (zs : List Int) (b : Bool) (hz : zs.length ≤ 1048576) (w : World) 
    (hm : ∀ (w : World), Calls Try.prog 31 #[rd n g, .int .i64 a1] w (OwnsB w.heap.size zs b w))
    (hi : ∀ (w : World), Calls Try.prog 32 #[rd n g, .int .i64 a1] w (OwnsB w.heap.size zs b w)) :
    Calls Try.prog 8 #[rd n g, .int .i64 a1] w fun e w' => e = .returned (.bool true) ∧ Below w.heap.size w w' := by
  have HM := Lib.hid hm
  have HI := Lib.hid hi
  have HT := Lib.hid (fun w => toRoad_any n g w)
  have HX := Lib.hid (Boxed.first w n g 23)
  have hnm : zs.length ≤ maxLen := by unfold maxLen; omega
  have Hzm := Lib.hid hnm
  clear hnm
  clear hm hi
  unfold rd at *
  go_enter Try.func8, Try.ntmps8
  go_wp2_with fail
  refine (HT.out _).mono ?_
  rintro e w1 ⟨rfl, hb⟩
  have HX := Lib.hid (HX.out.next hb)
  have hb0 := HX.out.c0
  have hb1 := HX.out.c1
  clear hb
  go_wp2_with fail
  refine (HM.out _).mono ?_
  rintro e w2 ⟨q0, rfl, ho, hb⟩
  clear hb0 hb1
  have HX := Lib.hid (HX.out.next hb)
  have hb0 := HX.out.c0
  have hb1 := HX.out.c1
  have HOq0 := Lib.hid ho
  clear ho hb
  have HQ := Lib.hid (owns_reads HOq0.out Hzm.out)
  have HMid : Hid (Below w2.heap.size w2 w2) := Lib.hid (Below.refl _ _)
  have HXm := Lib.hid HX.out.size
  go_wp2_with fail
  refine (HT.out _).mono ?_
  rintro e w3 ⟨rfl, hb⟩
  clear hb0 hb1
  have HX := Lib.hid (HX.out.next hb)
  have HMid := Lib.hid (HMid.out.trans (hb.mono HMid.out.size))
  have hb0 := HX.out.c0
  have hb1 := HX.out.c1
  clear hb
  have HBg := Lib.hid HMid.out.size
  go_wp2_with fail
  refine (HI.out _).mono ?_
  rintro e w4 ⟨g0, rfl, ho, hb⟩
  clear hb0 hb1
  have HX := Lib.hid (HX.out.next hb)
  have HMid := Lib.hid (HMid.out.trans (hb.mono HMid.out.size))
  have hb0 := HX.out.c0
  have hb1 := HX.out.c1
  have HOg0 := Lib.hid ho
  clear ho hb
  have HLg := Lib.hid (fun b (hb : g0.ownBlock = some b) => Nat.le_trans HBg.out (owns_block HOg0.out b hb).1)
  cases b
  all_goals
    go_wp2_with fail
    refine (eqI_below g0 q0 zs _ (owns_reads HOg0.out Hzm.out) (HQ.out.below HMid.out)).mono ?_
    rintro e w5 ⟨rfl, hb⟩
    clear hb0 hb1
    have HX := Lib.hid (HX.out.next hb)
    have HMid := Lib.hid (HMid.out.trans (hb.mono HMid.out.size))
    have HOg0 := Lib.hid (owns_below HOg0.out hb)
    have hb0 := HX.out.c0
    have hb1 := HX.out.c1
    clear hb
    go_wp2_with fail
    refine (mark_list g0 zs _ 1 _ HOg0.out hz (by omega)).mono ?_
    rintro e w6 ⟨rfl, hg, ho⟩
    clear hb0 hb1
    have hbM := below_grown hg HLg.out HMid.out.size
    have HX := Lib.hid (HX.out.nextAt HXm.out hbM)
    have HMid := Lib.hid (HMid.out.trans hbM)
    have HOg0 := Lib.hid ho
    have hb0 := HX.out.c0
    have hb1 := HX.out.c1
    clear hg hbM ho
    go_wp2_with fail
    refine (held_any g0 zs.length 1 _ (owns_reads (by rw [mts_len]; exact HOg0.out) (by rw [mts_len]; exact Hzm.out)) hz (by omega)).mono ?_
    rintro e w' ⟨rfl, rfl⟩
    go_wp2_with fail
    refine (HT.out _).mono ?_
    rintro e w7 ⟨rfl, hb⟩
    clear hb0 hb1
    have HX := Lib.hid (HX.out.next hb)
    have HMid := Lib.hid (HMid.out.trans (hb.mono HMid.out.size))
    have HOg0 := Lib.hid (owns_below HOg0.out hb)
    have hb0 := HX.out.c0
    have hb1 := HX.out.c1
    clear hb
    go_wp2_with fail
    refine (HI.out _).mono ?_
    rintro e w8 ⟨h0, rfl, ho, hb⟩
    clear hb0 hb1
    have HX := Lib.hid (HX.out.next hb)
    have HMid := Lib.hid (HMid.out.trans (hb.mono HMid.out.size))
    have HOg0 := Lib.hid (owns_below HOg0.out hb)
    have hb0 := HX.out.c0
    have hb1 := HX.out.c1
    have HOh0 := Lib.hid ho
    clear ho hb
    go_wp2_with fail
    refine (eqI_below h0 q0 zs _ (owns_reads HOh0.out Hzm.out) (HQ.out.below HMid.out)).mono ?_
    rintro e w9 ⟨rfl, hb⟩
    clear hb0 hb1
    have HX := Lib.hid (HX.out.next hb)
    have HMid := Lib.hid (HMid.out.trans (hb.mono HMid.out.size))
    have HOg0 := Lib.hid (owns_below HOg0.out hb)
    have HOh0 := Lib.hid (owns_below HOh0.out hb)
    have hb0 := HX.out.c0
    have hb1 := HX.out.c1
    clear hb
    go_wp2_with fail
    refine (held_any g0 zs.length 1 _ (owns_reads (by rw [mts_len]; exact HOg0.out) (by rw [mts_len]; exact Hzm.out)) hz (by omega)).mono ?_
    rintro e w' ⟨rfl, rfl⟩
    go_wp2_with fail
    go_ret
    exact ⟨rfl, HX.out.below⟩

theorem walk (n : Int) (g : Bool) (a1 : Int) (w : World) (ha1 : -9223372036854775808 ≤ a1 ∧ a1 ≤ 9223372036854775807) :
    Calls Try.prog 8 #[rd n g, .int .i64 a1] w fun e w' => e = .returned (.bool true) ∧ Below w.heap.size w w' := by
  have hlen : ((doubR n g a1)).1.length ≤ 1048576 := doubR_len n g a1
  exact law_two n g a1 ((doubR n g a1)).1 ((doubR n g a1)).2 hlen w  (fun w => spec_DoublingSearch n g a1 w) (fun w => impl_DoublingSearch n g a1 w)
end Go.Proofs.Ytnclfdfnhhicdaa.fnExactDoublingSearch
