/-
  What is proved: the walk of the law FnExactCalmTurn: for every input impl.CalmTurn answers as the model does, its arguments read as before, and its answer is memory of its own. Conditions: none beyond the row's own.
-/
import Derived.Test.YthbmiigndhoopaaLnl
import Derived.Test.YthbmiigndhoopaaTbb
namespace Go.Proofs.Ythbmiigndhoopaa.fnExactCalmTurn
open Go.RowKit
set_option linter.unusedVariables false
set_option linter.unusedSimpArgs false

set_option maxHeartbeats 3200000 in
set_option maxRecDepth 20000 in
theorem law_two (v0 : Value) (xs0 : List Int) (z : Int) (b : Bool) (w : World) (hv0 : ReadsI w v0 xs0) (hn0 : xs0.length ≤ 1048576)
    (hm : ∀ (u0 : Value) (w : World), ReadsI w u0 xs0 → Calls Try.prog 33 #[u0] w fun e w' => e = .returned (.tuple #[.int .i64 z, .bool b]) ∧ Below w.heap.size w w')
    (hi : ∀ (u0 : Value) (w : World), ReadsI w u0 xs0 → Calls Try.prog 34 #[u0] w fun e w' => e = .returned (.tuple #[.int .i64 z, .bool b]) ∧ Below w.heap.size w w') :
    Calls Try.prog 8 #[v0] w fun e w' => e = .returned (.bool true) ∧ Below w.heap.size w w' := by
  have HM := Lib.hid hm
  have HI := Lib.hid hi
  have hnm : xs0.length ≤ maxLen := by unfold maxLen; omega
  have Hnxs0 := Lib.hid hnm
  have Hbxs0 := Lib.hid hn0
  clear hnm
  have HV0 := Lib.hid hv0
  obtain ⟨y0, c0, hvv0, _⟩ := hv0
  subst hvv0
  clear hm hi
  have HX := Lib.hid (Kept.first w)
  skip
  go_enter Try.func8, Try.ntmps8
  go_wp2_with fail
  refine (toI_any (.slice y0 xs0.length c0) xs0 _ (HV0.out.below HX.out.below) hn0).mono ?_
  rintro e w1 ⟨x1, rfl, ho, hb⟩
  have HX := Lib.hid (HX.out.next hb)
  have HZw1 : Hid (w.heap.size ≤ w1.heap.size) := Lib.hid (hb.size)
  have HRx1 : Hid (∀ b, x1.ownBlock = some b → w.heap.size ≤ b ∧ b < w1.heap.size) := Lib.hid (fun b hb => owns_block ho b hb)
  have HOx1 := Lib.hid ho
  clear ho
  clear hb
  go_wp2_with fail
  refine (HM.out x1 _ (owns_reads HOx1.out Hnxs0.out)).mono ?_
  rintro e w2 ⟨rfl, hb⟩
  have HX := Lib.hid (HX.out.next hb)
  have HOx1 := Lib.hid (owns_below HOx1.out hb)
  have HZw2 : Hid (w1.heap.size ≤ w2.heap.size) := Lib.hid (hb.size)
  clear hb
  have HMid : Hid (Below w2.heap.size w2 w2) := Lib.hid (Below.refl _ _)
  have HXm := Lib.hid HX.out.size
  clear HOx1 HRx1
  go_wp2_with fail
  refine (toI_any (.slice y0 xs0.length c0) xs0 _ (HV0.out.below HX.out.below) hn0).mono ?_
  rintro e w3 ⟨x2, rfl, ho, hb⟩
  have HX := Lib.hid (HX.out.next hb)
  have HMid := Lib.hid (HMid.out.trans (hb.mono HMid.out.size))
  have HZw3 : Hid (w2.heap.size ≤ w3.heap.size) := Lib.hid (hb.size)
  have HRx2 : Hid (∀ b, x2.ownBlock = some b → w2.heap.size ≤ b ∧ b < w3.heap.size) := Lib.hid (fun b hb => owns_block ho b hb)
  have HOx2 := Lib.hid ho
  clear ho
  clear hb
  go_wp2_with fail
  refine (HI.out x2 _ (owns_reads HOx2.out Hnxs0.out)).mono ?_
  rintro e w4 ⟨rfl, hb⟩
  have HX := Lib.hid (HX.out.next hb)
  have HOx2 := Lib.hid (owns_below HOx2.out hb)
  have HMid := Lib.hid (HMid.out.trans (hb.mono HMid.out.size))
  have HZw4 : Hid (w3.heap.size ≤ w4.heap.size) := Lib.hid (hb.size)
  clear hb
  cases b
  all_goals
    go_wp2_with fail
    refine (toI_any (.slice y0 xs0.length c0) xs0 _ (HV0.out.below HX.out.below) hn0).mono ?_
    rintro e w5 ⟨x3, rfl, ho, hb⟩
    have HX := Lib.hid (HX.out.next hb)
    have HOx2 := Lib.hid (owns_below HOx2.out hb)
    have HMid := Lib.hid (HMid.out.trans (hb.mono HMid.out.size))
    have HZw5 : Hid (w4.heap.size ≤ w5.heap.size) := Lib.hid (hb.size)
    have HRx3 : Hid (∀ b, x3.ownBlock = some b → w4.heap.size ≤ b ∧ b < w5.heap.size) := Lib.hid (fun b hb => owns_block ho b hb)
    have HOx3 := Lib.hid ho
    clear ho
    clear hb
    go_wp2_with fail
    refine (eqI_below x2 x3 xs0 _ (owns_reads HOx2.out Hnxs0.out) (owns_reads HOx3.out Hnxs0.out)).mono ?_
    rintro e w6 ⟨rfl, hb⟩
    have HX := Lib.hid (HX.out.next hb)
    have HOx2 := Lib.hid (owns_below HOx2.out hb)
    have HOx3 := Lib.hid (owns_below HOx3.out hb)
    have HMid := Lib.hid (HMid.out.trans (hb.mono HMid.out.size))
    have HZw6 : Hid (w5.heap.size ≤ w6.heap.size) := Lib.hid (hb.size)
    clear hb
    clear HOx3 HRx3
    go_wp2_with fail
    go_ret
    exact ⟨rfl, HX.out.below⟩
set_option maxHeartbeats 800000 in
theorem law_long (v0 : Value) (xs0 : List Int) (w : World) (hv0 : ReadsI w v0 xs0) (hlong : 1048576 < xs0.length) :
    Calls Try.prog 8 #[v0] w fun e w' => e = .returned (.bool true) ∧ Below w.heap.size w w' := by
  obtain ⟨y0, c0, rfl, _, hm0, _⟩ := hv0
  unfold maxLen at hm0
  have HB := Lib.hid (Below.refl w.heap.size w)
  go_enter Try.func8, Try.ntmps8
  go_wp2_with fail
  go_ret
  exact ⟨rfl, HB.out⟩

theorem walk (v0 : Value) (xs0 : List Int) (w : World) (hv0 : ReadsI w v0 xs0) :
    Calls Try.prog 8 #[v0] w fun e w' => e = .returned (.bool true) ∧ Below w.heap.size w w' := by
  by_cases h : 1048576 < xs0.length
  · exact law_long v0 xs0 w hv0 h
  · skip
    exact law_two v0 xs0 ((calmR xs0)).1 ((calmR xs0)).2 w hv0 (by omega) (fun u0 w h0 => spec_CalmTurn u0 xs0 w h0) (fun u0 w h0 => impl_CalmTurn u0 xs0 w h0)
end Go.Proofs.Ythbmiigndhoopaa.fnExactCalmTurn
