/-
  What is proved: the walk of the law FnExactTurnAround: for every input impl.TurnAround answers as the model does, its arguments read as before, and its answer is memory of its own. Conditions: none beyond the row's own.
-/
import Derived.Test.YthbmiigndhoopaaLno
import Derived.Test.YthbmiigndhoopaaTbb
namespace Go.Proofs.Ythbmiigndhoopaa.fnExactTurnAround
open Go.RowKit
set_option linter.unusedVariables false
set_option linter.unusedSimpArgs false

set_option maxHeartbeats 3200000 in
set_option maxRecDepth 20000 in
theorem law_two (v0 : Value) (xs0 : List Int) (zs : List Int) (b : Bool) (hz : zs.length ≤ 1048576) (w : World) (hv0 : ReadsI w v0 xs0) (hn0 : xs0.length ≤ 1048576)
    (hm : ∀ (u0 : Value) (w : World), ReadsI w u0 xs0 → Calls Try.prog 37 #[u0] w (OwnsB w.heap.size zs b w))
    (hi : ∀ (u0 : Value) (w : World), ReadsI w u0 xs0 → Calls Try.prog 38 #[u0] w (OwnsB w.heap.size zs b w)) :
    Calls Try.prog 10 #[v0] w fun e w' => e = .returned (.bool true) ∧ Below w.heap.size w w' := by
  have HM := Lib.hid hm
  have HI := Lib.hid hi
  have hnm : xs0.length ≤ maxLen := by unfold maxLen; omega
  have Hnxs0 := Lib.hid hnm
  have Hbxs0 := Lib.hid hn0
  clear hnm
  have HV0 := Lib.hid hv0
  have hnm : zs.length ≤ maxLen := by unfold maxLen; omega
  have Hnzs := Lib.hid hnm
  have Hbzs := Lib.hid hz
  clear hnm
  obtain ⟨y0, c0, hvv0, _⟩ := hv0
  subst hvv0
  clear hm hi
  have HX := Lib.hid (Kept.first w)
  skip
  go_enter Try.func10, Try.ntmps10
  go_wp2_with fail
  refine (toI_any (.slice y0 xs0.length c0) xs0 _ (HV0.out.below HX.out.below) hn0).mono ?_
  rintro e w1 ⟨x1, rfl, ho, hb⟩
  have HX := Lib.hid (HX.out.next hb)
  have HZw1 : Hid (w.heap.size ≤ w1.heap.size) := Lib.hid (hb.size)
  have HRx1 : Hid (∀ b, x1.ownBlock = some b → w.heap.size ≤ b ∧ b < w1.heap.size) := Lib.hid (fun b hb => owns_block ho b hb)
  have HOx1 := Lib.hid ho
  clear ho
  clear hb
  go_wp2_with fail
  refine (HM.out x1 _ (owns_reads HOx1.out Hnxs0.out)).mono ?_
  rintro e w2 ⟨g2, rfl, ho, hb⟩
  have HX := Lib.hid (HX.out.next hb)
  have HOx1 := Lib.hid (owns_below HOx1.out hb)
  have HZw2 : Hid (w1.heap.size ≤ w2.heap.size) := Lib.hid (hb.size)
  have HRg2 : Hid (∀ b, g2.ownBlock = some b → w1.heap.size ≤ b ∧ b < w2.heap.size) := Lib.hid (fun b hb => owns_block ho b hb)
  have HOg2 := Lib.hid ho
  clear ho
  clear hb
  have HMid : Hid (Below w2.heap.size w2 w2) := Lib.hid (Below.refl _ _)
  have HXm := Lib.hid HX.out.size
  clear HOx1 HRx1
  go_wp2_with fail
  refine (toI_any (.slice y0 xs0.length c0) xs0 _ (HV0.out.below HX.out.below) hn0).mono ?_
  rintro e w3 ⟨x3, rfl, ho, hb⟩
  have HX := Lib.hid (HX.out.next hb)
  have HOg2 := Lib.hid (owns_below HOg2.out hb)
  have HMid := Lib.hid (HMid.out.trans (hb.mono HMid.out.size))
  have HZw3 : Hid (w2.heap.size ≤ w3.heap.size) := Lib.hid (hb.size)
  have HRx3 : Hid (∀ b, x3.ownBlock = some b → w2.heap.size ≤ b ∧ b < w3.heap.size) := Lib.hid (fun b hb => owns_block ho b hb)
  have HOx3 := Lib.hid ho
  clear ho
  clear hb
  go_wp2_with fail
  refine (HI.out x3 _ (owns_reads HOx3.out Hnxs0.out)).mono ?_
  rintro e w4 ⟨g4, rfl, ho, hb⟩
  have HX := Lib.hid (HX.out.next hb)
  have HOg2 := Lib.hid (owns_below HOg2.out hb)
  have HOx3 := Lib.hid (owns_below HOx3.out hb)
  have HMid := Lib.hid (HMid.out.trans (hb.mono HMid.out.size))
  have HZw4 : Hid (w3.heap.size ≤ w4.heap.size) := Lib.hid (hb.size)
  have HRg4 : Hid (∀ b, g4.ownBlock = some b → w3.heap.size ≤ b ∧ b < w4.heap.size) := Lib.hid (fun b hb => owns_block ho b hb)
  have HOg4 := Lib.hid ho
  clear ho
  clear hb
  cases b
  all_goals
    go_wp2_with fail
    refine (eqI_below g4 g2 zs _ (owns_reads HOg4.out Hnzs.out) (owns_reads HOg2.out Hnzs.out)).mono ?_
    rintro e w5 ⟨rfl, hb⟩
    have HX := Lib.hid (HX.out.next hb)
    have HOg2 := Lib.hid (owns_below HOg2.out hb)
    have HOx3 := Lib.hid (owns_below HOx3.out hb)
    have HOg4 := Lib.hid (owns_below HOg4.out hb)
    have HMid := Lib.hid (HMid.out.trans (hb.mono HMid.out.size))
    have HZw5 : Hid (w4.heap.size ≤ w5.heap.size) := Lib.hid (hb.size)
    clear hb
    go_wp2_with fail
    refine (toI_any (.slice y0 xs0.length c0) xs0 _ (HV0.out.below HX.out.below) hn0).mono ?_
    rintro e w6 ⟨x5, rfl, ho, hb⟩
    have HX := Lib.hid (HX.out.next hb)
    have HOg2 := Lib.hid (owns_below HOg2.out hb)
    have HOx3 := Lib.hid (owns_below HOx3.out hb)
    have HOg4 := Lib.hid (owns_below HOg4.out hb)
    have HMid := Lib.hid (HMid.out.trans (hb.mono HMid.out.size))
    have HZw6 : Hid (w5.heap.size ≤ w6.heap.size) := Lib.hid (hb.size)
    have HRx5 : Hid (∀ b, x5.ownBlock = some b → w5.heap.size ≤ b ∧ b < w6.heap.size) := Lib.hid (fun b hb => owns_block ho b hb)
    have HOx5 := Lib.hid ho
    clear ho
    clear hb
    go_wp2_with fail
    refine (eqI_below x3 x5 xs0 _ (owns_reads HOx3.out Hnxs0.out) (owns_reads HOx5.out Hnxs0.out)).mono ?_
    rintro e w7 ⟨rfl, hb⟩
    have HX := Lib.hid (HX.out.next hb)
    have HOg2 := Lib.hid (owns_below HOg2.out hb)
    have HOx3 := Lib.hid (owns_below HOx3.out hb)
    have HOg4 := Lib.hid (owns_below HOg4.out hb)
    have HOx5 := Lib.hid (owns_below HOx5.out hb)
    have HMid := Lib.hid (HMid.out.trans (hb.mono HMid.out.size))
    have HZw7 : Hid (w6.heap.size ≤ w7.heap.size) := Lib.hid (hb.size)
    clear hb
    clear HOx5 HRx5
    go_wp2_with fail
    refine (mark_list x3 xs0 _ (1) _ HOx3.out (Hbxs0.out) (by omega)).mono ?_
    rintro e w8 ⟨rfl, hg, ho⟩
    have hch : ChgIn (w2.heap.size) (w3.heap.size) w7 w8 := ChgIn.of_grown hg HRx3.out
    have hbM : Below w2.heap.size w7 w8 := hch.below (by have z0 := HZw1.out; have z1 := HZw2.out; have z2 := HZw3.out; have z3 := HZw4.out; have z4 := HZw5.out; have z5 := HZw6.out; have z6 := HZw7.out; omega) HMid.out.size
    have HX := Lib.hid (HX.out.nextAt HXm.out hbM)
    have HMid := Lib.hid (HMid.out.trans hbM)
    have HOg2 := Lib.hid (row_chg HOg2.out hch (fun b h => by have l := HRg2.out b h; have z0 := HZw1.out; have z1 := HZw2.out; have z2 := HZw3.out; have z3 := HZw4.out; have z4 := HZw5.out; have z5 := HZw6.out; have z6 := HZw7.out; omega))
    have HOg4 := Lib.hid (row_chg HOg4.out hch (fun b h => by have l := HRg4.out b h; have z0 := HZw1.out; have z1 := HZw2.out; have z2 := HZw3.out; have z3 := HZw4.out; have z4 := HZw5.out; have z5 := HZw6.out; have z6 := HZw7.out; omega))
    have HOx3 := Lib.hid ho
    have HZw8 : Hid (w7.heap.size ≤ w8.heap.size) := Lib.hid hch.size
    clear hch ho hbM hg
    go_wp2_with fail
    refine (eqI_below g4 g2 zs _ (owns_reads HOg4.out Hnzs.out) (owns_reads HOg2.out Hnzs.out)).mono ?_
    rintro e w9 ⟨rfl, hb⟩
    have HX := Lib.hid (HX.out.next hb)
    have HOg2 := Lib.hid (owns_below HOg2.out hb)
    have HOx3 := Lib.hid (owns_below HOx3.out hb)
    have HOg4 := Lib.hid (owns_below HOg4.out hb)
    have HMid := Lib.hid (HMid.out.trans (hb.mono HMid.out.size))
    have HZw9 : Hid (w8.heap.size ≤ w9.heap.size) := Lib.hid (hb.size)
    clear hb
    go_wp2_with fail
    refine (mark_list g4 zs _ (1) _ HOg4.out (Hbzs.out) (by omega)).mono ?_
    rintro e w10 ⟨rfl, hg, ho⟩
    have hch : ChgIn (w3.heap.size) (w4.heap.size) w9 w10 := ChgIn.of_grown hg HRg4.out
    have hbM : Below w2.heap.size w9 w10 := hch.below (by have z0 := HZw1.out; have z1 := HZw2.out; have z2 := HZw3.out; have z3 := HZw4.out; have z4 := HZw5.out; have z5 := HZw6.out; have z6 := HZw7.out; have z7 := HZw8.out; have z8 := HZw9.out; omega) HMid.out.size
    have HX := Lib.hid (HX.out.nextAt HXm.out hbM)
    have HMid := Lib.hid (HMid.out.trans hbM)
    have HOg2 := Lib.hid (row_chg HOg2.out hch (fun b h => by have l := HRg2.out b h; have z0 := HZw1.out; have z1 := HZw2.out; have z2 := HZw3.out; have z3 := HZw4.out; have z4 := HZw5.out; have z5 := HZw6.out; have z6 := HZw7.out; have z7 := HZw8.out; have z8 := HZw9.out; omega))
    have HOx3 := Lib.hid (row_chg HOx3.out hch (fun b h => by have l := HRx3.out b h; have z0 := HZw1.out; have z1 := HZw2.out; have z2 := HZw3.out; have z3 := HZw4.out; have z4 := HZw5.out; have z5 := HZw6.out; have z6 := HZw7.out; have z7 := HZw8.out; have z8 := HZw9.out; omega))
    have HOg4 := Lib.hid ho
    have HZw10 : Hid (w9.heap.size ≤ w10.heap.size) := Lib.hid hch.size
    clear hch ho hbM hg
    go_wp2_with fail
    refine (held_any g4 zs.length (1) _ (owns_reads (by rw [mts_len]; exact HOg4.out) (by rw [mts_len]; exact Hnzs.out)) (Hbzs.out) (by omega)).mono ?_
    rintro e w11 ⟨rfl, rfl⟩
    go_wp2_with fail
    refine (toI_any (.slice y0 xs0.length c0) xs0 _ (HV0.out.below HX.out.below) hn0).mono ?_
    rintro e w11 ⟨x6, rfl, ho, hb⟩
    have HX := Lib.hid (HX.out.next hb)
    have HOg2 := Lib.hid (owns_below HOg2.out hb)
    have HOx3 := Lib.hid (owns_below HOx3.out hb)
    have HOg4 := Lib.hid (owns_below HOg4.out hb)
    have HMid := Lib.hid (HMid.out.trans (hb.mono HMid.out.size))
    have HZw11 : Hid (w10.heap.size ≤ w11.heap.size) := Lib.hid (hb.size)
    have HRx6 : Hid (∀ b, x6.ownBlock = some b → w10.heap.size ≤ b ∧ b < w11.heap.size) := Lib.hid (fun b hb => owns_block ho b hb)
    have HOx6 := Lib.hid ho
    clear ho
    clear hb
    go_wp2_with fail
    refine (HI.out x6 _ (owns_reads HOx6.out Hnxs0.out)).mono ?_
    rintro e w12 ⟨g7, rfl, ho, hb⟩
    have HX := Lib.hid (HX.out.next hb)
    have HOg2 := Lib.hid (owns_below HOg2.out hb)
    have HOx3 := Lib.hid (owns_below HOx3.out hb)
    have HOg4 := Lib.hid (owns_below HOg4.out hb)
    have HOx6 := Lib.hid (owns_below HOx6.out hb)
    have HMid := Lib.hid (HMid.out.trans (hb.mono HMid.out.size))
    have HZw12 : Hid (w11.heap.size ≤ w12.heap.size) := Lib.hid (hb.size)
    have HRg7 : Hid (∀ b, g7.ownBlock = some b → w11.heap.size ≤ b ∧ b < w12.heap.size) := Lib.hid (fun b hb => owns_block ho b hb)
    have HOg7 := Lib.hid ho
    clear ho
    clear hb
    clear HOx6 HRx6
    go_wp2_with fail
    refine (eqI_below g7 g2 zs _ (owns_reads HOg7.out Hnzs.out) (owns_reads HOg2.out Hnzs.out)).mono ?_
    rintro e w13 ⟨rfl, hb⟩
    have HX := Lib.hid (HX.out.next hb)
    have HOg2 := Lib.hid (owns_below HOg2.out hb)
    have HOx3 := Lib.hid (owns_below HOx3.out hb)
    have HOg4 := Lib.hid (owns_below HOg4.out hb)
    have HOg7 := Lib.hid (owns_below HOg7.out hb)
    have HMid := Lib.hid (HMid.out.trans (hb.mono HMid.out.size))
    have HZw13 : Hid (w12.heap.size ≤ w13.heap.size) := Lib.hid (hb.size)
    clear hb
    go_wp2_with fail
    refine (held_any g4 zs.length (1) _ (owns_reads (by rw [mts_len]; exact HOg4.out) (by rw [mts_len]; exact Hnzs.out)) (Hbzs.out) (by omega)).mono ?_
    rintro e w14 ⟨rfl, rfl⟩
    go_wp2_with fail
    go_ret
    exact ⟨rfl, HX.out.below⟩
set_option maxHeartbeats 800000 in
theorem law_long (v0 : Value) (xs0 : List Int) (w : World) (hv0 : ReadsI w v0 xs0) (hlong : 1048576 < xs0.length) :
    Calls Try.prog 10 #[v0] w fun e w' => e = .returned (.bool true) ∧ Below w.heap.size w w' := by
  obtain ⟨y0, c0, rfl, _, hm0, _⟩ := hv0
  unfold maxLen at hm0
  have HB := Lib.hid (Below.refl w.heap.size w)
  go_enter Try.func10, Try.ntmps10
  go_wp2_with fail
  go_ret
  exact ⟨rfl, HB.out⟩

theorem walk (v0 : Value) (xs0 : List Int) (w : World) (hv0 : ReadsI w v0 xs0) :
    Calls Try.prog 10 #[v0] w fun e w' => e = .returned (.bool true) ∧ Below w.heap.size w w' := by
  by_cases h : 1048576 < xs0.length
  · exact law_long v0 xs0 w hv0 h
  · skip
    have hlen : ((aroundR xs0)).1.length ≤ 1048576 := aroundR_len xs0
    exact law_two v0 xs0 ((aroundR xs0)).1 ((aroundR xs0)).2 hlen w hv0 (by omega) (fun u0 w h0 => spec_TurnAround u0 xs0 w h0) (fun u0 w h0 => impl_TurnAround u0 xs0 w h0)
end Go.Proofs.Ythbmiigndhoopaa.fnExactTurnAround
