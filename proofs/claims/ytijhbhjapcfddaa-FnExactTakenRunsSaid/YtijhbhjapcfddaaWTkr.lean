/-
  What is proved: the walk of the law FnExactTakenRuns: for every input impl.TakenRuns answers as the model does, its arguments read as before, and its answer is memory of its own. Conditions: none beyond the row's own.
-/
import Derived.Test.YtijhbhjapcfddaaExr
import Derived.Test.YtijhbhjapcfddaaExu
import Derived.Test.YtijhbhjapcfddaaMk3
import Derived.Test.YtijhbhjapcfddaaTbb
namespace Go.Proofs.Ytijhbhjapcfddaa.fnExactTakenRuns
open Go.RowKit
set_option linter.unusedVariables false
set_option linter.unusedSimpArgs false

set_option maxHeartbeats 3200000 in
set_option maxRecDepth 20000 in
theorem law_two (n : Int) (g : Bool) (v1 : Value) (xs1 : List Int) (v2 : Value) (xs2 : List Int) (a3 : Int) (v4 : Value) (xs4 : List Int) (a5 : Bool) (zs : List Int) (b : Bool) (hz : zs.length ≤ 1048576) (w : World) (hv1 : ReadsI w v1 xs1) (hn1 : xs1.length ≤ 1048576) (hv2 : ReadsI w v2 xs2) (hn2 : xs2.length ≤ 1048576) (hv4 : ReadsI w v4 xs4) (hn4 : xs4.length ≤ 1048576)
    (hm : ∀ (u1 : Value) (u2 : Value) (u4 : Value) (w : World), ReadsI w u1 xs1 → ReadsI w u2 xs2 → ReadsI w u4 xs4 → Calls Try.prog 34 #[rd n g, u1, u2, .int .i64 a3, u4, .bool a5] w (OwnsB w.heap.size zs b w))
    (hi : ∀ (u1 : Value) (u2 : Value) (u4 : Value) (w : World), ReadsI w u1 xs1 → ReadsI w u2 xs2 → ReadsI w u4 xs4 → Calls Try.prog 35 #[rd n g, u1, u2, .int .i64 a3, u4, .bool a5] w (OwnsB w.heap.size zs b w)) :
    Calls Try.prog 8 #[rd n g, v1, v2, .int .i64 a3, v4, .bool a5] w fun e w' => e = .returned (.bool true) ∧ Below w.heap.size w w' := by
  have HM := Lib.hid hm
  have HI := Lib.hid hi
  have HT := Lib.hid (fun w => toRoad_any n g w)
  have hnm : xs1.length ≤ maxLen := by unfold maxLen; omega
  have Hnxs1 := Lib.hid hnm
  have Hbxs1 := Lib.hid hn1
  clear hnm
  have HV1 := Lib.hid hv1
  have hnm : xs2.length ≤ maxLen := by unfold maxLen; omega
  have Hnxs2 := Lib.hid hnm
  have Hbxs2 := Lib.hid hn2
  clear hnm
  have HV2 := Lib.hid hv2
  have hnm : xs4.length ≤ maxLen := by unfold maxLen; omega
  have Hnxs4 := Lib.hid hnm
  have Hbxs4 := Lib.hid hn4
  clear hnm
  have HV4 := Lib.hid hv4
  have hnm : zs.length ≤ maxLen := by unfold maxLen; omega
  have Hnzs := Lib.hid hnm
  have Hbzs := Lib.hid hz
  clear hnm
  obtain ⟨y1, c1, hvv1, _⟩ := hv1
  subst hvv1
  obtain ⟨y2, c2, hvv2, _⟩ := hv2
  subst hvv2
  obtain ⟨y4, c4, hvv4, _⟩ := hv4
  subst hvv4
  clear hm hi
  have HX := Lib.hid (Boxed.first w n g 23)
  unfold rd at *
  go_enter Try.func8, Try.ntmps8
  go_wp2_with fail
  have HZw1 : Hid (w.heap.size + 1 ≤ (w.alloc (.cells #[.int .i64 n, .bool g] 23)).heap.size) := Lib.hid (by simp)
  generalize (w.alloc (.cells #[.int .i64 n, .bool g] 23)) = w1 at *
  have hb0 := HX.out.c0
  have hb1 := HX.out.c1
  refine (HT.out _).mono ?_
  rintro e w2 ⟨rfl, hb⟩
  clear hb0 hb1
  have HX := Lib.hid (HX.out.next hb)
  have HZw2 : Hid (w1.heap.size ≤ w2.heap.size) := Lib.hid (hb.size)
  clear hb
  have hb0 := HX.out.c0
  have hb1 := HX.out.c1
  go_wp2_with fail
  refine (toI_any (.slice y1 xs1.length c1) xs1 _ (HV1.out.below HX.out.below) hn1).mono ?_
  rintro e w3 ⟨x1, rfl, ho, hb⟩
  clear hb0 hb1
  have HX := Lib.hid (HX.out.next hb)
  have HZw3 : Hid (w2.heap.size ≤ w3.heap.size) := Lib.hid (hb.size)
  have HRx1 : Hid (∀ b, x1.ownBlock = some b → w2.heap.size ≤ b ∧ b < w3.heap.size) := Lib.hid (fun b hb => owns_block ho b hb)
  have HOx1 := Lib.hid ho
  clear ho
  clear hb
  have hb0 := HX.out.c0
  have hb1 := HX.out.c1
  go_wp2_with fail
  refine (toI_any (.slice y2 xs2.length c2) xs2 _ (HV2.out.below HX.out.below) hn2).mono ?_
  rintro e w4 ⟨x2, rfl, ho, hb⟩
  clear hb0 hb1
  have HX := Lib.hid (HX.out.next hb)
  have HOx1 := Lib.hid (owns_below HOx1.out hb)
  have HZw4 : Hid (w3.heap.size ≤ w4.heap.size) := Lib.hid (hb.size)
  have HRx2 : Hid (∀ b, x2.ownBlock = some b → w3.heap.size ≤ b ∧ b < w4.heap.size) := Lib.hid (fun b hb => owns_block ho b hb)
  have HOx2 := Lib.hid ho
  clear ho
  clear hb
  have hb0 := HX.out.c0
  have hb1 := HX.out.c1
  go_wp2_with fail
  refine (toI_any (.slice y4 xs4.length c4) xs4 _ (HV4.out.below HX.out.below) hn4).mono ?_
  rintro e w5 ⟨x3, rfl, ho, hb⟩
  clear hb0 hb1
  have HX := Lib.hid (HX.out.next hb)
  have HOx1 := Lib.hid (owns_below HOx1.out hb)
  have HOx2 := Lib.hid (owns_below HOx2.out hb)
  have HZw5 : Hid (w4.heap.size ≤ w5.heap.size) := Lib.hid (hb.size)
  have HRx3 : Hid (∀ b, x3.ownBlock = some b → w4.heap.size ≤ b ∧ b < w5.heap.size) := Lib.hid (fun b hb => owns_block ho b hb)
  have HOx3 := Lib.hid ho
  clear ho
  clear hb
  have hb0 := HX.out.c0
  have hb1 := HX.out.c1
  go_wp2_with fail
  refine (HM.out x1 x2 x3 _ (owns_reads HOx1.out Hnxs1.out) (owns_reads HOx2.out Hnxs2.out) (owns_reads HOx3.out Hnxs4.out)).mono ?_
  rintro e w6 ⟨g4, rfl, ho, hb⟩
  clear hb0 hb1
  have HX := Lib.hid (HX.out.next hb)
  have HOx1 := Lib.hid (owns_below HOx1.out hb)
  have HOx2 := Lib.hid (owns_below HOx2.out hb)
  have HOx3 := Lib.hid (owns_below HOx3.out hb)
  have HZw6 : Hid (w5.heap.size ≤ w6.heap.size) := Lib.hid (hb.size)
  have HRg4 : Hid (∀ b, g4.ownBlock = some b → w5.heap.size ≤ b ∧ b < w6.heap.size) := Lib.hid (fun b hb => owns_block ho b hb)
  have HOg4 := Lib.hid ho
  clear ho
  clear hb
  have HMid : Hid (Below w6.heap.size w6 w6) := Lib.hid (Below.refl _ _)
  have HXm := Lib.hid HX.out.size
  clear HOx1 HRx1
  clear HOx2 HRx2
  clear HOx3 HRx3
  have hb0 := HX.out.c0
  have hb1 := HX.out.c1
  go_wp2_with fail
  refine (toI_any (.slice y1 xs1.length c1) xs1 _ (HV1.out.below HX.out.below) hn1).mono ?_
  rintro e w7 ⟨x5, rfl, ho, hb⟩
  clear hb0 hb1
  have HX := Lib.hid (HX.out.next hb)
  have HOg4 := Lib.hid (owns_below HOg4.out hb)
  have HMid := Lib.hid (HMid.out.trans (hb.mono HMid.out.size))
  have HZw7 : Hid (w6.heap.size ≤ w7.heap.size) := Lib.hid (hb.size)
  have HRx5 : Hid (∀ b, x5.ownBlock = some b → w6.heap.size ≤ b ∧ b < w7.heap.size) := Lib.hid (fun b hb => owns_block ho b hb)
  have HOx5 := Lib.hid ho
  clear ho
  clear hb
  have hb0 := HX.out.c0
  have hb1 := HX.out.c1
  go_wp2_with fail
  refine (toI_any (.slice y2 xs2.length c2) xs2 _ (HV2.out.below HX.out.below) hn2).mono ?_
  rintro e w8 ⟨x6, rfl, ho, hb⟩
  clear hb0 hb1
  have HX := Lib.hid (HX.out.next hb)
  have HOg4 := Lib.hid (owns_below HOg4.out hb)
  have HOx5 := Lib.hid (owns_below HOx5.out hb)
  have HMid := Lib.hid (HMid.out.trans (hb.mono HMid.out.size))
  have HZw8 : Hid (w7.heap.size ≤ w8.heap.size) := Lib.hid (hb.size)
  have HRx6 : Hid (∀ b, x6.ownBlock = some b → w7.heap.size ≤ b ∧ b < w8.heap.size) := Lib.hid (fun b hb => owns_block ho b hb)
  have HOx6 := Lib.hid ho
  clear ho
  clear hb
  have hb0 := HX.out.c0
  have hb1 := HX.out.c1
  go_wp2_with fail
  refine (toI_any (.slice y4 xs4.length c4) xs4 _ (HV4.out.below HX.out.below) hn4).mono ?_
  rintro e w9 ⟨x7, rfl, ho, hb⟩
  clear hb0 hb1
  have HX := Lib.hid (HX.out.next hb)
  have HOg4 := Lib.hid (owns_below HOg4.out hb)
  have HOx5 := Lib.hid (owns_below HOx5.out hb)
  have HOx6 := Lib.hid (owns_below HOx6.out hb)
  have HMid := Lib.hid (HMid.out.trans (hb.mono HMid.out.size))
  have HZw9 : Hid (w8.heap.size ≤ w9.heap.size) := Lib.hid (hb.size)
  have HRx7 : Hid (∀ b, x7.ownBlock = some b → w8.heap.size ≤ b ∧ b < w9.heap.size) := Lib.hid (fun b hb => owns_block ho b hb)
  have HOx7 := Lib.hid ho
  clear ho
  clear hb
  have hb0 := HX.out.c0
  have hb1 := HX.out.c1
  go_wp2_with fail
  refine (HT.out _).mono ?_
  rintro e w10 ⟨rfl, hb⟩
  clear hb0 hb1
  have HX := Lib.hid (HX.out.next hb)
  have HOg4 := Lib.hid (owns_below HOg4.out hb)
  have HOx5 := Lib.hid (owns_below HOx5.out hb)
  have HOx6 := Lib.hid (owns_below HOx6.out hb)
  have HOx7 := Lib.hid (owns_below HOx7.out hb)
  have HMid := Lib.hid (HMid.out.trans (hb.mono HMid.out.size))
  have HZw10 : Hid (w9.heap.size ≤ w10.heap.size) := Lib.hid (hb.size)
  clear hb
  have hb0 := HX.out.c0
  have hb1 := HX.out.c1
  go_wp2_with fail
  refine (HI.out x5 x6 x7 _ (owns_reads HOx5.out Hnxs1.out) (owns_reads HOx6.out Hnxs2.out) (owns_reads HOx7.out Hnxs4.out)).mono ?_
  rintro e w11 ⟨g8, rfl, ho, hb⟩
  clear hb0 hb1
  have HX := Lib.hid (HX.out.next hb)
  have HOg4 := Lib.hid (owns_below HOg4.out hb)
  have HOx5 := Lib.hid (owns_below HOx5.out hb)
  have HOx6 := Lib.hid (owns_below HOx6.out hb)
  have HOx7 := Lib.hid (owns_below HOx7.out hb)
  have HMid := Lib.hid (HMid.out.trans (hb.mono HMid.out.size))
  have HZw11 : Hid (w10.heap.size ≤ w11.heap.size) := Lib.hid (hb.size)
  have HRg8 : Hid (∀ b, g8.ownBlock = some b → w10.heap.size ≤ b ∧ b < w11.heap.size) := Lib.hid (fun b hb => owns_block ho b hb)
  have HOg8 := Lib.hid ho
  clear ho
  clear hb
  cases b
  all_goals
    have hb0 := HX.out.c0
    have hb1 := HX.out.c1
    go_wp2_with fail
    refine (eqI_below g8 g4 zs _ (owns_reads HOg8.out Hnzs.out) (owns_reads HOg4.out Hnzs.out)).mono ?_
    rintro e w12 ⟨rfl, hb⟩
    clear hb0 hb1
    have HX := Lib.hid (HX.out.next hb)
    have HOg4 := Lib.hid (owns_below HOg4.out hb)
    have HOx5 := Lib.hid (owns_below HOx5.out hb)
    have HOx6 := Lib.hid (owns_below HOx6.out hb)
    have HOx7 := Lib.hid (owns_below HOx7.out hb)
    have HOg8 := Lib.hid (owns_below HOg8.out hb)
    have HMid := Lib.hid (HMid.out.trans (hb.mono HMid.out.size))
    have HZw12 : Hid (w11.heap.size ≤ w12.heap.size) := Lib.hid (hb.size)
    clear hb
    have hb0 := HX.out.c0
    have hb1 := HX.out.c1
    go_wp2_with fail
    refine (toI_any (.slice y1 xs1.length c1) xs1 _ (HV1.out.below HX.out.below) hn1).mono ?_
    rintro e w13 ⟨x9, rfl, ho, hb⟩
    clear hb0 hb1
    have HX := Lib.hid (HX.out.next hb)
    have HOg4 := Lib.hid (owns_below HOg4.out hb)
    have HOx5 := Lib.hid (owns_below HOx5.out hb)
    have HOx6 := Lib.hid (owns_below HOx6.out hb)
    have HOx7 := Lib.hid (owns_below HOx7.out hb)
    have HOg8 := Lib.hid (owns_below HOg8.out hb)
    have HMid := Lib.hid (HMid.out.trans (hb.mono HMid.out.size))
    have HZw13 : Hid (w12.heap.size ≤ w13.heap.size) := Lib.hid (hb.size)
    have HRx9 : Hid (∀ b, x9.ownBlock = some b → w12.heap.size ≤ b ∧ b < w13.heap.size) := Lib.hid (fun b hb => owns_block ho b hb)
    have HOx9 := Lib.hid ho
    clear ho
    clear hb
    have hb0 := HX.out.c0
    have hb1 := HX.out.c1
    go_wp2_with fail
    refine (eqI_below x5 x9 xs1 _ (owns_reads HOx5.out Hnxs1.out) (owns_reads HOx9.out Hnxs1.out)).mono ?_
    rintro e w14 ⟨rfl, hb⟩
    clear hb0 hb1
    have HX := Lib.hid (HX.out.next hb)
    have HOg4 := Lib.hid (owns_below HOg4.out hb)
    have HOx5 := Lib.hid (owns_below HOx5.out hb)
    have HOx6 := Lib.hid (owns_below HOx6.out hb)
    have HOx7 := Lib.hid (owns_below HOx7.out hb)
    have HOg8 := Lib.hid (owns_below HOg8.out hb)
    have HOx9 := Lib.hid (owns_below HOx9.out hb)
    have HMid := Lib.hid (HMid.out.trans (hb.mono HMid.out.size))
    have HZw14 : Hid (w13.heap.size ≤ w14.heap.size) := Lib.hid (hb.size)
    clear hb
    clear HOx9 HRx9
    have hb0 := HX.out.c0
    have hb1 := HX.out.c1
    go_wp2_with fail
    refine (toI_any (.slice y2 xs2.length c2) xs2 _ (HV2.out.below HX.out.below) hn2).mono ?_
    rintro e w15 ⟨x10, rfl, ho, hb⟩
    clear hb0 hb1
    have HX := Lib.hid (HX.out.next hb)
    have HOg4 := Lib.hid (owns_below HOg4.out hb)
    have HOx5 := Lib.hid (owns_below HOx5.out hb)
    have HOx6 := Lib.hid (owns_below HOx6.out hb)
    have HOx7 := Lib.hid (owns_below HOx7.out hb)
    have HOg8 := Lib.hid (owns_below HOg8.out hb)
    have HMid := Lib.hid (HMid.out.trans (hb.mono HMid.out.size))
    have HZw15 : Hid (w14.heap.size ≤ w15.heap.size) := Lib.hid (hb.size)
    have HRx10 : Hid (∀ b, x10.ownBlock = some b → w14.heap.size ≤ b ∧ b < w15.heap.size) := Lib.hid (fun b hb => owns_block ho b hb)
    have HOx10 := Lib.hid ho
    clear ho
    clear hb
    have hb0 := HX.out.c0
    have hb1 := HX.out.c1
    go_wp2_with fail
    refine (eqI_below x6 x10 xs2 _ (owns_reads HOx6.out Hnxs2.out) (owns_reads HOx10.out Hnxs2.out)).mono ?_
    rintro e w16 ⟨rfl, hb⟩
    clear hb0 hb1
    have HX := Lib.hid (HX.out.next hb)
    have HOg4 := Lib.hid (owns_below HOg4.out hb)
    have HOx5 := Lib.hid (owns_below HOx5.out hb)
    have HOx6 := Lib.hid (owns_below HOx6.out hb)
    have HOx7 := Lib.hid (owns_below HOx7.out hb)
    have HOg8 := Lib.hid (owns_below HOg8.out hb)
    have HOx10 := Lib.hid (owns_below HOx10.out hb)
    have HMid := Lib.hid (HMid.out.trans (hb.mono HMid.out.size))
    have HZw16 : Hid (w15.heap.size ≤ w16.heap.size) := Lib.hid (hb.size)
    clear hb
    clear HOx10 HRx10
    have hb0 := HX.out.c0
    have hb1 := HX.out.c1
    go_wp2_with fail
    refine (toI_any (.slice y4 xs4.length c4) xs4 _ (HV4.out.below HX.out.below) hn4).mono ?_
    rintro e w17 ⟨x11, rfl, ho, hb⟩
    clear hb0 hb1
    have HX := Lib.hid (HX.out.next hb)
    have HOg4 := Lib.hid (owns_below HOg4.out hb)
    have HOx5 := Lib.hid (owns_below HOx5.out hb)
    have HOx6 := Lib.hid (owns_below HOx6.out hb)
    have HOx7 := Lib.hid (owns_below HOx7.out hb)
    have HOg8 := Lib.hid (owns_below HOg8.out hb)
    have HMid := Lib.hid (HMid.out.trans (hb.mono HMid.out.size))
    have HZw17 : Hid (w16.heap.size ≤ w17.heap.size) := Lib.hid (hb.size)
    have HRx11 : Hid (∀ b, x11.ownBlock = some b → w16.heap.size ≤ b ∧ b < w17.heap.size) := Lib.hid (fun b hb => owns_block ho b hb)
    have HOx11 := Lib.hid ho
    clear ho
    clear hb
    have hb0 := HX.out.c0
    have hb1 := HX.out.c1
    go_wp2_with fail
    refine (eqI_below x7 x11 xs4 _ (owns_reads HOx7.out Hnxs4.out) (owns_reads HOx11.out Hnxs4.out)).mono ?_
    rintro e w18 ⟨rfl, hb⟩
    clear hb0 hb1
    have HX := Lib.hid (HX.out.next hb)
    have HOg4 := Lib.hid (owns_below HOg4.out hb)
    have HOx5 := Lib.hid (owns_below HOx5.out hb)
    have HOx6 := Lib.hid (owns_below HOx6.out hb)
    have HOx7 := Lib.hid (owns_below HOx7.out hb)
    have HOg8 := Lib.hid (owns_below HOg8.out hb)
    have HOx11 := Lib.hid (owns_below HOx11.out hb)
    have HMid := Lib.hid (HMid.out.trans (hb.mono HMid.out.size))
    have HZw18 : Hid (w17.heap.size ≤ w18.heap.size) := Lib.hid (hb.size)
    clear hb
    clear HOx11 HRx11
    have hb0 := HX.out.c0
    have hb1 := HX.out.c1
    go_wp2_with fail
    refine (mark_list x5 xs1 _ (1) _ HOx5.out (Hbxs1.out) (by omega)).mono ?_
    rintro e w19 ⟨rfl, hg, ho⟩
    clear hb0 hb1
    have hch : ChgIn (w6.heap.size) (w7.heap.size) w18 w19 := ChgIn.of_grown hg HRx5.out
    have hbM : Below w6.heap.size w18 w19 := hch.below (by have z0 := HZw1.out; have z1 := HZw2.out; have z2 := HZw3.out; have z3 := HZw4.out; have z4 := HZw5.out; have z5 := HZw6.out; have z6 := HZw7.out; have z7 := HZw8.out; have z8 := HZw9.out; have z9 := HZw10.out; have z10 := HZw11.out; have z11 := HZw12.out; have z12 := HZw13.out; have z13 := HZw14.out; have z14 := HZw15.out; have z15 := HZw16.out; have z16 := HZw17.out; have z17 := HZw18.out; omega) HMid.out.size
    have HX := Lib.hid (HX.out.nextAt HXm.out hbM)
    have HMid := Lib.hid (HMid.out.trans hbM)
    have HOg4 := Lib.hid (row_chg HOg4.out hch (fun b h => by have l := HRg4.out b h; have z0 := HZw1.out; have z1 := HZw2.out; have z2 := HZw3.out; have z3 := HZw4.out; have z4 := HZw5.out; have z5 := HZw6.out; have z6 := HZw7.out; have z7 := HZw8.out; have z8 := HZw9.out; have z9 := HZw10.out; have z10 := HZw11.out; have z11 := HZw12.out; have z12 := HZw13.out; have z13 := HZw14.out; have z14 := HZw15.out; have z15 := HZw16.out; have z16 := HZw17.out; have z17 := HZw18.out; omega))
    have HOx6 := Lib.hid (row_chg HOx6.out hch (fun b h => by have l := HRx6.out b h; have z0 := HZw1.out; have z1 := HZw2.out; have z2 := HZw3.out; have z3 := HZw4.out; have z4 := HZw5.out; have z5 := HZw6.out; have z6 := HZw7.out; have z7 := HZw8.out; have z8 := HZw9.out; have z9 := HZw10.out; have z10 := HZw11.out; have z11 := HZw12.out; have z12 := HZw13.out; have z13 := HZw14.out; have z14 := HZw15.out; have z15 := HZw16.out; have z16 := HZw17.out; have z17 := HZw18.out; omega))
    have HOx7 := Lib.hid (row_chg HOx7.out hch (fun b h => by have l := HRx7.out b h; have z0 := HZw1.out; have z1 := HZw2.out; have z2 := HZw3.out; have z3 := HZw4.out; have z4 := HZw5.out; have z5 := HZw6.out; have z6 := HZw7.out; have z7 := HZw8.out; have z8 := HZw9.out; have z9 := HZw10.out; have z10 := HZw11.out; have z11 := HZw12.out; have z12 := HZw13.out; have z13 := HZw14.out; have z14 := HZw15.out; have z15 := HZw16.out; have z16 := HZw17.out; have z17 := HZw18.out; omega))
    have HOg8 := Lib.hid (row_chg HOg8.out hch (fun b h => by have l := HRg8.out b h; have z0 := HZw1.out; have z1 := HZw2.out; have z2 := HZw3.out; have z3 := HZw4.out; have z4 := HZw5.out; have z5 := HZw6.out; have z6 := HZw7.out; have z7 := HZw8.out; have z8 := HZw9.out; have z9 := HZw10.out; have z10 := HZw11.out; have z11 := HZw12.out; have z12 := HZw13.out; have z13 := HZw14.out; have z14 := HZw15.out; have z15 := HZw16.out; have z16 := HZw17.out; have z17 := HZw18.out; omega))
    have HOx5 := Lib.hid ho
    have HZw19 : Hid (w18.heap.size ≤ w19.heap.size) := Lib.hid hch.size
    clear hch ho hbM hg
    have hb0 := HX.out.c0
    have hb1 := HX.out.c1
    go_wp2_with fail
    refine (mark_list x6 xs2 _ (1 + xs1.length) _ HOx6.out (Hbxs2.out) (by omega)).mono ?_
    rintro e w20 ⟨rfl, hg, ho⟩
    clear hb0 hb1
    have hch : ChgIn (w7.heap.size) (w8.heap.size) w19 w20 := ChgIn.of_grown hg HRx6.out
    have hbM : Below w6.heap.size w19 w20 := hch.below (by have z0 := HZw1.out; have z1 := HZw2.out; have z2 := HZw3.out; have z3 := HZw4.out; have z4 := HZw5.out; have z5 := HZw6.out; have z6 := HZw7.out; have z7 := HZw8.out; have z8 := HZw9.out; have z9 := HZw10.out; have z10 := HZw11.out; have z11 := HZw12.out; have z12 := HZw13.out; have z13 := HZw14.out; have z14 := HZw15.out; have z15 := HZw16.out; have z16 := HZw17.out; have z17 := HZw18.out; have z18 := HZw19.out; omega) HMid.out.size
    have HX := Lib.hid (HX.out.nextAt HXm.out hbM)
    have HMid := Lib.hid (HMid.out.trans hbM)
    have HOg4 := Lib.hid (row_chg HOg4.out hch (fun b h => by have l := HRg4.out b h; have z0 := HZw1.out; have z1 := HZw2.out; have z2 := HZw3.out; have z3 := HZw4.out; have z4 := HZw5.out; have z5 := HZw6.out; have z6 := HZw7.out; have z7 := HZw8.out; have z8 := HZw9.out; have z9 := HZw10.out; have z10 := HZw11.out; have z11 := HZw12.out; have z12 := HZw13.out; have z13 := HZw14.out; have z14 := HZw15.out; have z15 := HZw16.out; have z16 := HZw17.out; have z17 := HZw18.out; have z18 := HZw19.out; omega))
    have HOx5 := Lib.hid (row_chg HOx5.out hch (fun b h => by have l := HRx5.out b h; have z0 := HZw1.out; have z1 := HZw2.out; have z2 := HZw3.out; have z3 := HZw4.out; have z4 := HZw5.out; have z5 := HZw6.out; have z6 := HZw7.out; have z7 := HZw8.out; have z8 := HZw9.out; have z9 := HZw10.out; have z10 := HZw11.out; have z11 := HZw12.out; have z12 := HZw13.out; have z13 := HZw14.out; have z14 := HZw15.out; have z15 := HZw16.out; have z16 := HZw17.out; have z17 := HZw18.out; have z18 := HZw19.out; omega))
    have HOx7 := Lib.hid (row_chg HOx7.out hch (fun b h => by have l := HRx7.out b h; have z0 := HZw1.out; have z1 := HZw2.out; have z2 := HZw3.out; have z3 := HZw4.out; have z4 := HZw5.out; have z5 := HZw6.out; have z6 := HZw7.out; have z7 := HZw8.out; have z8 := HZw9.out; have z9 := HZw10.out; have z10 := HZw11.out; have z11 := HZw12.out; have z12 := HZw13.out; have z13 := HZw14.out; have z14 := HZw15.out; have z15 := HZw16.out; have z16 := HZw17.out; have z17 := HZw18.out; have z18 := HZw19.out; omega))
    have HOg8 := Lib.hid (row_chg HOg8.out hch (fun b h => by have l := HRg8.out b h; have z0 := HZw1.out; have z1 := HZw2.out; have z2 := HZw3.out; have z3 := HZw4.out; have z4 := HZw5.out; have z5 := HZw6.out; have z6 := HZw7.out; have z7 := HZw8.out; have z8 := HZw9.out; have z9 := HZw10.out; have z10 := HZw11.out; have z11 := HZw12.out; have z12 := HZw13.out; have z13 := HZw14.out; have z14 := HZw15.out; have z15 := HZw16.out; have z16 := HZw17.out; have z17 := HZw18.out; have z18 := HZw19.out; omega))
    have HOx6 := Lib.hid ho
    have HZw20 : Hid (w19.heap.size ≤ w20.heap.size) := Lib.hid hch.size
    clear hch ho hbM hg
    have hb0 := HX.out.c0
    have hb1 := HX.out.c1
    go_wp2_with fail
    refine (mark_list3 x7 xs4 _ (1 + xs1.length + xs2.length) _ HOx7.out (Hbxs4.out) (by omega)).mono ?_
    rintro e w21 ⟨rfl, hg, ho⟩
    clear hb0 hb1
    have hch : ChgIn (w8.heap.size) (w9.heap.size) w20 w21 := ChgIn.of_grown hg HRx7.out
    have hbM : Below w6.heap.size w20 w21 := hch.below (by have z0 := HZw1.out; have z1 := HZw2.out; have z2 := HZw3.out; have z3 := HZw4.out; have z4 := HZw5.out; have z5 := HZw6.out; have z6 := HZw7.out; have z7 := HZw8.out; have z8 := HZw9.out; have z9 := HZw10.out; have z10 := HZw11.out; have z11 := HZw12.out; have z12 := HZw13.out; have z13 := HZw14.out; have z14 := HZw15.out; have z15 := HZw16.out; have z16 := HZw17.out; have z17 := HZw18.out; have z18 := HZw19.out; have z19 := HZw20.out; omega) HMid.out.size
    have HX := Lib.hid (HX.out.nextAt HXm.out hbM)
    have HMid := Lib.hid (HMid.out.trans hbM)
    have HOg4 := Lib.hid (row_chg HOg4.out hch (fun b h => by have l := HRg4.out b h; have z0 := HZw1.out; have z1 := HZw2.out; have z2 := HZw3.out; have z3 := HZw4.out; have z4 := HZw5.out; have z5 := HZw6.out; have z6 := HZw7.out; have z7 := HZw8.out; have z8 := HZw9.out; have z9 := HZw10.out; have z10 := HZw11.out; have z11 := HZw12.out; have z12 := HZw13.out; have z13 := HZw14.out; have z14 := HZw15.out; have z15 := HZw16.out; have z16 := HZw17.out; have z17 := HZw18.out; have z18 := HZw19.out; have z19 := HZw20.out; omega))
    have HOx5 := Lib.hid (row_chg HOx5.out hch (fun b h => by have l := HRx5.out b h; have z0 := HZw1.out; have z1 := HZw2.out; have z2 := HZw3.out; have z3 := HZw4.out; have z4 := HZw5.out; have z5 := HZw6.out; have z6 := HZw7.out; have z7 := HZw8.out; have z8 := HZw9.out; have z9 := HZw10.out; have z10 := HZw11.out; have z11 := HZw12.out; have z12 := HZw13.out; have z13 := HZw14.out; have z14 := HZw15.out; have z15 := HZw16.out; have z16 := HZw17.out; have z17 := HZw18.out; have z18 := HZw19.out; have z19 := HZw20.out; omega))
    have HOx6 := Lib.hid (row_chg HOx6.out hch (fun b h => by have l := HRx6.out b h; have z0 := HZw1.out; have z1 := HZw2.out; have z2 := HZw3.out; have z3 := HZw4.out; have z4 := HZw5.out; have z5 := HZw6.out; have z6 := HZw7.out; have z7 := HZw8.out; have z8 := HZw9.out; have z9 := HZw10.out; have z10 := HZw11.out; have z11 := HZw12.out; have z12 := HZw13.out; have z13 := HZw14.out; have z14 := HZw15.out; have z15 := HZw16.out; have z16 := HZw17.out; have z17 := HZw18.out; have z18 := HZw19.out; have z19 := HZw20.out; omega))
    have HOg8 := Lib.hid (row_chg HOg8.out hch (fun b h => by have l := HRg8.out b h; have z0 := HZw1.out; have z1 := HZw2.out; have z2 := HZw3.out; have z3 := HZw4.out; have z4 := HZw5.out; have z5 := HZw6.out; have z6 := HZw7.out; have z7 := HZw8.out; have z8 := HZw9.out; have z9 := HZw10.out; have z10 := HZw11.out; have z11 := HZw12.out; have z12 := HZw13.out; have z13 := HZw14.out; have z14 := HZw15.out; have z15 := HZw16.out; have z16 := HZw17.out; have z17 := HZw18.out; have z18 := HZw19.out; have z19 := HZw20.out; omega))
    have HOx7 := Lib.hid ho
    have HZw21 : Hid (w20.heap.size ≤ w21.heap.size) := Lib.hid hch.size
    clear hch ho hbM hg
    have hb0 := HX.out.c0
    have hb1 := HX.out.c1
    go_wp2_with fail
    refine (eqI_below g8 g4 zs _ (owns_reads HOg8.out Hnzs.out) (owns_reads HOg4.out Hnzs.out)).mono ?_
    rintro e w22 ⟨rfl, hb⟩
    clear hb0 hb1
    have HX := Lib.hid (HX.out.next hb)
    have HOg4 := Lib.hid (owns_below HOg4.out hb)
    have HOx5 := Lib.hid (owns_below HOx5.out hb)
    have HOx6 := Lib.hid (owns_below HOx6.out hb)
    have HOx7 := Lib.hid (owns_below HOx7.out hb)
    have HOg8 := Lib.hid (owns_below HOg8.out hb)
    have HMid := Lib.hid (HMid.out.trans (hb.mono HMid.out.size))
    have HZw22 : Hid (w21.heap.size ≤ w22.heap.size) := Lib.hid (hb.size)
    clear hb
    have hb0 := HX.out.c0
    have hb1 := HX.out.c1
    go_wp2_with fail
    refine (mark_list g8 zs _ (1) _ HOg8.out (Hbzs.out) (by omega)).mono ?_
    rintro e w23 ⟨rfl, hg, ho⟩
    clear hb0 hb1
    have hch : ChgIn (w10.heap.size) (w11.heap.size) w22 w23 := ChgIn.of_grown hg HRg8.out
    have hbM : Below w6.heap.size w22 w23 := hch.below (by have z0 := HZw1.out; have z1 := HZw2.out; have z2 := HZw3.out; have z3 := HZw4.out; have z4 := HZw5.out; have z5 := HZw6.out; have z6 := HZw7.out; have z7 := HZw8.out; have z8 := HZw9.out; have z9 := HZw10.out; have z10 := HZw11.out; have z11 := HZw12.out; have z12 := HZw13.out; have z13 := HZw14.out; have z14 := HZw15.out; have z15 := HZw16.out; have z16 := HZw17.out; have z17 := HZw18.out; have z18 := HZw19.out; have z19 := HZw20.out; have z20 := HZw21.out; have z21 := HZw22.out; omega) HMid.out.size
    have HX := Lib.hid (HX.out.nextAt HXm.out hbM)
    have HMid := Lib.hid (HMid.out.trans hbM)
    have HOg4 := Lib.hid (row_chg HOg4.out hch (fun b h => by have l := HRg4.out b h; have z0 := HZw1.out; have z1 := HZw2.out; have z2 := HZw3.out; have z3 := HZw4.out; have z4 := HZw5.out; have z5 := HZw6.out; have z6 := HZw7.out; have z7 := HZw8.out; have z8 := HZw9.out; have z9 := HZw10.out; have z10 := HZw11.out; have z11 := HZw12.out; have z12 := HZw13.out; have z13 := HZw14.out; have z14 := HZw15.out; have z15 := HZw16.out; have z16 := HZw17.out; have z17 := HZw18.out; have z18 := HZw19.out; have z19 := HZw20.out; have z20 := HZw21.out; have z21 := HZw22.out; omega))
    have HOx5 := Lib.hid (row_chg HOx5.out hch (fun b h => by have l := HRx5.out b h; have z0 := HZw1.out; have z1 := HZw2.out; have z2 := HZw3.out; have z3 := HZw4.out; have z4 := HZw5.out; have z5 := HZw6.out; have z6 := HZw7.out; have z7 := HZw8.out; have z8 := HZw9.out; have z9 := HZw10.out; have z10 := HZw11.out; have z11 := HZw12.out; have z12 := HZw13.out; have z13 := HZw14.out; have z14 := HZw15.out; have z15 := HZw16.out; have z16 := HZw17.out; have z17 := HZw18.out; have z18 := HZw19.out; have z19 := HZw20.out; have z20 := HZw21.out; have z21 := HZw22.out; omega))
    have HOx6 := Lib.hid (row_chg HOx6.out hch (fun b h => by have l := HRx6.out b h; have z0 := HZw1.out; have z1 := HZw2.out; have z2 := HZw3.out; have z3 := HZw4.out; have z4 := HZw5.out; have z5 := HZw6.out; have z6 := HZw7.out; have z7 := HZw8.out; have z8 := HZw9.out; have z9 := HZw10.out; have z10 := HZw11.out; have z11 := HZw12.out; have z12 := HZw13.out; have z13 := HZw14.out; have z14 := HZw15.out; have z15 := HZw16.out; have z16 := HZw17.out; have z17 := HZw18.out; have z18 := HZw19.out; have z19 := HZw20.out; have z20 := HZw21.out; have z21 := HZw22.out; omega))
    have HOx7 := Lib.hid (row_chg HOx7.out hch (fun b h => by have l := HRx7.out b h; have z0 := HZw1.out; have z1 := HZw2.out; have z2 := HZw3.out; have z3 := HZw4.out; have z4 := HZw5.out; have z5 := HZw6.out; have z6 := HZw7.out; have z7 := HZw8.out; have z8 := HZw9.out; have z9 := HZw10.out; have z10 := HZw11.out; have z11 := HZw12.out; have z12 := HZw13.out; have z13 := HZw14.out; have z14 := HZw15.out; have z15 := HZw16.out; have z16 := HZw17.out; have z17 := HZw18.out; have z18 := HZw19.out; have z19 := HZw20.out; have z20 := HZw21.out; have z21 := HZw22.out; omega))
    have HOg8 := Lib.hid ho
    have HZw23 : Hid (w22.heap.size ≤ w23.heap.size) := Lib.hid hch.size
    clear hch ho hbM hg
    have hb0 := HX.out.c0
    have hb1 := HX.out.c1
    go_wp2_with fail
    refine (held_any g8 zs.length (1) _ (owns_reads (by rw [mts_len]; exact HOg8.out) (by rw [mts_len]; exact Hnzs.out)) (Hbzs.out) (by omega)).mono ?_
    rintro e w24 ⟨rfl, rfl⟩
    go_wp2_with fail
    refine (HT.out _).mono ?_
    rintro e w24 ⟨rfl, hb⟩
    clear hb0 hb1
    have HX := Lib.hid (HX.out.next hb)
    have HOg4 := Lib.hid (owns_below HOg4.out hb)
    have HOx5 := Lib.hid (owns_below HOx5.out hb)
    have HOx6 := Lib.hid (owns_below HOx6.out hb)
    have HOx7 := Lib.hid (owns_below HOx7.out hb)
    have HOg8 := Lib.hid (owns_below HOg8.out hb)
    have HMid := Lib.hid (HMid.out.trans (hb.mono HMid.out.size))
    have HZw24 : Hid (w23.heap.size ≤ w24.heap.size) := Lib.hid (hb.size)
    clear hb
    have hb0 := HX.out.c0
    have hb1 := HX.out.c1
    go_wp2_with fail
    refine (toI_any (.slice y1 xs1.length c1) xs1 _ (HV1.out.below HX.out.below) hn1).mono ?_
    rintro e w25 ⟨x12, rfl, ho, hb⟩
    clear hb0 hb1
    have HX := Lib.hid (HX.out.next hb)
    have HOg4 := Lib.hid (owns_below HOg4.out hb)
    have HOx5 := Lib.hid (owns_below HOx5.out hb)
    have HOx6 := Lib.hid (owns_below HOx6.out hb)
    have HOx7 := Lib.hid (owns_below HOx7.out hb)
    have HOg8 := Lib.hid (owns_below HOg8.out hb)
    have HMid := Lib.hid (HMid.out.trans (hb.mono HMid.out.size))
    have HZw25 : Hid (w24.heap.size ≤ w25.heap.size) := Lib.hid (hb.size)
    have HRx12 : Hid (∀ b, x12.ownBlock = some b → w24.heap.size ≤ b ∧ b < w25.heap.size) := Lib.hid (fun b hb => owns_block ho b hb)
    have HOx12 := Lib.hid ho
    clear ho
    clear hb
    have hb0 := HX.out.c0
    have hb1 := HX.out.c1
    go_wp2_with fail
    refine (toI_any (.slice y2 xs2.length c2) xs2 _ (HV2.out.below HX.out.below) hn2).mono ?_
    rintro e w26 ⟨x13, rfl, ho, hb⟩
    clear hb0 hb1
    have HX := Lib.hid (HX.out.next hb)
    have HOg4 := Lib.hid (owns_below HOg4.out hb)
    have HOx5 := Lib.hid (owns_below HOx5.out hb)
    have HOx6 := Lib.hid (owns_below HOx6.out hb)
    have HOx7 := Lib.hid (owns_below HOx7.out hb)
    have HOg8 := Lib.hid (owns_below HOg8.out hb)
    have HOx12 := Lib.hid (owns_below HOx12.out hb)
    have HMid := Lib.hid (HMid.out.trans (hb.mono HMid.out.size))
    have HZw26 : Hid (w25.heap.size ≤ w26.heap.size) := Lib.hid (hb.size)
    have HRx13 : Hid (∀ b, x13.ownBlock = some b → w25.heap.size ≤ b ∧ b < w26.heap.size) := Lib.hid (fun b hb => owns_block ho b hb)
    have HOx13 := Lib.hid ho
    clear ho
    clear hb
    have hb0 := HX.out.c0
    have hb1 := HX.out.c1
    go_wp2_with fail
    refine (toI_any (.slice y4 xs4.length c4) xs4 _ (HV4.out.below HX.out.below) hn4).mono ?_
    rintro e w27 ⟨x14, rfl, ho, hb⟩
    clear hb0 hb1
    have HX := Lib.hid (HX.out.next hb)
    have HOg4 := Lib.hid (owns_below HOg4.out hb)
    have HOx5 := Lib.hid (owns_below HOx5.out hb)
    have HOx6 := Lib.hid (owns_below HOx6.out hb)
    have HOx7 := Lib.hid (owns_below HOx7.out hb)
    have HOg8 := Lib.hid (owns_below HOg8.out hb)
    have HOx12 := Lib.hid (owns_below HOx12.out hb)
    have HOx13 := Lib.hid (owns_below HOx13.out hb)
    have HMid := Lib.hid (HMid.out.trans (hb.mono HMid.out.size))
    have HZw27 : Hid (w26.heap.size ≤ w27.heap.size) := Lib.hid (hb.size)
    have HRx14 : Hid (∀ b, x14.ownBlock = some b → w26.heap.size ≤ b ∧ b < w27.heap.size) := Lib.hid (fun b hb => owns_block ho b hb)
    have HOx14 := Lib.hid ho
    clear ho
    clear hb
    have hb0 := HX.out.c0
    have hb1 := HX.out.c1
    go_wp2_with fail
    refine (HI.out x12 x13 x14 _ (owns_reads HOx12.out Hnxs1.out) (owns_reads HOx13.out Hnxs2.out) (owns_reads HOx14.out Hnxs4.out)).mono ?_
    rintro e w28 ⟨g15, rfl, ho, hb⟩
    clear hb0 hb1
    have HX := Lib.hid (HX.out.next hb)
    have HOg4 := Lib.hid (owns_below HOg4.out hb)
    have HOx5 := Lib.hid (owns_below HOx5.out hb)
    have HOx6 := Lib.hid (owns_below HOx6.out hb)
    have HOx7 := Lib.hid (owns_below HOx7.out hb)
    have HOg8 := Lib.hid (owns_below HOg8.out hb)
    have HOx12 := Lib.hid (owns_below HOx12.out hb)
    have HOx13 := Lib.hid (owns_below HOx13.out hb)
    have HOx14 := Lib.hid (owns_below HOx14.out hb)
    have HMid := Lib.hid (HMid.out.trans (hb.mono HMid.out.size))
    have HZw28 : Hid (w27.heap.size ≤ w28.heap.size) := Lib.hid (hb.size)
    have HRg15 : Hid (∀ b, g15.ownBlock = some b → w27.heap.size ≤ b ∧ b < w28.heap.size) := Lib.hid (fun b hb => owns_block ho b hb)
    have HOg15 := Lib.hid ho
    clear ho
    clear hb
    clear HOx12 HRx12
    clear HOx13 HRx13
    clear HOx14 HRx14
    have hb0 := HX.out.c0
    have hb1 := HX.out.c1
    go_wp2_with fail
    refine (eqI_below g15 g4 zs _ (owns_reads HOg15.out Hnzs.out) (owns_reads HOg4.out Hnzs.out)).mono ?_
    rintro e w29 ⟨rfl, hb⟩
    clear hb0 hb1
    have HX := Lib.hid (HX.out.next hb)
    have HOg4 := Lib.hid (owns_below HOg4.out hb)
    have HOx5 := Lib.hid (owns_below HOx5.out hb)
    have HOx6 := Lib.hid (owns_below HOx6.out hb)
    have HOx7 := Lib.hid (owns_below HOx7.out hb)
    have HOg8 := Lib.hid (owns_below HOg8.out hb)
    have HOg15 := Lib.hid (owns_below HOg15.out hb)
    have HMid := Lib.hid (HMid.out.trans (hb.mono HMid.out.size))
    have HZw29 : Hid (w28.heap.size ≤ w29.heap.size) := Lib.hid (hb.size)
    clear hb
    have hb0 := HX.out.c0
    have hb1 := HX.out.c1
    go_wp2_with fail
    refine (held_any g8 zs.length (1) _ (owns_reads (by rw [mts_len]; exact HOg8.out) (by rw [mts_len]; exact Hnzs.out)) (Hbzs.out) (by omega)).mono ?_
    rintro e w30 ⟨rfl, rfl⟩
    go_wp2_with fail
    go_ret
    exact ⟨rfl, HX.out.below⟩
set_option maxHeartbeats 800000 in
theorem law_long (n : Int) (g : Bool) (v1 : Value) (xs1 : List Int) (v2 : Value) (xs2 : List Int) (a3 : Int) (v4 : Value) (xs4 : List Int) (a5 : Bool) (w : World) (hv1 : ReadsI w v1 xs1) (hv2 : ReadsI w v2 xs2) (hv4 : ReadsI w v4 xs4) (hlong : 1048576 < xs1.length ∨ 1048576 < xs2.length ∨ 1048576 < xs4.length) :
    Calls Try.prog 8 #[rd n g, v1, v2, .int .i64 a3, v4, .bool a5] w fun e w' => e = .returned (.bool true) ∧ Below w.heap.size w w' := by
  obtain ⟨y1, c1, rfl, _, hm1, _⟩ := hv1
  unfold maxLen at hm1
  obtain ⟨y2, c2, rfl, _, hm2, _⟩ := hv2
  unfold maxLen at hm2
  obtain ⟨y4, c4, rfl, _, hm4, _⟩ := hv4
  unfold maxLen at hm4
  have HB := Lib.hid (below_new w (.cells #[.int .i64 n, .bool g] 23))
  unfold rd at *
  by_cases hl1 : 1048576 < xs1.length
  · skip
    go_enter Try.func8, Try.ntmps8
    go_wp2_with fail
    go_ret
    exact ⟨rfl, HB.out⟩
  · skip
    by_cases hl2 : 1048576 < xs2.length
    · skip
      go_enter Try.func8, Try.ntmps8
      go_wp2_with fail
      go_ret
      exact ⟨rfl, HB.out⟩
    · skip
      have hl4 : 1048576 < xs4.length := by omega
      go_enter Try.func8, Try.ntmps8
      go_wp2_with fail
      go_ret
      exact ⟨rfl, HB.out⟩

theorem walk (n : Int) (g : Bool) (v1 : Value) (xs1 : List Int) (v2 : Value) (xs2 : List Int) (a3 : Int) (v4 : Value) (xs4 : List Int) (a5 : Bool) (w : World) (hv1 : ReadsI w v1 xs1) (hv2 : ReadsI w v2 xs2) (ha3 : -9223372036854775808 ≤ a3 ∧ a3 ≤ 9223372036854775807) (hv4 : ReadsI w v4 xs4) :
    Calls Try.prog 8 #[rd n g, v1, v2, .int .i64 a3, v4, .bool a5] w fun e w' => e = .returned (.bool true) ∧ Below w.heap.size w w' := by
  by_cases h : 1048576 < xs1.length ∨ 1048576 < xs2.length ∨ 1048576 < xs4.length
  · exact law_long n g v1 xs1 v2 xs2 a3 v4 xs4 a5 w hv1 hv2 hv4 h
  · skip
    have hlen : ((takenR n g xs1 xs2 a3 xs4 a5)).1.length ≤ 1048576 := takenR_len n g xs1 xs2 a3 xs4 a5
    exact law_two n g v1 xs1 v2 xs2 a3 v4 xs4 a5 ((takenR n g xs1 xs2 a3 xs4 a5)).1 ((takenR n g xs1 xs2 a3 xs4 a5)).2 hlen w hv1 (by omega) hv2 (by omega) hv4 (by omega) (fun u1 u2 u4 w h1 h2 h4 => spec_TakenRuns n g u1 u2 xs1 xs2 a3 u4 xs4 a5 w h1 h2 h4) (fun u1 u2 u4 w h1 h2 h4 => impl_TakenRuns n g u1 u2 xs1 xs2 a3 u4 xs4 a5 w h1 h2 h4)
end Go.Proofs.Ytijhbhjapcfddaa.fnExactTakenRuns
