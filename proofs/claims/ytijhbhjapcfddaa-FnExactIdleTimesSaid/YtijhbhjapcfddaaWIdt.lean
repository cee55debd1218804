/-
  What is proved: the walk of the law FnExactIdleTimes: for every input impl.IdleTimes answers as the model does, its arguments read as before, and its answer is memory of its own. Conditions: none beyond the row's own.
-/
import Derived.Test.YtijhbhjapcfddaaVtm
import Derived.Test.YtijhbhjapcfddaaTbb
namespace Go.Proofs.Ytijhbhjapcfddaa.fnExactIdleTimes
open Go.RowKit
set_option linter.unusedVariables false
set_option linter.unusedSimpArgs false

set_option maxHeartbeats 3200000 in
set_option maxRecDepth 20000 in
theorem law_two (n : Int) (g : Bool) (v1 : Value) (xss1 : List (List Int)) (zs : List Int) (b : Bool) (hz : zs.length ≤ 1048576) (w : World) (hv1 : ReadsL w v1 xss1) (hn1 : sizeT xss1 ≤ 1048576)
    (hm : ∀ (u1 : Value) (w : World), ReadsL w u1 xss1 → Calls Try.prog 57 #[rd n g, u1] w (OwnsB w.heap.size zs b w))
    (hi : ∀ (u1 : Value) (w : World), ReadsL w u1 xss1 → Calls Try.prog 58 #[rd n g, u1] w (OwnsB w.heap.size zs b w)) :
    Calls Try.prog 17 #[rd n g, v1] w fun e w' => e = .returned (.bool true) ∧ Below w.heap.size w w' := by
  have HM := Lib.hid hm
  have HI := Lib.hid hi
  have HT := Lib.hid (fun w => toRoad_any n g w)
  have hnm : zs.length ≤ maxLen := by unfold maxLen; omega
  have Hnzs := Lib.hid hnm
  have Hbzs := Lib.hid hz
  clear hnm
  have hnm : xss1.length ≤ maxLen := by unfold maxLen; unfold sizeT at hn1; omega
  have Hnxss1 := Lib.hid hnm
  have Hbxss1 := Lib.hid hn1
  clear hnm
  have HV1 := Lib.hid hv1
  clear hv1
  clear hm hi
  have HX := Lib.hid (Boxed.first w n g 23)
  unfold rd at *
  go_enter Try.func17, Try.ntmps17
  go_wp2_with fail
  have HZw1 : Hid (w.heap.size + 1 ≤ (w.alloc (.cells #[.int .i64 n, .bool g] 23)).heap.size) := Lib.hid (by simp)
  generalize (w.alloc (.cells #[.int .i64 n, .bool g] 23)) = w1 at *
  have hb0 := HX.out.c0
  have hb1 := HX.out.c1
  refine (szT_yes v1 xss1 (1048576) _ (HV1.out.below HX.out.below) (by omega) (by omega)).mono ?_
  rintro e w2 ⟨rfl, rfl⟩
  go_wp2_with fail
  refine (HT.out _).mono ?_
  rintro e w2 ⟨rfl, hb⟩
  clear hb0 hb1
  have HX := Lib.hid (HX.out.next hb)
  have HZw2 : Hid (w1.heap.size ≤ w2.heap.size) := Lib.hid (hb.size)
  clear hb
  have hb0 := HX.out.c0
  have hb1 := HX.out.c1
  go_wp2_with fail
  refine (toT_any v1 xss1 _ (HV1.out.below HX.out.below) hn1).mono ?_
  rintro e w3 ⟨x1, ux1, rfl, ho, hb⟩
  clear hb0 hb1
  have HX := Lib.hid (HX.out.next hb)
  have HZw3 : Hid (w2.heap.size ≤ w3.heap.size) := Lib.hid (hb.size)
  have HOx1 := Lib.hid ho
  clear ho
  clear hb
  have hb0 := HX.out.c0
  have hb1 := HX.out.c1
  go_wp2_with fail
  refine (HM.out x1 _ (HOx1.out.reads Hnxss1.out)).mono ?_
  rintro e w4 ⟨g2, rfl, ho, hb⟩
  clear hb0 hb1
  have HX := Lib.hid (HX.out.next hb)
  have HOx1 := Lib.hid (HOx1.out.below hb)
  have HZw4 : Hid (w3.heap.size ≤ w4.heap.size) := Lib.hid (hb.size)
  have HRg2 : Hid (∀ b, g2.ownBlock = some b → w3.heap.size ≤ b ∧ b < w4.heap.size) := Lib.hid (fun b hb => owns_block ho b hb)
  have HOg2 := Lib.hid ho
  clear ho
  clear hb
  have HMid : Hid (Below w4.heap.size w4 w4) := Lib.hid (Below.refl _ _)
  have HXm := Lib.hid HX.out.size
  clear HOx1
  have hb0 := HX.out.c0
  have hb1 := HX.out.c1
  go_wp2_with fail
  refine (toT_any v1 xss1 _ (HV1.out.below HX.out.below) hn1).mono ?_
  rintro e w5 ⟨x3, ux3, rfl, ho, hb⟩
  clear hb0 hb1
  have HX := Lib.hid (HX.out.next hb)
  have HOg2 := Lib.hid (owns_below HOg2.out hb)
  have HMid := Lib.hid (HMid.out.trans (hb.mono HMid.out.size))
  have HZw5 : Hid (w4.heap.size ≤ w5.heap.size) := Lib.hid (hb.size)
  have HOx3 := Lib.hid ho
  clear ho
  clear hb
  have hb0 := HX.out.c0
  have hb1 := HX.out.c1
  go_wp2_with fail
  refine (HT.out _).mono ?_
  rintro e w6 ⟨rfl, hb⟩
  clear hb0 hb1
  have HX := Lib.hid (HX.out.next hb)
  have HOg2 := Lib.hid (owns_below HOg2.out hb)
  have HOx3 := Lib.hid (HOx3.out.below hb)
  have HMid := Lib.hid (HMid.out.trans (hb.mono HMid.out.size))
  have HZw6 : Hid (w5.heap.size ≤ w6.heap.size) := Lib.hid (hb.size)
  clear hb
  have hb0 := HX.out.c0
  have hb1 := HX.out.c1
  go_wp2_with fail
  refine (HI.out x3 _ (HOx3.out.reads Hnxss1.out)).mono ?_
  rintro e w7 ⟨g4, rfl, ho, hb⟩
  clear hb0 hb1
  have HX := Lib.hid (HX.out.next hb)
  have HOg2 := Lib.hid (owns_below HOg2.out hb)
  have HOx3 := Lib.hid (HOx3.out.below hb)
  have HMid := Lib.hid (HMid.out.trans (hb.mono HMid.out.size))
  have HZw7 : Hid (w6.heap.size ≤ w7.heap.size) := Lib.hid (hb.size)
  have HRg4 : Hid (∀ b, g4.ownBlock = some b → w6.heap.size ≤ b ∧ b < w7.heap.size) := Lib.hid (fun b hb => owns_block ho b hb)
  have HOg4 := Lib.hid ho
  clear ho
  clear hb
  cases b
  all_goals
    have hb0 := HX.out.c0
    have hb1 := HX.out.c1
    go_wp2_with fail
    refine (eqI_below g4 g2 zs _ (owns_reads HOg4.out Hnzs.out) (owns_reads HOg2.out Hnzs.out)).mono ?_
    rintro e w8 ⟨rfl, hb⟩
    clear hb0 hb1
    have HX := Lib.hid (HX.out.next hb)
    have HOg2 := Lib.hid (owns_below HOg2.out hb)
    have HOx3 := Lib.hid (HOx3.out.below hb)
    have HOg4 := Lib.hid (owns_below HOg4.out hb)
    have HMid := Lib.hid (HMid.out.trans (hb.mono HMid.out.size))
    have HZw8 : Hid (w7.heap.size ≤ w8.heap.size) := Lib.hid (hb.size)
    clear hb
    have hb0 := HX.out.c0
    have hb1 := HX.out.c1
    go_wp2_with fail
    refine (toT_any v1 xss1 _ (HV1.out.below HX.out.below) hn1).mono ?_
    rintro e w9 ⟨x5, ux5, rfl, ho, hb⟩
    clear hb0 hb1
    have HX := Lib.hid (HX.out.next hb)
    have HOg2 := Lib.hid (owns_below HOg2.out hb)
    have HOx3 := Lib.hid (HOx3.out.below hb)
    have HOg4 := Lib.hid (owns_below HOg4.out hb)
    have HMid := Lib.hid (HMid.out.trans (hb.mono HMid.out.size))
    have HZw9 : Hid (w8.heap.size ≤ w9.heap.size) := Lib.hid (hb.size)
    have HOx5 := Lib.hid ho
    clear ho
    clear hb
    have hb0 := HX.out.c0
    have hb1 := HX.out.c1
    go_wp2_with fail
    refine (eqT_yes x3 x5 xss1 _ (HOx3.out.reads Hnxss1.out) (HOx5.out.reads Hnxss1.out)).mono ?_
    rintro e w10 ⟨rfl, hb⟩
    clear hb0 hb1
    have HX := Lib.hid (HX.out.next hb)
    have HOg2 := Lib.hid (owns_below HOg2.out hb)
    have HOx3 := Lib.hid (HOx3.out.below hb)
    have HOg4 := Lib.hid (owns_below HOg4.out hb)
    have HOx5 := Lib.hid (HOx5.out.below hb)
    have HMid := Lib.hid (HMid.out.trans (hb.mono HMid.out.size))
    have HZw10 : Hid (w9.heap.size ≤ w10.heap.size) := Lib.hid (hb.size)
    clear hb
    clear HOx5
    have hb0 := HX.out.c0
    have hb1 := HX.out.c1
    go_wp2_with fail
    refine (markT_any x3 ux3 xss1 (w4.heap.size) (w5.heap.size) (1) _ HOx3.out Hbxss1.out (by have hlexss1 := Hbxss1.out; unfold sizeT at *; omega)).mono ?_
    rintro e w11 ⟨rfl, hch, ho⟩
    clear hb0 hb1
    have hbM : Below w4.heap.size w10 w11 := hch.below (by have z0 := HZw1.out; have z1 := HZw2.out; have z2 := HZw3.out; have z3 := HZw4.out; have z4 := HZw5.out; have z5 := HZw6.out; have z6 := HZw7.out; have z7 := HZw8.out; have z8 := HZw9.out; have z9 := HZw10.out; omega) HMid.out.size
    have HX := Lib.hid (HX.out.nextAt HXm.out hbM)
    have HMid := Lib.hid (HMid.out.trans hbM)
    have HOg2 := Lib.hid (row_chg HOg2.out hch (fun b h => by have l := HRg2.out b h; have z0 := HZw1.out; have z1 := HZw2.out; have z2 := HZw3.out; have z3 := HZw4.out; have z4 := HZw5.out; have z5 := HZw6.out; have z6 := HZw7.out; have z7 := HZw8.out; have z8 := HZw9.out; have z9 := HZw10.out; omega))
    have HOg4 := Lib.hid (row_chg HOg4.out hch (fun b h => by have l := HRg4.out b h; have z0 := HZw1.out; have z1 := HZw2.out; have z2 := HZw3.out; have z3 := HZw4.out; have z4 := HZw5.out; have z5 := HZw6.out; have z6 := HZw7.out; have z7 := HZw8.out; have z8 := HZw9.out; have z9 := HZw10.out; omega))
    have HOx3 := Lib.hid ho
    have HZw11 : Hid (w10.heap.size ≤ w11.heap.size) := Lib.hid hch.size
    clear hch ho hbM
    have hb0 := HX.out.c0
    have hb1 := HX.out.c1
    go_wp2_with fail
    refine (eqI_below g4 g2 zs _ (owns_reads HOg4.out Hnzs.out) (owns_reads HOg2.out Hnzs.out)).mono ?_
    rintro e w12 ⟨rfl, hb⟩
    clear hb0 hb1
    have HX := Lib.hid (HX.out.next hb)
    have HOg2 := Lib.hid (owns_below HOg2.out hb)
    have HOx3 := Lib.hid (HOx3.out.below hb)
    have HOg4 := Lib.hid (owns_below HOg4.out hb)
    have HMid := Lib.hid (HMid.out.trans (hb.mono HMid.out.size))
    have HZw12 : Hid (w11.heap.size ≤ w12.heap.size) := Lib.hid (hb.size)
    clear hb
    have hb0 := HX.out.c0
    have hb1 := HX.out.c1
    go_wp2_with fail
    refine (mark_list g4 zs _ (1) _ HOg4.out (Hbzs.out) (by omega)).mono ?_
    rintro e w13 ⟨rfl, hg, ho⟩
    clear hb0 hb1
    have hch : ChgIn (w6.heap.size) (w7.heap.size) w12 w13 := ChgIn.of_grown hg HRg4.out
    have hbM : Below w4.heap.size w12 w13 := hch.below (by have z0 := HZw1.out; have z1 := HZw2.out; have z2 := HZw3.out; have z3 := HZw4.out; have z4 := HZw5.out; have z5 := HZw6.out; have z6 := HZw7.out; have z7 := HZw8.out; have z8 := HZw9.out; have z9 := HZw10.out; have z10 := HZw11.out; have z11 := HZw12.out; omega) HMid.out.size
    have HX := Lib.hid (HX.out.nextAt HXm.out hbM)
    have HMid := Lib.hid (HMid.out.trans hbM)
    have HOg2 := Lib.hid (row_chg HOg2.out hch (fun b h => by have l := HRg2.out b h; have z0 := HZw1.out; have z1 := HZw2.out; have z2 := HZw3.out; have z3 := HZw4.out; have z4 := HZw5.out; have z5 := HZw6.out; have z6 := HZw7.out; have z7 := HZw8.out; have z8 := HZw9.out; have z9 := HZw10.out; have z10 := HZw11.out; have z11 := HZw12.out; omega))
    have HOx3 := Lib.hid (HOx3.out.chg hch (by have z0 := HZw1.out; have z1 := HZw2.out; have z2 := HZw3.out; have z3 := HZw4.out; have z4 := HZw5.out; have z5 := HZw6.out; have z6 := HZw7.out; have z7 := HZw8.out; have z8 := HZw9.out; have z9 := HZw10.out; have z10 := HZw11.out; have z11 := HZw12.out; omega))
    have HOg4 := Lib.hid ho
    have HZw13 : Hid (w12.heap.size ≤ w13.heap.size) := Lib.hid hch.size
    clear hch ho hbM hg
    have hb0 := HX.out.c0
    have hb1 := HX.out.c1
    go_wp2_with fail
    refine (held_any g4 zs.length (1) _ (owns_reads (by rw [mts_len]; exact HOg4.out) (by rw [mts_len]; exact Hnzs.out)) (Hbzs.out) (by omega)).mono ?_
    rintro e w14 ⟨rfl, rfl⟩
    go_wp2_with fail
    refine (HT.out _).mono ?_
    rintro e w14 ⟨rfl, hb⟩
    clear hb0 hb1
    have HX := Lib.hid (HX.out.next hb)
    have HOg2 := Lib.hid (owns_below HOg2.out hb)
    have HOx3 := Lib.hid (HOx3.out.below hb)
    have HOg4 := Lib.hid (owns_below HOg4.out hb)
    have HMid := Lib.hid (HMid.out.trans (hb.mono HMid.out.size))
    have HZw14 : Hid (w13.heap.size ≤ w14.heap.size) := Lib.hid (hb.size)
    clear hb
    have hb0 := HX.out.c0
    have hb1 := HX.out.c1
    go_wp2_with fail
    refine (toT_any v1 xss1 _ (HV1.out.below HX.out.below) hn1).mono ?_
    rintro e w15 ⟨x6, ux6, rfl, ho, hb⟩
    clear hb0 hb1
    have HX := Lib.hid (HX.out.next hb)
    have HOg2 := Lib.hid (owns_below HOg2.out hb)
    have HOx3 := Lib.hid (HOx3.out.below hb)
    have HOg4 := Lib.hid (owns_below HOg4.out hb)
    have HMid := Lib.hid (HMid.out.trans (hb.mono HMid.out.size))
    have HZw15 : Hid (w14.heap.size ≤ w15.heap.size) := Lib.hid (hb.size)
    have HOx6 := Lib.hid ho
    clear ho
    clear hb
    have hb0 := HX.out.c0
    have hb1 := HX.out.c1
    go_wp2_with fail
    refine (HI.out x6 _ (HOx6.out.reads Hnxss1.out)).mono ?_
    rintro e w16 ⟨g7, rfl, ho, hb⟩
    clear hb0 hb1
    have HX := Lib.hid (HX.out.next hb)
    have HOg2 := Lib.hid (owns_below HOg2.out hb)
    have HOx3 := Lib.hid (HOx3.out.below hb)
    have HOg4 := Lib.hid (owns_below HOg4.out hb)
    have HOx6 := Lib.hid (HOx6.out.below hb)
    have HMid := Lib.hid (HMid.out.trans (hb.mono HMid.out.size))
    have HZw16 : Hid (w15.heap.size ≤ w16.heap.size) := Lib.hid (hb.size)
    have HRg7 : Hid (∀ b, g7.ownBlock = some b → w15.heap.size ≤ b ∧ b < w16.heap.size) := Lib.hid (fun b hb => owns_block ho b hb)
    have HOg7 := Lib.hid ho
    clear ho
    clear hb
    clear HOx6
    have hb0 := HX.out.c0
    have hb1 := HX.out.c1
    go_wp2_with fail
    refine (eqI_below g7 g2 zs _ (owns_reads HOg7.out Hnzs.out) (owns_reads HOg2.out Hnzs.out)).mono ?_
    rintro e w17 ⟨rfl, hb⟩
    clear hb0 hb1
    have HX := Lib.hid (HX.out.next hb)
    have HOg2 := Lib.hid (owns_below HOg2.out hb)
    have HOx3 := Lib.hid (HOx3.out.below hb)
    have HOg4 := Lib.hid (owns_below HOg4.out hb)
    have HOg7 := Lib.hid (owns_below HOg7.out hb)
    have HMid := Lib.hid (HMid.out.trans (hb.mono HMid.out.size))
    have HZw17 : Hid (w16.heap.size ≤ w17.heap.size) := Lib.hid (hb.size)
    clear hb
    have hb0 := HX.out.c0
    have hb1 := HX.out.c1
    go_wp2_with fail
    refine (held_any g4 zs.length (1) _ (owns_reads (by rw [mts_len]; exact HOg4.out) (by rw [mts_len]; exact Hnzs.out)) (Hbzs.out) (by omega)).mono ?_
    rintro e w18 ⟨rfl, rfl⟩
    go_wp2_with fail
    go_ret
    exact ⟨rfl, HX.out.below⟩
set_option maxHeartbeats 800000 in
theorem law_long (n : Int) (g : Bool) (v1 : Value) (xss1 : List (List Int)) (w : World) (hv1 : ReadsL w v1 xss1) (hlong : 1048576 < sizeT xss1) :
    Calls Try.prog 17 #[rd n g, v1] w fun e w' => e = .returned (.bool true) ∧ Below w.heap.size w w' := by
  have HX := Lib.hid (below_new w (.cells #[.int .i64 n, .bool g] 23))
  have HS1 := Lib.hid (fun l w hv (hl : l ≤ 1048576) (h : sizeT xss1 ≤ l) => szT_yes v1 xss1 l w hv hl h)
  have HN1 := Lib.hid (fun l w hv (hl : l ≤ 1048576) (h : ¬ sizeT xss1 ≤ l) => szT_no v1 xss1 l w hv hl h)
  have HV1 := Lib.hid (hv1.below HX.out)
  clear hv1
  unfold rd at *
  go_enter Try.func17, Try.ntmps17
  go_wp2_with fail
  refine (HN1.out (1048576) _ HV1.out (by omega) (by omega)).mono ?_
  rintro e w2 ⟨rfl, rfl⟩
  go_wp2_with fail
  go_ret
  exact ⟨rfl, HX.out⟩

theorem walk (n : Int) (g : Bool) (v1 : Value) (xss1 : List (List Int)) (w : World) (hv1 : ReadsL w v1 xss1) :
    Calls Try.prog 17 #[rd n g, v1] w fun e w' => e = .returned (.bool true) ∧ Below w.heap.size w w' := by
  by_cases h : 1048576 < sizeT xss1
  · exact law_long n g v1 xss1 w hv1 h
  · skip
    have hlen : ((idleR n g xss1)).1.length ≤ 1048576 := Nat.le_trans (idleR_len n g xss1) (by omega)
    exact law_two n g v1 xss1 ((idleR n g xss1)).1 ((idleR n g xss1)).2 hlen w hv1 (by omega) (fun u1 w h1 => spec_IdleTimes n g u1 xss1 w h1) (fun u1 w h1 => impl_IdleTimes n g u1 xss1 w h1 (by omega))
end Go.Proofs.Ytijhbhjapcfddaa.fnExactIdleTimes
