/-
  What is proved: the walk of the law FnExactJoinPatrols: for every input impl.JoinPatrols answers as the model does, its arguments read as before, and its answer is memory of its own. Conditions: none beyond the row's own.
-/
import Derived.Test.YtefjignlhlpndaaJnc
import Derived.Test.YtefjignlhlpndaaJnd
import Derived.Test.YtefjignlhlpndaaTbb
namespace Go.Proofs.Ytefjignlhlpndaa.fnExactJoinPatrols
open Go.RowKit
set_option linter.unusedVariables false
set_option linter.unusedSimpArgs false

set_option maxHeartbeats 3200000 in
set_option maxRecDepth 20000 in
theorem law_two (n : Int) (g : Bool) (v1 : Value) (xss1 : List (List Int)) (v2 : Value) (xss2 : List (List Int)) (zss : List (List Int)) (b : Bool) (hz : sizeT zss ≤ 1048576) (w : World) (hv1 : ReadsL w v1 xss1) (hn1 : sizeT xss1 ≤ 1048576) (hv2 : ReadsL w v2 xss2) (hn2 : sizeT xss2 ≤ 1048576) (hsum : sizeT xss1 + sizeT xss2 ≤ 1048576)
    (hm : ∀ (u1 : Value) (u2 : Value) (w : World), ReadsL w u1 xss1 → ReadsL w u2 xss2 → Calls Try.prog 35 #[rd n g, u1, u2] w (OwnsTB w.heap.size zss b w))
    (hi : ∀ (u1 : Value) (u2 : Value) (w : World), ReadsL w u1 xss1 → ReadsL w u2 xss2 → Calls Try.prog 36 #[rd n g, u1, u2] w (OwnsTB w.heap.size zss b w)) :
    Calls Try.prog 10 #[rd n g, v1, v2] w fun e w' => e = .returned (.bool true) ∧ Below w.heap.size w w' := by
  have HM := Lib.hid hm
  have HI := Lib.hid hi
  have HT := Lib.hid (fun w => toRoad_any n g w)
  have hnm : xss1.length ≤ maxLen := by unfold maxLen; unfold sizeT at hn1; omega
  have Hnxss1 := Lib.hid hnm
  have Hbxss1 := Lib.hid hn1
  clear hnm
  have HV1 := Lib.hid hv1
  clear hv1
  have hnm : xss2.length ≤ maxLen := by unfold maxLen; unfold sizeT at hn2; omega
  have Hnxss2 := Lib.hid hnm
  have Hbxss2 := Lib.hid hn2
  clear hnm
  have HV2 := Lib.hid hv2
  clear hv2
  have HSU := Lib.hid hsum
  have hnm : zss.length ≤ maxLen := by unfold maxLen; unfold sizeT at hz; omega
  have Hnzss := Lib.hid hnm
  have Hbzss := Lib.hid hz
  clear hnm hz
  clear hm hi
  have HX := Lib.hid (Boxed.first w n g 23)
  unfold rd at *
  go_enter Try.func10, Try.ntmps10
  go_wp2_with fail
  have HZw1 : Hid (w.heap.size + 1 ≤ (w.alloc (.cells #[.int .i64 n, .bool g] 23)).heap.size) := Lib.hid (by simp)
  generalize (w.alloc (.cells #[.int .i64 n, .bool g] 23)) = w1 at *
  have hb0 := HX.out.c0
  have hb1 := HX.out.c1
  refine (szT_yes v1 xss1 (1048576) _ (HV1.out.below HX.out.below) (by omega) (by omega)).mono ?_
  rintro e w2 ⟨rfl, rfl⟩
  go_wp2_with fail
  refine (szT_yes v2 xss2 (1048576 - sizeT xss1) _ (HV2.out.below HX.out.below) (by omega) (by omega)).mono ?_
  rintro e w2 ⟨rfl, rfl⟩
  go_wp2_with fail
  refine (HT.out _).mono ?_
  rintro e w2 ⟨rfl, hb⟩
  clear hb0 hb1
  have HX := Lib.hid (HX.out.next hb)
  have HZw2 : Hid (w1.heap.size ≤ w2.heap.size) := Lib.hid (hb.size)
  clear hb
  have hb0 := HX.out.c0
  have hb1 := HX.out.c1
  go_wp2_with fail
  refine (toT_any v1 xss1 _ (HV1.out.below HX.out.below) hn1).mono ?_
  rintro e w3 ⟨x1, ux1, rfl, ho, hb⟩
  clear hb0 hb1
  have HX := Lib.hid (HX.out.next hb)
  have HZw3 : Hid (w2.heap.size ≤ w3.heap.size) := Lib.hid (hb.size)
  have HOx1 := Lib.hid ho
  clear ho
  clear hb
  have hb0 := HX.out.c0
  have hb1 := HX.out.c1
  go_wp2_with fail
  refine (toT_any v2 xss2 _ (HV2.out.below HX.out.below) hn2).mono ?_
  rintro e w4 ⟨x2, ux2, rfl, ho, hb⟩
  clear hb0 hb1
  have HX := Lib.hid (HX.out.next hb)
  have HOx1 := Lib.hid (HOx1.out.below hb)
  have HZw4 : Hid (w3.heap.size ≤ w4.heap.size) := Lib.hid (hb.size)
  have HOx2 := Lib.hid ho
  clear ho
  clear hb
  have hb0 := HX.out.c0
  have hb1 := HX.out.c1
  go_wp2_with fail
  refine (HM.out x1 x2 _ (HOx1.out.reads Hnxss1.out) (HOx2.out.reads Hnxss2.out)).mono ?_
  rintro e w5 ⟨g3, ug3, rfl, ho, hb⟩
  clear hb0 hb1
  have HX := Lib.hid (HX.out.next hb)
  have HOx1 := Lib.hid (HOx1.out.below hb)
  have HOx2 := Lib.hid (HOx2.out.below hb)
  have HZw5 : Hid (w4.heap.size ≤ w5.heap.size) := Lib.hid (hb.size)
  have HOg3 := Lib.hid ho
  clear ho
  clear hb
  have HMid : Hid (Below w5.heap.size w5 w5) := Lib.hid (Below.refl _ _)
  have HXm := Lib.hid HX.out.size
  clear HOx1
  clear HOx2
  have hb0 := HX.out.c0
  have hb1 := HX.out.c1
  go_wp2_with fail
  refine (toT_any v1 xss1 _ (HV1.out.below HX.out.below) hn1).mono ?_
  rintro e w6 ⟨x4, ux4, rfl, ho, hb⟩
  clear hb0 hb1
  have HX := Lib.hid (HX.out.next hb)
  have HOg3 := Lib.hid (HOg3.out.below hb)
  have HMid := Lib.hid (HMid.out.trans (hb.mono HMid.out.size))
  have HZw6 : Hid (w5.heap.size ≤ w6.heap.size) := Lib.hid (hb.size)
  have HOx4 := Lib.hid ho
  clear ho
  clear hb
  have hb0 := HX.out.c0
  have hb1 := HX.out.c1
  go_wp2_with fail
  refine (toT_any v2 xss2 _ (HV2.out.below HX.out.below) hn2).mono ?_
  rintro e w7 ⟨x5, ux5, rfl, ho, hb⟩
  clear hb0 hb1
  have HX := Lib.hid (HX.out.next hb)
  have HOg3 := Lib.hid (HOg3.out.below hb)
  have HOx4 := Lib.hid (HOx4.out.below hb)
  have HMid := Lib.hid (HMid.out.trans (hb.mono HMid.out.size))
  have HZw7 : Hid (w6.heap.size ≤ w7.heap.size) := Lib.hid (hb.size)
  have HOx5 := Lib.hid ho
  clear ho
  clear hb
  have hb0 := HX.out.c0
  have hb1 := HX.out.c1
  go_wp2_with fail
  refine (HT.out _).mono ?_
  rintro e w8 ⟨rfl, hb⟩
  clear hb0 hb1
  have HX := Lib.hid (HX.out.next hb)
  have HOg3 := Lib.hid (HOg3.out.below hb)
  have HOx4 := Lib.hid (HOx4.out.below hb)
  have HOx5 := Lib.hid (HOx5.out.below hb)
  have HMid := Lib.hid (HMid.out.trans (hb.mono HMid.out.size))
  have HZw8 : Hid (w7.heap.size ≤ w8.heap.size) := Lib.hid (hb.size)
  clear hb
  have hb0 := HX.out.c0
  have hb1 := HX.out.c1
  go_wp2_with fail
  refine (HI.out x4 x5 _ (HOx4.out.reads Hnxss1.out) (HOx5.out.reads Hnxss2.out)).mono ?_
  rintro e w9 ⟨g6, ug6, rfl, ho, hb⟩
  clear hb0 hb1
  have HX := Lib.hid (HX.out.next hb)
  have HOg3 := Lib.hid (HOg3.out.below hb)
  have HOx4 := Lib.hid (HOx4.out.below hb)
  have HOx5 := Lib.hid (HOx5.out.below hb)
  have HMid := Lib.hid (HMid.out.trans (hb.mono HMid.out.size))
  have HZw9 : Hid (w8.heap.size ≤ w9.heap.size) := Lib.hid (hb.size)
  have HOg6 := Lib.hid ho
  clear ho
  clear hb
  cases b
  all_goals
    have hb0 := HX.out.c0
    have hb1 := HX.out.c1
    go_wp2_with fail
    refine (eqT_yes g6 g3 zss _ (HOg6.out.reads Hnzss.out) (HOg3.out.reads Hnzss.out)).mono ?_
    rintro e w10 ⟨rfl, hb⟩
    clear hb0 hb1
    have HX := Lib.hid (HX.out.next hb)
    have HOg3 := Lib.hid (HOg3.out.below hb)
    have HOx4 := Lib.hid (HOx4.out.below hb)
    have HOx5 := Lib.hid (HOx5.out.below hb)
    have HOg6 := Lib.hid (HOg6.out.below hb)
    have HMid := Lib.hid (HMid.out.trans (hb.mono HMid.out.size))
    have HZw10 : Hid (w9.heap.size ≤ w10.heap.size) := Lib.hid (hb.size)
    clear hb
    have hb0 := HX.out.c0
    have hb1 := HX.out.c1
    go_wp2_with fail
    refine (toT_any v1 xss1 _ (HV1.out.below HX.out.below) hn1).mono ?_
    rintro e w11 ⟨x7, ux7, rfl, ho, hb⟩
    clear hb0 hb1
    have HX := Lib.hid (HX.out.next hb)
    have HOg3 := Lib.hid (HOg3.out.below hb)
    have HOx4 := Lib.hid (HOx4.out.below hb)
    have HOx5 := Lib.hid (HOx5.out.below hb)
    have HOg6 := Lib.hid (HOg6.out.below hb)
    have HMid := Lib.hid (HMid.out.trans (hb.mono HMid.out.size))
    have HZw11 : Hid (w10.heap.size ≤ w11.heap.size) := Lib.hid (hb.size)
    have HOx7 := Lib.hid ho
    clear ho
    clear hb
    have hb0 := HX.out.c0
    have hb1 := HX.out.c1
    go_wp2_with fail
    refine (eqT_yes x4 x7 xss1 _ (HOx4.out.reads Hnxss1.out) (HOx7.out.reads Hnxss1.out)).mono ?_
    rintro e w12 ⟨rfl, hb⟩
    clear hb0 hb1
    have HX := Lib.hid (HX.out.next hb)
    have HOg3 := Lib.hid (HOg3.out.below hb)
    have HOx4 := Lib.hid (HOx4.out.below hb)
    have HOx5 := Lib.hid (HOx5.out.below hb)
    have HOg6 := Lib.hid (HOg6.out.below hb)
    have HOx7 := Lib.hid (HOx7.out.below hb)
    have HMid := Lib.hid (HMid.out.trans (hb.mono HMid.out.size))
    have HZw12 : Hid (w11.heap.size ≤ w12.heap.size) := Lib.hid (hb.size)
    clear hb
    clear HOx7
    have hb0 := HX.out.c0
    have hb1 := HX.out.c1
    go_wp2_with fail
    refine (toT_any v2 xss2 _ (HV2.out.below HX.out.below) hn2).mono ?_
    rintro e w13 ⟨x8, ux8, rfl, ho, hb⟩
    clear hb0 hb1
    have HX := Lib.hid (HX.out.next hb)
    have HOg3 := Lib.hid (HOg3.out.below hb)
    have HOx4 := Lib.hid (HOx4.out.below hb)
    have HOx5 := Lib.hid (HOx5.out.below hb)
    have HOg6 := Lib.hid (HOg6.out.below hb)
    have HMid := Lib.hid (HMid.out.trans (hb.mono HMid.out.size))
    have HZw13 : Hid (w12.heap.size ≤ w13.heap.size) := Lib.hid (hb.size)
    have HOx8 := Lib.hid ho
    clear ho
    clear hb
    have hb0 := HX.out.c0
    have hb1 := HX.out.c1
    go_wp2_with fail
    refine (eqT_yes x5 x8 xss2 _ (HOx5.out.reads Hnxss2.out) (HOx8.out.reads Hnxss2.out)).mono ?_
    rintro e w14 ⟨rfl, hb⟩
    clear hb0 hb1
    have HX := Lib.hid (HX.out.next hb)
    have HOg3 := Lib.hid (HOg3.out.below hb)
    have HOx4 := Lib.hid (HOx4.out.below hb)
    have HOx5 := Lib.hid (HOx5.out.below hb)
    have HOg6 := Lib.hid (HOg6.out.below hb)
    have HOx8 := Lib.hid (HOx8.out.below hb)
    have HMid := Lib.hid (HMid.out.trans (hb.mono HMid.out.size))
    have HZw14 : Hid (w13.heap.size ≤ w14.heap.size) := Lib.hid (hb.size)
    clear hb
    clear HOx8
    have hb0 := HX.out.c0
    have hb1 := HX.out.c1
    go_wp2_with fail
    refine (markT_any x4 ux4 xss1 (w5.heap.size) (w6.heap.size) (1) _ HOx4.out Hbxss1.out (by have hlexss1 := Hbxss1.out; have hlexss2 := Hbxss2.out; have hlezss := Hbzss.out; have hsu := HSU.out; unfold sizeT at *; omega)).mono ?_
    rintro e w15 ⟨rfl, hch, ho⟩
    clear hb0 hb1
    have hbM : Below w5.heap.size w14 w15 := hch.below (by have z0 := HZw1.out; have z1 := HZw2.out; have z2 := HZw3.out; have z3 := HZw4.out; have z4 := HZw5.out; have z5 := HZw6.out; have z6 := HZw7.out; have z7 := HZw8.out; have z8 := HZw9.out; have z9 := HZw10.out; have z10 := HZw11.out; have z11 := HZw12.out; have z12 := HZw13.out; have z13 := HZw14.out; omega) HMid.out.size
    have HX := Lib.hid (HX.out.nextAt HXm.out hbM)
    have HMid := Lib.hid (HMid.out.trans hbM)
    have HOg3 := Lib.hid (HOg3.out.chg hch (by have z0 := HZw1.out; have z1 := HZw2.out; have z2 := HZw3.out; have z3 := HZw4.out; have z4 := HZw5.out; have z5 := HZw6.out; have z6 := HZw7.out; have z7 := HZw8.out; have z8 := HZw9.out; have z9 := HZw10.out; have z10 := HZw11.out; have z11 := HZw12.out; have z12 := HZw13.out; have z13 := HZw14.out; omega))
    have HOx5 := Lib.hid (HOx5.out.chg hch (by have z0 := HZw1.out; have z1 := HZw2.out; have z2 := HZw3.out; have z3 := HZw4.out; have z4 := HZw5.out; have z5 := HZw6.out; have z6 := HZw7.out; have z7 := HZw8.out; have z8 := HZw9.out; have z9 := HZw10.out; have z10 := HZw11.out; have z11 := HZw12.out; have z12 := HZw13.out; have z13 := HZw14.out; omega))
    have HOg6 := Lib.hid (HOg6.out.chg hch (by have z0 := HZw1.out; have z1 := HZw2.out; have z2 := HZw3.out; have z3 := HZw4.out; have z4 := HZw5.out; have z5 := HZw6.out; have z6 := HZw7.out; have z7 := HZw8.out; have z8 := HZw9.out; have z9 := HZw10.out; have z10 := HZw11.out; have z11 := HZw12.out; have z12 := HZw13.out; have z13 := HZw14.out; omega))
    have HOx4 := Lib.hid ho
    have HZw15 : Hid (w14.heap.size ≤ w15.heap.size) := Lib.hid hch.size
    clear hch ho hbM
    have hb0 := HX.out.c0
    have hb1 := HX.out.c1
    go_wp2_with fail
    refine (markT_any x5 ux5 xss2 (w6.heap.size) (w7.heap.size) (1 + lenTo xss1 xss1.length) _ HOx5.out Hbxss2.out (by have hlexss1 := Hbxss1.out; have hlexss2 := Hbxss2.out; have hlezss := Hbzss.out; have hsu := HSU.out; unfold sizeT at *; omega)).mono ?_
    rintro e w16 ⟨rfl, hch, ho⟩
    clear hb0 hb1
    have hbM : Below w5.heap.size w15 w16 := hch.below (by have z0 := HZw1.out; have z1 := HZw2.out; have z2 := HZw3.out; have z3 := HZw4.out; have z4 := HZw5.out; have z5 := HZw6.out; have z6 := HZw7.out; have z7 := HZw8.out; have z8 := HZw9.out; have z9 := HZw10.out; have z10 := HZw11.out; have z11 := HZw12.out; have z12 := HZw13.out; have z13 := HZw14.out; have z14 := HZw15.out; omega) HMid.out.size
    have HX := Lib.hid (HX.out.nextAt HXm.out hbM)
    have HMid := Lib.hid (HMid.out.trans hbM)
    have HOg3 := Lib.hid (HOg3.out.chg hch (by have z0 := HZw1.out; have z1 := HZw2.out; have z2 := HZw3.out; have z3 := HZw4.out; have z4 := HZw5.out; have z5 := HZw6.out; have z6 := HZw7.out; have z7 := HZw8.out; have z8 := HZw9.out; have z9 := HZw10.out; have z10 := HZw11.out; have z11 := HZw12.out; have z12 := HZw13.out; have z13 := HZw14.out; have z14 := HZw15.out; omega))
    have HOx4 := Lib.hid (HOx4.out.chg hch (by have z0 := HZw1.out; have z1 := HZw2.out; have z2 := HZw3.out; have z3 := HZw4.out; have z4 := HZw5.out; have z5 := HZw6.out; have z6 := HZw7.out; have z7 := HZw8.out; have z8 := HZw9.out; have z9 := HZw10.out; have z10 := HZw11.out; have z11 := HZw12.out; have z12 := HZw13.out; have z13 := HZw14.out; have z14 := HZw15.out; omega))
    have HOg6 := Lib.hid (HOg6.out.chg hch (by have z0 := HZw1.out; have z1 := HZw2.out; have z2 := HZw3.out; have z3 := HZw4.out; have z4 := HZw5.out; have z5 := HZw6.out; have z6 := HZw7.out; have z7 := HZw8.out; have z8 := HZw9.out; have z9 := HZw10.out; have z10 := HZw11.out; have z11 := HZw12.out; have z12 := HZw13.out; have z13 := HZw14.out; have z14 := HZw15.out; omega))
    have HOx5 := Lib.hid ho
    have HZw16 : Hid (w15.heap.size ≤ w16.heap.size) := Lib.hid hch.size
    clear hch ho hbM
    have hb0 := HX.out.c0
    have hb1 := HX.out.c1
    go_wp2_with fail
    refine (eqT_yes g6 g3 zss _ (HOg6.out.reads Hnzss.out) (HOg3.out.reads Hnzss.out)).mono ?_
    rintro e w17 ⟨rfl, hb⟩
    clear hb0 hb1
    have HX := Lib.hid (HX.out.next hb)
    have HOg3 := Lib.hid (HOg3.out.below hb)
    have HOx4 := Lib.hid (HOx4.out.below hb)
    have HOx5 := Lib.hid (HOx5.out.below hb)
    have HOg6 := Lib.hid (HOg6.out.below hb)
    have HMid := Lib.hid (HMid.out.trans (hb.mono HMid.out.size))
    have HZw17 : Hid (w16.heap.size ≤ w17.heap.size) := Lib.hid (hb.size)
    clear hb
    have hb0 := HX.out.c0
    have hb1 := HX.out.c1
    go_wp2_with fail
    refine (markT_any g6 ug6 zss (w8.heap.size) (w9.heap.size) (1) _ HOg6.out Hbzss.out (by have hlexss1 := Hbxss1.out; have hlexss2 := Hbxss2.out; have hlezss := Hbzss.out; have hsu := HSU.out; unfold sizeT at *; omega)).mono ?_
    rintro e w18 ⟨rfl, hch, ho⟩
    clear hb0 hb1
    have hbM : Below w5.heap.size w17 w18 := hch.below (by have z0 := HZw1.out; have z1 := HZw2.out; have z2 := HZw3.out; have z3 := HZw4.out; have z4 := HZw5.out; have z5 := HZw6.out; have z6 := HZw7.out; have z7 := HZw8.out; have z8 := HZw9.out; have z9 := HZw10.out; have z10 := HZw11.out; have z11 := HZw12.out; have z12 := HZw13.out; have z13 := HZw14.out; have z14 := HZw15.out; have z15 := HZw16.out; have z16 := HZw17.out; omega) HMid.out.size
    have HX := Lib.hid (HX.out.nextAt HXm.out hbM)
    have HMid := Lib.hid (HMid.out.trans hbM)
    have HOg3 := Lib.hid (HOg3.out.chg hch (by have z0 := HZw1.out; have z1 := HZw2.out; have z2 := HZw3.out; have z3 := HZw4.out; have z4 := HZw5.out; have z5 := HZw6.out; have z6 := HZw7.out; have z7 := HZw8.out; have z8 := HZw9.out; have z9 := HZw10.out; have z10 := HZw11.out; have z11 := HZw12.out; have z12 := HZw13.out; have z13 := HZw14.out; have z14 := HZw15.out; have z15 := HZw16.out; have z16 := HZw17.out; omega))
    have HOx4 := Lib.hid (HOx4.out.chg hch (by have z0 := HZw1.out; have z1 := HZw2.out; have z2 := HZw3.out; have z3 := HZw4.out; have z4 := HZw5.out; have z5 := HZw6.out; have z6 := HZw7.out; have z7 := HZw8.out; have z8 := HZw9.out; have z9 := HZw10.out; have z10 := HZw11.out; have z11 := HZw12.out; have z12 := HZw13.out; have z13 := HZw14.out; have z14 := HZw15.out; have z15 := HZw16.out; have z16 := HZw17.out; omega))
    have HOx5 := Lib.hid (HOx5.out.chg hch (by have z0 := HZw1.out; have z1 := HZw2.out; have z2 := HZw3.out; have z3 := HZw4.out; have z4 := HZw5.out; have z5 := HZw6.out; have z6 := HZw7.out; have z7 := HZw8.out; have z8 := HZw9.out; have z9 := HZw10.out; have z10 := HZw11.out; have z11 := HZw12.out; have z12 := HZw13.out; have z13 := HZw14.out; have z14 := HZw15.out; have z15 := HZw16.out; have z16 := HZw17.out; omega))
    have HOg6 := Lib.hid ho
    have HZw18 : Hid (w17.heap.size ≤ w18.heap.size) := Lib.hid hch.size
    clear hch ho hbM
    have hb0 := HX.out.c0
    have hb1 := HX.out.c1
    go_wp2_with fail
    refine (heldT_any g6 zss (1) _ (HOg6.out.reads (by rw [mkT_len]; exact Hnzss.out)) Hbzss.out (by have hlexss1 := Hbxss1.out; have hlexss2 := Hbxss2.out; have hlezss := Hbzss.out; have hsu := HSU.out; unfold sizeT at *; omega)).mono ?_
    rintro e w19 ⟨rfl, rfl⟩
    go_wp2_with fail
    refine (HT.out _).mono ?_
    rintro e w19 ⟨rfl, hb⟩
    clear hb0 hb1
    have HX := Lib.hid (HX.out.next hb)
    have HOg3 := Lib.hid (HOg3.out.below hb)
    have HOx4 := Lib.hid (HOx4.out.below hb)
    have HOx5 := Lib.hid (HOx5.out.below hb)
    have HOg6 := Lib.hid (HOg6.out.below hb)
    have HMid := Lib.hid (HMid.out.trans (hb.mono HMid.out.size))
    have HZw19 : Hid (w18.heap.size ≤ w19.heap.size) := Lib.hid (hb.size)
    clear hb
    have hb0 := HX.out.c0
    have hb1 := HX.out.c1
    go_wp2_with fail
    refine (toT_any v1 xss1 _ (HV1.out.below HX.out.below) hn1).mono ?_
    rintro e w20 ⟨x9, ux9, rfl, ho, hb⟩
    clear hb0 hb1
    have HX := Lib.hid (HX.out.next hb)
    have HOg3 := Lib.hid (HOg3.out.below hb)
    have HOx4 := Lib.hid (HOx4.out.below hb)
    have HOx5 := Lib.hid (HOx5.out.below hb)
    have HOg6 := Lib.hid (HOg6.out.below hb)
    have HMid := Lib.hid (HMid.out.trans (hb.mono HMid.out.size))
    have HZw20 : Hid (w19.heap.size ≤ w20.heap.size) := Lib.hid (hb.size)
    have HOx9 := Lib.hid ho
    clear ho
    clear hb
    have hb0 := HX.out.c0
    have hb1 := HX.out.c1
    go_wp2_with fail
    refine (toT_any v2 xss2 _ (HV2.out.below HX.out.below) hn2).mono ?_
    rintro e w21 ⟨x10, ux10, rfl, ho, hb⟩
    clear hb0 hb1
    have HX := Lib.hid (HX.out.next hb)
    have HOg3 := Lib.hid (HOg3.out.below hb)
    have HOx4 := Lib.hid (HOx4.out.below hb)
    have HOx5 := Lib.hid (HOx5.out.below hb)
    have HOg6 := Lib.hid (HOg6.out.below hb)
    have HOx9 := Lib.hid (HOx9.out.below hb)
    have HMid := Lib.hid (HMid.out.trans (hb.mono HMid.out.size))
    have HZw21 : Hid (w20.heap.size ≤ w21.heap.size) := Lib.hid (hb.size)
    have HOx10 := Lib.hid ho
    clear ho
    clear hb
    have hb0 := HX.out.c0
    have hb1 := HX.out.c1
    go_wp2_with fail
    refine (HI.out x9 x10 _ (HOx9.out.reads Hnxss1.out) (HOx10.out.reads Hnxss2.out)).mono ?_
    rintro e w22 ⟨g11, ug11, rfl, ho, hb⟩
    clear hb0 hb1
    have HX := Lib.hid (HX.out.next hb)
    have HOg3 := Lib.hid (HOg3.out.below hb)
    have HOx4 := Lib.hid (HOx4.out.below hb)
    have HOx5 := Lib.hid (HOx5.out.below hb)
    have HOg6 := Lib.hid (HOg6.out.below hb)
    have HOx9 := Lib.hid (HOx9.out.below hb)
    have HOx10 := Lib.hid (HOx10.out.below hb)
    have HMid := Lib.hid (HMid.out.trans (hb.mono HMid.out.size))
    have HZw22 : Hid (w21.heap.size ≤ w22.heap.size) := Lib.hid (hb.size)
    have HOg11 := Lib.hid ho
    clear ho
    clear hb
    clear HOx9
    clear HOx10
    have hb0 := HX.out.c0
    have hb1 := HX.out.c1
    go_wp2_with fail
    refine (eqT_yes g11 g3 zss _ (HOg11.out.reads Hnzss.out) (HOg3.out.reads Hnzss.out)).mono ?_
    rintro e w23 ⟨rfl, hb⟩
    clear hb0 hb1
    have HX := Lib.hid (HX.out.next hb)
    have HOg3 := Lib.hid (HOg3.out.below hb)
    have HOx4 := Lib.hid (HOx4.out.below hb)
    have HOx5 := Lib.hid (HOx5.out.below hb)
    have HOg6 := Lib.hid (HOg6.out.below hb)
    have HOg11 := Lib.hid (HOg11.out.below hb)
    have HMid := Lib.hid (HMid.out.trans (hb.mono HMid.out.size))
    have HZw23 : Hid (w22.heap.size ≤ w23.heap.size) := Lib.hid (hb.size)
    clear hb
    have hb0 := HX.out.c0
    have hb1 := HX.out.c1
    go_wp2_with fail
    refine (heldT_any g6 zss (1) _ (HOg6.out.reads (by rw [mkT_len]; exact Hnzss.out)) Hbzss.out (by have hlexss1 := Hbxss1.out; have hlexss2 := Hbxss2.out; have hlezss := Hbzss.out; have hsu := HSU.out; unfold sizeT at *; omega)).mono ?_
    rintro e w24 ⟨rfl, rfl⟩
    go_wp2_with fail
    go_ret
    exact ⟨rfl, HX.out.below⟩
set_option maxHeartbeats 800000 in
theorem law_long (n : Int) (g : Bool) (v1 : Value) (xss1 : List (List Int)) (v2 : Value) (xss2 : List (List Int)) (w : World) (hv1 : ReadsL w v1 xss1) (hv2 : ReadsL w v2 xss2) (hlong : 1048576 < sizeT xss1 + sizeT xss2) :
    Calls Try.prog 10 #[rd n g, v1, v2] w fun e w' => e = .returned (.bool true) ∧ Below w.heap.size w w' := by
  have HX := Lib.hid (below_new w (.cells #[.int .i64 n, .bool g] 23))
  have HS1 := Lib.hid (fun l w hv (hl : l ≤ 1048576) (h : sizeT xss1 ≤ l) => szT_yes v1 xss1 l w hv hl h)
  have HN1 := Lib.hid (fun l w hv (hl : l ≤ 1048576) (h : ¬ sizeT xss1 ≤ l) => szT_no v1 xss1 l w hv hl h)
  have HV1 := Lib.hid (hv1.below HX.out)
  clear hv1
  have HS2 := Lib.hid (fun l w hv (hl : l ≤ 1048576) (h : sizeT xss2 ≤ l) => szT_yes v2 xss2 l w hv hl h)
  have HN2 := Lib.hid (fun l w hv (hl : l ≤ 1048576) (h : ¬ sizeT xss2 ≤ l) => szT_no v2 xss2 l w hv hl h)
  have HV2 := Lib.hid (hv2.below HX.out)
  clear hv2
  unfold rd at *
  go_enter Try.func10, Try.ntmps10
  go_wp2_with fail
  by_cases hl : 1048576 < sizeT xss1
  · skip
    refine (HN1.out (1048576) _ HV1.out (by omega) (by omega)).mono ?_
    rintro e w2 ⟨rfl, rfl⟩
    go_wp2_with fail
    go_ret
    exact ⟨rfl, HX.out⟩
  · skip
    refine (HS1.out 1048576 _ HV1.out (by omega) (by omega)).mono ?_
    rintro e w2 ⟨rfl, rfl⟩
    have hnn : ¬ (((1048576 - sizeT xss1 : Nat) : Int) < 0) := by omega
    have hnn2 : 0 ≤ ((1048576 - sizeT xss1 : Nat) : Int) := by omega
    go_wp2_with fail
    refine (HN2.out (1048576 - sizeT xss1) _ HV2.out (by omega) (by omega)).mono ?_
    rintro e w2 ⟨rfl, rfl⟩
    go_wp2_with fail
    go_ret
    exact ⟨rfl, HX.out⟩

theorem walk (n : Int) (g : Bool) (v1 : Value) (xss1 : List (List Int)) (v2 : Value) (xss2 : List (List Int)) (w : World) (hv1 : ReadsL w v1 xss1) (hv2 : ReadsL w v2 xss2) :
    Calls Try.prog 10 #[rd n g, v1, v2] w fun e w' => e = .returned (.bool true) ∧ Below w.heap.size w w' := by
  by_cases h : 1048576 < sizeT xss1 + sizeT xss2
  · exact law_long n g v1 xss1 v2 xss2 w hv1 hv2 h
  · skip
    have hlen : sizeT ((joinPR n g xss1 xss2)).1 ≤ 1048576 := joinPR_size n g xss1 xss2
    exact law_two n g v1 xss1 v2 xss2 ((joinPR n g xss1 xss2)).1 ((joinPR n g xss1 xss2)).2 hlen w hv1 (by omega) hv2 (by omega) (by omega) (fun u1 u2 w h1 h2 => spec_JoinPatrols n g u1 u2 xss1 xss2 w h1 h2) (fun u1 u2 w h1 h2 => impl_JoinPatrols n g u1 u2 xss1 xss2 w h1 h2 (by omega) (by omega))
end Go.Proofs.Ytefjignlhlpndaa.fnExactJoinPatrols
