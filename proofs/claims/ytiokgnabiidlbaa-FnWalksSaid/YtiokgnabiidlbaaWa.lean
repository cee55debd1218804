/-
  What is proved: the walk of the law FnWalks. Conditions: the bytes read as bytes.
-/
import Derived.Test.YtiokgnabiidlbaaDi
import Derived.Test.YtiokgnabiidlbaaLwb
import Derived.Test.YtiokgnabiidlbaaFn1
import Derived.Test.YtiokgnabiidlbaaFn2
import Derived.Test.YtiokgnabiidlbaaFn6
import Derived.Test.YtiokgnabiidlbaaWfa
import Derived.Deep.Cut
import Derived.Deep.DeepCutAuto
namespace Go.Proofs.Ytiokgnabiidlbaa
open Go.RowKit
set_option linter.unusedVariables false
set_option linter.unusedSimpArgs false

theorem len_top {xs : List Int} {m : Nat} (h : xs.length ≤ m) (hm : m ≤ 1048576) : xs.length ≤ maxLen := by
  unfold maxLen
  omega
set_option maxHeartbeats 6400000 in
set_option maxRecDepth 100000 in
theorem fnWalks_small (v : Value) (w : World) (hv : CodeOK w v) (hn : ∀ a k c, v = .slice a k c → k ≤ 65536) :
    Calls Try.prog 3 #[v] w fun e w' => e = .returned (.bool true) ∧ Below w.heap.size w w' := by
  have HV := Lib.hid hv
  obtain ⟨av, kv, cv, hvv, _⟩ := hv
  subst hvv
  have hk := hn av kv cv rfl
  clear hn
  go_enter Try.func3, Try.ntmps3
  go_wp2_with fail
  refine (rBig_no av kv cv w hk).mono ?_
  rintro e wz ⟨rfl, rfl⟩
  go_wp2_with fail
  refine (drawFirst_any _ w HV.out).mono ?_
  rintro e wa ⟨n, g, vl, xs, rfl, _, ho, hl, hb1⟩
  have HB1 := Lib.hid hb1
  have HV1 := Lib.hid (HV.out.below hb1)
  have HW := Lib.hid ((owns_reads ho (len_top hl (by omega))).below (below_new wa (.cells #[.int .i64 n, .bool g] 25)))
  have HX := Lib.hid (Boxed.first wa n g 25)
  obtain ⟨ok, fs, ts, ms, bs, os, st, hwd, hvr, hsr, htr, hmr, hbr, l1, l2, l3, l4, l5, hrk, hF⟩ := walks_all n g xs hl
  have HWD := Lib.hid hwd
  have HVR := Lib.hid hvr
  have HSR := Lib.hid hsr
  have HTR := Lib.hid htr
  have HMR := Lib.hid hmr
  have HBR := Lib.hid hbr
  have HF := Lib.hid hF
  have HRK := Lib.hid hrk
  have CVI := Lib.hid (fun v xs w hv => impl_FirstVisits n g v xs w hv)
  have CVS := Lib.hid (fun v w hv => spec_FirstVisits n g v xs w hv)
  have CII := Lib.hid (fun v xs w hv => impl_IsWalk n g v xs w hv)
  have CIS := Lib.hid (fun v w hv => spec_IsWalk n g v xs w hv)
  have CSI := Lib.hid (fun v xs w hv => impl_StepCount n g v xs w hv)
  have CSS := Lib.hid (fun v w hv => spec_StepCount n g v xs w hv)
  have CTI := Lib.hid (fun v w hv => impl_TurnTimes n g v xs w hv)
  have CTS := Lib.hid (fun v w hv => spec_TurnTimes n g v xs w hv)
  have CMI := Lib.hid (fun v w hv => impl_MirrorWalk n g v xs w hv)
  have CMS := Lib.hid (fun v w hv => spec_MirrorWalk n g v xs w hv)
  have CBI := Lib.hid (fun v w hv => impl_BackWalk n g v xs w hv)
  have CBS := Lib.hid (fun v w hv => spec_BackWalk n g v xs w hv)
  clear hb1 ho hwd hvr hsr htr hmr hbr hF hrk
  unfold rd at *
  go_wp2_with fail
  refine (CVI.out _ _ _ HW.out).mono ?_
  rintro e w1 ⟨v1, rfl, ho, hb⟩
  rw [HVR.out] at ho ⊢
  replace HX := Lib.hid (HX.out.next hb)
  replace HW := Lib.hid (HW.out.below hb)
  have hHX0 := HX.out.c0
  have hHX1 := HX.out.c1
  have HS := Lib.hid (owns_reads ho (by exact len_top l1 (by omega)))
  clear hb ho
  go_wp2_with fail
  refine (CVS.out _ _ HW.out).mono ?_
  rintro e w2 ⟨v2, rfl, ho, hb⟩
  rw [HVR.out] at ho ⊢
  replace HX := Lib.hid (HX.out.next hb)
  replace HW := Lib.hid (HW.out.below hb)
  replace HS := Lib.hid (HS.out.below hb)
  clear hHX0 hHX1
  have hHX0 := HX.out.c0
  have hHX1 := HX.out.c1
  have HT := Lib.hid (owns_reads ho (by exact len_top l1 (by omega)))
  clear hb ho
  go_wp2_with fail
  refine (rInts_yes _ _ fs _ HS.out HT.out).mono ?_
  rintro e w3 ⟨rfl, hb⟩
  replace HX := Lib.hid (HX.out.next hb)
  replace HW := Lib.hid (HW.out.below hb)
  replace HS := Lib.hid (HS.out.below hb)
  replace HT := Lib.hid (HT.out.below hb)
  clear hHX0 hHX1
  have hHX0 := HX.out.c0
  have hHX1 := HX.out.c1
  clear hb
  clear HT
  go_wp2_with fail
  refine (CII.out _ _ _ HW.out).mono ?_
  rintro e w4 ⟨rfl, hb⟩
  rw [HWD.out]
  replace HX := Lib.hid (HX.out.next hb)
  replace HW := Lib.hid (HW.out.below hb)
  replace HS := Lib.hid (HS.out.below hb)
  clear hHX0 hHX1
  have hHX0 := HX.out.c0
  have hHX1 := HX.out.c1
  clear hb
  go_wp2_with fail
  refine (CIS.out _ _ HW.out).mono ?_
  rintro e w5 ⟨rfl, hb⟩
  rw [HWD.out]
  replace HX := Lib.hid (HX.out.next hb)
  replace HW := Lib.hid (HW.out.below hb)
  replace HS := Lib.hid (HS.out.below hb)
  clear hHX0 hHX1
  have hHX0 := HX.out.c0
  have hHX1 := HX.out.c1
  clear hb
  generalize hrb : roadB n g = rb at *
  have HRB := Lib.hid hrb
  clear hrb
  go_upto_region 10 with (fail)
  go_cut [120] from 105 to 120 (fun c wx => c = .bool false ∧ w5 = wx)
  case first =>
    have hrk := HRK.out
    clear HRK
    cases rb
    · obtain rfl : ok = false := by simpa using hrk.symm
      go_wp2_with fail
      go_meet
      exact ⟨rfl, rfl⟩
    · go_wp2_with fail
      go_meet
      exact ⟨rfl, rfl⟩
  case rest =>
    obtain ⟨rfl, rfl⟩ := hcut
    clear HRK HWD
    go_wp2_with fail
    refine (CSI.out _ _ _ HW.out).mono ?_
    rintro e w6 ⟨rfl, hb⟩
    rw [HSR.out]
    replace HX := Lib.hid (HX.out.next hb)
    replace HW := Lib.hid (HW.out.below hb)
    replace HS := Lib.hid (HS.out.below hb)
    clear hHX0 hHX1
    have hHX0 := HX.out.c0
    have hHX1 := HX.out.c1
    clear hb
    go_wp2_with fail
    refine (CSS.out _ _ HW.out).mono ?_
    rintro e w7 ⟨rfl, hb⟩
    rw [HSR.out]
    replace HX := Lib.hid (HX.out.next hb)
    replace HW := Lib.hid (HW.out.below hb)
    replace HS := Lib.hid (HS.out.below hb)
    clear hHX0 hHX1
    have hHX0 := HX.out.c0
    have hHX1 := HX.out.c1
    clear hb
    go_wp2_with fail
    refine (CTI.out _ _ HW.out).mono ?_
    rintro e w8 ⟨v8, rfl, ho, hb⟩
    rw [HTR.out] at ho ⊢
    replace HX := Lib.hid (HX.out.next hb)
    replace HW := Lib.hid (HW.out.below hb)
    replace HS := Lib.hid (HS.out.below hb)
    clear hHX0 hHX1
    have hHX0 := HX.out.c0
    have hHX1 := HX.out.c1
    have HU := Lib.hid (owns_reads ho (by exact len_top l2 (by omega)))
    clear hb ho
    go_wp2_with fail
    refine (CTS.out _ _ HW.out).mono ?_
    rintro e w9 ⟨v9, rfl, ho, hb⟩
    rw [HTR.out] at ho ⊢
    replace HX := Lib.hid (HX.out.next hb)
    replace HW := Lib.hid (HW.out.below hb)
    replace HS := Lib.hid (HS.out.below hb)
    replace HU := Lib.hid (HU.out.below hb)
    clear hHX0 hHX1
    have hHX0 := HX.out.c0
    have hHX1 := HX.out.c1
    have HT := Lib.hid (owns_reads ho (by exact len_top l2 (by omega)))
    clear hb ho
    go_wp2_with fail
    refine (rInts_yes _ _ ts _ HU.out HT.out).mono ?_
    rintro e w10 ⟨rfl, hb⟩
    replace HX := Lib.hid (HX.out.next hb)
    replace HW := Lib.hid (HW.out.below hb)
    replace HS := Lib.hid (HS.out.below hb)
    replace HU := Lib.hid (HU.out.below hb)
    replace HT := Lib.hid (HT.out.below hb)
    clear hHX0 hHX1
    have hHX0 := HX.out.c0
    have hHX1 := HX.out.c1
    clear hb
    clear HT HU
    go_wp2_with fail
    refine (CMI.out _ _ HW.out).mono ?_
    rintro e w11 ⟨v11, rfl, ho, hb⟩
    rw [HMR.out] at ho ⊢
    replace HX := Lib.hid (HX.out.next hb)
    replace HW := Lib.hid (HW.out.below hb)
    replace HS := Lib.hid (HS.out.below hb)
    clear hHX0 hHX1
    have hHX0 := HX.out.c0
    have hHX1 := HX.out.c1
    have HM := Lib.hid (owns_reads ho (by exact len_top l3 (by omega)))
    clear hb ho
    go_wp2_with fail
    refine (CMS.out _ _ HW.out).mono ?_
    rintro e w12 ⟨v12, rfl, ho, hb⟩
    rw [HMR.out] at ho ⊢
    replace HX := Lib.hid (HX.out.next hb)
    replace HW := Lib.hid (HW.out.below hb)
    replace HS := Lib.hid (HS.out.below hb)
    replace HM := Lib.hid (HM.out.below hb)
    clear hHX0 hHX1
    have hHX0 := HX.out.c0
    have hHX1 := HX.out.c1
    have HT := Lib.hid (owns_reads ho (by exact len_top l3 (by omega)))
    clear hb ho
    go_wp2_with fail
    refine (rInts_yes _ _ ms _ HM.out HT.out).mono ?_
    rintro e w13 ⟨rfl, hb⟩
    replace HX := Lib.hid (HX.out.next hb)
    replace HW := Lib.hid (HW.out.below hb)
    replace HS := Lib.hid (HS.out.below hb)
    replace HM := Lib.hid (HM.out.below hb)
    replace HT := Lib.hid (HT.out.below hb)
    clear hHX0 hHX1
    have hHX0 := HX.out.c0
    have hHX1 := HX.out.c1
    clear hb
    clear HT
    go_wp2_with fail
    refine (CBI.out _ _ HW.out).mono ?_
    rintro e w14 ⟨v14, rfl, ho, hb⟩
    rw [HBR.out] at ho ⊢
    replace HX := Lib.hid (HX.out.next hb)
    replace HW := Lib.hid (HW.out.below hb)
    replace HS := Lib.hid (HS.out.below hb)
    replace HM := Lib.hid (HM.out.below hb)
    clear hHX0 hHX1
    have hHX0 := HX.out.c0
    have hHX1 := HX.out.c1
    have HK := Lib.hid (owns_reads ho (by exact len_top l4 (by omega)))
    clear hb ho
    go_wp2_with fail
    refine (CBS.out _ _ HW.out).mono ?_
    rintro e w15 ⟨v15, rfl, ho, hb⟩
    rw [HBR.out] at ho ⊢
    replace HX := Lib.hid (HX.out.next hb)
    replace HW := Lib.hid (HW.out.below hb)
    replace HS := Lib.hid (HS.out.below hb)
    replace HM := Lib.hid (HM.out.below hb)
    replace HK := Lib.hid (HK.out.below hb)
    clear hHX0 hHX1
    have hHX0 := HX.out.c0
    have hHX1 := HX.out.c1
    have HT := Lib.hid (owns_reads ho (by exact len_top l4 (by omega)))
    clear hb ho
    go_wp2_with fail
    refine (rInts_yes _ _ bs _ HK.out HT.out).mono ?_
    rintro e w16 ⟨rfl, hb⟩
    replace HX := Lib.hid (HX.out.next hb)
    replace HW := Lib.hid (HW.out.below hb)
    replace HS := Lib.hid (HS.out.below hb)
    replace HM := Lib.hid (HM.out.below hb)
    replace HK := Lib.hid (HK.out.below hb)
    replace HT := Lib.hid (HT.out.below hb)
    clear hHX0 hHX1
    have hHX0 := HX.out.c0
    have hHX1 := HX.out.c1
    clear hb
    clear HT HW
    clear HVR HSR HTR HMR HBR CVS CIS CSS CTI CTS CMI CMS CBI CBS
    go_wp2_with fail
    refine (drawCover_any _ w16 (HV1.out.below HX.out.below)).mono ?_
    rintro e w17 ⟨n2, g2, vy, ys, rfl, _, ho, hl2, hb⟩
    replace HX := Lib.hid ((HX.out.next hb).next (below_new w17 (.cells #[.int .i64 n2, .bool g2] 25)))
    replace HS := Lib.hid ((HS.out.below hb).below (below_new w17 (.cells #[.int .i64 n2, .bool g2] 25)))
    replace HM := Lib.hid ((HM.out.below hb).below (below_new w17 (.cells #[.int .i64 n2, .bool g2] 25)))
    replace HK := Lib.hid ((HK.out.below hb).below (below_new w17 (.cells #[.int .i64 n2, .bool g2] 25)))
    have HY1 := Lib.hid ((owns_reads ho (len_top hl2 (by omega))).below (below_new w17 (.cells #[.int .i64 n2, .bool g2] 25)))
    have HY := Lib.hid (Boxed.first w17 n2 g2 25)
    clear ho hb
    obtain ⟨six, cv2, fs2, hcr, lc, hC⟩ := cover_all n2 g2 ys
    have HCR := Lib.hid hcr
    have HC := Lib.hid hC
    have CCI := Lib.hid (fun v w hv => impl_CoverTime n2 g2 v ys w hv)
    have CCS := Lib.hid (fun v w hv => spec_CoverTime n2 g2 v ys w hv)
    have CVY := Lib.hid (fun v w hv => impl_FirstVisits n2 g2 v ys w hv)
    clear hcr hC
    unfold rd at *
    clear hHX0 hHX1
    have hHY0 := HY.out.c0
    have hHY1 := HY.out.c1
    go_wp2_with fail
    refine (CCI.out _ _ HY1.out).mono ?_
    rintro e w18 ⟨rfl, hb⟩
    rw [HCR.out]
    replace HX := Lib.hid (HX.out.next hb)
    replace HY := Lib.hid (HY.out.next hb)
    replace HS := Lib.hid (HS.out.below hb)
    replace HM := Lib.hid (HM.out.below hb)
    replace HK := Lib.hid (HK.out.below hb)
    replace HY1 := Lib.hid (HY1.out.below hb)
    clear hHY0 hHY1
    have hHY0 := HY.out.c0
    have hHY1 := HY.out.c1
    clear hb
    go_wp2_with fail
    refine (CCS.out _ _ HY1.out).mono ?_
    rintro e w19 ⟨rfl, hb⟩
    rw [HCR.out]
    replace HX := Lib.hid (HX.out.next hb)
    replace HY := Lib.hid (HY.out.next hb)
    replace HS := Lib.hid (HS.out.below hb)
    replace HM := Lib.hid (HM.out.below hb)
    replace HK := Lib.hid (HK.out.below hb)
    replace HY1 := Lib.hid (HY1.out.below hb)
    clear hHY0 hHY1
    have hHY0 := HY.out.c0
    have hHY1 := HY.out.c1
    clear hb
    clear HCR CCI CCS
    go_wp2_with fail
    refine (drawShift_any _ w19 (HV1.out.below HX.out.below)).mono ?_
    rintro e w20 ⟨n3, g3, vs, zs, d3, rfl, _, ho, hl3, hb⟩
    replace HX := Lib.hid ((HX.out.next hb).next (below_new w20 (.cells #[.int .i64 n3, .bool g3] 25)))
    replace HY := Lib.hid ((HY.out.next hb).next (below_new w20 (.cells #[.int .i64 n3, .bool g3] 25)))
    replace HS := Lib.hid ((HS.out.below hb).below (below_new w20 (.cells #[.int .i64 n3, .bool g3] 25)))
    replace HM := Lib.hid ((HM.out.below hb).below (below_new w20 (.cells #[.int .i64 n3, .bool g3] 25)))
    replace HK := Lib.hid ((HK.out.below hb).below (below_new w20 (.cells #[.int .i64 n3, .bool g3] 25)))
    replace HY1 := Lib.hid ((HY1.out.below hb).below (below_new w20 (.cells #[.int .i64 n3, .bool g3] 25)))
    have HZ1 := Lib.hid ((owns_reads ho (len_top hl3 (by omega))).below (below_new w20 (.cells #[.int .i64 n3, .bool g3] 25)))
    have HZ := Lib.hid (Boxed.first w20 n3 g3 25)
    clear ho hb
    obtain ⟨seven, ss, us, hsh, lh1, lh2, hH⟩ := shift_all n3 g3 zs d3 hl3
    have HSH := Lib.hid hsh
    have HH := Lib.hid hH
    have CHI := Lib.hid (fun v w hv => impl_ShiftWalk n3 g3 v zs d3 w hv)
    have CHS := Lib.hid (fun v w hv => spec_ShiftWalk n3 g3 v zs d3 w hv)
    have CTZ := Lib.hid (fun v xs w hv => impl_TurnTimes n3 g3 v xs w hv)
    clear hsh hH
    unfold rd at *
    clear hHY0 hHY1
    have hHZ0 := HZ.out.c0
    have hHZ1 := HZ.out.c1
    go_wp2_with fail
    refine (CHI.out _ _ HZ1.out).mono ?_
    rintro e w21 ⟨v21, rfl, ho, hb⟩
    rw [HSH.out] at ho ⊢
    replace HX := Lib.hid (HX.out.next hb)
    replace HY := Lib.hid (HY.out.next hb)
    replace HZ := Lib.hid (HZ.out.next hb)
    replace HS := Lib.hid (HS.out.below hb)
    replace HM := Lib.hid (HM.out.below hb)
    replace HK := Lib.hid (HK.out.below hb)
    replace HY1 := Lib.hid (HY1.out.below hb)
    replace HZ1 := Lib.hid (HZ1.out.below hb)
    clear hHZ0 hHZ1
    have hHZ0 := HZ.out.c0
    have hHZ1 := HZ.out.c1
    have HZ2 := Lib.hid (owns_reads ho (by exact len_top lh1 (by omega)))
    clear hb ho
    go_wp2_with fail
    refine (CHS.out _ _ HZ1.out).mono ?_
    rintro e w22 ⟨v22, rfl, ho, hb⟩
    rw [HSH.out] at ho ⊢
    replace HX := Lib.hid (HX.out.next hb)
    replace HY := Lib.hid (HY.out.next hb)
    replace HZ := Lib.hid (HZ.out.next hb)
    replace HS := Lib.hid (HS.out.below hb)
    replace HM := Lib.hid (HM.out.below hb)
    replace HK := Lib.hid (HK.out.below hb)
    replace HY1 := Lib.hid (HY1.out.below hb)
    replace HZ1 := Lib.hid (HZ1.out.below hb)
    replace HZ2 := Lib.hid (HZ2.out.below hb)
    clear hHZ0 hHZ1
    have hHZ0 := HZ.out.c0
    have hHZ1 := HZ.out.c1
    have HT := Lib.hid (owns_reads ho (by exact len_top lh1 (by omega)))
    clear hb ho
    go_wp2_with fail
    refine (rInts_yes _ _ ss _ HZ2.out HT.out).mono ?_
    rintro e w23 ⟨rfl, hb⟩
    replace HX := Lib.hid (HX.out.next hb)
    replace HY := Lib.hid (HY.out.next hb)
    replace HZ := Lib.hid (HZ.out.next hb)
    replace HS := Lib.hid (HS.out.below hb)
    replace HM := Lib.hid (HM.out.below hb)
    replace HK := Lib.hid (HK.out.below hb)
    replace HY1 := Lib.hid (HY1.out.below hb)
    replace HZ1 := Lib.hid (HZ1.out.below hb)
    replace HZ2 := Lib.hid (HZ2.out.below hb)
    replace HT := Lib.hid (HT.out.below hb)
    clear hHZ0 hHZ1
    have hHZ0 := HZ.out.c0
    have hHZ1 := HZ.out.c1
    clear hb
    clear HT
    clear HSH CHI CHS
    go_wp2_with fail
    refine (drawPlaceAt_any _ w23 (HV1.out.below HX.out.below)).mono ?_
    rintro e w24 ⟨n4, g4, vp, ps, t4, rfl, _, ho, hl4, hb⟩
    replace HX := Lib.hid ((HX.out.next hb).next (below_new w24 (.cells #[.int .i64 n4, .bool g4] 25)))
    replace HY := Lib.hid ((HY.out.next hb).next (below_new w24 (.cells #[.int .i64 n4, .bool g4] 25)))
    replace HZ := Lib.hid ((HZ.out.next hb).next (below_new w24 (.cells #[.int .i64 n4, .bool g4] 25)))
    replace HS := Lib.hid ((HS.out.below hb).below (below_new w24 (.cells #[.int .i64 n4, .bool g4] 25)))
    replace HM := Lib.hid ((HM.out.below hb).below (below_new w24 (.cells #[.int .i64 n4, .bool g4] 25)))
    replace HK := Lib.hid ((HK.out.below hb).below (below_new w24 (.cells #[.int .i64 n4, .bool g4] 25)))
    replace HY1 := Lib.hid ((HY1.out.below hb).below (below_new w24 (.cells #[.int .i64 n4, .bool g4] 25)))
    replace HZ1 := Lib.hid ((HZ1.out.below hb).below (below_new w24 (.cells #[.int .i64 n4, .bool g4] 25)))
    replace HZ2 := Lib.hid ((HZ2.out.below hb).below (below_new w24 (.cells #[.int .i64 n4, .bool g4] 25)))
    have HP1 := Lib.hid ((owns_reads ho (len_top hl4 (by omega))).below (below_new w24 (.cells #[.int .i64 n4, .bool g4] 25)))
    have HP := Lib.hid (Boxed.first w24 n4 g4 25)
    clear ho hb
    have CPI := Lib.hid (fun v w hv => impl_PlaceAt n4 g4 v ps t4 w hv)
    have CPS := Lib.hid (fun v w hv => spec_PlaceAt n4 g4 v ps t4 w hv)
    unfold rd at *
    clear hHZ0 hHZ1
    have hHP0 := HP.out.c0
    have hHP1 := HP.out.c1
    go_wp2_with fail
    refine (CPI.out _ _ HP1.out).mono ?_
    rintro e w25 ⟨rfl, hb⟩
    replace HX := Lib.hid (HX.out.next hb)
    replace HY := Lib.hid (HY.out.next hb)
    replace HZ := Lib.hid (HZ.out.next hb)
    replace HP := Lib.hid (HP.out.next hb)
    replace HS := Lib.hid (HS.out.below hb)
    replace HM := Lib.hid (HM.out.below hb)
    replace HK := Lib.hid (HK.out.below hb)
    replace HY1 := Lib.hid (HY1.out.below hb)
    replace HZ1 := Lib.hid (HZ1.out.below hb)
    replace HZ2 := Lib.hid (HZ2.out.below hb)
    replace HP1 := Lib.hid (HP1.out.below hb)
    clear hHP0 hHP1
    have hHP0 := HP.out.c0
    have hHP1 := HP.out.c1
    clear hb
    go_wp2_with fail
    refine (CPS.out _ _ HP1.out).mono ?_
    rintro e w26 ⟨rfl, hb⟩
    replace HX := Lib.hid (HX.out.next hb)
    replace HY := Lib.hid (HY.out.next hb)
    replace HZ := Lib.hid (HZ.out.next hb)
    replace HP := Lib.hid (HP.out.next hb)
    replace HS := Lib.hid (HS.out.below hb)
    replace HM := Lib.hid (HM.out.below hb)
    replace HK := Lib.hid (HK.out.below hb)
    replace HY1 := Lib.hid (HY1.out.below hb)
    replace HZ1 := Lib.hid (HZ1.out.below hb)
    replace HZ2 := Lib.hid (HZ2.out.below hb)
    replace HP1 := Lib.hid (HP1.out.below hb)
    clear hHP0 hHP1
    clear hb
    clear HP HP1 CPI CPS
    generalize (placeR n4 g4 ps t4).1 = pa at *
    generalize (placeR n4 g4 ps t4).2 = pb at *
    go_upto_if 306 with (fail)
    go_cut [2, 49, 50, 51] from 307 to 340 (fun r _ _ _ wx => r = .bool false ∧ Below w26.heap.size w26 wx)
    case first =>
      cases six
      · go_wp2_with fail
        go_meet
        exact ⟨rfl, Below.refl _ _⟩
      · obtain ⟨hn2, hvy, hly, hay⟩ := HC.out rfl
        have HVY := Lib.hid hvy
        have HAY := Lib.hid hay
        have HLY := Lib.hid hly
        clear HC hvy hay hly
        have hHY0 := HY.out.c0
        have hHY1 := HY.out.c1
        go_wp2_with fail
        refine (CVY.out _ _ HY1.out).mono ?_
        rintro e wb ⟨vb, rfl, ho, hb⟩
        rw [HVY.out] at ho ⊢
        have HQ := owns_reads ho (len_top lc (by omega))
        replace HY := Lib.hid (HY.out.next hb)
        have HBB := Lib.hid hb
        clear hb ho hHY0 hHY1
        obtain ⟨qa, qc, hqv, hqc, hqm, hqx⟩ := HQ
        subst hqv
        have HQX := Lib.hid hqx
        have hHY0 := HY.out.c0
        have hly := HLY.out
        have hlb : ((fs2.length : Int) != n2) = false := by simp [hly]
        clear hqx hly
        go_wp2_with fail
        go_loopw [2, 51] (fun r i wr => r = .bool false ∧ ∃ k : Nat, (k : Int) ≤ n2 ∧ i = .int .i64 k ∧ wr = wb) (fun _ i _ => n2.toNat - (intOf i).toNat)
        case atStart => exact ⟨rfl, 0, by omega, rfl, rfl⟩
        case round =>
          obtain ⟨rfl, k, hk9, rfl, rfl⟩ := hrel
          by_cases hlt : (k : Int) < n2
          · obtain ⟨y, hyk, hy0, hy1⟩ := HAY.out k hlt
            obtain ⟨bb, o, rfl, hbl, hcell⟩ := HQX.out k y hyk
            have hly := HLY.out
            have hi0 : 0 ≤ (k : Int) := by omega
            have hi1 : (k : Int) < fs2.length := by omega
            have hc1 : ¬ y < 0 := by omega
            have hc2 : ¬ cv2 < y := by omega
            have hd1 : decide (y < 0) = false := decide_eq_false hc1
            have hd2 : decide (cv2 < y) = false := decide_eq_false hc2
            clear hly hyk
            go_wp2_with fail
            go_roundw
            case rel => exact ⟨rfl, k + 1, by omega, by go_num, by first | rfl | trivial⟩
            case measure => simp [intOf]; omega
          · go_wp2_with fail
            go_meet
            exact ⟨rfl, HBB.out⟩
    case rest =>
      obtain ⟨rfl, hb⟩ := hcut
      clear HY HY1 HC CVY
      replace HX := Lib.hid (HX.out.next hb)
      replace HZ := Lib.hid (HZ.out.next hb)
      replace HS := Lib.hid (HS.out.below hb)
      replace HM := Lib.hid (HM.out.below hb)
      replace HK := Lib.hid (HK.out.below hb)
      replace HZ1 := Lib.hid (HZ1.out.below hb)
      replace HZ2 := Lib.hid (HZ2.out.below hb)
      clear hb
      go_upto_if 341 with (fail)
      go_cut [2, 52, 53, 54, 55] from 342 to 365 (fun r _ _ _ _ wy => r = .bool false ∧ Below wc.heap.size wc wy)
      case first =>
        cases seven
        · go_wp2_with fail
          go_meet
          exact ⟨rfl, Below.refl _ _⟩
        · obtain ⟨ht1, ht2⟩ := HH.out rfl
          have HT1 := Lib.hid ht1
          have HT2 := Lib.hid ht2
          clear HH ht1 ht2
          have hHZ0 := HZ.out.c0
          have hHZ1 := HZ.out.c1
          go_wp2_with fail
          refine (CTZ.out _ _ _ HZ1.out).mono ?_
          rintro e wb ⟨vb, rfl, ho, hb⟩
          rw [HT1.out] at ho ⊢
          have HQ1 := Lib.hid (owns_reads ho (len_top lh2 (by omega)))
          replace HZ := Lib.hid (HZ.out.next hb)
          replace HZ2 := Lib.hid (HZ2.out.below hb)
          have HBB := Lib.hid hb
          clear hb ho hHZ0 hHZ1
          have hHZ0 := HZ.out.c0
          have hHZ1 := HZ.out.c1
          go_wp2_with fail
          refine (CTZ.out _ _ _ HZ2.out).mono ?_
          rintro e wd ⟨vd, rfl, ho, hb⟩
          rw [HT2.out] at ho ⊢
          have HQ2 := Lib.hid (owns_reads ho (len_top lh2 (by omega)))
          replace HQ1 := Lib.hid (HQ1.out.below hb)
          replace HBB := Lib.hid (HBB.out.trans (hb.mono HBB.out.size))
          clear hb ho hHZ0 hHZ1
          go_wp2_with fail
          refine (rInts_yes _ _ us _ HQ1.out HQ2.out).mono ?_
          rintro e wf ⟨rfl, hb⟩
          replace HBB := Lib.hid (HBB.out.trans (hb.mono HBB.out.size))
          clear hb
          go_wp2_with fail
          go_meet
          exact ⟨rfl, HBB.out⟩
      case rest =>
        obtain ⟨rfl, hb⟩ := hcut
        clear HZ HZ1 HZ2 HH CTZ
        replace HX := Lib.hid (HX.out.next hb)
        replace HS := Lib.hid (HS.out.below hb)
        replace HM := Lib.hid (HM.out.below hb)
        replace HK := Lib.hid (HK.out.below hb)
        have hHX0 := HX.out.c0
        have hHX1 := HX.out.c1
        clear hb
        cases ok
        · go_wp2_with fail
          go_ret
          exact ⟨rfl, HB1.out.trans (HX.out.below.mono HB1.out.size)⟩
        · obtain ⟨hrd, hwm, hwb, hsb, hvm, hlo, hmi⟩ := HF.out rfl
          obtain ⟨hn2, hn24, _⟩ := (roadB_iff n g).1 (HRB.out.trans hrd)
          have HRD := Lib.hid hrd
          have HWM := Lib.hid hwm
          have HWB := Lib.hid hwb
          have HSB := Lib.hid hsb
          have HVM := Lib.hid hvm
          have HLO := Lib.hid hlo
          have HMI := Lib.hid hmi
          clear hrd hwm hwb hsb hvm hlo hmi HF
          go_wp2_with fail
          refine (CII.out _ _ _ HM.out).mono ?_
          rintro e w27 ⟨rfl, hb⟩
          rw [HWM.out, HRD.out]
          replace HX := Lib.hid (HX.out.next hb)
          replace HS := Lib.hid (HS.out.below hb)
          replace HM := Lib.hid (HM.out.below hb)
          replace HK := Lib.hid (HK.out.below hb)
          clear hHX0 hHX1
          have hHX0 := HX.out.c0
          have hHX1 := HX.out.c1
          clear hb
          go_wp2_with fail
          refine (CII.out _ _ _ HK.out).mono ?_
          rintro e w28 ⟨rfl, hb⟩
          rw [HWB.out, HRD.out]
          replace HX := Lib.hid (HX.out.next hb)
          replace HS := Lib.hid (HS.out.below hb)
          replace HM := Lib.hid (HM.out.below hb)
          replace HK := Lib.hid (HK.out.below hb)
          clear hHX0 hHX1
          have hHX0 := HX.out.c0
          have hHX1 := HX.out.c1
          clear hb
          go_wp2_with fail
          refine (CVI.out _ _ _ HM.out).mono ?_
          rintro e w29 ⟨v29, rfl, ho, hb⟩
          rw [HVM.out] at ho ⊢
          replace HX := Lib.hid (HX.out.next hb)
          replace HS := Lib.hid (HS.out.below hb)
          replace HM := Lib.hid (HM.out.below hb)
          replace HK := Lib.hid (HK.out.below hb)
          clear hHX0 hHX1
          have hHX0 := HX.out.c0
          have hHX1 := HX.out.c1
          have HO := Lib.hid (owns_reads ho (by exact len_top l5 (by omega)))
          clear hb ho
          go_wp2_with fail
          refine (CSI.out _ _ _ HK.out).mono ?_
          rintro e w30 ⟨rfl, hb⟩
          rw [HSB.out]
          replace HX := Lib.hid (HX.out.next hb)
          replace HS := Lib.hid (HS.out.below hb)
          replace HM := Lib.hid (HM.out.below hb)
          replace HK := Lib.hid (HK.out.below hb)
          replace HO := Lib.hid (HO.out.below hb)
          clear hHX0 hHX1
          have hHX0 := HX.out.c0
          have hHX1 := HX.out.c1
          clear hb
          have hlo := HLO.out
          have hlb : ((os.length : Int) != n) = false := by simp [hlo]
          obtain ⟨oa, oc, hov, hoc, hom, hox⟩ := HO.out
          obtain ⟨fa, fc, hfv, hfc, hfm, hfx⟩ := HS.out
          subst hov hfv
          have HOX := Lib.hid hox
          have HFX := Lib.hid hfx
          have HLF := Lib.hid (show ∀ k : Nat, (k : Int) < n → k < fs.length from fun k hk => by
            obtain ⟨y, hy, _⟩ := HMI.out k hk
            exact (List.getElem?_eq_some_iff.1 hy).1)
          clear hox hfx HO HS HM HK hlo
          go_wp2_with fail
          go_loopw [2, 64] (fun r i wr => r = .bool false ∧ ∃ k m : Nat, (k : Int) ≤ n ∧ i = .int .i64 k ∧ wr = w30.drewN m) (fun _ i _ => n.toNat - (intOf i).toNat)
          case atStart => exact ⟨rfl, 0, 0, by omega, rfl, rfl⟩
          case round =>
            obtain ⟨rfl, k, m, hk9, rfl, rfl⟩ := hrel
            by_cases hlt : (k : Int) < n
            · obtain ⟨y, hy1, hy2⟩ := HMI.out k hlt
              obtain ⟨b1, o1, rfl, _, hcell1⟩ := HFX.out k y hy1
              obtain ⟨q, hq⟩ : ∃ q : Nat, n - 1 - (k : Int) = q := ⟨(n - 1 - (k : Int)).toNat, by omega⟩
              rw [show (n - 1 - (k : Int)).toNat = q by omega] at hy2
              obtain ⟨b2, o2, rfl, _, hcell2⟩ := HOX.out _ y hy2
              have hlf := HLF.out k hlt
              have hlo := HLO.out
              have hw1 : IntKind.i64.wrap (n - 1) = n - 1 := IntWalk.i64_in _ (by omega)
              have hw2 : IntKind.i64.wrap (n - 1 - (k : Int)) = (q : Int) := by rw [hq]; exact IntWalk.i64_in _ (by omega)
              have hi0 : 0 ≤ (k : Int) := by omega
              have hi1 : (k : Int) < fs.length := by omega
              have hj0 : 0 ≤ (q : Int) := by omega
              have hj1 : (q : Int) < os.length := by omega
              clear hy1 hy2 hq hlo hlf
              go_wp2_with fail
              go_quiet (fail)
              go_wp2_with fail
              go_roundw
              case rel => exact ⟨rfl, k + 1, m + nq, by omega, by go_num, by first | rfl | trivial⟩
              case measure => simp [intOf]; omega
            · go_wp2_with fail
              go_ret
              exact ⟨rfl, (HB1.out.trans (HX.out.below.mono HB1.out.size)).trans ((below_drewN _ m).mono (Nat.le_trans HB1.out.size HX.out.below.size))⟩
end Go.Proofs.Ytiokgnabiidlbaa
