/-
  What is proved: the walk of the law FnTours. Conditions: the bytes read as bytes.
-/
import Derived.Test.YtiokgnabiidlbaaDj
import Derived.Test.YtiokgnabiidlbaaDk
import Derived.Test.YtiokgnabiidlbaaDl
import Derived.Test.YtiokgnabiidlbaaLwb
import Derived.Test.YtiokgnabiidlbaaFn26
import Derived.Test.YtiokgnabiidlbaaTfa
import Derived.Deep.Cut
import Derived.Deep.DeepCutAuto
namespace Go.Proofs.Ytiokgnabiidlbaa
open Go.RowKit
set_option linter.unusedVariables false
set_option linter.unusedSimpArgs false

theorem len_top {xs : List Int} {m : Nat} (h : xs.length ≤ m) (hm : m ≤ 1048576) : xs.length ≤ maxLen := by
  unfold maxLen
  omega
theorem reads_tail {w : World} {xs : List Int} {b o c : Nat} (h : ReadsI w (.slice (some ⟨b, o, none⟩) xs.length c) xs) (hl : 1 ≤ xs.length) : ReadsI w (.slice (if c = 1 then some ⟨b, o, none⟩ else some ⟨b, o + 1, none⟩) (xs.length - 1) (c - 1)) (xs.drop 1) := by
  obtain ⟨a, c', he, h1, h2, hx⟩ := h
  cases he
  refine ⟨_, _, by rw [List.length_drop], by rw [List.length_drop]; omega, by rw [List.length_drop]; omega, fun j x hj => ?_⟩
  rw [List.getElem?_drop] at hj
  have hjl := (List.getElem?_eq_some_iff.1 hj).1
  obtain ⟨b2, o2, he2, h3, h4⟩ := hx _ _ hj
  cases he2
  exact ⟨b, o + 1, by rw [if_neg (by omega)], h3, by rw [Nat.add_assoc]; exact h4⟩
theorem reads_at {w : World} {xs : List Int} {pa : Option Addr} {m c k : Nat} {x : Int} (h : ReadsI w (.slice pa m c) xs) (hk : xs[k]? = some x) : ∃ b o, pa = some ⟨b, o, none⟩ ∧ b < w.heap.size ∧ w.cell? ⟨b, o + k, none⟩ = some (.int .i64 x) := by
  obtain ⟨_, _, he, _, _, hx⟩ := h
  cases he
  exact hx k x hk
/-- what GapOf answers at a place of a tour -/
theorem tour_place {n : Int} {g : Bool} {a tt : Int} {ps : List Int} (hr : roadB n g = true) (ha : 0 ≤ a ∧ a < n) (hin : Inside n ps) (hge : ∀ (j : Nat) p, ps[j]? = some p → gapI n g a p ≤ tt) (k : Nat) (p : Int) (hk : ps[k]? = some p) : ∃ gp, gapR n g a p = (gp, true) ∧ gp ≤ tt :=
  ⟨_, gapR_yes (n := n) (g := g) (a := a) (b := p) (by rw [(placeB_iff n g a).2 ⟨hr, ha⟩, (placeB_iff n g p).2 ⟨hr, hin k p hk⟩]; rfl), hge k p hk⟩
theorem upTo_snoc (n : Int) (k : Nat) (h : k < n.toNat) : (upTo n).take (k + 1) = (upTo n).take k ++ [(k : Int)] := by
  rw [List.take_add_one, upTo_at n k h]
  rfl
set_option maxHeartbeats 6400000 in
set_option maxRecDepth 100000 in
theorem fnTours_small (v : Value) (w : World) (hv : CodeOK w v) (hn : ∀ a k c, v = .slice a k c → k ≤ 65536) :
    Calls Try.prog 4 #[v] w fun e w' => e = .returned (.bool true) ∧ Below w.heap.size w w' := by
  have HV := Lib.hid hv
  obtain ⟨i0, hi, hz0, hz1, hz2⟩ := info_parts infoInt
  obtain ⟨av, kv, cv, hvv, _⟩ := hv
  subst hvv
  have hk := hn av kv cv rfl
  clear hn
  go_enter Try.func4, Try.ntmps4
  go_wp2_with fail
  refine (rBig_no av kv cv w hk).mono ?_
  rintro e wz ⟨rfl, rfl⟩
  go_wp2_with fail
  refine (drawTour_any _ w HV.out).mono ?_
  rintro e wa ⟨n, g, a, vl, ps, rfl, _, ho, hl, hb1⟩
  have HB1 := Lib.hid hb1
  have HV1 := Lib.hid (HV.out.below hb1)
  have HW := Lib.hid ((owns_reads ho (len_top hl (by omega))).below (below_new wa (.cells #[.int .i64 n, .bool g] 25)))
  have HX := Lib.hid (Boxed.first wa n g 25)
  obtain ⟨tt, ok, htr, hF⟩ := tour_all n g a ps
  have HTR := Lib.hid htr
  have HF := Lib.hid hF
  have CTI := Lib.hid (fun v qs w hv => impl_TourTime n g a v qs w hv)
  have CTS := Lib.hid (fun v w hv => spec_TourTime n g a v ps w hv)
  clear hb1 ho htr hF
  unfold rd at *
  go_wp2_with fail
  refine (CTI.out _ _ _ HW.out).mono ?_
  rintro e w1 ⟨rfl, hb⟩
  rw [HTR.out]
  replace HX := Lib.hid (HX.out.next hb)
  replace HW := Lib.hid (HW.out.below hb)
  have hHX0 := HX.out.c0
  have hHX1 := HX.out.c1
  clear hb
  go_wp2_with fail
  refine (CTS.out _ _ HW.out).mono ?_
  rintro e w2 ⟨rfl, hb⟩
  rw [HTR.out]
  replace HX := Lib.hid (HX.out.next hb)
  replace HW := Lib.hid (HW.out.below hb)
  clear hHX0 hHX1
  have hHX0 := HX.out.c0
  have hHX1 := HX.out.c1
  clear hb
  clear CTS
  go_wp2_with fail
  refine (drawSweep_any _ w2 (HV1.out.below HX.out.below)).mono ?_
  rintro e w3 ⟨n2, g2, p2, rfl, _, hb⟩
  replace HX := Lib.hid ((HX.out.next hb).next (below_new w3 (.cells #[.int .i64 n2, .bool g2] 25)))
  replace HW := Lib.hid ((HW.out.below hb).below (below_new w3 (.cells #[.int .i64 n2, .bool g2] 25)))
  have HY := Lib.hid (Boxed.first w3 n2 g2 25)
  clear hb 
  obtain ⟨zs2, one, c2, hsw, lz2, hc2, hS⟩ := sweep_all n2 g2 p2
  have HSW := Lib.hid hsw
  have HSF := Lib.hid hS
  have CSI := Lib.hid (fun w => impl_SweepWalk n2 g2 p2 w)
  have CSS := Lib.hid (fun w => spec_SweepWalk n2 g2 p2 w)
  have CCY := Lib.hid (fun v w hv => impl_CoverTime n2 g2 v zs2 w hv)
  have CTY := Lib.hid (fun v w hv => impl_TourTime n2 g2 p2 v (upTo n2) w hv)
  clear hsw hS
  unfold rd at *
  clear hHX0 hHX1
  have hHY0 := HY.out.c0
  have hHY1 := HY.out.c1
  go_wp2_with fail
  refine (CSI.out _).mono ?_
  rintro e w4 ⟨v4, rfl, ho, hb⟩
  rw [HSW.out] at ho ⊢
  replace HX := Lib.hid (HX.out.next hb)
  replace HY := Lib.hid (HY.out.next hb)
  replace HW := Lib.hid (HW.out.below hb)
  clear hHY0 hHY1
  have hHY0 := HY.out.c0
  have hHY1 := HY.out.c1
  have HS2 := Lib.hid (owns_reads ho (by exact len_top lz2 (by omega)))
  clear hb ho
  go_wp2_with fail
  refine (CSS.out _).mono ?_
  rintro e w5 ⟨v5, rfl, ho, hb⟩
  rw [HSW.out] at ho ⊢
  replace HX := Lib.hid (HX.out.next hb)
  replace HY := Lib.hid (HY.out.next hb)
  replace HW := Lib.hid (HW.out.below hb)
  replace HS2 := Lib.hid (HS2.out.below hb)
  clear hHY0 hHY1
  have hHY0 := HY.out.c0
  have hHY1 := HY.out.c1
  have HT := Lib.hid (owns_reads ho (by exact len_top lz2 (by omega)))
  clear hb ho
  go_wp2_with fail
  refine (rInts_yes _ _ zs2 _ HS2.out HT.out).mono ?_
  rintro e w6 ⟨rfl, hb⟩
  replace HX := Lib.hid (HX.out.next hb)
  replace HY := Lib.hid (HY.out.next hb)
  replace HW := Lib.hid (HW.out.below hb)
  replace HS2 := Lib.hid (HS2.out.below hb)
  replace HT := Lib.hid (HT.out.below hb)
  clear hHY0 hHY1
  have hHY0 := HY.out.c0
  have hHY1 := HY.out.c1
  clear hb
  clear HT
  clear HSW CSI CSS
  go_wp2_with fail
  refine (drawJoin_any _ w6 (HV1.out.below HX.out.below)).mono ?_
  rintro e w7 ⟨n3, g3, vx, xs, vy, ys, rfl, _, ho, hl3, ho2, hl4, hb⟩
  replace HX := Lib.hid ((HX.out.next hb).next (below_new w7 (.cells #[.int .i64 n3, .bool g3] 25)))
  replace HY := Lib.hid ((HY.out.next hb).next (below_new w7 (.cells #[.int .i64 n3, .bool g3] 25)))
  replace HW := Lib.hid ((HW.out.below hb).below (below_new w7 (.cells #[.int .i64 n3, .bool g3] 25)))
  replace HS2 := Lib.hid ((HS2.out.below hb).below (below_new w7 (.cells #[.int .i64 n3, .bool g3] 25)))
  have HXS := Lib.hid ((owns_reads ho (len_top hl3 (by omega))).below (below_new w7 (.cells #[.int .i64 n3, .bool g3] 25)))
  have HYS := Lib.hid ((owns_reads ho2 (len_top hl4 (by omega))).below (below_new w7 (.cells #[.int .i64 n3, .bool g3] 25)))
  have HZ := Lib.hid (Boxed.first w7 n3 g3 25)
  clear hb ho ho2
  obtain ⟨zs3, two, a3, b3, hjo, lz3, ha3, hb3, hJ⟩ := join_all n3 g3 xs ys hl3 hl4
  have HJO := Lib.hid hjo
  have HJF := Lib.hid hJ
  have CJI := Lib.hid (fun v u w hv hu => impl_JoinWalks n3 g3 v xs u ys w hv hu)
  have CJS := Lib.hid (fun v u w hv hu => spec_JoinWalks n3 g3 v xs u ys w hv hu)
  have CST := Lib.hid (fun v qs w hv => impl_StepCount n3 g3 v qs w hv)
  clear hjo hJ
  unfold rd at *
  clear hHY0 hHY1
  have hHZ0 := HZ.out.c0
  have hHZ1 := HZ.out.c1
  go_wp2_with fail
  refine (CJI.out _ _ _ HXS.out HYS.out).mono ?_
  rintro e w8 ⟨v8, rfl, ho, hb⟩
  rw [HJO.out] at ho ⊢
  replace HX := Lib.hid (HX.out.next hb)
  replace HY := Lib.hid (HY.out.next hb)
  replace HZ := Lib.hid (HZ.out.next hb)
  replace HW := Lib.hid (HW.out.below hb)
  replace HS2 := Lib.hid (HS2.out.below hb)
  replace HXS := Lib.hid (HXS.out.below hb)
  replace HYS := Lib.hid (HYS.out.below hb)
  clear hHZ0 hHZ1
  have hHZ0 := HZ.out.c0
  have hHZ1 := HZ.out.c1
  have HJ := Lib.hid (owns_reads ho (by exact len_top lz3 (by omega)))
  clear hb ho
  go_wp2_with fail
  refine (CJS.out _ _ _ HXS.out HYS.out).mono ?_
  rintro e w9 ⟨v9, rfl, ho, hb⟩
  rw [HJO.out] at ho ⊢
  replace HX := Lib.hid (HX.out.next hb)
  replace HY := Lib.hid (HY.out.next hb)
  replace HZ := Lib.hid (HZ.out.next hb)
  replace HW := Lib.hid (HW.out.below hb)
  replace HS2 := Lib.hid (HS2.out.below hb)
  replace HXS := Lib.hid (HXS.out.below hb)
  replace HYS := Lib.hid (HYS.out.below hb)
  replace HJ := Lib.hid (HJ.out.below hb)
  clear hHZ0 hHZ1
  have hHZ0 := HZ.out.c0
  have hHZ1 := HZ.out.c1
  have HT := Lib.hid (owns_reads ho (by exact len_top lz3 (by omega)))
  clear hb ho
  go_wp2_with fail
  refine (rInts_yes _ _ zs3 _ HJ.out HT.out).mono ?_
  rintro e w10 ⟨rfl, hb⟩
  replace HX := Lib.hid (HX.out.next hb)
  replace HY := Lib.hid (HY.out.next hb)
  replace HZ := Lib.hid (HZ.out.next hb)
  replace HW := Lib.hid (HW.out.below hb)
  replace HS2 := Lib.hid (HS2.out.below hb)
  replace HXS := Lib.hid (HXS.out.below hb)
  replace HYS := Lib.hid (HYS.out.below hb)
  replace HJ := Lib.hid (HJ.out.below hb)
  replace HT := Lib.hid (HT.out.below hb)
  clear hHZ0 hHZ1
  have hHZ0 := HZ.out.c0
  have hHZ1 := HZ.out.c1
  clear hb
  clear HT
  clear HJO CJI CJS
  go_wp2_with fail
  refine (drawWait_any _ w10 (HV1.out.below HX.out.below)).mono ?_
  rintro e w11 ⟨n4, g4, vu, us, t4, m4, rfl, _, ho, hl5, hb⟩
  replace HX := Lib.hid ((HX.out.next hb).next (below_new w11 (.cells #[.int .i64 n4, .bool g4] 25)))
  replace HY := Lib.hid ((HY.out.next hb).next (below_new w11 (.cells #[.int .i64 n4, .bool g4] 25)))
  replace HZ := Lib.hid ((HZ.out.next hb).next (below_new w11 (.cells #[.int .i64 n4, .bool g4] 25)))
  replace HW := Lib.hid ((HW.out.below hb).below (below_new w11 (.cells #[.int .i64 n4, .bool g4] 25)))
  replace HS2 := Lib.hid ((HS2.out.below hb).below (below_new w11 (.cells #[.int .i64 n4, .bool g4] 25)))
  replace HXS := Lib.hid ((HXS.out.below hb).below (below_new w11 (.cells #[.int .i64 n4, .bool g4] 25)))
  replace HYS := Lib.hid ((HYS.out.below hb).below (below_new w11 (.cells #[.int .i64 n4, .bool g4] 25)))
  replace HJ := Lib.hid ((HJ.out.below hb).below (below_new w11 (.cells #[.int .i64 n4, .bool g4] 25)))
  have HUS := Lib.hid ((owns_reads ho (len_top hl5 (by omega))).below (below_new w11 (.cells #[.int .i64 n4, .bool g4] 25)))
  have HP := Lib.hid (Boxed.first w11 n4 g4 25)
  clear hb ho
  obtain ⟨zs4, three, a4, hwa, lz4, ha4, hQ⟩ := wait_all n4 g4 us t4 m4 hl5
  have HWA := Lib.hid hwa
  have HQF := Lib.hid hQ
  have CWI := Lib.hid (fun v w hv => impl_WaitWalk n4 g4 v us t4 m4 w hv)
  have CWS := Lib.hid (fun v w hv => spec_WaitWalk n4 g4 v us t4 m4 w hv)
  have CSU := Lib.hid (fun v qs w hv => impl_StepCount n4 g4 v qs w hv)
  clear hwa hQ
  unfold rd at *
  clear hHZ0 hHZ1
  have hHP0 := HP.out.c0
  have hHP1 := HP.out.c1
  go_wp2_with fail
  refine (CWI.out _ _ HUS.out).mono ?_
  rintro e w12 ⟨v12, rfl, ho, hb⟩
  rw [HWA.out] at ho ⊢
  replace HX := Lib.hid (HX.out.next hb)
  replace HY := Lib.hid (HY.out.next hb)
  replace HZ := Lib.hid (HZ.out.next hb)
  replace HP := Lib.hid (HP.out.next hb)
  replace HW := Lib.hid (HW.out.below hb)
  replace HS2 := Lib.hid (HS2.out.below hb)
  replace HXS := Lib.hid (HXS.out.below hb)
  replace HYS := Lib.hid (HYS.out.below hb)
  replace HJ := Lib.hid (HJ.out.below hb)
  replace HUS := Lib.hid (HUS.out.below hb)
  clear hHP0 hHP1
  have hHP0 := HP.out.c0
  have hHP1 := HP.out.c1
  have HQ := Lib.hid (owns_reads ho (by exact len_top lz4 (by omega)))
  clear hb ho
  go_wp2_with fail
  refine (CWS.out _ _ HUS.out).mono ?_
  rintro e w13 ⟨v13, rfl, ho, hb⟩
  rw [HWA.out] at ho ⊢
  replace HX := Lib.hid (HX.out.next hb)
  replace HY := Lib.hid (HY.out.next hb)
  replace HZ := Lib.hid (HZ.out.next hb)
  replace HP := Lib.hid (HP.out.next hb)
  replace HW := Lib.hid (HW.out.below hb)
  replace HS2 := Lib.hid (HS2.out.below hb)
  replace HXS := Lib.hid (HXS.out.below hb)
  replace HYS := Lib.hid (HYS.out.below hb)
  replace HJ := Lib.hid (HJ.out.below hb)
  replace HUS := Lib.hid (HUS.out.below hb)
  replace HQ := Lib.hid (HQ.out.below hb)
  clear hHP0 hHP1
  have hHP0 := HP.out.c0
  have hHP1 := HP.out.c1
  have HT := Lib.hid (owns_reads ho (by exact len_top lz4 (by omega)))
  clear hb ho
  go_wp2_with fail
  refine (rInts_yes _ _ zs4 _ HQ.out HT.out).mono ?_
  rintro e w14 ⟨rfl, hb⟩
  replace HX := Lib.hid (HX.out.next hb)
  replace HY := Lib.hid (HY.out.next hb)
  replace HZ := Lib.hid (HZ.out.next hb)
  replace HP := Lib.hid (HP.out.next hb)
  replace HW := Lib.hid (HW.out.below hb)
  replace HS2 := Lib.hid (HS2.out.below hb)
  replace HXS := Lib.hid (HXS.out.below hb)
  replace HYS := Lib.hid (HYS.out.below hb)
  replace HJ := Lib.hid (HJ.out.below hb)
  replace HUS := Lib.hid (HUS.out.below hb)
  replace HQ := Lib.hid (HQ.out.below hb)
  replace HT := Lib.hid (HT.out.below hb)
  clear hHP0 hHP1
  clear hb
  clear HT
  clear HWA CWI CWS
  go_upto_if 170 with (fail)
  go_cut [2, 31, 32, 33, 34, 35, 36] from 171 to 212 (fun r _ _ _ _ _ _ wx => r = .bool false ∧ Below w14.heap.size w14 wx)
  case first =>
    cases one
    · go_wp2_with fail
      go_meet
      exact ⟨rfl, Below.refl _ _⟩
    · obtain ⟨⟨hn2, hn24⟩, hcv, htu, hzl⟩ := HSF.out rfl
      have HCV := Lib.hid hcv
      have HTU := Lib.hid htu
      have HZL := Lib.hid hzl
      clear HSF hcv htu hzl
      have hHY0 := HY.out.c0
      have hHY1 := HY.out.c1
      go_wp2_with fail
      refine (CCY.out _ _ HS2.out).mono ?_
      rintro e wb ⟨rfl, hb⟩
      rw [HCV.out]
      replace HY := Lib.hid (HY.out.next hb)
      replace HS2 := Lib.hid (HS2.out.below hb)
      have HBB := Lib.hid hb
      clear hb hHY0 hHY1
      obtain ⟨sa, sc, hsv, _⟩ := HS2.out
      subst hsv
      have HO := Lib.hid (made_at wb wb.heap.size wb.heap.size rfl (Nat.le_refl _))
      have hHY0 := HY.out.c0
      go_wp2_with fail
      go_loopw [33, 34] (fun u i wr => ∃ k : Nat, (k : Int) ≤ n2 ∧ i = .int .i64 k ∧ wr.ownsRow wb.heap.size 3 1 u k (((upTo n2).take k).map iv) ∧ Below wb.heap.size wb wr) (fun _ i _ => n2.toNat - (intOf i).toNat)
      case atStart => exact ⟨0, by omega, rfl, HO.out, below_new wb _⟩
      case round =>
        obtain ⟨k, hk9, rfl, ho9, hb9⟩ := hrel
        clear HO hHY0
        have HO := Lib.hid ho9
        have HB9 := Lib.hid hb9
        have hbs := hb9.size
        clear ho9 hb9
        have hHY0 := (HY.out.next HB9.out).c0
        by_cases hlt : (k : Int) < n2
        · have HSN := Lib.hid (upTo_snoc n2 k (by omega))
          generalize hys : ((upTo n2).take k).map iv = yy at *
          have HYY := Lib.hid hys
          clear hys
          go_wp2_with (at_builtin; refine wpList_append_own _ rfl _ _ 26 rfl wb.heap.size 3 i0 (.int .i64 0) 1 8 Try.underlying26 hi hz0 hz1 hz2 rfl (by decide) _ _ _ rfl (HO.out.alloc _) ⟨wr.heap.size, 0, none⟩ 1 1 [.int .i64 k] rfl rfl (cell_one_new _ _ _) ?c2 ?c3 ?c4 ?c5 ?_)
          case c2 => intro u hu; simp at hu; subst hu; rfl
          case c3 => unfold maxLen; omega
          case c4 => omega
          case c5 => simp; omega
          intro v' w9 hown' hgrow _
          have HB8 := Lib.hid ((HB9.out.trans ((below_new wr _).mono hbs)).trans (below_grown hgrow (fun q e => (HO.out.lt q e).1) (by simp; omega)))
          have HO8 := Lib.hid hown'
          clear hgrow hown'
          go_wp2_with fail
          go_roundw
          case rel => exact ⟨k + 1, by omega, by go_num, by rw [HSN.out, List.map_append, HYY.out]; exact HO8.out, HB8.out⟩
          case measure => simp [intOf]; omega
        · have hke : k = n2.toNat := by omega
          have HR := Lib.hid (owns_reads (xs := upTo n2) (by rw [upTo_len, ← hke]; have h := HO.out; rw [hke, List.take_of_length_le (by rw [upTo_len]; omega), ← hke] at h; exact h) (by rw [upTo_len]; unfold maxLen; omega))
          have hHY1 := (HY.out.next HB9.out).c1
          have HTU := HTU
          go_wp2_with fail
          refine (CTY.out _ _ HR.out).mono ?_
          rintro e wd ⟨rfl, hb⟩
          rw [HTU.out]
          have HB8 := Lib.hid ((HBB.out.trans (HB9.out.mono HBB.out.size)).trans (hb.mono (Nat.le_trans HBB.out.size hbs)))
          clear hb hHY0 hHY1
          have hw1 : IntKind.i64.wrap ((zs2.length : Int) - 1) = (c2 : Int) := by rw [HZL.out]; simp; exact IntWalk.i64_in _ (by omega)
          go_wp2_with fail
          go_meet
          exact ⟨rfl, HB8.out⟩
  case rest =>
    obtain ⟨rfl, hb⟩ := hcut
    clear HY HS2 HSF CCY CTY
    replace HX := Lib.hid (HX.out.next hb)
    replace HZ := Lib.hid (HZ.out.next hb)
    replace HP := Lib.hid (HP.out.next hb)
    replace HW := Lib.hid (HW.out.below hb)
    replace HXS := Lib.hid (HXS.out.below hb)
    replace HYS := Lib.hid (HYS.out.below hb)
    replace HJ := Lib.hid (HJ.out.below hb)
    replace HUS := Lib.hid (HUS.out.below hb)
    replace HQ := Lib.hid (HQ.out.below hb)
    clear hb
    go_upto_if 213 with (fail)
    go_cut [2, 37, 38, 39, 40, 41, 42] from 214 to 259 (fun r _ _ _ _ _ _ wy => r = .bool false ∧ Below wc.heap.size wc wy)
    case first =>
      cases two
      · go_wp2_with fail
        go_meet
        exact ⟨rfl, Below.refl _ _⟩
      · obtain ⟨hs1, hs2, hs3, hln⟩ := HJF.out rfl
        have HS1 := Lib.hid hs1
        have HS2 := Lib.hid hs2
        have HS3 := Lib.hid hs3
        clear HJF hs1 hs2 hs3
        obtain ⟨xa, xc, hxv, _⟩ := HXS.out
        obtain ⟨ya, yc, hyv, _⟩ := HYS.out
        obtain ⟨ja, jc, hjv, _⟩ := HJ.out
        subst hxv hyv hjv
        have hHZ0 := HZ.out.c0
        have hHZ1 := HZ.out.c1
        go_wp2_with fail
        refine (CST.out _ _ _ HXS.out).mono ?_
        rintro e wb0 ⟨rfl, hb⟩
        rw [HS1.out]
        replace HZ := Lib.hid (HZ.out.next hb)
        replace HXS := Lib.hid (HXS.out.below hb)
        replace HYS := Lib.hid (HYS.out.below hb)
        replace HJ := Lib.hid (HJ.out.below hb)
        have HBB := Lib.hid hb
        clear hb hHZ0 hHZ1
        have hHZ0 := HZ.out.c0
        have hHZ1 := HZ.out.c1
        go_wp2_with fail
        refine (CST.out _ _ _ HYS.out).mono ?_
        rintro e wb1 ⟨rfl, hb⟩
        rw [HS2.out]
        replace HZ := Lib.hid (HZ.out.next hb)
        replace HXS := Lib.hid (HXS.out.below hb)
        replace HYS := Lib.hid (HYS.out.below hb)
        replace HJ := Lib.hid (HJ.out.below hb)
        replace HBB := Lib.hid (HBB.out.trans (hb.mono HBB.out.size))
        clear hb hHZ0 hHZ1
        have hHZ0 := HZ.out.c0
        have hHZ1 := HZ.out.c1
        go_wp2_with fail
        refine (CST.out _ _ _ HJ.out).mono ?_
        rintro e wb2 ⟨rfl, hb⟩
        rw [HS3.out]
        replace HZ := Lib.hid (HZ.out.next hb)
        replace HXS := Lib.hid (HXS.out.below hb)
        replace HYS := Lib.hid (HYS.out.below hb)
        replace HJ := Lib.hid (HJ.out.below hb)
        replace HBB := Lib.hid (HBB.out.trans (hb.mono HBB.out.size))
        clear hb hHZ0 hHZ1
        have hw1 : IntKind.i64.wrap ((a3 : Int) + (b3 : Int)) = ((a3 + b3 : Nat) : Int) := by rw [← Int.natCast_add]; exact IntWalk.i64_in _ (by omega)
        have hw2 : IntKind.i64.wrap ((xs.length : Int) + ys.length) = (xs.length : Int) + ys.length := IntWalk.i64_in _ (by omega)
        have hw3 : IntKind.i64.wrap ((xs.length : Int) + ys.length - 1) = (zs3.length : Int) := by rw [← hln]; exact IntWalk.i64_in _ (by omega)
        clear hln
        go_wp2_with fail
        go_meet
        exact ⟨rfl, HBB.out⟩
    case rest =>
      obtain ⟨rfl, hb⟩ := hcut
      clear HZ HXS HYS HJ HJF CST
      replace HX := Lib.hid (HX.out.next hb)
      replace HP := Lib.hid (HP.out.next hb)
      replace HW := Lib.hid (HW.out.below hb)
      replace HUS := Lib.hid (HUS.out.below hb)
      replace HQ := Lib.hid (HQ.out.below hb)
      clear hb
      go_upto_if 260 with (fail)
      go_cut [2, 43, 44, 45, 46] from 261 to 292 (fun r _ _ _ _ wy => r = .bool false ∧ Below wc.heap.size wc wy)
      case first =>
        cases three
        · go_wp2_with fail
          go_meet
          exact ⟨rfl, Below.refl _ _⟩
        · obtain ⟨⟨hm0, hm1⟩, hs1, hs2, hln⟩ := HQF.out rfl
          have HS1 := Lib.hid hs1
          have HS2 := Lib.hid hs2
          clear HQF hs1 hs2
          obtain ⟨ua, uc, huv, _⟩ := HUS.out
          obtain ⟨qa, qc, hqv, _⟩ := HQ.out
          subst huv hqv
          have hHP0 := HP.out.c0
          have hHP1 := HP.out.c1
          go_wp2_with fail
          refine (CSU.out _ _ _ HUS.out).mono ?_
          rintro e wb0 ⟨rfl, hb⟩
          rw [HS1.out]
          replace HP := Lib.hid (HP.out.next hb)
          replace HUS := Lib.hid (HUS.out.below hb)
          replace HQ := Lib.hid (HQ.out.below hb)
          have HBB := Lib.hid hb
          clear hb hHP0 hHP1
          have hHP0 := HP.out.c0
          have hHP1 := HP.out.c1
          go_wp2_with fail
          refine (CSU.out _ _ _ HQ.out).mono ?_
          rintro e wb1 ⟨rfl, hb⟩
          rw [HS2.out]
          replace HP := Lib.hid (HP.out.next hb)
          replace HUS := Lib.hid (HUS.out.below hb)
          replace HQ := Lib.hid (HQ.out.below hb)
          replace HBB := Lib.hid (HBB.out.trans (hb.mono HBB.out.size))
          clear hb hHP0 hHP1
          have hw2 : IntKind.i64.wrap ((us.length : Int) + m4) = (zs4.length : Int) := by rw [← hln]; exact IntWalk.i64_in _ (by omega)
          clear hln
          go_wp2_with fail
          go_meet
          exact ⟨rfl, HBB.out⟩
      case rest =>
        obtain ⟨rfl, hb⟩ := hcut
        clear HP HUS HQ HQF CSU
        replace HX := Lib.hid (HX.out.next hb)
        replace HW := Lib.hid (HW.out.below hb)
        have hHX0 := HX.out.c0
        have hHX1 := HX.out.c1
        clear hb
        cases ok
        · go_wp2_with fail
          go_ret
          exact ⟨rfl, HB1.out.trans (HX.out.below.mono HB1.out.size)⟩
        · obtain ⟨hrd, ⟨hpa0, hpa1⟩, hin, ⟨ht0, ht1⟩, hge, hem, t2, ht2, hle⟩ := HF.out rfl
          obtain ⟨hn2, hn24, _⟩ := (roadB_iff n g).1 hrd
          have HPP := Lib.hid (tour_place hrd ⟨hpa0, hpa1⟩ hin hge)
          have HT2 := Lib.hid ht2
          have HEM := Lib.hid hem
          have CGA := Lib.hid (fun p w => impl_GapOf n g a p w)
          clear hin hge ht2 hem hrd hpa0 hpa1 HF
          unfold rd at *
          obtain ⟨pa, pc, hpv, hpc, hpm, hpx⟩ := HW.out
          subst hpv
          clear hpx
          have hpc2 : (ps.length : Int) ≤ pc := by omega
          go_wp2_with fail
          go_loopw [2, 47, 48, 49, 50] (fun r m i _ _ wr => r = .bool false ∧ ∃ (k : Nat) (M : Int), k ≤ ps.length ∧ i = .int .i64 k ∧ m = .int .i64 M ∧ M ≤ tt ∧ Boxed wa.heap.size n g wa wr ∧ ReadsI wr (.slice pa ps.length pc) ps) (fun _ _ i _ _ _ => ps.length - (intOf i).toNat)
          case atStart => exact ⟨rfl, 0, 0, by omega, rfl, rfl, ht0, HX.out, HW.out⟩
          case round =>
            obtain ⟨rfl, k, M, hk9, rfl, rfl, hM, hx, hw⟩ := hrel
            clear hHX0 hHX1 HX HW
            have HX := Lib.hid hx
            have HW := Lib.hid hw
            clear hx hw
            have hHX0 := HX.out.c0
            have hHX1 := HX.out.c1
            by_cases hlt : k < ps.length
            · obtain ⟨p, hpk⟩ := get_some hlt
              obtain ⟨b, o, rfl, hbl, hcell⟩ := reads_at HW.out hpk
              obtain ⟨gp, hgq, hgp⟩ := HPP.out k p hpk
              have HG := Lib.hid hgq
              have hi0 : 0 ≤ (k : Int) := by omega
              have hi1 : (k : Int) < ps.length := by omega
              clear hpk hgq
              go_wp2_with fail
              refine wp_region_noPanic ?_
              refine wp_region_held_drew (S := fun w' => w'.cell? ⟨wa.heap.size, 0, none⟩ = some (.int .i64 n) ∧ w'.cell? ⟨wa.heap.size, 1, none⟩ = some (.bool g) ∧ w'.cell? ⟨b, o + k, none⟩ = some (.int .i64 p)) (by kernel_rfl) ⟨hHX0, hHX1, hcell⟩ (fun hHeld => ?_)
              refine wpAnyH_take (i := 0) (oi := _) (v := ?_) rfl (by kernel_rfl) (by kernel_rfl) (by kernel_rfl) (fun _ _ _ h => h) (Or.inl ⟨by rfl, ?_⟩) (by assumption) ?_
              rotate_left
              · (intro w hSw; (try dsimp only at hSw); (first | (go_simp; done) | (go_simp; with_reducible rfl)))
              simp only [Act.put, List.getElem_toArray, List.getElem_cons_succ, List.getElem_cons_zero, List.setIfInBounds_toArray, List.set_cons_zero, List.set_cons_succ]
              refine wpAnyH_take (i := 1) (oi := _) (v := ?_) rfl (by kernel_rfl) (by kernel_rfl) (by kernel_rfl) (fun _ _ _ h => h) (Or.inl ⟨by rfl, ?_⟩) (by assumption) ?_
              rotate_left
              · (intro w hSw; (try dsimp only at hSw); (first | (go_simp; done) | (go_simp; with_reducible rfl)))
              simp only [Act.put, List.getElem_toArray, List.getElem_cons_succ, List.getElem_cons_zero, List.setIfInBounds_toArray, List.set_cons_zero, List.set_cons_succ]
              refine wpAnyH_take (i := 2) (oi := _) (v := ?_) rfl (by kernel_rfl) (by kernel_rfl) (by kernel_rfl) (fun _ _ _ h => h) (Or.inl ⟨by rfl, ?_⟩) (by assumption) ?_
              rotate_left
              · (intro w hSw; (try dsimp only at hSw); (first | (go_simp; done) | (go_simp; with_reducible rfl)))
              simp only [Act.put, List.getElem_toArray, List.getElem_cons_succ, List.getElem_cons_zero, List.setIfInBounds_toArray, List.set_cons_zero, List.set_cons_succ]
              refine wpAnyH_take (i := 3) (oi := _) (v := ?_) rfl (by kernel_rfl) (by kernel_rfl) (by kernel_rfl) (fun _ _ _ h => h) (Or.inl ⟨by rfl, ?_⟩) (by assumption) ?_
              rotate_left
              · (intro w hSw; (try dsimp only at hSw); (first | (go_simp; done) | (go_simp; with_reducible rfl)))
              simp only [Act.put, List.getElem_toArray, List.getElem_cons_succ, List.getElem_cons_zero, List.setIfInBounds_toArray, List.set_cons_zero, List.set_cons_succ]
              refine wpAnyH_take (i := 4) (oi := _) (v := ?_) rfl (by kernel_rfl) (by kernel_rfl) (by kernel_rfl) (fun _ _ _ h => h) (Or.inl ⟨by rfl, ?_⟩) (by assumption) ?_
              rotate_left
              · (intro w hSw; (try dsimp only at hSw); (first | (go_simp; done) | (go_simp; with_reducible rfl)))
              simp only [Act.put, List.getElem_toArray, List.getElem_cons_succ, List.getElem_cons_zero, List.setIfInBounds_toArray, List.set_cons_zero, List.set_cons_succ]
              refine wpAnyH_take (i := 5) (oi := _) (v := ?_) rfl (by kernel_rfl) (by kernel_rfl) (by kernel_rfl) (fun _ _ _ h => h) (Or.inl ⟨by rfl, ?_⟩) (by assumption) ?_
              rotate_left
              · (intro w hSw; (try dsimp only at hSw); (first | (go_simp; done) | (go_simp; with_reducible rfl)))
              simp only [Act.put, List.getElem_toArray, List.getElem_cons_succ, List.getElem_cons_zero, List.setIfInBounds_toArray, List.set_cons_zero, List.set_cons_succ]
              refine wpAnyH_ready (rs := [6]) (by kernel_rfl) (by simp) ?_
              refine AllReadyH.cons rfl (fun K hK => ?_) AllReadyH.nil
              go_simp
              refine (CGA.out p _).mono ?_
              rintro e w50 ⟨rfl, hb⟩
              rw [HG.out]
              have HX := Lib.hid (HX.out.next ((below_drewN wr 1).trans (hb.mono (below_drewN wr 1).size)))
              have HW := Lib.hid (HW.out.below ((below_drewN wr 1).trans (hb.mono (below_drewN wr 1).size)))
              have hc9 := (hb.cell (p := ⟨b, o + k, none⟩) hbl).trans hHeld.2.2
              clear hb
              go_wp2_with fail
              refine hK.out _ _ (⟨HX.out.c0, HX.out.c1, hc9⟩) (fun hHeld => ?_)
              clear hK K
              refine wpAnyH_take (i := 7) (oi := _) (v := ?_) rfl (by kernel_rfl) (by kernel_rfl) (by kernel_rfl) (fun _ _ _ h => h) (Or.inl ⟨by rfl, ?_⟩) (by assumption) ?_
              rotate_left
              · (intro w hSw; (try dsimp only at hSw); (first | (go_simp; done) | (go_simp; with_reducible rfl)))
              simp only [Act.put, List.getElem_toArray, List.getElem_cons_succ, List.getElem_cons_zero, List.setIfInBounds_toArray, List.set_cons_zero, List.set_cons_succ]
              refine wpAnyH_take (i := 8) (oi := _) (v := ?_) rfl (by kernel_rfl) (by kernel_rfl) (by kernel_rfl) (fun _ _ _ h => h) (Or.inl ⟨by rfl, ?_⟩) (by assumption) ?_
              rotate_left
              · (intro w hSw; (try dsimp only at hSw); (first | (go_simp; done) | (go_simp; with_reducible rfl)))
              simp only [Act.put, List.getElem_toArray, List.getElem_cons_succ, List.getElem_cons_zero, List.setIfInBounds_toArray, List.set_cons_zero, List.set_cons_succ]
              refine wpAnyH_take (i := 9) (oi := _) (v := ?_) rfl (by kernel_rfl) (by kernel_rfl) (by kernel_rfl) (fun _ _ _ h => h) (Or.inl ⟨by rfl, ?_⟩) (by assumption) ?_
              rotate_left
              · (intro w hSw; (try dsimp only at hSw); (first | (go_simp; done) | (go_simp; with_reducible rfl)))
              simp only [Act.put, List.getElem_toArray, List.getElem_cons_succ, List.getElem_cons_zero, List.setIfInBounds_toArray, List.set_cons_zero, List.set_cons_succ]
              refine wpAnyH_take (i := 10) (oi := _) (v := ?_) rfl (by kernel_rfl) (by kernel_rfl) (by kernel_rfl) (fun _ _ _ h => h) (Or.inl ⟨by rfl, ?_⟩) (by assumption) ?_
              rotate_left
              · (intro w hSw; (try dsimp only at hSw); (first | (go_simp; done) | (go_simp; with_reducible rfl)))
              simp only [Act.put, List.getElem_toArray, List.getElem_cons_succ, List.getElem_cons_zero, List.setIfInBounds_toArray, List.set_cons_zero, List.set_cons_succ]
              refine wpAnyH_take (i := 11) (oi := _) (v := ?_) rfl (by kernel_rfl) (by kernel_rfl) (by kernel_rfl) (fun _ _ _ h => h) (Or.inl ⟨by rfl, ?_⟩) (by assumption) ?_
              rotate_left
              · (intro w hSw; (try dsimp only at hSw); (first | (go_simp; done) | (go_simp; with_reducible rfl)))
              simp only [Act.put, List.getElem_toArray, List.getElem_cons_succ, List.getElem_cons_zero, List.setIfInBounds_toArray, List.set_cons_zero, List.set_cons_succ]
              refine wpAnyH_done (by kernel_rfl) ?_ _
              refine NoPanic.normal ?_
              clear hHeld hHX0 hHX1 hcell hc9
              by_cases hgm : M < gp
              · go_wp2_with fail
                go_roundw
                case rel => exact ⟨rfl, k + 1, gp, by omega, by go_num, rfl, hgp, HX.out, HW.out⟩
                case measure => simp [intOf]; omega
              · go_wp2_with fail
                go_roundw
                case rel => exact ⟨rfl, k + 1, M, by omega, by go_num, rfl, hM, HX.out, HW.out⟩
                case measure => simp [intOf]; omega
            · have hnt : ¬ tt < M := by omega
              by_cases hp0 : ps.length = 0
              · have hpn : ps = [] := List.length_eq_zero_iff.1 hp0
                have ht9 := HEM.out hpn
                subst ht9
                go_wp2_with fail
                go_ret
                exact ⟨rfl, HB1.out.trans (HX.out.below.mono HB1.out.size)⟩
              · have hpb : ((ps.length : Int) == 0) = false := beq_false_of_ne (by omega)
                have hle2 : decide (t2 ≤ tt) = true := decide_eq_true hle
                obtain ⟨p, hpk⟩ := get_some (xs := ps) (k := 0) (by omega)
                obtain ⟨b, o, rfl, _, _⟩ := reads_at HW.out hpk
                have hi2 : 1 ≤ (ps.length : Int) := by omega
                have hi3 : 1 ≤ ps.length := by omega
                have hi4 : 1 ≤ pc := by omega
                have hi5 : (1 : Int) ≤ pc := by omega
                clear hpk
                go_wp2_with fail
                refine wp_region_noPanic ?_
                refine wp_region_held_drew (S := fun w' => Below wr.heap.size wr w' ∧ w'.cell? ⟨wa.heap.size, 0, none⟩ = some (.int .i64 n) ∧ w'.cell? ⟨wa.heap.size, 1, none⟩ = some (.bool g)) (by kernel_rfl) ⟨below_drewN wr 1, hHX0, hHX1⟩ (fun hHeld => ?_)
                refine wpAnyH_take (i := 0) (oi := _) (v := ?_) rfl (by kernel_rfl) (by kernel_rfl) (by kernel_rfl) (fun _ _ _ h => h) (Or.inl ⟨by rfl, ?_⟩) (by assumption) ?_
                rotate_left
                · (intro w hSw; (try dsimp only at hSw); (first | (go_simp; done) | (go_simp; with_reducible rfl)))
                simp only [Act.put, List.getElem_toArray, List.getElem_cons_succ, List.getElem_cons_zero, List.setIfInBounds_toArray, List.set_cons_zero, List.set_cons_succ]
                refine wpAnyH_take (i := 1) (oi := _) (v := ?_) rfl (by kernel_rfl) (by kernel_rfl) (by kernel_rfl) (fun _ _ _ h => h) (Or.inl ⟨by rfl, ?_⟩) (by assumption) ?_
                rotate_left
                · (intro w hSw; (try dsimp only at hSw); (first | (go_simp; done) | (go_simp; with_reducible rfl)))
                simp only [Act.put, List.getElem_toArray, List.getElem_cons_succ, List.getElem_cons_zero, List.setIfInBounds_toArray, List.set_cons_zero, List.set_cons_succ]
                refine wpAnyH_take (i := 2) (oi := _) (v := ?_) rfl (by kernel_rfl) (by kernel_rfl) (by kernel_rfl) (fun _ _ _ h => h) (Or.inl ⟨by rfl, ?_⟩) (by assumption) ?_
                rotate_left
                · (intro w hSw; (try dsimp only at hSw); (first | (go_simp; done) | (go_simp; with_reducible rfl)))
                simp only [Act.put, List.getElem_toArray, List.getElem_cons_succ, List.getElem_cons_zero, List.setIfInBounds_toArray, List.set_cons_zero, List.set_cons_succ]
                refine wpAnyH_take (i := 3) (oi := _) (v := ?_) rfl (by kernel_rfl) (by kernel_rfl) (by kernel_rfl) (fun _ _ _ h => h) (Or.inl ⟨by rfl, ?_⟩) (by assumption) ?_
                rotate_left
                · (intro w hSw; (try dsimp only at hSw); (first | (go_simp; done) | (go_simp; with_reducible rfl)))
                simp only [Act.put, List.getElem_toArray, List.getElem_cons_succ, List.getElem_cons_zero, List.setIfInBounds_toArray, List.set_cons_zero, List.set_cons_succ]
                have HTL := Lib.hid (reads_tail (HW.out.below (below_drewN wr 1)) hi3)
                generalize (if pc = 1 then some ({ block := b, off := o } : Addr) else some ({ block := b, off := o + 1 } : Addr)) = ad at *
                refine wpAnyH_ready (rs := [4]) (by kernel_rfl) (by simp) ?_
                refine AllReadyH.cons rfl (fun K hK => ?_) AllReadyH.nil
                go_simp
                refine (CTI.out _ (ps.drop 1) _ HTL.out).mono ?_
                rintro e w50 ⟨rfl, hb⟩
                rw [HT2.out]
                have HX := Lib.hid (HX.out.next ((below_drewN wr 1).trans (hb.mono (below_drewN wr 1).size)))
                have HBW := Lib.hid ((below_drewN wr 1).trans (hb.mono (below_drewN wr 1).size))
                clear hb
                go_wp2_with fail
                refine hK.out _ _ (⟨HBW.out, HX.out.c0, HX.out.c1⟩) (fun hHeld => ?_)
                clear hK K
                refine wpAnyH_take (i := 5) (oi := _) (v := ?_) rfl (by kernel_rfl) (by kernel_rfl) (by kernel_rfl) (fun _ _ _ h => h) (Or.inl ⟨by rfl, ?_⟩) (by assumption) ?_
                rotate_left
                · (intro w hSw; (try dsimp only at hSw); (first | (go_simp; done) | (go_simp; with_reducible rfl)))
                simp only [Act.put, List.getElem_toArray, List.getElem_cons_succ, List.getElem_cons_zero, List.setIfInBounds_toArray, List.set_cons_zero, List.set_cons_succ]
                refine wpAnyH_take (i := 6) (oi := _) (v := ?_) rfl (by kernel_rfl) (by kernel_rfl) (by kernel_rfl) (fun _ _ _ h => h) (Or.inl ⟨by rfl, ?_⟩) (by assumption) ?_
                rotate_left
                · (intro w hSw; (try dsimp only at hSw); (first | (go_simp; done) | (go_simp; with_reducible rfl)))
                simp only [Act.put, List.getElem_toArray, List.getElem_cons_succ, List.getElem_cons_zero, List.setIfInBounds_toArray, List.set_cons_zero, List.set_cons_succ]
                refine wpAnyH_take (i := 7) (oi := _) (v := ?_) rfl (by kernel_rfl) (by kernel_rfl) (by kernel_rfl) (fun _ _ _ h => h) (Or.inl ⟨by rfl, ?_⟩) (by assumption) ?_
                rotate_left
                · (intro w hSw; (try dsimp only at hSw); (first | (go_simp; done) | (go_simp; with_reducible rfl)))
                simp only [Act.put, List.getElem_toArray, List.getElem_cons_succ, List.getElem_cons_zero, List.setIfInBounds_toArray, List.set_cons_zero, List.set_cons_succ]
                refine wpAnyH_take (i := 8) (oi := _) (v := ?_) rfl (by kernel_rfl) (by kernel_rfl) (by kernel_rfl) (fun _ _ _ h => h) (Or.inl ⟨by rfl, ?_⟩) (by assumption) ?_
                rotate_left
                · (intro w hSw; (try dsimp only at hSw); (first | (go_simp; done) | (go_simp; with_reducible rfl)))
                simp only [Act.put, List.getElem_toArray, List.getElem_cons_succ, List.getElem_cons_zero, List.setIfInBounds_toArray, List.set_cons_zero, List.set_cons_succ]
                refine wpAnyH_take (i := 9) (oi := _) (v := ?_) rfl (by kernel_rfl) (by kernel_rfl) (by kernel_rfl) (fun _ _ _ h => h) (Or.inl ⟨by rfl, ?_⟩) (by assumption) ?_
                rotate_left
                · (intro w hSw; (try dsimp only at hSw); (first | (go_simp; done) | (go_simp; with_reducible rfl)))
                simp only [Act.put, List.getElem_toArray, List.getElem_cons_succ, List.getElem_cons_zero, List.setIfInBounds_toArray, List.set_cons_zero, List.set_cons_succ]
                refine wpAnyH_done (by kernel_rfl) ?_ _
                refine NoPanic.normal ?_
                clear hHeld
                go_wp2_with fail
                go_ret
                exact ⟨by first | rfl | simp [hle2], HB1.out.trans (HX.out.below.mono HB1.out.size)⟩
end Go.Proofs.Ytiokgnabiidlbaa
