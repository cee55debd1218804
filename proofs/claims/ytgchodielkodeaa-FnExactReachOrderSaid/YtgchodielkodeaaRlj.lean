/-
  What is proved: OrderReach of the model and of the program. Conditions: lists that read as carriers and as numbers.
-/
import Derived.Test.YtgchodielkodeaaRli
namespace Go.Proofs.Ytgchodielkodeaa
open Go.RowKit
set_option linter.unusedVariables false
set_option linter.unusedSimpArgs false

def oreachB (n : Int) (g : Bool) (cs : List Cr) (os : List Int) (a : Int) : Bool := csB n g cs && (ordC cs.length os && placeB n g a)
def oreachR (n : Int) (g : Bool) (cs : List Cr) (os : List Int) (a : Int) : Int × Bool := if oreachB n g cs os a then (rchF n cs a os, true) else (0, false)
theorem oreachR_no {n : Int} {g : Bool} {cs : List Cr} {os : List Int} {a : Int} (h : oreachB n g cs os a = false) : oreachR n g cs os a = (0, false) := by
  unfold oreachR
  rw [h]
  rfl
theorem oreachR_yes {n : Int} {g : Bool} {cs : List Cr} {os : List Int} {a : Int} (h : oreachB n g cs os a = true) : oreachR n g cs os a = (rchF n cs a os, true) := by
  unfold oreachR
  rw [h]
  rfl
theorem csB_line {n : Int} {g : Bool} {cs : List Cr} (h : csB n g cs = true) : g = false ∧ roadB n g = true := by
  have h1 := ((csB_iff n g cs).1 h).1
  have h2 := (straightB_iff n g).1 h1
  refine ⟨h2.2.2, ?_⟩
  unfold straightB at h1
  cases hr : roadB n g
  · rw [hr] at h1
    cases h1
  · rfl
theorem ask_same {n : Int} {g : Bool} {cs : List Cr} {a : Int} : askB n g cs a a = (csB n g cs && placeB n g a) := by
  rw [Bool.eq_iff_iff, askB_iff, Bool.and_eq_true, placeB_iff]
  constructor
  · intro h
    exact ⟨h.1, (csB_line h.1).2, h.2.1, h.2.2.2⟩
  · intro h
    exact ⟨h.1, h.2.2.1, Int.le_refl _, h.2.2.2⟩
set_option maxHeartbeats 800000 in
theorem spec_OrderReach (n : Int) (g : Bool) (v1 : Value) (cs : List Cr) (v2 : Value) (os : List Int) (a : Int) (w : World) (h1 : ReadsC w v1 cs) (h2 : ReadsI w v2 os) :
    Calls Try.prog 28 #[rd n g, v1, v2, .int .i64 a] w fun e w' => e = .returned (.tuple #[.int .i64 (oreachR n g cs os a).1, .bool (oreachR n g cs os a).2]) ∧ Below w.heap.size w w' := by
  have HC := Lib.hid (fun w hv => l7Carriers_any n g v1 cs w hv)
  have HO := Lib.hid (fun w hv hm => l7Order_any cs.length v2 os w hv hm)
  have HP := Lib.hid (fun w => l2Place_any n g a w)
  have HR := Lib.hid (fun w h1 h2 hc ho ha => l7Reach_any n v1 v2 cs os a w h1 h2 hc ho ha)
  have H1 := Lib.hid h1
  have H2 := Lib.hid h2
  have HX := Lib.hid (Boxed.first w n g 28)
  have HN := Lib.hid (fun h => oreachR_no (n := n) (g := g) (cs := cs) (os := os) (a := a) h)
  have HY := Lib.hid (fun h => oreachR_yes (n := n) (g := g) (cs := cs) (os := os) (a := a) h)
  have HD := Lib.hid (show oreachB n g cs os a = (csB n g cs && (ordC cs.length os && placeB n g a)) from rfl)
  obtain ⟨y1, c1, hv1, _, hm1, _⟩ := h1
  subst hv1
  obtain ⟨y2, c2, hv2, _, hm2, _⟩ := h2
  subst hv2
  unfold maxLen at hm1 hm2
  unfold rd at *
  go_enter Try.func28, Try.ntmps28
  go_wp2_with fail
  refine (HC.out _ (H1.out.below HX.out.below)).mono ?_
  rintro e w1 ⟨rfl, hb⟩
  replace HX := Lib.hid (HX.out.next hb)
  clear hb
  have h0 := HX.out.c0
  have h1 := HX.out.c1
  cases hc : csB n g cs
  · have HE := Lib.hid (HN.out (by rw [HD.out, hc]; rfl))
    go_wp2_with fail
    go_ret2
    exact ⟨ret_int_bool (by rw [HE.out]) (by rw [HE.out]), HX.out.below⟩
  · have HCS := Lib.hid hc
    obtain ⟨hg, _⟩ := csB_line hc
    subst hg
    have HW := Lib.hid (csB_wk hc)
    have hl6 := (csB_wk hc).2.1
    clear hc
    go_wp2_with fail
    refine (HO.out _ (H2.out.below HX.out.below) (by omega)).mono ?_
    rintro e w2 ⟨rfl, hb⟩
    replace HX := Lib.hid (HX.out.next hb)
    clear hb h0 h1
    have h0 := HX.out.c0
    have h1 := HX.out.c1
    cases ho : ordC cs.length os
    · have HE := Lib.hid (HN.out (by rw [HD.out, HCS.out, ho]; rfl))
      go_wp2_with fail
      go_ret2
      exact ⟨ret_int_bool (by rw [HE.out]) (by rw [HE.out]), HX.out.below⟩
    · have HOS := Lib.hid ho
      clear ho
      go_wp2_with fail
      refine (HP.out _).mono ?_
      rintro e w3 ⟨rfl, hb⟩
      replace HX := Lib.hid (HX.out.next hb)
      clear hb h0 h1
      have h0 := HX.out.c0
      have h1 := HX.out.c1
      cases hp : placeB n false a
      · have HE := Lib.hid (HN.out (by rw [HD.out, HCS.out, HOS.out, hp]; rfl))
        go_wp2_with fail
        go_ret2
        exact ⟨ret_int_bool (by rw [HE.out]) (by rw [HE.out]), HX.out.below⟩
      · have HE := Lib.hid (HY.out (by rw [HD.out, HCS.out, HOS.out, hp]; rfl))
        have HA := Lib.hid ((placeB_iff n false a).1 hp).2
        clear hp
        go_wp2_with fail
        refine (HR.out _ (H1.out.below HX.out.below) (H2.out.below HX.out.below) HW.out HOS.out HA.out).mono ?_
        rintro e w4 ⟨rfl, hb⟩
        replace HX := Lib.hid (HX.out.next hb)
        clear hb h0 h1
        go_wp2_with fail
        go_ret2
        exact ⟨ret_int_bool (by rw [HE.out]) (by rw [HE.out]), HX.out.below⟩
set_option maxHeartbeats 800000 in
theorem impl_OrderReach (n : Int) (g : Bool) (v1 : Value) (cs : List Cr) (v2 : Value) (os : List Int) (a : Int) (w : World) (h1 : ReadsC w v1 cs) (h2 : ReadsI w v2 os) :
    Calls Try.prog 30 #[rd n g, v1, v2, .int .i64 a] w fun e w' => e = .returned (.tuple #[.int .i64 (oreachR n g cs os a).1, .bool (oreachR n g cs os a).2]) ∧ Below w.heap.size w w' := by
  have HC := Lib.hid (fun w hv => (by have := isValidE_any n g v1 cs a a w hv; rwa [ask_same] at this : Calls Try.prog 76 #[erV n g v1 a a] w fun e w' => e = .returned (.bool (csB n g cs && placeB n g a)) ∧ Below w.heap.size w w'))
  have HO := Lib.hid (fun y1 c1 w hv => isOrderE_any n g y1 cs.length c1 a a v2 os w hv)
  have HR := Lib.hid (fun w h1 h2 hc ho ha => reachE_any n g v1 v2 cs os a a w h1 h2 hc ho ha)
  have H1 := Lib.hid h1
  have H2 := Lib.hid h2
  have HN := Lib.hid (fun h => oreachR_no (n := n) (g := g) (cs := cs) (os := os) (a := a) h)
  have HY := Lib.hid (fun h => oreachR_yes (n := n) (g := g) (cs := cs) (os := os) (a := a) h)
  have HD := Lib.hid (show oreachB n g cs os a = (csB n g cs && (ordC cs.length os && placeB n g a)) from rfl)
  obtain ⟨y1, c1, hv1, _, hm1, _⟩ := h1
  subst hv1
  obtain ⟨y2, c2, hv2, _, hm2, _⟩ := h2
  subst hv2
  have HW := Lib.hid ((below_new w (.cells #[.int .i64 n, .bool g] 28)).trans ((below_new _ (.cells (erC n g (.slice y1 cs.length c1) a a) 80)).mono (by simp)))
  have HB := Lib.hid (blk_at (w.alloc (.cells #[.int .i64 n, .bool g] 28)) (erC n g (.slice y1 cs.length c1) a a) 80 (w.heap.size + 1) (by simp))
  unfold maxLen at hm1 hm2
  unfold rd erV erC at *
  go_enter Try.func30, Try.ntmps30
  go_wp2_with fail
  refine (HC.out _ (H1.out.below HW.out)).mono ?_
  rintro e w1 ⟨rfl, hb⟩
  replace HW := Lib.hid (HW.out.trans (hb.mono HW.out.size))
  replace HB := Lib.hid (HB.out.below hb)
  clear hb
  have e0 := HB.out.cell 0
  have e1 := HB.out.cell 1
  have e2 := HB.out.cell 2
  have e3 := HB.out.cell 3
  have e4 := HB.out.cell 4
  cases hc : (csB n g cs && placeB n g a)
  · have HE := Lib.hid (HN.out (by rw [HD.out]; rw [Bool.and_eq_false_iff] at hc; rcases hc with h | h <;> rw [h] <;> simp))
    go_wp2_with fail
    go_ret2
    exact ⟨ret_int_bool (by rw [HE.out]) (by rw [HE.out]), HW.out⟩
  · have HCP := Lib.hid (Bool.and_eq_true_iff.1 hc)
    clear hc
    go_wp2_with fail
    refine (HO.out _ _ _ (H2.out.below HW.out)).mono ?_
    rintro e w2 ⟨rfl, hb⟩
    replace HW := Lib.hid (HW.out.trans (hb.mono HW.out.size))
    replace HB := Lib.hid (HB.out.below hb)
    clear hb e0 e1 e2 e3 e4
    have e0 := HB.out.cell 0
    have e1 := HB.out.cell 1
    have e2 := HB.out.cell 2
    have e3 := HB.out.cell 3
    have e4 := HB.out.cell 4
    cases ho : ordC cs.length os
    · have HE := Lib.hid (HN.out (by rw [HD.out, ho]; simp))
      go_wp2_with fail
      go_ret2
      exact ⟨ret_int_bool (by rw [HE.out]) (by rw [HE.out]), HW.out⟩
    · have HE := Lib.hid (HY.out (by rw [HD.out, HCP.out.1, HCP.out.2, ho]; rfl))
      have HOS := Lib.hid ho
      clear ho
      go_wp2_with fail
      refine (HR.out _ (H1.out.below HW.out) (H2.out.below HW.out) (csB_wk HCP.out.1) HOS.out ((placeB_iff n g a).1 HCP.out.2).2).mono ?_
      rintro e w3 ⟨rfl, hb⟩
      replace HW := Lib.hid (HW.out.trans (hb.mono HW.out.size))
      clear hb e0 e1 e2 e3 e4
      go_wp2_with fail
      go_ret2
      exact ⟨ret_int_bool (by rw [HE.out]) (by rw [HE.out]), HW.out⟩
end Go.Proofs.Ytgchodielkodeaa
