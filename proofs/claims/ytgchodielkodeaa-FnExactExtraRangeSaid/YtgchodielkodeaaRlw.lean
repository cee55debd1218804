/-
  What is proved: GreatestReach of the program. Conditions: lists that read as carriers.
-/
import Derived.Test.YtgchodielkodeaaRlm
namespace Go.Proofs.Ytgchodielkodeaa
open Go.RowKit
set_option linter.unusedVariables false
set_option linter.unusedSimpArgs false

set_option maxHeartbeats 800000 in
set_option maxRecDepth 20000 in
theorem greatestE_any (n : Int) (g : Bool) (v : Value) (cs : List Cr) (a b : Int) (w : World) (hv : ReadsC w v cs) (hc : WkL n cs) (ha : 0 ≤ a ∧ a < n) :
    Calls Try.prog 80 #[erV n g v a b] w fun e w' => e = .returned (.int .i64 (grF n cs a)) ∧ Below w.heap.size w w' := by
  obtain ⟨P, hP⟩ : ∃ P : Nat, 2 ^ cs.length = P := ⟨_, rfl⟩
  have hp6 := pow_le hc.2.1
  have hp1 : 1 ≤ 2 ^ cs.length := Nat.two_pow_pos _
  have HGA := Lib.hid (grF_at (n := n) (cs := cs) (a := a))
  rw [hP] at hp6 hp1 HGA
  have HNB := Lib.hid (fun w => newBySet_any cs.length P a w hc.2.1 hP)
  have HSP := Lib.hid (fun base gb (W : World) h2 h3 h4 h5 => spread_any n g v cs a b base gb w.heap.size P w W hP hv h2 h3 (Nat.le_refl _) h4 h5 hc ha)
  have HOA := Lib.hid (fun gb z w hcell => ofAll_any gb P z w hp1 hp6 hcell)
  obtain ⟨y1, c1, hv1, _, hm1, _⟩ := hv
  subst hv1
  have HW := Lib.hid (below_new w (.cells (erC n g (.slice y1 cs.length c1) a b) 80))
  have HB := Lib.hid (blk_new w (erC n g (.slice y1 cs.length c1) a b) 80)
  clear hP hm1 hc ha
  unfold erV erC at *
  go_enter Try.func80, Try.ntmps80
  go_wp2_with fail
  refine (HNB.out _).mono ?_
  rintro e w1 ⟨gb, rfl, ho, hb⟩
  have hgl := (owns_block ho gb rfl).1
  have hgz := (owns_block ho gb rfl).2
  have HW1 := Lib.hid (HW.out.trans (hb.mono HW.out.size))
  have HB1 := Lib.hid (HB.out.below hb)
  have HO := Lib.hid ho
  have hgl2 : w.heap.size < gb := by simp at hgl; omega
  have HGL := Lib.hid hgl2
  have HGZ := Lib.hid hgz
  clear ho hb hgl hgz hgl2
  go_wp2_with fail
  refine (HSP.out _ gb w1 HW1.out HB1.out HGL.out HO.out).mono ?_
  rintro e w2 ⟨⟨u, rfl⟩, ho, hb⟩
  have HW2 := Lib.hid (HW1.out.trans (hb.mono (Nat.le_of_lt HGL.out)))
  have hcell := (ho.cellAt (P - 1) (by omega)).trans (show ((tabF n cs a P).map iv)[P - 1]? = some (.int .i64 (grF n cs a)) by rw [List.getElem?_map, HGA.out]; rfl)
  have HCE := Lib.hid hcell
  clear ho hb hcell
  go_wp2_with fail
  refine (HOA.out gb _ _ HCE.out).mono ?_
  rintro e w3 ⟨rfl, rfl⟩
  go_wp2_with fail
  go_ret
  exact ⟨rfl, HW2.out⟩
set_option maxHeartbeats 800000 in
theorem impl_GreatestReach (n : Int) (g : Bool) (v1 : Value) (cs : List Cr) (a : Int) (w : World) (h1 : ReadsC w v1 cs) :
    Calls Try.prog 33 #[rd n g, v1, .int .i64 a] w fun e w' => e = .returned (.tuple #[.int .i64 (greatR n g cs a).1, .bool (greatR n g cs a).2]) ∧ Below w.heap.size w w' := by
  have HC := Lib.hid (fun w hv => (by have := isValidE_any n g v1 cs a a w hv; rwa [ask_same] at this : Calls Try.prog 76 #[erV n g v1 a a] w fun e w' => e = .returned (.bool (csB n g cs && placeB n g a)) ∧ Below w.heap.size w w'))
  have HG := Lib.hid (fun w h1 hc ha => greatestE_any n g v1 cs a a w h1 hc ha)
  have H1 := Lib.hid h1
  have HN := Lib.hid (fun h => greatR_no (n := n) (g := g) (cs := cs) (a := a) h)
  have HY := Lib.hid (fun h => greatR_yes (n := n) (g := g) (cs := cs) (a := a) h)
  obtain ⟨y1, c1, hv1, _, hm1, _⟩ := h1
  subst hv1
  clear hm1
  have HW := Lib.hid ((below_new w (.cells #[.int .i64 n, .bool g] 28)).trans ((below_new _ (.cells (erC n g (.slice y1 cs.length c1) a a) 80)).mono (by simp)))
  have HB := Lib.hid (blk_at (w.alloc (.cells #[.int .i64 n, .bool g] 28)) (erC n g (.slice y1 cs.length c1) a a) 80 (w.heap.size + 1) (by simp))
  unfold rd erV erC at *
  go_enter Try.func33, Try.ntmps33
  go_wp2_with fail
  refine (HC.out _ (H1.out.below HW.out)).mono ?_
  rintro e w1 ⟨rfl, hb⟩
  replace HW := Lib.hid (HW.out.trans (hb.mono HW.out.size))
  replace HB := Lib.hid (HB.out.below hb)
  clear hb
  have e0 := HB.out.cell 0
  have e1 := HB.out.cell 1
  have e2 := HB.out.cell 2
  have e3 := HB.out.cell 3
  have e4 := HB.out.cell 4
  cases hc : (csB n g cs && placeB n g a)
  · have HE := Lib.hid (HN.out hc)
    clear hc
    go_wp2_with fail
    go_ret2
    exact ⟨ret_int_bool (by rw [HE.out]) (by rw [HE.out]), HW.out⟩
  · have HE := Lib.hid (HY.out hc)
    have HCP := Lib.hid (Bool.and_eq_true_iff.1 hc)
    clear hc
    go_wp2_with fail
    refine (HG.out _ (H1.out.below HW.out) (csB_wk HCP.out.1) ((placeB_iff n g a).1 HCP.out.2).2).mono ?_
    rintro e w3 ⟨rfl, hb⟩
    replace HW := Lib.hid (HW.out.trans (hb.mono HW.out.size))
    clear hb e0 e1 e2 e3 e4
    go_wp2_with fail
    go_ret2
    exact ⟨ret_int_bool (by rw [HE.out]) (by rw [HE.out]), HW.out⟩
end Go.Proofs.Ytgchodielkodeaa
