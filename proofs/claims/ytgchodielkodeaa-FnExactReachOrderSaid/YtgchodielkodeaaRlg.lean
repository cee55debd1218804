/-
  What is proved: LegEnd of the model and of the program. Conditions: those of each contract.
-/
import Derived.Test.YtgchodielkodeaaRlf
namespace Go.Proofs.Ytgchodielkodeaa
open Go.RowKit
set_option linter.unusedVariables false
set_option linter.unusedSimpArgs false

/-- a carrier on a line and a place of it -/
def legOK (n : Int) (g : Bool) (c : Cr) (x : Int) : Bool := crB n g c && placeB n g x
def lendR (n : Int) (g : Bool) (c : Cr) (x : Int) : Int × Bool := if legOK n g c x && decide (x ≤ endI n c x) then (endI n c x, true) else (0, false)
theorem crB_one (n : Int) (g : Bool) (c : Cr) : csB n g [c] = crB n g c := by
  rw [csB_one]
  unfold straightB crB onB lineB placeB
  cases roadB n g <;> cases g <;> simp
theorem crB_ok {n : Int} {g : Bool} {c : Cr} (h : crB n g c = true) : g = false ∧ CrOK n c := by
  have h1 : csB n g [c] = true := by rw [crB_one]; exact h
  have h2 := (straightB_iff n g).1 ((csB_iff n g [c]).1 h1).1
  exact ⟨h2.2.2, csB_ok (j := 0) h1 rfl⟩
theorem lendR_no {n : Int} {g : Bool} {c : Cr} {x : Int} (h : (legOK n g c x && decide (x ≤ endI n c x)) = false) : lendR n g c x = (0, false) := by
  unfold lendR
  rw [h]
  rfl
theorem lendR_yes {n : Int} {g : Bool} {c : Cr} {x : Int} (h : (legOK n g c x && decide (x ≤ endI n c x)) = true) : lendR n g c x = (endI n c x, true) := by
  unfold lendR
  rw [h]
  rfl
set_option maxHeartbeats 800000 in
theorem spec_LegEnd (n : Int) (g : Bool) (c : Cr) (x : Int) (w : World) :
    Calls Try.prog 25 #[rd n g, crv c, .int .i64 x] w fun e w' => e = .returned (.tuple #[.int .i64 (lendR n g c x).1, .bool (lendR n g c x).2]) ∧ Below w.heap.size w w' := by
  have HC := Lib.hid (fun w => l7Carrier_any n g c w)
  have HP := Lib.hid (fun w => l2Place_any n g x w)
  have HE := Lib.hid (fun w h hx => l7End_any n c x w h hx)
  have HX := Lib.hid ((Boxed.first w n g 28).next (below_new _ (.cells (crc c) 38)))
  have HB := Lib.hid (blk_at (w.alloc (.cells #[.int .i64 n, .bool g] 28)) (crc c) 38 (w.heap.size + 1) (by simp))
  have HN := Lib.hid (fun h => lendR_no (n := n) (g := g) (c := c) (x := x) h)
  have HY := Lib.hid (fun h => lendR_yes (n := n) (g := g) (c := c) (x := x) h)
  have HLO := Lib.hid (show legOK n g c x = (crB n g c && placeB n g x) from rfl)
  unfold crv crc rd at *
  go_enter Try.func25, Try.ntmps25
  go_wp2_with fail
  refine (HC.out _).mono ?_
  rintro e w1 ⟨rfl, hb⟩
  replace HX := Lib.hid (HX.out.next hb)
  replace HB := Lib.hid (HB.out.below hb)
  clear hb
  have h0 := HX.out.c0
  have h1 := HX.out.c1
  have b0 := HB.out.cell 0
  have b1 := HB.out.cell 1
  have b2 := HB.out.cell 2
  cases hc : crB n g c
  · have HR := Lib.hid (HN.out (by rw [HLO.out, hc]; rfl))
    go_wp2_with fail
    go_ret2
    exact ⟨ret_int_bool (by rw [HR.out]) (by rw [HR.out]), HX.out.below⟩
  · obtain ⟨hg, hok⟩ := crB_ok hc
    have HC2 := Lib.hid hc
    have HOK := Lib.hid hok
    subst hg
    clear hc hok
    go_wp2_with fail
    refine (HP.out _).mono ?_
    rintro e w2 ⟨rfl, hb⟩
    replace HX := Lib.hid (HX.out.next hb)
    replace HB := Lib.hid (HB.out.below hb)
    clear hb h0 h1 b0 b1 b2
    have h0 := HX.out.c0
    have h1 := HX.out.c1
    have b0 := HB.out.cell 0
    have b1 := HB.out.cell 1
    have b2 := HB.out.cell 2
    cases hp : placeB n false x
    · have HR := Lib.hid (HN.out (by rw [HLO.out, HC2.out, hp]; rfl))
      go_wp2_with fail
      go_ret2
      exact ⟨ret_int_bool (by rw [HR.out]) (by rw [HR.out]), HX.out.below⟩
    · have hx := ((placeB_iff n false x).1 hp).2
      have HP2 := Lib.hid hp
      have HXX := Lib.hid hx
      have HNG := Lib.hid (endM_neg HOK.out.wk hx)
      have HEQ := Lib.hid (fun h => endM_end HOK.out.wk hx h)
      clear hp hx
      go_wp2_with fail
      refine (HE.out _ HOK.out.wk HXX.out).mono ?_
      rintro e w3 ⟨rfl, hb⟩
      replace HX := Lib.hid (HX.out.next hb)
      replace HB := Lib.hid (HB.out.below hb)
      clear hb h0 h1 b0 b1 b2
      have h0 := HX.out.c0
      have h1 := HX.out.c1
      have b0 := HB.out.cell 0
      have b1 := HB.out.cell 1
      have b2 := HB.out.cell 2
      by_cases hl : endM n c x < 0
      · have HR := Lib.hid (HN.out (by rw [HLO.out, HC2.out, HP2.out, decide_eq_false (by have := HNG.out.1 hl; omega)]; rfl))
        go_wp2_with fail
        go_ret2
        exact ⟨ret_int_bool (by rw [HR.out]) (by rw [HR.out]), HX.out.below⟩
      · have HR := Lib.hid (HY.out (by rw [HLO.out, HC2.out, HP2.out, decide_eq_true (by have h9 : ¬ endI n c x < x := fun h => hl (HNG.out.2 h); omega)]; rfl))
        have HQ := Lib.hid (HEQ.out (by omega))
        go_wp2_with fail
        refine (HE.out _ HOK.out.wk HXX.out).mono ?_
        rintro e w4 ⟨rfl, hb⟩
        replace HX := Lib.hid (HX.out.next hb)
        clear hb h0 h1 b0 b1 b2
        go_wp2_with fail
        go_ret2
        exact ⟨ret_int_bool (by rw [HR.out, HQ.out]) (by rw [HR.out]), HX.out.below⟩
set_option maxHeartbeats 800000 in
theorem impl_LegEnd (n : Int) (g : Bool) (c : Cr) (x : Int) (w : World) :
    Calls Try.prog 27 #[rd n g, crv c, .int .i64 x] w fun e w' => e = .returned (.tuple #[.int .i64 (lendR n g c x).1, .bool (lendR n g c x).2]) ∧ Below w.heap.size w w' := by
  have HC := Lib.hid (fun v w hv => (by have := areCarriers_any n g v [c] w hv; rwa [crB_one] at this : Calls Try.prog 66 #[rd n g, v] w fun e w' => e = .returned (.bool (crB n g c)) ∧ Below w.heap.size w w'))
  have HP := Lib.hid (fun v w hv => places_1 n g x v w hv)
  have HE := Lib.hid (fun w h hx => endC_any n g c x w h hx)
  have HX := Lib.hid ((Boxed.first w n g 28).next (below_new _ (.cells (crc c) 38)))
  have HB := Lib.hid (blk_at (w.alloc (.cells #[.int .i64 n, .bool g] 28)) (crc c) 38 (w.heap.size + 1) (by simp))
  have HN := Lib.hid (fun h => lendR_no (n := n) (g := g) (c := c) (x := x) h)
  have HY := Lib.hid (fun h => lendR_yes (n := n) (g := g) (c := c) (x := x) h)
  have HLO := Lib.hid (show legOK n g c x = (crB n g c && placeB n g x) from rfl)
  unfold crv crc rd at *
  go_enter Try.func27, Try.ntmps27
  go_wp2_with fail
  refine (HC.out _ _ (carriers_one (w.heap.size + 1 + 1) (by simp))).mono ?_
  rintro e w1 ⟨rfl, hb⟩
  replace HX := Lib.hid ((HX.out.next (below_new _ _)).next hb)
  replace HB := Lib.hid ((HB.out.below (below_new _ _)).below hb)
  clear hb
  have h0 := HX.out.c0
  have h1 := HX.out.c1
  have b0 := HB.out.cell 0
  have b1 := HB.out.cell 1
  have b2 := HB.out.cell 2
  cases hc : crB n g c
  · have HR := Lib.hid (HN.out (by rw [HLO.out, hc]; rfl))
    go_wp2_with fail
    go_ret2
    exact ⟨ret_int_bool (by rw [HR.out]) (by rw [HR.out]), HX.out.below⟩
  · obtain ⟨hg, hok⟩ := crB_ok hc
    have HC2 := Lib.hid hc
    have HOK := Lib.hid hok
    subst hg
    clear hc hok
    go_wp2_with fail
    refine (HP.out _ _ (place_one_at w1.heap.size rfl)).mono ?_
    rintro e w2 ⟨rfl, hb⟩
    replace HX := Lib.hid ((HX.out.next (below_new _ _)).next hb)
    replace HB := Lib.hid ((HB.out.below (below_new _ _)).below hb)
    clear hb h0 h1 b0 b1 b2
    have h0 := HX.out.c0
    have h1 := HX.out.c1
    have b0 := HB.out.cell 0
    have b1 := HB.out.cell 1
    have b2 := HB.out.cell 2
    cases hp : placeB n false x
    · have HR := Lib.hid (HN.out (by rw [HLO.out, HC2.out, hp]; rfl))
      go_wp2_with fail
      go_ret2
      exact ⟨ret_int_bool (by rw [HR.out]) (by rw [HR.out]), HX.out.below⟩
    · have hx := ((placeB_iff n false x).1 hp).2
      have HP2 := Lib.hid hp
      have HXX := Lib.hid hx
      clear hp hx
      go_wp2_with fail
      refine (HE.out _ HOK.out.wk HXX.out).mono ?_
      rintro e w3 ⟨rfl, hb⟩
      replace HX := Lib.hid (HX.out.next hb)
      replace HB := Lib.hid (HB.out.below hb)
      clear hb h0 h1 b0 b1 b2
      have h0 := HX.out.c0
      have h1 := HX.out.c1
      have b0 := HB.out.cell 0
      have b1 := HB.out.cell 1
      have b2 := HB.out.cell 2
      by_cases hl : endI n c x < x
      · have HR := Lib.hid (HN.out (by rw [HLO.out, HC2.out, HP2.out, decide_eq_false (by omega)]; rfl))
        go_wp2_with fail
        go_ret2
        exact ⟨ret_int_bool (by rw [HR.out]) (by rw [HR.out]), HX.out.below⟩
      · have HR := Lib.hid (HY.out (by rw [HLO.out, HC2.out, HP2.out, decide_eq_true (by omega)]; rfl))
        go_wp2_with fail
        refine (HE.out _ HOK.out.wk HXX.out).mono ?_
        rintro e w4 ⟨rfl, hb⟩
        replace HX := Lib.hid (HX.out.next hb)
        clear hb h0 h1 b0 b1 b2
        go_wp2_with fail
        go_ret2
        exact ⟨ret_int_bool (by rw [HR.out]) (by rw [HR.out]), HX.out.below⟩
end Go.Proofs.Ytgchodielkodeaa
