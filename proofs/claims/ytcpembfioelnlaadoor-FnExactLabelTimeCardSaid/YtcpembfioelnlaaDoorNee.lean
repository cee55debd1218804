/-
  What is proved: the contracts of MeetTime and MeetPlace of the program, and of MeetPlace of the model. Conditions: slices that read as lists of numbers; for the program the variable noMeeting is as it was laid.
-/
import Derived.Test.YtcpembfioelnlaaDoorNed
import Derived.Test.YtcpembfioelnlaaDoorNec
namespace Go.Proofs.YtcpembfioelnlaaDoor
open Go.RowKit
set_option linter.unusedVariables false
set_option linter.unusedSimpArgs false

theorem walksL_two (n : Int) (g : Bool) (k k2 : Wk) : walksL n g [k, k2] [k, k2].length = walks2 n g k k2 := rfl
/-- what MeetPlace answers -/
def mplaceR (n : Int) (g : Bool) (k k2 : Wk) : Int × Bool := if (wkB n g k && wkB n g k2) = true ∧ 0 ≤ meetT (walks2 n g k k2) then (meetP (walks2 n g k k2), true) else (0, false)
theorem mplaceR_no {n : Int} {g : Bool} {k k2 : Wk} (h : ¬ ((wkB n g k && wkB n g k2) = true ∧ 0 ≤ meetT (walks2 n g k k2))) : mplaceR n g k k2 = (0, false) := if_neg h
theorem mplaceR_yes {n : Int} {g : Bool} {k k2 : Wk} (h : (wkB n g k && wkB n g k2) = true ∧ 0 ≤ meetT (walks2 n g k k2)) : mplaceR n g k k2 = (meetP (walks2 n g k k2), true) := if_pos h
theorem gath_MeetTime (n : Int) (g : Bool) (k k2 : Wk) : mtimeR n g k k2 = ((gathR n g [k, k2]).1.1, (gathR n g [k, k2]).2) := by
  unfold mtimeR gathR
  rw [walksL_two, wksB_two]
  generalize walks2 n g k k2 = ws
  generalize (wkB n g k && wkB n g k2) = b
  generalize meetT ws = t
  generalize meetP ws = p
  by_cases h : b = true ∧ 0 ≤ t
  · rw [if_pos h, if_pos h]
  · rw [if_neg h, if_neg h]
theorem gath_MeetPlace (n : Int) (g : Bool) (k k2 : Wk) : mplaceR n g k k2 = ((gathR n g [k, k2]).1.2, (gathR n g [k, k2]).2) := by
  unfold mplaceR gathR
  rw [walksL_two, wksB_two]
  generalize walks2 n g k k2 = ws
  generalize (wkB n g k && wkB n g k2) = b
  generalize meetT ws = t
  generalize meetP ws = p
  by_cases h : b = true ∧ 0 ≤ t
  · rw [if_pos h, if_pos h]
  · rw [if_neg h, if_neg h]
set_option maxHeartbeats 800000 in
set_option maxRecDepth 20000 in
theorem impl_MeetTime (n : Int) (g : Bool) (k : Wk) (m : Value) (k2 : Wk) (m2 : Value) (w : World) (hv : ReadsI w m k.ms) (hv2 : ReadsI w m2 k2.ms) (hN : NM w) :
    Calls Tryd.prog 14 #[rd n g, wkv k m, wkv k2 m2] w fun e w' => e = .returned (.tuple #[.int .i64 (mtimeR n g k k2).1, .bool (mtimeR n g k k2).2]) ∧ Below w.heap.size w w' := by
  have HME := Lib.hid (fun v w hv hN => meet_any n g v [k, k2] w hv (by simp) (by simp) hN)
  have HR := Lib.hid (gath_MeetTime n g k k2)
  have HX := Lib.hid (Box3.first w n g k m k2 m2)
  have HV := Lib.hid hv
  have HV2 := Lib.hid hv2
  obtain ⟨ma, mc, rfl, _⟩ := hv
  obtain ⟨ma2, mc2, rfl, _⟩ := hv2
  generalize hml : k.ms.length = ml at *
  generalize hml2 : k2.ms.length = ml2 at *
  clear hml hml2
  unfold wkv rd at *
  have HN := Lib.hid hN
  clear hN
  go_enter Tryd.func14, Tryd.ntmps14
  go_wp2_with fail
  refine (HME.out _ _ (walkers_two (HV.out.below HX.out.road.below) (HV2.out.below HX.out.road.below) _ (by simp)) ((HN.out.below HX.out.road.below).below (below_new _ _))).mono ?_
  rintro e w1 ⟨rfl, hb⟩
  have HX := Lib.hid ((HX.out.next (below_new _ _)).next hb)
  clear hb
  go_wp2_with fail
  go_ret2
  exact ⟨ret_RB HR.out, (HX.out.next (below_new _ _)).road.below⟩
set_option maxHeartbeats 800000 in
set_option maxRecDepth 20000 in
theorem impl_MeetPlace (n : Int) (g : Bool) (k : Wk) (m : Value) (k2 : Wk) (m2 : Value) (w : World) (hv : ReadsI w m k.ms) (hv2 : ReadsI w m2 k2.ms) (hN : NM w) :
    Calls Tryd.prog 17 #[rd n g, wkv k m, wkv k2 m2] w fun e w' => e = .returned (.tuple #[.int .i64 (mplaceR n g k k2).1, .bool (mplaceR n g k k2).2]) ∧ Below w.heap.size w w' := by
  have HME := Lib.hid (fun v w hv hN => meet_any n g v [k, k2] w hv (by simp) (by simp) hN)
  have HR := Lib.hid (gath_MeetPlace n g k k2)
  have HX := Lib.hid (Box3.first w n g k m k2 m2)
  have HV := Lib.hid hv
  have HV2 := Lib.hid hv2
  obtain ⟨ma, mc, rfl, _⟩ := hv
  obtain ⟨ma2, mc2, rfl, _⟩ := hv2
  generalize hml : k.ms.length = ml at *
  generalize hml2 : k2.ms.length = ml2 at *
  clear hml hml2
  unfold wkv rd at *
  have HN := Lib.hid hN
  clear hN
  go_enter Tryd.func17, Tryd.ntmps17
  go_wp2_with fail
  refine (HME.out _ _ (walkers_two (HV.out.below HX.out.road.below) (HV2.out.below HX.out.road.below) _ (by simp)) ((HN.out.below HX.out.road.below).below (below_new _ _))).mono ?_
  rintro e w1 ⟨rfl, hb⟩
  have HX := Lib.hid ((HX.out.next (below_new _ _)).next hb)
  clear hb
  go_wp2_with fail
  go_ret2
  exact ⟨ret_RB HR.out, (HX.out.next (below_new _ _)).road.below⟩
set_option maxHeartbeats 800000 in
set_option maxRecDepth 20000 in
theorem spec_MeetPlace (n : Int) (g : Bool) (k : Wk) (m : Value) (k2 : Wk) (m2 : Value) (w : World) (hv : ReadsI w m k.ms) (hv2 : ReadsI w m2 k2.ms) :
    Calls Tryd.prog 16 #[rd n g, wkv k m, wkv k2 m2] w fun e w' => e = .returned (.tuple #[.int .i64 (mplaceR n g k k2).1, .bool (mplaceR n g k k2).2]) ∧ Below w.heap.size w w' := by
  have HBO := Lib.hid (fun w hv hv2 => l4Both_any n g k m k2 m2 w hv hv2)
  have HTW := Lib.hid (fun w hv hv2 hk hk2 => l4Two_any n g k m k2 m2 w hv hv2 hk hk2)
  have HWL := Lib.hid (fun N w hv hk hN => l4Walk_nat n g k m N w hv hk hN)
  have HX := Lib.hid (Box3.first w n g k m k2 m2)
  have HV := Lib.hid hv
  have HV2 := Lib.hid hv2
  obtain ⟨ma, mc, rfl, _⟩ := hv
  obtain ⟨ma2, mc2, rfl, _⟩ := hv2
  generalize hml : k.ms.length = ml at *
  generalize hml2 : k2.ms.length = ml2 at *
  clear hml hml2
  unfold wkv rd at *
  go_enter Tryd.func16, Tryd.ntmps16
  go_wp2_with fail
  refine (HBO.out _ (HV.out.below HX.out.road.below) (HV2.out.below HX.out.road.below)).mono ?_
  rintro e w1 ⟨rfl, hb⟩
  have HX := Lib.hid (HX.out.next hb)
  clear hb
  have h0 := HX.out.road.c0
  have h1 := HX.out.road.c1
  have p0 := HX.out.one.cell 0
  have p1 := HX.out.one.cell 1
  have p2 := HX.out.one.cell 2
  have p3 := HX.out.one.cell 3
  have q0 := HX.out.two.cell 0
  have q1 := HX.out.two.cell 1
  have q2 := HX.out.two.cell 2
  have q3 := HX.out.two.cell 3
  cases hb : (wkB n g k && wkB n g k2)
  · have HR := Lib.hid (mplaceR_no (n := n) (g := g) (k := k) (k2 := k2) (fun h => by rw [h.1] at hb; cases hb))
    clear hb
    go_wp2_with fail
    go_ret2
    exact ⟨ret_RB HR.out, HX.out.road.below⟩
  · have HKK := Lib.hid hb
    have hbb := Bool.and_eq_true_iff.1 hb
    have HK1 := Lib.hid ((wkB_iff n g k).1 hbb.1)
    have HK2 := Lib.hid ((wkB_iff n g k2).1 hbb.2)
    clear hb hbb
    go_wp2_with fail
    refine (HTW.out _ (HV.out.below HX.out.road.below) (HV2.out.below HX.out.road.below) HK1.out HK2.out).mono ?_
    rintro e w2 ⟨rfl, hb⟩
    have HX := Lib.hid (HX.out.next hb)
    clear hb h0 h1 p0 p1 p2 p3 q0 q1 q2 q3
    by_cases ht : meetT (walks2 n g k k2) < 0
    · have HR := Lib.hid (mplaceR_no (n := n) (g := g) (k := k) (k2 := k2) (fun h => by omega))
      generalize meetT (walks2 n g k k2) = t at *
      go_wp2_with fail
      go_ret2
      exact ⟨ret_RB HR.out, HX.out.road.below⟩
    · have hup := (meetT_low (walks2 n g k k2)).2
      obtain ⟨N, hN⟩ : ∃ N : Nat, meetT (walks2 n g k k2) = N := ⟨(meetT (walks2 n g k k2)).toNat, by omega⟩
      rw [hN] at hup
      have hN60 : N ≤ 60 := by omega
      have HR := Lib.hid (show mplaceR n g k k2 = (posW n g k N, true) by
        rw [mplaceR_yes ⟨HKK.out, by omega⟩, meetP_hit hN (ys := walkW n g k 60) (y := posW n g k N) rfl (pathL_at _ _ _ hN60)])
      have HAT := Lib.hid (show (walkW n g k N)[N]? = some (posW n g k N) from pathL_at _ _ _ (Nat.le_refl _))
      rw [hN] at *
      clear ht hN hup
      have hN0 : 0 ≤ (N : Int) := by omega
      have hN1 : ¬ (N : Int) < 0 := by omega
      have h0 := HX.out.road.c0
      have h1 := HX.out.road.c1
      have p0 := HX.out.one.cell 0
      have p1 := HX.out.one.cell 1
      have p2 := HX.out.one.cell 2
      have p3 := HX.out.one.cell 3
      have q0 := HX.out.two.cell 0
      have q1 := HX.out.two.cell 1
      have q2 := HX.out.two.cell 2
      have q3 := HX.out.two.cell 3
      go_wp2_with fail
      refine (HWL.out N _ (HV.out.below HX.out.road.below) HK1.out hN60).mono ?_
      rintro e w3 ⟨u, rfl, ho, hb⟩
      have HX := Lib.hid (HX.out.next hb)
      obtain ⟨ua, uc, e1, _, _, hx⟩ := owns_reads ho (by rw [walkW_len]; unfold maxLen; omega)
      subst e1
      obtain ⟨ub, uo, e2, hub, hcu⟩ := hx N _ HAT.out
      subst e2
      have hul := walkW_len n g k N
      rw [hul]
      have hN2 : (N : Int) < ((N + 1 : Nat) : Int) := by omega
      have hN3 : (N : Int) < (N : Int) + 1 := by omega
      have hN4 : N < N + 1 := by omega
      clear hb ho hx hul h0 h1 p0 p1 p2 p3 q0 q1 q2 q3
      generalize posW n g k N = z at *
      go_wp2_with fail
      go_ret2
      exact ⟨ret_RB HR.out, HX.out.road.below⟩
end Go.Proofs.YtcpembfioelnlaaDoor
