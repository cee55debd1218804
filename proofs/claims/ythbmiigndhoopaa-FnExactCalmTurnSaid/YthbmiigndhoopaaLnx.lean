/-
  What is proved: LaneAfter and FlowsOf of the model and of the program. Conditions: those of each contract.
-/
import Derived.Test.YthbmiigndhoopaaLnv
namespace Go.Proofs.Ythbmiigndhoopaa
open Go.RowKit
set_option linter.unusedVariables false
set_option linter.unusedSimpArgs false

/-- what LaneAfter answers -/
noncomputable def afterR (xs : List Int) (t : Int) : List Int × Bool := (lan (drivenN xs t) (drivenS xs t), turnsB xs t)
noncomputable def flowsR (xs : List Int) (t : Int) : List Int × Bool := (drivenF xs t, turnsB xs t)
noncomputable def placesR (xs : List Int) (t : Int) : List Int × Bool := (cas (drivenS xs t), turnsB xs t)
theorem drivenN_le (xs : List Int) (t : Int) : drivenN xs t ≤ 24 := by
  unfold drivenN
  split
  · rename_i h
    exact ((laneB_iff xs).1 ((turnsB_iff xs t).1 h).1).2.1
  · omega
theorem drivenS_cars (xs : List Int) (t : Int) : Cars (drivenN xs t) (drivenS xs t) := by
  unfold drivenN drivenS
  by_cases h : turnsB xs t = true
  · rw [if_pos h, if_pos h]
    have := ((laneB_iff xs).1 ((turnsB_iff xs t).1 h).1).1
    exact stpN_cars (by omega) (cars_of xs) _
  · rw [if_neg h, if_neg h]
    exact ⟨List.nodup_nil, fun c hc => by cases hc⟩
theorem afterR_len (xs : List Int) (t : Int) : (afterR xs t).1.length ≤ 1048576 := by
  show (lan _ _).length ≤ _
  rw [lan_len]
  have := drivenN_le xs t
  omega
theorem placesR_len (xs : List Int) (t : Int) : (placesR xs t).1.length ≤ 1048576 := by
  show (cas _).length ≤ _
  rw [cas_len]
  have := (drivenS_cars xs t).len
  have := drivenN_le xs t
  omega
theorem flowsR_len (xs : List Int) (t : Int) : (flowsR xs t).1.length ≤ 1048576 := by
  show (drivenF xs t).length ≤ _
  unfold drivenF
  split
  · rename_i h
    rw [floN_len]
    have := ((turnsB_iff xs t).1 h).2
    omega
  · simp
theorem model_turn {n : Nat} {S : List Nat} (hn : 2 ≤ n) (hS : Cars n S) : outTo (lan n S) (lan n S).length = lan n (stp n S) ∧ floTo (lan n S) (lan n S).length = flo n S := by
  rw [lan_len]
  exact ⟨outTo_lan hn hS, floTo_lan hS⟩
def LfRel (n : Nat) (S0 : List Nat) (T base : Nat) (w : World) (v vi : Value) (wr : World) : Prop :=
  ∃ (k : Nat) (S : List Nat), k ≤ T ∧ vi = .int .i64 k ∧ S = stpN n S0 k ∧ wr.ownsRow base 3 1 v n ((lan n S).map iv) ∧ Below base w wr
set_option maxHeartbeats 1600000 in
theorem spec_LaneAfter (v : Value) (xs : List Int) (t : Int) (w : World) (hv : ReadsI w v xs) :
    Calls Try.prog 27 #[v, .int .i64 t] w (OwnsB w.heap.size (afterR xs t).1 (afterR xs t).2 w) := by
  have HW := Lib.hid (fun w hv => l8Turns_any v xs t w hv)
  have HT := Lib.hid (fun v l w hv h1 h2 => l8Turn_any v l w hv h1 h2)
  have HO := Lib.hid (fun w hv h1 h2 => own_any v xs w hv h1 h2)
  have HV := Lib.hid hv
  have HM := Lib.hid (made_at w w.heap.size w.heap.size rfl (Nat.le_refl _))
  have HB := Lib.hid (below_new w (.cells #[] 3))
  clear hv
  go_enter Try.func27, Try.ntmps27
  go_wp2_with fail
  refine (HW.out _ HV.out).mono ?_
  rintro e w0 ⟨rfl, hw0⟩
  rw [hw0]
  clear hw0
  cases hl : turnsB xs t
  · have HR := Lib.hid (show afterR xs t = ([], false) by unfold afterR drivenN drivenS; rw [hl]; rfl)
    clear hl
    go_wp2_with fail
    go_ret2
    exact owns_R HR.out ⟨_, rfl, HM.out, HB.out⟩
  · obtain ⟨hlb, h0, h6⟩ := (turnsB_iff xs t).1 hl
    obtain ⟨T, rfl⟩ : ∃ T : Nat, t = (T : Int) := ⟨t.toNat, by omega⟩
    obtain ⟨h3, h24, _⟩ := (laneB_iff xs).1 hlb
    have HR := Lib.hid (show afterR xs (T : Int) = (lan xs.length (stpN xs.length (carsOf xs) T), true) by unfold afterR drivenN drivenS; rw [hl]; rfl)
    have HC := Lib.hid (stpN_cars (n := xs.length) (by omega) (cars_of xs))
    have HE := Lib.hid (lan_cars hlb)
    clear hl hlb HB HM
    go_wp2_with fail
    refine (HO.out _ HV.out (by omega) (by omega)).mono ?_
    rintro e w1 ⟨v1, rfl, ho, hb⟩
    have HS := Lib.hid (show LfRel xs.length (carsOf xs) T w.heap.size w v1 (.int .i64 0) w1 from ⟨0, _, Nat.zero_le _, rfl, rfl, by rw [show stpN xs.length (carsOf xs) 0 = carsOf xs from rfl, HE.out]; exact ho, hb⟩)
    clear ho hb HE
    go_wp2_with fail
    go_loopw [6, 7] (fun v vi wr => LfRel xs.length (carsOf xs) T w.heap.size w v vi wr) (fun _ i _ => T - (intOf i).toNat)
    case atStart => exact HS.out
    case round =>
      clear HS
      obtain ⟨k, S, hk, rfl, hS, ho, hb⟩ := hrel
      have HS := Lib.hid hS
      have HOW := Lib.hid ho
      have HB := Lib.hid hb
      have HCS := Lib.hid (show Cars xs.length S by rw [hS]; exact HC.out k)
      clear hS ho hb
      by_cases hlt : k < T
      · have hi1 : (k : Int) < T := by omega
        go_wp2_with fail
        refine (HT.out _ (lan xs.length S) _ (owns_reads (by rw [lan_len]; exact HOW.out) (by rw [lan_len]; unfold maxLen; omega)) (by rw [lan_len]; omega) (by rw [lan_len]; omega)).mono ?_
        rw [(model_turn (show 2 ≤ xs.length by omega) HCS.out).1, (model_turn (show 2 ≤ xs.length by omega) HCS.out).2]
        rintro e w2 ⟨v2, rfl, ho, hb⟩
        rw [lan_len] at ho
        have HO2 := Lib.hid (owns_lower ho HB.out.size)
        have HB := Lib.hid (HB.out.trans (hb.mono HB.out.size))
        clear ho hb HOW
        go_wp2_with fail
        go_roundw
        case rel => exact ⟨k + 1, stp xs.length S, hlt, by go_num, by rw [HS.out]; rfl, HO2.out, HB.out⟩
        case measure => simp [intOf] <;> omega
      · have hi1 : ¬ (k : Int) < T := by omega
        have HKE := Lib.hid (show k = T by omega)
        go_wp2_with fail
        go_ret2
        refine owns_R HR.out ⟨_, rfl, ?_, HB.out⟩
        rw [← HKE.out, ← HS.out, lan_len]
        exact HOW.out
set_option maxHeartbeats 1600000 in
theorem impl_LaneAfter (v : Value) (xs : List Int) (t : Int) (w : World) (hv : ReadsI w v xs) (ht : -9223372036854775808 ≤ t ∧ t ≤ 9223372036854775807) :
    Calls Try.prog 28 #[v, .int .i64 t] w (OwnsB w.heap.size (afterR xs t).1 (afterR xs t).2 w) := by
  have HD := Lib.hid (fun w hv => driven_any v xs t w hv ht)
  have HLA := Lib.hid (fun n g v S w hv h1 h2 => lane_any n g v S w hv h1 h2)
  have HC := Lib.hid (drivenS_cars xs t)
  have hN := drivenN_le xs t
  have hSl := HC.out.len
  have HR := Lib.hid (show afterR xs t = (lan (drivenN xs t) (drivenS xs t), turnsB xs t) from rfl)
  have HV := Lib.hid hv
  clear hv
  generalize drivenN xs t = n at *
  generalize drivenS xs t = S at *
  generalize drivenF xs t = F at *
  generalize turnsB xs t = b at *
  go_enter Try.func28, Try.ntmps28
  go_wp2_with fail
  refine (HD.out _ HV.out).mono ?_
  rintro e w1 ⟨g, a, m, c, vf, rfl, ho, hf, hb⟩
  have HRD := Lib.hid ((owns_reads (by rw [cas_len]; exact ho) (by rw [cas_len]; unfold maxLen; omega)).below (below_new _ (.cells (trC n g (.slice a m c)) 58)))
  have HB := Lib.hid (hb.trans ((below_new w1 (.cells (trC n g (.slice a m c)) 58)).mono hb.size))
  have HK := blk_new w1 (trC n g (.slice a m c)) 58
  have c0 := HK.cell 0
  have c1 := HK.cell 1
  have c2 := HK.cell 2
  clear ho hf hb
  unfold trV trC at *
  go_wp2_with fail
  refine (HLA.out n g _ S _ HRD.out HC.out.2 (by omega)).mono ?_
  rintro e w3 ⟨v3, rfl, ho, hb⟩
  have HO3 := Lib.hid (owns_lower ho HB.out.size)
  have HB := Lib.hid (HB.out.trans (hb.mono HB.out.size))
  clear ho hb
  go_wp2_with fail
  go_ret2
  exact owns_R HR.out ⟨_, rfl, HO3.out, HB.out⟩
def FlRel (n : Nat) (S0 : List Nat) (T base : Nat) (w : World) (vo v vi : Value) (wr : World) : Prop :=
  ∃ (k : Nat) (S : List Nat), k ≤ T ∧ vi = .int .i64 k ∧ S = stpN n S0 k ∧ wr.ownsRow base 3 1 vo k ((floN n S0 k).map iv) ∧ ReadsI wr v (lan n S) ∧ Below base w wr
theorem fl_next {n : Nat} {S0 S : List Nat} {T base k : Nat} {w wr : World} {vo v vi : Value} (hS : S = stpN n S0 k) (hk : k < T) (hi : vi = .int .i64 ((k + 1 : Nat) : Int)) (ho : wr.ownsRow base 3 1 vo (k + 1) ((floN n S0 k).map iv ++ [.int .i64 ((flo n S : Nat) : Int)])) (hr : ReadsI wr v (lan n (stp n S))) (hb : Below base w wr) : FlRel n S0 T base w vo v vi wr := by
  subst hS
  refine ⟨k + 1, _, hk, hi, rfl, ?_, hr, hb⟩
  rw [floN_next, List.map_append]
  exact ho
set_option maxHeartbeats 1600000 in
theorem spec_FlowsOf (v : Value) (xs : List Int) (t : Int) (w : World) (hv : ReadsI w v xs) :
    Calls Try.prog 29 #[v, .int .i64 t] w (OwnsB w.heap.size (flowsR xs t).1 (flowsR xs t).2 w) := by
  obtain ⟨i0, hi, hz0, hz1, hz2⟩ := info_parts infoInt
  have HW := Lib.hid (fun w hv => l8Turns_any v xs t w hv)
  have HT := Lib.hid (fun v l w hv h1 h2 => l8Turn_any v l w hv h1 h2)
  have HO := Lib.hid (fun w hv h1 h2 => own_any v xs w hv h1 h2)
  have HV := Lib.hid (hv.below (below_new w (.cells #[] 3)))
  have HM := Lib.hid (made_at w w.heap.size w.heap.size rfl (Nat.le_refl _))
  have HB := Lib.hid (below_new w (.cells #[] 3))
  clear hv
  go_enter Try.func29, Try.ntmps29
  go_wp2_with fail
  refine (HW.out _ HV.out).mono ?_
  rintro e w1 ⟨rfl, rfl⟩
  generalize hww : w.alloc (.cells #[] 3) = w1 at *
  clear hww
  cases hl : turnsB xs t
  · have HR := Lib.hid (show flowsR xs t = ([], false) by unfold flowsR drivenF; rw [hl]; rfl)
    clear hl
    go_wp2_with fail
    go_ret2
    exact owns_R HR.out ⟨_, rfl, HM.out, HB.out⟩
  · obtain ⟨hlb, h0, h6⟩ := (turnsB_iff xs t).1 hl
    obtain ⟨T, rfl⟩ : ∃ T : Nat, t = (T : Int) := ⟨t.toNat, by omega⟩
    obtain ⟨h3, h24, _⟩ := (laneB_iff xs).1 hlb
    have HR := Lib.hid (show flowsR xs (T : Int) = (floN xs.length (carsOf xs) T, true) by unfold flowsR drivenF; rw [hl]; rfl)
    have HC := Lib.hid (stpN_cars (n := xs.length) (by omega) (cars_of xs))
    have HE := Lib.hid (lan_cars hlb)
    clear hl hlb
    go_wp2_with fail
    refine (HO.out _ HV.out (by omega) (by omega)).mono ?_
    rintro e w2 ⟨v1, rfl, ho, hb⟩
    have HS := Lib.hid (show FlRel xs.length (carsOf xs) T w.heap.size w (.slice (some ⟨w.heap.size, 0, none⟩) 0 0) v1 (.int .i64 0) w2 from ⟨0, _, Nat.zero_le _, rfl, rfl, owns_below HM.out hb, by rw [show stpN xs.length (carsOf xs) 0 = carsOf xs from rfl, HE.out]; exact owns_reads ho (by unfold maxLen; omega), HB.out.trans (hb.mono HB.out.size)⟩)
    clear ho hb HE HM HB
    go_wp2_with fail
    go_loopw [6, 7, 8, 9] (fun vo v _ vi wr => FlRel xs.length (carsOf xs) T w.heap.size w vo v vi wr) (fun _ _ _ i _ => T - (intOf i).toNat)
    case atStart => exact HS.out
    case round =>
      clear HS
      obtain ⟨k, S, hk, rfl, hS, ho, hr, hb⟩ := hrel
      have HS := Lib.hid hS
      have HOW := Lib.hid ho
      have HRD := Lib.hid hr
      have HB := Lib.hid hb
      have HCS := Lib.hid (show Cars xs.length S by rw [hS]; exact HC.out k)
      clear hS ho hb hr
      by_cases hlt : k < T
      · have hi1 : (k : Int) < T := by omega
        go_wp2_with fail
        refine (HT.out _ (lan xs.length S) _ HRD.out (by rw [lan_len]; omega) (by rw [lan_len]; omega)).mono ?_
        rw [(model_turn (show 2 ≤ xs.length by omega) HCS.out).1, (model_turn (show 2 ≤ xs.length by omega) HCS.out).2]
        rintro e w3 ⟨v2, rfl, ho, hb⟩
        rw [lan_len] at ho
        have HFHI := Lib.hid (fun b hb => owns_block HOW.out b hb)
        have H2LO := Lib.hid (fun b hb => owns_block ho b hb)
        have HO2 := Lib.hid ho
        have HOW := Lib.hid (owns_below HOW.out hb)
        have HB := Lib.hid (HB.out.trans (hb.mono HB.out.size))
        have HSZ := Lib.hid HB.out.size
        generalize hys : (floN xs.length (carsOf xs) k).map iv = ys at *
        have HYS := Lib.hid hys
        clear ho hb hys HRD
        go_wp2_with (at_builtin; refine wpList_append_own _ rfl _ _ 22 rfl (w.heap.size) 3 i0 (.int .i64 0) 1 8 Try.underlying22 hi hz0 hz1 hz2 rfl (by decide) _ _ _ rfl (HOW.out.alloc _) ⟨w3.heap.size, 0, none⟩ 1 1 [.int .i64 (((flo xs.length S : Nat) : Int))] rfl rfl (cell_one_new _ _ _) ?c2 ?c3 ?c4 ?c5 ?_)
        case c2 => intro u hu; simp at hu; subst hu; rfl
        case c3 => unfold maxLen; omega
        case c4 => omega
        case c5 => have z0 := HSZ.out; simp; omega
        intro v' w9 hown' hgrow _
        have HO2 := Lib.hid (rkept (owns_below HO2.out (below_new w3 (.cells #[.int .i64 ((flo xs.length S : Nat) : Int)] 3))) hgrow (fun b e e2 => by have := H2LO.out b e; have := HFHI.out b e2; omega))
        have HB := Lib.hid ((HB.out.trans ((below_new w3 (.cells #[.int .i64 ((flo xs.length S : Nat) : Int)] 3)).mono HB.out.size)).trans (below_grown hgrow (fun b hb => (owns_block HOW.out b hb).1) (by have := HSZ.out; simp; omega)))
        have HOW := Lib.hid hown'
        clear hgrow hown' HSZ
        go_wp2_with fail
        go_roundw
        case rel => exact fl_next HS.out hlt (by go_num) (by rw [HYS.out]; exact HOW.out) (owns_reads (by rw [lan_len]; exact HO2.out) (by rw [lan_len]; unfold maxLen; omega)) HB.out
        case measure => simp [intOf] <;> omega
      · have hi1 : ¬ (k : Int) < T := by omega
        have HKE := Lib.hid (show k = T by omega)
        go_wp2_with fail
        go_ret2
        refine owns_R HR.out ⟨_, rfl, ?_, HB.out⟩
        rw [floN_len, ← HKE.out]
        exact HOW.out
set_option maxHeartbeats 1600000 in
theorem impl_FlowsOf (v : Value) (xs : List Int) (t : Int) (w : World) (hv : ReadsI w v xs) (ht : -9223372036854775808 ≤ t ∧ t ≤ 9223372036854775807) :
    Calls Try.prog 30 #[v, .int .i64 t] w (OwnsB w.heap.size (flowsR xs t).1 (flowsR xs t).2 w) := by
  have HD := Lib.hid (fun w hv => driven_any v xs t w hv ht)
  have HR := Lib.hid (show flowsR xs t = (drivenF xs t, turnsB xs t) from rfl)
  have HV := Lib.hid hv
  clear hv
  generalize drivenN xs t = n at *
  generalize drivenS xs t = S at *
  generalize drivenF xs t = F at *
  generalize turnsB xs t = b at *
  go_enter Try.func30, Try.ntmps30
  go_wp2_with fail
  refine (HD.out _ HV.out).mono ?_
  rintro e w1 ⟨g, a, m, c, vf, rfl, ho, hf, hb⟩
  have HF := Lib.hid (owns_below hf (below_new _ (.cells (trC n g (.slice a m c)) 58)))
  have HB := Lib.hid (hb.trans ((below_new w1 (.cells (trC n g (.slice a m c)) 58)).mono hb.size))
  clear ho hf hb
  unfold trV trC at *
  go_wp2_with fail
  go_ret2
  exact owns_R HR.out ⟨_, rfl, HF.out, HB.out⟩
set_option maxHeartbeats 1600000 in
theorem impl_CarPlaces (v : Value) (xs : List Int) (t : Int) (w : World) (hv : ReadsI w v xs) (ht : -9223372036854775808 ≤ t ∧ t ≤ 9223372036854775807) :
    Calls Try.prog 36 #[v, .int .i64 t] w (OwnsB w.heap.size (placesR xs t).1 (placesR xs t).2 w) := by
  have HD := Lib.hid (fun w hv => driven_any v xs t w hv ht)
  have HR := Lib.hid (show placesR xs t = (cas (drivenS xs t), turnsB xs t) from rfl)
  have HV := Lib.hid hv
  clear hv
  generalize drivenN xs t = n at *
  generalize drivenS xs t = S at *
  generalize drivenF xs t = F at *
  generalize turnsB xs t = b at *
  go_enter Try.func36, Try.ntmps36
  go_wp2_with fail
  refine (HD.out _ HV.out).mono ?_
  rintro e w1 ⟨g, a, m, c, vf, rfl, ho, hf, hb⟩
  have HF := Lib.hid (owns_below ho (below_new _ (.cells (trC n g (.slice a m c)) 58)))
  have HB := Lib.hid (hb.trans ((below_new w1 (.cells (trC n g (.slice a m c)) 58)).mono hb.size))
  have HK := blk_new w1 (trC n g (.slice a m c)) 58
  have c2 := HK.cell 2
  clear ho hf hb
  unfold trV trC at *
  go_wp2_with fail
  go_ret2
  exact owns_R HR.out ⟨_, rfl, by rw [cas_len]; exact HF.out, HB.out⟩
end Go.Proofs.Ythbmiigndhoopaa
