/-
  What is proved: the contract of impl.PartPatrol. Conditions: none.
-/
import Derived.Test.YtefjignlhlpndaaPac
import Derived.Test.YtefjignlhlpndaaPad
namespace Go.Proofs.Ytefjignlhlpndaa
open Go.RowKit
set_option linter.unusedVariables false
set_option linter.unusedSimpArgs false

set_option maxHeartbeats 3200000 in
set_option maxRecDepth 20000 in
theorem impl_PartPatrol_yes (N KK : Nat) (w : World) (hnu : numB N false KK = true) (hkn : KK ≤ N) :
    Calls Try.prog 28 #[rd N false, .int .i64 KK] w (OwnsTB w.heap.size (partR N false KK).1 (partR N false KK).2 w) := by
  obtain ⟨i1, ji, jz0, jz1, jz2⟩ := info_parts infoTab
  have hk := (numB_iff N false KK).1 hnu
  have hr := (roadB_iff N false).1 hk.1
  have hn2 : 2 ≤ N := by omega
  have hn24 : N ≤ 24 := by omega
  have hk1 : 1 ≤ KK := by omega
  have hk6 : KK ≤ 6 := by omega
  have HR := Lib.hid (partR_yes hnu hkn)
  have HRO := Lib.hid (fun w => show Calls Try.prog 53 #[rd N false] w fun e w' => e = .returned (.bool true) ∧ Below w.heap.size w w' from by have h := isRoad_any N false w; rw [hk.1] at h; exact h)
  have HGY := Lib.hid (fun w => guards_yes (KK : Int) w hk.2)
  obtain ⟨lg, hlg⟩ : ∃ lg, lg = (N + KK - 1) / KK := ⟨_, rfl⟩
  have HDU := Lib.hid (fun w => show Calls Try.prog 56 #[.int .i64 N, .int .i64 KK] w fun e w' => e = .returned (.int .i64 (lg : Int)) ∧ w = w' from by
    have h := dividedUp_any N KK w ⟨by omega, by omega⟩ ⟨by omega, by omega⟩
    have e0 : ((N : Int) + KK - 1) = ((N + KK - 1 : Nat) : Int) := by omega
    have e : ((N : Int) + KK - 1) / KK = (lg : Int) := by
      rw [hlg, e0]
      exact (Int.natCast_ediv _ _).symm
    rw [e] at h
    exact h)
  have HPR := Lib.hid (fun (a M : Nat) w hM ha => partRound_any N a M lg w ⟨hn2, hn24⟩ hM ha)
  have HX0 := Lib.hid (Boxed.first w N false 28)
  have HT0 := Lib.hid (ownT_new (w.alloc (.cells #[.int .i64 N, .bool false] 28)) (w.heap.size + 1) (w.heap.size + 1) (by simp) (Nat.le_refl _))
  have HX := Lib.hid (HX0.out.next (below_new _ (.cells #[] 43)))
  have HPI := Lib.hid (fun (j : Nat) (hj : j < KK) => part_in hk1 hkn hj)
  have HPF := Lib.hid (fun (j : Nat) => show partF N KK j = sweepT (startP N KK j) (manyP N KK j) (!decide (manyP N KK j = lg)) from by unfold partF; rw [wait_is hk1, ← hlg])
  obtain ⟨d, hd⟩ : ∃ d, d = N / KK := ⟨_, rfl⟩
  obtain ⟨r, hrr⟩ : ∃ r, r = N % KK := ⟨_, rfl⟩
  have HMY := Lib.hid (fun (j : Nat) => show manyP N KK j = d + (if j < r then 1 else 0) from by rw [hd, hrr]; rfl)
  have hrK : r < KK := by rw [hrr]; exact Nat.mod_lt _ (by omega)
  have hdN : d ≤ N := by rw [hd]; exact Nat.div_le_self _ _
  have hK0 : ¬ (KK : Int) = 0 := by omega
  have hKn : ¬ KK = 0 := by omega
  have hN0 : 0 ≤ (N : Int) := by omega
  have hdiv : (N : Int) / (KK : Int) = (d : Int) := by rw [hd]; push_cast; rfl
  have hmod : (N : Int) % (KK : Int) = (r : Int) := by rw [hrr]; push_cast; rfl
  have HD := Lib.hid (show ((N : Int) / (KK : Int) = (d : Int) ∧ (N : Int).tdiv (KK : Int) = (d : Int) ∧ IntKind.i64.wrap (d : Int) = (d : Int)) ∧ ((N : Int) % (KK : Int) = (r : Int) ∧ (N : Int).tmod (KK : Int) = (r : Int) ∧ IntKind.i64.wrap (r : Int) = (r : Int)) from ⟨⟨hdiv, by rw [Int.tdiv_eq_ediv_of_nonneg hN0]; exact hdiv, IntWalk.i64_in _ (by omega)⟩, ⟨hmod, by rw [Int.tmod_eq_emod_of_nonneg hN0]; exact hmod, IntWalk.i64_in _ (by omega)⟩⟩)
  have hkn2 : ¬ (N : Int) < (KK : Int) := by omega
  have hknb : decide ((N : Int) < (KK : Int)) = false := decide_eq_false hkn2
  have hkn3 : ¬ N < KK := by omega
  have hknc : decide (N < KK) = false := decide_eq_false hkn3
  clear hdiv hmod hd hrr hlg hnu hk hr HX0
  generalize partR N false KK = R at *
  unfold rd at *
  go_enter Try.func28, Try.ntmps28
  go_wp2_with fail
  refine (HRO.out _).mono ?_
  rintro e w1 ⟨rfl, hb⟩
  have HX := Lib.hid (HX.out.next hb)
  have HT := Lib.hid (HT0.out.below hb)
  have hx0 := HX.out.c0
  have hx1 := HX.out.c1
  clear hb HT0
  go_wp2_with fail
  refine (HGY.out _).mono ?_
  rintro e w2 ⟨rfl, rfl⟩
  go_wp2_with fail
  clear hx0 hx1
  go_loopw [6, 7, 31] (fun z f i wr => PtRel N KK w.heap.size w z f i wr) (fun _ _ i _ => KK - (intOf i).toNat)
  case atStart => exact ⟨0, Nat.zero_le _, rfl, rfl, HX.out, [], HT.out.lt⟩
  case round =>
    obtain ⟨j, hj, rfl, rfl, hx, us, ho⟩ := hrel
    clear HX HT
    have HX := Lib.hid hx
    have HO := Lib.hid ho
    have hx0 := hx.c0
    have hx1 := hx.c1
    clear hx ho
    by_cases hlt : j < KK
    · have hpi := HPI.out j hlt
      have HLQ := Lib.hid hlt
      have HMJ := HMY.out j
      have HPJ := Lib.hid (HPF.out j)
      have HSQ := Lib.hid (show startP N KK (j + 1) = startP N KK j + manyP N KK j from rfl)
      have hd0 := HD.out.1.1
      have hd1 := HD.out.1.2.1
      have hd2 := HD.out.1.2.2
      have hd3 := HD.out.2.1
      have hd4 := HD.out.2.2.1
      have hd5 := HD.out.2.2.2
      have hw0 : IntKind.i64.wrap ((d : Int) + 1) = (d : Int) + 1 := IntWalk.i64_in _ (by omega)
      obtain ⟨s, hsv⟩ : ∃ s, s = startP N KK j := ⟨_, rfl⟩
      rw [← hsv] at hpi
      have HSV := Lib.hid hsv
      rw [← hsv]
      have hs24 : s ≤ 24 := by omega
      clear hsv
      by_cases hjr : j < r
      · have hmv : manyP N KK j = d + 1 := by rw [HMJ, if_pos hjr]
        have HM := Lib.hid hmv
        have HAM := Lib.hid (show 1 ≤ d + 1 ∧ s + (d + 1) ≤ N from by rw [hmv] at hpi; exact hpi)
        have hji : (j : Int) < (r : Int) := by omega
        clear HMJ hmv hpi
        go_wp2_with fail
        refine wp_region_noPanic ?_
        clear hd0 hd1 hd2 hd3 hd4 hd5 hx0 hx1
        have HX := Lib.hid (HX.out.next (below_drewN _ 1))
        have HO := Lib.hid (HO.out.below (below_drewN _ 1))
        refine wp_region_held_drew (S := fun w' => Boxed w.heap.size N false w w' ∧ w'.cell? ⟨w.heap.size, 0, none⟩ = some (.int .i64 N) ∧ w'.cell? ⟨w.heap.size, 1, none⟩ = some (.bool false)) (by kernel_rfl) (⟨HX.out, HX.out.c0, HX.out.c1⟩) (fun hHeld => ?_)
        refine wpAnyH_take (i := 0) (oi := _) (v := ?_) rfl (by kernel_rfl) (by kernel_rfl) (by kernel_rfl) (fun _ _ _ h => h) (Or.inl ⟨by rfl, ?_⟩) (by assumption) ?_
        rotate_left
        · (intro w hSw; (try dsimp only at hSw); (first | (go_simp; done) | (go_simp; with_reducible rfl)))
        simp only [Act.put, List.getElem_toArray, List.getElem_cons_succ, List.getElem_cons_zero, List.setIfInBounds_toArray, List.set_cons_zero, List.set_cons_succ]
        refine wpAnyH_take (i := 1) (oi := _) (v := ?_) rfl (by kernel_rfl) (by kernel_rfl) (by kernel_rfl) (fun _ _ _ h => h) (Or.inl ⟨by rfl, ?_⟩) (by assumption) ?_
        rotate_left
        · (intro w hSw; (try dsimp only at hSw); (first | (go_simp; done) | (go_simp; with_reducible rfl)))
        simp only [Act.put, List.getElem_toArray, List.getElem_cons_succ, List.getElem_cons_zero, List.setIfInBounds_toArray, List.set_cons_zero, List.set_cons_succ]
        refine wpAnyH_take (i := 2) (oi := _) (v := ?_) rfl (by kernel_rfl) (by kernel_rfl) (by kernel_rfl) (fun _ _ _ h => h) (Or.inl ⟨by rfl, ?_⟩) (by assumption) ?_
        rotate_left
        · (intro w hSw; (try dsimp only at hSw); (first | (go_simp; done) | (go_simp; with_reducible rfl)))
        simp only [Act.put, List.getElem_toArray, List.getElem_cons_succ, List.getElem_cons_zero, List.setIfInBounds_toArray, List.set_cons_zero, List.set_cons_succ]
        refine wpAnyH_take (i := 3) (oi := _) (v := ?_) rfl (by kernel_rfl) (by kernel_rfl) (by kernel_rfl) (fun _ _ _ h => h) (Or.inl ⟨by rfl, ?_⟩) (by assumption) ?_
        rotate_left
        · (intro w hSw; (try dsimp only at hSw); (first | (go_simp; done) | (go_simp; with_reducible rfl)))
        simp only [Act.put, List.getElem_toArray, List.getElem_cons_succ, List.getElem_cons_zero, List.setIfInBounds_toArray, List.set_cons_zero, List.set_cons_succ]
        refine wpAnyH_take (i := 4) (oi := _) (v := ?_) rfl (by kernel_rfl) (by kernel_rfl) (by kernel_rfl) (fun _ _ _ h => h) (Or.inl ⟨by rfl, ?_⟩) (by assumption) ?_
        rotate_left
        · (intro w hSw; (try dsimp only at hSw); (first | (go_simp; done) | (go_simp; with_reducible rfl)))
        simp only [Act.put, List.getElem_toArray, List.getElem_cons_succ, List.getElem_cons_zero, List.setIfInBounds_toArray, List.set_cons_zero, List.set_cons_succ]
        refine wpAnyH_take (i := 5) (oi := _) (v := ?_) rfl (by kernel_rfl) (by kernel_rfl) (by kernel_rfl) (fun _ _ _ h => h) (Or.inl ⟨by rfl, ?_⟩) (by assumption) ?_
        rotate_left
        · (intro w hSw; (try dsimp only at hSw); (first | (go_simp; done) | (go_simp; with_reducible rfl)))
        simp only [Act.put, List.getElem_toArray, List.getElem_cons_succ, List.getElem_cons_zero, List.setIfInBounds_toArray, List.set_cons_zero, List.set_cons_succ]
        refine wpAnyH_take (i := 6) (oi := _) (v := ?_) rfl (by kernel_rfl) (by kernel_rfl) (by kernel_rfl) (fun _ _ _ h => h) (Or.inl ⟨by rfl, ?_⟩) (by assumption) ?_
        rotate_left
        · (intro w hSw; (try dsimp only at hSw); (first | (go_simp; done) | (go_simp; with_reducible rfl)))
        simp only [Act.put, List.getElem_toArray, List.getElem_cons_succ, List.getElem_cons_zero, List.setIfInBounds_toArray, List.set_cons_zero, List.set_cons_succ]
        refine wpAnyH_ready (rs := [7]) (by kernel_rfl) (by simp) ?_
        refine AllReadyH.cons rfl (fun K hK => ?_) AllReadyH.nil
        go_simp
        refine (HDU.out _).mono ?_
        rintro e w21 ⟨rfl, hww⟩
        have HW21 := Lib.hid (show wr.heap.size ≤ (w21).heap.size from by rw [← hww]; exact Nat.le_refl _)
        have HX := Lib.hid (show Boxed w.heap.size N false w w21 from by rw [← hww]; exact HX.out)
        have HO := Lib.hid (show OwnT (w.heap.size + 1) _ _ us (tabF (partF N KK) j) w21 from by rw [← hww]; exact HO.out)
        clear hww
        clear hHeld
        try go_wp2_with fail
        refine hK.out _ _ (⟨HX.out, HX.out.c0, HX.out.c1⟩) (fun hHeld => ?_)
        clear hK K
        refine wpAnyH_ready (rs := [8]) (by kernel_rfl) (by simp) ?_
        refine AllReadyH.cons rfl (fun K hK => ?_) AllReadyH.nil
        go_simp
        have HSZ := Lib.hid (Nat.succ_le_of_lt HX.out.size)
        refine (HPR.out s (d + 1) _ HAM.out.1 HAM.out.2).mono ?_
        rintro e w22 ⟨u, rfl, hou, hb⟩
        have HOR := Lib.hid (show World.ownsRow w22 w21.heap.size 3 1 u (partF N KK j).length ((partF N KK j).map iv) from by rw [HPJ.out, ← HSV.out, HM.out]; exact hou)
        have HX := Lib.hid (HX.out.next hb)
        have HO := Lib.hid (HO.out.below hb)
        have HXP := Lib.hid HX.out
        have HTP := Lib.hid (show World.ownsRow w22 (w.heap.size + 1) 43 1 _ j us from by have h := HO.out.top; rw [tabF_len] at h; exact h)
        obtain ⟨ra, rc, hrs, _⟩ := row_shape HOR.out
        subst hrs
        have HLN := Lib.hid (show (sweepT s (d + 1) (!decide (d + 1 = lg))).length = (partF N KK j).length from by rw [HPJ.out, ← HSV.out, HM.out])
        clear hou hb
        clear hHeld
        try go_wp2_with fail
        refine hK.out _ _ (⟨HX.out, HX.out.c0, HX.out.c1⟩) (fun hHeld => ?_)
        clear hK K
        refine wpAnyH_ready (rs := [9]) (by kernel_rfl) (by simp) ?_
        refine AllReadyH.cons rfl (fun K hK => ?_) AllReadyH.nil
        go_simp
        have HNW := Lib.hid (one_news (x := .slice ra (partF N KK j).length rc) (t := 43) hHeld.1 w22.heap.size rfl)
        have HOA := Lib.hid (row_below HTP.out (below_new w22 (.cells #[.slice ra (partF N KK j).length rc] 43)))
        refine hK.out _ _ (⟨(hHeld.1.next (below_new _ _)), (hHeld.1.next (below_new _ _)).c0, (hHeld.1.next (below_new _ _)).c1⟩) (fun hHeld => ?_)
        clear hK K
        have HX := Lib.hid hHeld.1
        refine wpAnyH_ready (rs := [10]) (by kernel_rfl) (by simp) ?_
        refine AllReadyH.cons rfl (fun K hK => ?_) AllReadyH.nil
        refine step_append_any (by rfl) _ _ _ (by rfl) (w.heap.size + 1) 43 i1 (.slice none 0 0) 1 24 Try.underlying24 ji jz0 jz1 jz2 rfl (by decide) _ _ _ (by rfl) HOA.out ⟨w22.heap.size, 0, none⟩ 1 1 [.slice ra (partF N KK j).length rc] (by rfl) (by rfl) HNW.out ?c2 ?c3 ?c4 ?c5 ?_
        case c2 => intro u hu; simp at hu; subst hu; rfl
        case c3 => unfold maxLen; omega
        case c4 => omega
        case c5 => have := HXP.out.size; simp; omega
        intro v9 w24 hown9 hgrow9
        have HN9 := Lib.hid (tab_at (tab_next (t := 43) (m := KK) (i := .int .i64 ((j + 1 : Nat) : Int)) HXP.out HO.out HW21.out HSZ.out HOR.out HLQ.out rfl hown9 hgrow9))
        have HX := Lib.hid HN9.out.1
        clear hgrow9 hown9
        clear hHeld
        refine hK.out _ _ (⟨HX.out, HX.out.c0, HX.out.c1⟩) (fun hHeld => ?_)
        clear hK K
        refine wpAnyH_take (i := 11) (oi := _) (v := ?_) rfl (by kernel_rfl) (by kernel_rfl) (by kernel_rfl) (fun _ _ _ h => h) (Or.inl ⟨by rfl, ?_⟩) (by assumption) ?_
        rotate_left
        · (intro w hSw; (try dsimp only at hSw); (first | (go_simp; done) | (go_simp; with_reducible rfl)))
        simp only [Act.put, List.getElem_toArray, List.getElem_cons_succ, List.getElem_cons_zero, List.setIfInBounds_toArray, List.set_cons_zero, List.set_cons_succ]
        refine wpAnyH_done (by kernel_rfl) ?_ _
        refine NoPanic.normal ?_
        clear hHeld
        have hws : IntKind.i64.wrap ((s : Int) + ((d + 1 : Nat) : Int)) = (s : Int) + ((d + 1 : Nat) : Int) := IntWalk.i64_in _ (by have := HAM.out; omega)
        have hx0 := HX.out.c0
        go_wp2_with fail
        go_roundw
        case rel => exact ⟨j + 1, by have := HLQ.out; omega, by go_num, by rw [HSQ.out, ← HSV.out, HM.out]; first | rfl | (congr 1) | (congr 1; push_cast; omega), HN9.out.1, HN9.out.2⟩
        case measure => have := HLQ.out; simp [intOf]; omega
      · have hmv : manyP N KK j = d := by rw [HMJ, if_neg hjr]; rfl
        have HM := Lib.hid hmv
        have HAM := Lib.hid (show 1 ≤ d ∧ s + d ≤ N from by rw [hmv] at hpi; exact hpi)
        have hji : ¬ (j : Int) < (r : Int) := by omega
        clear HMJ hmv hpi
        go_wp2_with fail
        refine wp_region_noPanic ?_
        clear hd0 hd1 hd2 hd3 hd4 hd5 hx0 hx1
        have HX := Lib.hid (HX.out.next (below_drewN _ 1))
        have HO := Lib.hid (HO.out.below (below_drewN _ 1))
        refine wp_region_held_drew (S := fun w' => Boxed w.heap.size N false w w' ∧ w'.cell? ⟨w.heap.size, 0, none⟩ = some (.int .i64 N) ∧ w'.cell? ⟨w.heap.size, 1, none⟩ = some (.bool false)) (by kernel_rfl) (⟨HX.out, HX.out.c0, HX.out.c1⟩) (fun hHeld => ?_)
        refine wpAnyH_take (i := 0) (oi := _) (v := ?_) rfl (by kernel_rfl) (by kernel_rfl) (by kernel_rfl) (fun _ _ _ h => h) (Or.inl ⟨by rfl, ?_⟩) (by assumption) ?_
        rotate_left
        · (intro w hSw; (try dsimp only at hSw); (first | (go_simp; done) | (go_simp; with_reducible rfl)))
        simp only [Act.put, List.getElem_toArray, List.getElem_cons_succ, List.getElem_cons_zero, List.setIfInBounds_toArray, List.set_cons_zero, List.set_cons_succ]
        refine wpAnyH_take (i := 1) (oi := _) (v := ?_) rfl (by kernel_rfl) (by kernel_rfl) (by kernel_rfl) (fun _ _ _ h => h) (Or.inl ⟨by rfl, ?_⟩) (by assumption) ?_
        rotate_left
        · (intro w hSw; (try dsimp only at hSw); (first | (go_simp; done) | (go_simp; with_reducible rfl)))
        simp only [Act.put, List.getElem_toArray, List.getElem_cons_succ, List.getElem_cons_zero, List.setIfInBounds_toArray, List.set_cons_zero, List.set_cons_succ]
        refine wpAnyH_take (i := 2) (oi := _) (v := ?_) rfl (by kernel_rfl) (by kernel_rfl) (by kernel_rfl) (fun _ _ _ h => h) (Or.inl ⟨by rfl, ?_⟩) (by assumption) ?_
        rotate_left
        · (intro w hSw; (try dsimp only at hSw); (first | (go_simp; done) | (go_simp; with_reducible rfl)))
        simp only [Act.put, List.getElem_toArray, List.getElem_cons_succ, List.getElem_cons_zero, List.setIfInBounds_toArray, List.set_cons_zero, List.set_cons_succ]
        refine wpAnyH_take (i := 3) (oi := _) (v := ?_) rfl (by kernel_rfl) (by kernel_rfl) (by kernel_rfl) (fun _ _ _ h => h) (Or.inl ⟨by rfl, ?_⟩) (by assumption) ?_
        rotate_left
        · (intro w hSw; (try dsimp only at hSw); (first | (go_simp; done) | (go_simp; with_reducible rfl)))
        simp only [Act.put, List.getElem_toArray, List.getElem_cons_succ, List.getElem_cons_zero, List.setIfInBounds_toArray, List.set_cons_zero, List.set_cons_succ]
        refine wpAnyH_take (i := 4) (oi := _) (v := ?_) rfl (by kernel_rfl) (by kernel_rfl) (by kernel_rfl) (fun _ _ _ h => h) (Or.inl ⟨by rfl, ?_⟩) (by assumption) ?_
        rotate_left
        · (intro w hSw; (try dsimp only at hSw); (first | (go_simp; done) | (go_simp; with_reducible rfl)))
        simp only [Act.put, List.getElem_toArray, List.getElem_cons_succ, List.getElem_cons_zero, List.setIfInBounds_toArray, List.set_cons_zero, List.set_cons_succ]
        refine wpAnyH_take (i := 5) (oi := _) (v := ?_) rfl (by kernel_rfl) (by kernel_rfl) (by kernel_rfl) (fun _ _ _ h => h) (Or.inl ⟨by rfl, ?_⟩) (by assumption) ?_
        rotate_left
        · (intro w hSw; (try dsimp only at hSw); (first | (go_simp; done) | (go_simp; with_reducible rfl)))
        simp only [Act.put, List.getElem_toArray, List.getElem_cons_succ, List.getElem_cons_zero, List.setIfInBounds_toArray, List.set_cons_zero, List.set_cons_succ]
        refine wpAnyH_take (i := 6) (oi := _) (v := ?_) rfl (by kernel_rfl) (by kernel_rfl) (by kernel_rfl) (fun _ _ _ h => h) (Or.inl ⟨by rfl, ?_⟩) (by assumption) ?_
        rotate_left
        · (intro w hSw; (try dsimp only at hSw); (first | (go_simp; done) | (go_simp; with_reducible rfl)))
        simp only [Act.put, List.getElem_toArray, List.getElem_cons_succ, List.getElem_cons_zero, List.setIfInBounds_toArray, List.set_cons_zero, List.set_cons_succ]
        refine wpAnyH_ready (rs := [7]) (by kernel_rfl) (by simp) ?_
        refine AllReadyH.cons rfl (fun K hK => ?_) AllReadyH.nil
        go_simp
        refine (HDU.out _).mono ?_
        rintro e w21 ⟨rfl, hww⟩
        have HW21 := Lib.hid (show wr.heap.size ≤ (w21).heap.size from by rw [← hww]; exact Nat.le_refl _)
        have HX := Lib.hid (show Boxed w.heap.size N false w w21 from by rw [← hww]; exact HX.out)
        have HO := Lib.hid (show OwnT (w.heap.size + 1) _ _ us (tabF (partF N KK) j) w21 from by rw [← hww]; exact HO.out)
        clear hww
        clear hHeld
        try go_wp2_with fail
        refine hK.out _ _ (⟨HX.out, HX.out.c0, HX.out.c1⟩) (fun hHeld => ?_)
        clear hK K
        refine wpAnyH_ready (rs := [8]) (by kernel_rfl) (by simp) ?_
        refine AllReadyH.cons rfl (fun K hK => ?_) AllReadyH.nil
        go_simp
        have HSZ := Lib.hid (Nat.succ_le_of_lt HX.out.size)
        refine (HPR.out s (d) _ HAM.out.1 HAM.out.2).mono ?_
        rintro e w22 ⟨u, rfl, hou, hb⟩
        have HOR := Lib.hid (show World.ownsRow w22 w21.heap.size 3 1 u (partF N KK j).length ((partF N KK j).map iv) from by rw [HPJ.out, ← HSV.out, HM.out]; exact hou)
        have HX := Lib.hid (HX.out.next hb)
        have HO := Lib.hid (HO.out.below hb)
        have HXP := Lib.hid HX.out
        have HTP := Lib.hid (show World.ownsRow w22 (w.heap.size + 1) 43 1 _ j us from by have h := HO.out.top; rw [tabF_len] at h; exact h)
        obtain ⟨ra, rc, hrs, _⟩ := row_shape HOR.out
        subst hrs
        have HLN := Lib.hid (show (sweepT s (d) (!decide (d = lg))).length = (partF N KK j).length from by rw [HPJ.out, ← HSV.out, HM.out])
        clear hou hb
        clear hHeld
        try go_wp2_with fail
        refine hK.out _ _ (⟨HX.out, HX.out.c0, HX.out.c1⟩) (fun hHeld => ?_)
        clear hK K
        refine wpAnyH_ready (rs := [9]) (by kernel_rfl) (by simp) ?_
        refine AllReadyH.cons rfl (fun K hK => ?_) AllReadyH.nil
        go_simp
        have HNW := Lib.hid (one_news (x := .slice ra (partF N KK j).length rc) (t := 43) hHeld.1 w22.heap.size rfl)
        have HOA := Lib.hid (row_below HTP.out (below_new w22 (.cells #[.slice ra (partF N KK j).length rc] 43)))
        refine hK.out _ _ (⟨(hHeld.1.next (below_new _ _)), (hHeld.1.next (below_new _ _)).c0, (hHeld.1.next (below_new _ _)).c1⟩) (fun hHeld => ?_)
        clear hK K
        have HX := Lib.hid hHeld.1
        refine wpAnyH_ready (rs := [10]) (by kernel_rfl) (by simp) ?_
        refine AllReadyH.cons rfl (fun K hK => ?_) AllReadyH.nil
        refine step_append_any (by rfl) _ _ _ (by rfl) (w.heap.size + 1) 43 i1 (.slice none 0 0) 1 24 Try.underlying24 ji jz0 jz1 jz2 rfl (by decide) _ _ _ (by rfl) HOA.out ⟨w22.heap.size, 0, none⟩ 1 1 [.slice ra (partF N KK j).length rc] (by rfl) (by rfl) HNW.out ?c2 ?c3 ?c4 ?c5 ?_
        case c2 => intro u hu; simp at hu; subst hu; rfl
        case c3 => unfold maxLen; omega
        case c4 => omega
        case c5 => have := HXP.out.size; simp; omega
        intro v9 w24 hown9 hgrow9
        have HN9 := Lib.hid (tab_at (tab_next (t := 43) (m := KK) (i := .int .i64 ((j + 1 : Nat) : Int)) HXP.out HO.out HW21.out HSZ.out HOR.out HLQ.out rfl hown9 hgrow9))
        have HX := Lib.hid HN9.out.1
        clear hgrow9 hown9
        clear hHeld
        refine hK.out _ _ (⟨HX.out, HX.out.c0, HX.out.c1⟩) (fun hHeld => ?_)
        clear hK K
        refine wpAnyH_take (i := 11) (oi := _) (v := ?_) rfl (by kernel_rfl) (by kernel_rfl) (by kernel_rfl) (fun _ _ _ h => h) (Or.inl ⟨by rfl, ?_⟩) (by assumption) ?_
        rotate_left
        · (intro w hSw; (try dsimp only at hSw); (first | (go_simp; done) | (go_simp; with_reducible rfl)))
        simp only [Act.put, List.getElem_toArray, List.getElem_cons_succ, List.getElem_cons_zero, List.setIfInBounds_toArray, List.set_cons_zero, List.set_cons_succ]
        refine wpAnyH_done (by kernel_rfl) ?_ _
        refine NoPanic.normal ?_
        clear hHeld
        have hws : IntKind.i64.wrap ((s : Int) + ((d : Nat) : Int)) = (s : Int) + ((d : Nat) : Int) := IntWalk.i64_in _ (by have := HAM.out; omega)
        have hx0 := HX.out.c0
        go_wp2_with fail
        go_roundw
        case rel => exact ⟨j + 1, by have := HLQ.out; omega, by go_num, by rw [HSQ.out, ← HSV.out, HM.out]; first | rfl | (congr 1) | (congr 1; push_cast; omega), HN9.out.1, HN9.out.2⟩
        case measure => have := HLQ.out; simp [intOf]; omega
    · have hje : j = KK := by omega
      subst hje
      go_wp2_with fail
      go_ret2
      exact ownsTB_R HR.out (HO.out.widen (Nat.le_succ _) (Nat.le_refl _)) HX.out.below
set_option maxHeartbeats 1600000 in
set_option maxRecDepth 20000 in
theorem impl_PartPatrol (n : Int) (g : Bool) (k : Int) (w : World) :
    Calls Try.prog 28 #[rd n g, .int .i64 k] w (OwnsTB w.heap.size (partR n g k).1 (partR n g k).2 w) := by
  by_cases hall : numB n g k = true ∧ g = false ∧ k ≤ n
  · obtain ⟨hnu, rfl, hkn⟩ := hall
    have hk := (numB_iff n false k).1 hnu
    have hr := (roadB_iff n false).1 hk.1
    obtain ⟨N, rfl⟩ : ∃ N : Nat, n = N := ⟨n.toNat, by omega⟩
    obtain ⟨KK, rfl⟩ : ∃ KK : Nat, k = KK := ⟨k.toNat, by omega⟩
    exact impl_PartPatrol_yes N KK w hnu (by omega)
  · have HR := Lib.hid (partR_no hall)
    generalize partR n g k = R at *
    have HRO := Lib.hid (fun w => isRoad_any n g w)
    have HGY := Lib.hid (fun w h => guards_yes k w h)
    have HGN := Lib.hid (fun w h => guards_no k w h)
    have HX0 := Lib.hid (Boxed.first w n g 28)
    have HT0 := Lib.hid (ownT_new (w.alloc (.cells #[.int .i64 n, .bool g] 28)) (w.heap.size + 1) (w.heap.size + 1) (by simp) (Nat.le_refl _))
    have HX := Lib.hid (HX0.out.next (below_new _ (.cells #[] 43)))
    clear HX0
    unfold rd at *
    go_enter Try.func28, Try.ntmps28
    go_wp2_with fail
    refine (HRO.out _).mono ?_
    rintro e w1 ⟨rfl, hb⟩
    have HX := Lib.hid (HX.out.next hb)
    have HT := Lib.hid (HT0.out.below hb)
    have hx0 := HX.out.c0
    have hx1 := HX.out.c1
    clear hb HT0
    cases hr : roadB n g
    · clear hall hr
      go_wp2_with fail
      go_ret2
      exact ownsTB_R HR.out (HT.out.widen (Nat.le_succ _) (Nat.le_refl _)) HX.out.below
    · cases g
      · by_cases hk : 1 ≤ k ∧ k ≤ 6
        · have hkn : n < k := by
            by_cases h : k ≤ n
            · exact absurd ⟨(numB_iff n false k).2 ⟨hr, hk⟩, rfl, h⟩ hall
            · omega
          have HK := Lib.hid hk
          clear hall hr hk
          go_wp2_with fail
          refine (HGY.out _ HK.out).mono ?_
          rintro e w2 ⟨rfl, rfl⟩
          go_wp2_with fail
          go_ret2
          exact ownsTB_R HR.out (HT.out.widen (Nat.le_succ _) (Nat.le_refl _)) HX.out.below
        · clear hall hr
          go_wp2_with fail
          refine (HGN.out _ hk).mono ?_
          rintro e w2 ⟨rfl, rfl⟩
          go_wp2_with fail
          go_ret2
          exact ownsTB_R HR.out (HT.out.widen (Nat.le_succ _) (Nat.le_refl _)) HX.out.below
      · clear hall hr
        go_wp2_with fail
        go_ret2
        exact ownsTB_R HR.out (HT.out.widen (Nat.le_succ _) (Nat.le_refl _)) HX.out.below
end Go.Proofs.Ytefjignlhlpndaa
