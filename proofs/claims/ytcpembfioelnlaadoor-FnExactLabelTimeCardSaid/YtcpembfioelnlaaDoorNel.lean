/-
  What is proved: the contracts of LabelTime of the model and of the program. Conditions: slices that read as lists of numbers; for the program the variable noMeeting is as it was laid.
-/
import Derived.Test.YtcpembfioelnlaaDoorNek
import Derived.Test.YtcpembfioelnlaaDoorMeh
namespace Go.Proofs.YtcpembfioelnlaaDoor
open Go.RowKit
set_option linter.unusedVariables false
set_option linter.unusedSimpArgs false

/-- the walker that makes the moves at once -/
def byW (ms : List Int) : Wk := ⟨0, 1, 0, ms⟩
/-- the walker of a label on a ring of n places -/
def labW (n : Int) (xs : List Int) : Wk := byW (toldL xs n.toNat xs.length)
/-- what LabelTime answers -/
def labR (n : Int) (g : Bool) (xs ys : List Int) : Int × Bool :=
  if g = true ∧ (withB 6 0 1 xs = true ∧ 1 ≤ n ∧ n * xs.length ≤ 24) ∧ (withB 6 0 1 ys = true ∧ 1 ≤ n ∧ n * ys.length ≤ 24) ∧ xs.length = ys.length then worstR n g (labW n xs) (labW n ys) else (0, false)
theorem labR_no {n : Int} {g : Bool} {xs ys : List Int} (h : ¬ (g = true ∧ (withB 6 0 1 xs = true ∧ 1 ≤ n ∧ n * xs.length ≤ 24) ∧ (withB 6 0 1 ys = true ∧ 1 ≤ n ∧ n * ys.length ≤ 24) ∧ xs.length = ys.length)) : labR n g xs ys = (0, false) := if_neg h
theorem labR_yes {n : Int} {g : Bool} {xs ys : List Int} (h : g = true ∧ (withB 6 0 1 xs = true ∧ 1 ≤ n ∧ n * xs.length ≤ 24) ∧ (withB 6 0 1 ys = true ∧ 1 ≤ n ∧ n * ys.length ≤ 24) ∧ xs.length = ys.length) : labR n g xs ys = worstR n g (labW n xs) (labW n ys) := if_pos h
theorem labR_road {n : Int} {g : Bool} {xs ys : List Int} (h : roadB n g = false) : labR n g xs ys = (0, false) := by
  unfold labR
  split
  · unfold worstR
    rw [if_neg]
    intro hb
    have := (Bool.and_eq_true_iff.1 hb).1
    rw [((wkB_iff n g _).1 this).road] at h
    cases h
  · rfl
theorem walkerBy_any (v : Value) (ms : List Int) (w : World) (hv : ReadsI w v ms) :
    Calls Tryd.prog 57 #[v] w fun e w' => e = .returned (.agg #[.int .i64 (byW ms).s, .int .i64 (byW ms).f, .int .i64 (byW ms).d, v]) ∧ Below w.heap.size w w' := by
  obtain ⟨a, c, rfl, _⟩ := hv
  generalize ms.length = l
  go_enter Tryd.func57, Tryd.ntmps57
  go_wp2_with fail
  refine bodyPost_ret (v := .agg #[.int .i64 0, .int .i64 1, .int .i64 0, .slice a l c]) (by simp [results, Tryd.results57, go_sem]) rfl ⟨rfl, ?_⟩
  first
    | exact below_new w _
    | (repeat refine Below.setCell ?_ (by show w.heap.size ≤ _; simp) _
       exact below_new w _)
set_option maxHeartbeats 1600000 in
set_option maxRecDepth 20000 in
theorem impl_LabelTime (n : Int) (g : Bool) (v : Value) (xs : List Int) (u : Value) (ys : List Int) (w : World) (hv : ReadsI w v xs) (hu : ReadsI w u ys) (hN : NM w) :
    Calls Tryd.prog 33 #[rd n g, v, u] w fun e w' => e = .returned (.tuple #[.int .i64 (labR n g xs ys).1, .bool (labR n g xs ys).2]) ∧ Below w.heap.size w w' := by
  have HL1 := Lib.hid (fun w hv => impl_LabelMoves v xs n w hv)
  have HL2 := Lib.hid (fun w hv => impl_LabelMoves u ys n w hv)
  have HBY := Lib.hid (fun v ms w hv => walkerBy_any v ms w hv)
  have HWM := Lib.hid (fun k m k2 m2 w hv hv2 hN => impl_WorstMeet n g k m k2 m2 w hv hv2 hN)
  have HX := Lib.hid (Boxed.first w n g 30)
  have HV := Lib.hid hv
  have HU := Lib.hid hu
  have HN := Lib.hid hN
  have hln := toldR_len xs n
  have hln2 := toldR_len ys n
  have HT1 := Lib.hid (fun h => toldR_no (xs := xs) (a := n) h)
  have HT2 := Lib.hid (fun h => toldR_no (xs := ys) (a := n) h)
  obtain ⟨y, c, rfl, hc, hm, _⟩ := hv
  obtain ⟨y2, c2, rfl, hc2, hm2, _⟩ := hu
  unfold maxLen at hm hm2
  clear hN
  unfold wkv rd at *
  have h0 := HX.out.c0
  go_enter Tryd.func33, Tryd.ntmps33
  go_wp2_with fail
  refine (HL1.out _ (HV.out.below HX.out.below)).mono ?_
  rintro e w1 ⟨v1, rfl, ho, hb⟩
  have HX := Lib.hid (HX.out.next hb)
  have HR1 := Lib.hid (owns_reads ho (by unfold maxLen; omega))
  clear ho hb h0
  have h0 := HX.out.c0
  go_wp2_with fail
  refine (HL2.out _ (HU.out.below HX.out.below)).mono ?_
  rintro e w2 ⟨v2, rfl, ho, hb⟩
  have HX := Lib.hid (HX.out.next hb)
  have HR1 := Lib.hid (HR1.out.below hb)
  have HR2 := Lib.hid (owns_reads ho (by unfold maxLen; omega))
  clear ho hb h0 hln hln2
  have h0 := HX.out.c0
  have h1 := HX.out.c1
  by_cases hx : withB 6 0 1 xs = true ∧ 1 ≤ n ∧ n * xs.length ≤ 24
  · have HXY := Lib.hid hx
    have ht1 := toldR_yes hx
    rw [ht1] at HR1 ⊢
    by_cases hy : withB 6 0 1 ys = true ∧ 1 ≤ n ∧ n * ys.length ≤ 24
    · have HYY := Lib.hid hy
      have ht2 := toldR_yes hy
      rw [ht2] at HR2 ⊢
      clear hx hy ht1 ht2
      cases g
      · have HR := Lib.hid (labR_no (n := n) (g := false) (xs := xs) (ys := ys) (fun h => by cases h.1))
        go_wp2_with fail
        go_ret2
        exact ⟨ret_RB HR.out, HX.out.below⟩
      · by_cases hl : xs.length = ys.length
        · have HR := Lib.hid (labR_yes ⟨rfl, HXY.out, HYY.out, hl⟩)
          have hl2 : ((xs.length : Int) == ys.length) = true := by simp [hl]
          have hl3 : ((xs.length : Int) != ys.length) = false := by simp [hl]
          have HLL := Lib.hid hl
          have hl4 : (xs.length : Int) = ys.length := by omega
          have HL4 := Lib.hid hl4
          clear hl hl4
          have e1 : labW n xs = byW (toldL xs n.toNat xs.length) := rfl
          have e2 : labW n ys = byW (toldL ys n.toNat ys.length) := rfl
          have HE1 := Lib.hid e1
          have HE2 := Lib.hid e2
          clear e1 e2
          have hR1 := HR1.out
          have hR2 := HR2.out
          obtain ⟨a1, d1, hs1, _⟩ := hR1
          obtain ⟨a2, d2, hs2, _⟩ := hR2
          simp only at hs1 hs2
          generalize hq1 : toldL xs n.toNat xs.length = q1 at *
          generalize hq2 : toldL ys n.toNat ys.length = q2 at *
          subst hs1 hs2
          clear hq1 hq2
          generalize hm1 : q1.length = l1 at *
          generalize hm2 : q2.length = l2 at *
          clear hm1 hm2
          go_wp2_with fail
          have HX := Lib.hid (HX.out.next (below_drewN _ 1))
          have HR1 := Lib.hid (HR1.out.below (below_drewN _ 1))
          have HR2 := Lib.hid (HR2.out.below (below_drewN _ 1))
          refine wp_region_noPanic ?_
          refine wp_region_held_drew (S := fun w' => w'.cell? ⟨w.heap.size, 0, none⟩ = some (.int .i64 n) ∧ w'.cell? ⟨w.heap.size, 1, none⟩ = some (.bool true)) (by kernel_rfl) (⟨HX.out.c0, HX.out.c1⟩) (fun hHeld => ?_)
          refine wpAnyH_take (i := 0) (oi := _) (v := ?_) rfl (by kernel_rfl) (by kernel_rfl) (by kernel_rfl) (fun _ _ _ h => h) (Or.inl ⟨by rfl, ?_⟩) (by assumption) ?_
          rotate_left
          · (intro w hSw; (try dsimp only at hSw); (first | (go_simp; done) | (go_simp; with_reducible rfl)))
          simp only [Act.put, List.getElem_toArray, List.getElem_cons_succ, List.getElem_cons_zero, List.setIfInBounds_toArray, List.set_cons_zero, List.set_cons_succ]
          refine wpAnyH_take (i := 1) (oi := _) (v := ?_) rfl (by kernel_rfl) (by kernel_rfl) (by kernel_rfl) (fun _ _ _ h => h) (Or.inl ⟨by rfl, ?_⟩) (by assumption) ?_
          rotate_left
          · (intro w hSw; (try dsimp only at hSw); (first | (go_simp; done) | (go_simp; with_reducible rfl)))
          simp only [Act.put, List.getElem_toArray, List.getElem_cons_succ, List.getElem_cons_zero, List.setIfInBounds_toArray, List.set_cons_zero, List.set_cons_succ]
          refine wpAnyH_take (i := 3) (oi := _) (v := ?_) rfl (by kernel_rfl) (by kernel_rfl) (by kernel_rfl) (fun _ _ _ h => h) (Or.inl ⟨by rfl, ?_⟩) (by assumption) ?_
          rotate_left
          · (intro w hSw; (try dsimp only at hSw); (first | (go_simp; done) | (go_simp; with_reducible rfl)))
          simp only [Act.put, List.getElem_toArray, List.getElem_cons_succ, List.getElem_cons_zero, List.setIfInBounds_toArray, List.set_cons_zero, List.set_cons_succ]
          refine wpAnyH_ready (rs := [2]) (by kernel_rfl) (by simp) ?_
          refine AllReadyH.cons rfl (fun K hK => ?_) AllReadyH.nil
          go_simp
          refine (HBY.out _ q1 _ HR1.out).mono ?_
          rintro e w3 ⟨rfl, hb⟩
          have HX := Lib.hid (HX.out.next hb)
          have HR1 := Lib.hid (HR1.out.below hb)
          have HR2 := Lib.hid (HR2.out.below hb)
          clear hb hHeld
          go_wp2_with fail
          refine hK.out _ _ (⟨HX.out.c0, HX.out.c1⟩) (fun hHeld => ?_)
          clear hK K
          refine wpAnyH_ready (rs := [4]) (by kernel_rfl) (by simp) ?_
          refine AllReadyH.cons rfl (fun K hK => ?_) AllReadyH.nil
          go_simp
          refine (HBY.out _ q2 _ HR2.out).mono ?_
          rintro e w4 ⟨rfl, hb⟩
          have HX := Lib.hid (HX.out.next hb)
          have HR1 := Lib.hid (HR1.out.below hb)
          have HR2 := Lib.hid (HR2.out.below hb)
          clear hb hHeld
          go_wp2_with fail
          refine hK.out _ _ (⟨HX.out.c0, HX.out.c1⟩) (fun hHeld => ?_)
          clear hK K
          refine wpAnyH_ready (rs := [5]) (by kernel_rfl) (by simp) ?_
          refine AllReadyH.cons rfl (fun K hK => ?_) AllReadyH.nil
          go_simp
          refine (HWM.out (byW q1) _ (byW q2) _ _ HR1.out HR2.out (HN.out.below HX.out.below)).mono ?_
          rintro e w5 ⟨rfl, hb⟩
          have HX := Lib.hid (HX.out.next hb)
          clear hb hHeld
          have HRR := Lib.hid (show labR n true xs ys = worstR n true (byW q1) (byW q2) by rw [HR.out, HE1.out, HE2.out])
          generalize worstR n true (byW q1) (byW q2) = R at *
          obtain ⟨ra, rb⟩ := R
          go_wp2_with fail
          refine hK.out _ _ (⟨HX.out.c0, HX.out.c1⟩) (fun hHeld => ?_)
          clear hK K
          refine wpAnyH_take (i := 6) (oi := _) (v := ?_) rfl (by kernel_rfl) (by kernel_rfl) (by kernel_rfl) (fun _ _ _ h => h) (Or.inl ⟨by rfl, ?_⟩) (by assumption) ?_
          rotate_left
          · (intro w hSw; (try dsimp only at hSw); (first | (go_simp; done) | (go_simp; with_reducible rfl)))
          simp only [Act.put, List.getElem_toArray, List.getElem_cons_succ, List.getElem_cons_zero, List.setIfInBounds_toArray, List.set_cons_zero, List.set_cons_succ]
          refine wpAnyH_take (i := 7) (oi := _) (v := ?_) rfl (by kernel_rfl) (by kernel_rfl) (by kernel_rfl) (fun _ _ _ h => h) (Or.inl ⟨by rfl, ?_⟩) (by assumption) ?_
          rotate_left
          · (intro w hSw; (try dsimp only at hSw); (first | (go_simp; done) | (go_simp; with_reducible rfl)))
          simp only [Act.put, List.getElem_toArray, List.getElem_cons_succ, List.getElem_cons_zero, List.setIfInBounds_toArray, List.set_cons_zero, List.set_cons_succ]
          refine wpAnyH_take (i := 8) (oi := _) (v := ?_) rfl (by kernel_rfl) (by kernel_rfl) (by kernel_rfl) (fun _ _ _ h => h) (Or.inl ⟨by rfl, ?_⟩) (by assumption) ?_
          rotate_left
          · (intro w hSw; (try dsimp only at hSw); (first | (go_simp; done) | (go_simp; with_reducible rfl)))
          simp only [Act.put, List.getElem_toArray, List.getElem_cons_succ, List.getElem_cons_zero, List.setIfInBounds_toArray, List.set_cons_zero, List.set_cons_succ]
          refine wpAnyH_take (i := 9) (oi := _) (v := ?_) rfl (by kernel_rfl) (by kernel_rfl) (by kernel_rfl) (fun _ _ _ h => h) (Or.inl ⟨by rfl, ?_⟩) (by assumption) ?_
          rotate_left
          · (intro w hSw; (try dsimp only at hSw); (first | (go_simp; done) | (go_simp; with_reducible rfl)))
          simp only [Act.put, List.getElem_toArray, List.getElem_cons_succ, List.getElem_cons_zero, List.setIfInBounds_toArray, List.set_cons_zero, List.set_cons_succ]
          refine wpAnyH_done (by kernel_rfl) ?_ _
          refine NoPanic.normal ?_
          clear hHeld
          go_wp2_with fail
          go_ret2
          exact ⟨ret_RB HRR.out, HX.out.below⟩
        · have HR := Lib.hid (labR_no (n := n) (g := true) (xs := xs) (ys := ys) (fun h => hl h.2.2.2))
          have hl2 : ((xs.length : Int) == ys.length) = false := by simp; omega
          have hl3 : ((xs.length : Int) != ys.length) = true := by simp; omega
          have hl4 : ¬ (xs.length : Int) = ys.length := by omega
          go_wp2_with fail
          go_ret2
          exact ⟨ret_RB HR.out, HX.out.below⟩
    · have HR := Lib.hid (labR_no (n := n) (g := g) (xs := xs) (ys := ys) (fun h => hy h.2.2.1))
      rw [HT2.out hy]
      clear hx hy ht1
      go_wp2_with fail
      go_ret2
      exact ⟨ret_RB HR.out, HX.out.below⟩
  · have HR := Lib.hid (labR_no (n := n) (g := g) (xs := xs) (ys := ys) (fun h => hx h.2.1))
    rw [HT1.out hx]
    clear hx
    generalize (toldR ys n).2 = b2
    go_wp2_with fail
    go_ret2
    exact ⟨ret_RB HR.out, HX.out.below⟩
set_option maxHeartbeats 1600000 in
set_option maxRecDepth 20000 in
theorem spec_LabelTime (n : Int) (g : Bool) (v : Value) (xs : List Int) (u : Value) (ys : List Int) (w : World) (hv : ReadsI w v xs) (hu : ReadsI w u ys) :
    Calls Tryd.prog 31 #[rd n g, v, u] w fun e w' => e = .returned (.tuple #[.int .i64 (labR n g xs ys).1, .bool (labR n g xs ys).2]) ∧ Below w.heap.size w w' := by
  have HRO := Lib.hid (fun w => l2Road_any n g w)
  have HB1 := Lib.hid (fun w hv => l4Bits_any v xs w hv)
  have HB2 := Lib.hid (fun w hv => l4Bits_any u ys w hv)
  have HT1 := Lib.hid (fun N w hv hl hN => l4Told_any v xs N w hv hl hN)
  have HT2 := Lib.hid (fun N w hv hl hN => l4Told_any u ys N w hv hl hN)
  have HWM := Lib.hid (fun k m k2 m2 w hv hv2 => spec_WorstMeet n g k m k2 m2 w hv hv2)
  have HX := Lib.hid (Boxed.first w n g 30)
  have HV := Lib.hid hv
  have HU := Lib.hid hu
  obtain ⟨y, c, rfl, hc, hm, _⟩ := hv
  obtain ⟨y2, c2, rfl, hc2, hm2, _⟩ := hu
  unfold maxLen at hm hm2
  unfold wkv rd at *
  go_enter Tryd.func31, Tryd.ntmps31
  go_wp2_with fail
  refine (HRO.out _).mono ?_
  rintro e w1 ⟨rfl, hb⟩
  have HX := Lib.hid (HX.out.next hb)
  clear hb
  have h0 := HX.out.c0
  have h1 := HX.out.c1
  cases hr : roadB n g
  · have HR := Lib.hid (labR_road (xs := xs) (ys := ys) hr)
    clear hr
    go_wp2_with fail
    go_ret2
    exact ⟨ret_RB HR.out, HX.out.below⟩
  · obtain ⟨hn2, hn24, _⟩ := (roadB_iff n g).1 hr
    clear hr
    cases g
    · have HR := Lib.hid (labR_no (n := n) (g := false) (xs := xs) (ys := ys) (fun h => by cases h.1))
      go_wp2_with fail
      go_ret2
      exact ⟨ret_RB HR.out, HX.out.below⟩
    · go_wp2_with fail
      refine (HB1.out _ (HV.out.below HX.out.below)).mono ?_
      rintro e w2 ⟨rfl, rfl⟩
      cases hx : withB 6 0 1 xs
      · have HR := Lib.hid (labR_no (n := n) (g := true) (xs := xs) (ys := ys) (fun h => by rw [h.2.1.1] at hx; cases hx))
        clear hx
        go_wp2_with fail
        go_ret2
        exact ⟨ret_RB HR.out, HX.out.below⟩
      · have HXX := Lib.hid hx
        have hxl := (withB_iff 6 0 1 xs).1 hx
        have hx1 := hxl.1
        have hx2 := hxl.2.1
        clear hx hxl
        go_wp2_with fail
        refine (HB2.out _ (HU.out.below HX.out.below)).mono ?_
        rintro e w3 ⟨rfl, rfl⟩
        cases hy : withB 6 0 1 ys
        · have HR := Lib.hid (labR_no (n := n) (g := true) (xs := xs) (ys := ys) (fun h => by rw [h.2.2.1.1] at hy; cases hy))
          clear hy
          go_wp2_with fail
          go_ret2
          exact ⟨ret_RB HR.out, HX.out.below⟩
        · have HYY := Lib.hid hy
          have hyl := (withB_iff 6 0 1 ys).1 hy
          have hy1 := hyl.1
          have hy2 := hyl.2.1
          clear hy hyl
          by_cases hl : xs.length = ys.length
          · have hl2 : ((xs.length : Int) == ys.length) = true := by simp [hl]
            have hl3 : ((xs.length : Int) != ys.length) = false := by simp [hl]
            have HL := Lib.hid hl
            have hp0 : 0 ≤ n * (xs.length : Int) := Int.mul_nonneg (by omega) (by omega)
            have hp1 : n * (xs.length : Int) ≤ 24 * 6 := Int.mul_le_mul hn24 hx2 (by omega) (by omega)
            clear hl
            by_cases hs : n * (xs.length : Int) ≤ 24
            · have HR := Lib.hid (labR_yes (n := n) (g := true) (xs := xs) (ys := ys) ⟨rfl, ⟨HXX.out, by omega, hs⟩, ⟨HYY.out, by omega, by rw [← HL.out]; exact hs⟩, HL.out⟩)
              obtain ⟨N, rfl⟩ : ∃ N : Nat, n = N := ⟨n.toNat, by omega⟩
              have hN24 : N ≤ 24 := by omega
              have HE1 := Lib.hid (show labW (N : Int) xs = byW (toldL xs N xs.length) from rfl)
              have HE2 := Lib.hid (show labW (N : Int) ys = byW (toldL ys N ys.length) from rfl)
              go_wp2_with fail
              refine (HT1.out N _ (HV.out.below HX.out.below) (by omega) hN24).mono ?_
              rintro e w4 ⟨v1, rfl, ho, hb⟩
              have hq := toldL_len xs N xs.length (Nat.le_refl _)
              have hq24 : (toldL xs N xs.length).length ≤ 144 := by rw [hq]; exact Nat.le_trans (Nat.mul_le_mul (by omega : xs.length ≤ 6) hN24) (by omega)
              have HR1 := Lib.hid (owns_reads ho (by unfold maxLen; omega))
              obtain ⟨a1, d1, hs1, _⟩ := owns_shape ho
              have HX := Lib.hid (HX.out.next hb)
              clear hq hq24 hb ho h0 h1 hp0 hp1 hs hl2 hl3
              generalize toldL xs N xs.length = q1 at *
              subst hs1
              generalize hl1 : q1.length = l1 at *
              clear hl1
              have HX := Lib.hid (HX.out.next (below_new w4 (.cells #[.int .i64 0, .int .i64 1, .int .i64 0, .slice a1 l1 d1] 32)))
              have HR1 := Lib.hid (HR1.out.below (below_new w4 (.cells #[.int .i64 0, .int .i64 1, .int .i64 0, .slice a1 l1 d1] 32)))
              have HK1 := Lib.hid (blk_new w4 #[.int .i64 0, .int .i64 1, .int .i64 0, .slice a1 l1 d1] 32)
              have h0 := HX.out.c0
              have h1 := HX.out.c1
              go_wp2_with fail
              refine (HT2.out N _ (HU.out.below HX.out.below) (by omega) hN24).mono ?_
              rintro e w5 ⟨v2, rfl, ho, hb⟩
              have hq := toldL_len ys N ys.length (Nat.le_refl _)
              have hq24 : (toldL ys N ys.length).length ≤ 144 := by rw [hq]; exact Nat.le_trans (Nat.mul_le_mul (by omega : ys.length ≤ 6) hN24) (by omega)
              have HR2 := Lib.hid (owns_reads ho (by unfold maxLen; omega))
              obtain ⟨a2, d2, hs2, _⟩ := owns_shape ho
              have HX := Lib.hid (HX.out.next hb)
              have HR1 := Lib.hid (HR1.out.below hb)
              have HK1 := Lib.hid (HK1.out.below hb)
              clear hq hq24 hb ho h0 h1
              generalize toldL ys N ys.length = q2 at *
              subst hs2
              generalize hl2 : q2.length = l2 at *
              clear hl2
              have HX := Lib.hid (HX.out.next (below_new w5 (.cells #[.int .i64 0, .int .i64 1, .int .i64 0, .slice a2 l2 d2] 32)))
              have HR1 := Lib.hid (HR1.out.below (below_new w5 (.cells #[.int .i64 0, .int .i64 1, .int .i64 0, .slice a2 l2 d2] 32)))
              have HR2 := Lib.hid (HR2.out.below (below_new w5 (.cells #[.int .i64 0, .int .i64 1, .int .i64 0, .slice a2 l2 d2] 32)))
              have HK1 := Lib.hid (HK1.out.below (below_new w5 (.cells #[.int .i64 0, .int .i64 1, .int .i64 0, .slice a2 l2 d2] 32)))
              have HK2 := Lib.hid (blk_new w5 #[.int .i64 0, .int .i64 1, .int .i64 0, .slice a2 l2 d2] 32)
              have h0 := HX.out.c0
              have h1 := HX.out.c1
              have p0 := HK1.out.cell 0
              have p1 := HK1.out.cell 1
              have p2 := HK1.out.cell 2
              have p3 := HK1.out.cell 3
              have q0 := HK2.out.cell 0
              have q01 := HK2.out.cell 1
              have q02 := HK2.out.cell 2
              have q03 := HK2.out.cell 3
              go_wp2_with fail
              refine (HWM.out (byW q1) (.slice a1 l1 d1) (byW q2) (.slice a2 l2 d2) _ HR1.out HR2.out).mono ?_
              rintro e w6 ⟨rfl, hb⟩
              have HX := Lib.hid (HX.out.next hb)
              clear hb h0 h1 p0 p1 p2 p3 q0 q01 q02 q03
              have HRR := Lib.hid (show labR N true xs ys = worstR N true (byW q1) (byW q2) by rw [HR.out, HE1.out, HE2.out])
              generalize worstR N true (byW q1) (byW q2) = R at *
              obtain ⟨ra, rb⟩ := R
              go_wp2_with fail
              go_ret2
              exact ⟨ret_RB HRR.out, HX.out.below⟩
            · have HR := Lib.hid (labR_no (n := n) (g := true) (xs := xs) (ys := ys) (fun h => hs h.2.1.2.2))
              go_wp2_with fail
              go_ret2
              exact ⟨ret_RB HR.out, HX.out.below⟩
          · have HR := Lib.hid (labR_no (n := n) (g := true) (xs := xs) (ys := ys) (fun h => hl h.2.2.2))
            have hl2 : ((xs.length : Int) == ys.length) = false := by simp; omega
            have hl3 : ((xs.length : Int) != ys.length) = true := by simp; omega
            have hl4 : ¬ (xs.length : Int) = ys.length := by omega
            go_wp2_with fail
            go_ret2
            exact ⟨ret_RB HR.out, HX.out.below⟩
end Go.Proofs.YtcpembfioelnlaaDoor
