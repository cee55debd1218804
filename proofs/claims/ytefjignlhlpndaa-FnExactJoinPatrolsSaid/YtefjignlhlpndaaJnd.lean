/-
  What is proved: the contract of impl.JoinPatrols. Conditions: slices that read as tables, of a size in bounds.
-/
import Derived.Test.YtefjignlhlpndaaJnc
namespace Go.Proofs.Ytefjignlhlpndaa
open Go.RowKit
set_option linter.unusedVariables false
set_option linter.unusedSimpArgs false

theorem held_two {base : Nat} {n : Int} {g : Bool} {w W : World} (h : Boxed base n g w W) (k : Nat) (hk : W.heap.size = k) : Two (W.alloc (.cells #[.int .i64 0, .int .i64 0] 65)) k 0 0 := blk_at W _ _ k hk
theorem readsV_two {W : World} {ba ca bb cb na nb : Nat} {us us2 : List Value} {t : TypeId} (ha : us.length = na) (hca : na ≤ ca) (hA : ba < W.heap.size) (hcA : ∀ (j : Nat) u, us[j]? = some u → W.cell? ⟨ba, 0 + j, none⟩ = some u)
    (hb : us2.length = nb) (hcb : nb ≤ cb) (hB : bb < W.heap.size) (hcB : ∀ (j : Nat) u, us2[j]? = some u → W.cell? ⟨bb, 0 + j, none⟩ = some u) (k : Nat) (hk : W.heap.size = k) :
    ReadsV (W.alloc (.cells #[.slice (some ⟨ba, 0, none⟩) na ca, .slice (some ⟨bb, 0, none⟩) nb cb] t)) (.slice (some ⟨k, 0, none⟩) 2 2) [us, us2] := by
  subst hk ha hb
  refine ⟨_, 2, rfl, Nat.le_refl _, by simp, fun j vs hj => ?_⟩
  match j, hj with
  | 0, hj =>
    cases hj
    exact ⟨_, 0, ba, 0, ca, rfl, by simp, by rw [cell_new]; rfl, hca, fun i x hi => ⟨by simp; omega, ((below_new W _).cell (p := ⟨ba, 0 + i, none⟩) hA).trans (hcA i x hi)⟩⟩
  | 1, hj =>
    cases hj
    exact ⟨_, 0, bb, 0, cb, rfl, by simp, by rw [cell_new]; rfl, hcb, fun i x hi => ⟨by simp; omega, ((below_new W _).cell (p := ⟨bb, 0 + i, none⟩) hB).trans (hcB i x hi)⟩⟩
set_option maxHeartbeats 6400000 in
set_option maxRecDepth 20000 in
theorem impl_JoinPatrols (n : Int) (g : Bool) (v v2 : Value) (xss yss : List (List Int)) (w : World) (hv : ReadsL w v xss) (hv2 : ReadsL w v2 yss) (hs : sizeT xss ≤ 1048576) (hs2 : sizeT yss ≤ 1048576) :
    Calls Try.prog 36 #[rd n g, v, v2] w (OwnsTB w.heap.size (joinPR n g xss yss).1 (joinPR n g xss yss).2 w) := by
  have HAP := Lib.hid (fun v w hv => arePatrols_two n g v xss yss w hv hs hs2)
  have HX := Lib.hid (Boxed.first w n g 28)
  have HV := Lib.hid hv
  have HV2 := Lib.hid hv2
  cases hpq : (patD n g xss && patD n g yss)
  · have HR := Lib.hid (joinPR_no (n := n) (g := g) (xss := xss) (yss := yss) (fun h => by rw [h.1, h.2.1] at hpq; cases hpq))
    have HPQ := Lib.hid hpq
    clear hpq
    generalize joinPR n g xss yss = R at *
    unfold rd at *
    obtain ⟨va, vc, rfl, _⟩ := hv
    obtain ⟨va2, vc2, rfl, _⟩ := hv2
    go_enter Try.func36, Try.ntmps36
    go_wp2_with fail
    refine (HAP.out _ _ ?_).mono ?_
    · exact two_tables (HV.out.below HX.out.below) (HV2.out.below HX.out.below) _ (by simp)
    rintro e w1 ⟨rfl, hb⟩
    have HX := Lib.hid ((HX.out.next (below_new _ _)).next hb)
    clear hb
    rw [HPQ.out]
    go_wp2_with fail
    go_ret2
    exact no_table HR.out HX.out rfl
  · have hpb : patD n g xss = true ∧ patD n g yss = true := by revert hpq; cases patD n g xss <;> cases patD n g yss <;> simp
    obtain ⟨hp, hq⟩ := hpb
    have hpx := (patD_iff n g xss).1 hp
    have hpy := (patD_iff n g yss).1 hq
    obtain ⟨L, hL1, hL60, hL0, hrx⟩ := pat_rows hpx
    obtain ⟨M, hM1, hM60, hM0, hry⟩ := pat_rows hpy
    have hN := join_nums (a := L) (b := M) ⟨hL1, hL60⟩ ⟨hM1, hM60⟩
    obtain ⟨b, o, a2, c2, vc, rfl, hvc, hbl, hcx⟩ := pat_top hpx hv
    obtain ⟨b3, o3, a4, c4, vc2, rfl, hvc2, hbl2, hcy⟩ := pat_top hpy hv2
    have HRA := Lib.hid (fun w hv => repeatedRounds_any (.slice (some ⟨b, o, none⟩) xss.length vc) xss L (M / Nat.gcd L M) w hv (fun j xs h => (hrx j xs h).1) ⟨hL1, hL60⟩ hN.1 hpx.2.1)
    have HRB := Lib.hid (fun w hv => repeatedRounds_any (.slice (some ⟨b3, o3, none⟩) yss.length vc2) yss M (L / Nat.gcd L M) w hv (fun j xs h => (hry j xs h).1) ⟨hM1, hM60⟩ hN.2.1 hpy.2.1)
    have HRD := Lib.hid (fun w => show Calls Try.prog 70 #[.agg #[.int .i64 L, .int .i64 M]] w fun e w' => e = .returned (.agg #[.int .i64 ((L / Nat.gcd L M : Nat) : Int), .int .i64 ((M / Nat.gcd L M : Nat) : Int)]) ∧ Below w.heap.size w w' from reduced_any L M w (by omega) (by omega) hM1)
    have hJT : joinT xss yss = tabF (chgT (repT (M / Nat.gcd L M)) xss) xss.length ++ tabF (chgT (repT (L / Nat.gcd L M)) yss) yss.length := by unfold joinT; rw [hL0, hM0]
    have HJR := Lib.hid (joinT_rows hp hq)
    have hJS := joinT_size hp hq
    have HAQ := Lib.hid (fun v w hv => arePatrols_one n g v (joinT xss yss) w hv hJS)
    have HTA := Lib.hid (tabF_len (chgT (repT (M / Nat.gcd L M)) xss) xss.length)
    have HTB := Lib.hid (tabF_len (chgT (repT (L / Nat.gcd L M)) yss) yss.length)
    have HPQ := Lib.hid hpq
    have hx6 := hpx.2.1
    have hy6 := hpy.2.1
    have hxl1 : 0 < xss.length := hpx.1
    have hyl1 : 0 < yss.length := hpy.1
    rw [hL0] at hcx
    rw [hM0] at hcy
    have HJY := Lib.hid (fun (h : patD n g (joinT xss yss) = true) => joinPR_yes hp hq h)
    have HJN := Lib.hid (fun (h : patD n g (joinT xss yss) = false) => joinPR_no (n := n) (g := g) (xss := xss) (yss := yss) (fun h2 => by rw [h] at h2; cases h2.2.2))
    generalize tabF (chgT (repT (M / Nat.gcd L M)) xss) xss.length = TA at *
    generalize tabF (chgT (repT (L / Nat.gcd L M)) yss) yss.length = TB at *
    have HJT := Lib.hid hJT
    have HL6 := Lib.hid (And.intro hx6 hy6)
    have HL1 := Lib.hid (And.intro hxl1 hyl1)
    generalize joinPR n g xss yss = R at *
    clear hrx hry hL0 hM0 hp hq hpq hpx hpy hJT hv hv2 hJS hN hL1 hL60 hM1 hM60 hx6 hy6
    generalize L / Nat.gcd L M = e1 at *
    generalize M / Nat.gcd L M = e2 at *
    have HCX := Lib.hid hcx
    have HCY := Lib.hid hcy
    clear hcx hcy
    unfold rd at *
    go_enter Try.func36, Try.ntmps36
    go_wp2_with fail
    refine (HAP.out _ _ ?_).mono ?_
    · exact two_tables (HV.out.below HX.out.below) (HV2.out.below HX.out.below) _ (by simp)
    rintro e wA ⟨rfl, hb⟩
    have HX := Lib.hid ((HX.out.next (below_new _ _)).next hb)
    clear hb HAP
    rw [HPQ.out]
    go_wp2_with fail
    refine wp_region_noPanic ?_
    have HX := Lib.hid (HX.out.next (below_drewN _ 1))
    refine wp_region_held_drew (S := fun w' => Boxed w.heap.size n g w w' ∧ w'.cell? ⟨b, o, none⟩ = some (.slice a2 L c2) ∧ w'.cell? ⟨b3, o3, none⟩ = some (.slice a4 M c4)) (by kernel_rfl) (⟨HX.out, (HX.out.below.cell (p := ⟨b, o, none⟩) hbl).trans HCX.out, (HX.out.below.cell (p := ⟨b3, o3, none⟩) hbl2).trans HCY.out⟩) (fun hHeld => ?_)
    refine wpAnyH_take (i := 0) (oi := _) (v := ?_) rfl (by kernel_rfl) (by kernel_rfl) (by kernel_rfl) (fun _ _ _ h => h) (Or.inl ⟨by rfl, ?_⟩) (by assumption) ?_
    rotate_left
    · (intro w hSw; (try dsimp only at hSw); (first | (go_simp; done) | (go_simp; with_reducible rfl)))
    simp only [Act.put, List.getElem_toArray, List.getElem_cons_succ, List.getElem_cons_zero, List.setIfInBounds_toArray, List.set_cons_zero, List.set_cons_succ]
    refine wpAnyH_take (i := 1) (oi := _) (v := ?_) rfl (by kernel_rfl) (by kernel_rfl) (by kernel_rfl) (fun _ _ _ h => h) (Or.inl ⟨by rfl, ?_⟩) (by assumption) ?_
    rotate_left
    · (intro w hSw; (try dsimp only at hSw); (first | (go_simp; done) | (go_simp; with_reducible rfl)))
    simp only [Act.put, List.getElem_toArray, List.getElem_cons_succ, List.getElem_cons_zero, List.setIfInBounds_toArray, List.set_cons_zero, List.set_cons_succ]
    refine wpAnyH_take (i := 2) (oi := _) (v := ?_) rfl (by kernel_rfl) (by kernel_rfl) (by kernel_rfl) (fun _ _ _ h => h) (Or.inl ⟨by rfl, ?_⟩) (by assumption) ?_
    rotate_left
    · (intro w hSw; (try dsimp only at hSw); (first | (go_simp; done) | (go_simp; with_reducible rfl)))
    simp only [Act.put, List.getElem_toArray, List.getElem_cons_succ, List.getElem_cons_zero, List.setIfInBounds_toArray, List.set_cons_zero, List.set_cons_succ]
    refine wpAnyH_take (i := 3) (oi := _) (v := ?_) rfl (by kernel_rfl) (by kernel_rfl) (by kernel_rfl) (fun _ _ _ h => h) (Or.inl ⟨by rfl, ?_⟩) (by assumption) ?_
    rotate_left
    · (intro w hSw; (try dsimp only at hSw); (first | (go_simp; done) | (go_simp; with_reducible rfl)))
    simp only [Act.put, List.getElem_toArray, List.getElem_cons_succ, List.getElem_cons_zero, List.setIfInBounds_toArray, List.set_cons_zero, List.set_cons_succ]
    refine wpAnyH_take (i := 4) (oi := _) (v := ?_) rfl (by kernel_rfl) (by kernel_rfl) (by kernel_rfl) (fun _ _ _ h => h) (Or.inl ⟨by rfl, ?_⟩) (by assumption) ?_
    rotate_left
    · (intro w hSw; (try dsimp only at hSw); (first | (go_simp; done) | (go_simp; with_reducible rfl)))
    simp only [Act.put, List.getElem_toArray, List.getElem_cons_succ, List.getElem_cons_zero, List.setIfInBounds_toArray, List.set_cons_zero, List.set_cons_succ]
    refine wpAnyH_take (i := 5) (oi := _) (v := ?_) rfl (by kernel_rfl) (by kernel_rfl) (by kernel_rfl) (fun _ _ _ h => h) (Or.inl ⟨by rfl, ?_⟩) (by assumption) ?_
    rotate_left
    · (intro w hSw; (try dsimp only at hSw); (first | (go_simp; done) | (go_simp; with_reducible rfl)))
    simp only [Act.put, List.getElem_toArray, List.getElem_cons_succ, List.getElem_cons_zero, List.setIfInBounds_toArray, List.set_cons_zero, List.set_cons_succ]
    refine wpAnyH_take (i := 6) (oi := _) (v := ?_) rfl (by kernel_rfl) (by kernel_rfl) (by kernel_rfl) (fun _ _ _ h => h) (Or.inl ⟨by rfl, ?_⟩) (by assumption) ?_
    rotate_left
    · (intro w hSw; (try dsimp only at hSw); (first | (go_simp; done) | (go_simp; with_reducible rfl)))
    simp only [Act.put, List.getElem_toArray, List.getElem_cons_succ, List.getElem_cons_zero, List.setIfInBounds_toArray, List.set_cons_zero, List.set_cons_succ]
    refine wpAnyH_take (i := 7) (oi := _) (v := ?_) rfl (by kernel_rfl) (by kernel_rfl) (by kernel_rfl) (fun _ _ _ h => h) (Or.inl ⟨by rfl, ?_⟩) (by assumption) ?_
    rotate_left
    · (intro w hSw; (try dsimp only at hSw); (first | (go_simp; done) | (go_simp; with_reducible rfl)))
    simp only [Act.put, List.getElem_toArray, List.getElem_cons_succ, List.getElem_cons_zero, List.setIfInBounds_toArray, List.set_cons_zero, List.set_cons_succ]
    refine wpAnyH_take (i := 8) (oi := _) (v := ?_) rfl (by kernel_rfl) (by kernel_rfl) (by kernel_rfl) (fun _ _ _ h => h) (Or.inl ⟨by rfl, ?_⟩) (by assumption) ?_
    rotate_left
    · (intro w hSw; (try dsimp only at hSw); (first | (go_simp; done) | (go_simp; with_reducible rfl)))
    simp only [Act.put, List.getElem_toArray, List.getElem_cons_succ, List.getElem_cons_zero, List.setIfInBounds_toArray, List.set_cons_zero, List.set_cons_succ]
    refine wpAnyH_ready (rs := [9, 10]) (by kernel_rfl) (by simp) ?_
    refine AllReadyH.cons rfl (fun K hK => ?_) (AllReadyH.cons rfl (fun K hK => ?_) AllReadyH.nil)
    · skip
      go_simp
      refine (HRD.out _).mono ?_
      rintro e w21 ⟨rfl, hb⟩
      have HX := Lib.hid (HX.out.next hb)
      have HXP := Lib.hid HX.out
      try have HT := Lib.hid (HT.out.below hb)
      clear hb
      clear hHeld
      try go_wp2_with fail
      refine hK.out _ _ (⟨HX.out, (HX.out.below.cell (p := ⟨b, o, none⟩) hbl).trans HCX.out, (HX.out.below.cell (p := ⟨b3, o3, none⟩) hbl2).trans HCY.out⟩) (fun hHeld => ?_)
      clear hK K
      refine wpAnyH_ready (rs := [10]) (by kernel_rfl) (by simp) ?_
      refine AllReadyH.cons rfl (fun K hK => ?_) AllReadyH.nil
      go_simp
      first | (have HT := Lib.hid (held_two hHeld.1 wA.heap.size (by simp))) | (have HT := Lib.hid (held_two hHeld.1 _ rfl))
      first | (have HKL := Lib.hid (show w.heap.size + 1 ≤ wA.heap.size from Nat.succ_le_of_lt HX.out.size)) | (have HKL := Lib.hid (Nat.succ_le_of_lt HX.out.size))
      refine hK.out _ _ (⟨(hHeld.1.next (below_new _ _)), ((hHeld.1.next (below_new _ _)).below.cell (p := ⟨b, o, none⟩) hbl).trans HCX.out, ((hHeld.1.next (below_new _ _)).below.cell (p := ⟨b3, o3, none⟩) hbl2).trans HCY.out⟩) (fun hHeld => ?_)
      clear hK K
      have HX := Lib.hid hHeld.1
      refine wpAnyH_ready (rs := [11]) (by kernel_rfl) (by simp) ?_
      refine AllReadyH.cons rfl (fun K hK => ?_) AllReadyH.nil
      have c0 := HT.out.cell 0
      have c1 := HT.out.cell 1
      have f0 := HT.out.free 0
      have f1 := HT.out.free 1
      go_simp
      first
        | (have HX := Lib.hid (HXP.out.next (below_new w21 (.cells #[.int .i64 (e1 : Int), .int .i64 (e2 : Int)] 65))); have HT := Lib.hid (blk_at w21 #[.int .i64 (e1 : Int), .int .i64 (e2 : Int)] 65 w21.heap.size rfl))
        | (have HX := Lib.hid (HX.out.nextAt (Nat.lt_succ_self _) (set2_below (v0 := .int .i64 (e1 : Int)) (v1 := .int .i64 (e2 : Int)) (Below.refl (w.heap.size + 1) _) HKL.out)); have HT := Lib.hid (set2_same (.int .i64 (e1 : Int)) (.int .i64 (e2 : Int)) HT.out))
      clear c0 c1 f0 f1
      clear hHeld
      refine hK.out _ _ (⟨HX.out, (HX.out.below.cell (p := ⟨b, o, none⟩) hbl).trans HCX.out, (HX.out.below.cell (p := ⟨b3, o3, none⟩) hbl2).trans HCY.out⟩) (fun hHeld => ?_)
      clear hK K
      refine wpAnyH_done (by kernel_rfl) ?_ _
      refine NoPanic.normal ?_
      clear hHeld
      go_wp2_with fail
      refine wp_region_noPanic ?_
      have HX := Lib.hid (HX.out.next (below_drewN _ 1))
      have HT := Lib.hid (HT.out.below (below_drewN _ 1))
      refine wp_region_held_drew (S := fun w' => Boxed w.heap.size n g w w' ∧ w'.cell? ⟨w21.heap.size, 0, none⟩ = some (.int .i64 e1) ∧ w'.cell? ⟨w21.heap.size, 1, none⟩ = some (.int .i64 e2)) (by kernel_rfl) (⟨HX.out, HT.out.cell 0, HT.out.cell 1⟩) (fun hHeld => ?_)
      refine wpAnyH_take (i := 0) (oi := _) (v := ?_) rfl (by kernel_rfl) (by kernel_rfl) (by kernel_rfl) (fun _ _ _ h => h) (Or.inl ⟨by rfl, ?_⟩) (by assumption) ?_
      rotate_left
      · (intro w hSw; (try dsimp only at hSw); (first | (go_simp; done) | (go_simp; with_reducible rfl)))
      simp only [Act.put, List.getElem_toArray, List.getElem_cons_succ, List.getElem_cons_zero, List.setIfInBounds_toArray, List.set_cons_zero, List.set_cons_succ]
      refine wpAnyH_take (i := 1) (oi := _) (v := ?_) rfl (by kernel_rfl) (by kernel_rfl) (by kernel_rfl) (fun _ _ _ h => h) (Or.inl ⟨by rfl, ?_⟩) (by assumption) ?_
      rotate_left
      · (intro w hSw; (try dsimp only at hSw); (first | (go_simp; done) | (go_simp; with_reducible rfl)))
      simp only [Act.put, List.getElem_toArray, List.getElem_cons_succ, List.getElem_cons_zero, List.setIfInBounds_toArray, List.set_cons_zero, List.set_cons_succ]
      refine wpAnyH_take (i := 2) (oi := _) (v := ?_) rfl (by kernel_rfl) (by kernel_rfl) (by kernel_rfl) (fun _ _ _ h => h) (Or.inl ⟨by rfl, ?_⟩) (by assumption) ?_
      rotate_left
      · (intro w hSw; (try dsimp only at hSw); (first | (go_simp; done) | (go_simp; with_reducible rfl)))
      simp only [Act.put, List.getElem_toArray, List.getElem_cons_succ, List.getElem_cons_zero, List.setIfInBounds_toArray, List.set_cons_zero, List.set_cons_succ]
      refine wpAnyH_take (i := 4) (oi := _) (v := ?_) rfl (by kernel_rfl) (by kernel_rfl) (by kernel_rfl) (fun _ _ _ h => h) (Or.inl ⟨by rfl, ?_⟩) (by assumption) ?_
      rotate_left
      · (intro w hSw; (try dsimp only at hSw); (first | (go_simp; done) | (go_simp; with_reducible rfl)))
      simp only [Act.put, List.getElem_toArray, List.getElem_cons_succ, List.getElem_cons_zero, List.setIfInBounds_toArray, List.set_cons_zero, List.set_cons_succ]
      refine wpAnyH_take (i := 5) (oi := _) (v := ?_) rfl (by kernel_rfl) (by kernel_rfl) (by kernel_rfl) (fun _ _ _ h => h) (Or.inl ⟨by rfl, ?_⟩) (by assumption) ?_
      rotate_left
      · (intro w hSw; (try dsimp only at hSw); (first | (go_simp; done) | (go_simp; with_reducible rfl)))
      simp only [Act.put, List.getElem_toArray, List.getElem_cons_succ, List.getElem_cons_zero, List.setIfInBounds_toArray, List.set_cons_zero, List.set_cons_succ]
      refine wpAnyH_take (i := 6) (oi := _) (v := ?_) rfl (by kernel_rfl) (by kernel_rfl) (by kernel_rfl) (fun _ _ _ h => h) (Or.inl ⟨by rfl, ?_⟩) (by assumption) ?_
      rotate_left
      · (intro w hSw; (try dsimp only at hSw); (first | (go_simp; done) | (go_simp; with_reducible rfl)))
      simp only [Act.put, List.getElem_toArray, List.getElem_cons_succ, List.getElem_cons_zero, List.setIfInBounds_toArray, List.set_cons_zero, List.set_cons_succ]
      refine wpAnyH_ready (rs := [3]) (by kernel_rfl) (by simp) ?_
      refine AllReadyH.cons rfl (fun K hK => ?_) AllReadyH.nil
      go_simp
      have HSA := Lib.hid HX.out.size
      refine (HRA.out _ (HV.out.below HX.out.below)).mono ?_
      rintro e w41 ⟨z, us, rfl, ho, hb⟩
      have HX := Lib.hid (HX.out.next hb)
      have HT := Lib.hid (HT.out.below hb)
      have HS34 := Lib.hid hb.size
      have HOA := Lib.hid ho
      obtain ⟨za, zc, rfl, hzc, _, _⟩ := row_shape HOA.out.top
      have HZC := Lib.hid hzc
      clear ho hb hzc
      clear hHeld
      try go_wp2_with fail
      refine hK.out _ _ (⟨HX.out, HT.out.cell 0, HT.out.cell 1⟩) (fun hHeld => ?_)
      clear hK K
      refine wpAnyH_ready (rs := [7]) (by kernel_rfl) (by simp) ?_
      refine AllReadyH.cons rfl (fun K hK => ?_) AllReadyH.nil
      go_simp
      refine (HRB.out _ (HV2.out.below HX.out.below)).mono ?_
      rintro e w42 ⟨z, us2, rfl, ho, hb⟩
      have HX := Lib.hid (HX.out.next hb)
      have HT := Lib.hid (HT.out.below hb)
      have HS45 := Lib.hid hb.size
      have HOA := Lib.hid (HOA.out.below hb)
      have HOB := Lib.hid ho
      obtain ⟨zb, zd, rfl, hzd, _, _⟩ := row_shape HOB.out.top
      have HZD := Lib.hid hzd
      clear ho hb hzd
      obtain ⟨ba, hba, hbaL, hcA, honA⟩ := ownT_cells HOA.out (by rw [HTA.out]; exact HL1.out.1)
      subst hba
      obtain ⟨bb, hbb, hbbL, hcB, honB⟩ := ownT_cells HOB.out (by rw [HTB.out]; exact HL1.out.2)
      subst hbb
      have HCA := Lib.hid (And.intro hbaL hcA)
      have HCB := Lib.hid (And.intro hbbL hcB)
      have hsum : sumV [us, us2] 2 = TA.length + TB.length := by show 0 + us.length + us2.length = _; rw [HOA.out.len, HOB.out.len]; omega
      have hcat : catV [us, us2] 2 = us ++ us2 := by show ([] ++ us) ++ us2 = _; rw [List.nil_append]
      have HCC := Lib.hid (fun v w hv => show Calls Try.prog 71 #[v] w fun e w' => ∃ z, e = .returned z ∧ w'.ownsRow w.heap.size 43 1 z (TA.length + TB.length) (us ++ us2) ∧ Below w.heap.size w w' from by
        have h := concatT_any v [us, us2] w hv (fun j vs hj => by
          match j, hj with
          | 0, hj => cases hj; exact honA
          | 1, hj => cases hj; exact honB) (by show 0 < sumV [us, us2] 2; rw [hsum]; have := HTA.out; have := HL1.out.1; omega) (by show sumV [us, us2] 2 ≤ 1000; rw [hsum]; have := HTA.out; have := HTB.out; have := HL6.out; omega)
        rw [show ([us, us2] : List (List Value)).length = 2 from rfl, hsum, hcat] at h
        exact h)
      clear honA honB hsum hcat hbaL hcA hbbL hcB
      clear hHeld
      try go_wp2_with fail
      refine hK.out _ _ (⟨HX.out, HT.out.cell 0, HT.out.cell 1⟩) (fun hHeld => ?_)
      clear hK K
      refine wpAnyH_ready (rs := [8]) (by kernel_rfl) (by simp) ?_
      refine AllReadyH.cons rfl (fun K hK => ?_) AllReadyH.nil
      go_simp
      have HVV := Lib.hid (readsV_two (t := 24) HOA.out.len HZC.out HCA.out.1 HCA.out.2 HOB.out.len HZD.out HCB.out.1 HCB.out.2 _ rfl)
      have HT := Lib.hid (HT.out.below (below_new _ (.cells #[.slice (some ⟨ba, 0, none⟩) TA.length zc, .slice (some ⟨bb, 0, none⟩) TB.length zd] 24)))
      have HOA := Lib.hid (HOA.out.below (below_new _ (.cells #[.slice (some ⟨ba, 0, none⟩) TA.length zc, .slice (some ⟨bb, 0, none⟩) TB.length zd] 24)))
      have HOB := Lib.hid (HOB.out.below (below_new _ (.cells #[.slice (some ⟨ba, 0, none⟩) TA.length zc, .slice (some ⟨bb, 0, none⟩) TB.length zd] 24)))
      refine hK.out _ _ (⟨(hHeld.1.next (below_new _ _)), HT.out.cell 0, HT.out.cell 1⟩) (fun hHeld => ?_)
      clear hK K
      have HX := Lib.hid hHeld.1
      refine wpAnyH_ready (rs := [9]) (by kernel_rfl) (by simp) ?_
      refine AllReadyH.cons rfl (fun K hK => ?_) AllReadyH.nil
      go_simp
      refine (HCC.out _ _ HVV.out).mono ?_
      rintro e w44 ⟨z, rfl, hown, hb⟩
      have HO9 := Lib.hid (ownT_concat HOA.out HOB.out (Nat.le_refl _) HS34.out (row_lower hown (Nat.le_trans HS34.out (Nat.le_trans HS45.out (by simp)))) (fun b cs h => hb.block b (Array.getElem?_eq_some_iff.1 h).1))
      rw [← HJT.out] at HO9
      have HX := Lib.hid (HX.out.next hb)
      have HT := Lib.hid (HT.out.below hb)
      obtain ⟨z9, c9, hz9, _⟩ := row_shape HO9.out.top
      subst hz9
      have HO9 := Lib.hid HO9.out
      clear hown hb
      clear hHeld
      try go_wp2_with fail
      refine hK.out _ _ (⟨HX.out, HT.out.cell 0, HT.out.cell 1⟩) (fun hHeld => ?_)
      clear hK K
      refine wpAnyH_take (i := 10) (oi := _) (v := ?_) rfl (by kernel_rfl) (by kernel_rfl) (by kernel_rfl) (fun _ _ _ h => h) (Or.inl ⟨by rfl, ?_⟩) (by assumption) ?_
      rotate_left
      · (intro w hSw; (try dsimp only at hSw); (first | (go_simp; done) | (go_simp; with_reducible rfl)))
      simp only [Act.put, List.getElem_toArray, List.getElem_cons_succ, List.getElem_cons_zero, List.setIfInBounds_toArray, List.set_cons_zero, List.set_cons_succ]
      refine wpAnyH_done (by kernel_rfl) ?_ _
      refine NoPanic.normal ?_
      clear hHeld
      clear HT
      have HJM := Lib.hid (show (joinT xss yss).length ≤ maxLen from by have := HJR.out.1; unfold maxLen; omega)
      have hx0 := HX.out.c0
      have hx1' := HX.out.c1
      cases hj : patD n g (joinT xss yss)
      · have HR := Lib.hid (HJN.out hj)
        have HJ := Lib.hid hj
        clear hj
        go_wp2_with fail
        refine (HAQ.out _ _ ?_).mono ?_
        · exact one_table (HO9.out.reads HJM.out) _ (by simp)
        rintro e w30 ⟨rfl, hb⟩
        have HX := Lib.hid ((HX.out.next (below_new _ _)).next hb)
        clear hb
        rw [HJ.out]
        go_wp2_with fail
        go_ret2
        exact no_table HR.out HX.out rfl
      · have HR := Lib.hid (HJY.out hj)
        have HJ := Lib.hid hj
        clear hj
        go_wp2_with fail
        refine (HAQ.out _ _ ?_).mono ?_
        · exact one_table (HO9.out.reads HJM.out) _ (by simp)
        rintro e w30 ⟨rfl, hb⟩
        have HO9 := Lib.hid ((HO9.out.below (below_new _ _)).below hb)
        have HX := Lib.hid ((HX.out.next (below_new _ _)).next hb)
        clear hb
        rw [HJ.out]
        go_wp2_with fail
        go_ret2
        exact ownsTB_R HR.out (HO9.out.widen (by have := HSA.out; omega) (Nat.le_refl _)) HX.out.below
    · skip
      go_simp
      first | (have HT := Lib.hid (held_two hHeld.1 wA.heap.size (by simp))) | (have HT := Lib.hid (held_two hHeld.1 _ rfl))
      first | (have HKL := Lib.hid (show w.heap.size + 1 ≤ wA.heap.size from Nat.succ_le_of_lt HX.out.size)) | (have HKL := Lib.hid (Nat.succ_le_of_lt HX.out.size))
      refine hK.out _ _ (⟨(hHeld.1.next (below_new _ _)), ((hHeld.1.next (below_new _ _)).below.cell (p := ⟨b, o, none⟩) hbl).trans HCX.out, ((hHeld.1.next (below_new _ _)).below.cell (p := ⟨b3, o3, none⟩) hbl2).trans HCY.out⟩) (fun hHeld => ?_)
      clear hK K
      have HX := Lib.hid hHeld.1
      refine wpAnyH_ready (rs := [9]) (by kernel_rfl) (by simp) ?_
      refine AllReadyH.cons rfl (fun K hK => ?_) AllReadyH.nil
      go_simp
      refine (HRD.out _).mono ?_
      rintro e w25 ⟨rfl, hb⟩
      have HX := Lib.hid (HX.out.next hb)
      have HXP := Lib.hid HX.out
      try have HT := Lib.hid (HT.out.below hb)
      clear hb
      clear hHeld
      try go_wp2_with fail
      refine hK.out _ _ (⟨HX.out, (HX.out.below.cell (p := ⟨b, o, none⟩) hbl).trans HCX.out, (HX.out.below.cell (p := ⟨b3, o3, none⟩) hbl2).trans HCY.out⟩) (fun hHeld => ?_)
      clear hK K
      refine wpAnyH_ready (rs := [11]) (by kernel_rfl) (by simp) ?_
      refine AllReadyH.cons rfl (fun K hK => ?_) AllReadyH.nil
      have c0 := HT.out.cell 0
      have c1 := HT.out.cell 1
      have f0 := HT.out.free 0
      have f1 := HT.out.free 1
      go_simp
      first
        | (have HX := Lib.hid (HXP.out.next (below_new w21 (.cells #[.int .i64 (e1 : Int), .int .i64 (e2 : Int)] 65))); have HT := Lib.hid (blk_at w21 #[.int .i64 (e1 : Int), .int .i64 (e2 : Int)] 65 w21.heap.size rfl))
        | (have HX := Lib.hid (HX.out.nextAt (Nat.lt_succ_self _) (set2_below (v0 := .int .i64 (e1 : Int)) (v1 := .int .i64 (e2 : Int)) (Below.refl (w.heap.size + 1) _) HKL.out)); have HT := Lib.hid (set2_same (.int .i64 (e1 : Int)) (.int .i64 (e2 : Int)) HT.out))
      clear c0 c1 f0 f1
      clear hHeld
      refine hK.out _ _ (⟨HX.out, (HX.out.below.cell (p := ⟨b, o, none⟩) hbl).trans HCX.out, (HX.out.below.cell (p := ⟨b3, o3, none⟩) hbl2).trans HCY.out⟩) (fun hHeld => ?_)
      clear hK K
      refine wpAnyH_done (by kernel_rfl) ?_ _
      refine NoPanic.normal ?_
      clear hHeld
      go_wp2_with fail
      refine wp_region_noPanic ?_
      have HX := Lib.hid (HX.out.next (below_drewN _ 1))
      have HT := Lib.hid (HT.out.below (below_drewN _ 1))
      refine wp_region_held_drew (S := fun w' => Boxed w.heap.size n g w w' ∧ w'.cell? ⟨wA.heap.size, 0, none⟩ = some (.int .i64 e1) ∧ w'.cell? ⟨wA.heap.size, 1, none⟩ = some (.int .i64 e2)) (by kernel_rfl) (⟨HX.out, HT.out.cell 0, HT.out.cell 1⟩) (fun hHeld => ?_)
      refine wpAnyH_take (i := 0) (oi := _) (v := ?_) rfl (by kernel_rfl) (by kernel_rfl) (by kernel_rfl) (fun _ _ _ h => h) (Or.inl ⟨by rfl, ?_⟩) (by assumption) ?_
      rotate_left
      · (intro w hSw; (try dsimp only at hSw); (first | (go_simp; done) | (go_simp; with_reducible rfl)))
      simp only [Act.put, List.getElem_toArray, List.getElem_cons_succ, List.getElem_cons_zero, List.setIfInBounds_toArray, List.set_cons_zero, List.set_cons_succ]
      refine wpAnyH_take (i := 1) (oi := _) (v := ?_) rfl (by kernel_rfl) (by kernel_rfl) (by kernel_rfl) (fun _ _ _ h => h) (Or.inl ⟨by rfl, ?_⟩) (by assumption) ?_
      rotate_left
      · (intro w hSw; (try dsimp only at hSw); (first | (go_simp; done) | (go_simp; with_reducible rfl)))
      simp only [Act.put, List.getElem_toArray, List.getElem_cons_succ, List.getElem_cons_zero, List.setIfInBounds_toArray, List.set_cons_zero, List.set_cons_succ]
      refine wpAnyH_take (i := 2) (oi := _) (v := ?_) rfl (by kernel_rfl) (by kernel_rfl) (by kernel_rfl) (fun _ _ _ h => h) (Or.inl ⟨by rfl, ?_⟩) (by assumption) ?_
      rotate_left
      · (intro w hSw; (try dsimp only at hSw); (first | (go_simp; done) | (go_simp; with_reducible rfl)))
      simp only [Act.put, List.getElem_toArray, List.getElem_cons_succ, List.getElem_cons_zero, List.setIfInBounds_toArray, List.set_cons_zero, List.set_cons_succ]
      refine wpAnyH_take (i := 4) (oi := _) (v := ?_) rfl (by kernel_rfl) (by kernel_rfl) (by kernel_rfl) (fun _ _ _ h => h) (Or.inl ⟨by rfl, ?_⟩) (by assumption) ?_
      rotate_left
      · (intro w hSw; (try dsimp only at hSw); (first | (go_simp; done) | (go_simp; with_reducible rfl)))
      simp only [Act.put, List.getElem_toArray, List.getElem_cons_succ, List.getElem_cons_zero, List.setIfInBounds_toArray, List.set_cons_zero, List.set_cons_succ]
      refine wpAnyH_take (i := 5) (oi := _) (v := ?_) rfl (by kernel_rfl) (by kernel_rfl) (by kernel_rfl) (fun _ _ _ h => h) (Or.inl ⟨by rfl, ?_⟩) (by assumption) ?_
      rotate_left
      · (intro w hSw; (try dsimp only at hSw); (first | (go_simp; done) | (go_simp; with_reducible rfl)))
      simp only [Act.put, List.getElem_toArray, List.getElem_cons_succ, List.getElem_cons_zero, List.setIfInBounds_toArray, List.set_cons_zero, List.set_cons_succ]
      refine wpAnyH_take (i := 6) (oi := _) (v := ?_) rfl (by kernel_rfl) (by kernel_rfl) (by kernel_rfl) (fun _ _ _ h => h) (Or.inl ⟨by rfl, ?_⟩) (by assumption) ?_
      rotate_left
      · (intro w hSw; (try dsimp only at hSw); (first | (go_simp; done) | (go_simp; with_reducible rfl)))
      simp only [Act.put, List.getElem_toArray, List.getElem_cons_succ, List.getElem_cons_zero, List.setIfInBounds_toArray, List.set_cons_zero, List.set_cons_succ]
      refine wpAnyH_ready (rs := [3]) (by kernel_rfl) (by simp) ?_
      refine AllReadyH.cons rfl (fun K hK => ?_) AllReadyH.nil
      go_simp
      have HSA := Lib.hid HX.out.size
      refine (HRA.out _ (HV.out.below HX.out.below)).mono ?_
      rintro e w41 ⟨z, us, rfl, ho, hb⟩
      have HX := Lib.hid (HX.out.next hb)
      have HT := Lib.hid (HT.out.below hb)
      have HS34 := Lib.hid hb.size
      have HOA := Lib.hid ho
      obtain ⟨za, zc, rfl, hzc, _, _⟩ := row_shape HOA.out.top
      have HZC := Lib.hid hzc
      clear ho hb hzc
      clear hHeld
      try go_wp2_with fail
      refine hK.out _ _ (⟨HX.out, HT.out.cell 0, HT.out.cell 1⟩) (fun hHeld => ?_)
      clear hK K
      refine wpAnyH_ready (rs := [7]) (by kernel_rfl) (by simp) ?_
      refine AllReadyH.cons rfl (fun K hK => ?_) AllReadyH.nil
      go_simp
      refine (HRB.out _ (HV2.out.below HX.out.below)).mono ?_
      rintro e w42 ⟨z, us2, rfl, ho, hb⟩
      have HX := Lib.hid (HX.out.next hb)
      have HT := Lib.hid (HT.out.below hb)
      have HS45 := Lib.hid hb.size
      have HOA := Lib.hid (HOA.out.below hb)
      have HOB := Lib.hid ho
      obtain ⟨zb, zd, rfl, hzd, _, _⟩ := row_shape HOB.out.top
      have HZD := Lib.hid hzd
      clear ho hb hzd
      obtain ⟨ba, hba, hbaL, hcA, honA⟩ := ownT_cells HOA.out (by rw [HTA.out]; exact HL1.out.1)
      subst hba
      obtain ⟨bb, hbb, hbbL, hcB, honB⟩ := ownT_cells HOB.out (by rw [HTB.out]; exact HL1.out.2)
      subst hbb
      have HCA := Lib.hid (And.intro hbaL hcA)
      have HCB := Lib.hid (And.intro hbbL hcB)
      have hsum : sumV [us, us2] 2 = TA.length + TB.length := by show 0 + us.length + us2.length = _; rw [HOA.out.len, HOB.out.len]; omega
      have hcat : catV [us, us2] 2 = us ++ us2 := by show ([] ++ us) ++ us2 = _; rw [List.nil_append]
      have HCC := Lib.hid (fun v w hv => show Calls Try.prog 71 #[v] w fun e w' => ∃ z, e = .returned z ∧ w'.ownsRow w.heap.size 43 1 z (TA.length + TB.length) (us ++ us2) ∧ Below w.heap.size w w' from by
        have h := concatT_any v [us, us2] w hv (fun j vs hj => by
          match j, hj with
          | 0, hj => cases hj; exact honA
          | 1, hj => cases hj; exact honB) (by show 0 < sumV [us, us2] 2; rw [hsum]; have := HTA.out; have := HL1.out.1; omega) (by show sumV [us, us2] 2 ≤ 1000; rw [hsum]; have := HTA.out; have := HTB.out; have := HL6.out; omega)
        rw [show ([us, us2] : List (List Value)).length = 2 from rfl, hsum, hcat] at h
        exact h)
      clear honA honB hsum hcat hbaL hcA hbbL hcB
      clear hHeld
      try go_wp2_with fail
      refine hK.out _ _ (⟨HX.out, HT.out.cell 0, HT.out.cell 1⟩) (fun hHeld => ?_)
      clear hK K
      refine wpAnyH_ready (rs := [8]) (by kernel_rfl) (by simp) ?_
      refine AllReadyH.cons rfl (fun K hK => ?_) AllReadyH.nil
      go_simp
      have HVV := Lib.hid (readsV_two (t := 24) HOA.out.len HZC.out HCA.out.1 HCA.out.2 HOB.out.len HZD.out HCB.out.1 HCB.out.2 _ rfl)
      have HT := Lib.hid (HT.out.below (below_new _ (.cells #[.slice (some ⟨ba, 0, none⟩) TA.length zc, .slice (some ⟨bb, 0, none⟩) TB.length zd] 24)))
      have HOA := Lib.hid (HOA.out.below (below_new _ (.cells #[.slice (some ⟨ba, 0, none⟩) TA.length zc, .slice (some ⟨bb, 0, none⟩) TB.length zd] 24)))
      have HOB := Lib.hid (HOB.out.below (below_new _ (.cells #[.slice (some ⟨ba, 0, none⟩) TA.length zc, .slice (some ⟨bb, 0, none⟩) TB.length zd] 24)))
      refine hK.out _ _ (⟨(hHeld.1.next (below_new _ _)), HT.out.cell 0, HT.out.cell 1⟩) (fun hHeld => ?_)
      clear hK K
      have HX := Lib.hid hHeld.1
      refine wpAnyH_ready (rs := [9]) (by kernel_rfl) (by simp) ?_
      refine AllReadyH.cons rfl (fun K hK => ?_) AllReadyH.nil
      go_simp
      refine (HCC.out _ _ HVV.out).mono ?_
      rintro e w44 ⟨z, rfl, hown, hb⟩
      have HO9 := Lib.hid (ownT_concat HOA.out HOB.out (Nat.le_refl _) HS34.out (row_lower hown (Nat.le_trans HS34.out (Nat.le_trans HS45.out (by simp)))) (fun b cs h => hb.block b (Array.getElem?_eq_some_iff.1 h).1))
      rw [← HJT.out] at HO9
      have HX := Lib.hid (HX.out.next hb)
      have HT := Lib.hid (HT.out.below hb)
      obtain ⟨z9, c9, hz9, _⟩ := row_shape HO9.out.top
      subst hz9
      have HO9 := Lib.hid HO9.out
      clear hown hb
      clear hHeld
      try go_wp2_with fail
      refine hK.out _ _ (⟨HX.out, HT.out.cell 0, HT.out.cell 1⟩) (fun hHeld => ?_)
      clear hK K
      refine wpAnyH_take (i := 10) (oi := _) (v := ?_) rfl (by kernel_rfl) (by kernel_rfl) (by kernel_rfl) (fun _ _ _ h => h) (Or.inl ⟨by rfl, ?_⟩) (by assumption) ?_
      rotate_left
      · (intro w hSw; (try dsimp only at hSw); (first | (go_simp; done) | (go_simp; with_reducible rfl)))
      simp only [Act.put, List.getElem_toArray, List.getElem_cons_succ, List.getElem_cons_zero, List.setIfInBounds_toArray, List.set_cons_zero, List.set_cons_succ]
      refine wpAnyH_done (by kernel_rfl) ?_ _
      refine NoPanic.normal ?_
      clear hHeld
      clear HT
      have HJM := Lib.hid (show (joinT xss yss).length ≤ maxLen from by have := HJR.out.1; unfold maxLen; omega)
      have hx0 := HX.out.c0
      have hx1' := HX.out.c1
      cases hj : patD n g (joinT xss yss)
      · have HR := Lib.hid (HJN.out hj)
        have HJ := Lib.hid hj
        clear hj
        go_wp2_with fail
        refine (HAQ.out _ _ ?_).mono ?_
        · exact one_table (HO9.out.reads HJM.out) _ (by simp)
        rintro e w30 ⟨rfl, hb⟩
        have HX := Lib.hid ((HX.out.next (below_new _ _)).next hb)
        clear hb
        rw [HJ.out]
        go_wp2_with fail
        go_ret2
        exact no_table HR.out HX.out rfl
      · have HR := Lib.hid (HJY.out hj)
        have HJ := Lib.hid hj
        clear hj
        go_wp2_with fail
        refine (HAQ.out _ _ ?_).mono ?_
        · exact one_table (HO9.out.reads HJM.out) _ (by simp)
        rintro e w30 ⟨rfl, hb⟩
        have HO9 := Lib.hid ((HO9.out.below (below_new _ _)).below hb)
        have HX := Lib.hid ((HX.out.next (below_new _ _)).next hb)
        clear hb
        rw [HJ.out]
        go_wp2_with fail
        go_ret2
        exact ownsTB_R HR.out (HO9.out.widen (by have := HSA.out; omega) (Nat.le_refl _)) HX.out.below
end Go.Proofs.Ytefjignlhlpndaa
