/-
  What is proved: the contracts of spec.l6Back, spec.l6Time, impl.runTime and RunTime, the model's and the program's. Conditions: those of each contract.
-/
import Derived.Test.YtgchodielkodeaaExb
import Derived.BigQuiet
import Derived.Deep.RegionHeld3
import Derived.IntWalk
namespace Go.Proofs.Ytgchodielkodeaa
open Go.RowKit
set_option linter.unusedVariables false
set_option linter.unusedSimpArgs false

theorem bstT_range {back : Bool} {n a : Int} {ps : List Int} (hn : 0 ≤ n) : ∀ k : Nat, 0 ≤ bstT back n n a ps k ∧ bstT back n n a ps k ≤ n := fun k =>
  ⟨le_bstT hn (fun j hj => by
    have h := beyond_pos (n := n) (a := a) (ps := ps) (up := (j : Int))
    unfold goT
    cases back
    · simp only [Bool.false_eq_true, if_false]; omega
    · simp only [if_true]; omega), bstT_top k⟩
set_option maxHeartbeats 3200000 in
set_option maxRecDepth 20000 in
theorem l6Back_any (n : Int) (g : Bool) (a : Int) (v : Value) (ps : List Int) (w : World) (hv : ReadsI w v ps) (hn : 2 ≤ n ∧ n ≤ 24) (ha : 0 ≤ a ∧ a < n) (hin : Inside n ps) :
    Calls Try.prog 154 #[rd n g, .int .i64 a, v] w fun e w' => e = .returned (.int .i64 (bckT n g a ps)) ∧ Below w.heap.size w w' := by
  have HFA := Lib.hid (fun g p w hn ha hp => l2Far_any n g a p w hn ha hp)
  have HMO := Lib.hid (fun a b w => l1Most_any a b w)
  have HLE := Lib.hid (fun a b w => l1Least_any a b w)
  have HX := Lib.hid (Boxed.first w n g 28)
  have HIN := Lib.hid hin
  obtain ⟨y, c, hvv, hc, hm, hx⟩ := hv
  subst hvv
  unfold maxLen at hm
  have HL := Lib.hid hx
  have HHA := Lib.hid ha
  have hn1 := hn.1
  have hn2 := hn.2
  have HHN := Lib.hid hn
  clear hx hin hn
  unfold rd at *
  go_enter Try.func154, Try.ntmps154
  cases g
  · have HLR := Lib.hid (fun k hk => line_range (n := n) (a := a) (ps := ps) HHA.out HIN.out k hk)
    go_wp2_with fail
    go_loop [7, 8, 9] (fun l r i => ∃ k : Nat, k ≤ ps.length ∧ i = .int .i64 k ∧ l = .int .i64 (topF (fun p => a - p) ps k) ∧ r = .int .i64 (topF (fun p => p - a) ps k)) (fun _ _ i => ps.length - (intOf i).toNat)
    case atStart => exact ⟨0, Nat.zero_le _, rfl, rfl, rfl⟩
    case round =>
      obtain ⟨k, hk, rfl, rfl, rfl⟩ := hrel
      have hlr := HLR.out k hk
      by_cases hlt : k < ps.length
      · obtain ⟨p, hpk⟩ := get_some hlt
        obtain ⟨b, o, rfl, hbl, hcx0⟩ := HL.out k p hpk
        have hpin := HIN.out k p hpk
        have hcx : (w.alloc (.cells #[.int .i64 n, .bool false] 28)).cell? ⟨b, o + k, none⟩ = some (.int .i64 p) := (HX.out.below.cell (p := ⟨b, o + k, none⟩) hbl).trans hcx0
        have HN1 := Lib.hid (topF_next (f := fun p => a - p) hpk)
        have HN2 := Lib.hid (topF_next (f := fun p => p - a) hpk)
        clear hcx0 hpk
        generalize topF (fun p => a - p) ps k = l at *
        generalize topF (fun p => p - a) ps k = r at *
        go_wp2_with fail
        refine (HMO.out _ _ _).mono ?_
        rintro e w3 ⟨rfl, rfl⟩
        go_wp2_with fail
        refine (HMO.out _ _ _).mono ?_
        rintro e w3 ⟨rfl, rfl⟩
        go_wp2_with fail
        go_round
        case rel => exact ⟨k + 1, hlt, by go_num, by rw [HN1.out], by rw [HN2.out]⟩
        case measure => simp [intOf] <;> omega
      · have HE := Lib.hid (show k = ps.length by omega)
        have HR := Lib.hid (show bckT n false a ps = 2 * (topF (fun p => a - p) ps ps.length + topF (fun p => p - a) ps ps.length) from rfl)
        go_wp2_with fail
        go_ret
        exact ⟨ret_int (by rw [HR.out, HE.out]), HX.out.below⟩
  · have HBR := Lib.hid (fun k => bstT_range (back := true) (n := n) (a := a) (ps := ps) (by omega) k)
    go_wp2_with fail
    go_loopw [10, 11] (fun m i wr => ∃ k : Nat, (k : Int) ≤ n ∧ i = .int .i64 k ∧ m = .int .i64 (bstT true n n a ps k) ∧ Boxed w.heap.size n true w wr) (fun _ i _ => n.toNat - (intOf i).toNat)
    case atStart => exact ⟨0, by omega, rfl, rfl, HX.out⟩
    case round =>
      obtain ⟨u, hu, rfl, rfl, hx⟩ := hrel
      clear HX
      have HX := Lib.hid hx
      have hbr := HBR.out u
      have h0 := HX.out.c0
      clear hx
      by_cases hlt : (u : Int) < n
      · have HNX := Lib.hid (show bstT true n n a ps (u + 1) = min (bstT true n n a ps u) (2 * (beyond n a ps u ps.length + u)) from rfl)
        have hby := beyond_range (up := (u : Int)) HHA.out HIN.out ps.length (Nat.le_refl _)
        generalize bstT true n n a ps u = m at *
        go_wp2_with fail
        go_loopw [12, 13] (fun d i wr => ∃ k : Nat, k ≤ ps.length ∧ i = .int .i64 k ∧ d = .int .i64 (beyond n a ps u k) ∧ Boxed w.heap.size n true w wr) (fun _ i _ => ps.length - (intOf i).toNat)
        case atStart => exact ⟨0, Nat.zero_le _, rfl, rfl, HX.out⟩
        case round =>
          obtain ⟨k, hk, rfl, rfl, hx⟩ := hrel
          clear HX h0
          have HX := Lib.hid hx
          have hbk := beyond_range (up := (u : Int)) HHA.out HIN.out k hk
          clear hx
          by_cases hlt2 : k < ps.length
          · obtain ⟨p, hpk⟩ := get_some hlt2
            obtain ⟨b, o, rfl, hbl, hcx0⟩ := HL.out k p hpk
            have hpin := HIN.out k p hpk
            have hcx : wr.cell? ⟨b, o + k, none⟩ = some (.int .i64 p) := (HX.out.below.cell (p := ⟨b, o + k, none⟩) hbl).trans hcx0
            have hnx : beyond n a ps u (k + 1) = max (beyond n a ps u k) (farF n a u p) := topF_next hpk
            have HNK := Lib.hid hnx
            have hr1 := rise_range HHA.out hpin
            have HRB := Lib.hid (fun h => rise_back HHA.out hpin h)
            have HC1 := Lib.hid (HFA.out true p · HHN.out HHA.out hpin)
            have HFF := Lib.hid (show farF n a u p = if u < riseI n true a p then riseI n true p a else 0 from rfl)
            clear hcx0 hpk hnx
            generalize beyond n a ps u k = d at *
            have hi0 : 0 ≤ (k : Int) := by omega
            have hi1 : (k : Int) < ps.length := by omega
            go_wp2_with fail
            go_region_held3 (fun w' => Boxed w.heap.size n true w w' ∧ w'.cell? ⟨w.heap.size, 0, none⟩ = some (.int .i64 n) ∧ w'.cell? ⟨w.heap.size, 1, none⟩ = some (.bool true) ∧ w'.cell? ⟨b, o + k, none⟩ = some (.int .i64 p) ∧ w'.cell? ⟨b, o + k, none⟩ = some (.int .i64 p)) (first | exact hS | exact keep4_new HX.out hcx hcx) (first | (go_at_call 159; refine (HC1.out _).mono ?_; rintro e w2 ⟨rfl, hb⟩; have hS : Keep4 w.heap.size n true b (o + k) (o + k) (.int .i64 p) (.int .i64 p) w w2 := keep4 (by assumption) hbl hb; clear hb))
            have HX2 := Lib.hid hS.1
            have h0 := HX2.out.c0
            clear hS hcx HX
            generalize riseI n true a p = f at *
            generalize riseI n true p a = q at *
            by_cases hf : (u : Int) < f
            · have HF2 : Hid (farF n a u p = n - f) := Lib.hid ((HFF.out.trans (if_pos hf)).trans (HRB.out (by omega)))
              go_wp2_with fail
              refine (HMO.out _ _ _).mono ?_
              rintro e w3 ⟨rfl, rfl⟩
              go_wp2_with fail
              go_roundw
              case rel => exact ⟨k + 1, hlt2, by go_num, by rw [HNK.out, HF2.out], HX2.out⟩
              case measure => simp [intOf] <;> omega
            · have HF2 : Hid (farF n a u p = 0) := Lib.hid (HFF.out.trans (if_neg hf))
              go_wp2_with fail
              go_roundw
              case rel => exact ⟨k + 1, hlt2, by go_num, by rw [HNK.out, HF2.out]; congr 1; omega, HX2.out⟩
              case measure => simp [intOf] <;> omega
          · have hE : k = ps.length := by omega
            subst hE
            have h0 := HX.out.c0
            go_wp2_with fail
            refine (HLE.out _ _ _).mono ?_
            rintro e w4 ⟨rfl, rfl⟩
            go_wp2_with fail
            go_roundw
            case rel => exact ⟨u + 1, by omega, by go_num, by rw [HNX.out], HX.out⟩
            case measure => simp [intOf] <;> omega
      · have HE := Lib.hid (show u = n.toNat by omega)
        have HR := Lib.hid (show bckT n true a ps = bstT true n n a ps n.toNat from rfl)
        go_wp2_with fail
        go_ret
        exact ⟨ret_int (by rw [HR.out, HE.out]), HX.out.below⟩
set_option maxHeartbeats 1600000 in
set_option maxRecDepth 20000 in
theorem l6Time_any (n : Int) (g : Bool) (a x m : Int) (back : Bool) (w : World) (ha : 0 ≤ a ∧ a < n) (hf : fitsB n g x m = true) :
    Calls Try.prog 147 #[rd n g, .int .i64 a, .int .i64 x, .int .i64 m, .bool back] w fun e w' => e = .returned (.int .i64 (runT n g a x m back)) ∧ Below w.heap.size w w' := by
  have hff := (fitsB_iff n g x m).1 hf
  have hpp := (placeB_iff n g x).1 hff.1
  have hrr := (roadB_iff n g).1 hpp.1
  have HRU := Lib.hid (fun w => l6Run_any n g x m w ⟨hrr.1, hrr.2.1⟩ hpp.2 (by omega))
  have HBK := Lib.hid (fun v w hv => l6Back_any n g a v (runL n x m) w hv ⟨hrr.1, hrr.2.1⟩ ha (runL_inside hrr.1))
  have HTT := Lib.hid (fun v w hv => spec_TourTime n g a v (runL n x m) w hv)
  have HE1 := Lib.hid (run_back hrr.1 ha hf)
  have HE2 := Lib.hid (run_tour hpp.1 ha hf)
  have HLN := Lib.hid (show (runL n x m).length ≤ maxLen by rw [runL_len]; unfold maxLen; omega)
  have HX := Lib.hid (Boxed.first w n g 28)
  clear hff hpp hrr ha hf
  unfold rd at *
  go_enter Try.func147, Try.ntmps147
  cases back
  · go_wp2_with fail
    refine wp_region_noPanic ?_
    have HX := Lib.hid (HX.out.next (below_drewN _ 1))
    refine wp_region_held_drew (S := fun w' => Boxed w.heap.size n g w w' ∧ w'.cell? ⟨w.heap.size, 0, none⟩ = some (.int .i64 n) ∧ w'.cell? ⟨w.heap.size, 1, none⟩ = some (.bool g)) (by kernel_rfl) (⟨HX.out, HX.out.c0, HX.out.c1⟩) (fun hHeld => ?_)
    refine wpAnyH_take (i := 0) (oi := _) (v := ?_) rfl (by kernel_rfl) (by kernel_rfl) (by kernel_rfl) (fun _ _ _ h => h) (Or.inl ⟨by rfl, ?_⟩) (by assumption) ?_
    rotate_left
    · (intro w hSw; (try dsimp only at hSw); (first | (go_simp; done) | (go_simp; with_reducible rfl)))
    simp only [Act.put, List.getElem_toArray, List.getElem_cons_succ, List.getElem_cons_zero, List.setIfInBounds_toArray, List.set_cons_zero, List.set_cons_succ]
    refine wpAnyH_take (i := 1) (oi := _) (v := ?_) rfl (by kernel_rfl) (by kernel_rfl) (by kernel_rfl) (fun _ _ _ h => h) (Or.inl ⟨by rfl, ?_⟩) (by assumption) ?_
    rotate_left
    · (intro w hSw; (try dsimp only at hSw); (first | (go_simp; done) | (go_simp; with_reducible rfl)))
    simp only [Act.put, List.getElem_toArray, List.getElem_cons_succ, List.getElem_cons_zero, List.setIfInBounds_toArray, List.set_cons_zero, List.set_cons_succ]
    refine wpAnyH_take (i := 2) (oi := _) (v := ?_) rfl (by kernel_rfl) (by kernel_rfl) (by kernel_rfl) (fun _ _ _ h => h) (Or.inl ⟨by rfl, ?_⟩) (by assumption) ?_
    rotate_left
    · (intro w hSw; (try dsimp only at hSw); (first | (go_simp; done) | (go_simp; with_reducible rfl)))
    simp only [Act.put, List.getElem_toArray, List.getElem_cons_succ, List.getElem_cons_zero, List.setIfInBounds_toArray, List.set_cons_zero, List.set_cons_succ]
    refine wpAnyH_take (i := 3) (oi := _) (v := ?_) rfl (by kernel_rfl) (by kernel_rfl) (by kernel_rfl) (fun _ _ _ h => h) (Or.inl ⟨by rfl, ?_⟩) (by assumption) ?_
    rotate_left
    · (intro w hSw; (try dsimp only at hSw); (first | (go_simp; done) | (go_simp; with_reducible rfl)))
    simp only [Act.put, List.getElem_toArray, List.getElem_cons_succ, List.getElem_cons_zero, List.setIfInBounds_toArray, List.set_cons_zero, List.set_cons_succ]
    refine wpAnyH_take (i := 4) (oi := _) (v := ?_) rfl (by kernel_rfl) (by kernel_rfl) (by kernel_rfl) (fun _ _ _ h => h) (Or.inl ⟨by rfl, ?_⟩) (by assumption) ?_
    rotate_left
    · (intro w hSw; (try dsimp only at hSw); (first | (go_simp; done) | (go_simp; with_reducible rfl)))
    simp only [Act.put, List.getElem_toArray, List.getElem_cons_succ, List.getElem_cons_zero, List.setIfInBounds_toArray, List.set_cons_zero, List.set_cons_succ]
    refine wpAnyH_ready (rs := [5]) (by kernel_rfl) (by simp) ?_
    refine AllReadyH.cons rfl (fun K hK => ?_) AllReadyH.nil
    go_simp
    refine (HRU.out _).mono ?_
    rintro e w21 ⟨v9, rfl, ho, hb⟩
    have HX := Lib.hid (HX.out.next hb)
    have HO := Lib.hid ho
    clear hb ho
    clear hHeld
    try go_wp2_with fail
    refine hK.out _ _ (⟨HX.out, HX.out.c0, HX.out.c1⟩) (fun hHeld => ?_)
    clear hK K
    refine wpAnyH_ready (rs := [6]) (by kernel_rfl) (by simp) ?_
    refine AllReadyH.cons rfl (fun K hK => ?_) AllReadyH.nil
    go_simp
    refine (HTT.out _ _ (owns_reads HO.out HLN.out)).mono ?_
    rintro e w22 ⟨rfl, hb⟩
    have HX := Lib.hid (HX.out.next hb)
    clear hb
    clear hHeld
    try go_wp2_with fail
    refine hK.out _ _ (⟨HX.out, HX.out.c0, HX.out.c1⟩) (fun hHeld => ?_)
    clear hK K
    refine wpAnyH_take (i := 7) (oi := _) (v := ?_) rfl (by kernel_rfl) (by kernel_rfl) (by kernel_rfl) (fun _ _ _ h => h) (Or.inl ⟨by rfl, ?_⟩) (by assumption) ?_
    rotate_left
    · (intro w hSw; (try dsimp only at hSw); (first | (go_simp; done) | (go_simp; with_reducible rfl)))
    simp only [Act.put, List.getElem_toArray, List.getElem_cons_succ, List.getElem_cons_zero, List.setIfInBounds_toArray, List.set_cons_zero, List.set_cons_succ]
    refine wpAnyH_take (i := 8) (oi := _) (v := ?_) rfl (by kernel_rfl) (by kernel_rfl) (by kernel_rfl) (fun _ _ _ h => h) (Or.inl ⟨by rfl, ?_⟩) (by assumption) ?_
    rotate_left
    · (intro w hSw; (try dsimp only at hSw); (first | (go_simp; done) | (go_simp; with_reducible rfl)))
    simp only [Act.put, List.getElem_toArray, List.getElem_cons_succ, List.getElem_cons_zero, List.setIfInBounds_toArray, List.set_cons_zero, List.set_cons_succ]
    refine wpAnyH_take (i := 9) (oi := _) (v := ?_) rfl (by kernel_rfl) (by kernel_rfl) (by kernel_rfl) (fun _ _ _ h => h) (Or.inl ⟨by rfl, ?_⟩) (by assumption) ?_
    rotate_left
    · (intro w hSw; (try dsimp only at hSw); (first | (go_simp; done) | (go_simp; with_reducible rfl)))
    simp only [Act.put, List.getElem_toArray, List.getElem_cons_succ, List.getElem_cons_zero, List.setIfInBounds_toArray, List.set_cons_zero, List.set_cons_succ]
    refine wpAnyH_take (i := 10) (oi := _) (v := ?_) rfl (by kernel_rfl) (by kernel_rfl) (by kernel_rfl) (fun _ _ _ h => h) (Or.inl ⟨by rfl, ?_⟩) (by assumption) ?_
    rotate_left
    · (intro w hSw; (try dsimp only at hSw); (first | (go_simp; done) | (go_simp; with_reducible rfl)))
    simp only [Act.put, List.getElem_toArray, List.getElem_cons_succ, List.getElem_cons_zero, List.setIfInBounds_toArray, List.set_cons_zero, List.set_cons_succ]
    refine wpAnyH_take (i := 11) (oi := _) (v := ?_) rfl (by kernel_rfl) (by kernel_rfl) (by kernel_rfl) (fun _ _ _ h => h) (Or.inl ⟨by rfl, ?_⟩) (by assumption) ?_
    rotate_left
    · (intro w hSw; (try dsimp only at hSw); (first | (go_simp; done) | (go_simp; with_reducible rfl)))
    simp only [Act.put, List.getElem_toArray, List.getElem_cons_succ, List.getElem_cons_zero, List.setIfInBounds_toArray, List.set_cons_zero, List.set_cons_succ]
    refine wpAnyH_done (by kernel_rfl) ?_ _
    refine NoPanic.normal ?_
    clear hHeld
    go_wp2_with fail
    go_ret
    exact ⟨ret_int (by rw [HE2.out]), HX.out.below⟩
  · go_wp2_with fail
    refine wp_region_noPanic ?_
    have HX := Lib.hid (HX.out.next (below_drewN _ 1))
    refine wp_region_held_drew (S := fun w' => Boxed w.heap.size n g w w' ∧ w'.cell? ⟨w.heap.size, 0, none⟩ = some (.int .i64 n) ∧ w'.cell? ⟨w.heap.size, 1, none⟩ = some (.bool g)) (by kernel_rfl) (⟨HX.out, HX.out.c0, HX.out.c1⟩) (fun hHeld => ?_)
    refine wpAnyH_take (i := 0) (oi := _) (v := ?_) rfl (by kernel_rfl) (by kernel_rfl) (by kernel_rfl) (fun _ _ _ h => h) (Or.inl ⟨by rfl, ?_⟩) (by assumption) ?_
    rotate_left
    · (intro w hSw; (try dsimp only at hSw); (first | (go_simp; done) | (go_simp; with_reducible rfl)))
    simp only [Act.put, List.getElem_toArray, List.getElem_cons_succ, List.getElem_cons_zero, List.setIfInBounds_toArray, List.set_cons_zero, List.set_cons_succ]
    refine wpAnyH_take (i := 1) (oi := _) (v := ?_) rfl (by kernel_rfl) (by kernel_rfl) (by kernel_rfl) (fun _ _ _ h => h) (Or.inl ⟨by rfl, ?_⟩) (by assumption) ?_
    rotate_left
    · (intro w hSw; (try dsimp only at hSw); (first | (go_simp; done) | (go_simp; with_reducible rfl)))
    simp only [Act.put, List.getElem_toArray, List.getElem_cons_succ, List.getElem_cons_zero, List.setIfInBounds_toArray, List.set_cons_zero, List.set_cons_succ]
    refine wpAnyH_take (i := 2) (oi := _) (v := ?_) rfl (by kernel_rfl) (by kernel_rfl) (by kernel_rfl) (fun _ _ _ h => h) (Or.inl ⟨by rfl, ?_⟩) (by assumption) ?_
    rotate_left
    · (intro w hSw; (try dsimp only at hSw); (first | (go_simp; done) | (go_simp; with_reducible rfl)))
    simp only [Act.put, List.getElem_toArray, List.getElem_cons_succ, List.getElem_cons_zero, List.setIfInBounds_toArray, List.set_cons_zero, List.set_cons_succ]
    refine wpAnyH_take (i := 3) (oi := _) (v := ?_) rfl (by kernel_rfl) (by kernel_rfl) (by kernel_rfl) (fun _ _ _ h => h) (Or.inl ⟨by rfl, ?_⟩) (by assumption) ?_
    rotate_left
    · (intro w hSw; (try dsimp only at hSw); (first | (go_simp; done) | (go_simp; with_reducible rfl)))
    simp only [Act.put, List.getElem_toArray, List.getElem_cons_succ, List.getElem_cons_zero, List.setIfInBounds_toArray, List.set_cons_zero, List.set_cons_succ]
    refine wpAnyH_take (i := 4) (oi := _) (v := ?_) rfl (by kernel_rfl) (by kernel_rfl) (by kernel_rfl) (fun _ _ _ h => h) (Or.inl ⟨by rfl, ?_⟩) (by assumption) ?_
    rotate_left
    · (intro w hSw; (try dsimp only at hSw); (first | (go_simp; done) | (go_simp; with_reducible rfl)))
    simp only [Act.put, List.getElem_toArray, List.getElem_cons_succ, List.getElem_cons_zero, List.setIfInBounds_toArray, List.set_cons_zero, List.set_cons_succ]
    refine wpAnyH_ready (rs := [5]) (by kernel_rfl) (by simp) ?_
    refine AllReadyH.cons rfl (fun K hK => ?_) AllReadyH.nil
    go_simp
    refine (HRU.out _).mono ?_
    rintro e w21 ⟨v9, rfl, ho, hb⟩
    have HX := Lib.hid (HX.out.next hb)
    have HO := Lib.hid ho
    clear hb ho
    clear hHeld
    try go_wp2_with fail
    refine hK.out _ _ (⟨HX.out, HX.out.c0, HX.out.c1⟩) (fun hHeld => ?_)
    clear hK K
    refine wpAnyH_ready (rs := [6]) (by kernel_rfl) (by simp) ?_
    refine AllReadyH.cons rfl (fun K hK => ?_) AllReadyH.nil
    go_simp
    refine (HBK.out _ _ (owns_reads HO.out HLN.out)).mono ?_
    rintro e w22 ⟨rfl, hb⟩
    have HX := Lib.hid (HX.out.next hb)
    clear hb
    clear hHeld
    try go_wp2_with fail
    refine hK.out _ _ (⟨HX.out, HX.out.c0, HX.out.c1⟩) (fun hHeld => ?_)
    clear hK K
    refine wpAnyH_take (i := 7) (oi := _) (v := ?_) rfl (by kernel_rfl) (by kernel_rfl) (by kernel_rfl) (fun _ _ _ h => h) (Or.inl ⟨by rfl, ?_⟩) (by assumption) ?_
    rotate_left
    · (intro w hSw; (try dsimp only at hSw); (first | (go_simp; done) | (go_simp; with_reducible rfl)))
    simp only [Act.put, List.getElem_toArray, List.getElem_cons_succ, List.getElem_cons_zero, List.setIfInBounds_toArray, List.set_cons_zero, List.set_cons_succ]
    refine wpAnyH_done (by kernel_rfl) ?_ _
    refine NoPanic.normal ?_
    clear hHeld
    go_wp2_with fail
    go_ret
    exact ⟨ret_int HE1.out, HX.out.below⟩
theorem thereAndBack_any (l r : Int) (w : World) (hl : 0 ≤ l ∧ l ≤ 100) (hr : 0 ≤ r ∧ r ≤ 100) :
    Calls Try.prog 162 #[.int .i64 l, .int .i64 r] w fun e w' => e = .returned (.int .i64 (goT true l r)) ∧ w = w' := by
  go_enter Try.func162, Try.ntmps162
  go_wp2
  go_ret
  exact ⟨ret_int (by unfold goT; rfl), rfl⟩
end Go.Proofs.Ytgchodielkodeaa
