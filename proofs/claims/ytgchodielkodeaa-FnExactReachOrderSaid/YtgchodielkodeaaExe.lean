/-
  What is proved: the contracts of impl.runTime and RunTime, the model's and the program's. Conditions: those of each contract.
-/
import Derived.Test.YtgchodielkodeaaExd
namespace Go.Proofs.Ytgchodielkodeaa
open Go.RowKit
set_option linter.unusedVariables false
set_option linter.unusedSimpArgs false

theorem bothWays_go (l r : Int) (w : World) (hl : 0 ≤ l ∧ l ≤ 100) (hr : 0 ≤ r ∧ r ≤ 100) :
    Calls Try.prog 161 #[.int .i64 l, .int .i64 r] w fun e w' => e = .returned (.int .i64 (goT false l r)) ∧ w = w' := bothWays_any l r w hl hr
set_option maxHeartbeats 1600000 in
set_option maxRecDepth 20000 in
theorem runTime_any (n : Int) (g : Bool) (a x m : Int) (back : Bool) (w : World) (ha : 0 ≤ a ∧ a < n) (hf : fitsB n g x m = true) :
    Calls Try.prog 157 #[rd n g, .int .i64 a, .int .i64 x, .int .i64 m, .bool back] w fun e w' => e = .returned (.int .i64 (runT n g a x m back)) ∧ Below w.heap.size w w' := by
  have hff := (fitsB_iff n g x m).1 hf
  have hpp := (placeB_iff n g x).1 hff.1
  have hrr := (roadB_iff n g).1 hpp.1
  have hx := hpp.2
  have hm0 := hff.2.1
  have hmn := hff.2.2.1
  have hn1 := hrr.1
  have hn2 := hrr.2.1
  have HRI := Lib.hid (fun w => rise_any n g a x w ⟨hn1, hn2⟩ ha hx)
  have hrg : -n < riseI n g a x ∧ riseI n g a x < n := by
    cases g
    · simp only [riseI, Bool.false_eq_true, if_false]; omega
    · have := rise_range ha hx; omega
  have hrn : g = true → 0 ≤ riseI n g a x := fun h => by subst h; exact (rise_range ha hx).1
  have HB := Lib.hid (fun l r w hl hr => bothWays_go l r w hl hr)
  have HT := Lib.hid (fun l r w hl hr => thereAndBack_any l r w hl hr)
  have HX := Lib.hid (Boxed.first w n g 28)
  have HRN := Lib.hid hrn
  clear hff hpp hrr hf hrn
  have hw1 : IntKind.i64.wrap (n - 1) = n - 1 := IntWalk.i64_in _ (by omega)
  unfold rd at *
  by_cases h0 : m = 0
  · have hmb : (m == 0) = true := by rw [h0]; rfl
    have HR := Lib.hid (show runT n g a x m back = 0 by unfold runT; rw [if_pos h0])
    clear h0
    go_enter Try.func157, Try.ntmps157
    go_wp2_with fail
    go_ret
    exact ⟨ret_int HR.out.symm, HX.out.below⟩
  · have hmb : (m == 0) = false := by rw [beq_eq_false_iff_ne]; exact h0
    have HR := Lib.hid (show runT n g a x m back = if g then ringT back n a x m else lineT back a x m by unfold runT; rw [if_neg h0])
    have HRL := Lib.hid (show lineT back a x m = goT back (max 0 (-(x - a))) (max 0 (x - a + m - 1)) from rfl)
    have HRG := Lib.hid (show ringT back n a x m = min (min (goT back (max 0 (-riseI n true a x)) (max 0 (riseI n true a x + m - 1))) (goT back (-(riseI n true a x - n)) (max 0 (riseI n true a x - n + m - 1)))) (endT back n) from rfl)
    have hm1 : 1 ≤ m := by omega
    clear h0
    go_enter Try.func157, Try.ntmps157
    cases back
    · go_wp2_with fail
      refine wp_region_noPanic ?_
      have HX := Lib.hid (HX.out.next (below_drewN _ 1))
      refine wp_region_held_drew (S := fun w' => Boxed w.heap.size n g w w' ∧ w'.cell? ⟨w.heap.size, 0, none⟩ = some (.int .i64 n) ∧ w'.cell? ⟨w.heap.size, 1, none⟩ = some (.bool g)) (by kernel_rfl) (⟨HX.out, HX.out.c0, HX.out.c1⟩) (fun hHeld => ?_)
      refine wpAnyH_take (i := 0) (oi := _) (v := ?_) rfl (by kernel_rfl) (by kernel_rfl) (by kernel_rfl) (fun _ _ _ h => h) (Or.inl ⟨by rfl, ?_⟩) (by assumption) ?_
      rotate_left
      · (intro w hSw; (try dsimp only at hSw); (first | (go_simp; done) | (go_simp; with_reducible rfl)))
      simp only [Act.put, List.getElem_toArray, List.getElem_cons_succ, List.getElem_cons_zero, List.setIfInBounds_toArray, List.set_cons_zero, List.set_cons_succ]
      refine wpAnyH_take (i := 1) (oi := _) (v := ?_) rfl (by kernel_rfl) (by kernel_rfl) (by kernel_rfl) (fun _ _ _ h => h) (Or.inl ⟨by rfl, ?_⟩) (by assumption) ?_
      rotate_left
      · (intro w hSw; (try dsimp only at hSw); (first | (go_simp; done) | (go_simp; with_reducible rfl)))
      simp only [Act.put, List.getElem_toArray, List.getElem_cons_succ, List.getElem_cons_zero, List.setIfInBounds_toArray, List.set_cons_zero, List.set_cons_succ]
      refine wpAnyH_take (i := 2) (oi := _) (v := ?_) rfl (by kernel_rfl) (by kernel_rfl) (by kernel_rfl) (fun _ _ _ h => h) (Or.inl ⟨by rfl, ?_⟩) (by assumption) ?_
      rotate_left
      · (intro w hSw; (try dsimp only at hSw); (first | (go_simp; done) | (go_simp; with_reducible rfl)))
      simp only [Act.put, List.getElem_toArray, List.getElem_cons_succ, List.getElem_cons_zero, List.setIfInBounds_toArray, List.set_cons_zero, List.set_cons_succ]
      refine wpAnyH_take (i := 3) (oi := _) (v := ?_) rfl (by kernel_rfl) (by kernel_rfl) (by kernel_rfl) (fun _ _ _ h => h) (Or.inl ⟨by rfl, ?_⟩) (by assumption) ?_
      rotate_left
      · (intro w hSw; (try dsimp only at hSw); (first | (go_simp; done) | (go_simp; with_reducible rfl)))
      simp only [Act.put, List.getElem_toArray, List.getElem_cons_succ, List.getElem_cons_zero, List.setIfInBounds_toArray, List.set_cons_zero, List.set_cons_succ]
      refine wpAnyH_take (i := 4) (oi := _) (v := ?_) rfl (by kernel_rfl) (by kernel_rfl) (by kernel_rfl) (fun _ _ _ h => h) (Or.inl ⟨by rfl, ?_⟩) (by assumption) ?_
      rotate_left
      · (intro w hSw; (try dsimp only at hSw); (first | (go_simp; done) | (go_simp; with_reducible rfl)))
      simp only [Act.put, List.getElem_toArray, List.getElem_cons_succ, List.getElem_cons_zero, List.setIfInBounds_toArray, List.set_cons_zero, List.set_cons_succ]
      refine wpAnyH_done (by kernel_rfl) ?_ _
      refine NoPanic.normal ?_
      clear hHeld
      go_wp2_with fail
      refine (HRI.out _).mono ?_
      rintro e w1 ⟨rfl, hb⟩
      have HX := Lib.hid (HX.out.next hb)
      have h0 := HX.out.c0
      have h1 := HX.out.c1
      clear hb
      cases g
      · have hd : riseI n false a x = x - a := by simp only [riseI, Bool.false_eq_true, if_false]
        generalize riseI n false a x = d at *
        go_wp2_with fail
        all_goals
          refine (HB.out _ _ _ (by omega) (by omega)).mono ?_
          rintro e w2 ⟨rfl, rfl⟩
          generalize hp : goT false _ _ = p
          have HP := Lib.hid hp
          clear hp
          go_wp2_with fail
          go_ret
          refine ⟨ret_int ?_, HX.out.below⟩
          have hp := HP.out
          rw [HR.out, if_neg (by simp), HRL.out]
          unfold goT at *
          simp only [Bool.false_eq_true, if_false] at *
          omega
      · have hd0 := HRN.out rfl
        generalize riseI n true a x = d at *
        go_wp2_with fail
        all_goals
          refine (HB.out _ _ _ (by omega) (by omega)).mono ?_
          rintro e w2 ⟨rfl, rfl⟩
          generalize hp : goT false _ _ = p
          have HP := Lib.hid hp
          clear hp
          go_wp2_with fail
          all_goals
            refine (HB.out _ _ _ (by omega) (by omega)).mono ?_
            rintro e w3 ⟨rfl, rfl⟩
            generalize hq : goT false _ _ = q
            have HQ := Lib.hid hq
            clear hq
            go_wp2_with fail
            all_goals
              go_ret
              refine ⟨ret_int ?_, HX.out.below⟩
              have hp := HP.out
              have hq := HQ.out
              rw [HR.out]
              simp only [if_true]
              rw [HRG.out]
              unfold goT endT at *
              simp only [Bool.false_eq_true, if_false] at *
              omega
    · go_wp2_with fail
      refine wp_region_noPanic ?_
      have HX := Lib.hid (HX.out.next (below_drewN _ 1))
      refine wp_region_held_drew (S := fun w' => Boxed w.heap.size n g w w' ∧ w'.cell? ⟨w.heap.size, 0, none⟩ = some (.int .i64 n) ∧ w'.cell? ⟨w.heap.size, 1, none⟩ = some (.bool g)) (by kernel_rfl) (⟨HX.out, HX.out.c0, HX.out.c1⟩) (fun hHeld => ?_)
      refine wpAnyH_take (i := 0) (oi := _) (v := ?_) rfl (by kernel_rfl) (by kernel_rfl) (by kernel_rfl) (fun _ _ _ h => h) (Or.inl ⟨by rfl, ?_⟩) (by assumption) ?_
      rotate_left
      · (intro w hSw; (try dsimp only at hSw); (first | (go_simp; done) | (go_simp; with_reducible rfl)))
      simp only [Act.put, List.getElem_toArray, List.getElem_cons_succ, List.getElem_cons_zero, List.setIfInBounds_toArray, List.set_cons_zero, List.set_cons_succ]
      refine wpAnyH_take (i := 1) (oi := _) (v := ?_) rfl (by kernel_rfl) (by kernel_rfl) (by kernel_rfl) (fun _ _ _ h => h) (Or.inl ⟨by rfl, ?_⟩) (by assumption) ?_
      rotate_left
      · (intro w hSw; (try dsimp only at hSw); (first | (go_simp; done) | (go_simp; with_reducible rfl)))
      simp only [Act.put, List.getElem_toArray, List.getElem_cons_succ, List.getElem_cons_zero, List.setIfInBounds_toArray, List.set_cons_zero, List.set_cons_succ]
      refine wpAnyH_take (i := 2) (oi := _) (v := ?_) rfl (by kernel_rfl) (by kernel_rfl) (by kernel_rfl) (fun _ _ _ h => h) (Or.inl ⟨by rfl, ?_⟩) (by assumption) ?_
      rotate_left
      · (intro w hSw; (try dsimp only at hSw); (first | (go_simp; done) | (go_simp; with_reducible rfl)))
      simp only [Act.put, List.getElem_toArray, List.getElem_cons_succ, List.getElem_cons_zero, List.setIfInBounds_toArray, List.set_cons_zero, List.set_cons_succ]
      refine wpAnyH_take (i := 3) (oi := _) (v := ?_) rfl (by kernel_rfl) (by kernel_rfl) (by kernel_rfl) (fun _ _ _ h => h) (Or.inl ⟨by rfl, ?_⟩) (by assumption) ?_
      rotate_left
      · (intro w hSw; (try dsimp only at hSw); (first | (go_simp; done) | (go_simp; with_reducible rfl)))
      simp only [Act.put, List.getElem_toArray, List.getElem_cons_succ, List.getElem_cons_zero, List.setIfInBounds_toArray, List.set_cons_zero, List.set_cons_succ]
      refine wpAnyH_take (i := 4) (oi := _) (v := ?_) rfl (by kernel_rfl) (by kernel_rfl) (by kernel_rfl) (fun _ _ _ h => h) (Or.inl ⟨by rfl, ?_⟩) (by assumption) ?_
      rotate_left
      · (intro w hSw; (try dsimp only at hSw); (first | (go_simp; done) | (go_simp; with_reducible rfl)))
      simp only [Act.put, List.getElem_toArray, List.getElem_cons_succ, List.getElem_cons_zero, List.setIfInBounds_toArray, List.set_cons_zero, List.set_cons_succ]
      refine wpAnyH_done (by kernel_rfl) ?_ _
      refine NoPanic.normal ?_
      clear hHeld
      go_wp2_with fail
      refine wp_region_noPanic ?_
      have HX := Lib.hid (HX.out.next (below_drewN _ 1))
      refine wp_region_held_drew (S := fun w' => Boxed w.heap.size n g w w' ∧ w'.cell? ⟨w.heap.size, 0, none⟩ = some (.int .i64 n) ∧ w'.cell? ⟨w.heap.size, 1, none⟩ = some (.bool g)) (by kernel_rfl) (⟨HX.out, HX.out.c0, HX.out.c1⟩) (fun hHeld => ?_)
      refine wpAnyH_take (i := 0) (oi := _) (v := ?_) rfl (by kernel_rfl) (by kernel_rfl) (by kernel_rfl) (fun _ _ _ h => h) (Or.inl ⟨by rfl, ?_⟩) (by assumption) ?_
      rotate_left
      · (intro w hSw; (try dsimp only at hSw); (first | (go_simp; done) | (go_simp; with_reducible rfl)))
      simp only [Act.put, List.getElem_toArray, List.getElem_cons_succ, List.getElem_cons_zero, List.setIfInBounds_toArray, List.set_cons_zero, List.set_cons_succ]
      refine wpAnyH_take (i := 1) (oi := _) (v := ?_) rfl (by kernel_rfl) (by kernel_rfl) (by kernel_rfl) (fun _ _ _ h => h) (Or.inl ⟨by rfl, ?_⟩) (by assumption) ?_
      rotate_left
      · (intro w hSw; (try dsimp only at hSw); (first | (go_simp; done) | (go_simp; with_reducible rfl)))
      simp only [Act.put, List.getElem_toArray, List.getElem_cons_succ, List.getElem_cons_zero, List.setIfInBounds_toArray, List.set_cons_zero, List.set_cons_succ]
      refine wpAnyH_take (i := 2) (oi := _) (v := ?_) rfl (by kernel_rfl) (by kernel_rfl) (by kernel_rfl) (fun _ _ _ h => h) (Or.inl ⟨by rfl, ?_⟩) (by assumption) ?_
      rotate_left
      · (intro w hSw; (try dsimp only at hSw); (first | (go_simp; done) | (go_simp; with_reducible rfl)))
      simp only [Act.put, List.getElem_toArray, List.getElem_cons_succ, List.getElem_cons_zero, List.setIfInBounds_toArray, List.set_cons_zero, List.set_cons_succ]
      refine wpAnyH_take (i := 3) (oi := _) (v := ?_) rfl (by kernel_rfl) (by kernel_rfl) (by kernel_rfl) (fun _ _ _ h => h) (Or.inl ⟨by rfl, ?_⟩) (by assumption) ?_
      rotate_left
      · (intro w hSw; (try dsimp only at hSw); (first | (go_simp; done) | (go_simp; with_reducible rfl)))
      simp only [Act.put, List.getElem_toArray, List.getElem_cons_succ, List.getElem_cons_zero, List.setIfInBounds_toArray, List.set_cons_zero, List.set_cons_succ]
      refine wpAnyH_done (by kernel_rfl) ?_ _
      refine NoPanic.normal ?_
      clear hHeld
      go_wp2_with fail
      refine (HRI.out _).mono ?_
      rintro e w1 ⟨rfl, hb⟩
      have HX := Lib.hid (HX.out.next hb)
      have h0 := HX.out.c0
      have h1 := HX.out.c1
      clear hb
      cases g
      · have hd : riseI n false a x = x - a := by simp only [riseI, Bool.false_eq_true, if_false]
        generalize riseI n false a x = d at *
        go_wp2_with fail
        all_goals
          refine (HT.out _ _ _ (by omega) (by omega)).mono ?_
          rintro e w2 ⟨rfl, rfl⟩
          generalize hp : goT true _ _ = p
          have HP := Lib.hid hp
          clear hp
          go_wp2_with fail
          go_ret
          refine ⟨ret_int ?_, HX.out.below⟩
          have hp := HP.out
          rw [HR.out, if_neg (by simp), HRL.out]
          unfold goT at *
          simp only [if_true] at *
          omega
      · have hd0 := HRN.out rfl
        generalize riseI n true a x = d at *
        go_wp2_with fail
        all_goals
          refine (HT.out _ _ _ (by omega) (by omega)).mono ?_
          rintro e w2 ⟨rfl, rfl⟩
          generalize hp : goT true _ _ = p
          have HP := Lib.hid hp
          clear hp
          go_wp2_with fail
          all_goals
            refine (HT.out _ _ _ (by omega) (by omega)).mono ?_
            rintro e w3 ⟨rfl, rfl⟩
            generalize hq : goT true _ _ = q
            have HQ := Lib.hid hq
            clear hq
            go_wp2_with fail
            all_goals
              go_ret
              refine ⟨ret_int ?_, HX.out.below⟩
              have hp := HP.out
              have hq := HQ.out
              rw [HR.out]
              simp only [if_true]
              rw [HRG.out]
              unfold goT endT at *
              simp only [if_true] at *
              omega
end Go.Proofs.Ytgchodielkodeaa
