/-
  What is proved: the model's words on patrols: l5Patrol, l5Good, IsPatrol. Conditions: tables that read as lists of lists of numbers.
-/
import Derived.Test.YtijhbhjapcfddaaPtb
namespace Go.Proofs.Ytijhbhjapcfddaa
open Go.RowKit
set_option linter.unusedVariables false
set_option linter.unusedSimpArgs false

theorem in_yes {x a b : Int} (w : World) (h : a ≤ x ∧ x ≤ b) : Calls Try.prog 109 #[.int .i64 x, .int .i64 a, .int .i64 b] w fun e w' => e = .returned (.bool true) ∧ w = w' :=
  (l1In_any x a b w).mono fun e w' ⟨he, hw⟩ => ⟨by rw [he, decide_eq_true h.1, decide_eq_true h.2]; rfl, hw⟩
theorem in_no {x a b : Int} (w : World) (h : ¬ (a ≤ x ∧ x ≤ b)) : Calls Try.prog 109 #[.int .i64 x, .int .i64 a, .int .i64 b] w fun e w' => e = .returned (.bool false) ∧ w = w' :=
  (l1In_any x a b w).mono fun e w' ⟨he, hw⟩ => ⟨by
    rw [he]
    congr 2
    by_cases h1 : a ≤ x
    · rw [decide_eq_true h1, decide_eq_false (fun h2 => h ⟨h1, h2⟩)]; rfl
    · rw [decide_eq_false h1]; rfl, hw⟩
theorem says_cases {P : Prop} {f : FuncId} {args : Array Value} {w : World} (h : Calls Try.prog f args w (Says P w)) :
    (P → Calls Try.prog f args w fun e w' => e = .returned (.bool true) ∧ Below w.heap.size w w') ∧ (¬ P → Calls Try.prog f args w fun e w' => e = .returned (.bool false) ∧ Below w.heap.size w w') :=
  ⟨fun hp => h.mono fun e w' ⟨b, he, hi, hb⟩ => ⟨by rw [he, hi.2 hp], hb⟩,
   fun hp => h.mono fun e w' ⟨b, he, hi, hb⟩ => ⟨by
    cases b
    · exact he
    · exact absurd (hi.1 rfl) hp, hb⟩⟩
theorem says_map {P Q : Prop} {w w' : World} {e : Ending} (h : Says P w e w') (hi : P ↔ Q) : Says Q w e w' := by
  obtain ⟨b, he, h1, hb⟩ := h
  exact ⟨b, he, h1.trans hi, hb⟩
def LpRel (n : Int) (g : Bool) (xss : List (List Int)) (p base : Nat) (w : World) (r i : Value) (wr : World) : Prop :=
  r = .bool false ∧ Boxed base n g w wr ∧ ∃ k : Nat, k ≤ xss.length ∧ i = .int .i64 k ∧ ∀ (j : Nat) xs, j < k → xss[j]? = some xs → RoundS n g xs p
set_option maxHeartbeats 1600000 in
theorem l5PatrolS (n : Int) (g : Bool) (v : Value) (xss : List (List Int)) (w : World) (hv : ReadsL w v xss) :
    Calls Try.prog 134 #[rd n g, v] w (Says (PatS n g xss) w) := by
  have HIY := Lib.hid (fun (x a b : Int) w h => in_yes (x := x) (a := a) (b := b) w h)
  have HIN := Lib.hid (fun (x a b : Int) w h => in_no (x := x) (a := a) (b := b) w h)
  have HRY := Lib.hid (fun v xs (p : Nat) w hv hp hp2 (h : RoundS n g xs p) => (says_cases (l5Round_any n g v xs p w hv hp hp2)).1 h)
  have HRN := Lib.hid (fun v xs (p : Nat) w hv hp hp2 (h : ¬ RoundS n g xs p) => (says_cases (l5Round_any n g v xs p w hv hp hp2)).2 h)
  have HV := Lib.hid hv
  have HX := Lib.hid (Boxed.first w n g 27)
  obtain ⟨va, vc, rfl, hvc, hvm, _⟩ := hv
  unfold maxLen at hvm
  unfold rd at *
  by_cases h6 : 1 ≤ xss.length ∧ xss.length ≤ 6
  · obtain ⟨h1, h6⟩ := h6
    obtain ⟨ys, hys⟩ := get_some (xs := xss) (k := 0) (by omega)
    obtain ⟨b, o, a2, c2, rfl, hbl, hcy0, hry⟩ := lists_in HV.out hys
    have hcy0 : w.cell? ⟨b, o, none⟩ = some (.slice a2 ys.length c2) := hcy0
    have hcy : (w.alloc (.cells #[.int .i64 n, .bool g] 27)).cell? ⟨b, o, none⟩ = some (.slice a2 ys.length c2) := (HX.out.below.cell (p := ⟨b, o, none⟩) hbl).trans hcy0
    have HYS := Lib.hid (show (xss.getD 0 []).length = ys.length by simp [List.getD, hys])
    obtain ⟨_, _, ey, _, hym, _⟩ := hry
    generalize hyl : ys.length = yl at *
    have HCY := Lib.hid hcy0
    have h1i : (1 : Int) ≤ (xss.length : Int) := by omega
    have h6i : (xss.length : Int) ≤ 6 := by omega
    have h0i : (0 : Int) < (xss.length : Int) := by omega
    have hne : xss ≠ [] := by intro h; rw [h] at h1; simp at h1
    have hym : yl ≤ 2 ^ 63 - 1 := by unfold maxLen at hym; exact hym
    have h0n : 0 < xss.length := h1
    clear hys hyl hcy0 ey
    by_cases h60 : 1 ≤ yl ∧ yl ≤ 60
    · obtain ⟨hy1, hy60⟩ := h60
      go_enter Try.func134, Try.ntmps134
      go_wp2_with fail
      refine (HIY.out _ _ _ _ (by omega)).mono ?_
      rintro e w2 ⟨rfl, rfl⟩
      go_wp2_with fail
      refine (HIY.out _ _ _ _ (by omega)).mono ?_
      rintro e w2 ⟨rfl, rfl⟩
      clear hcy
      go_wp2_with fail
      go_loopw [4, 5] (fun r i wr => LpRel n g xss yl w.heap.size w r i wr) (fun _ i _ => xss.length - (intOf i).toNat)
      case atStart => exact ⟨rfl, HX.out, 0, Nat.zero_le _, rfl, fun j x hj => by omega⟩
      case round =>
        obtain ⟨rfl, hx, k, hk, rfl, hpre⟩ := hrel
        have HP := Lib.hid hpre
        clear HX hpre
        have HX := Lib.hid hx
        have hx0 := hx.c0
        have hx1 := hx.c1
        clear hx
        by_cases hlt : k < xss.length
        · obtain ⟨xs, hxs⟩ := get_some hlt
          obtain ⟨b', o', a3, c3, he, _, hcx0, hrx⟩ := lists_in HV.out hxs
          cases he
          have HCX := Lib.hid hcx0
          have HRX := Lib.hid hrx
          have HXS := Lib.hid hxs
          have hi0 : 0 ≤ (k : Int) := by omega
          have hi1 : (k : Int) < xss.length := by omega
          have hbl2 : b < w.heap.size := hbl
          clear hcx0 hxs hrx
          by_cases hr : RoundS n g xs yl
          · have HR := Lib.hid hr
            clear hr
            go_wp2_with fail
            refine wp_region_noPanic ?_
            have HX := Lib.hid (HX.out.next (below_drewN _ 1))
            refine wp_region_held_drew (S := fun w' => Boxed w.heap.size n g w w' ∧ w'.cell? ⟨w.heap.size, 0, none⟩ = some (.int .i64 n) ∧ w'.cell? ⟨w.heap.size, 1, none⟩ = some (.bool g) ∧ w'.cell? ⟨b, o, none⟩ = some (.slice a2 yl c2) ∧ w'.cell? ⟨b, o + k, none⟩ = some (.slice a3 xs.length c3)) (by kernel_rfl) (⟨HX.out, HX.out.c0, HX.out.c1, (HX.out.below.cell (p := ⟨b, o, none⟩) hbl2).trans HCY.out, (HX.out.below.cell (p := ⟨b, o + k, none⟩) hbl2).trans HCX.out⟩) (fun hHeld => ?_)
            refine wpAnyH_take (i := 0) (oi := _) (v := ?_) rfl (by kernel_rfl) (by kernel_rfl) (by kernel_rfl) (fun _ _ _ h => h) (Or.inl ⟨by rfl, ?_⟩) (by assumption) ?_
            rotate_left
            · (intro w hSw; (try dsimp only at hSw); (first | (go_simp; done) | (go_simp; with_reducible rfl)))
            simp only [Act.put, List.getElem_toArray, List.getElem_cons_succ, List.getElem_cons_zero, List.setIfInBounds_toArray, List.set_cons_zero, List.set_cons_succ]
            refine wpAnyH_take (i := 1) (oi := _) (v := ?_) rfl (by kernel_rfl) (by kernel_rfl) (by kernel_rfl) (fun _ _ _ h => h) (Or.inl ⟨by rfl, ?_⟩) (by assumption) ?_
            rotate_left
            · (intro w hSw; (try dsimp only at hSw); (first | (go_simp; done) | (go_simp; with_reducible rfl)))
            simp only [Act.put, List.getElem_toArray, List.getElem_cons_succ, List.getElem_cons_zero, List.setIfInBounds_toArray, List.set_cons_zero, List.set_cons_succ]
            refine wpAnyH_take (i := 2) (oi := _) (v := ?_) rfl (by kernel_rfl) (by kernel_rfl) (by kernel_rfl) (fun _ _ _ h => h) (Or.inl ⟨by rfl, ?_⟩) (by assumption) ?_
            rotate_left
            · (intro w hSw; (try dsimp only at hSw); (first | (go_simp; done) | (go_simp; with_reducible rfl)))
            simp only [Act.put, List.getElem_toArray, List.getElem_cons_succ, List.getElem_cons_zero, List.setIfInBounds_toArray, List.set_cons_zero, List.set_cons_succ]
            refine wpAnyH_take (i := 3) (oi := _) (v := ?_) rfl (by kernel_rfl) (by kernel_rfl) (by kernel_rfl) (fun _ _ _ h => h) (Or.inl ⟨by rfl, ?_⟩) (by assumption) ?_
            rotate_left
            · (intro w hSw; (try dsimp only at hSw); (first | (go_simp; done) | (go_simp; with_reducible rfl)))
            simp only [Act.put, List.getElem_toArray, List.getElem_cons_succ, List.getElem_cons_zero, List.setIfInBounds_toArray, List.set_cons_zero, List.set_cons_succ]
            refine wpAnyH_take (i := 4) (oi := _) (v := ?_) rfl (by kernel_rfl) (by kernel_rfl) (by kernel_rfl) (fun _ _ _ h => h) (Or.inl ⟨by rfl, ?_⟩) (by assumption) ?_
            rotate_left
            · (intro w hSw; (try dsimp only at hSw); (first | (go_simp; done) | (go_simp; with_reducible rfl)))
            simp only [Act.put, List.getElem_toArray, List.getElem_cons_succ, List.getElem_cons_zero, List.setIfInBounds_toArray, List.set_cons_zero, List.set_cons_succ]
            refine wpAnyH_take (i := 5) (oi := _) (v := ?_) rfl (by kernel_rfl) (by kernel_rfl) (by kernel_rfl) (fun _ _ _ h => h) (Or.inl ⟨by rfl, ?_⟩) (by assumption) ?_
            rotate_left
            · (intro w hSw; (try dsimp only at hSw); (first | (go_simp; done) | (go_simp; with_reducible rfl)))
            simp only [Act.put, List.getElem_toArray, List.getElem_cons_succ, List.getElem_cons_zero, List.setIfInBounds_toArray, List.set_cons_zero, List.set_cons_succ]
            refine wpAnyH_take (i := 6) (oi := _) (v := ?_) rfl (by kernel_rfl) (by kernel_rfl) (by kernel_rfl) (fun _ _ _ h => h) (Or.inl ⟨by rfl, ?_⟩) (by assumption) ?_
            rotate_left
            · (intro w hSw; (try dsimp only at hSw); (first | (go_simp; done) | (go_simp; with_reducible rfl)))
            simp only [Act.put, List.getElem_toArray, List.getElem_cons_succ, List.getElem_cons_zero, List.setIfInBounds_toArray, List.set_cons_zero, List.set_cons_succ]
            refine wpAnyH_take (i := 7) (oi := _) (v := ?_) rfl (by kernel_rfl) (by kernel_rfl) (by kernel_rfl) (fun _ _ _ h => h) (Or.inl ⟨by rfl, ?_⟩) (by assumption) ?_
            rotate_left
            · (intro w hSw; (try dsimp only at hSw); (first | (go_simp; done) | (go_simp; with_reducible rfl)))
            simp only [Act.put, List.getElem_toArray, List.getElem_cons_succ, List.getElem_cons_zero, List.setIfInBounds_toArray, List.set_cons_zero, List.set_cons_succ]
            refine wpAnyH_take (i := 8) (oi := _) (v := ?_) rfl (by kernel_rfl) (by kernel_rfl) (by kernel_rfl) (fun _ _ _ h => h) (Or.inl ⟨by rfl, ?_⟩) (by assumption) ?_
            rotate_left
            · (intro w hSw; (try dsimp only at hSw); (first | (go_simp; done) | (go_simp; with_reducible rfl)))
            simp only [Act.put, List.getElem_toArray, List.getElem_cons_succ, List.getElem_cons_zero, List.setIfInBounds_toArray, List.set_cons_zero, List.set_cons_succ]
            refine wpAnyH_ready (rs := [9]) (by kernel_rfl) (by simp) ?_
            refine AllReadyH.cons rfl (fun K hK => ?_) AllReadyH.nil
            go_simp
            refine (HRY.out _ xs yl _ (HRX.out.below HX.out.below) hy1 hy60 HR.out).mono ?_
            rintro e w21 ⟨rfl, hb⟩
            have HX := Lib.hid (HX.out.next hb)
            clear hb
            clear hHeld
            try go_wp2_with fail
            refine hK.out _ _ (⟨HX.out, HX.out.c0, HX.out.c1, (HX.out.below.cell (p := ⟨b, o, none⟩) hbl2).trans HCY.out, (HX.out.below.cell (p := ⟨b, o + k, none⟩) hbl2).trans HCX.out⟩) (fun hHeld => ?_)
            clear hK K
            refine wpAnyH_take (i := 10) (oi := _) (v := ?_) rfl (by kernel_rfl) (by kernel_rfl) (by kernel_rfl) (fun _ _ _ h => h) (Or.inl ⟨by rfl, ?_⟩) (by assumption) ?_
            rotate_left
            · (intro w hSw; (try dsimp only at hSw); (first | (go_simp; done) | (go_simp; with_reducible rfl)))
            simp only [Act.put, List.getElem_toArray, List.getElem_cons_succ, List.getElem_cons_zero, List.setIfInBounds_toArray, List.set_cons_zero, List.set_cons_succ]
            refine wpAnyH_done (by kernel_rfl) ?_ _
            refine NoPanic.normal ?_
            clear hHeld
            go_wp2_with fail
            go_roundw
            case rel => exact ⟨rfl, HX.out, k + 1, by omega, by go_num, fun j zs hj hz => by
              by_cases hjt : j < k
              · exact HP.out j zs hjt hz
              · obtain rfl : j = k := by omega
                rw [HXS.out] at hz
                cases hz
                exact HR.out⟩
            case measure => simp [intOf]; omega
          · have HR := Lib.hid hr
            clear hr
            go_wp2_with fail
            refine wp_region_noPanic ?_
            have HX := Lib.hid (HX.out.next (below_drewN _ 1))
            refine wp_region_held_drew (S := fun w' => Boxed w.heap.size n g w w' ∧ w'.cell? ⟨w.heap.size, 0, none⟩ = some (.int .i64 n) ∧ w'.cell? ⟨w.heap.size, 1, none⟩ = some (.bool g) ∧ w'.cell? ⟨b, o, none⟩ = some (.slice a2 yl c2) ∧ w'.cell? ⟨b, o + k, none⟩ = some (.slice a3 xs.length c3)) (by kernel_rfl) (⟨HX.out, HX.out.c0, HX.out.c1, (HX.out.below.cell (p := ⟨b, o, none⟩) hbl2).trans HCY.out, (HX.out.below.cell (p := ⟨b, o + k, none⟩) hbl2).trans HCX.out⟩) (fun hHeld => ?_)
            refine wpAnyH_take (i := 0) (oi := _) (v := ?_) rfl (by kernel_rfl) (by kernel_rfl) (by kernel_rfl) (fun _ _ _ h => h) (Or.inl ⟨by rfl, ?_⟩) (by assumption) ?_
            rotate_left
            · (intro w hSw; (try dsimp only at hSw); (first | (go_simp; done) | (go_simp; with_reducible rfl)))
            simp only [Act.put, List.getElem_toArray, List.getElem_cons_succ, List.getElem_cons_zero, List.setIfInBounds_toArray, List.set_cons_zero, List.set_cons_succ]
            refine wpAnyH_take (i := 1) (oi := _) (v := ?_) rfl (by kernel_rfl) (by kernel_rfl) (by kernel_rfl) (fun _ _ _ h => h) (Or.inl ⟨by rfl, ?_⟩) (by assumption) ?_
            rotate_left
            · (intro w hSw; (try dsimp only at hSw); (first | (go_simp; done) | (go_simp; with_reducible rfl)))
            simp only [Act.put, List.getElem_toArray, List.getElem_cons_succ, List.getElem_cons_zero, List.setIfInBounds_toArray, List.set_cons_zero, List.set_cons_succ]
            refine wpAnyH_take (i := 2) (oi := _) (v := ?_) rfl (by kernel_rfl) (by kernel_rfl) (by kernel_rfl) (fun _ _ _ h => h) (Or.inl ⟨by rfl, ?_⟩) (by assumption) ?_
            rotate_left
            · (intro w hSw; (try dsimp only at hSw); (first | (go_simp; done) | (go_simp; with_reducible rfl)))
            simp only [Act.put, List.getElem_toArray, List.getElem_cons_succ, List.getElem_cons_zero, List.setIfInBounds_toArray, List.set_cons_zero, List.set_cons_succ]
            refine wpAnyH_take (i := 3) (oi := _) (v := ?_) rfl (by kernel_rfl) (by kernel_rfl) (by kernel_rfl) (fun _ _ _ h => h) (Or.inl ⟨by rfl, ?_⟩) (by assumption) ?_
            rotate_left
            · (intro w hSw; (try dsimp only at hSw); (first | (go_simp; done) | (go_simp; with_reducible rfl)))
            simp only [Act.put, List.getElem_toArray, List.getElem_cons_succ, List.getElem_cons_zero, List.setIfInBounds_toArray, List.set_cons_zero, List.set_cons_succ]
            refine wpAnyH_take (i := 4) (oi := _) (v := ?_) rfl (by kernel_rfl) (by kernel_rfl) (by kernel_rfl) (fun _ _ _ h => h) (Or.inl ⟨by rfl, ?_⟩) (by assumption) ?_
            rotate_left
            · (intro w hSw; (try dsimp only at hSw); (first | (go_simp; done) | (go_simp; with_reducible rfl)))
            simp only [Act.put, List.getElem_toArray, List.getElem_cons_succ, List.getElem_cons_zero, List.setIfInBounds_toArray, List.set_cons_zero, List.set_cons_succ]
            refine wpAnyH_take (i := 5) (oi := _) (v := ?_) rfl (by kernel_rfl) (by kernel_rfl) (by kernel_rfl) (fun _ _ _ h => h) (Or.inl ⟨by rfl, ?_⟩) (by assumption) ?_
            rotate_left
            · (intro w hSw; (try dsimp only at hSw); (first | (go_simp; done) | (go_simp; with_reducible rfl)))
            simp only [Act.put, List.getElem_toArray, List.getElem_cons_succ, List.getElem_cons_zero, List.setIfInBounds_toArray, List.set_cons_zero, List.set_cons_succ]
            refine wpAnyH_take (i := 6) (oi := _) (v := ?_) rfl (by kernel_rfl) (by kernel_rfl) (by kernel_rfl) (fun _ _ _ h => h) (Or.inl ⟨by rfl, ?_⟩) (by assumption) ?_
            rotate_left
            · (intro w hSw; (try dsimp only at hSw); (first | (go_simp; done) | (go_simp; with_reducible rfl)))
            simp only [Act.put, List.getElem_toArray, List.getElem_cons_succ, List.getElem_cons_zero, List.setIfInBounds_toArray, List.set_cons_zero, List.set_cons_succ]
            refine wpAnyH_take (i := 7) (oi := _) (v := ?_) rfl (by kernel_rfl) (by kernel_rfl) (by kernel_rfl) (fun _ _ _ h => h) (Or.inl ⟨by rfl, ?_⟩) (by assumption) ?_
            rotate_left
            · (intro w hSw; (try dsimp only at hSw); (first | (go_simp; done) | (go_simp; with_reducible rfl)))
            simp only [Act.put, List.getElem_toArray, List.getElem_cons_succ, List.getElem_cons_zero, List.setIfInBounds_toArray, List.set_cons_zero, List.set_cons_succ]
            refine wpAnyH_take (i := 8) (oi := _) (v := ?_) rfl (by kernel_rfl) (by kernel_rfl) (by kernel_rfl) (fun _ _ _ h => h) (Or.inl ⟨by rfl, ?_⟩) (by assumption) ?_
            rotate_left
            · (intro w hSw; (try dsimp only at hSw); (first | (go_simp; done) | (go_simp; with_reducible rfl)))
            simp only [Act.put, List.getElem_toArray, List.getElem_cons_succ, List.getElem_cons_zero, List.setIfInBounds_toArray, List.set_cons_zero, List.set_cons_succ]
            refine wpAnyH_ready (rs := [9]) (by kernel_rfl) (by simp) ?_
            refine AllReadyH.cons rfl (fun K hK => ?_) AllReadyH.nil
            go_simp
            refine (HRN.out _ xs yl _ (HRX.out.below HX.out.below) hy1 hy60 HR.out).mono ?_
            rintro e w21 ⟨rfl, hb⟩
            have HX := Lib.hid (HX.out.next hb)
            clear hb
            clear hHeld
            try go_wp2_with fail
            refine hK.out _ _ (⟨HX.out, HX.out.c0, HX.out.c1, (HX.out.below.cell (p := ⟨b, o, none⟩) hbl2).trans HCY.out, (HX.out.below.cell (p := ⟨b, o + k, none⟩) hbl2).trans HCX.out⟩) (fun hHeld => ?_)
            clear hK K
            refine wpAnyH_take (i := 10) (oi := _) (v := ?_) rfl (by kernel_rfl) (by kernel_rfl) (by kernel_rfl) (fun _ _ _ h => h) (Or.inl ⟨by rfl, ?_⟩) (by assumption) ?_
            rotate_left
            · (intro w hSw; (try dsimp only at hSw); (first | (go_simp; done) | (go_simp; with_reducible rfl)))
            simp only [Act.put, List.getElem_toArray, List.getElem_cons_succ, List.getElem_cons_zero, List.setIfInBounds_toArray, List.set_cons_zero, List.set_cons_succ]
            refine wpAnyH_done (by kernel_rfl) ?_ _
            refine NoPanic.normal ?_
            clear hHeld
            go_wp2_with fail
            go_ret
            exact says_no (fun h => by have h5 := h.2.2.2.2 k xs HXS.out; rw [HYS.out] at h5; exact HR.out h5) HX.out.below
        · have hke : k = xss.length := by omega
          subst hke
          go_wp2_with fail
          go_ret
          exact says_yes ⟨h1, h6, by rw [HYS.out]; exact hy1, by rw [HYS.out]; exact hy60, fun j xs hx => by rw [HYS.out]; exact HP.out j xs (List.getElem?_eq_some_iff.1 hx).1 hx⟩ HX.out.below
    · have h60n : ¬ ((1 : Int) ≤ (yl : Int) ∧ (yl : Int) ≤ 60) := by omega
      have HN := Lib.hid (show ¬ PatS n g xss from fun h => h60 (by have := h.2.2.1; have := h.2.2.2.1; rw [HYS.out] at *; omega))
      go_enter Try.func134, Try.ntmps134
      go_wp2_with fail
      refine (HIY.out _ _ _ _ (by omega)).mono ?_
      rintro e w2 ⟨rfl, rfl⟩
      go_wp2_with fail
      refine (HIN.out _ _ _ _ h60n).mono ?_
      rintro e w2 ⟨rfl, rfl⟩
      go_wp2_with fail
      go_ret
      exact says_no HN.out HX.out.below
  · have h6n : ¬ ((1 : Int) ≤ (xss.length : Int) ∧ (xss.length : Int) ≤ 6) := by omega
    have HN := Lib.hid (show ¬ PatS n g xss from fun h => h6 ⟨h.1, h.2.1⟩)
    go_enter Try.func134, Try.ntmps134
    go_wp2_with fail
    refine (HIN.out _ _ _ _ h6n).mono ?_
    rintro e w2 ⟨rfl, rfl⟩
    go_wp2_with fail
    go_ret
    exact says_no HN.out HX.out.below
theorem l5Patrol_any (n : Int) (g : Bool) (v : Value) (xss : List (List Int)) (w : World) (hv : ReadsL w v xss) :
    Calls Try.prog 134 #[rd n g, v] w (Says (PatP n g xss) w) :=
  (l5PatrolS n g v xss w hv).mono fun _ _ h => says_map h (pat_iff n g xss)
theorem l5Patrol_is (n : Int) (g : Bool) (v : Value) (xss : List (List Int)) (w : World) (hv : ReadsL w v xss) :
    Calls Try.prog 134 #[rd n g, v] w fun e w' => e = .returned (.bool (patD n g xss)) ∧ Below w.heap.size w w' :=
  (l5Patrol_any n g v xss w hv).mono fun e w' ⟨b, he, hi, hb⟩ => ⟨by rw [he, bool_of_iff hi (patD_iff n g xss)], hb⟩
theorem patD_road {n : Int} {g : Bool} {xss : List (List Int)} (h : roadB n g = false) : patD n g xss = false := by
  cases hp : patD n g xss
  · rfl
  · have := ((patD_iff n g xss).1 hp).2.2.2
    rw [h] at this
    cases this
theorem l5Good_any (n : Int) (g : Bool) (v : Value) (xss : List (List Int)) (w : World) (hv : ReadsL w v xss) :
    Calls Try.prog 101 #[rd n g, v] w fun e w' => e = .returned (.bool (patD n g xss)) ∧ Below w.heap.size w w' := by
  have HRO := Lib.hid (fun w => l2Road_any n g w)
  have HPA := Lib.hid (fun w hv => l5Patrol_is n g v xss w hv)
  have HX := Lib.hid (Boxed.first w n g 27)
  have HV := Lib.hid hv
  obtain ⟨va, vc, rfl, _⟩ := hv
  unfold rd at *
  go_enter Try.func101, Try.ntmps101
  go_wp2_with fail
  refine (HRO.out _).mono ?_
  rintro e w1 ⟨rfl, hb⟩
  have HX := Lib.hid (HX.out.next hb)
  have hx0 := HX.out.c0
  have hx1 := HX.out.c1
  clear hb
  cases hr : roadB n g
  · have HR := Lib.hid (patD_road (xss := xss) hr)
    go_wp2_with fail
    go_ret
    exact ⟨ret_bool (by rw [HR.out]), HX.out.below⟩
  · go_wp2_with fail
    refine (HPA.out _ (HV.out.below HX.out.below)).mono ?_
    rintro e w2 ⟨rfl, hb⟩
    have HX := Lib.hid (HX.out.next hb)
    clear hb
    go_wp2_with fail
    go_ret
    exact ⟨rfl, HX.out.below⟩
end Go.Proofs.Ytijhbhjapcfddaa
