/-
  What is proved: the contracts of spec.l3Line, spec.l3Search, spec.l3Good; IsSearch and TurnCount of the model and of the program. Conditions: slices that read as lists of numbers.
-/
import Derived.Test.YtnclfdfnhhicdaaSec
import Derived.Test.YtnclfdfnhhicdaaFn4
import Derived.Deep.QuietTactic
import Derived.BigQuiet
namespace Go.Proofs.Ytnclfdfnhhicdaa
open Go.RowKit
set_option linter.unusedVariables false
set_option linter.unusedSimpArgs false

theorem l3Line_any (n : Int) (g : Bool) (a : Int) (w : World) :
    Calls Try.prog 51 #[rd n g, .int .i64 a] w fun e w' => e = .returned (.bool (lineB n g a)) ∧ Below w.heap.size w w' := by
  have HR := Lib.hid (fun w => l2Road_any n g w)
  have HI := Lib.hid (fun w => l1In_any a 0 (n - 1) w)
  have HX := Lib.hid (Boxed.first w n g 27)
  unfold rd at *
  go_enter Try.func51, Try.ntmps51
  go_wp2_with fail
  refine (HR.out _).mono ?_
  rintro e w1 ⟨rfl, hb⟩
  have HX := Lib.hid (HX.out.next hb)
  clear hb
  have h0 := HX.out.c0
  have h1 := HX.out.c1
  cases hr : roadB n g
  · go_wp2_with fail
    go_ret
    exact ⟨ret_bool (by simp [lineB, placeB, hr]), HX.out.below⟩
  · have hn := (roadB_iff n g).1 hr
    have hn1 := hn.1
    have hn2 := hn.2.1
    clear hn
    cases g
    · go_wp2_with fail
      refine (HI.out _).mono ?_
      rintro e w2 ⟨rfl, rfl⟩
      go_wp2_with fail
      go_ret
      refine ⟨ret_bool ?_, HX.out.below⟩
      by_cases ha : 0 ≤ a <;> by_cases hb : a < n
      · simp [lineB, placeB, hr, ha, hb]; omega
      · simp [lineB, placeB, hr, ha, hb]; omega
      · simp [lineB, placeB, hr, ha, hb]
      · simp [lineB, placeB, hr, ha, hb]
    · go_wp2_with fail
      go_ret
      exact ⟨ret_bool (by simp [lineB]), HX.out.below⟩
theorem l1In_same (x a b : Int) (w : World) :
    Calls Try.prog 60 #[.int .i64 x, .int .i64 a, .int .i64 b] w fun e w' => e = .returned (.bool (decide (a ≤ x) && decide (x ≤ b))) ∧ w' = w :=
  (l1In_any x a b w).mono fun _ _ h => ⟨h.1, h.2.symm⟩
def L3Rel (n a : Int) (xs : List Int) (base : Nat) (w : World) (lv hv i : Value) (wr : World) : Prop :=
  Boxed base n false w wr ∧ ∃ (k : Nat) (lo hi q : Int), k ≤ xs.length ∧ i = .int .i64 k ∧ lv = .int .i64 lo ∧ hv = .int .i64 hi ∧ SInv n a xs k lo hi q
set_option maxHeartbeats 3200000 in
set_option maxRecDepth 20000 in
theorem l3Search_any (n a : Int) (v : Value) (xs : List Int) (w : World) (hv : ReadsI w v xs) (hl : lineB n false a = true) :
    Calls Try.prog 52 #[rd n false, .int .i64 a, v] w fun e w' => e = .returned (.bool (searchB n a xs)) ∧ Below w.heap.size w w' := by
  obtain ⟨hn1, hn2, _, ha0, ha1⟩ := (lineB_iff n false a).1 hl
  have HIN0 := Lib.hid (fun x w => l1In_same x 0 (n - 1) w)
  have HX := Lib.hid (Boxed.first w n false 27)
  obtain ⟨y, c, rfl, hc, hm, hx⟩ := hv
  have HL := Lib.hid hx
  unfold maxLen at hm
  clear hx hl
  have hwn : IntKind.i64.wrap (n - 1) = n - 1 := IntWalk.i64_in _ (by omega)
  have HWN := Lib.hid hwn
  clear hwn
  unfold rd at *
  go_enter Try.func52, Try.ntmps52
  go_wp2_with fail
  go_loopw [6, 7, 8, 9] (fun r lv hv i wr => r = .bool false ∧ L3Rel n a xs w.heap.size w lv hv i wr) (fun _ _ _ i _ => xs.length - (intOf i).toNat)
  case atStart => exact ⟨rfl, HX.out, 0, a, a, a, Nat.zero_le _, rfl, rfl, rfl, sinv_first xs ha0 ha1⟩
  case round =>
    obtain ⟨rfl, hx, k, lo, hi, q, hk, rfl, rfl, rfl, hs⟩ := hrel
    clear HX
    have HX := Lib.hid hx
    have HS := Lib.hid hs
    clear hx hs
    have h0 := HX.out.c0
    by_cases hlt : k < xs.length
    · obtain ⟨x, hxk⟩ := get_some hlt
      obtain ⟨b, o, rfl, hbl, hcx0⟩ := HL.out k x hxk
      have HXK := Lib.hid hxk
      have hcx : wr.cell? ⟨b, o + k, none⟩ = some (.int .i64 x) := (HX.out.below.cell (p := ⟨b, o + k, none⟩) hbl).trans hcx0
      have hi0 : 0 ≤ (k : Int) := by omega
      have hi1 : (k : Int) < xs.length := by omega
      have HBL := Lib.hid hbl
      clear hcx0 hxk hbl
      by_cases hin0 : 0 ≤ x ∧ x ≤ n - 1
      · obtain ⟨hx0, hx1⟩ := hin0
        have hin := HIN0.out x
        rw [show (decide ((0 : Int) ≤ x) && decide (x ≤ n - 1)) = true by simp; omega] at hin
        have HIN := Lib.hid hin
        clear hin
        by_cases hxa : x = a
        · subst hxa
          go_wp2_with fail
          have hw1 := HWN.out
          go_quiet ((go_at_call 60; exact Calls.quiet_of_same (HIN.out _)))
          clear hw1
          have HX9 := Lib.hid (HX.out.next (below_drewN _ nq))
          go_wp2_with fail
          go_ret
          exact ⟨ret_bool (by rw [sinv_no HS.out HXK.out (.inl rfl)]), HX9.out.below⟩
        · have hxa' : (x == a) = false := by simp [hxa]
          by_cases hk0 : k = 0
          · subst hk0
            have hcx : wr.cell? ⟨b, o, none⟩ = some (.int .i64 x) := hcx
            by_cases hra : a < x
            · go_wp2_with fail
              have hw1 := HWN.out
              go_quiet ((go_at_call 60; exact Calls.quiet_of_same (HIN.out _)))
              clear hw1
              have HX9 := Lib.hid (HX.out.next (below_drewN _ nq))
              by_cases hbad : x ≤ hi
              · go_wp2_with fail
                go_ret
                exact ⟨ret_bool (by rw [sinv_no HS.out HXK.out (.inr (.inr (.inl ⟨by omega, by omega⟩)))]), HX9.out.below⟩
              · have HN := Lib.hid (sinv_right HS.out HXK.out (by omega) (by omega) (by omega) (.inl rfl))
                go_wp2_with fail
                go_roundw
                case rel => exact ⟨rfl, HX9.out, 0 + 1, _, _, _, by omega, by go_num, rfl, rfl, HN.out⟩
                case measure => simp [intOf]; omega
            · go_wp2_with fail
              have hw1 := HWN.out
              go_quiet ((go_at_call 60; exact Calls.quiet_of_same (HIN.out _)))
              clear hw1
              have HX9 := Lib.hid (HX.out.next (below_drewN _ nq))
              by_cases hbad : lo ≤ x
              · go_wp2_with fail
                go_ret
                exact ⟨ret_bool (by rw [sinv_no HS.out HXK.out (.inr (.inr (.inr ⟨by omega, by omega⟩)))]), HX9.out.below⟩
              · have HN := Lib.hid (sinv_left HS.out HXK.out (by omega) (by omega) (by omega) (.inl rfl))
                go_wp2_with fail
                go_roundw
                case rel => exact ⟨rfl, HX9.out, 0 + 1, _, _, _, by omega, by go_num, rfl, rfl, HN.out⟩
                case measure => simp [intOf]; omega
          · obtain ⟨p, hpk⟩ := get_some (xs := xs) (k := k - 1) (by omega)
            obtain ⟨b', o', e, hbl', hcp0⟩ := HL.out (k - 1) p hpk
            cases e
            have hcp : wr.cell? ⟨b, o + (k - 1), none⟩ = some (.int .i64 p) := (HX.out.below.cell (p := ⟨b, o + (k - 1), none⟩) HBL.out).trans hcp0
            have hpq := HS.out.last p (by omega) hpk
            subst hpq
            have hi2 : 0 ≤ (k : Int) - 1 := by omega
            have hi3 : (k : Int) - 1 < xs.length := by omega
            have hi4 : 1 ≤ (k : Int) := by omega
            have hi5 : (0 : Int) < (k : Int) := by omega
            have hi6 : 0 < k := by omega
            have hi7 : decide (0 < k) = true := by simp; omega
            have hw2 : IntKind.i64.wrap ((k : Int) - 1) = (k : Int) - 1 := IntWalk.i64_in _ (by omega)
            have HW2 := Lib.hid hw2
            clear hcp0 hpk hw2
            by_cases hra : a < x
            · by_cases hpa : a < p
              · go_wp2_with fail
                have hw1 := HWN.out
                have hw2 := HW2.out
                go_quiet ((go_at_call 60; exact Calls.quiet_of_same (HIN.out _)))
                clear hw1 hw2
                have HX9 := Lib.hid (HX.out.next (below_drewN _ nq))
                go_wp2_with fail
                go_ret
                exact ⟨ret_bool (by rw [sinv_no HS.out HXK.out (.inr (.inl ⟨by omega, by omega⟩))]), HX9.out.below⟩
              · go_wp2_with fail
                have hw1 := HWN.out
                have hw2 := HW2.out
                go_quiet ((go_at_call 60; exact Calls.quiet_of_same (HIN.out _)))
                clear hw1 hw2
                have HX9 := Lib.hid (HX.out.next (below_drewN _ nq))
                by_cases hbad : x ≤ hi
                · go_wp2_with fail
                  go_ret
                  exact ⟨ret_bool (by rw [sinv_no HS.out HXK.out (.inr (.inr (.inl ⟨by omega, by omega⟩)))]), HX9.out.below⟩
                · have HN := Lib.hid (sinv_right HS.out HXK.out (by omega) (by omega) (by omega) (.inr (by omega)))
                  go_wp2_with fail
                  go_roundw
                  case rel => exact ⟨rfl, HX9.out, k + 1, _, _, _, by omega, by go_num, rfl, rfl, HN.out⟩
                  case measure => simp [intOf]; omega
            · by_cases hpa : a < p
              · go_wp2_with fail
                have hw1 := HWN.out
                have hw2 := HW2.out
                go_quiet ((go_at_call 60; exact Calls.quiet_of_same (HIN.out _)))
                clear hw1 hw2
                have HX9 := Lib.hid (HX.out.next (below_drewN _ nq))
                by_cases hbad : lo ≤ x
                · go_wp2_with fail
                  go_ret
                  exact ⟨ret_bool (by rw [sinv_no HS.out HXK.out (.inr (.inr (.inr ⟨by omega, by omega⟩)))]), HX9.out.below⟩
                · have HN := Lib.hid (sinv_left HS.out HXK.out (by omega) (by omega) (by omega) (.inr (by omega)))
                  go_wp2_with fail
                  go_roundw
                  case rel => exact ⟨rfl, HX9.out, k + 1, _, _, _, by omega, by go_num, rfl, rfl, HN.out⟩
                  case measure => simp [intOf]; omega
              · go_wp2_with fail
                have hw1 := HWN.out
                have hw2 := HW2.out
                go_quiet ((go_at_call 60; exact Calls.quiet_of_same (HIN.out _)))
                clear hw1 hw2
                have HX9 := Lib.hid (HX.out.next (below_drewN _ nq))
                rw [show (!decide (a < p)) = true by simp; omega]
                go_wp2_with fail
                go_ret
                exact ⟨ret_bool (by rw [sinv_no HS.out HXK.out (.inr (.inl ⟨by omega, by omega⟩))]), HX9.out.below⟩
      · have hin := HIN0.out x
        rw [show (decide ((0 : Int) ≤ x) && decide (x ≤ n - 1)) = false by simp; omega] at hin
        have HIN := Lib.hid hin
        clear hin
        by_cases hra : a < x
        · go_wp2_with fail
          have hw1 := HWN.out
          go_quiet ((go_at_call 60; exact Calls.quiet_of_same (HIN.out _)))
          clear hw1
          have HX9 := Lib.hid (HX.out.next (below_drewN _ nq))
          go_wp2_with fail
          go_ret
          exact ⟨ret_bool (by rw [searchB_out HXK.out (by omega)]), HX9.out.below⟩
        · go_wp2_with fail
          have hw1 := HWN.out
          go_quiet ((go_at_call 60; exact Calls.quiet_of_same (HIN.out _)))
          clear hw1
          have HX9 := Lib.hid (HX.out.next (below_drewN _ nq))
          go_wp2_with fail
          go_ret
          exact ⟨ret_bool (by rw [searchB_out HXK.out (by omega)]), HX9.out.below⟩
    · have hke : k = xs.length := by omega
      subst hke
      have HE := Lib.hid (sinv_end HS.out)
      by_cases hz : lo = 0
      · subst hz
        go_wp2_with fail
        go_ret
        exact ⟨ret_bool (by rw [HE.out]; simp), HX.out.below⟩
      · have hz' : (lo == 0) = false := by simp [hz]
        go_wp2_with fail
        go_ret
        exact ⟨ret_bool (by rw [HE.out]; simp [hz']), HX.out.below⟩
end Go.Proofs.Ytnclfdfnhhicdaa
