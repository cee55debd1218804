/-
  What is proved: MirrorSearch of the model and of the program. Conditions: slices that read as lists of numbers of the row's length.
-/
import Derived.Test.YtnclfdfnhhicdaaSeg
import Derived.Test.YtnclfdfnhhicdaaFn4
namespace Go.Proofs.Ytnclfdfnhhicdaa
open Go.RowKit
set_option linter.unusedVariables false
set_option linter.unusedSimpArgs false

open Classical in
/-- what MirrorSearch answers -/
noncomputable def mirsR (n : Int) (g : Bool) (xs : List Int) : List Int × Bool := if roadB n g = true ∧ g = false ∧ Inside n xs then (xs.map (fun p => n - 1 - p), true) else ([], false)
theorem mirsR_yes {n : Int} {g : Bool} {xs : List Int} (h : roadB n g = true ∧ g = false ∧ Inside n xs) : mirsR n g xs = (xs.map (fun p => n - 1 - p), true) := by
  unfold mirsR
  exact if_pos h
theorem mirsR_no {n : Int} {g : Bool} {xs : List Int} (h : ¬ (roadB n g = true ∧ g = false ∧ Inside n xs)) : mirsR n g xs = ([], false) := by
  unfold mirsR
  exact if_neg h
theorem mirsR_len (n : Int) (g : Bool) (xs : List Int) (h : xs.length ≤ 1048576) : (mirsR n g xs).1.length ≤ 1048576 := by
  by_cases hc : roadB n g = true ∧ g = false ∧ Inside n xs
  · rw [mirsR_yes hc]
    simpa using h
  · rw [mirsR_no hc]
    simp
set_option maxHeartbeats 800000 in
set_option maxRecDepth 20000 in
theorem impl_MirrorSearch (n : Int) (g : Bool) (v : Value) (xs : List Int) (w : World) (hv : ReadsI w v xs) (hlen : xs.length ≤ 1048576) :
    Calls Try.prog 26 #[rd n g, v] w (OwnsB w.heap.size (mirsR n g xs).1 (mirsR n g xs).2 w) := by
  have HP := Lib.hid (fun w hv => arePlaces_any n g v xs w hv)
  have HF := Lib.hid (fun w hv hn hin => formed_mirror n g v xs w hv hn hin hlen)
  have HX := Lib.hid (Boxed.first w n g 27)
  have HV := Lib.hid (hv.below (below_new w (.cells #[.int .i64 n, .bool g] 27)))
  obtain ⟨y, c, hvv, _⟩ := hv
  subst hvv
  have HO := Lib.hid (made_at (w.alloc (.cells #[.int .i64 n, .bool g] 27)) (w.heap.size + 1) (w.heap.size + 1) (by simp) (Nat.le_refl _))
  unfold rd at *
  go_enter Try.func26, Try.ntmps26
  cases g
  · go_wp2_with fail
    refine (HP.out _ HV.out).mono ?_
    rintro e w1 ⟨b, rfl, hbp, hb⟩
    have HX := Lib.hid (HX.out.next hb)
    have HV := Lib.hid (HV.out.below hb)
    clear hb HO
    have hs := HX.out.size
    have h0 := HX.out.c0
    have h1 := HX.out.c1
    cases b
    · have HR := Lib.hid (mirsR_no (n := n) (g := false) (xs := xs) (fun h => by have := hbp.2 ⟨h.1, h.2.2⟩; cases this))
      go_wp2_with fail
      go_ret2
      exact owns_R (zs := []) (b := false) HR.out (owns_out (HX.out.next (below_new _ _)) (made_at w1 (w.heap.size + 1) w1.heap.size rfl hs))
    · have hp := hbp.1 rfl
      have hn := (roadB_iff n false).1 hp.1
      have HN := Lib.hid (show 2 ≤ n ∧ n ≤ 24 from ⟨hn.1, hn.2.1⟩)
      have HIN := Lib.hid hp.2
      have HR := Lib.hid (mirsR_yes (n := n) (g := false) (xs := xs) ⟨hp.1, rfl, hp.2⟩)
      clear hp hn hbp
      go_wp2_with fail
      refine (HF.out _ HV.out HN.out HIN.out).mono ?_
      rintro e w2 ⟨u, rfl, ho, hb⟩
      have HX := Lib.hid (HX.out.next hb)
      have HO : Hid (w2.ownsRow w.heap.size _ _ _ _ _) := Lib.hid (owns_lower ho (Nat.le_of_lt hs))
      clear hb ho h0 h1
      go_wp2_with fail
      go_ret2
      exact owns_R (zs := xs.map fun p => n - 1 - p) (b := true) HR.out ⟨u, rfl, HO.out, HX.out.below⟩
  · have HR := Lib.hid (mirsR_no (n := n) (g := true) (xs := xs) (fun h => by cases h.2.1))
    go_wp2_with fail
    go_ret2
    exact owns_R (zs := []) (b := false) HR.out (owns_out (HX.out.next (below_new _ _)) HO.out)
set_option maxHeartbeats 1600000 in
set_option maxRecDepth 20000 in
theorem spec_MirrorSearch (n : Int) (g : Bool) (v : Value) (xs : List Int) (w : World) (hv : ReadsI w v xs) (hlen : xs.length ≤ 1048576) :
    Calls Try.prog 25 #[rd n g, v] w (OwnsB w.heap.size (mirsR n g xs).1 (mirsR n g xs).2 w) := by
  obtain ⟨i0, hi, hz0, hz1, hz2⟩ := info_parts infoInt
  have HIN0 := Lib.hid (fun x w => l1In_same x 0 (n - 1) w)
  have HR0 := Lib.hid (fun w => l2Road_any n g w)
  have HX0 := Lib.hid (Boxed.first w n g 27)
  have HO0 := Lib.hid (made_at (w.alloc (.cells #[.int .i64 n, .bool g] 27)) (w.heap.size + 1) (w.heap.size + 1) (by simp) (Nat.le_refl _))
  obtain ⟨y, c, hvv, hc, hm, hx⟩ := hv
  subst hvv
  unfold maxLen at hm
  have HL := Lib.hid hx
  clear hx
  unfold rd at *
  go_enter Try.func25, Try.ntmps25
  go_wp2_with fail
  refine (HR0.out _).mono ?_
  rintro e w1 ⟨rfl, hb⟩
  have HX := Lib.hid ((HX0.out.next (below_new _ _)).next hb)
  have HO := Lib.hid (owns_below HO0.out hb)
  clear hb HX0 HO0
  have h0 := HX.out.c0
  have h1 := HX.out.c1
  cases hr : roadB n g
  · have HR := Lib.hid (mirsR_no (n := n) (g := g) (xs := xs) (fun h => by rw [hr] at h; cases h.1))
    go_wp2_with fail
    go_ret2
    exact owns_R (zs := []) (b := false) HR.out (owns_out HX.out HO.out)
  · cases g
    · have hn := (roadB_iff n false).1 hr
      have hn1 := hn.1
      have hn2 := hn.2.1
      have HRD := Lib.hid hr
      have hwn : IntKind.i64.wrap (n - 1) = n - 1 := IntWalk.i64_in _ (by omega)
      have HWN := Lib.hid hwn
      clear hn hr hwn
      go_wp2_with fail
      go_loopw [4, 5, 6, 7] (fun r1 r2 v i wr => (∃ u, r1 = u) ∧ (∃ b, r2 = b) ∧ LRel n false xs (fun p => n - 1 - p) w.heap.size w v i wr ∧ ∀ k : Nat, i = .int .i64 k → ∀ (j : Nat) x, j < k → xs[j]? = some x → 0 ≤ x ∧ x < n) (fun _ _ _ i _ => xs.length - (intOf i).toNat)
      case atStart => exact ⟨⟨_, rfl⟩, ⟨_, rfl⟩, ⟨HX.out, 0, Nat.zero_le _, rfl, HO.out⟩, fun k hk j x hj _ => by simp at hk; omega⟩
      case round =>
        obtain ⟨⟨r1, rfl⟩, ⟨r2, rfl⟩, ⟨hx, k, hk, rfl, hown⟩, hins⟩ := hrel
        have HINS := Lib.hid (hins k rfl)
        clear HX HO hins
        have HX := Lib.hid hx
        clear hx h0 h1
        have HOW := Lib.hid hown
        clear hown
        have h0 := HX.out.c0
        by_cases hlt : k < xs.length
        · obtain ⟨x, hxk⟩ := get_some hlt
          obtain ⟨b, o, rfl, hbl, hcx0⟩ := HL.out k x hxk
          have hcx : wr.cell? ⟨b, o + k, none⟩ = some (.int .i64 x) := (HX.out.below.cell (p := ⟨b, o + k, none⟩) hbl).trans hcx0
          have HXK := Lib.hid hxk
          have hi0 : 0 ≤ (k : Int) := by omega
          have hi1 : (k : Int) < xs.length := by omega
          have HC00 := Lib.hid hcx0
          clear hxk hcx0
          by_cases hin0 : 0 ≤ x ∧ x ≤ n - 1
          · obtain ⟨hx0, hx1⟩ := hin0
            have hin := HIN0.out x
            rw [show (decide ((0 : Int) ≤ x) && decide (x ≤ n - 1)) = true by simp; omega] at hin
            have HIN := Lib.hid hin
            have hw1 := HWN.out
            clear hin
            go_wp2_with fail
            go_quiet ((go_at_call 60; exact Calls.quiet_of_same (HIN.out _)))
            clear hw1
            have HX := Lib.hid (HX.out.next (below_drewN _ nq))
            have HOW := Lib.hid (owns_below HOW.out (below_drewN _ nq))
            have hcx : (wr.drewN nq).cell? ⟨b, o + k, none⟩ = some (.int .i64 x) := hcx
            clear h0
            generalize wr.drewN nq = wr at *
            have h0 := HX.out.c0
            have hcx00 := HC00.out
            have hown := HOW.out
            have hkl : (k + 1) * 8 ≤ 140737488355328 := by omega
            have hw2 : IntKind.i64.wrap (n - 1 - x) = n - 1 - x := IntWalk.i64_in _ (by omega)
            go_wp2_with fail
            have hw1 := HWN.out
            clear hcx
            go_region_held3 (fun w' => Boxed w.heap.size n false w w' ∧ w'.cell? ⟨w.heap.size, 0, none⟩ = some (.int .i64 n) ∧ w'.cell? ⟨b, o + k, none⟩ = some (.int .i64 x))
              (first | exact sOf HX9 hbl hcx00 rfl | exact sOf (HX.out.next (below_drewN _ 1)) hbl hcx00 rfl | exact sOf ((HX.out.next (below_new _ _)).next (below_drewN _ 1)) hbl hcx00 rfl)
              ((refine step_append_lies _ (by rfl) _ _ _ (by rfl) (w.heap.size + 1) 3 i0 _ 1 8 Try.underlying24 hi hz0 hz1 hz2 rfl (by decide) _ k _ (by rfl) (owns_below (hown.alloc _) (below_drewN _ 1))
                    ⟨wr.heap.size, 0, none⟩ 1 1 [.int .i64 (n - 1 - x)] (by rfl) (by rfl) (World.news_of_block (cs := #[.int .i64 (n - 1 - x)]) (t := 3) (fr := (0, 0)) (heap_alloc_new wr _)) (by simp [Value.oneCell'])
                    (by decide) (by unfold maxLen; omega) hkl (by have := HX.out.size; simp; omega) (wr.heap.size + 1) (by simp) ?_; intro gg cap w9 hown' hgrow _ _; have HX9 := boxed_appendD HX.out hgrow (fun b hb => (owns_block hown b hb).1)))
            clear hw1 hw2
            have HX := Lib.hid HX9
            have hins' : ∀ (j : Nat) z, j < k + 1 → xs[j]? = some z → 0 ≤ z ∧ z < n := by
              intro j z hj hz
              rcases Nat.lt_succ_iff_lt_or_eq.1 hj with hj | rfl
              · exact HINS.out j z hj hz
              · have e := hz.symm.trans HXK.out
                cases e
                omega
            have HINS' := Lib.hid hins'
            clear hins'
            go_wp2_with fail
            go_roundw
            case rel => exact ⟨⟨_, rfl⟩, ⟨_, rfl⟩, lrel_next (f := fun p => n - 1 - p) HXK.out (by go_num) HX.out hown', fun m hm => by simp at hm; obtain rfl : m = k + 1 := (by omega); exact HINS'.out⟩
            case measure => simp [intOf]; omega
          · have hin := HIN0.out x
            rw [show (decide ((0 : Int) ≤ x) && decide (x ≤ n - 1)) = false by simp; omega] at hin
            have HIN := Lib.hid hin
            have hw1 := HWN.out
            have HR := Lib.hid (mirsR_no (n := n) (g := false) (xs := xs) (fun h => by have := h.2.2 k x HXK.out; omega))
            clear hin
            go_wp2_with fail
            go_quiet ((go_at_call 60; exact Calls.quiet_of_same (HIN.out _)))
            clear hw1
            have HX := Lib.hid (HX.out.next (below_drewN _ nq))
            generalize wr.drewN nq = wr at *
            have hs := HX.out.size
            go_wp2_with fail
            go_ret2
            exact owns_R (zs := []) (b := false) HR.out (owns_out (HX.out.next (below_new _ _)) (made_at wr (w.heap.size + 1) wr.heap.size rfl hs))
        · have hke : k = xs.length := by omega
          subst hke
          have HR := Lib.hid (mirsR_yes (n := n) (g := false) (xs := xs) ⟨HRD.out, rfl, fun j x hx => HINS.out j x (List.getElem?_eq_some_iff.1 hx).1 hx⟩)
          go_wp2_with fail
          go_ret2
          exact owns_R (zs := xs.map fun p => n - 1 - p) (b := true) HR.out (lrel_end (f := fun p => n - 1 - p) rfl HX.out HOW.out)
    · have HR := Lib.hid (mirsR_no (n := n) (g := true) (xs := xs) (fun h => by cases h.2.1))
      go_wp2_with fail
      go_ret2
      exact owns_R (zs := []) (b := false) HR.out (owns_out HX.out HO.out)
end Go.Proofs.Ytnclfdfnhhicdaa
