/-
  What is proved: the contract of impl.leaveTime. Conditions: a table that reads as a list of walks, and a place.
-/
import Derived.Test.YtijhbhjapcfddaaExh
namespace Go.Proofs.Ytijhbhjapcfddaa
open Go.RowKit
set_option linter.unusedVariables false
set_option linter.unusedSimpArgs false

set_option maxHeartbeats 1600000 in
set_option maxRecDepth 20000 in
theorem leaveTime_any (n : Int) (g : Bool) (v : Value) (xss : List (List Int)) (p : Int) (w : World) (hv : ReadsL w v xss) (hl : LeavP n g xss) (hp : 0 ≤ p ∧ p < n) :
    Calls Try.prog 91 #[rd n g, v, .int .i64 p] w fun e w' => e = .returned (.int .i64 (leaveV n g xss p)) ∧ Below w.heap.size w w' := by
  have hrr := (roadB_iff n g).1 hl.2.1
  have hn1 := hrr.1
  have hn2 := hrr.2.1
  have HFI := Lib.hid (fun v xs w hv => index_any v xs p w hv)
  have HAT := Lib.hid (fun v xs t w hv hl ht => placeAt_any v xs t w hv hl ht)
  have HGA := Lib.hid (fun a w => impl_GapOf n g a p w)
  have HPL := Lib.hid (fun q (hq : 0 ≤ q ∧ q < n) => (placeB_iff n g q).2 ⟨hl.2.1, hq⟩)
  have HX := Lib.hid (Boxed.first w n g 27)
  have HV := Lib.hid hv
  have HW := Lib.hid hl.2.2
  have HFR := Lib.hid (fun k hk => fndF_range (p := p) (xss := xss) (fun j xs hx => (hl.2.2 j xs hx).2.2.1) k hk)
  have HLR := Lib.hid (fun t (ht : 0 ≤ t) k hk => lngF_range (n := n) (g := g) (p := p) (t := t) hl.2.2 hp ht k hk)
  have HLV := Lib.hid (show leaveV n g xss p = if fndF p xss xss.length < 0 then -1 else fndF p xss xss.length + lngF n g p (fndF p xss xss.length) xss xss.length from rfl)
  obtain ⟨y, c, hvv, hc, hm, hx⟩ := hv
  subst hvv
  unfold maxLen at hm
  clear hx hrr hl
  unfold rd at *
  go_enter Try.func91, Try.ntmps91
  go_wp2_with fail
  go_loopw [7, 18] (fun f i wr => ∃ k : Nat, k ≤ xss.length ∧ i = .int .i64 k ∧ f = .int .i64 (fndF p xss k) ∧ Boxed w.heap.size n g w wr) (fun _ i _ => xss.length - (intOf i).toNat)
  case atStart => exact ⟨0, Nat.zero_le _, rfl, rfl, HX.out⟩
  case round =>
    obtain ⟨k, hk, rfl, rfl, hx⟩ := hrel
    clear HX
    have HX := Lib.hid hx
    have hfr := HFR.out k hk
    clear hx
    by_cases hlt : k < xss.length
    · obtain ⟨xs, hxk⟩ := get_some hlt
      obtain ⟨b, o, a3, c3, he, hbl, hcx0, hrx⟩ := lists_in HV.out hxk
      subst he
      have hcx : wr.cell? ⟨b, o + k, none⟩ = some (.slice a3 xs.length c3) := (HX.out.below.cell (p := ⟨b, o + k, none⟩) hbl).trans hcx0
      have HRX := Lib.hid hrx
      have HNK := Lib.hid (fndF_next (p := p) hxk)
      have hi0 : 0 ≤ (k : Int) := by omega
      have hi1 : (k : Int) < xss.length := by omega
      clear hcx0 hxk hrx hbl
      generalize fndF p xss k = f at *
      go_wp2_with fail
      refine (HFI.out _ xs _ (HRX.out.below HX.out.below)).mono ?_
      rintro e w2 ⟨rfl, rfl⟩
      clear hcx
      generalize firstI xs p = t at *
      by_cases ht : 0 ≤ t
      · by_cases hf : f = -1
        · have HC := Lib.hid (show (if 0 ≤ t ∧ (f < 0 ∨ t < f) then t else f) = t from if_pos ⟨ht, Or.inl (by omega)⟩)
          have hfb : (f == -1) = true := by rw [hf]; rfl
          go_wp2_with fail
          go_roundw
          case rel => exact ⟨k + 1, by omega, by go_num, by rw [HNK.out, HC.out], HX.out⟩
          case measure => simp [intOf] <;> omega
        · have hfb : (f == -1) = false := by rw [beq_eq_false_iff_ne]; exact hf
          by_cases htf : t < f
          · have HC := Lib.hid (show (if 0 ≤ t ∧ (f < 0 ∨ t < f) then t else f) = t from if_pos ⟨ht, Or.inr htf⟩)
            go_wp2_with fail
            go_roundw
            case rel => exact ⟨k + 1, by omega, by go_num, by rw [HNK.out, HC.out], HX.out⟩
            case measure => simp [intOf] <;> omega
          · have HC := Lib.hid (show (if 0 ≤ t ∧ (f < 0 ∨ t < f) then t else f) = f from if_neg (fun h => by omega))
            go_wp2_with fail
            go_roundw
            case rel => exact ⟨k + 1, by omega, by go_num, by rw [HNK.out, HC.out], HX.out⟩
            case measure => simp [intOf] <;> omega
      · have HC := Lib.hid (show (if 0 ≤ t ∧ (f < 0 ∨ t < f) then t else f) = f from if_neg (fun h => by omega))
        go_wp2_with fail
        go_roundw
        case rel => exact ⟨k + 1, by omega, by go_num, by rw [HNK.out, HC.out], HX.out⟩
        case measure => simp [intOf] <;> omega
    · have hE : k = xss.length := by omega
      subst hE
      by_cases hf : fndF p xss xss.length = -1
      · have HR := Lib.hid (HLV.out.trans (if_pos (by omega)))
        have hfb : (fndF p xss xss.length == -1) = true := by rw [hf]; rfl
        generalize fndF p xss xss.length = f at *
        go_wp2_with fail
        go_ret
        exact ⟨ret_int HR.out.symm, HX.out.below⟩
      · have hfb : (fndF p xss xss.length == -1) = false := by rw [beq_eq_false_iff_ne]; exact hf
        have HR := Lib.hid (HLV.out.trans (if_neg (by omega)))
        have HLF := Lib.hid (fun k hk => HLR.out (fndF p xss xss.length) (by omega) k hk)
        generalize hfd : fndF p xss xss.length = f at *
        clear HLV HLR HFR hfd
        go_wp2_with fail
        go_loopw [11, 42] (fun l i wr => ∃ k : Nat, k ≤ xss.length ∧ i = .int .i64 k ∧ l = .int .i64 (lngF n g p f xss k) ∧ Boxed w.heap.size n g w wr) (fun _ i _ => xss.length - (intOf i).toNat)
        case atStart => exact ⟨0, Nat.zero_le _, rfl, rfl, HX.out⟩
        case round =>
          obtain ⟨k, hk2, rfl, rfl, hx⟩ := hrel
          clear HX
          have HX := Lib.hid hx
          have hlr := HLF.out k hk2
          clear hx
          by_cases hlt : k < xss.length
          · obtain ⟨xs, hxk⟩ := get_some hlt
            obtain ⟨b, o, a3, c3, he, hbl, hcx0, hrx⟩ := lists_in HV.out hxk
            subst he
            have hcx : wr.cell? ⟨b, o + k, none⟩ = some (.slice a3 xs.length c3) := (HX.out.below.cell (p := ⟨b, o + k, none⟩) hbl).trans hcx0
            have HRX := Lib.hid hrx
            have HWK := Lib.hid (HW.out k xs hxk)
            have hat := atI_inside (t := f) HWK.out.2.2.2.1 HWK.out.2.1 (by omega)
            have hga := gapI_range (g := g) hat hp
            have HNK := Lib.hid (lngF_next (n := n) (g := g) (p := p) (t := f) hxk)
            have HG := Lib.hid (gapR_yes (n := n) (g := g) (a := atI xs f) (b := p) (by rw [HPL.out _ hat, HPL.out p hp]; rfl))
            have hi0 : 0 ≤ (k : Int) := by omega
            have hi1 : (k : Int) < xss.length := by omega
            have hf0 : 0 ≤ f := by omega
            clear hcx0 hxk hrx hbl
            generalize lngF n g p f xss k = l at *
            go_wp2_with fail
            refine wp_region_noPanic ?_
            have HX := Lib.hid (HX.out.next (below_drewN _ 1))
            refine wp_region_held_drew (S := fun w' => Boxed w.heap.size n g w w' ∧ w'.cell? ⟨w.heap.size, 0, none⟩ = some (.int .i64 n) ∧ w'.cell? ⟨w.heap.size, 1, none⟩ = some (.bool g)) (by kernel_rfl) (⟨HX.out, HX.out.c0, HX.out.c1⟩) (fun hHeld => ?_)
            refine wpAnyH_take (i := 0) (oi := _) (v := ?_) rfl (by kernel_rfl) (by kernel_rfl) (by kernel_rfl) (fun _ _ _ h => h) (Or.inl ⟨by rfl, ?_⟩) (by assumption) ?_
            rotate_left
            · (intro w hSw; (try dsimp only at hSw); (first | (go_simp; done) | (go_simp; with_reducible rfl)))
            simp only [Act.put, List.getElem_toArray, List.getElem_cons_succ, List.getElem_cons_zero, List.setIfInBounds_toArray, List.set_cons_zero, List.set_cons_succ]
            refine wpAnyH_take (i := 1) (oi := _) (v := ?_) rfl (by kernel_rfl) (by kernel_rfl) (by kernel_rfl) (fun _ _ _ h => h) (Or.inl ⟨by rfl, ?_⟩) (by assumption) ?_
            rotate_left
            · (intro w hSw; (try dsimp only at hSw); (first | (go_simp; done) | (go_simp; with_reducible rfl)))
            simp only [Act.put, List.getElem_toArray, List.getElem_cons_succ, List.getElem_cons_zero, List.setIfInBounds_toArray, List.set_cons_zero, List.set_cons_succ]
            refine wpAnyH_take (i := 2) (oi := _) (v := ?_) rfl (by kernel_rfl) (by kernel_rfl) (by kernel_rfl) (fun _ _ _ h => h) (Or.inl ⟨by rfl, ?_⟩) (by assumption) ?_
            rotate_left
            · (intro w hSw; (try dsimp only at hSw); (first | (go_simp; done) | (go_simp; with_reducible rfl)))
            simp only [Act.put, List.getElem_toArray, List.getElem_cons_succ, List.getElem_cons_zero, List.setIfInBounds_toArray, List.set_cons_zero, List.set_cons_succ]
            refine wpAnyH_take (i := 4) (oi := _) (v := ?_) rfl (by kernel_rfl) (by kernel_rfl) (by kernel_rfl) (fun _ _ _ h => h) (Or.inl ⟨by rfl, ?_⟩) (by assumption) ?_
            rotate_left
            · (intro w hSw; (try dsimp only at hSw); (first | (go_simp; done) | (go_simp; with_reducible rfl)))
            simp only [Act.put, List.getElem_toArray, List.getElem_cons_succ, List.getElem_cons_zero, List.setIfInBounds_toArray, List.set_cons_zero, List.set_cons_succ]
            refine wpAnyH_ready (rs := [3]) (by kernel_rfl) (by simp) ?_
            refine AllReadyH.cons rfl (fun K hK => ?_) AllReadyH.nil
            go_simp
            refine (HAT.out _ xs f _ (HRX.out.below HX.out.below) HWK.out.2.1 hf0).mono ?_
            rintro e w21 ⟨rfl, rfl⟩
            clear hHeld
            try go_wp2_with fail
            refine hK.out _ _ (⟨HX.out, HX.out.c0, HX.out.c1⟩) (fun hHeld => ?_)
            clear hK K
            refine wpAnyH_ready (rs := [5]) (by kernel_rfl) (by simp) ?_
            refine AllReadyH.cons rfl (fun K hK => ?_) AllReadyH.nil
            go_simp
            refine (HGA.out (atI xs f) _).mono ?_
            rw [HG.out]
            rintro e w22 ⟨rfl, hb⟩
            have HX := Lib.hid (HX.out.next hb)
            clear hb
            clear hHeld
            try go_wp2_with fail
            refine hK.out _ _ (⟨HX.out, HX.out.c0, HX.out.c1⟩) (fun hHeld => ?_)
            clear hK K
            refine wpAnyH_take (i := 6) (oi := _) (v := ?_) rfl (by kernel_rfl) (by kernel_rfl) (by kernel_rfl) (fun _ _ _ h => h) (Or.inl ⟨by rfl, ?_⟩) (by assumption) ?_
            rotate_left
            · (intro w hSw; (try dsimp only at hSw); (first | (go_simp; done) | (go_simp; with_reducible rfl)))
            simp only [Act.put, List.getElem_toArray, List.getElem_cons_succ, List.getElem_cons_zero, List.setIfInBounds_toArray, List.set_cons_zero, List.set_cons_succ]
            refine wpAnyH_take (i := 7) (oi := _) (v := ?_) rfl (by kernel_rfl) (by kernel_rfl) (by kernel_rfl) (fun _ _ _ h => h) (Or.inl ⟨by rfl, ?_⟩) (by assumption) ?_
            rotate_left
            · (intro w hSw; (try dsimp only at hSw); (first | (go_simp; done) | (go_simp; with_reducible rfl)))
            simp only [Act.put, List.getElem_toArray, List.getElem_cons_succ, List.getElem_cons_zero, List.setIfInBounds_toArray, List.set_cons_zero, List.set_cons_succ]
            refine wpAnyH_take (i := 8) (oi := _) (v := ?_) rfl (by kernel_rfl) (by kernel_rfl) (by kernel_rfl) (fun _ _ _ h => h) (Or.inl ⟨by rfl, ?_⟩) (by assumption) ?_
            rotate_left
            · (intro w hSw; (try dsimp only at hSw); (first | (go_simp; done) | (go_simp; with_reducible rfl)))
            simp only [Act.put, List.getElem_toArray, List.getElem_cons_succ, List.getElem_cons_zero, List.setIfInBounds_toArray, List.set_cons_zero, List.set_cons_succ]
            refine wpAnyH_take (i := 9) (oi := _) (v := ?_) rfl (by kernel_rfl) (by kernel_rfl) (by kernel_rfl) (fun _ _ _ h => h) (Or.inl ⟨by rfl, ?_⟩) (by assumption) ?_
            rotate_left
            · (intro w hSw; (try dsimp only at hSw); (first | (go_simp; done) | (go_simp; with_reducible rfl)))
            simp only [Act.put, List.getElem_toArray, List.getElem_cons_succ, List.getElem_cons_zero, List.setIfInBounds_toArray, List.set_cons_zero, List.set_cons_succ]
            refine wpAnyH_take (i := 10) (oi := _) (v := ?_) rfl (by kernel_rfl) (by kernel_rfl) (by kernel_rfl) (fun _ _ _ h => h) (Or.inl ⟨by rfl, ?_⟩) (by assumption) ?_
            rotate_left
            · (intro w hSw; (try dsimp only at hSw); (first | (go_simp; done) | (go_simp; with_reducible rfl)))
            simp only [Act.put, List.getElem_toArray, List.getElem_cons_succ, List.getElem_cons_zero, List.setIfInBounds_toArray, List.set_cons_zero, List.set_cons_succ]
            refine wpAnyH_done (by kernel_rfl) ?_ _
            refine NoPanic.normal ?_
            clear hHeld
            generalize gapI n g (atI xs f) p = gg at *
            rcases Int.lt_trichotomy l gg with h | h | h
            all_goals
              go_wp2_with fail
              go_roundw
              case rel => exact ⟨k + 1, by omega, by go_num, by rw [HNK.out] <;> congr 1 <;> omega, HX.out⟩
              case measure => simp [intOf] <;> omega
          · have hE : k = xss.length := by omega
            subst hE
            go_wp2_with fail
            go_ret
            exact ⟨ret_int HR.out.symm, HX.out.below⟩
end Go.Proofs.Ytijhbhjapcfddaa
