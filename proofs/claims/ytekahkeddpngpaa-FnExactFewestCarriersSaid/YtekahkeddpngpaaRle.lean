/-
  What is proved: the contract of the laws' comparison of carriers, the model's test of carriers, and AreCarriers of the model and of the program. Conditions: lists that read as carriers.
-/
import Derived.Test.YtekahkeddpngpaaRlb
import Derived.Test.YtekahkeddpngpaaRld
import Derived.Test.YtekahkeddpngpaaExa
namespace Go.Proofs.Ytekahkeddpngpaa
open Go.RowKit
set_option linter.unusedVariables false
set_option linter.unusedSimpArgs false

def EqRelC (n : Nat) (w : World) (i : Value) (wr : World) : Prop := ∃ k : Nat, k ≤ n ∧ i = .int .i64 k ∧ Below w.heap.size w wr
set_option maxHeartbeats 800000 in
set_option maxRecDepth 20000 in
theorem eqCS_yes (v1 v2 : Value) (ks : List Cr) (w : World) (h1 : ReadsC w v1 ks) (h2 : ReadsC w v2 ks) :
    Calls Try.prog 27 #[v1, v2] w fun e w' => e = .returned (.bool true) ∧ Below w.heap.size w w' := by
  have HE := Lib.hid (fun k w => eqC_any k w)
  have H1 := Lib.hid h1
  have H2 := Lib.hid h2
  obtain ⟨a1, c1, rfl, hc1, hm1, _⟩ := h1
  obtain ⟨a2, c2, rfl, hc2, _, _⟩ := h2
  unfold maxLen at hm1
  unfold crv at *
  go_enter Try.func27, Try.ntmps27
  go_wp2
  go_loopw [4, 5] (fun r i wr => r = .bool false ∧ EqRelC ks.length w i wr) (fun _ i _ => ks.length - (intOf i).toNat)
  case atStart => exact ⟨rfl, 0, Nat.zero_le _, rfl, Below.refl _ _⟩
  case round =>
    obtain ⟨rfl, j, hj, rfl, hb⟩ := hrel
    have HB := Lib.hid hb
    clear hb
    by_cases hlt : j < ks.length
    · obtain ⟨k, hxk⟩ := get_cr hlt
      obtain ⟨b1, o1, rfl, hbl1, g10, g11, g12⟩ := carriers_in H1.out hxk
      obtain ⟨b2, o2, rfl, hbl2, g20, g21, g22⟩ := carriers_in H2.out hxk
      have G10 := Lib.hid g10
      have G11 := Lib.hid g11
      have G12 := Lib.hid g12
      have G20 := Lib.hid g20
      have G21 := Lib.hid g21
      have G22 := Lib.hid g22
      have hi0 : 0 ≤ (j : Int) := by omega
      have hi1 : (j : Int) < ks.length := by omega
      clear hxk g10 g11 g12 g20 g21 g22
      go_wp2
      refine wp_region_noPanic ?_
      have HB := Lib.hid (HB.out.trans ((below_drewN _ 1).mono HB.out.size))
      refine wp_region_held_drew (S := fun w' => Below w.heap.size w w' ∧ w'.cell? ⟨b1, o1 + j * 3, none⟩ = some (.int .i64 k.s) ∧ w'.cell? ⟨b1, o1 + j * 3 + 1, none⟩ = some (.int .i64 k.r) ∧ w'.cell? ⟨b1, o1 + j * 3 + 2, none⟩ = some (.int .i64 k.f) ∧ w'.cell? ⟨b2, o2 + j * 3, none⟩ = some (.int .i64 k.s) ∧ w'.cell? ⟨b2, o2 + j * 3 + 1, none⟩ = some (.int .i64 k.r) ∧ w'.cell? ⟨b2, o2 + j * 3 + 2, none⟩ = some (.int .i64 k.f)) (by kernel_rfl) (⟨HB.out, (HB.out.cell (p := ⟨b1, o1 + j * 3, none⟩) hbl1).trans G10.out, (HB.out.cell (p := ⟨b1, o1 + j * 3 + 1, none⟩) hbl1).trans G11.out, (HB.out.cell (p := ⟨b1, o1 + j * 3 + 2, none⟩) hbl1).trans G12.out, (HB.out.cell (p := ⟨b2, o2 + j * 3, none⟩) hbl2).trans G20.out, (HB.out.cell (p := ⟨b2, o2 + j * 3 + 1, none⟩) hbl2).trans G21.out, (HB.out.cell (p := ⟨b2, o2 + j * 3 + 2, none⟩) hbl2).trans G22.out⟩) (fun hHeld => ?_)
      refine wpAnyH_take (i := 0) (oi := _) (v := ?_) rfl (by kernel_rfl) (by kernel_rfl) (by kernel_rfl) (fun _ _ _ h => h) (Or.inl ⟨by rfl, ?_⟩) (by assumption) ?_
      rotate_left
      · (intro w hSw; (try dsimp only at hSw); (first | (go_simp; done) | (go_simp; with_reducible rfl)))
      simp only [Act.put, List.getElem_toArray, List.getElem_cons_succ, List.getElem_cons_zero, List.setIfInBounds_toArray, List.set_cons_zero, List.set_cons_succ]
      refine wpAnyH_take (i := 1) (oi := _) (v := ?_) rfl (by kernel_rfl) (by kernel_rfl) (by kernel_rfl) (fun _ _ _ h => h) (Or.inl ⟨by rfl, ?_⟩) (by assumption) ?_
      rotate_left
      · (intro w hSw; (try dsimp only at hSw); (first | (go_simp; done) | (go_simp; with_reducible rfl)))
      simp only [Act.put, List.getElem_toArray, List.getElem_cons_succ, List.getElem_cons_zero, List.setIfInBounds_toArray, List.set_cons_zero, List.set_cons_succ]
      refine wpAnyH_take (i := 2) (oi := _) (v := ?_) rfl (by kernel_rfl) (by kernel_rfl) (by kernel_rfl) (fun _ _ _ h => h) (Or.inl ⟨by rfl, ?_⟩) (by assumption) ?_
      rotate_left
      · (intro w hSw; (try dsimp only at hSw); (first | (go_simp; done) | (go_simp; with_reducible rfl)))
      simp only [Act.put, List.getElem_toArray, List.getElem_cons_succ, List.getElem_cons_zero, List.setIfInBounds_toArray, List.set_cons_zero, List.set_cons_succ]
      refine wpAnyH_take (i := 3) (oi := _) (v := ?_) rfl (by kernel_rfl) (by kernel_rfl) (by kernel_rfl) (fun _ _ _ h => h) (Or.inl ⟨by rfl, ?_⟩) (by assumption) ?_
      rotate_left
      · (intro w hSw; (try dsimp only at hSw); (first | (go_simp; done) | (go_simp; with_reducible rfl)))
      simp only [Act.put, List.getElem_toArray, List.getElem_cons_succ, List.getElem_cons_zero, List.setIfInBounds_toArray, List.set_cons_zero, List.set_cons_succ]
      refine wpAnyH_take (i := 4) (oi := _) (v := ?_) rfl (by kernel_rfl) (by kernel_rfl) (by kernel_rfl) (fun _ _ _ h => h) (Or.inl ⟨by rfl, ?_⟩) (by assumption) ?_
      rotate_left
      · (intro w hSw; (try dsimp only at hSw); (first | (go_simp; done) | (go_simp; with_reducible rfl)))
      simp only [Act.put, List.getElem_toArray, List.getElem_cons_succ, List.getElem_cons_zero, List.setIfInBounds_toArray, List.set_cons_zero, List.set_cons_succ]
      refine wpAnyH_take (i := 5) (oi := _) (v := ?_) rfl (by kernel_rfl) (by kernel_rfl) (by kernel_rfl) (fun _ _ _ h => h) (Or.inl ⟨by rfl, ?_⟩) (by assumption) ?_
      rotate_left
      · (intro w hSw; (try dsimp only at hSw); (first | (go_simp; done) | (go_simp; with_reducible rfl)))
      simp only [Act.put, List.getElem_toArray, List.getElem_cons_succ, List.getElem_cons_zero, List.setIfInBounds_toArray, List.set_cons_zero, List.set_cons_succ]
      refine wpAnyH_take (i := 6) (oi := _) (v := ?_) rfl (by kernel_rfl) (by kernel_rfl) (by kernel_rfl) (fun _ _ _ h => h) (Or.inl ⟨by rfl, ?_⟩) (by assumption) ?_
      rotate_left
      · (intro w hSw; (try dsimp only at hSw); (first | (go_simp; done) | (go_simp; with_reducible rfl)))
      simp only [Act.put, List.getElem_toArray, List.getElem_cons_succ, List.getElem_cons_zero, List.setIfInBounds_toArray, List.set_cons_zero, List.set_cons_succ]
      refine wpAnyH_take (i := 7) (oi := _) (v := ?_) rfl (by kernel_rfl) (by kernel_rfl) (by kernel_rfl) (fun _ _ _ h => h) (Or.inl ⟨by rfl, ?_⟩) (by assumption) ?_
      rotate_left
      · (intro w hSw; (try dsimp only at hSw); (first | (go_simp; done) | (go_simp; with_reducible rfl)))
      simp only [Act.put, List.getElem_toArray, List.getElem_cons_succ, List.getElem_cons_zero, List.setIfInBounds_toArray, List.set_cons_zero, List.set_cons_succ]
      refine wpAnyH_ready (rs := [8]) (by kernel_rfl) (by simp) ?_
      refine AllReadyH.cons rfl (fun K hK => ?_) AllReadyH.nil
      go_simp
      refine (HE.out k _).mono ?_
      rintro e w21 ⟨rfl, hb⟩
      have HB := Lib.hid (HB.out.trans (hb.mono HB.out.size))
      clear hb
      clear hHeld
      try go_wp2_with fail
      refine hK.out _ _ (⟨HB.out, (HB.out.cell (p := ⟨b1, o1 + j * 3, none⟩) hbl1).trans G10.out, (HB.out.cell (p := ⟨b1, o1 + j * 3 + 1, none⟩) hbl1).trans G11.out, (HB.out.cell (p := ⟨b1, o1 + j * 3 + 2, none⟩) hbl1).trans G12.out, (HB.out.cell (p := ⟨b2, o2 + j * 3, none⟩) hbl2).trans G20.out, (HB.out.cell (p := ⟨b2, o2 + j * 3 + 1, none⟩) hbl2).trans G21.out, (HB.out.cell (p := ⟨b2, o2 + j * 3 + 2, none⟩) hbl2).trans G22.out⟩) (fun hHeld => ?_)
      clear hK K
      refine wpAnyH_take (i := 9) (oi := _) (v := ?_) rfl (by kernel_rfl) (by kernel_rfl) (by kernel_rfl) (fun _ _ _ h => h) (Or.inl ⟨by rfl, ?_⟩) (by assumption) ?_
      rotate_left
      · (intro w hSw; (try dsimp only at hSw); (first | (go_simp; done) | (go_simp; with_reducible rfl)))
      simp only [Act.put, List.getElem_toArray, List.getElem_cons_succ, List.getElem_cons_zero, List.setIfInBounds_toArray, List.set_cons_zero, List.set_cons_succ]
      refine wpAnyH_done (by kernel_rfl) ?_ _
      refine NoPanic.normal ?_
      clear hHeld
      go_wp2_with fail
      go_roundw
      case rel => exact ⟨rfl, j + 1, by omega, by go_num, HB.out⟩
      case measure => simp [intOf]; omega
    · go_wp2
      go_ret
      exact ⟨rfl, HB.out⟩
set_option maxHeartbeats 800000 in
set_option maxRecDepth 20000 in
theorem l7Carriers_any (n : Int) (g : Bool) (v : Value) (ks : List Cr) (w : World) (hv : ReadsC w v ks) :
    Calls Try.prog 65 #[rd n g, v] w fun e w' => e = .returned (.bool (csB n g ks)) ∧ Below w.heap.size w w' := by
  have HRO := Lib.hid (fun w => l2Road_any n g w)
  have HON := Lib.hid (fun c w => l7Carrier_any n g c w)
  have HX := Lib.hid (Boxed.first w n g 27)
  obtain ⟨y, c, rfl, hc, hm, hx⟩ := hv
  unfold maxLen at hm
  have HL := Lib.hid hx
  clear hx
  unfold crv rd at *
  go_enter Try.func65, Try.ntmps65
  go_wp2_with fail
  go_loopw [4, 5] (fun r i wr => r = .bool false ∧ Boxed w.heap.size n g w wr ∧ ∃ k : Nat, k ≤ ks.length ∧ i = .int .i64 k ∧ ∀ (j : Nat) x, j < k → ks[j]? = some x → crB n g x = true) (fun _ i _ => ks.length - (intOf i).toNat)
  case atStart => exact ⟨rfl, HX.out, 0, Nat.zero_le _, rfl, fun j x hj => by omega⟩
  case round =>
    obtain ⟨rfl, hx, k, hk, rfl, hpre⟩ := hrel
    clear HX
    have HX := Lib.hid hx
    have HP := Lib.hid hpre
    clear hx hpre
    by_cases hlt : k < ks.length
    · obtain ⟨x, hxk⟩ := get_cr hlt
      obtain ⟨b, o, rfl, hbl, h0, h1, h2⟩ := HL.out k x hxk
      have HK := Lib.hid hxk
      have G0 := Lib.hid h0
      have G1 := Lib.hid h1
      have G2 := Lib.hid h2
      have hi0 : 0 ≤ (k : Int) := by omega
      have hi1 : (k : Int) < ks.length := by omega
      clear hxk h0 h1 h2
      go_wp2_with fail
      refine wp_region_noPanic ?_
      have HX := Lib.hid (HX.out.next (below_drewN _ 1))
      refine wp_region_held_drew (S := fun w' => Boxed w.heap.size n g w w' ∧ w'.cell? ⟨w.heap.size, 0, none⟩ = some (.int .i64 n) ∧ w'.cell? ⟨w.heap.size, 1, none⟩ = some (.bool g) ∧ w'.cell? ⟨b, o + k * 3, none⟩ = some (.int .i64 x.s) ∧ w'.cell? ⟨b, o + k * 3 + 1, none⟩ = some (.int .i64 x.r) ∧ w'.cell? ⟨b, o + k * 3 + 2, none⟩ = some (.int .i64 x.f)) (by kernel_rfl) (⟨HX.out, HX.out.c0, HX.out.c1, (HX.out.below.cell (p := ⟨b, o + k * 3, none⟩) hbl).trans G0.out, (HX.out.below.cell (p := ⟨b, o + k * 3 + 1, none⟩) hbl).trans G1.out, (HX.out.below.cell (p := ⟨b, o + k * 3 + 2, none⟩) hbl).trans G2.out⟩) (fun hHeld => ?_)
      refine wpAnyH_take (i := 0) (oi := _) (v := ?_) rfl (by kernel_rfl) (by kernel_rfl) (by kernel_rfl) (fun _ _ _ h => h) (Or.inl ⟨by rfl, ?_⟩) (by assumption) ?_
      rotate_left
      · (intro w hSw; (try dsimp only at hSw); (first | (go_simp; done) | (go_simp; with_reducible rfl)))
      simp only [Act.put, List.getElem_toArray, List.getElem_cons_succ, List.getElem_cons_zero, List.setIfInBounds_toArray, List.set_cons_zero, List.set_cons_succ]
      refine wpAnyH_take (i := 1) (oi := _) (v := ?_) rfl (by kernel_rfl) (by kernel_rfl) (by kernel_rfl) (fun _ _ _ h => h) (Or.inl ⟨by rfl, ?_⟩) (by assumption) ?_
      rotate_left
      · (intro w hSw; (try dsimp only at hSw); (first | (go_simp; done) | (go_simp; with_reducible rfl)))
      simp only [Act.put, List.getElem_toArray, List.getElem_cons_succ, List.getElem_cons_zero, List.setIfInBounds_toArray, List.set_cons_zero, List.set_cons_succ]
      refine wpAnyH_take (i := 2) (oi := _) (v := ?_) rfl (by kernel_rfl) (by kernel_rfl) (by kernel_rfl) (fun _ _ _ h => h) (Or.inl ⟨by rfl, ?_⟩) (by assumption) ?_
      rotate_left
      · (intro w hSw; (try dsimp only at hSw); (first | (go_simp; done) | (go_simp; with_reducible rfl)))
      simp only [Act.put, List.getElem_toArray, List.getElem_cons_succ, List.getElem_cons_zero, List.setIfInBounds_toArray, List.set_cons_zero, List.set_cons_succ]
      refine wpAnyH_take (i := 3) (oi := _) (v := ?_) rfl (by kernel_rfl) (by kernel_rfl) (by kernel_rfl) (fun _ _ _ h => h) (Or.inl ⟨by rfl, ?_⟩) (by assumption) ?_
      rotate_left
      · (intro w hSw; (try dsimp only at hSw); (first | (go_simp; done) | (go_simp; with_reducible rfl)))
      simp only [Act.put, List.getElem_toArray, List.getElem_cons_succ, List.getElem_cons_zero, List.setIfInBounds_toArray, List.set_cons_zero, List.set_cons_succ]
      refine wpAnyH_take (i := 4) (oi := _) (v := ?_) rfl (by kernel_rfl) (by kernel_rfl) (by kernel_rfl) (fun _ _ _ h => h) (Or.inl ⟨by rfl, ?_⟩) (by assumption) ?_
      rotate_left
      · (intro w hSw; (try dsimp only at hSw); (first | (go_simp; done) | (go_simp; with_reducible rfl)))
      simp only [Act.put, List.getElem_toArray, List.getElem_cons_succ, List.getElem_cons_zero, List.setIfInBounds_toArray, List.set_cons_zero, List.set_cons_succ]
      refine wpAnyH_ready (rs := [5]) (by kernel_rfl) (by simp) ?_
      refine AllReadyH.cons rfl (fun K hK => ?_) AllReadyH.nil
      go_simp
      refine (HON.out x _).mono ?_
      rintro e w21 ⟨rfl, hb⟩
      have HX := Lib.hid (HX.out.next hb)
      clear hb
      clear hHeld
      try go_wp2_with fail
      refine hK.out _ _ (⟨HX.out, HX.out.c0, HX.out.c1, (HX.out.below.cell (p := ⟨b, o + k * 3, none⟩) hbl).trans G0.out, (HX.out.below.cell (p := ⟨b, o + k * 3 + 1, none⟩) hbl).trans G1.out, (HX.out.below.cell (p := ⟨b, o + k * 3 + 2, none⟩) hbl).trans G2.out⟩) (fun hHeld => ?_)
      clear hK K
      refine wpAnyH_take (i := 6) (oi := _) (v := ?_) rfl (by kernel_rfl) (by kernel_rfl) (by kernel_rfl) (fun _ _ _ h => h) (Or.inl ⟨by rfl, ?_⟩) (by assumption) ?_
      rotate_left
      · (intro w hSw; (try dsimp only at hSw); (first | (go_simp; done) | (go_simp; with_reducible rfl)))
      simp only [Act.put, List.getElem_toArray, List.getElem_cons_succ, List.getElem_cons_zero, List.setIfInBounds_toArray, List.set_cons_zero, List.set_cons_succ]
      refine wpAnyH_done (by kernel_rfl) ?_ _
      refine NoPanic.normal ?_
      clear hHeld
      cases hw : crB n g x
      · have HF := Lib.hid (csB_badM HK.out hw)
        clear hw
        go_wp2_with fail
        go_ret
        exact ⟨ret_bool HF.out.symm, HX.out.below⟩
      · have HW := Lib.hid hw
        clear hw
        go_wp2_with fail
        go_roundw
        case rel =>
          refine ⟨rfl, HX.out, k + 1, by omega, by go_num, fun j z hj hz => ?_⟩
          by_cases e : j = k
          · subst e
            rw [HK.out] at hz
            cases hz
            exact HW.out
          · exact HP.out j z (by omega) hz
        case measure => simp [intOf]; omega
    · have hke : k = ks.length := by omega
      have HPA := Lib.hid (fun (hs : straightB n g = true) (j : Nat) x hx => show onB n g x = true from by rw [← crB_on hs]; exact HP.out j x (by have := (List.getElem?_eq_some_iff.1 hx).1; omega) hx)
      have h0 := HX.out.c0
      have h1 := HX.out.c1
      go_wp2_with fail
      refine (HRO.out _).mono ?_
      rintro e w2 ⟨rfl, hb⟩
      have HX := Lib.hid (HX.out.next hb)
      have h1 := HX.out.c1
      clear hb h0
      cases hr : roadB n g
      · have HF := Lib.hid (csB_no (n := n) (g := g) (cs := ks) (fun h => by have := h.1; rw [straightB, hr] at this; cases this))
        go_wp2_with fail
        go_ret
        exact ⟨ret_bool HF.out.symm, HX.out.below⟩
      · have HR := Lib.hid hr
        clear hr
        cases g
        · have HSB := Lib.hid (show straightB n false = true by rw [straightB, HR.out]; rfl)
          by_cases hl : (ks.length : Int) ≤ 6
          · have HF := Lib.hid ((csB_iff n false ks).2 ⟨HSB.out, by omega, HPA.out HSB.out⟩)
            clear hke
            go_wp2_with fail
            go_ret
            exact ⟨ret_bool (by rw [HF.out] <;> first | rfl | (simp; omega)), HX.out.below⟩
          · have HF := Lib.hid (csB_no (n := n) (g := false) (cs := ks) (fun h => by omega))
            clear hke
            go_wp2_with fail
            go_ret
            exact ⟨ret_bool (by rw [HF.out] <;> first | rfl | (simp; omega)), HX.out.below⟩
        · have HF := Lib.hid (csB_no (n := n) (g := true) (cs := ks) (fun h => by have := h.1; simp [straightB] at this))
          go_wp2_with fail
          go_ret
          exact ⟨ret_bool HF.out.symm, HX.out.below⟩
end Go.Proofs.Ytekahkeddpngpaa
