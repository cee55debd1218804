/-
  What is proved: ExtraRange of the model. Conditions: lists that read as carriers.
-/
import Derived.Test.YtgchodielkodeaaRlz
namespace Go.Proofs.Ytgchodielkodeaa
open Go.RowKit
set_option linter.unusedVariables false
set_option linter.unusedSimpArgs false

theorem extP_yes {n : Int} {cs : List Cr} {a b : Int} {e : Nat} (h : b ≤ grF n (moreL cs e) a) : extP n cs a b e = true := decide_eq_true h
theorem extP_no {n : Int} {cs : List Cr} {a b : Int} {e : Nat} (h : ¬ b ≤ grF n (moreL cs e) a) : extP n cs a b e = false := decide_eq_false h
theorem fewer {p : Nat → Bool} {e : Nat} (h : ∀ t, t < e → p t = false) (h2 : p e = false) : ∀ t, t < e + 1 → p t = false := by
  intro t ht
  by_cases hte : t = e
  · subst hte
    exact h2
  · exact h t (by omega)
def ErRel (n : Int) (cs : List Cr) (a b : Int) (base : Nat) (w : World) (r s i : Value) (wr : World) : Prop :=
  r = .int .i64 0 ∧ s = .bool false ∧ Boxed base n false w wr ∧ ∃ e : Nat, e ≤ 49 ∧ i = .int .i64 e ∧ ∀ t, t < e → extP n cs a b t = false
set_option maxHeartbeats 1600000 in
set_option maxRecDepth 20000 in
theorem spec_ExtraRange (n : Int) (g : Bool) (v : Value) (cs : List Cr) (a b : Int) (w : World) (hv : ReadsC w v cs) :
    Calls Try.prog 52 #[rd n g, v, .int .i64 a, .int .i64 b] w fun e w' => e = .returned (.tuple #[.int .i64 (extraR n g cs a b).1, .bool (extraR n g cs a b).2]) ∧ Below w.heap.size w w' := by
  have HA := Lib.hid (fun w hv => l7Asks_any n g v cs a b w hv)
  have HT := Lib.hid (fun v cs w hv hc ha => l7Table_any n v cs a w hv hc ha)
  have HM := Lib.hid (fun e w hv hl hr he => l7More_any v cs e w hv hl hr he)
  have H1 := Lib.hid hv
  have HX := Lib.hid (Boxed.first w n g 28)
  have HNO := Lib.hid (fun h => extraR_no (n := n) (g := g) (cs := cs) (a := a) (b := b) h)
  have HYE := Lib.hid (fun h => extraR_yes (n := n) (g := g) (cs := cs) (a := a) (b := b) h)
  have HLI := Lib.hid (fun m h1 h2 h3 => lst_is (p := extP n cs a b) (k := 49) (m := m) h1 h2 h3)
  clear hv
  unfold rd at *
  go_enter Try.func52, Try.ntmps52
  go_wp2_with fail
  refine (HA.out _ (H1.out.below HX.out.below)).mono ?_
  rintro e w1 ⟨rfl, hb⟩
  replace HX := Lib.hid (HX.out.next hb)
  clear hb
  have h0 := HX.out.c0
  have h1 := HX.out.c1
  cases hk : askB n g cs a b
  · have HE := Lib.hid (HNO.out (by rw [hk]; rfl))
    clear hk
    go_wp2_with fail
    go_ret2
    exact ⟨ret_int_bool (by rw [HE.out]) (by rw [HE.out]), HX.out.below⟩
  · have HK := Lib.hid hk
    have HOK := Lib.hid (ask_ok hk)
    have HCB := Lib.hid ((askB_iff n g cs a b).1 hk).1
    have hg := (ask_ok hk).1
    subst hg
    have hl6 := HOK.out.2.1.2.1
    clear hk h0 h1
    go_wp2_with fail
    go_loopw [8, 9, 10] (fun r s i wr => ErRel n cs a b w.heap.size w r s i wr) (fun _ _ i _ => 49 - (intOf i).toNat)
    case atStart => exact ⟨rfl, rfl, HX.out, 0, Nat.zero_le _, rfl, fun t ht => by omega⟩
    case round =>
      obtain ⟨rfl, rfl, hx, e, he, rfl, hno⟩ := hrel
      clear HX
      have HX := Lib.hid hx
      have HNE := Lib.hid hno
      clear hx hno
      by_cases hlt : (e : Int) ≤ 48
      · have he8 : e ≤ 48 := by omega
        have HWM := Lib.hid (moreL_wk HCB.out he8)
        have HRG := Lib.hid (fun (j : Nat) c (hj : cs[j]? = some c) => show 0 ≤ c.r ∧ c.r ≤ 1000 from by have := csB_ok HCB.out hj; exact ⟨this.r0, by have := this.r48; omega⟩)
        have HGA := Lib.hid (by have := grF_at (n := n) (cs := moreL cs e) (a := a); rwa [moreL_len] at this : (tabF n (moreL cs e) a (2 ^ cs.length))[2 ^ cs.length - 1]? = some (grF n (moreL cs e) a))
        go_wp2_with fail
        refine wp_region_noPanic ?_
        have HX := Lib.hid (HX.out.next (below_drewN _ 1))
        refine wp_region_held_drew (S := fun w' => Boxed w.heap.size n false w w' ∧ w'.cell? ⟨w.heap.size, 0, none⟩ = some (.int .i64 n) ∧ w'.cell? ⟨w.heap.size, 1, none⟩ = some (.bool false)) (by kernel_rfl) (⟨HX.out, HX.out.c0, HX.out.c1⟩) (fun hHeld => ?_)
        refine wpAnyH_take (i := 0) (oi := _) (v := ?_) rfl (by kernel_rfl) (by kernel_rfl) (by kernel_rfl) (fun _ _ _ h => h) (Or.inl ⟨by rfl, ?_⟩) (by assumption) ?_
        rotate_left
        · (intro w hSw; (try dsimp only at hSw); (first | (go_simp; done) | (go_simp; with_reducible rfl)))
        simp only [Act.put, List.getElem_toArray, List.getElem_cons_succ, List.getElem_cons_zero, List.setIfInBounds_toArray, List.set_cons_zero, List.set_cons_succ]
        refine wpAnyH_take (i := 1) (oi := _) (v := ?_) rfl (by kernel_rfl) (by kernel_rfl) (by kernel_rfl) (fun _ _ _ h => h) (Or.inl ⟨by rfl, ?_⟩) (by assumption) ?_
        rotate_left
        · (intro w hSw; (try dsimp only at hSw); (first | (go_simp; done) | (go_simp; with_reducible rfl)))
        simp only [Act.put, List.getElem_toArray, List.getElem_cons_succ, List.getElem_cons_zero, List.setIfInBounds_toArray, List.set_cons_zero, List.set_cons_succ]
        refine wpAnyH_take (i := 2) (oi := _) (v := ?_) rfl (by kernel_rfl) (by kernel_rfl) (by kernel_rfl) (fun _ _ _ h => h) (Or.inl ⟨by rfl, ?_⟩) (by assumption) ?_
        rotate_left
        · (intro w hSw; (try dsimp only at hSw); (first | (go_simp; done) | (go_simp; with_reducible rfl)))
        simp only [Act.put, List.getElem_toArray, List.getElem_cons_succ, List.getElem_cons_zero, List.setIfInBounds_toArray, List.set_cons_zero, List.set_cons_succ]
        refine wpAnyH_take (i := 4) (oi := _) (v := ?_) rfl (by kernel_rfl) (by kernel_rfl) (by kernel_rfl) (fun _ _ _ h => h) (Or.inl ⟨by rfl, ?_⟩) (by assumption) ?_
        rotate_left
        · (intro w hSw; (try dsimp only at hSw); (first | (go_simp; done) | (go_simp; with_reducible rfl)))
        simp only [Act.put, List.getElem_toArray, List.getElem_cons_succ, List.getElem_cons_zero, List.setIfInBounds_toArray, List.set_cons_zero, List.set_cons_succ]
        refine wpAnyH_ready (rs := [3]) (by kernel_rfl) (by simp) ?_
        refine AllReadyH.cons rfl (fun K hK => ?_) AllReadyH.nil
        go_simp
        refine (HM.out e _ (H1.out.below HX.out.below) hl6 HRG.out (by omega)).mono ?_
        rintro en w21 ⟨um, rfl, hrm, hb⟩
        have HX := Lib.hid (HX.out.next hb)
        have HRM := Lib.hid hrm
        clear hrm hb
        clear hHeld
        try go_wp2_with fail
        refine hK.out _ _ (⟨HX.out, HX.out.c0, HX.out.c1⟩) (fun hHeld => ?_)
        clear hK K
        refine wpAnyH_ready (rs := [5]) (by kernel_rfl) (by simp) ?_
        refine AllReadyH.cons rfl (fun K hK => ?_) AllReadyH.nil
        go_simp
        refine (HT.out um (moreL cs e) _ HRM.out HWM.out ⟨HOK.out.2.2.1, by have h9 := HOK.out.2.2.2.1; have h8 := HOK.out.2.2.2.2; omega⟩).mono ?_
        rintro en w22 ⟨ut, rfl, hot, hb⟩
        have HX := Lib.hid (HX.out.next hb)
        have HOT := Lib.hid (by rw [moreL_len] at hot; exact hot)
        clear hot hb
        clear hHeld
        try go_wp2_with fail
        refine hK.out _ _ (⟨HX.out, HX.out.c0, HX.out.c1⟩) (fun hHeld => ?_)
        clear hK K
        refine wpAnyH_take (i := 6) (oi := _) (v := ?_) rfl (by kernel_rfl) (by kernel_rfl) (by kernel_rfl) (fun _ _ _ h => h) (Or.inl ⟨by rfl, ?_⟩) (by assumption) ?_
        rotate_left
        · (intro w hSw; (try dsimp only at hSw); (first | (go_simp; done) | (go_simp; with_reducible rfl)))
        simp only [Act.put, List.getElem_toArray, List.getElem_cons_succ, List.getElem_cons_zero, List.setIfInBounds_toArray, List.set_cons_zero, List.set_cons_succ]
        refine wpAnyH_done (by kernel_rfl) ?_ _
        refine NoPanic.normal ?_
        clear hHeld
        obtain ⟨PP, hPP⟩ : ∃ P : Nat, 2 ^ cs.length = P := ⟨_, rfl⟩
        have hp1 : 1 ≤ PP := by have := Nat.two_pow_pos cs.length; omega
        have hp6 : PP ≤ 64 := by have := pow_le hl6; omega
        rw [hPP] at HOT HGA
        clear hPP
        obtain ⟨ua, uc, hus, hug⟩ := owns_shape HOT.out
        obtain ⟨gb, rfl, _, _⟩ := hug (by omega)
        subst hus
        have hcell := (HOT.out.cellAt (PP - 1) (by omega)).trans (show ((tabF n (moreL cs e) a PP).map iv)[PP - 1]? = some (.int .i64 (grF n (moreL cs e) a)) by rw [List.getElem?_map, HGA.out]; rfl)
        have hi0 : 0 ≤ (PP : Int) - 1 := by omega
        have hi1 : (PP : Int) - 1 < PP := by omega
        have hi2 : ((PP : Int) - 1).toNat = PP - 1 := by omega
        clear hug
        by_cases hge : b ≤ grF n (moreL cs e) a
        · have HPE := Lib.hid (extP_yes hge)
          have HL := Lib.hid (HLI.out e (by omega) HNE.out (fun _ => HPE.out))
          have HE := Lib.hid (HYE.out (by rw [HK.out, HL.out]; simp; exact he8))
          go_wp2_with fail
          go_ret2
          exact ⟨ret_int_bool (by rw [HE.out, HL.out]) (by rw [HE.out]), HX.out.below⟩
        · have HPE := Lib.hid (extP_no hge)
          go_wp2_with fail
          go_roundw
          case rel => exact ⟨rfl, rfl, HX.out, e + 1, by omega, by go_num, fewer HNE.out HPE.out⟩
          case measure => simp [intOf]; omega
      · have hee : e = 49 := by omega
        subst hee
        have HL := Lib.hid (HLI.out 49 (Nat.le_refl _) HNE.out (fun h => absurd h (Nat.lt_irrefl _)))
        have HE := Lib.hid (HNO.out (by rw [HL.out]; simp))
        go_wp2_with fail
        go_ret2
        exact ⟨ret_int_bool (by rw [HE.out]) (by rw [HE.out]), HX.out.below⟩
end Go.Proofs.Ytgchodielkodeaa
