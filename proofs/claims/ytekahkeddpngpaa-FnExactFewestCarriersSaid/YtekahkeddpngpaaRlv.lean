/-
  What is proved: the model's table of the greatest reaches of all sets of carriers, and its GreatestReach. Conditions: lists that read as carriers.
-/
import Derived.Test.YtekahkeddpngpaaRlu
import Derived.Test.YtekahkeddpngpaaFn9
namespace Go.Proofs.Ytekahkeddpngpaa
open Go.RowKit
set_option linter.unusedVariables false
set_option linter.unusedSimpArgs false

theorem bit_model : ∀ k : Fin 64, ∀ q : Fin 6, (bits .and .i64 (((k.val : Nat) : Int) / (2 : Int) ^ q.val) 1 == 1) = k.val.testBit q.val := by decide +kernel
theorem bit_yes {k q : Nat} (hk : k < 64) (hq : q < 6) (h : k.testBit q = true) : (bits .and .i64 ((k : Int) / (2 : Int) ^ q) 1 == 1) = true := (bit_model ⟨k, hk⟩ ⟨q, hq⟩).trans h
theorem bit_no {k q : Nat} (hk : k < 64) (hq : q < 6) (h : k.testBit q = false) : (bits .and .i64 ((k : Int) / (2 : Int) ^ q) 1 == 1) = false := (bit_model ⟨k, hk⟩ ⟨q, hq⟩).trans h
theorem pow_wrap {m : Nat} (hm : m ≤ 6) : wrap64 ((2 : Int) ^ m) = ((2 ^ m : Nat) : Int) := by
  have h : m = 0 ∨ m = 1 ∨ m = 2 ∨ m = 3 ∨ m = 4 ∨ m = 5 ∨ m = 6 := by omega
  rcases h with rfl | rfl | rfl | rfl | rfl | rfl | rfl <;> decide +kernel
theorem pow_wrap2 {m : Nat} (hm : m ≤ 6) : IntKind.i64.wrap ((2 : Int) ^ m) = ((2 ^ m : Nat) : Int) := by
  have h : m = 0 ∨ m = 1 ∨ m = 2 ∨ m = 3 ∨ m = 4 ∨ m = 5 ∨ m = 6 := by omega
  rcases h with rfl | rfl | rfl | rfl | rfl | rfl | rfl <;> decide +kernel
theorem pow_wrap3 {m P : Nat} (hm : m ≤ 6) (h : 2 ^ m = P) : wrap64 ((2 : Int) ^ m) = (P : Int) := by rw [← h]; exact pow_wrap hm
theorem pow_wrap4 {m P : Nat} (hm : m ≤ 6) (h : 2 ^ m = P) : IntKind.i64.wrap ((2 : Int) ^ m) = (P : Int) := by rw [← h]; exact pow_wrap2 hm
theorem pow_le {m : Nat} (hm : m ≤ 6) : 2 ^ m ≤ 64 := Nat.pow_le_pow_right (by omega) hm
theorem tab_snoc (n : Int) (cs : List Cr) (a : Int) (k : Nat) : (tabF n cs a k).map iv ++ [Value.int .i64 (bestF n cs a (tabF n cs a k) k cs.length)] = (tabF n cs a (k + 1)).map iv := by
  rw [tabF, List.map_append]
  rfl
def TbRel (n : Int) (cs : List Cr) (a : Int) (base : Nat) (w : World) (o i : Value) (wr : World) : Prop :=
  Boxed base n false w wr ∧ ∃ k : Nat, k ≤ 2 ^ cs.length ∧ i = .int .i64 k ∧ wr.ownsRow (base + 1) 3 1 o k ((tabF n cs a k).map iv)
def TbRel2 (n : Int) (cs : List Cr) (a : Int) (T : List Int) (k : Nat) (o : Value) (base : Nat) (w : World) (z i : Value) (wr : World) : Prop :=
  Boxed base n false w wr ∧ wr.ownsRow (base + 1) 3 1 o k (T.map iv) ∧ ∃ q : Nat, q ≤ cs.length ∧ i = .int .i64 q ∧ z = .int .i64 (bestF n cs a T k q)
set_option maxHeartbeats 3200000 in
set_option maxRecDepth 20000 in
theorem l7Table_any (n : Int) (v : Value) (cs : List Cr) (a : Int) (w : World) (hv : ReadsC w v cs) (hc : WkL n cs) (ha : 0 ≤ a ∧ a < n) :
    Calls Try.prog 47 #[rd n false, v, .int .i64 a] w fun e w' => ∃ u, e = .returned u ∧ w'.ownsRow w.heap.size 3 1 u (2 ^ cs.length) ((tabF n cs a (2 ^ cs.length)).map iv) ∧ Below w.heap.size w w' := by
  obtain ⟨i0, ji, jz0, jz1, jz2⟩ := info_parts infoInt
  have HRE := Lib.hid (fun v2 os x w h1 h2 ho hx => l7Reach_any n v v2 cs os x w h1 h2 hc ho hx)
  have HMO := Lib.hid (fun a b w => l1Most_any a b w)
  have HC := Lib.hid hc
  have HA := Lib.hid ha
  have H1 := Lib.hid hv
  have hl6 := hc.2.1
  have hp6 := pow_le hc.2.1
  have HPW := Lib.hid (pow_wrap hc.2.1)
  have HX := Lib.hid ((Boxed.first w n false 27).next (below_new _ (.cells #[] 3)))
  have HO := Lib.hid (made_at (w.alloc (.cells #[.int .i64 n, .bool false] 27)) (w.heap.size + 1) (w.heap.size + 1) (by simp) (Nat.le_refl _))
  obtain ⟨y1, c1, hv1, _, hm1, _⟩ := hv
  subst hv1
  clear hm1 hc ha
  unfold rd at *
  have HML := Lib.hid (rfl : cs.length = cs.length)
  generalize hpp : 2 ^ cs.length = PP at *
  have HPP := Lib.hid hpp
  have hsh := HPW.out
  clear hpp
  go_enter Try.func47, Try.ntmps47
  go_wp2_with fail
  go_loopw [7, 8] (fun o i wr => TbRel n cs a w.heap.size w o i wr) (fun _ i _ => PP - (intOf i).toNat)
  case atStart => exact ⟨HX.out, 0, Nat.zero_le _, rfl, HO.out⟩
  case round =>
    obtain ⟨hx, k, hk, rfl, ho⟩ := hrel
    clear HX HO
    rw [HPP.out] at hk
    have HX := Lib.hid hx
    have HO := Lib.hid ho
    clear hx ho
    by_cases hlt : (k : Int) < PP
    · have hkp : k < PP := by omega
      have HTL := Lib.hid (tabF_len n cs a k)
      have HTR := Lib.hid (tabF_range HC.out HA.out k (by rw [HPP.out]; exact hk))
      have HSN := Lib.hid (tab_snoc n cs a k)
      generalize htt : tabF n cs a (k + 1) = T1 at *
      generalize hTT : tabF n cs a k = T at *
      have HT1 := Lib.hid htt
      have HTT := Lib.hid hTT
      clear htt hTT
      obtain ⟨oa, oc, hos, hog⟩ := owns_shape HO.out
      subst hos
      have HOG := Lib.hid hog
      clear hog
      go_wp2_with fail
      try rw [hsh]
      go_loopw [9, 10] (fun z i wr => TbRel2 n cs a T k (.slice oa k oc) w.heap.size w z i wr) (fun _ i _ => cs.length - (intOf i).toNat)
      case atStart => exact ⟨HX.out, HO.out, 0, Nat.zero_le _, rfl, rfl⟩
      case round =>
        obtain ⟨hx, ho, q, hq, rfl, rfl⟩ := hrel
        clear hsh
        clear HX HO
        have HX := Lib.hid hx
        have HO := Lib.hid ho
        clear hx ho
        have HBR := Lib.hid (bestF_range (code := k) HC.out HA.out HTR.out (by rw [HTL.out]; exact Nat.le_refl _) (by rw [HPP.out]; exact hkp) q)
        by_cases hq2 : q < cs.length
        · have hq3 : (q : Int) < cs.length := by omega
          cases hbt : k.testBit q
          · have hb1 := bit_no (by omega) (by omega) hbt
            have HNX := Lib.hid (bestF_no (n := n) (cs := cs) (a := a) (T := T) hbt)
            clear hbt
            go_wp2_with fail
            go_roundw
            case rel => exact ⟨HX.out, HO.out, q + 1, by omega, by go_num, by rw [HNX.out]⟩
            case measure => simp [intOf]; omega
          · have hb1 := bit_yes (by omega) (by omega) hbt
            have HNX := Lib.hid (bestF_yes (n := n) (cs := cs) (a := a) (T := T) hbt)
            have hge : 2 ^ q ≤ k := Nat.ge_two_pow_of_testBit hbt
            have hps : 0 < 2 ^ q := Nat.two_pow_pos q
            have HOR := Lib.hid (ordC_one hq2)
            obtain ⟨kc, hkc⟩ := get_cr hq2
            have HKC := Lib.hid hkc
            have HCA := Lib.hid (crAt_some hkc)
            obtain ⟨P, hP⟩ : ∃ P : Nat, 2 ^ q = P := ⟨_, rfl⟩
            rw [hP] at hge hps HNX
            have hsq := pow_wrap3 (m := q) (by omega) hP
            have hsq2 := pow_wrap4 (m := q) (by omega) hP
            clear hP
            obtain ⟨x, hx⟩ := get_some (xs := T) (k := k - P) (by rw [HTL.out]; omega)
            have HGX := Lib.hid (show T.getD (k - P) 0 = x by simp [List.getD, hx])
            have HXR := Lib.hid (HTR.out _ x hx)
            have HXX := Lib.hid hx
            obtain ⟨g, rfl, hg1, hg2⟩ := HOG.out (by omega)
            have hi0 : 0 ≤ (k : Int) - P := by omega
            have hi1 : (k : Int) - P < k := by omega
            have hi2 : ((k : Int) - P).toNat = k - P := by omega
            have hq0 : 0 ≤ (q : Int) := by omega
            have HCE := Lib.hid (fun (W : World) (h : W.ownsRow (w.heap.size + 1) 3 1 (.slice (some ⟨g, 0, none⟩) k oc) k (T.map iv)) => show W.cell? ⟨g, k - P, none⟩ = some (.int .i64 x) from (h.cellAt (k - P) (by omega)).trans (by rw [List.getElem?_map, HXX.out]; rfl))
            have hwr : IntKind.i64.wrap ((k : Int) - P) = (k : Int) - P := IntWalk.i64_in _ (by omega)
            clear hbt hkc hx hg1 hg2
            obtain ⟨z, hz⟩ : ∃ z : Int, bestF n cs a T k q = z := ⟨_, rfl⟩
            rw [hz] at HNX ⊢
            clear hz
            go_wp2_with fail
            refine wp_region_noPanic ?_
            have HX := Lib.hid (HX.out.next (below_drewN _ 1))
            have HO := Lib.hid (owns_below HO.out (below_drewN _ 1))
            refine wp_region_held_drew (S := fun w' => Boxed w.heap.size n false w w' ∧ w'.cell? ⟨w.heap.size, 0, none⟩ = some (.int .i64 n) ∧ w'.cell? ⟨w.heap.size, 1, none⟩ = some (.bool false) ∧ w'.cell? ⟨g, k - P, none⟩ = some (.int .i64 x)) (by kernel_rfl) (⟨HX.out, HX.out.c0, HX.out.c1, HCE.out _ HO.out⟩) (fun hHeld => ?_)
            refine wpAnyH_take (i := 0) (oi := _) (v := ?_) rfl (by kernel_rfl) (by kernel_rfl) (by kernel_rfl) (fun _ _ _ h => h) (Or.inl ⟨by rfl, ?_⟩) (by assumption) ?_
            rotate_left
            · (intro w hSw; (try dsimp only at hSw); (first | (go_simp; done) | (go_simp; with_reducible rfl)))
            simp only [Act.put, List.getElem_toArray, List.getElem_cons_succ, List.getElem_cons_zero, List.setIfInBounds_toArray, List.set_cons_zero, List.set_cons_succ]
            refine wpAnyH_take (i := 1) (oi := _) (v := ?_) rfl (by kernel_rfl) (by kernel_rfl) (by kernel_rfl) (fun _ _ _ h => h) (Or.inl ⟨by rfl, ?_⟩) (by assumption) ?_
            rotate_left
            · (intro w hSw; (try dsimp only at hSw); (first | (go_simp; done) | (go_simp; with_reducible rfl)))
            simp only [Act.put, List.getElem_toArray, List.getElem_cons_succ, List.getElem_cons_zero, List.setIfInBounds_toArray, List.set_cons_zero, List.set_cons_succ]
            refine wpAnyH_take (i := 2) (oi := _) (v := ?_) rfl (by kernel_rfl) (by kernel_rfl) (by kernel_rfl) (fun _ _ _ h => h) (Or.inl ⟨by rfl, ?_⟩) (by assumption) ?_
            rotate_left
            · (intro w hSw; (try dsimp only at hSw); (first | (go_simp; done) | (go_simp; with_reducible rfl)))
            simp only [Act.put, List.getElem_toArray, List.getElem_cons_succ, List.getElem_cons_zero, List.setIfInBounds_toArray, List.set_cons_zero, List.set_cons_succ]
            refine wpAnyH_take (i := 3) (oi := _) (v := ?_) rfl (by kernel_rfl) (by kernel_rfl) (by kernel_rfl) (fun _ _ _ h => h) (Or.inl ⟨by rfl, ?_⟩) (by assumption) ?_
            rotate_left
            · (intro w hSw; (try dsimp only at hSw); (first | (go_simp; done) | (go_simp; with_reducible rfl)))
            simp only [Act.put, List.getElem_toArray, List.getElem_cons_succ, List.getElem_cons_zero, List.setIfInBounds_toArray, List.set_cons_zero, List.set_cons_succ]
            refine wpAnyH_take (i := 5) (oi := _) (v := ?_) rfl (by kernel_rfl) (by kernel_rfl) (by kernel_rfl) (fun _ _ _ h => h) (Or.inl ⟨by rfl, ?_⟩) (by assumption) ?_
            rotate_left
            · (intro w hSw; (try dsimp only at hSw); (first | (go_simp; done) | (go_simp; with_reducible rfl)))
            simp only [Act.put, List.getElem_toArray, List.getElem_cons_succ, List.getElem_cons_zero, List.setIfInBounds_toArray, List.set_cons_zero, List.set_cons_succ]
            refine wpAnyH_take (i := 6) (oi := _) (v := ?_) rfl (by kernel_rfl) (by kernel_rfl) (by kernel_rfl) (fun _ _ _ h => h) (Or.inl ⟨by rfl, ?_⟩) (by assumption) ?_
            rotate_left
            · (intro w hSw; (try dsimp only at hSw); (first | (go_simp; done) | (go_simp; with_reducible rfl)))
            simp only [Act.put, List.getElem_toArray, List.getElem_cons_succ, List.getElem_cons_zero, List.setIfInBounds_toArray, List.set_cons_zero, List.set_cons_succ]
            refine wpAnyH_take (i := 7) (oi := _) (v := ?_) rfl (by kernel_rfl) (by kernel_rfl) (by kernel_rfl) (fun _ _ _ h => h) (Or.inl ⟨by rfl, ?_⟩) (by assumption) ?_
            rotate_left
            · (intro w hSw; (try dsimp only at hSw); (first | (go_simp; done) | (go_simp; with_reducible rfl)))
            simp only [Act.put, List.getElem_toArray, List.getElem_cons_succ, List.getElem_cons_zero, List.setIfInBounds_toArray, List.set_cons_zero, List.set_cons_succ]
            refine wpAnyH_take (i := 8) (oi := _) (v := .int .i64 (P : Int)) rfl (by kernel_rfl) (by kernel_rfl) (by kernel_rfl) (fun _ _ _ h => h) (Or.inl ⟨by rfl, ?_⟩) (by assumption) ?_
            · (intro w hSw; (try dsimp only at hSw); go_simp; first | done | exact hsq2 | simp [hsq2])
            simp only [Act.put, List.getElem_toArray, List.getElem_cons_succ, List.getElem_cons_zero, List.setIfInBounds_toArray, List.set_cons_zero, List.set_cons_succ]
            refine wpAnyH_take (i := 9) (oi := _) (v := .int .i64 ((k : Int) - P)) rfl (by kernel_rfl) (by kernel_rfl) (by kernel_rfl) (fun _ _ _ h => h) (Or.inl ⟨by rfl, ?_⟩) (by assumption) ?_
            · (intro w hSw; (try dsimp only at hSw); go_simp; first | done | exact hwr | simp [hwr])
            simp only [Act.put, List.getElem_toArray, List.getElem_cons_succ, List.getElem_cons_zero, List.setIfInBounds_toArray, List.set_cons_zero, List.set_cons_succ]
            refine wpAnyH_take (i := 10) (oi := _) (v := .pointer (some ⟨g, k - P, none⟩)) rfl (by kernel_rfl) (by kernel_rfl) (by kernel_rfl) (fun _ _ _ h => h) (Or.inl ⟨by rfl, ?_⟩) (by assumption) ?_
            · (intro w hSw; (try dsimp only at hSw); go_simp; first | done | simp [hi0, hi1, hi2])
            simp only [Act.put, List.getElem_toArray, List.getElem_cons_succ, List.getElem_cons_zero, List.setIfInBounds_toArray, List.set_cons_zero, List.set_cons_succ]
            refine wpAnyH_take (i := 11) (oi := _) (v := ?_) rfl (by kernel_rfl) (by kernel_rfl) (by kernel_rfl) (fun _ _ _ h => h) (Or.inl ⟨by rfl, ?_⟩) (by assumption) ?_
            rotate_left
            · (intro w hSw; (try dsimp only at hSw); (first | (go_simp; done) | (go_simp; with_reducible rfl)))
            simp only [Act.put, List.getElem_toArray, List.getElem_cons_succ, List.getElem_cons_zero, List.setIfInBounds_toArray, List.set_cons_zero, List.set_cons_succ]
            refine wpAnyH_ready (rs := [4]) (by kernel_rfl) (by simp) ?_
            refine AllReadyH.cons rfl (fun K hK => ?_) AllReadyH.nil
            go_simp
            have HO := Lib.hid (owns_below HO.out (below_new _ (.cells #[.int .i64 (q : Int)] 3)))
            have HIN := Lib.hid (ints_one_at (w := wr.drewN 1) (a := (q : Int)) (t := 3) wr.heap.size rfl)
            refine hK.out _ _ (⟨(hHeld.1.next (below_new _ _)), (hHeld.1.next (below_new _ _)).c0, (hHeld.1.next (below_new _ _)).c1, HCE.out _ HO.out⟩) (fun hHeld => ?_)
            clear hK K
            have HX := Lib.hid hHeld.1
            refine wpAnyH_ready (rs := [12]) (by kernel_rfl) (by simp) ?_
            refine AllReadyH.cons rfl (fun K hK => ?_) AllReadyH.nil
            go_simp
            refine (HRE.out _ [(q : Int)] x _ (H1.out.below HX.out.below) HIN.out HOR.out HXR.out).mono ?_
            rw [rchF_one, HCA.out]
            rintro e w22 ⟨rfl, hb⟩
            have HX := Lib.hid (HX.out.next hb)
            have HO := Lib.hid (owns_below HO.out hb)
            clear hb
            clear hHeld
            try go_wp2_with fail
            refine hK.out _ _ (⟨HX.out, HX.out.c0, HX.out.c1, HCE.out _ HO.out⟩) (fun hHeld => ?_)
            clear hK K
            refine wpAnyH_ready (rs := [13]) (by kernel_rfl) (by simp) ?_
            refine AllReadyH.cons rfl (fun K hK => ?_) AllReadyH.nil
            go_simp
            refine (HMO.out _ _ _).mono ?_
            rintro e w23 ⟨rfl, rfl⟩
            clear hHeld
            try go_wp2_with fail
            refine hK.out _ _ (⟨HX.out, HX.out.c0, HX.out.c1, HCE.out _ HO.out⟩) (fun hHeld => ?_)
            clear hK K
            refine wpAnyH_take (i := 14) (oi := _) (v := ?_) rfl (by kernel_rfl) (by kernel_rfl) (by kernel_rfl) (fun _ _ _ h => h) (Or.inl ⟨by rfl, ?_⟩) (by assumption) ?_
            rotate_left
            · (intro w hSw; (try dsimp only at hSw); (first | (go_simp; done) | (go_simp; with_reducible rfl)))
            simp only [Act.put, List.getElem_toArray, List.getElem_cons_succ, List.getElem_cons_zero, List.setIfInBounds_toArray, List.set_cons_zero, List.set_cons_succ]
            refine wpAnyH_done (by kernel_rfl) ?_ _
            refine NoPanic.normal ?_
            clear hHeld
            go_wp2_with fail
            go_roundw
            case rel => exact ⟨HX.out, HO.out, q + 1, by omega, by go_num, by rw [HNX.out, HGX.out, HCA.out]⟩
            case measure => simp [intOf]; omega
        · have hqe : q = cs.length := by omega
          subst hqe
          go_wp2_with (at_builtin; refine wpList_append_own _ rfl _ _ 24 rfl (w.heap.size + 1) 3 i0 (.int .i64 0) 1 8 Try.underlying24 ji jz0 jz1 jz2 rfl (by decide) _ _ _ rfl (HO.out.alloc _) ⟨_, 0, none⟩ 1 1 [.int .i64 (bestF n cs a T k cs.length)] rfl rfl (cell_one_new _ _ _) ?c2 ?c3 ?c4 ?c5 ?_)
          case c2 => first | rfl | (intro u hu; simp at hu; subst hu; rfl)
          case c3 => unfold maxLen; omega
          case c4 => omega
          case c5 => have := HX.out.size; simp; omega
          intro v9 w9 hown9 hgrow9 _
          have HX9 := Lib.hid ((HX.out.next (below_new _ _)).nextAt (m := w.heap.size + 1) (by omega) (below_grown hgrow9 (fun b hb => (owns_block HO.out b hb).1) (by have := HX.out.size; simp; omega)))
          have HO9 := Lib.hid hown9
          clear hown9 hgrow9
          go_wp2_with fail
          go_roundw
          case rel => exact ⟨HX9.out, k + 1, by rw [HPP.out]; omega, by go_num, by rw [HT1.out, ← HSN.out]; exact HO9.out⟩
          case measure => simp [intOf]; omega
    · have hke : k = PP := by omega
      subst hke
      go_wp2_with fail
      go_ret
      exact ⟨_, rfl, owns_lower HO.out (by omega), HX.out.below⟩
end Go.Proofs.Ytekahkeddpngpaa
