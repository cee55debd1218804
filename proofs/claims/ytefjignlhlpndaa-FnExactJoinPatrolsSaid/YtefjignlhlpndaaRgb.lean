/-
  What is proved: the contracts of RingPatrol, the model's and the program's. Conditions: none.
-/
import Derived.Test.YtefjignlhlpndaaRga
namespace Go.Proofs.Ytefjignlhlpndaa
open Go.RowKit
set_option linter.unusedVariables false
set_option linter.unusedSimpArgs false

/-- what RingPatrol answers -/
def ringR (n : Int) (g : Bool) (k : Int) : List (List Int) × Bool := if numB n g k = true ∧ g = true then (tabF (ringRow n k) k.toNat, true) else ([], false)
theorem ringR_no {n : Int} {g : Bool} {k : Int} (h : ¬ (numB n g k = true ∧ g = true)) : ringR n g k = ([], false) := by unfold ringR; rw [if_neg h]
theorem ringR_yes {n k : Int} (h : numB n true k = true) : ringR n true k = (tabF (ringRow n k) k.toNat, true) := by unfold ringR; rw [if_pos ⟨h, rfl⟩]
theorem ringR_size (n : Int) (g : Bool) (k : Int) : sizeT (ringR n g k).1 ≤ 1048576 := by
  by_cases h : numB n g k = true ∧ g = true
  · have hk := (numB_iff n g k).1 h.1
    have hr := (roadB_iff n g).1 hk.1
    unfold ringR
    rw [if_pos h]
    refine Nat.le_trans (size_le (L := 24) (K := 6) (fun j xs hx => ?_) (by rw [tabF_len]; omega)) (by omega)
    have hj : j < k.toNat := by have := (List.getElem?_eq_some_iff.1 hx).1; rw [tabF_len] at this; exact this
    rw [tabF_at _ _ _ hj] at hx
    cases hx
    unfold ringRow
    rw [rowF_len]
    omega
  · rw [ringR_no h]
    simp [sizeT, lenTo]
theorem no_table {base : Nat} {n : Int} {g : Bool} {w wr : World} {R : List (List Int) × Bool} (hR : R = ([], false)) (h : Boxed base n g w wr) (hs : base = w.heap.size) : OwnsTB base R.1 R.2 w (.returned (.tuple #[.slice (some ⟨wr.heap.size, 0, none⟩) 0 0, .bool false])) (wr.alloc (.cells #[] 43)) :=
  ownsTB_R hR (ownT_new wr base wr.heap.size rfl (Nat.le_of_lt h.size)) (h.next (below_new _ _)).below
set_option maxHeartbeats 800000 in
theorem spec_RingPatrol (n : Int) (g : Bool) (k : Int) (w : World) :
    Calls Try.prog 23 #[rd n g, .int .i64 k] w (OwnsTB w.heap.size (ringR n g k).1 (ringR n g k).2 w) := by
  have HNU := Lib.hid (fun w => l5Number_any n g k w)
  have HX := Lib.hid (Boxed.first w n g 28)
  cases hnu : numB n g k
  · have HR := Lib.hid (ringR_no (n := n) (g := g) (k := k) (fun h => by rw [hnu] at h; cases h.1))
    have HNX := Lib.hid hnu
    clear hnu
    unfold rd at *
    go_enter Try.func23, Try.ntmps23
    go_wp2_with fail
    refine (HNU.out _).mono ?_
    rintro e w1 ⟨rfl, hb⟩
    have HX := Lib.hid (HX.out.next hb)
    clear hb
    rw [HNX.out]
    go_wp2_with fail
    go_ret2
    exact no_table HR.out HX.out rfl
  · cases g
    · have HR := Lib.hid (ringR_no (n := n) (g := false) (k := k) (fun h => by cases h.2))
      have HNX := Lib.hid hnu
      clear hnu
      unfold rd at *
      go_enter Try.func23, Try.ntmps23
      go_wp2_with fail
      refine (HNU.out _).mono ?_
      rintro e w1 ⟨rfl, hb⟩
      have HX := Lib.hid (HX.out.next hb)
      have hx1 := HX.out.c1
      clear hb
      rw [HNX.out]
      go_wp2_with fail
      go_ret2
      exact no_table HR.out HX.out rfl
    · have HR := Lib.hid (ringR_yes hnu)
      have HNX := Lib.hid hnu
      have hk := (numB_iff n true k).1 hnu
      have hr := (roadB_iff n true).1 hk.1
      have HLR := Lib.hid (fun w => l5Ring_any n k w ⟨hr.1, hr.2.1⟩ hk.2)
      clear hnu hk hr
      unfold rd at *
      go_enter Try.func23, Try.ntmps23
      go_wp2_with fail
      refine (HNU.out _).mono ?_
      rintro e w1 ⟨rfl, hb⟩
      have HX := Lib.hid (HX.out.next hb)
      have hx0 := HX.out.c0
      have hx1 := HX.out.c1
      clear hb
      rw [HNX.out]
      go_wp2_with fail
      refine (HLR.out _).mono ?_
      rintro e w2 ⟨v, us, rfl, ho, hb⟩
      have HO := Lib.hid (ho.widen (Nat.le_of_lt HX.out.size) (Nat.le_refl _))
      have HX := Lib.hid (HX.out.next hb)
      clear ho hb
      go_wp2_with fail
      go_ret2
      exact ownsTB_R HR.out HO.out HX.out.below
set_option maxHeartbeats 1600000 in
set_option maxRecDepth 20000 in
theorem impl_RingPatrol (n : Int) (g : Bool) (k : Int) (w : World) :
    Calls Try.prog 24 #[rd n g, .int .i64 k] w (OwnsTB w.heap.size (ringR n g k).1 (ringR n g k).2 w) := by
  obtain ⟨i1, ji, jz0, jz1, jz2⟩ := info_parts infoTab
  have HRO := Lib.hid (fun w => isRoad_any n g w)
  have HGY := Lib.hid (fun k w h => guards_yes k w h)
  have HGN := Lib.hid (fun k w h => guards_no k w h)
  have HX0 := Lib.hid (Boxed.first w n g 28)
  have HT0 := Lib.hid (ownT_new (w.alloc (.cells #[.int .i64 n, .bool g] 28)) (w.heap.size + 1) (w.heap.size + 1) (by simp) (Nat.le_refl _))
  have HX := Lib.hid (HX0.out.next (below_new _ (.cells #[] 43)))
  clear HX0
  unfold rd at *
  go_enter Try.func24, Try.ntmps24
  go_wp2_with fail
  refine (HRO.out _).mono ?_
  rintro e w1 ⟨rfl, hb⟩
  have HX := Lib.hid (HX.out.next hb)
  have HT := Lib.hid (HT0.out.below hb)
  clear HT0
  have hx0 := HX.out.c0
  have hx1 := HX.out.c1
  clear hb
  cases hr : roadB n g
  · have HR := Lib.hid (ringR_no (n := n) (g := g) (k := k) (fun h => by have h2 := ((numB_iff n g k).1 h.1).1; rw [hr] at h2; cases h2))
    clear hr
    go_wp2_with fail
    go_ret2
    exact ownsTB_R HR.out (HT.out.widen (Nat.le_succ _) (Nat.le_refl _)) HX.out.below
  · cases g
    · have HR := Lib.hid (ringR_no (n := n) (g := false) (k := k) (fun h => by cases h.2))
      clear hr
      go_wp2_with fail
      go_ret2
      exact ownsTB_R HR.out (HT.out.widen (Nat.le_succ _) (Nat.le_refl _)) HX.out.below
    · by_cases hk : 1 ≤ k ∧ k ≤ 6
      · have hnu := (numB_iff n true k).2 ⟨hr, hk⟩
        obtain ⟨hn2, hn24, hn3⟩ := (roadB_iff n true).1 hr
        have HR := Lib.hid (ringR_yes hnu)
        have HK := Lib.hid hk
        obtain ⟨hk1, hk6⟩ := hk
        obtain ⟨K, hKK⟩ : ∃ K : Nat, k = K := ⟨k.toNat, by omega⟩
        have HKK := Lib.hid hKK
        have HST := Lib.hid (fun (i : Nat) (h : (i : Int) < k) => start_in (n := n) (k := k) (by omega) hk1 h)
        have HSM := Lib.hid (fun (i : Nat) (h : i ≤ 6) => start_mul (n := n) (by omega) h)
        have HSW := Lib.hid (fun (i : Nat) w (h : (i : Int) < k) => show Calls Try.prog 58 #[rd n true, .int .i64 (startI n k i)] w (OwnsB w.heap.size (ringRow n k i) true w) from sweep_ring n (startI n k i) w ((placeB_iff n true _).2 ⟨hr, start_in (n := n) (k := k) (by omega) hk1 h⟩))
        have HRL := Lib.hid (fun (i : Nat) => show (ringRow n k i).length = n.toNat from by unfold ringRow; rw [rowF_len])
        clear hnu hr hKK
        go_wp2_with fail
        refine (HGY.out _ _ HK.out).mono ?_
        rintro e w2 ⟨rfl, rfl⟩
        go_wp2_with fail
        clear hx0 hx1
        go_loopw [6, 26] (fun z i wr => TabRel n true (ringRow n k) K w.heap.size w z i wr) (fun _ i _ => K - (intOf i).toNat)
        case atStart => exact ⟨HX.out, 0, Nat.zero_le _, rfl, [], HT.out.lt⟩
        case round =>
          obtain ⟨hx, q, hq, rfl, us, ho⟩ := hrel
          clear HX HT
          have HX := Lib.hid hx
          have HO := Lib.hid ho
          clear hx ho
          have hx0 := HX.out.c0
          have hx1 := HX.out.c1
          by_cases hlt : q < K
          · have hltk : (q : Int) < k := by rw [HKK.out]; omega
            have hq6 : q ≤ 6 := by have := HKK.out; omega
            have hsm := HSM.out q hq6
            have hsm0 := hsm.1
            have hk0 : ¬ k = 0 := by omega
            have hw1 : IntKind.i64.wrap ((q : Int) * n) = (q : Int) * n := IntWalk.i64_in _ (by omega)
            have hdiv : ((q : Int) * n).tdiv k = startI n k q := by rw [Int.tdiv_eq_ediv_of_nonneg hsm.1]; rfl
            have hdiv2 : (q : Int) * n / k = startI n k q := rfl
            have hst := HST.out q hltk
            have hw4 : IntKind.i64.wrap (startI n k q) = startI n k q := IntWalk.i64_in _ (by omega)
            have HW := Lib.hid (And.intro hw1 (And.intro hdiv (And.intro hdiv2 hw4)))
            have HSQ := Lib.hid (fun w => HSW.out q w hltk)
            have HLQ := Lib.hid hlt
            clear hw1 hdiv hdiv2 hw4 hst hsm hlt
            go_wp2_with fail
            have hw1 := HW.out.1
            have hdiv := HW.out.2.1
            have hdiv2 := HW.out.2.2.1
            have hw4 := HW.out.2.2.2
            refine wp_region_noPanic ?_
            have HX := Lib.hid (HX.out.next (below_drewN _ 1))
            have HO := Lib.hid (HO.out.below (below_drewN _ 1))
            refine wp_region_held_drew (S := fun w' => Boxed w.heap.size n true w w' ∧ w'.cell? ⟨w.heap.size, 0, none⟩ = some (.int .i64 n) ∧ w'.cell? ⟨w.heap.size, 1, none⟩ = some (.bool true)) (by kernel_rfl) (⟨HX.out, HX.out.c0, HX.out.c1⟩) (fun hHeld => ?_)
            refine wpAnyH_take (i := 0) (oi := _) (v := ?_) rfl (by kernel_rfl) (by kernel_rfl) (by kernel_rfl) (fun _ _ _ h => h) (Or.inl ⟨by rfl, ?_⟩) (by assumption) ?_
            rotate_left
            · (intro w hSw; (try dsimp only at hSw); (first | (go_simp; done) | (go_simp; with_reducible rfl)))
            simp only [Act.put, List.getElem_toArray, List.getElem_cons_succ, List.getElem_cons_zero, List.setIfInBounds_toArray, List.set_cons_zero, List.set_cons_succ]
            refine wpAnyH_take (i := 1) (oi := _) (v := ?_) rfl (by kernel_rfl) (by kernel_rfl) (by kernel_rfl) (fun _ _ _ h => h) (Or.inl ⟨by rfl, ?_⟩) (by assumption) ?_
            rotate_left
            · (intro w hSw; (try dsimp only at hSw); (first | (go_simp; done) | (go_simp; with_reducible rfl)))
            simp only [Act.put, List.getElem_toArray, List.getElem_cons_succ, List.getElem_cons_zero, List.setIfInBounds_toArray, List.set_cons_zero, List.set_cons_succ]
            refine wpAnyH_take (i := 2) (oi := _) (v := ?_) rfl (by kernel_rfl) (by kernel_rfl) (by kernel_rfl) (fun _ _ _ h => h) (Or.inl ⟨by rfl, ?_⟩) (by assumption) ?_
            rotate_left
            · (intro w hSw; (try dsimp only at hSw); (first | (go_simp; done) | (go_simp; with_reducible rfl)))
            simp only [Act.put, List.getElem_toArray, List.getElem_cons_succ, List.getElem_cons_zero, List.setIfInBounds_toArray, List.set_cons_zero, List.set_cons_succ]
            refine wpAnyH_take (i := 3) (oi := _) (v := ?_) rfl (by kernel_rfl) (by kernel_rfl) (by kernel_rfl) (fun _ _ _ h => h) (Or.inl ⟨by rfl, ?_⟩) (by assumption) ?_
            rotate_left
            · (intro w hSw; (try dsimp only at hSw); (first | (go_simp; done) | (go_simp; with_reducible rfl)))
            simp only [Act.put, List.getElem_toArray, List.getElem_cons_succ, List.getElem_cons_zero, List.setIfInBounds_toArray, List.set_cons_zero, List.set_cons_succ]
            refine wpAnyH_take (i := 4) (oi := _) (v := ?_) rfl (by kernel_rfl) (by kernel_rfl) (by kernel_rfl) (fun _ _ _ h => h) (Or.inl ⟨by rfl, ?_⟩) (by assumption) ?_
            rotate_left
            · (intro w hSw; (try dsimp only at hSw); (first | (go_simp; done) | (go_simp; with_reducible rfl)))
            simp only [Act.put, List.getElem_toArray, List.getElem_cons_succ, List.getElem_cons_zero, List.setIfInBounds_toArray, List.set_cons_zero, List.set_cons_succ]
            refine wpAnyH_take (i := 5) (oi := _) (v := ?_) rfl (by kernel_rfl) (by kernel_rfl) (by kernel_rfl) (fun _ _ _ h => h) (Or.inl ⟨by rfl, ?_⟩) (by assumption) ?_
            rotate_left
            · (intro w hSw; (try dsimp only at hSw); (first | (go_simp; done) | (go_simp; with_reducible rfl)))
            simp only [Act.put, List.getElem_toArray, List.getElem_cons_succ, List.getElem_cons_zero, List.setIfInBounds_toArray, List.set_cons_zero, List.set_cons_succ]
            refine wpAnyH_take (i := 6) (oi := _) (v := ?_) rfl (by kernel_rfl) (by kernel_rfl) (by kernel_rfl) (fun _ _ _ h => h) (Or.inl ⟨by rfl, ?_⟩) (by assumption) ?_
            rotate_left
            · (intro w hSw; (try dsimp only at hSw); (first | (go_simp; done) | (go_simp; with_reducible rfl)))
            simp only [Act.put, List.getElem_toArray, List.getElem_cons_succ, List.getElem_cons_zero, List.setIfInBounds_toArray, List.set_cons_zero, List.set_cons_succ]
            refine wpAnyH_ready (rs := [7]) (by kernel_rfl) (by simp) ?_
            refine AllReadyH.cons rfl (fun K hK => ?_) AllReadyH.nil
            go_simp
            have HZB := Lib.hid (Nat.succ_le_of_lt HX.out.size)
            refine (HSQ.out _).mono ?_
            rintro e w21 ⟨v4, rfl, ho, hb⟩
            have HX := Lib.hid (HX.out.next hb)
            have HO := Lib.hid (HO.out.below hb)
            have HO4 := Lib.hid ho
            clear hb ho
            clear hHeld
            try go_wp2_with fail
            refine hK.out _ _ (⟨HX.out, HX.out.c0, HX.out.c1⟩) (fun hHeld => ?_)
            clear hK K
            refine wpAnyH_take (i := 8) (oi := _) (v := ?_) rfl (by kernel_rfl) (by kernel_rfl) (by kernel_rfl) (fun _ _ _ h => h) (Or.inl ⟨by rfl, ?_⟩) (by assumption) ?_
            rotate_left
            · (intro w hSw; (try dsimp only at hSw); (first | (go_simp; done) | (go_simp; with_reducible rfl)))
            simp only [Act.put, List.getElem_toArray, List.getElem_cons_succ, List.getElem_cons_zero, List.setIfInBounds_toArray, List.set_cons_zero, List.set_cons_succ]
            refine wpAnyH_take (i := 9) (oi := _) (v := ?_) rfl (by kernel_rfl) (by kernel_rfl) (by kernel_rfl) (fun _ _ _ h => h) (Or.inl ⟨by rfl, ?_⟩) (by assumption) ?_
            rotate_left
            · (intro w hSw; (try dsimp only at hSw); (first | (go_simp; done) | (go_simp; with_reducible rfl)))
            simp only [Act.put, List.getElem_toArray, List.getElem_cons_succ, List.getElem_cons_zero, List.setIfInBounds_toArray, List.set_cons_zero, List.set_cons_succ]
            refine wpAnyH_take (i := 10) (oi := _) (v := ?_) rfl (by kernel_rfl) (by kernel_rfl) (by kernel_rfl) (fun _ _ _ h => h) (Or.inl ⟨by rfl, ?_⟩) (by assumption) ?_
            rotate_left
            · (intro w hSw; (try dsimp only at hSw); (first | (go_simp; done) | (go_simp; with_reducible rfl)))
            simp only [Act.put, List.getElem_toArray, List.getElem_cons_succ, List.getElem_cons_zero, List.setIfInBounds_toArray, List.set_cons_zero, List.set_cons_succ]
            refine wpAnyH_take (i := 11) (oi := _) (v := ?_) rfl (by kernel_rfl) (by kernel_rfl) (by kernel_rfl) (fun _ _ _ h => h) (Or.inl ⟨by rfl, ?_⟩) (by assumption) ?_
            rotate_left
            · (intro w hSw; (try dsimp only at hSw); (first | (go_simp; done) | (go_simp; with_reducible rfl)))
            simp only [Act.put, List.getElem_toArray, List.getElem_cons_succ, List.getElem_cons_zero, List.setIfInBounds_toArray, List.set_cons_zero, List.set_cons_succ]
            refine wpAnyH_take (i := 12) (oi := _) (v := ?_) rfl (by kernel_rfl) (by kernel_rfl) (by kernel_rfl) (fun _ _ _ h => h) (Or.inl ⟨by rfl, ?_⟩) (by assumption) ?_
            rotate_left
            · (intro w hSw; (try dsimp only at hSw); (first | (go_simp; done) | (go_simp; with_reducible rfl)))
            simp only [Act.put, List.getElem_toArray, List.getElem_cons_succ, List.getElem_cons_zero, List.setIfInBounds_toArray, List.set_cons_zero, List.set_cons_succ]
            refine wpAnyH_done (by kernel_rfl) ?_ _
            refine NoPanic.normal ?_
            clear hHeld
            clear hw1 hdiv hdiv2 hw4
            have HTP := Lib.hid (show World.ownsRow w21 (w.heap.size + 1) 43 1 _ q us from by have h := HO.out.top; rw [tabF_len] at h; exact h)
            have HOR := Lib.hid HO4.out
            have hsz1 := HX.out.size
            obtain ⟨ra, rc, hrs, _⟩ := row_shape HOR.out
            subst hrs
            go_wp2_with (at_builtin; refine wpList_append_own _ rfl _ _ 24 rfl (w.heap.size + 1) 43 i1 (.slice none 0 0) 1 24 Try.underlying24 ji jz0 jz1 jz2 rfl (by decide) _ _ _ rfl (HTP.out.alloc _) ⟨w21.heap.size, 0, none⟩ 1 1 [.slice ra _ rc] rfl rfl (cell_one_new _ _ _) ?c2 ?c3 ?c4 ?c5 ?_)
            case c2 => first | rfl | (intro u hu; simp at hu; subst hu; rfl)
            case c3 => unfold maxLen; omega
            case c4 => omega
            case c5 => first | omega | (simp; omega)
            intro v' w9 hown' hgrow _
            have HN9 := Lib.hid (tab_next (t := 43) (m := K) (i := .int .i64 ((q + 1 : Nat) : Int)) HX.out HO.out (Nat.le_refl _) HZB.out (show World.ownsRow w21 wr.heap.size 3 1 _ _ _ from HOR.out) HLQ.out rfl hown' hgrow)
            clear hgrow hown'
            go_wp2_with fail
            go_roundw
            case rel => exact HN9.out
            case measure => have := HLQ.out; simp [intOf]; omega
          · have hke : q = K := by omega
            subst hke
            have hkn : ¬ (q : Int) < k := by rw [HKK.out]; omega
            go_wp2_with fail
            go_ret2
            exact ownsTB_R HR.out (by rw [show k.toNat = q by rw [HKK.out]; rfl]; exact HO.out.widen (Nat.le_succ _) (Nat.le_refl _)) HX.out.below
      · have HR := Lib.hid (ringR_no (n := n) (g := true) (k := k) (fun h => hk ((numB_iff n true k).1 h.1).2))
        clear hr
        go_wp2_with fail
        refine (HGN.out _ _ hk).mono ?_
        rintro e w2 ⟨rfl, rfl⟩
        go_wp2_with fail
        go_ret2
        exact ownsTB_R HR.out (HT.out.widen (Nat.le_succ _) (Nat.le_refl _)) HX.out.below
end Go.Proofs.Ytefjignlhlpndaa
