/-
  What is proved: impl.SweepWalk on a ring, and the model's ring patrol. Conditions: a valid ring, a place of it.
-/
import Derived.Test.YtefjignlhlpndaaTbc
import Derived.Test.YtefjignlhlpndaaFn13
import Derived.Test.YtefjignlhlpndaaPtg
namespace Go.Proofs.Ytefjignlhlpndaa
open Go.RowKit
set_option linter.unusedVariables false
set_option linter.unusedSimpArgs false

/-- the places of a ring from a on -/
def ringF (n a : Int) (t : Nat) : Int := (a + t) % n
theorem ringF_pos (n a : Int) : posC n true a 1 = ringF n a := by
  funext t
  unfold posC ringF
  simp
theorem ringF_rise {n a : Int} {t : Nat} (ha : 0 ≤ a ∧ a < n) (ht : (t : Int) ≤ n) : ringF n a t = if a + t < n then a + t else a + t - n := by
  rw [← ringF_pos]
  exact posUp ha ht
theorem ints_one_k {w : World} {a : Int} {t : TypeId} (k : Nat) (hk : w.heap.size = k) : ReadsI (w.alloc (.cells #[.int .i64 a] t)) (.slice (some ⟨k, 0, none⟩) 1 1) [a] := by
  subst hk
  refine ⟨_, 1, rfl, Nat.le_refl _, by simp [maxLen], fun j x hj => ?_⟩
  match j, hj with
  | 0, hj =>
    cases hj
    exact ⟨_, 0, rfl, by simp, by rw [cell_new]; rfl⟩
theorem one_inside {n a : Int} (h : 0 ≤ a ∧ a < n) : Inside n [a] := by
  intro j x hj
  match j, hj with
  | 0, hj => cases hj; exact h
set_option maxHeartbeats 1600000 in
set_option maxRecDepth 20000 in
theorem sweep_ring (n a : Int) (w : World) (hpa : placeB n true a = true) :
    Calls Try.prog 58 #[rd n true, .int .i64 a] w (OwnsB w.heap.size (rowF (ringF n a) n.toNat) true w) := by
  have HP := Lib.hid (fun v w hv => show Calls Try.prog 75 #[rd n true, v] w fun e w' => e = .returned (.bool true) ∧ Below w.heap.size w w' from (arePlaces_any n true v [a] w hv).mono fun _ _ ⟨b, he, hi, hb⟩ => ⟨by rw [he, hi.2 ⟨((placeB_iff n true a).1 hpa).1, one_inside ((placeB_iff n true a).1 hpa).2⟩], hb⟩)
  have HX := Lib.hid (Boxed.first w n true 28)
  have h3 := (placeB_iff n true a).1 hpa
  have h5 := (roadB_iff n true).1 h3.1
  have hn := And.intro h5.1 h5.2.1
  have ha := h3.2
  have HBF := Lib.hid (fun w => before_any n true a w hn ha)
  have hrow : rowF (ringF n a) n.toNat = wlk (posC n true a 1) (n - 1).toNat := by
    rw [ringF_pos]
    unfold rowF wlk
    rw [show n.toNat = (n - 1).toNat + 1 by omega]
  have HG1 := Lib.hid (fun w => hrow ▸ walkTo_up n true a (beforeI n true a) (posC n true a 1) (n - 1).toNat w hn (by omega) (posC_zero ha) (fun k _ => posC_range hn.1) (fun k hk => by rw [posUp ha (by omega)]; unfold beforeI; simp only [true_and]; split <;> split <;> omega) (by rw [posUp ha (by omega)]; unfold beforeI; simp only [true_and]; split <;> split <;> omega) (fun k hk => by rw [posUp ha (by omega), posUp ha (by omega)]; unfold afterI; simp only [true_and]; push_cast; split <;> split <;> split <;> omega))
  clear hpa h3 h5 hn ha hrow
  unfold rd at *
  go_enter Try.func58, Try.ntmps58
  go_wp2_with fail
  refine (HP.out _ _ (ints_one_k _ (by simp))).mono ?_
  rintro e w1 ⟨rfl, hb⟩
  have HX := Lib.hid ((HX.out.next (below_new _ _)).next hb)
  have h0 := HX.out.c0
  have h1 := HX.out.c1
  clear hb
  go_wp2_with fail
  refine wp_region_noPanic ?_
  have HX := Lib.hid (HX.out.next (below_drewN _ 1))
  refine wp_region_held_drew (S := fun w' => Boxed w.heap.size n true w w' ∧ w'.cell? ⟨w.heap.size, 0, none⟩ = some (.int .i64 n) ∧ w'.cell? ⟨w.heap.size, 1, none⟩ = some (.bool true)) (by kernel_rfl) (⟨HX.out, HX.out.c0, HX.out.c1⟩) (fun hHeld => ?_)
  refine wpAnyH_take (i := 0) (oi := _) (v := ?_) rfl (by kernel_rfl) (by kernel_rfl) (by kernel_rfl) (fun _ _ _ h => h) (Or.inl ⟨by rfl, ?_⟩) (by assumption) ?_
  rotate_left
  · (intro w hSw; (try dsimp only at hSw); (first | (go_simp; done) | (go_simp; with_reducible rfl)))
  simp only [Act.put, List.getElem_toArray, List.getElem_cons_succ, List.getElem_cons_zero, List.setIfInBounds_toArray, List.set_cons_zero, List.set_cons_succ]
  refine wpAnyH_take (i := 1) (oi := _) (v := ?_) rfl (by kernel_rfl) (by kernel_rfl) (by kernel_rfl) (fun _ _ _ h => h) (Or.inl ⟨by rfl, ?_⟩) (by assumption) ?_
  rotate_left
  · (intro w hSw; (try dsimp only at hSw); (first | (go_simp; done) | (go_simp; with_reducible rfl)))
  simp only [Act.put, List.getElem_toArray, List.getElem_cons_succ, List.getElem_cons_zero, List.setIfInBounds_toArray, List.set_cons_zero, List.set_cons_succ]
  refine wpAnyH_take (i := 2) (oi := _) (v := ?_) rfl (by kernel_rfl) (by kernel_rfl) (by kernel_rfl) (fun _ _ _ h => h) (Or.inl ⟨by rfl, ?_⟩) (by assumption) ?_
  rotate_left
  · (intro w hSw; (try dsimp only at hSw); (first | (go_simp; done) | (go_simp; with_reducible rfl)))
  simp only [Act.put, List.getElem_toArray, List.getElem_cons_succ, List.getElem_cons_zero, List.setIfInBounds_toArray, List.set_cons_zero, List.set_cons_succ]
  refine wpAnyH_take (i := 3) (oi := _) (v := ?_) rfl (by kernel_rfl) (by kernel_rfl) (by kernel_rfl) (fun _ _ _ h => h) (Or.inl ⟨by rfl, ?_⟩) (by assumption) ?_
  rotate_left
  · (intro w hSw; (try dsimp only at hSw); (first | (go_simp; done) | (go_simp; with_reducible rfl)))
  simp only [Act.put, List.getElem_toArray, List.getElem_cons_succ, List.getElem_cons_zero, List.setIfInBounds_toArray, List.set_cons_zero, List.set_cons_succ]
  refine wpAnyH_ready (rs := [4]) (by kernel_rfl) (by simp) ?_
  refine AllReadyH.cons rfl (fun K hK => ?_) AllReadyH.nil
  go_simp
  refine (HBF.out _).mono ?_
  rintro e w21 ⟨rfl, hb⟩
  have HX := Lib.hid (HX.out.next hb)
  clear hb
  clear hHeld
  try go_wp2_with fail
  refine hK.out _ _ (⟨HX.out, HX.out.c0, HX.out.c1⟩) (fun hHeld => ?_)
  clear hK K
  refine wpAnyH_ready (rs := [5]) (by kernel_rfl) (by simp) ?_
  refine AllReadyH.cons rfl (fun K hK => ?_) AllReadyH.nil
  go_simp
  have hW9 := HX.out.size
  refine (HG1.out _).mono ?_
  rintro e w22 ⟨v4, rfl, ho, hb⟩
  have HX := Lib.hid (HX.out.next hb)
  have HO : Hid (World.ownsRow w22 w.heap.size _ _ _ _ _) := Lib.hid (owns_lower ho (Nat.le_of_lt hW9))
  clear hb ho hW9
  clear hHeld
  try go_wp2_with fail
  refine hK.out _ _ (⟨HX.out, HX.out.c0, HX.out.c1⟩) (fun hHeld => ?_)
  clear hK K
  refine wpAnyH_take (i := 6) (oi := _) (v := ?_) rfl (by kernel_rfl) (by kernel_rfl) (by kernel_rfl) (fun _ _ _ h => h) (Or.inl ⟨by rfl, ?_⟩) (by assumption) ?_
  rotate_left
  · (intro w hSw; (try dsimp only at hSw); (first | (go_simp; done) | (go_simp; with_reducible rfl)))
  simp only [Act.put, List.getElem_toArray, List.getElem_cons_succ, List.getElem_cons_zero, List.setIfInBounds_toArray, List.set_cons_zero, List.set_cons_succ]
  refine wpAnyH_take (i := 7) (oi := _) (v := ?_) rfl (by kernel_rfl) (by kernel_rfl) (by kernel_rfl) (fun _ _ _ h => h) (Or.inl ⟨by rfl, ?_⟩) (by assumption) ?_
  rotate_left
  · (intro w hSw; (try dsimp only at hSw); (first | (go_simp; done) | (go_simp; with_reducible rfl)))
  simp only [Act.put, List.getElem_toArray, List.getElem_cons_succ, List.getElem_cons_zero, List.setIfInBounds_toArray, List.set_cons_zero, List.set_cons_succ]
  refine wpAnyH_done (by kernel_rfl) ?_ _
  refine NoPanic.normal ?_
  clear hHeld
  go_wp2_with fail
  go_ret2
  exact ⟨_, rfl, owns_lower HO.out (Nat.le_refl _), HX.out.below⟩
/-- where guard i of k begins on a ring of n places -/
def startI (n k : Int) (i : Nat) : Int := (i : Int) * n / k
theorem start_in {n k : Int} {i : Nat} (hn : 0 < n) (hk : 1 ≤ k) (hi : (i : Int) < k) : 0 ≤ startI n k i ∧ startI n k i < n := by
  unfold startI
  refine ⟨Int.ediv_nonneg (Int.mul_nonneg (by omega) (by omega)) (by omega), Int.ediv_lt_of_lt_mul (by omega) ?_⟩
  rw [Int.mul_comm n k]
  exact Int.mul_lt_mul_of_pos_right hi hn
theorem start_mul {n : Int} {i : Nat} (hn : 0 ≤ n ∧ n ≤ 24) (hi : i ≤ 6) : 0 ≤ (i : Int) * n ∧ (i : Int) * n ≤ 144 := by
  refine ⟨Int.mul_nonneg (by omega) hn.1, ?_⟩
  have h1 : (i : Int) * n ≤ 6 * n := Int.mul_le_mul_of_nonneg_right (by omega) hn.1
  omega
/-- the round of guard i -/
def ringRow (n k : Int) (i : Nat) : List Int := rowF (ringF n (startI n k i)) n.toNat
set_option maxHeartbeats 3200000 in
set_option maxRecDepth 20000 in
theorem l5Ring_any (n k : Int) (w : World) (hn : 2 ≤ n ∧ n ≤ 24) (hk : 1 ≤ k ∧ k ≤ 6) :
    Calls Try.prog 57 #[rd n true, .int .i64 k] w (OwnsT w.heap.size (tabF (ringRow n k) k.toNat) w) := by
  obtain ⟨i0, hi, hz0, hz1, hz2⟩ := info_parts infoInt
  obtain ⟨i1, ji, jz0, jz1, jz2⟩ := info_parts infoTab
  obtain ⟨K, hK⟩ : ∃ K : Nat, k = K := ⟨k.toNat, by omega⟩
  obtain ⟨N, hN⟩ : ∃ N : Nat, n = N := ⟨n.toNat, by omega⟩
  have HX := Lib.hid (Boxed.first w n true 28)
  have HT := Lib.hid (ownT_new (w.alloc (.cells #[.int .i64 n, .bool true] 28)) (w.heap.size + 1) (w.heap.size + 1) (by simp) (Nat.le_refl _))
  have HST := Lib.hid (fun (i : Nat) (h : (i : Int) < k) => start_in (n := n) (k := k) (by omega) hk.1 h)
  have HSM := Lib.hid (fun (i : Nat) (h : i ≤ 6) => start_mul (n := n) (by omega) h)
  have hk1 := hk.1
  have hk6 := hk.2
  have hn2 := hn.1
  have hn24 := hn.2
  clear hk hn
  have HKK := Lib.hid hK
  have HNN := Lib.hid hN
  clear hK hN
  unfold rd at *
  go_enter Try.func57, Try.ntmps57
  go_wp2_with fail
  go_loopw [5, 6] (fun z i wr => TabRel n true (ringRow n k) K w.heap.size w z i wr) (fun _ i _ => K - (intOf i).toNat)
  case atStart => exact ⟨HX.out.next (below_new _ _), 0, Nat.zero_le _, rfl, [], HT.out.lt⟩
  case round =>
    obtain ⟨hx, q, hq, rfl, us, ho⟩ := hrel
    clear HX HT
    have HX := Lib.hid hx
    have HO := Lib.hid ho
    clear hx ho
    by_cases hlt : q < K
    · have hltk : (q : Int) < k := by rw [HKK.out]; omega
      have hq6 : q ≤ 6 := by have := HKK.out; omega
      have HBN := Lib.hid (below_new wr (.cells #[] 3))
      have HMN := Lib.hid (made_at wr wr.heap.size wr.heap.size rfl (Nat.le_refl _))
      have HLQ := Lib.hid hlt
      go_wp2_with fail
      generalize hw0 : wr = w0 at *
      go_loopw [7, 8] (fun z i wr => RowRel (ringF n (startI n k q)) N w0.heap.size w0 z i wr) (fun _ i _ => N - (intOf i).toNat)
      case atStart => exact ⟨HBN.out, by simp, 0, Nat.zero_le _, rfl, HMN.out⟩
      case round =>
        obtain ⟨hb, hbs, t, ht, rfl, hown⟩ := hrel
        clear HBN HMN
        have HBI := Lib.hid hb
        have HBS := Lib.hid hbs
        have HOI := Lib.hid hown
        clear hb hbs hown
        have HXI := Lib.hid (HX.out.nextAt HX.out.size HBI.out)
        have HX0 := Lib.hid HX.out
        have hx0 := HXI.out.c0
        have hx1 := HXI.out.c1
        by_cases hlt2 : t < N
        · have htn : (t : Int) < n := by rw [HNN.out]; omega
          have hst := HST.out q hltk
          have hsm := HSM.out q hq6
          have hw1 : IntKind.i64.wrap ((q : Int) * n) = (q : Int) * n := IntWalk.i64_in _ (by omega)
          have hk0 : ¬ k = 0 := by omega
          have hn0 : ¬ n = 0 := by omega
          have hsm0 := hsm.1
          obtain ⟨s, hs⟩ : ∃ s, s = startI n k q := ⟨_, rfl⟩
          have hdiv : ((q : Int) * n).tdiv k = s := by rw [hs, Int.tdiv_eq_ediv_of_nonneg hsm.1]; rfl
          have hdiv2 : (q : Int) * n / k = s := by rw [hs]; rfl
          rw [← hs] at hst
          have hw4 : IntKind.i64.wrap s = s := IntWalk.i64_in _ (by omega)
          have hw2 : IntKind.i64.wrap (s + (t : Int)) = s + (t : Int) := IntWalk.i64_in _ (by omega)
          have hst0 : 0 ≤ s + (t : Int) := by omega
          obtain ⟨x, hx⟩ : ∃ x, x = ringF n s t := ⟨_, rfl⟩
          have hmod : (s + (t : Int)).tmod n = x := by rw [hx, Int.tmod_eq_emod_of_nonneg hst0]; rfl
          have hmod2 : (s + (t : Int)) % n = x := by rw [hx]; rfl
          have HXE := Lib.hid (show x = ringF n (startI n k q) t by rw [hx, hs])
          have hxr : 0 ≤ x ∧ x < n := by rw [hx]; unfold ringF; exact ⟨Int.emod_nonneg _ hn0, Int.emod_lt_of_pos _ (by omega)⟩
          have hw3 : IntKind.i64.wrap x = x := IntWalk.i64_in _ (by omega)
          have hlen : rowF (ringF n (startI n k q)) t = rowF (ringF n (startI n k q)) t := rfl
          clear hx hs hxr hst hsm
          generalize hys : (rowF (ringF n (startI n k q)) t).map iv = ys at *
          have HYS := Lib.hid hys
          clear hys hlen
          have HW := Lib.hid (And.intro hw1 (And.intro hdiv (And.intro hdiv2 (And.intro hw4 (And.intro hw2 (And.intro hmod (And.intro hmod2 hw3)))))))
          clear hw1 hdiv hdiv2 hw4 hw2 hmod hmod2 hw3
          go_wp2_with fail
          have hw1 := HW.out.1
          have hdiv := HW.out.2.1
          have hdiv2 := HW.out.2.2.1
          have hw4 := HW.out.2.2.2.1
          have hw2 := HW.out.2.2.2.2.1
          have hmod := HW.out.2.2.2.2.2.1
          have hmod2 := HW.out.2.2.2.2.2.2.1
          have hw3 := HW.out.2.2.2.2.2.2.2
          clear HX
          have HX := Lib.hid HXI.out
          have HOW := Lib.hid HOI.out
          refine wp_region_noPanic ?_
          have HX := Lib.hid (HX.out.next (below_drewN _ 1))
          refine wp_region_held_drew (S := fun w' => Boxed w.heap.size n true w w' ∧ w'.cell? ⟨w.heap.size, 0, none⟩ = some (.int .i64 n) ∧ w'.cell? ⟨w.heap.size, 1, none⟩ = some (.bool true)) (by kernel_rfl) (⟨HX.out, HX.out.c0, HX.out.c1⟩) (fun hHeld => ?_)
          refine wpAnyH_take (i := 0) (oi := _) (v := ?_) rfl (by kernel_rfl) (by kernel_rfl) (by kernel_rfl) (fun _ _ _ h => h) (Or.inl ⟨by rfl, ?_⟩) (by assumption) ?_
          rotate_left
          · (intro w hSw; (try dsimp only at hSw); (first | (go_simp; done) | (go_simp; with_reducible rfl)))
          simp only [Act.put, List.getElem_toArray, List.getElem_cons_succ, List.getElem_cons_zero, List.setIfInBounds_toArray, List.set_cons_zero, List.set_cons_succ]
          refine wpAnyH_take (i := 1) (oi := _) (v := ?_) rfl (by kernel_rfl) (by kernel_rfl) (by kernel_rfl) (fun _ _ _ h => h) (Or.inl ⟨by rfl, ?_⟩) (by assumption) ?_
          rotate_left
          · (intro w hSw; (try dsimp only at hSw); (first | (go_simp; done) | (go_simp; with_reducible rfl)))
          simp only [Act.put, List.getElem_toArray, List.getElem_cons_succ, List.getElem_cons_zero, List.setIfInBounds_toArray, List.set_cons_zero, List.set_cons_succ]
          refine wpAnyH_take (i := 2) (oi := _) (v := ?_) rfl (by kernel_rfl) (by kernel_rfl) (by kernel_rfl) (fun _ _ _ h => h) (Or.inl ⟨by rfl, ?_⟩) (by assumption) ?_
          rotate_left
          · (intro w hSw; (try dsimp only at hSw); (first | (go_simp; done) | (go_simp; with_reducible rfl)))
          simp only [Act.put, List.getElem_toArray, List.getElem_cons_succ, List.getElem_cons_zero, List.setIfInBounds_toArray, List.set_cons_zero, List.set_cons_succ]
          refine wpAnyH_take (i := 3) (oi := _) (v := ?_) rfl (by kernel_rfl) (by kernel_rfl) (by kernel_rfl) (fun _ _ _ h => h) (Or.inl ⟨by rfl, ?_⟩) (by assumption) ?_
          rotate_left
          · (intro w hSw; (try dsimp only at hSw); (first | (go_simp; done) | (go_simp; with_reducible rfl)))
          simp only [Act.put, List.getElem_toArray, List.getElem_cons_succ, List.getElem_cons_zero, List.setIfInBounds_toArray, List.set_cons_zero, List.set_cons_succ]
          refine wpAnyH_take (i := 4) (oi := _) (v := ?_) rfl (by kernel_rfl) (by kernel_rfl) (by kernel_rfl) (fun _ _ _ h => h) (Or.inl ⟨by rfl, ?_⟩) (by assumption) ?_
          rotate_left
          · (intro w hSw; (try dsimp only at hSw); (first | (go_simp; done) | (go_simp; with_reducible rfl)))
          simp only [Act.put, List.getElem_toArray, List.getElem_cons_succ, List.getElem_cons_zero, List.setIfInBounds_toArray, List.set_cons_zero, List.set_cons_succ]
          refine wpAnyH_take (i := 5) (oi := _) (v := ?_) rfl (by kernel_rfl) (by kernel_rfl) (by kernel_rfl) (fun _ _ _ h => h) (Or.inl ⟨by rfl, ?_⟩) (by assumption) ?_
          rotate_left
          · (intro w hSw; (try dsimp only at hSw); (first | (go_simp; done) | (go_simp; with_reducible rfl)))
          simp only [Act.put, List.getElem_toArray, List.getElem_cons_succ, List.getElem_cons_zero, List.setIfInBounds_toArray, List.set_cons_zero, List.set_cons_succ]
          refine wpAnyH_take (i := 6) (oi := _) (v := ?_) rfl (by kernel_rfl) (by kernel_rfl) (by kernel_rfl) (fun _ _ _ h => h) (Or.inl ⟨by rfl, ?_⟩) (by assumption) ?_
          rotate_left
          · (intro w hSw; (try dsimp only at hSw); (first | (go_simp; done) | (go_simp; with_reducible rfl)))
          simp only [Act.put, List.getElem_toArray, List.getElem_cons_succ, List.getElem_cons_zero, List.setIfInBounds_toArray, List.set_cons_zero, List.set_cons_succ]
          refine wpAnyH_take (i := 7) (oi := _) (v := ?_) rfl (by kernel_rfl) (by kernel_rfl) (by kernel_rfl) (fun _ _ _ h => h) (Or.inl ⟨by rfl, ?_⟩) (by assumption) ?_
          rotate_left
          · (intro w hSw; (try dsimp only at hSw); (first | (go_simp; done) | (go_simp; with_reducible rfl)))
          simp only [Act.put, List.getElem_toArray, List.getElem_cons_succ, List.getElem_cons_zero, List.setIfInBounds_toArray, List.set_cons_zero, List.set_cons_succ]
          refine wpAnyH_take (i := 8) (oi := _) (v := ?_) rfl (by kernel_rfl) (by kernel_rfl) (by kernel_rfl) (fun _ _ _ h => h) (Or.inl ⟨by rfl, ?_⟩) (by assumption) ?_
          rotate_left
          · (intro w hSw; (try dsimp only at hSw); (first | (go_simp; done) | (go_simp; with_reducible rfl)))
          simp only [Act.put, List.getElem_toArray, List.getElem_cons_succ, List.getElem_cons_zero, List.setIfInBounds_toArray, List.set_cons_zero, List.set_cons_succ]
          refine wpAnyH_take (i := 9) (oi := _) (v := ?_) rfl (by kernel_rfl) (by kernel_rfl) (by kernel_rfl) (fun _ _ _ h => h) (Or.inl ⟨by rfl, ?_⟩) (by assumption) ?_
          rotate_left
          · (intro w hSw; (try dsimp only at hSw); (first | (go_simp; done) | (go_simp; with_reducible rfl)))
          simp only [Act.put, List.getElem_toArray, List.getElem_cons_succ, List.getElem_cons_zero, List.setIfInBounds_toArray, List.set_cons_zero, List.set_cons_succ]
          refine wpAnyH_take (i := 10) (oi := _) (v := ?_) rfl (by kernel_rfl) (by kernel_rfl) (by kernel_rfl) (fun _ _ _ h => h) (Or.inl ⟨by rfl, ?_⟩) (by assumption) ?_
          rotate_left
          · (intro w hSw; (try dsimp only at hSw); (first | (go_simp; done) | (go_simp; with_reducible rfl)))
          simp only [Act.put, List.getElem_toArray, List.getElem_cons_succ, List.getElem_cons_zero, List.setIfInBounds_toArray, List.set_cons_zero, List.set_cons_succ]
          refine wpAnyH_take (i := 11) (oi := _) (v := ?_) rfl (by kernel_rfl) (by kernel_rfl) (by kernel_rfl) (fun _ _ _ h => h) (Or.inl ⟨by rfl, ?_⟩) (by assumption) ?_
          rotate_left
          · (intro w hSw; (try dsimp only at hSw); (first | (go_simp; done) | (go_simp; with_reducible rfl)))
          simp only [Act.put, List.getElem_toArray, List.getElem_cons_succ, List.getElem_cons_zero, List.setIfInBounds_toArray, List.set_cons_zero, List.set_cons_succ]
          refine wpAnyH_ready (rs := [12]) (by kernel_rfl) (by simp) ?_
          refine AllReadyH.cons rfl (fun K hK => ?_) AllReadyH.nil
          go_simp
          have HNW := Lib.hid (one_news (x := .int .i64 x) (t := 3) hHeld.1 wr.heap.size (by simp))
          have HOA := Lib.hid (row_below (row_below HOW.out (below_drewN _ 1)) (below_new _ (.cells #[.int .i64 x] 3)))
          refine hK.out _ _ (⟨(hHeld.1.next (below_new _ _)), (hHeld.1.next (below_new _ _)).c0, (hHeld.1.next (below_new _ _)).c1⟩) (fun hHeld => ?_)
          clear hK K
          have HX := Lib.hid hHeld.1
          refine wpAnyH_ready (rs := [13]) (by kernel_rfl) (by simp) ?_
          refine AllReadyH.cons rfl (fun K hK => ?_) AllReadyH.nil
          have HB0 := Lib.hid (HBI.out.trans (((below_drewN wr 1).trans (below_new (wr.drewN 1) (.cells #[.int .i64 x] 3))).mono HBS.out))
          refine step_append_any (by rfl) _ _ _ (by rfl) (w0.heap.size) 3 i0 (.int .i64 0) 1 8 Try.underlying43 hi hz0 hz1 hz2 rfl (by decide) _ _ _ (by rfl) HOA.out ⟨wr.heap.size, 0, none⟩ 1 1 [.int .i64 x] (by rfl) (by rfl) HNW.out ?c2 ?c3 ?c4 ?c5 ?_
          case c2 => intro u hu; simp at hu; subst hu; rfl
          case c3 => unfold maxLen; omega
          case c4 => omega
          case c5 => have := HBS.out; simp; omega
          intro v9 w22 hown9 hgrow9
          have hbl := fun b hb => (row_block HOA.out b hb).1
          have HB9 := Lib.hid (HB0.out.trans (below_grown hgrow9 hbl (by have := HBS.out; simp; omega)))
          have HBS9 := Lib.hid (Nat.le_trans (by have := HBS.out; simp; omega : w0.heap.size ≤ ((wr.drewN 1).alloc (.cells #[.int .i64 x] 3)).heap.size) hgrow9.size)
          have HO9 := Lib.hid hown9
          have HX := Lib.hid (HX0.out.nextAt HX0.out.size HB9.out)
          clear hbl hgrow9 hown9
          clear hHeld
          refine hK.out _ _ (⟨HX.out, HX.out.c0, HX.out.c1⟩) (fun hHeld => ?_)
          clear hK K
          refine wpAnyH_take (i := 14) (oi := _) (v := ?_) rfl (by kernel_rfl) (by kernel_rfl) (by kernel_rfl) (fun _ _ _ h => h) (Or.inl ⟨by rfl, ?_⟩) (by assumption) ?_
          rotate_left
          · (intro w hSw; (try dsimp only at hSw); (first | (go_simp; done) | (go_simp; with_reducible rfl)))
          simp only [Act.put, List.getElem_toArray, List.getElem_cons_succ, List.getElem_cons_zero, List.setIfInBounds_toArray, List.set_cons_zero, List.set_cons_succ]
          refine wpAnyH_done (by kernel_rfl) ?_ _
          refine NoPanic.normal ?_
          clear hHeld
          go_wp2_with fail
          go_roundw
          case rel => exact ⟨HB9.out, HBS9.out, t + 1, by omega, by go_num, by rw [← rowF_snoc, ← HXE.out, HYS.out]; exact HO9.out⟩
          case measure => simp [intOf]; omega
        · have hte : t = N := by omega
          subst hte
          have htn : ¬ (t : Int) < n := by rw [HNN.out]; omega
          have hfl : (ringRow n k q).length = t := by unfold ringRow; rw [rowF_len, HNN.out]; rfl
          have hrr : rowF (ringF n (startI n k q)) t = ringRow n k q := by unfold ringRow; rw [HNN.out]; rfl
          have HOR := Lib.hid (show wr.ownsRow w0.heap.size 3 1 _ (ringRow n k q).length ((ringRow n k q).map iv) from by rw [hfl, ← hrr]; exact HOI.out)
          have HOO := Lib.hid (HO.out.below HBI.out)
          have HTP := Lib.hid (show wr.ownsRow (w.heap.size + 1) 43 1 _ q us from by have h := HOO.out.top; rw [tabF_len] at h; exact h)
          have hsz1 := HX0.out.size
          have hsz2 := HXI.out.size
          clear hfl hrr
          obtain ⟨ra, rc, hrs, _⟩ := row_shape HOR.out
          subst hrs
          go_wp2_with (at_builtin; refine wpList_append_own _ rfl _ _ 24 rfl (w.heap.size + 1) 43 i1 (.slice none 0 0) 1 24 Try.underlying24 ji jz0 jz1 jz2 rfl (by decide) _ _ _ rfl (HTP.out.alloc _) ⟨wr.heap.size, 0, none⟩ 1 1 [.slice ra (ringRow n k q).length rc] rfl rfl (cell_one_new _ _ _) ?c2 ?c3 ?c4 ?c5 ?_)
          case c2 => first | rfl | (intro u hu; simp at hu; subst hu; rfl)
          case c3 => unfold maxLen; omega
          case c4 => omega
          case c5 => first | omega | (simp; omega)
          intro v' w9 hown' hgrow _
          have HN9 := Lib.hid (tab_next (t := 43) (m := K) (i := .int .i64 ((q + 1 : Nat) : Int)) HXI.out HOO.out (Nat.le_refl _) hsz1 HOR.out HLQ.out rfl hown' hgrow)
          clear hgrow hown'
          go_wp2_with fail
          go_roundw
          case rel => exact HN9.out
          case measure => simp [intOf]; omega
    · have hke : q = K := by omega
      subst hke
      have hkn : ¬ (q : Int) < k := by rw [HKK.out]; omega
      go_wp2_with fail
      go_ret
      exact ⟨_, us, rfl, by rw [show k.toNat = q by rw [HKK.out]; rfl]; exact HO.out.widen (Nat.le_succ _) (Nat.le_refl _), HX.out.below⟩
end Go.Proofs.Ytefjignlhlpndaa
