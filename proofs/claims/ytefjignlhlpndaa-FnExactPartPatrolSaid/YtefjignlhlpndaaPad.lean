/-
  What is proved: the model's part patrols: l5Parts, PartPatrol. Conditions: those of each contract.
-/
import Derived.Test.YtefjignlhlpndaaPab
import Derived.Test.YtefjignlhlpndaaRgb
namespace Go.Proofs.Ytefjignlhlpndaa
open Go.RowKit
set_option linter.unusedVariables false
set_option linter.unusedSimpArgs false

def PtRel (N K base : Nat) (w : World) (z fst i : Value) (wr : World) : Prop :=
  ∃ k : Nat, k ≤ K ∧ i = .int .i64 k ∧ fst = .int .i64 (startP N K k) ∧ Boxed base N false w wr ∧ ∃ us, OwnT (base + 1) wr.heap.size z us (tabF (partF N K) k) wr
theorem tab_at {n : Int} {g : Bool} {F : Nat → List Int} {m base k : Nat} {w wr : World} {z : Value} (h : TabRel n g F m base w z (.int .i64 (k : Int)) wr) : Boxed base n g w wr ∧ ∃ us, OwnT (base + 1) wr.heap.size z us (tabF F k) wr := by
  obtain ⟨hx, k', _, he, us, ho⟩ := h
  have e : (k : Int) = (k' : Int) := by injection he
  have e2 : k = k' := by omega
  subst e2
  exact ⟨hx, us, ho⟩
set_option maxHeartbeats 3200000 in
set_option maxRecDepth 20000 in
theorem l5Parts_any (N K : Nat) (w : World) (hn : 2 ≤ N ∧ N ≤ 24) (hk : 1 ≤ K ∧ K ≤ 6) (hkn : K ≤ N) :
    Calls Try.prog 59 #[rd N false, .int .i64 K] w (OwnsT w.heap.size (tabF (partF N K) K) w) := by
  obtain ⟨i1, ji, jz0, jz1, jz2⟩ := info_parts infoTab
  have HX := Lib.hid (Boxed.first w N false 28)
  have HT := Lib.hid (ownT_new (w.alloc (.cells #[.int .i64 N, .bool false] 28)) (w.heap.size + 1) (w.heap.size + 1) (by simp) (Nat.le_refl _))
  obtain ⟨hn2, hn24⟩ := hn
  obtain ⟨hk1, hk6⟩ := hk
  have HSW := Lib.hid (fun (a M : Nat) (W : Bool) w hM ha => l5Sweep_any a M W w hM ha)
  have HPI := Lib.hid (fun (j : Nat) (hj : j < K) => part_in hk1 hkn hj)
  obtain ⟨d, hd⟩ : ∃ d, d = N / K := ⟨_, rfl⟩
  obtain ⟨r, hr⟩ : ∃ r, r = N % K := ⟨_, rfl⟩
  have HMY := Lib.hid (fun (j : Nat) => show manyP N K j = d + (if j < r then 1 else 0) from by rw [hd, hr]; rfl)
  have HWY := Lib.hid (fun (j : Nat) => show waitP N K j = (decide (0 < r) && decide (r ≤ j)) from by rw [hr]; rfl)
  have hrK : r < K := by rw [hr]; exact Nat.mod_lt _ (by omega)
  have hdN : d ≤ N := by rw [hd]; exact Nat.div_le_self _ _
  have hK0 : ¬ (K : Int) = 0 := by omega
  have hKn : ¬ K = 0 := by omega
  have hN0 : 0 ≤ (N : Int) := by omega
  have hdiv : (N : Int) / (K : Int) = (d : Int) := by rw [hd]; push_cast; rfl
  have hmod : (N : Int) % (K : Int) = (r : Int) := by rw [hr]; push_cast; rfl
  have HD := Lib.hid (show (N : Int) / (K : Int) = (d : Int) ∧ (N : Int).tdiv (K : Int) = (d : Int) ∧ IntKind.i64.wrap (d : Int) = (d : Int) from ⟨hdiv, by rw [Int.tdiv_eq_ediv_of_nonneg hN0]; exact hdiv, IntWalk.i64_in _ (by omega)⟩)
  have hmt : (N : Int).tmod (K : Int) = (r : Int) := by rw [Int.tmod_eq_emod_of_nonneg hN0]; exact hmod
  have hrw : IntKind.i64.wrap (r : Int) = (r : Int) := IntWalk.i64_in _ (by omega)
  clear hdiv hd hr
  unfold rd at *
  go_enter Try.func59, Try.ntmps59
  go_wp2_with fail
  refine wp_region_noPanic ?_
  have HX := Lib.hid ((HX.out.next (below_new _ (.cells #[] 43))).next (below_drewN _ 1))
  have HT := Lib.hid (HT.out.below (below_drewN _ 1))
  refine wp_region_held_drew (S := fun w' => Boxed w.heap.size N false w w' ∧ w'.cell? ⟨w.heap.size, 0, none⟩ = some (.int .i64 N) ∧ w'.cell? ⟨w.heap.size, 1, none⟩ = some (.bool false)) (by kernel_rfl) (⟨HX.out, HX.out.c0, HX.out.c1⟩) (fun hHeld => ?_)
  refine wpAnyH_take (i := 0) (oi := _) (v := ?_) rfl (by kernel_rfl) (by kernel_rfl) (by kernel_rfl) (fun _ _ _ h => h) (Or.inl ⟨by rfl, ?_⟩) (by assumption) ?_
  rotate_left
  · (intro w hSw; (try dsimp only at hSw); (first | (go_simp; done) | (go_simp; with_reducible rfl)))
  simp only [Act.put, List.getElem_toArray, List.getElem_cons_succ, List.getElem_cons_zero, List.setIfInBounds_toArray, List.set_cons_zero, List.set_cons_succ]
  refine wpAnyH_take (i := 1) (oi := _) (v := ?_) rfl (by kernel_rfl) (by kernel_rfl) (by kernel_rfl) (fun _ _ _ h => h) (Or.inl ⟨by rfl, ?_⟩) (by assumption) ?_
  rotate_left
  · (intro w hSw; (try dsimp only at hSw); (first | (go_simp; done) | (go_simp; with_reducible rfl)))
  simp only [Act.put, List.getElem_toArray, List.getElem_cons_succ, List.getElem_cons_zero, List.setIfInBounds_toArray, List.set_cons_zero, List.set_cons_succ]
  refine wpAnyH_take (i := 2) (oi := _) (v := ?_) rfl (by kernel_rfl) (by kernel_rfl) (by kernel_rfl) (fun _ _ _ h => h) (Or.inl ⟨by rfl, ?_⟩) (by assumption) ?_
  rotate_left
  · (intro w hSw; (try dsimp only at hSw); (first | (go_simp; done) | (go_simp; with_reducible rfl)))
  simp only [Act.put, List.getElem_toArray, List.getElem_cons_succ, List.getElem_cons_zero, List.setIfInBounds_toArray, List.set_cons_zero, List.set_cons_succ]
  refine wpAnyH_take (i := 3) (oi := _) (v := ?_) rfl (by kernel_rfl) (by kernel_rfl) (by kernel_rfl) (fun _ _ _ h => h) (Or.inl ⟨by rfl, ?_⟩) (by assumption) ?_
  rotate_left
  · (intro w hSw; (try dsimp only at hSw); (first | (go_simp; done) | (go_simp; with_reducible rfl)))
  simp only [Act.put, List.getElem_toArray, List.getElem_cons_succ, List.getElem_cons_zero, List.setIfInBounds_toArray, List.set_cons_zero, List.set_cons_succ]
  refine wpAnyH_take (i := 4) (oi := _) (v := ?_) rfl (by kernel_rfl) (by kernel_rfl) (by kernel_rfl) (fun _ _ _ h => h) (Or.inl ⟨by rfl, ?_⟩) (by assumption) ?_
  rotate_left
  · (intro w hSw; (try dsimp only at hSw); (first | (go_simp; done) | (go_simp; with_reducible rfl)))
  simp only [Act.put, List.getElem_toArray, List.getElem_cons_succ, List.getElem_cons_zero, List.setIfInBounds_toArray, List.set_cons_zero, List.set_cons_succ]
  refine wpAnyH_take (i := 5) (oi := _) (v := ?_) rfl (by kernel_rfl) (by kernel_rfl) (by kernel_rfl) (fun _ _ _ h => h) (Or.inl ⟨by rfl, ?_⟩) (by assumption) ?_
  rotate_left
  · (intro w hSw; (try dsimp only at hSw); (first | (go_simp; done) | (go_simp; with_reducible rfl)))
  simp only [Act.put, List.getElem_toArray, List.getElem_cons_succ, List.getElem_cons_zero, List.setIfInBounds_toArray, List.set_cons_zero, List.set_cons_succ]
  refine wpAnyH_done (by kernel_rfl) ?_ _
  refine NoPanic.normal ?_
  clear hHeld
  go_wp2_with fail
  clear hmod hmt hrw
  go_loopw [5, 6, 8] (fun z f i wr => PtRel N K w.heap.size w z f i wr) (fun _ _ i _ => K - (intOf i).toNat)
  case atStart => exact ⟨0, Nat.zero_le _, rfl, rfl, HX.out, [], HT.out.lt⟩
  case round =>
    obtain ⟨j, hj, rfl, rfl, hx, us, ho⟩ := hrel
    clear HX HT
    have HX := Lib.hid hx
    have HO := Lib.hid ho
    have hx0 := hx.c0
    clear hx ho
    by_cases hlt : j < K
    · have hpi := HPI.out j hlt
      have hst : startP N K j ≤ 24 := by omega
      have HLQ := Lib.hid hlt
      have HMJ := HMY.out j
      have HWJ := HWY.out j
      have hj24 : j ≤ 6 := by omega
      have HPF := Lib.hid (show partF N K j = sweepT (startP N K j) (manyP N K j) (waitP N K j) from rfl)
      have HSQ := Lib.hid (show startP N K (j + 1) = startP N K j + manyP N K j from rfl)
      have hd0 := HD.out.1
      have hd1 := HD.out.2.1
      have hd2 := HD.out.2.2
      have hw0 : IntKind.i64.wrap ((d : Int) + 1) = (d : Int) + 1 := IntWalk.i64_in _ (by omega)
      generalize hsv : startP N K j = s at *
      clear hsv
      by_cases hjr : j < r
      · have hmv : manyP N K j = d + 1 := by rw [HMJ, if_pos hjr]
        have hwv : waitP N K j = false := by rw [HWJ]; simp; omega
        have hr0 : 0 < r := by omega
        have hr0i : (0 : Int) < (r : Int) := by omega
        have hji : (j : Int) < (r : Int) := by omega
        have hjn : ¬ (r : Int) ≤ (j : Int) := by omega
        have HM := Lib.hid hmv
        have HW := Lib.hid hwv
        clear HMJ HWJ hwv hmv
        have HSM := Lib.hid (show 1 ≤ d + 1 ∧ d + 1 ≤ 24 from by have := HM.out; omega)
        go_wp2_with fail
        refine (HSW.out s (d + 1) false _ HSM.out hst).mono ?_
        rintro e w2 ⟨u, rfl, hou, hb⟩
        have HSZ := Lib.hid (Nat.succ_le_of_lt HX.out.size)
        have HOR := Lib.hid (show w2.ownsRow wr.heap.size 3 1 u (partF N K j).length ((partF N K j).map iv) from by rw [HPF.out, HM.out, HW.out]; exact hou)
        have HX := Lib.hid (HX.out.next hb)
        have HO := Lib.hid (HO.out.below hb)
        have HTP := Lib.hid (show w2.ownsRow (w.heap.size + 1) 43 1 _ j us from by have h := HO.out.top; rw [tabF_len] at h; exact h)
        have hsz1 := HX.out.size
        have hx0 := HX.out.c0
        clear hou hb
        obtain ⟨ra, rc, hrs, _⟩ := row_shape HOR.out
        subst hrs
        go_wp2_with (at_builtin; refine wpList_append_own _ rfl _ _ 24 rfl (w.heap.size + 1) 43 i1 (.slice none 0 0) 1 24 Try.underlying24 ji jz0 jz1 jz2 rfl (by decide) _ _ _ rfl (HTP.out.alloc _) ⟨w2.heap.size, 0, none⟩ 1 1 [.slice ra _ rc] rfl rfl (cell_one_new _ _ _) ?c2 ?c3 ?c4 ?c5 ?_)
        case c2 => first | rfl | (intro u hu; simp at hu; subst hu; rfl)
        case c3 => unfold maxLen; omega
        case c4 => omega
        case c5 => first | omega | (simp; omega)
        intro v' w9 hown' hgrow _
        have HN9 := Lib.hid (tab_at (tab_next (t := 43) (m := K) (i := .int .i64 ((j + 1 : Nat) : Int)) HX.out HO.out (Nat.le_refl _) HSZ.out HOR.out HLQ.out rfl hown' hgrow))
        clear hgrow hown'
        have hws : IntKind.i64.wrap ((s : Int) + ((d + 1 : Nat) : Int)) = (s : Int) + ((d + 1 : Nat) : Int) := IntWalk.i64_in _ (by omega)
        go_wp2_with fail
        go_roundw
        case rel => exact ⟨j + 1, by omega, by go_num, by rw [HSQ.out, HM.out]; first | rfl | (congr 1) | (congr 1; push_cast; omega), HN9.out.1, HN9.out.2⟩
        case measure => have := HLQ.out; simp [intOf]; omega
      · have hmv : manyP N K j = d := by rw [HMJ, if_neg hjr]; rfl
        by_cases hr0 : 0 < r
        · have hwv : waitP N K j = true := by rw [HWJ]; simp; omega
          have hr0i : (0 : Int) < (r : Int) := by omega
          have hji : ¬ (j : Int) < (r : Int) := by omega
          have hjn : (r : Int) ≤ (j : Int) := by omega
          have HM := Lib.hid hmv
          have HW := Lib.hid hwv
          clear HMJ HWJ hwv hmv
          have HSM := Lib.hid (show 1 ≤ d ∧ d ≤ 24 from by have := HM.out; omega)
          go_wp2_with fail
          refine (HSW.out s (d) true _ HSM.out hst).mono ?_
          rintro e w2 ⟨u, rfl, hou, hb⟩
          have HSZ := Lib.hid (Nat.succ_le_of_lt HX.out.size)
          have HOR := Lib.hid (show w2.ownsRow wr.heap.size 3 1 u (partF N K j).length ((partF N K j).map iv) from by rw [HPF.out, HM.out, HW.out]; exact hou)
          have HX := Lib.hid (HX.out.next hb)
          have HO := Lib.hid (HO.out.below hb)
          have HTP := Lib.hid (show w2.ownsRow (w.heap.size + 1) 43 1 _ j us from by have h := HO.out.top; rw [tabF_len] at h; exact h)
          have hsz1 := HX.out.size
          have hx0 := HX.out.c0
          clear hou hb
          obtain ⟨ra, rc, hrs, _⟩ := row_shape HOR.out
          subst hrs
          go_wp2_with (at_builtin; refine wpList_append_own _ rfl _ _ 24 rfl (w.heap.size + 1) 43 i1 (.slice none 0 0) 1 24 Try.underlying24 ji jz0 jz1 jz2 rfl (by decide) _ _ _ rfl (HTP.out.alloc _) ⟨w2.heap.size, 0, none⟩ 1 1 [.slice ra _ rc] rfl rfl (cell_one_new _ _ _) ?c2 ?c3 ?c4 ?c5 ?_)
          case c2 => first | rfl | (intro u hu; simp at hu; subst hu; rfl)
          case c3 => unfold maxLen; omega
          case c4 => omega
          case c5 => first | omega | (simp; omega)
          intro v' w9 hown' hgrow _
          have HN9 := Lib.hid (tab_at (tab_next (t := 43) (m := K) (i := .int .i64 ((j + 1 : Nat) : Int)) HX.out HO.out (Nat.le_refl _) HSZ.out HOR.out HLQ.out rfl hown' hgrow))
          clear hgrow hown'
          have hws : IntKind.i64.wrap ((s : Int) + ((d : Nat) : Int)) = (s : Int) + ((d : Nat) : Int) := IntWalk.i64_in _ (by omega)
          go_wp2_with fail
          go_roundw
          case rel => exact ⟨j + 1, by omega, by go_num, by rw [HSQ.out, HM.out]; first | rfl | (congr 1) | (congr 1; push_cast; omega), HN9.out.1, HN9.out.2⟩
          case measure => have := HLQ.out; simp [intOf]; omega
        · have hwv : waitP N K j = false := by rw [HWJ]; simp; omega
          have hr0i : ¬ (0 : Int) < (r : Int) := by omega
          have hji : ¬ (j : Int) < (r : Int) := by omega
          have HM := Lib.hid hmv
          have HW := Lib.hid hwv
          clear HMJ HWJ hwv hmv
          have HSM := Lib.hid (show 1 ≤ d ∧ d ≤ 24 from by have := HM.out; omega)
          go_wp2_with fail
          refine (HSW.out s (d) false _ HSM.out hst).mono ?_
          rintro e w2 ⟨u, rfl, hou, hb⟩
          have HSZ := Lib.hid (Nat.succ_le_of_lt HX.out.size)
          have HOR := Lib.hid (show w2.ownsRow wr.heap.size 3 1 u (partF N K j).length ((partF N K j).map iv) from by rw [HPF.out, HM.out, HW.out]; exact hou)
          have HX := Lib.hid (HX.out.next hb)
          have HO := Lib.hid (HO.out.below hb)
          have HTP := Lib.hid (show w2.ownsRow (w.heap.size + 1) 43 1 _ j us from by have h := HO.out.top; rw [tabF_len] at h; exact h)
          have hsz1 := HX.out.size
          have hx0 := HX.out.c0
          clear hou hb
          obtain ⟨ra, rc, hrs, _⟩ := row_shape HOR.out
          subst hrs
          go_wp2_with (at_builtin; refine wpList_append_own _ rfl _ _ 24 rfl (w.heap.size + 1) 43 i1 (.slice none 0 0) 1 24 Try.underlying24 ji jz0 jz1 jz2 rfl (by decide) _ _ _ rfl (HTP.out.alloc _) ⟨w2.heap.size, 0, none⟩ 1 1 [.slice ra _ rc] rfl rfl (cell_one_new _ _ _) ?c2 ?c3 ?c4 ?c5 ?_)
          case c2 => first | rfl | (intro u hu; simp at hu; subst hu; rfl)
          case c3 => unfold maxLen; omega
          case c4 => omega
          case c5 => first | omega | (simp; omega)
          intro v' w9 hown' hgrow _
          have HN9 := Lib.hid (tab_at (tab_next (t := 43) (m := K) (i := .int .i64 ((j + 1 : Nat) : Int)) HX.out HO.out (Nat.le_refl _) HSZ.out HOR.out HLQ.out rfl hown' hgrow))
          clear hgrow hown'
          have hws : IntKind.i64.wrap ((s : Int) + ((d : Nat) : Int)) = (s : Int) + ((d : Nat) : Int) := IntWalk.i64_in _ (by omega)
          go_wp2_with fail
          go_roundw
          case rel => exact ⟨j + 1, by omega, by go_num, by rw [HSQ.out, HM.out]; first | rfl | (congr 1) | (congr 1; push_cast; omega), HN9.out.1, HN9.out.2⟩
          case measure => have := HLQ.out; simp [intOf]; omega
    · have hje : j = K := by omega
      subst hje
      go_wp2_with fail
      go_ret
      exact ⟨_, us, rfl, HO.out.widen (Nat.le_succ _) (Nat.le_refl _), HX.out.below⟩
/-- what PartPatrol answers -/
def partR (n : Int) (g : Bool) (k : Int) : List (List Int) × Bool := if numB n g k = true ∧ g = false ∧ k ≤ n then (tabF (partF n.toNat k.toNat) k.toNat, true) else ([], false)
theorem partR_no {n : Int} {g : Bool} {k : Int} (h : ¬ (numB n g k = true ∧ g = false ∧ k ≤ n)) : partR n g k = ([], false) := by unfold partR; rw [if_neg h]
theorem partR_yes {N K : Nat} (h : numB N false K = true) (hk : K ≤ N) : partR N false K = (tabF (partF N K) K, true) := by
  unfold partR
  rw [if_pos ⟨h, rfl, by omega⟩]
  rfl
theorem partR_size (n : Int) (g : Bool) (k : Int) : sizeT (partR n g k).1 ≤ 1048576 := by
  by_cases h : numB n g k = true ∧ g = false ∧ k ≤ n
  · have hk := (numB_iff n g k).1 h.1
    have hr := (roadB_iff n g).1 hk.1
    unfold partR
    rw [if_pos h]
    refine Nat.le_trans (size_le (L := 48) (K := 6) (fun j xs hx => ?_) (by rw [tabF_len]; omega)) (by omega)
    have hj : j < k.toNat := by have := (List.getElem?_eq_some_iff.1 hx).1; rw [tabF_len] at this; exact this
    rw [tabF_at _ _ _ hj] at hx
    cases hx
    have h1 := part_in (N := n.toNat) (K := k.toNat) (by omega) (by omega) hj
    have h2 := sweepT_len (startP n.toNat k.toNat j) (manyP n.toNat k.toNat j) (waitP n.toNat k.toNat j)
    unfold partF
    omega
  · rw [partR_no h]
    simp [sizeT, lenTo]
set_option maxHeartbeats 800000 in
theorem spec_PartPatrol (n : Int) (g : Bool) (k : Int) (w : World) :
    Calls Try.prog 27 #[rd n g, .int .i64 k] w (OwnsTB w.heap.size (partR n g k).1 (partR n g k).2 w) := by
  have HNU := Lib.hid (fun w => l5Number_any n g k w)
  have HX := Lib.hid (Boxed.first w n g 28)
  cases hnu : numB n g k
  · have HR := Lib.hid (partR_no (n := n) (g := g) (k := k) (fun h => by rw [hnu] at h; cases h.1))
    have HNX := Lib.hid hnu
    clear hnu
    generalize partR n g k = R at *
    unfold rd at *
    go_enter Try.func27, Try.ntmps27
    go_wp2_with fail
    refine (HNU.out _).mono ?_
    rintro e w1 ⟨rfl, hb⟩
    have HX := Lib.hid (HX.out.next hb)
    clear hb
    rw [HNX.out]
    go_wp2_with fail
    go_ret2
    exact no_table HR.out HX.out rfl
  · cases g
    · by_cases hkn : k ≤ n
      · have hk := (numB_iff n false k).1 hnu
        have hr := (roadB_iff n false).1 hk.1
        obtain ⟨N, hN⟩ : ∃ N : Nat, n = N := ⟨n.toNat, by omega⟩
        obtain ⟨K, hK⟩ : ∃ K : Nat, k = K := ⟨k.toNat, by omega⟩
        subst hN hK
        have HR := Lib.hid (partR_yes hnu (by omega))
        have HNX := Lib.hid hnu
        have HLR := Lib.hid (fun w => l5Parts_any N K w ⟨by omega, by omega⟩ ⟨by omega, by omega⟩ (by omega))
        have hkn2 : ¬ (N : Int) < (K : Int) := by omega
        clear hnu hk hr
        generalize partR N false K = R at *
        unfold rd at *
        go_enter Try.func27, Try.ntmps27
        go_wp2_with fail
        refine (HNU.out _).mono ?_
        rintro e w1 ⟨rfl, hb⟩
        have HX := Lib.hid (HX.out.next hb)
        have hx0 := HX.out.c0
        have hx1 := HX.out.c1
        clear hb
        rw [HNX.out]
        go_wp2_with fail
        refine (HLR.out _).mono ?_
        rintro e w2 ⟨v, us, rfl, ho, hb⟩
        have HO := Lib.hid (ho.widen (Nat.le_of_lt HX.out.size) (Nat.le_refl _))
        have HX := Lib.hid (HX.out.next hb)
        clear ho hb
        go_wp2_with fail
        go_ret2
        exact ownsTB_R HR.out HO.out HX.out.below
      · have HR := Lib.hid (partR_no (n := n) (g := false) (k := k) (fun h => hkn h.2.2))
        have HNX := Lib.hid hnu
        have hkn2 : n < k := by omega
        clear hnu hkn
        generalize partR n false k = R at *
        unfold rd at *
        go_enter Try.func27, Try.ntmps27
        go_wp2_with fail
        refine (HNU.out _).mono ?_
        rintro e w1 ⟨rfl, hb⟩
        have HX := Lib.hid (HX.out.next hb)
        have hx0 := HX.out.c0
        have hx1 := HX.out.c1
        clear hb
        rw [HNX.out]
        go_wp2_with fail
        go_ret2
        exact no_table HR.out HX.out rfl
    · have HR := Lib.hid (partR_no (n := n) (g := true) (k := k) (fun h => by cases h.2.1))
      have HNX := Lib.hid hnu
      clear hnu
      generalize partR n true k = R at *
      unfold rd at *
      go_enter Try.func27, Try.ntmps27
      go_wp2_with fail
      refine (HNU.out _).mono ?_
      rintro e w1 ⟨rfl, hb⟩
      have HX := Lib.hid (HX.out.next hb)
      have hx0 := HX.out.c0
      have hx1 := HX.out.c1
      clear hb
      rw [HNX.out]
      go_wp2_with fail
      go_ret2
      exact no_table HR.out HX.out rfl
end Go.Proofs.Ytefjignlhlpndaa
