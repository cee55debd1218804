/-
  What is proved: the contracts of MeetTable and WorstMeet of the model and of the program. Conditions: slices that read as lists of numbers; for the program the variable noMeeting is as it was laid.
-/
import Derived.Test.YtiokgnabiidlbaaDoorNei
import Derived.Test.YtiokgnabiidlbaaDoorNej
import Derived.Test.YtiokgnabiidlbaaDoorNee
namespace Go.Proofs.YtiokgnabiidlbaaDoor
open Go.RowKit
set_option linter.unusedVariables false
set_option linter.unusedSimpArgs false

/-- the table of two walkers -/
def tab2 (n : Int) (g : Bool) (k k2 : Wk) : List (List Int) := tabL (fromL n g k n.toNat) (fromL n g k2 n.toNat) n.toNat
theorem tab2_nat (N : Nat) (g : Bool) (k k2 : Wk) : tab2 N g k k2 = tabL (fromL N g k N) (fromL N g k2 N) N := rfl
theorem tab2_len (N : Nat) (g : Bool) (k k2 : Wk) : (tab2 N g k k2).length = N := tabL_len (by rw [fromL_len]; exact Nat.le_refl _)
theorem tab2_rows (N : Nat) (g : Bool) (k k2 : Wk) : ∀ (j : Nat) xs, (tab2 N g k k2)[j]? = some xs → xs.length = N ∧ ∀ x, x ∈ xs → -1 ≤ x := by
  intro j xs hj
  have hm := List.mem_of_getElem? hj
  unfold tab2 tabL at hm
  rw [List.mem_map] at hm
  obtain ⟨ys, _, rfl⟩ := hm
  refine ⟨by rw [rowL_len (Nat.le_refl _), fromL_len]; rfl, fun x hx => ?_⟩
  unfold rowL at hx
  rw [List.mem_map] at hx
  obtain ⟨zs, _, rfl⟩ := hx
  exact (meetT_low _).1
theorem tab2_sum (N : Nat) (g : Bool) (k k2 : Wk) : sumL (tab2 N g k k2) (tab2 N g k k2).length = N * N := by
  rw [sumL_rows (fun j xs h => (tab2_rows N g k k2 j xs h).1) (Nat.le_refl _), tab2_len]
theorem tab2_low (N : Nat) (g : Bool) (k k2 : Wk) : ∀ x, x ∈ catL (tab2 N g k k2) (tab2 N g k k2).length → -1 ≤ x := by
  intro x hx
  obtain ⟨p, xs, h, hm⟩ := cat_mem (Nat.le_refl _) hx
  exact (tab2_rows N g k k2 p xs h).2 x hm
theorem sq_bound {N : Nat} (h2 : 2 ≤ N) (h24 : N ≤ 24) : 0 < N * N ∧ N * N ≤ 1048576 := by
  have h1 : N * N ≤ 24 * 24 := Nat.mul_le_mul h24 h24
  have h3 : 2 * 2 ≤ N * N := Nat.mul_le_mul h2 h2
  omega
/-- the answer is a list of lists of its own, and a truth -/
def OwnsLB (base : Nat) (xss : List (List Int)) (b : Bool) (w : World) (e : Ending) (w' : World) : Prop :=
  ∃ v, e = .returned (.tuple #[v, .bool b]) ∧ OwnL base v xss w' ∧ Below base w w'
/-- what MeetTable answers -/
def mtabR (n : Int) (g : Bool) (k k2 : Wk) : List (List Int) × Bool := if (wkB n g k && wkB n g k2) = true then (tab2 n g k k2, true) else ([], false)
theorem ownsLB_R {base : Nat} {R : List (List Int) × Bool} {xss : List (List Int)} {b : Bool} {w w' : World} {v : Value} (hR : R = (xss, b)) (ho : OwnL base v xss w') (hb : Below base w w') : OwnsLB base R.1 R.2 w (.returned (.tuple #[v, .bool b])) w' := by
  rw [hR]
  exact ⟨v, rfl, ho, hb⟩
/-- what WorstMeet answers -/
def worstR (n : Int) (g : Bool) (k k2 : Wk) : Int × Bool := if (wkB n g k && wkB n g k2) = true then greatR (catL (tab2 n g k k2) (tab2 n g k k2).length) else (0, false)
theorem nat_of_ok {n : Int} {g : Bool} {k : Wk} (h : WkOK n g k) : ∃ N : Nat, n = N ∧ 2 ≤ N ∧ N ≤ 24 := ⟨n.toNat, by have := h.n2; omega, by have := h.n2; omega, by have := h.n24; omega⟩
set_option maxHeartbeats 800000 in
set_option maxRecDepth 20000 in
theorem spec_WorstMeet (n : Int) (g : Bool) (k : Wk) (m : Value) (k2 : Wk) (m2 : Value) (w : World) (hv : ReadsI w m k.ms) (hv2 : ReadsI w m2 k2.ms) :
    Calls Tryd.prog 5 #[rd n g, wkv k m, wkv k2 m2] w fun e w' => e = .returned (.tuple #[.int .i64 (worstR n g k k2).1, .bool (worstR n g k k2).2]) ∧ Below w.heap.size w w' := by
  have HBO := Lib.hid (fun w hv hv2 => l4Both_any n g k m k2 m2 w hv hv2)
  have HTB := Lib.hid (fun (N : Nat) (hn : n = N) w hv hv2 hk hk2 => (hn ▸ l4Table_any N g k m k2 m2 w hv hv2 (hn ▸ hk) (hn ▸ hk2) : Calls Tryd.prog 13 #[rd n g, wkv k m, wkv k2 m2] w fun e w' => ∃ z, e = .returned z ∧ OwnL w.heap.size z (tab2 n g k k2) w' ∧ Below w.heap.size w w'))
  have HLW := Lib.hid (fun v xss w hv => l4Worst_any v xss w hv)
  have HX := Lib.hid (Box3.first w n g k m k2 m2)
  have HV := Lib.hid hv
  have HV2 := Lib.hid hv2
  obtain ⟨ma, mc, rfl, _⟩ := hv
  obtain ⟨ma2, mc2, rfl, _⟩ := hv2
  generalize hml : k.ms.length = ml at *
  generalize hml2 : k2.ms.length = ml2 at *
  clear hml hml2
  unfold wkv rd at *
  go_enter Tryd.func5, Tryd.ntmps5
  go_wp2_with fail
  refine (HBO.out _ (HV.out.below HX.out.road.below) (HV2.out.below HX.out.road.below)).mono ?_
  rintro e w1 ⟨rfl, hb⟩
  have HX := Lib.hid (HX.out.next hb)
  clear hb
  have h0 := HX.out.road.c0
  have h1 := HX.out.road.c1
  have p0 := HX.out.one.cell 0
  have p1 := HX.out.one.cell 1
  have p2 := HX.out.one.cell 2
  have p3 := HX.out.one.cell 3
  have q0 := HX.out.two.cell 0
  have q1 := HX.out.two.cell 1
  have q2 := HX.out.two.cell 2
  have q3 := HX.out.two.cell 3
  cases hb : (wkB n g k && wkB n g k2)
  · have HR := Lib.hid (show worstR n g k k2 = (0, false) by unfold worstR; rw [if_neg (by rw [hb]; exact Bool.false_ne_true)])
    clear hb
    go_wp2_with fail
    go_ret2
    exact ⟨ret_RB HR.out, HX.out.road.below⟩
  · have HR := Lib.hid (show worstR n g k k2 = greatR (catL (tab2 n g k k2) (tab2 n g k k2).length) by unfold worstR; rw [if_pos hb])
    have hbb := Bool.and_eq_true_iff.1 hb
    have HK1 := Lib.hid ((wkB_iff n g k).1 hbb.1)
    have HK2 := Lib.hid ((wkB_iff n g k2).1 hbb.2)
    have hnn := nat_of_ok HK1.out
    clear hb hbb
    obtain ⟨N, hn, hN2, hN24⟩ := hnn
    have HNN := Lib.hid hn
    have HTL := Lib.hid (show (tab2 n g k k2).length = N by rw [hn]; exact tab2_len N g k k2)
    clear hn
    go_wp2_with fail
    refine (HTB.out N HNN.out _ (HV.out.below HX.out.road.below) (HV2.out.below HX.out.road.below) HK1.out HK2.out).mono ?_
    rintro e w2 ⟨z, rfl, ho, hb⟩
    have HX := Lib.hid (HX.out.next hb)
    have HRL := Lib.hid (ownL_reads ho (by rw [HTL.out]; unfold maxLen; omega))
    clear ho hb h0 h1 p0 p1 p2 p3 q0 q1 q2 q3
    go_wp2_with fail
    refine (HLW.out _ _ _ HRL.out).mono ?_
    rintro e w3 ⟨rfl, rfl⟩
    generalize hz : catL (tab2 n g k k2) (tab2 n g k k2).length = zs at *
    clear hz
    by_cases ht : worstZ zs < 0
    · have HG := Lib.hid (show worstR n g k k2 = (0, false) by rw [HR.out]; unfold greatR; rw [if_pos ht])
      clear HR
      generalize worstZ zs = t at *
      go_wp2_with fail
      go_ret2
      exact ⟨ret_RB HG.out, HX.out.road.below⟩
    · have HG := Lib.hid (show worstR n g k k2 = (worstZ zs, true) by rw [HR.out]; unfold greatR; rw [if_neg ht])
      clear HR
      generalize worstZ zs = t at *
      go_wp2_with fail
      go_ret2
      exact ⟨ret_RB HG.out, HX.out.road.below⟩
set_option maxHeartbeats 1600000 in
set_option maxRecDepth 20000 in
theorem impl_tab_yes (N : Nat) (g : Bool) (k : Wk) (m : Value) (k2 : Wk) (m2 : Value) (w : World) (hv : ReadsI w m k.ms) (hv2 : ReadsI w m2 k2.ms) (hN : NM w) (hk : WkOK N g k) (hk2 : WkOK N g k2) :
    Calls Tryd.prog 15 #[rd N g, wkv k m, wkv k2 m2] w (OwnsLB w.heap.size (tab2 N g k k2) true w) := by
  have hn24 : N ≤ 24 := by have := hk.n24; omega
  have HAW := Lib.hid (fun v w hv => (show Calls Tryd.prog 24 #[rd N g, v] w fun e w' => e = .returned (.bool true) ∧ Below w.heap.size w w' from by
    have h := areWalkers_two N g v k k2 w hv
    rw [(wkB_iff N g k).2 hk, (wkB_iff N g k2).2 hk2] at h
    exact h))
  have HF1 := Lib.hid (fun w hv => walksFromAll_any N g k m w hv hk)
  have HF2 := Lib.hid (fun w hv => walksFromAll_any N g k2 m2 w hv hk2)
  have HTB := Lib.hid (fun v u w hv hu hN => tableOf_any v (fromL N g k N) u (fromL N g k2 N) w hv hu hN (fromL_61 N g k N) (fromL_61 N g k2 N) (by rw [fromL_len]; omega) (by rw [fromL_len]; omega))
  have HX := Lib.hid (Box3.first w N g k m k2 m2)
  have HV := Lib.hid hv
  have HV2 := Lib.hid hv2
  obtain ⟨ma, mc, rfl, _⟩ := hv
  obtain ⟨ma2, mc2, rfl, _⟩ := hv2
  generalize hml : k.ms.length = ml at *
  generalize hml2 : k2.ms.length = ml2 at *
  clear hml hml2
  unfold wkv rd at *
  have HN := Lib.hid hN
  clear hN hk hk2
  go_enter Tryd.func15, Tryd.ntmps15
  go_wp2_with fail
  refine (HAW.out _ _ (walkers_two (HV.out.below HX.out.road.below) (HV2.out.below HX.out.road.below) _ (by simp))).mono ?_
  rintro e w1 ⟨rfl, hb⟩
  have HX := Lib.hid ((HX.out.next (below_new _ _)).next hb)
  clear hb
  go_wp2_with fail
  have HX := Lib.hid (HX.out.next (below_drewN _ 1))
  refine wp_region_noPanic ?_
  refine wp_region_held_drew (S := fun w' => w'.cell? ⟨w.heap.size, 0, none⟩ = some (.int .i64 N) ∧ w'.cell? ⟨w.heap.size, 1, none⟩ = some (.bool g) ∧ w'.cell? ⟨w.heap.size + 1, 0, none⟩ = some (.int .i64 k.s) ∧ w'.cell? ⟨w.heap.size + 1, 1, none⟩ = some (.int .i64 k.f) ∧ w'.cell? ⟨w.heap.size + 1, 2, none⟩ = some (.int .i64 k.d) ∧ w'.cell? ⟨w.heap.size + 1, 3, none⟩ = some (.slice ma ml mc) ∧ w'.cell? ⟨w.heap.size + 1 + 1, 0, none⟩ = some (.int .i64 k2.s) ∧ w'.cell? ⟨w.heap.size + 1 + 1, 1, none⟩ = some (.int .i64 k2.f) ∧ w'.cell? ⟨w.heap.size + 1 + 1, 2, none⟩ = some (.int .i64 k2.d) ∧ w'.cell? ⟨w.heap.size + 1 + 1, 3, none⟩ = some (.slice ma2 ml2 mc2)) (by kernel_rfl) (⟨HX.out.road.c0, HX.out.road.c1, HX.out.one.cell 0, HX.out.one.cell 1, HX.out.one.cell 2, HX.out.one.cell 3, HX.out.two.cell 0, HX.out.two.cell 1, HX.out.two.cell 2, HX.out.two.cell 3⟩) (fun hHeld => ?_)
  refine wpAnyH_take (i := 0) (oi := _) (v := ?_) rfl (by kernel_rfl) (by kernel_rfl) (by kernel_rfl) (fun _ _ _ h => h) (Or.inl ⟨by rfl, ?_⟩) (by assumption) ?_
  rotate_left
  · (intro w hSw; (try dsimp only at hSw); (first | (go_simp; done) | (go_simp; with_reducible rfl)))
  simp only [Act.put, List.getElem_toArray, List.getElem_cons_succ, List.getElem_cons_zero, List.setIfInBounds_toArray, List.set_cons_zero, List.set_cons_succ]
  refine wpAnyH_take (i := 1) (oi := _) (v := ?_) rfl (by kernel_rfl) (by kernel_rfl) (by kernel_rfl) (fun _ _ _ h => h) (Or.inl ⟨by rfl, ?_⟩) (by assumption) ?_
  rotate_left
  · (intro w hSw; (try dsimp only at hSw); (first | (go_simp; done) | (go_simp; with_reducible rfl)))
  simp only [Act.put, List.getElem_toArray, List.getElem_cons_succ, List.getElem_cons_zero, List.setIfInBounds_toArray, List.set_cons_zero, List.set_cons_succ]
  refine wpAnyH_take (i := 3) (oi := _) (v := ?_) rfl (by kernel_rfl) (by kernel_rfl) (by kernel_rfl) (fun _ _ _ h => h) (Or.inl ⟨by rfl, ?_⟩) (by assumption) ?_
  rotate_left
  · (intro w hSw; (try dsimp only at hSw); (first | (go_simp; done) | (go_simp; with_reducible rfl)))
  simp only [Act.put, List.getElem_toArray, List.getElem_cons_succ, List.getElem_cons_zero, List.setIfInBounds_toArray, List.set_cons_zero, List.set_cons_succ]
  refine wpAnyH_take (i := 4) (oi := _) (v := ?_) rfl (by kernel_rfl) (by kernel_rfl) (by kernel_rfl) (fun _ _ _ h => h) (Or.inl ⟨by rfl, ?_⟩) (by assumption) ?_
  rotate_left
  · (intro w hSw; (try dsimp only at hSw); (first | (go_simp; done) | (go_simp; with_reducible rfl)))
  simp only [Act.put, List.getElem_toArray, List.getElem_cons_succ, List.getElem_cons_zero, List.setIfInBounds_toArray, List.set_cons_zero, List.set_cons_succ]
  refine wpAnyH_ready (rs := [2]) (by kernel_rfl) (by simp) ?_
  refine AllReadyH.cons rfl (fun K hK => ?_) AllReadyH.nil
  go_simp
  refine (HF1.out _ (HV.out.below HX.out.road.below)).mono ?_
  rintro e w2 ⟨v1, rfl, ho, hb⟩
  have O1 := Lib.hid (ownL_reads ho (by rw [fromL_len]; unfold maxLen; omega))
  have HX := Lib.hid (HX.out.next hb)
  clear ho hb hHeld
  go_wp2_with fail
  refine hK.out _ _ (⟨HX.out.road.c0, HX.out.road.c1, HX.out.one.cell 0, HX.out.one.cell 1, HX.out.one.cell 2, HX.out.one.cell 3, HX.out.two.cell 0, HX.out.two.cell 1, HX.out.two.cell 2, HX.out.two.cell 3⟩) (fun hHeld => ?_)
  clear hK K
  refine wpAnyH_ready (rs := [5]) (by kernel_rfl) (by simp) ?_
  refine AllReadyH.cons rfl (fun K hK => ?_) AllReadyH.nil
  go_simp
  refine (HF2.out _ (HV2.out.below HX.out.road.below)).mono ?_
  rintro e w3 ⟨v2, rfl, ho, hb⟩
  have O1 := Lib.hid (O1.out.below hb)
  have O2 := Lib.hid (ownL_reads ho (by rw [fromL_len]; unfold maxLen; omega))
  have HX := Lib.hid (HX.out.next hb)
  clear ho hb hHeld
  go_wp2_with fail
  refine hK.out _ _ (⟨HX.out.road.c0, HX.out.road.c1, HX.out.one.cell 0, HX.out.one.cell 1, HX.out.one.cell 2, HX.out.one.cell 3, HX.out.two.cell 0, HX.out.two.cell 1, HX.out.two.cell 2, HX.out.two.cell 3⟩) (fun hHeld => ?_)
  clear hK K
  refine wpAnyH_ready (rs := [6]) (by kernel_rfl) (by simp) ?_
  refine AllReadyH.cons rfl (fun K hK => ?_) AllReadyH.nil
  go_simp
  refine (HTB.out _ _ _ O1.out O2.out (HN.out.below HX.out.road.below)).mono ?_
  rintro e w4 ⟨z, rfl, ho, hb⟩
  have O3 := Lib.hid (ownL_lower ho (show w.heap.size ≤ w3.heap.size by have := HX.out.lt; omega))
  have HX := Lib.hid (HX.out.next hb)
  clear ho hb hHeld
  go_wp2_with fail
  refine hK.out _ _ (⟨HX.out.road.c0, HX.out.road.c1, HX.out.one.cell 0, HX.out.one.cell 1, HX.out.one.cell 2, HX.out.one.cell 3, HX.out.two.cell 0, HX.out.two.cell 1, HX.out.two.cell 2, HX.out.two.cell 3⟩) (fun hHeld => ?_)
  clear hK K
  refine wpAnyH_take (i := 7) (oi := _) (v := ?_) rfl (by kernel_rfl) (by kernel_rfl) (by kernel_rfl) (fun _ _ _ h => h) (Or.inl ⟨by rfl, ?_⟩) (by assumption) ?_
  rotate_left
  · (intro w hSw; (try dsimp only at hSw); (first | (go_simp; done) | (go_simp; with_reducible rfl)))
  simp only [Act.put, List.getElem_toArray, List.getElem_cons_succ, List.getElem_cons_zero, List.setIfInBounds_toArray, List.set_cons_zero, List.set_cons_succ]
  refine wpAnyH_take (i := 8) (oi := _) (v := ?_) rfl (by kernel_rfl) (by kernel_rfl) (by kernel_rfl) (fun _ _ _ h => h) (Or.inl ⟨by rfl, ?_⟩) (by assumption) ?_
  rotate_left
  · (intro w hSw; (try dsimp only at hSw); (first | (go_simp; done) | (go_simp; with_reducible rfl)))
  simp only [Act.put, List.getElem_toArray, List.getElem_cons_succ, List.getElem_cons_zero, List.setIfInBounds_toArray, List.set_cons_zero, List.set_cons_succ]
  refine wpAnyH_done (by kernel_rfl) ?_ _
  refine NoPanic.normal ?_
  clear hHeld
  rw [fromL_len] at O3
  go_wp2_with fail
  go_ret2
  exact ⟨z, rfl, O3.out, HX.out.road.below⟩
set_option maxHeartbeats 800000 in
theorem impl_tab_no (n : Int) (g : Bool) (k : Wk) (m : Value) (k2 : Wk) (m2 : Value) (w : World) (hv : ReadsI w m k.ms) (hv2 : ReadsI w m2 k2.ms) (hno : (wkB n g k && wkB n g k2) = false) :
    Calls Tryd.prog 15 #[rd n g, wkv k m, wkv k2 m2] w (OwnsLB w.heap.size [] false w) := by
  have HAW := Lib.hid (fun v w hv => (show Calls Tryd.prog 24 #[rd n g, v] w fun e w' => e = .returned (.bool false) ∧ Below w.heap.size w w' from by
    have h := areWalkers_two n g v k k2 w hv
    rw [hno] at h
    exact h))
  have HX := Lib.hid (Box3.first w n g k m k2 m2)
  have HV := Lib.hid hv
  have HV2 := Lib.hid hv2
  obtain ⟨ma, mc, rfl, _⟩ := hv
  obtain ⟨ma2, mc2, rfl, _⟩ := hv2
  generalize hml : k.ms.length = ml at *
  generalize hml2 : k2.ms.length = ml2 at *
  clear hml hml2
  unfold wkv rd at *
  clear hno
  go_enter Tryd.func15, Tryd.ntmps15
  go_wp2_with fail
  refine (HAW.out _ _ (walkers_two (HV.out.below HX.out.road.below) (HV2.out.below HX.out.road.below) _ (by simp))).mono ?_
  rintro e w1 ⟨rfl, hb⟩
  have HX := Lib.hid ((HX.out.next (below_new _ _)).next hb)
  have HO := Lib.hid (ownL_new w1 w.heap.size w1.heap.size rfl (by have := HX.out.lt; omega))
  clear hb
  go_wp2_with fail
  go_ret2
  exact ⟨_, rfl, HO.out, (HX.out.next (below_new _ _)).road.below⟩
theorem impl_MeetTable (n : Int) (g : Bool) (k : Wk) (m : Value) (k2 : Wk) (m2 : Value) (w : World) (hv : ReadsI w m k.ms) (hv2 : ReadsI w m2 k2.ms) (hN : NM w) :
    Calls Tryd.prog 15 #[rd n g, wkv k m, wkv k2 m2] w (OwnsLB w.heap.size (mtabR n g k k2).1 (mtabR n g k k2).2 w) := by
  unfold mtabR
  by_cases hb : (wkB n g k && wkB n g k2) = true
  · rw [if_pos hb]
    have hbb := Bool.and_eq_true_iff.1 hb
    have hk := (wkB_iff n g k).1 hbb.1
    have hk2 := (wkB_iff n g k2).1 hbb.2
    obtain ⟨N, rfl, _, _⟩ := nat_of_ok hk
    exact impl_tab_yes N g k m k2 m2 w hv hv2 hN hk hk2
  · rw [if_neg hb]
    exact impl_tab_no n g k m k2 m2 w hv hv2 (by simpa using hb)
set_option maxHeartbeats 800000 in
set_option maxRecDepth 20000 in
theorem impl_WorstMeet (n : Int) (g : Bool) (k : Wk) (m : Value) (k2 : Wk) (m2 : Value) (w : World) (hv : ReadsI w m k.ms) (hv2 : ReadsI w m2 k2.ms) (hN : NM w) :
    Calls Tryd.prog 8 #[rd n g, wkv k m, wkv k2 m2] w fun e w' => e = .returned (.tuple #[.int .i64 (worstR n g k k2).1, .bool (worstR n g k k2).2]) ∧ Below w.heap.size w w' := by
  have HMT := Lib.hid (fun w hv hv2 hN => impl_MeetTable n g k m k2 m2 w hv hv2 hN)
  have HGN := Lib.hid (fun v w => great_no v w)
  have HGA := Lib.hid (fun v zs w hv h0 h1 hl => great_any v zs w hv h0 h1 hl)
  have HC0 := Lib.hid (fun y c w => concat_none y c w)
  have HX := Lib.hid (Box3.first w n g k m k2 m2)
  have HV := Lib.hid hv
  have HV2 := Lib.hid hv2
  obtain ⟨ma, mc, rfl, _⟩ := hv
  obtain ⟨ma2, mc2, rfl, _⟩ := hv2
  generalize hml : k.ms.length = ml at *
  generalize hml2 : k2.ms.length = ml2 at *
  clear hml hml2
  unfold wkv rd at *
  have HN := Lib.hid hN
  clear hN
  go_enter Tryd.func8, Tryd.ntmps8
  go_wp2_with fail
  refine (HMT.out _ (HV.out.below HX.out.road.below) (HV2.out.below HX.out.road.below) (HN.out.below HX.out.road.below)).mono ?_
  rintro e w1 ⟨z, rfl, ho, hb⟩
  have HX := Lib.hid (HX.out.next hb)
  have HO := Lib.hid ho
  clear ho hb
  cases hb : (wkB n g k && wkB n g k2)
  · have HR := Lib.hid (show worstR n g k k2 = (0, false) by unfold worstR; rw [if_neg (by rw [hb]; exact Bool.false_ne_true)])
    have HT := Lib.hid (show mtabR n g k k2 = ([], false) by unfold mtabR; rw [if_neg (by rw [hb]; exact Bool.false_ne_true)])
    rw [HT.out] at HO ⊢
    have HRN := ownL_readsN HO.out (fun j xs hj e => by simp at hj) (by simp)
    obtain ⟨y, yc, rfl, _⟩ := HRN
    clear hb HT
    go_wp2_with fail
    refine (HC0.out _ _ _).mono ?_
    rintro e w2 ⟨rfl, rfl⟩
    go_wp2_with fail
    refine (HGN.out _ _).mono ?_
    rintro e w3 ⟨rfl, rfl⟩
    go_wp2_with fail
    go_ret2
    exact ⟨ret_RB HR.out, HX.out.road.below⟩
  · have HR := Lib.hid (show worstR n g k k2 = greatR (catL (tab2 n g k k2) (tab2 n g k k2).length) by unfold worstR; rw [if_pos hb])
    have HT := Lib.hid (show mtabR n g k k2 = (tab2 n g k k2, true) by unfold mtabR; rw [if_pos hb])
    rw [HT.out] at HO ⊢
    have hbb := Bool.and_eq_true_iff.1 hb
    have hk := (wkB_iff n g k).1 hbb.1
    obtain ⟨N, hn, hN2, hN24⟩ := nat_of_ok hk
    have HS0 := Lib.hid (show 0 < sumL (tab2 n g k k2) (tab2 n g k k2).length by rw [hn, tab2_sum]; exact (sq_bound hN2 hN24).1)
    have HS1 := Lib.hid (show sumL (tab2 n g k k2) (tab2 n g k k2).length ≤ 1048576 by rw [hn, tab2_sum]; exact (sq_bound hN2 hN24).2)
    have HLO := Lib.hid (show ∀ x, x ∈ catL (tab2 n g k k2) (tab2 n g k k2).length → -1 ≤ x by rw [hn]; exact tab2_low N g k k2)
    have HRN := Lib.hid (ownL_readsN HO.out (fun j xs hj e => by
      rw [hn] at hj
      have := (tab2_rows N g k k2 j xs hj).1
      rw [e] at this
      simp at this
      omega) (by rw [hn, tab2_len]; unfold maxLen; omega))
    have HCC := Lib.hid (fun w hv => concat_any z (tab2 n g k k2) w hv HS0.out HS1.out)
    have hzl := catL_sum (tab2 n g k k2) (tab2 n g k k2).length
    generalize hz : catL (tab2 n g k k2) (tab2 n g k k2).length = zs at *
    have hzs0 : 0 < zs.length := by have := HS0.out; omega
    have hzs1 : zs.length ≤ 1048576 := by have := HS1.out; omega
    obtain ⟨y, yc, hzz, _⟩ := HRN.out
    subst hzz
    clear hb hbb hk hn HT hz hzl
    go_wp2_with fail
    refine (HCC.out _ HRN.out).mono ?_
    rintro e w2 ⟨u, rfl, ho, hb⟩
    have HRI := Lib.hid (owns_reads ho (by unfold maxLen; omega))
    have HX := Lib.hid (HX.out.next hb)
    clear ho hb
    go_wp2_with fail
    refine (HGA.out _ _ _ HRI.out hzs0 hzs1 HLO.out).mono ?_
    rintro e w3 ⟨rfl, rfl⟩
    rw [← HR.out]
    generalize hR : worstR n g k k2 = R
    obtain ⟨a, b⟩ := R
    have HRR := Lib.hid hR
    clear hR
    go_wp2_with fail
    go_ret2
    exact ⟨ret_RB HRR.out, HX.out.road.below⟩
end Go.Proofs.YtiokgnabiidlbaaDoor
