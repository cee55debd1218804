/-
  What is proved: the model's JoinPatrols, and plain facts on it. Conditions: slices that read as tables.
-/
import Derived.Test.YtefjignlhlpndaaJnb
import Derived.Test.YtefjignlhlpndaaSpb
import Derived.Test.YtefjignlhlpndaaPte
import Derived.Test.YtefjignlhlpndaaRgb
import Derived.Test.YtefjignlhlpndaaGcd
namespace Go.Proofs.Ytefjignlhlpndaa
open Go.RowKit
set_option linter.unusedVariables false
set_option linter.unusedSimpArgs false

theorem join_nums {a b : Nat} (ha : 1 ≤ a ∧ a ≤ 60) (hb : 1 ≤ b ∧ b ≤ 60) :
    (1 ≤ b / Nat.gcd a b ∧ b / Nat.gcd a b ≤ 60) ∧ (1 ≤ a / Nat.gcd a b ∧ a / Nat.gcd a b ≤ 60) ∧ a / Nat.gcd a b * b = a * (b / Nat.gcd a b) ∧ a / Nat.gcd a b * b = b * (a / Nat.gcd a b) ∧ a / Nat.gcd a b * b ≤ 3600 ∧ 1 ≤ Nat.gcd a b := by
  obtain ⟨p, hp⟩ := Nat.gcd_dvd_left a b
  obtain ⟨q, hq⟩ := Nat.gcd_dvd_right a b
  have hd : 0 < Nat.gcd a b := Nat.gcd_pos_of_pos_left _ (by omega)
  generalize Nat.gcd a b = d at *
  subst hp hq
  rw [Nat.mul_div_cancel_left _ hd, Nat.mul_div_cancel_left _ hd]
  have hp0 : 0 < p := Nat.pos_of_ne_zero (fun e => by subst e; simp at ha)
  have hq0 : 0 < q := Nat.pos_of_ne_zero (fun e => by subst e; simp at hb)
  have hp1 : p ≤ d * p := Nat.le_mul_of_pos_left _ hd
  have hq1 : q ≤ d * q := Nat.le_mul_of_pos_left _ hd
  refine ⟨⟨hq0, by omega⟩, ⟨hp0, by omega⟩, ?_, Nat.mul_comm _ _, Nat.le_trans (Nat.mul_le_mul (by omega : p ≤ 60) hb.2) (by decide), hd⟩
  rw [← Nat.mul_assoc, Nat.mul_comm p d]
/-- the rounds of two patrols, so often repeated that all have the least common period -/
def joinT (xss yss : List (List Int)) : List (List Int) :=
  tabF (chgT (repT ((yss.getD 0 []).length / Nat.gcd (xss.getD 0 []).length (yss.getD 0 []).length)) xss) xss.length ++
    tabF (chgT (repT ((xss.getD 0 []).length / Nat.gcd (xss.getD 0 []).length (yss.getD 0 []).length)) yss) yss.length
/-- what JoinPatrols answers -/
noncomputable def joinPR (n : Int) (g : Bool) (xss yss : List (List Int)) : List (List Int) × Bool :=
  if patD n g xss = true ∧ patD n g yss = true ∧ patD n g (joinT xss yss) = true then (joinT xss yss, true) else ([], false)
theorem joinPR_no {n : Int} {g : Bool} {xss yss : List (List Int)} (h : ¬ (patD n g xss = true ∧ patD n g yss = true ∧ patD n g (joinT xss yss) = true)) : joinPR n g xss yss = ([], false) := by unfold joinPR; rw [if_neg h]
theorem joinPR_yes {n : Int} {g : Bool} {xss yss : List (List Int)} (h : patD n g xss = true) (h2 : patD n g yss = true) (h3 : patD n g (joinT xss yss) = true) : joinPR n g xss yss = (joinT xss yss, true) := by unfold joinPR; rw [if_pos ⟨h, h2, h3⟩]
theorem joinT_rows {n : Int} {g : Bool} {xss yss : List (List Int)} (h : patD n g xss = true) (h2 : patD n g yss = true) : (joinT xss yss).length ≤ 12 ∧ ∀ (j : Nat) zs, (joinT xss yss)[j]? = some zs → zs.length ≤ 3600 := by
  have hx := (patD_iff n g xss).1 h
  have hy := (patD_iff n g yss).1 h2
  obtain ⟨L, hL1, hL60, hL0, hrx⟩ := pat_rows hx
  obtain ⟨M, hM1, hM60, hM0, hry⟩ := pat_rows hy
  have hj := join_nums (a := L) (b := M) ⟨hL1, hL60⟩ ⟨hM1, hM60⟩
  unfold joinT
  rw [hL0, hM0]
  refine ⟨by rw [List.length_append, tabF_len, tabF_len]; have := hx.2.1; have := hy.2.1; omega, fun j zs hz => ?_⟩
  have row : ∀ (c K : Nat) (wss : List (List Int)) (i : Nat) zs, c ≤ 60 → K ≤ 60 → (∀ (j : Nat) xs, wss[j]? = some xs → xs.length = K) → (tabF (chgT (repT c) wss) wss.length)[i]? = some zs → zs.length ≤ 3600 := by
    intro c K wss i zs hc hK hr hi
    have hil : i < wss.length := by have := (List.getElem?_eq_some_iff.1 hi).1; rw [tabF_len] at this; exact this
    obtain ⟨xs, hxs⟩ := get_some hil
    rw [tabF_at _ _ _ hil] at hi
    cases hi
    rw [chgT_at hxs]
    unfold repT
    rw [rowF_len, hr i xs hxs]
    exact mul_bound hK hc
  by_cases hjl : j < xss.length
  · rw [List.getElem?_append_left (by rw [tabF_len]; exact hjl)] at hz
    exact row _ L xss j zs hj.1.2 hL60 (fun j xs h => (hrx j xs h).1) hz
  · rw [List.getElem?_append_right (by rw [tabF_len]; omega)] at hz
    exact row _ M yss _ zs hj.2.1.2 hM60 (fun j xs h => (hry j xs h).1) hz
theorem joinT_size {n : Int} {g : Bool} {xss yss : List (List Int)} (h : patD n g xss = true) (h2 : patD n g yss = true) : sizeT (joinT xss yss) ≤ 1048576 := by
  obtain ⟨h3, h4⟩ := joinT_rows h h2
  exact Nat.le_trans (size_le (K := 12) (L := 3600) h4 h3) (by decide)
theorem joinPR_size (n : Int) (g : Bool) (xss yss : List (List Int)) : sizeT (joinPR n g xss yss).1 ≤ 1048576 := by
  unfold joinPR
  split
  · rename_i h
    exact joinT_size h.1 h.2.1
  · simp [sizeT, lenTo]
/-- one table appended to another -/
theorem ownT_concat2 {lo hi lo2 hi2 : Nat} {v v2 v' : Value} {us us2 : List Value} {xss yss : List (List Int)} {w w' : World} (h : OwnT lo hi v us xss w) (h2 : OwnT lo2 hi2 v2 us2 yss w) (hh : hi ≤ lo2) (hl : lo ≤ lo2)
    (hown : w'.ownsRow lo 43 1 v' (xss.length + yss.length) (us ++ us2)) (hg : w.grownBy w' v.ownBlock) : OwnT lo w'.heap.size v' (us ++ us2) (xss ++ yss) w' :=
  ownT_concat h h2 hh hl hown (fun b cs hb => hg.block b (Array.getElem?_eq_some_iff.1 hb).1 (fun e => by
    obtain ⟨_, _, cs2, hc⟩ := row_block h.top b e.symm
    rw [hb] at hc
    cases hc))
/-- a table that is not empty lies in a block -/
theorem ownT_cells {lo hi n c : Nat} {a : Option Addr} {us : List Value} {xss : List (List Int)} {w : World} (h : OwnT lo hi (.slice a n c) us xss w) (h0 : 0 < xss.length) :
    ∃ b, a = some ⟨b, 0, none⟩ ∧ b < w.heap.size ∧ (∀ (j : Nat) u, us[j]? = some u → w.cell? ⟨b, 0 + j, none⟩ = some u) ∧ ∀ u ∈ us, u.oneCell' = true := by
  rcases h.top.2 with ⟨_, h0'⟩ | ⟨g, cap, cur, hv, hg, hb, hnc, hcm, hcs, ht⟩
  · omega
  · cases hv
    refine ⟨g, rfl, (Array.getElem?_eq_some_iff.1 hb).1, fun j u hj => ?_, fun u hu => ?_⟩
    · have hju : j < us.length := (List.getElem?_eq_some_iff.1 hj).1
      have hlu := h.len
      have hu2 : cur.toList[j]? = some u := by
        rw [← hj, ← ht, List.getElem?_take, if_pos (by omega)]
      have hu3 : cur[j]? = some u := by rw [← hu2]; exact (Array.getElem?_toList).symm
      rw [Nat.zero_add]
      simp only [World.cell?, hb]
      exact hu3
    · obtain ⟨j, hj⟩ := List.getElem?_of_mem hu
      obtain ⟨xs, hx⟩ := row_at h.len hj
      obtain ⟨y, c2, rfl, _⟩ := row_shape (h.row j u xs hj hx)
      rfl
/-- the rows' tables of a patrol -/
theorem pat_top {n : Int} {g : Bool} {xss : List (List Int)} {w : World} {v : Value} (h : PatP n g xss) (hv : ReadsL w v xss) : ∃ b o a2 c2 vc, v = .slice (some ⟨b, o, none⟩) xss.length vc ∧ xss.length ≤ vc ∧ b < w.heap.size ∧ w.cell? ⟨b, o, none⟩ = some (.slice a2 (xss.getD 0 []).length c2) := by
  obtain ⟨ys, hys⟩ := get_some (xs := xss) (k := 0) (by have := h.1; omega)
  have hv2 := hv
  obtain ⟨va, vc, rfl, hvc, _⟩ := hv2
  obtain ⟨b, o, a2, c2, rfl, hbl, hc, _⟩ := lists_in hv hys
  exact ⟨b, o, a2, c2, vc, rfl, hvc, hbl, by rw [show (xss.getD 0 []).length = ys.length by simp [List.getD, hys]]; exact hc⟩
set_option maxHeartbeats 3200000 in
set_option maxRecDepth 20000 in
theorem spec_JoinPatrols (n : Int) (g : Bool) (v v2 : Value) (xss yss : List (List Int)) (w : World) (hv : ReadsL w v xss) (hv2 : ReadsL w v2 yss) :
    Calls Try.prog 35 #[rd n g, v, v2] w (OwnsTB w.heap.size (joinPR n g xss yss).1 (joinPR n g xss yss).2 w) := by
  obtain ⟨i1, ji, jz0, jz1, jz2⟩ := info_parts infoTab
  have HGO := Lib.hid (fun v xss w hv => l5Good_any n g v xss w hv)
  have HPA := Lib.hid (fun v xss w hv => l5Patrol_is n g v xss w hv)
  have HX := Lib.hid (Boxed.first w n g 28)
  have HV := Lib.hid hv
  have HV2 := Lib.hid hv2
  cases hp : patD n g xss
  · have HR := Lib.hid (joinPR_no (n := n) (g := g) (xss := xss) (yss := yss) (fun h => by rw [hp] at h; cases h.1))
    have HP := Lib.hid hp
    clear hp
    generalize joinPR n g xss yss = R at *
    unfold rd at *
    go_enter Try.func35, Try.ntmps35
    go_wp2_with fail
    refine (HGO.out _ _ _ (HV.out.below HX.out.below)).mono ?_
    rintro e w1 ⟨rfl, hb⟩
    have HX := Lib.hid (HX.out.next hb)
    have hx0 := HX.out.c0
    have hx1 := HX.out.c1
    clear hb
    rw [HP.out]
    go_wp2_with fail
    go_ret2
    exact no_table HR.out HX.out rfl
  · cases hq : patD n g yss
    · have HR := Lib.hid (joinPR_no (n := n) (g := g) (xss := xss) (yss := yss) (fun h => by rw [hq] at h; cases h.2.1))
      have HP := Lib.hid hp
      have HQ := Lib.hid hq
      clear hp hq
      generalize joinPR n g xss yss = R at *
      unfold rd at *
      go_enter Try.func35, Try.ntmps35
      go_wp2_with fail
      refine (HGO.out _ _ _ (HV.out.below HX.out.below)).mono ?_
      rintro e w1 ⟨rfl, hb⟩
      have HX := Lib.hid (HX.out.next hb)
      have hx0 := HX.out.c0
      have hx1 := HX.out.c1
      clear hb
      rw [HP.out]
      go_wp2_with fail
      refine (HPA.out _ _ _ (HV2.out.below HX.out.below)).mono ?_
      rintro e w2 ⟨rfl, hb⟩
      have HX := Lib.hid (HX.out.next hb)
      clear hb hx0 hx1
      rw [HQ.out]
      go_wp2_with fail
      go_ret2
      exact no_table HR.out HX.out rfl
    · have hpx := (patD_iff n g xss).1 hp
      have hpy := (patD_iff n g yss).1 hq
      obtain ⟨L, hL1, hL60, hL0, hrx⟩ := pat_rows hpx
      obtain ⟨M, hM1, hM60, hM0, hry⟩ := pat_rows hpy
      have hN := join_nums (a := L) (b := M) ⟨hL1, hL60⟩ ⟨hM1, hM60⟩
      obtain ⟨b, o, a2, c2, vc, rfl, hvc, hbl, hcx⟩ := pat_top hpx hv
      obtain ⟨b3, o3, a4, c4, vc2, rfl, hvc2, hbl2, hcy⟩ := pat_top hpy hv2
      have HLA := Lib.hid (fun w hv => l5Long_any (.slice (some ⟨b, o, none⟩) xss.length vc) xss L (M / Nat.gcd L M) (L / Nat.gcd L M * M) w hv (fun j xs h => (hrx j xs h).1) ⟨hL1, hL60⟩ hN.1 hpx.2.1 hN.2.2.1)
      have HLB := Lib.hid (fun w hv => l5Long_any (.slice (some ⟨b3, o3, none⟩) yss.length vc2) yss M (L / Nat.gcd L M) (L / Nat.gcd L M * M) w hv (fun j xs h => (hry j xs h).1) ⟨hM1, hM60⟩ hN.2.1 hpy.2.1 hN.2.2.2.1)
      have HGC := Lib.hid (fun w => l3Gcd_any L M w (by omega) (by omega))
      have hJT : joinT xss yss = tabF (chgT (repT (M / Nat.gcd L M)) xss) xss.length ++ tabF (chgT (repT (L / Nat.gcd L M)) yss) yss.length := by unfold joinT; rw [hL0, hM0]
      have hJR := joinT_rows hp hq
      have HTA := Lib.hid (tabF_len (chgT (repT (M / Nat.gcd L M)) xss) xss.length)
      have HTB := Lib.hid (tabF_len (chgT (repT (L / Nat.gcd L M)) yss) yss.length)
      have HJR := Lib.hid hJR
      have HP := Lib.hid hp
      have HQ := Lib.hid hq
      have hx6 := hpx.2.1
      have hy6 := hpy.2.1
      have hx1 : 0 < xss.length := hpx.1
      have hy1 : 0 < yss.length := hpy.1
      rw [hL0] at hcx
      rw [hM0] at hcy
      have HJY := Lib.hid (fun (h : patD n g (joinT xss yss) = true) => joinPR_yes hp hq h)
      have HJN := Lib.hid (fun (h : patD n g (joinT xss yss) = false) => joinPR_no (n := n) (g := g) (xss := xss) (yss := yss) (fun h2 => by rw [h] at h2; cases h2.2.2))
      generalize tabF (chgT (repT (M / Nat.gcd L M)) xss) xss.length = TA at *
      generalize tabF (chgT (repT (L / Nat.gcd L M)) yss) yss.length = TB at *
      have HJT := Lib.hid hJT
      generalize joinPR n g xss yss = R at *
      clear hrx hry hL0 hM0 hJR hp hq hpx hpy hJT hv hv2
      obtain ⟨d, hd⟩ : ∃ d, d = Nat.gcd L M := ⟨_, rfl⟩
      rw [← hd] at hN HLA HLB HGC
      clear hd
      obtain ⟨⟨hc1, hc2⟩, ⟨hc3, hc4⟩, _, _, hP60, hd1⟩ := hN
      have hdL : (L : Int).tdiv (d : Int) = ((L / d : Nat) : Int) := rfl
      have hd0 : ¬ d = 0 := by omega
      have hd0b : ((d : Int) == 0) = false := by simp; omega
      obtain ⟨e1, he1⟩ : ∃ e1, e1 = L / d := ⟨_, rfl⟩
      rw [← he1] at hdL hP60 HLA HLB hc3 hc4
      have hw1 : IntKind.i64.wrap (e1 : Int) = (e1 : Int) := IntWalk.i64_in _ (by omega)
      obtain ⟨P, hP⟩ : ∃ P, P = e1 * M := ⟨_, rfl⟩
      rw [← hP] at hP60 HLA HLB
      have hw2 : IntKind.i64.wrap ((e1 : Int) * (M : Int)) = (P : Int) := by rw [show (e1 : Int) * (M : Int) = ((P : Nat) : Int) by rw [hP]; push_cast; rfl]; exact IntWalk.i64_in _ (by omega)
      clear he1 hP hc1 hc2
      generalize M / d = e2 at *
      have HCX := Lib.hid hcx
      have HCY := Lib.hid hcy
      clear hcx hcy
      unfold rd at *
      go_enter Try.func35, Try.ntmps35
      go_wp2_with fail
      refine (HGO.out _ _ _ (HV.out.below HX.out.below)).mono ?_
      rintro e w1 ⟨rfl, hb⟩
      have HX := Lib.hid (HX.out.next hb)
      have hx0 := HX.out.c0
      have hx1' := HX.out.c1
      clear hb
      rw [HP.out]
      go_wp2_with fail
      refine (HPA.out _ _ _ (HV2.out.below HX.out.below)).mono ?_
      rintro e w2 ⟨rfl, hb⟩
      have HX := Lib.hid (HX.out.next hb)
      clear hb hx0 hx1'
      rw [HQ.out]
      go_wp2_with fail
      refine wp_region_noPanic ?_
      have HX := Lib.hid (HX.out.next (below_drewN _ 1))
      refine wp_region_held_drew (S := fun w' => Boxed w.heap.size n g w w' ∧ w'.cell? ⟨b, o, none⟩ = some (.slice a2 L c2) ∧ w'.cell? ⟨b3, o3, none⟩ = some (.slice a4 M c4)) (by kernel_rfl) (⟨HX.out, (HX.out.below.cell (p := ⟨b, o, none⟩) hbl).trans HCX.out, (HX.out.below.cell (p := ⟨b3, o3, none⟩) hbl2).trans HCY.out⟩) (fun hHeld => ?_)
      refine wpAnyH_take (i := 0) (oi := _) (v := ?_) rfl (by kernel_rfl) (by kernel_rfl) (by kernel_rfl) (fun _ _ _ h => h) (Or.inl ⟨by rfl, ?_⟩) (by assumption) ?_
      rotate_left
      · (intro w hSw; (try dsimp only at hSw); (first | (go_simp; done) | (go_simp; with_reducible rfl)))
      simp only [Act.put, List.getElem_toArray, List.getElem_cons_succ, List.getElem_cons_zero, List.setIfInBounds_toArray, List.set_cons_zero, List.set_cons_succ]
      refine wpAnyH_take (i := 1) (oi := _) (v := ?_) rfl (by kernel_rfl) (by kernel_rfl) (by kernel_rfl) (fun _ _ _ h => h) (Or.inl ⟨by rfl, ?_⟩) (by assumption) ?_
      rotate_left
      · (intro w hSw; (try dsimp only at hSw); (first | (go_simp; done) | (go_simp; with_reducible rfl)))
      simp only [Act.put, List.getElem_toArray, List.getElem_cons_succ, List.getElem_cons_zero, List.setIfInBounds_toArray, List.set_cons_zero, List.set_cons_succ]
      refine wpAnyH_take (i := 2) (oi := _) (v := ?_) rfl (by kernel_rfl) (by kernel_rfl) (by kernel_rfl) (fun _ _ _ h => h) (Or.inl ⟨by rfl, ?_⟩) (by assumption) ?_
      rotate_left
      · (intro w hSw; (try dsimp only at hSw); (first | (go_simp; done) | (go_simp; with_reducible rfl)))
      simp only [Act.put, List.getElem_toArray, List.getElem_cons_succ, List.getElem_cons_zero, List.setIfInBounds_toArray, List.set_cons_zero, List.set_cons_succ]
      refine wpAnyH_take (i := 3) (oi := _) (v := ?_) rfl (by kernel_rfl) (by kernel_rfl) (by kernel_rfl) (fun _ _ _ h => h) (Or.inl ⟨by rfl, ?_⟩) (by assumption) ?_
      rotate_left
      · (intro w hSw; (try dsimp only at hSw); (first | (go_simp; done) | (go_simp; with_reducible rfl)))
      simp only [Act.put, List.getElem_toArray, List.getElem_cons_succ, List.getElem_cons_zero, List.setIfInBounds_toArray, List.set_cons_zero, List.set_cons_succ]
      refine wpAnyH_take (i := 4) (oi := _) (v := ?_) rfl (by kernel_rfl) (by kernel_rfl) (by kernel_rfl) (fun _ _ _ h => h) (Or.inl ⟨by rfl, ?_⟩) (by assumption) ?_
      rotate_left
      · (intro w hSw; (try dsimp only at hSw); (first | (go_simp; done) | (go_simp; with_reducible rfl)))
      simp only [Act.put, List.getElem_toArray, List.getElem_cons_succ, List.getElem_cons_zero, List.setIfInBounds_toArray, List.set_cons_zero, List.set_cons_succ]
      refine wpAnyH_take (i := 5) (oi := _) (v := ?_) rfl (by kernel_rfl) (by kernel_rfl) (by kernel_rfl) (fun _ _ _ h => h) (Or.inl ⟨by rfl, ?_⟩) (by assumption) ?_
      rotate_left
      · (intro w hSw; (try dsimp only at hSw); (first | (go_simp; done) | (go_simp; with_reducible rfl)))
      simp only [Act.put, List.getElem_toArray, List.getElem_cons_succ, List.getElem_cons_zero, List.setIfInBounds_toArray, List.set_cons_zero, List.set_cons_succ]
      refine wpAnyH_take (i := 6) (oi := _) (v := ?_) rfl (by kernel_rfl) (by kernel_rfl) (by kernel_rfl) (fun _ _ _ h => h) (Or.inl ⟨by rfl, ?_⟩) (by assumption) ?_
      rotate_left
      · (intro w hSw; (try dsimp only at hSw); (first | (go_simp; done) | (go_simp; with_reducible rfl)))
      simp only [Act.put, List.getElem_toArray, List.getElem_cons_succ, List.getElem_cons_zero, List.setIfInBounds_toArray, List.set_cons_zero, List.set_cons_succ]
      refine wpAnyH_take (i := 7) (oi := _) (v := ?_) rfl (by kernel_rfl) (by kernel_rfl) (by kernel_rfl) (fun _ _ _ h => h) (Or.inl ⟨by rfl, ?_⟩) (by assumption) ?_
      rotate_left
      · (intro w hSw; (try dsimp only at hSw); (first | (go_simp; done) | (go_simp; with_reducible rfl)))
      simp only [Act.put, List.getElem_toArray, List.getElem_cons_succ, List.getElem_cons_zero, List.setIfInBounds_toArray, List.set_cons_zero, List.set_cons_succ]
      refine wpAnyH_take (i := 8) (oi := _) (v := ?_) rfl (by kernel_rfl) (by kernel_rfl) (by kernel_rfl) (fun _ _ _ h => h) (Or.inl ⟨by rfl, ?_⟩) (by assumption) ?_
      rotate_left
      · (intro w hSw; (try dsimp only at hSw); (first | (go_simp; done) | (go_simp; with_reducible rfl)))
      simp only [Act.put, List.getElem_toArray, List.getElem_cons_succ, List.getElem_cons_zero, List.setIfInBounds_toArray, List.set_cons_zero, List.set_cons_succ]
      refine wpAnyH_take (i := 9) (oi := _) (v := ?_) rfl (by kernel_rfl) (by kernel_rfl) (by kernel_rfl) (fun _ _ _ h => h) (Or.inl ⟨by rfl, ?_⟩) (by assumption) ?_
      rotate_left
      · (intro w hSw; (try dsimp only at hSw); (first | (go_simp; done) | (go_simp; with_reducible rfl)))
      simp only [Act.put, List.getElem_toArray, List.getElem_cons_succ, List.getElem_cons_zero, List.setIfInBounds_toArray, List.set_cons_zero, List.set_cons_succ]
      refine wpAnyH_take (i := 10) (oi := _) (v := ?_) rfl (by kernel_rfl) (by kernel_rfl) (by kernel_rfl) (fun _ _ _ h => h) (Or.inl ⟨by rfl, ?_⟩) (by assumption) ?_
      rotate_left
      · (intro w hSw; (try dsimp only at hSw); (first | (go_simp; done) | (go_simp; with_reducible rfl)))
      simp only [Act.put, List.getElem_toArray, List.getElem_cons_succ, List.getElem_cons_zero, List.setIfInBounds_toArray, List.set_cons_zero, List.set_cons_succ]
      refine wpAnyH_take (i := 11) (oi := _) (v := ?_) rfl (by kernel_rfl) (by kernel_rfl) (by kernel_rfl) (fun _ _ _ h => h) (Or.inl ⟨by rfl, ?_⟩) (by assumption) ?_
      rotate_left
      · (intro w hSw; (try dsimp only at hSw); (first | (go_simp; done) | (go_simp; with_reducible rfl)))
      simp only [Act.put, List.getElem_toArray, List.getElem_cons_succ, List.getElem_cons_zero, List.setIfInBounds_toArray, List.set_cons_zero, List.set_cons_succ]
      refine wpAnyH_take (i := 14) (oi := _) (v := ?_) rfl (by kernel_rfl) (by kernel_rfl) (by kernel_rfl) (fun _ _ _ h => h) (Or.inl ⟨by rfl, ?_⟩) (by assumption) ?_
      rotate_left
      · (intro w hSw; (try dsimp only at hSw); (first | (go_simp; done) | (go_simp; with_reducible rfl)))
      simp only [Act.put, List.getElem_toArray, List.getElem_cons_succ, List.getElem_cons_zero, List.setIfInBounds_toArray, List.set_cons_zero, List.set_cons_succ]
      refine wpAnyH_take (i := 15) (oi := _) (v := ?_) rfl (by kernel_rfl) (by kernel_rfl) (by kernel_rfl) (fun _ _ _ h => h) (Or.inl ⟨by rfl, ?_⟩) (by assumption) ?_
      rotate_left
      · (intro w hSw; (try dsimp only at hSw); (first | (go_simp; done) | (go_simp; with_reducible rfl)))
      simp only [Act.put, List.getElem_toArray, List.getElem_cons_succ, List.getElem_cons_zero, List.setIfInBounds_toArray, List.set_cons_zero, List.set_cons_succ]
      refine wpAnyH_take (i := 16) (oi := _) (v := ?_) rfl (by kernel_rfl) (by kernel_rfl) (by kernel_rfl) (fun _ _ _ h => h) (Or.inl ⟨by rfl, ?_⟩) (by assumption) ?_
      rotate_left
      · (intro w hSw; (try dsimp only at hSw); (first | (go_simp; done) | (go_simp; with_reducible rfl)))
      simp only [Act.put, List.getElem_toArray, List.getElem_cons_succ, List.getElem_cons_zero, List.setIfInBounds_toArray, List.set_cons_zero, List.set_cons_succ]
      refine wpAnyH_take (i := 17) (oi := _) (v := ?_) rfl (by kernel_rfl) (by kernel_rfl) (by kernel_rfl) (fun _ _ _ h => h) (Or.inl ⟨by rfl, ?_⟩) (by assumption) ?_
      rotate_left
      · (intro w hSw; (try dsimp only at hSw); (first | (go_simp; done) | (go_simp; with_reducible rfl)))
      simp only [Act.put, List.getElem_toArray, List.getElem_cons_succ, List.getElem_cons_zero, List.setIfInBounds_toArray, List.set_cons_zero, List.set_cons_succ]
      refine wpAnyH_ready (rs := [12]) (by kernel_rfl) (by simp) ?_
      refine AllReadyH.cons rfl (fun K hK => ?_) AllReadyH.nil
      go_simp
      refine (HGC.out _).mono ?_
      rintro e w21 ⟨rfl, hb⟩
      have HX := Lib.hid (HX.out.next hb)
      clear hb
      clear hHeld
      try go_wp2_with fail
      refine hK.out _ _ (⟨HX.out, (HX.out.below.cell (p := ⟨b, o, none⟩) hbl).trans HCX.out, (HX.out.below.cell (p := ⟨b3, o3, none⟩) hbl2).trans HCY.out⟩) (fun hHeld => ?_)
      clear hK K
      refine wpAnyH_take (i := 13) (oi := _) (v := ?_) rfl (by kernel_rfl) (by kernel_rfl) (by kernel_rfl) (fun _ _ _ h => h) (Or.inl ⟨by rfl, ?_⟩) (by assumption) ?_
      rotate_left
      · (intro w hSw; (try dsimp only at hSw); (first | (go_simp; done) | (go_simp; with_reducible rfl)))
      simp only [Act.put, List.getElem_toArray, List.getElem_cons_succ, List.getElem_cons_zero, List.setIfInBounds_toArray, List.set_cons_zero, List.set_cons_succ]
      refine wpAnyH_take (i := 18) (oi := _) (v := ?_) rfl (by kernel_rfl) (by kernel_rfl) (by kernel_rfl) (fun _ _ _ h => h) (Or.inl ⟨by rfl, ?_⟩) (by assumption) ?_
      rotate_left
      · (intro w hSw; (try dsimp only at hSw); (first | (go_simp; done) | (go_simp; with_reducible rfl)))
      simp only [Act.put, List.getElem_toArray, List.getElem_cons_succ, List.getElem_cons_zero, List.setIfInBounds_toArray, List.set_cons_zero, List.set_cons_succ]
      refine wpAnyH_take (i := 19) (oi := _) (v := ?_) rfl (by kernel_rfl) (by kernel_rfl) (by kernel_rfl) (fun _ _ _ h => h) (Or.inl ⟨by rfl, ?_⟩) (by assumption) ?_
      rotate_left
      · (intro w hSw; (try dsimp only at hSw); (first | (go_simp; done) | (go_simp; with_reducible rfl)))
      simp only [Act.put, List.getElem_toArray, List.getElem_cons_succ, List.getElem_cons_zero, List.setIfInBounds_toArray, List.set_cons_zero, List.set_cons_succ]
      refine wpAnyH_done (by kernel_rfl) ?_ _
      refine NoPanic.normal ?_
      clear hHeld
      go_wp2_with fail
      refine (HLA.out _ (HV.out.below HX.out.below)).mono ?_
      rintro e w4 ⟨z, us, rfl, ho, hb⟩
      have HSA := Lib.hid HX.out.size
      have HX := Lib.hid (HX.out.next hb)
      have HS34 := Lib.hid hb.size
      have HOA := Lib.hid ho
      clear ho hb
      go_wp2_with fail
      refine (HLB.out _ (HV2.out.below HX.out.below)).mono ?_
      rintro e w5 ⟨z2, us2, rfl, ho2, hb⟩
      have HSB := Lib.hid HX.out.size
      have HX := Lib.hid (HX.out.next hb)
      have HOA := Lib.hid (HOA.out.below hb)
      have HOB := Lib.hid ho2
      have HS45 := Lib.hid hb.size
      clear ho2 hb
      obtain ⟨za, zc, rfl, hzc, hzm, _⟩ := row_shape HOB.out.top
      have HCE := Lib.hid (ownT_cells HOB.out (by rw [HTB.out]; exact hy1))
      obtain ⟨bz, hbz, _, hcz, honz⟩ := HCE.out
      subst hbz
      have hszA := HSA.out
      have hszB := HSB.out
      have HTP := Lib.hid HOA.out.top
      clear HCE
      have HCZ := Lib.hid hcz
      have HON := Lib.hid honz
      clear hcz honz
      go_wp2_with (at_builtin; refine wpList_append_own _ rfl _ _ 24 rfl _ 43 i1 (.slice none 0 0) 1 24 Try.underlying24 ji jz0 jz1 jz2 rfl (by decide) _ _ _ rfl HTP.out ⟨bz, 0, none⟩ TB.length zc us2 rfl ?c1 (cells_any (b := bz) (o := 0) HCZ.out) HON.out ?c3 ?c4 ?c5 ?_)
      case c1 => rw [HOB.out.len, Nat.mul_one]
      case c3 => have := HTA.out; have := HTB.out; unfold maxLen; omega
      case c4 => have := HTA.out; have := HTB.out; omega
      case c5 => exact Nat.le_trans HS34.out HS45.out
      intro v9 w9 hown hgrow _
      have HO9 := Lib.hid (ownT_concat2 HOA.out HOB.out (Nat.le_refl _) HS34.out hown hgrow)
      have HX9 := Lib.hid (HX.out.nextAt (Nat.lt_succ_self _) (below_grown hgrow (fun b hb => Nat.le_trans (Nat.succ_le_of_lt HSA.out) (row_block HTP.out b hb).1) (by have := HX.out.size; omega)))
      clear hown hgrow
      rw [← HJT.out] at HO9
      have HJM := Lib.hid (show (joinT xss yss).length ≤ maxLen from by have := HJR.out.1; unfold maxLen; omega)
      obtain ⟨z9, c9, hz9, _⟩ := row_shape HO9.out.top
      subst hz9
      have HO9 := Lib.hid HO9.out
      have HX := Lib.hid HX9.out
      have hx0 := HX.out.c0
      have hx1' := HX.out.c1
      clear HX9
      cases hj : patD n g (joinT xss yss)
      · have HR := Lib.hid (HJN.out hj)
        have HJ := Lib.hid hj
        clear hj
        go_wp2_with fail
        refine (HPA.out _ _ _ (HO9.out.reads HJM.out)).mono ?_
        rintro e w10 ⟨rfl, hb⟩
        have HX := Lib.hid (HX.out.next hb)
        clear hb
        rw [HJ.out]
        go_wp2_with fail
        go_ret2
        exact no_table HR.out HX.out rfl
      · have HR := Lib.hid (HJY.out hj)
        have HJ := Lib.hid hj
        clear hj
        go_wp2_with fail
        refine (HPA.out _ _ _ (HO9.out.reads HJM.out)).mono ?_
        rintro e w10 ⟨rfl, hb⟩
        have HX := Lib.hid (HX.out.next hb)
        have HO9 := Lib.hid (HO9.out.below hb)
        clear hb
        rw [HJ.out]
        go_wp2_with fail
        go_ret2
        exact ownsTB_R HR.out (HO9.out.widen (by have := HSA.out; omega) (Nat.le_refl _)) HX.out.below
end Go.Proofs.Ytefjignlhlpndaa
