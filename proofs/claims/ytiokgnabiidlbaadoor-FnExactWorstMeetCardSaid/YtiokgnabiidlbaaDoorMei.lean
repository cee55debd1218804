/-
  What is proved: the contracts of a step and of the walk of a walker, of the model and of the program. Conditions: a valid road and a valid walker on it.
-/
import Derived.Test.YtiokgnabiidlbaaDoorMee
import Derived.Test.YtiokgnabiidlbaaDoorFn4
import Derived.IntWalk
namespace Go.Proofs.YtiokgnabiidlbaaDoor
open Go.RowKit
set_option linter.unusedVariables false
set_option linter.unusedSimpArgs false

theorem stepped_one (n : Int) (g : Bool) (p : Int) (w : World) (hr : roadB n g = true) (hp : 0 ≤ p ∧ p < n) :
    Calls Tryd.prog 43 #[rd n g, .int .i64 p, .int .i64 (1)] w fun e w' => e = .returned (.int .i64 (stepI n g p (1))) ∧ Below w.heap.size w w' := by
  obtain ⟨h2, h24, h3⟩ := (roadB_iff n g).1 hr
  have HA := Lib.hid (fun w => after_any n g p w ⟨h2, h24⟩ hp)
  have HP := Lib.hid (fun q v w hv => places_1 n g q v w hv)
  have HX := Lib.hid (Boxed.first w n g 30)
  have HR := Lib.hid (stepI_after (g := g) h2 hp)
  have HRR := Lib.hid hr
  clear hr h3
  generalize afterI n g p = q at *
  generalize stepI n g p (1) = z at *
  unfold rd at *
  go_enter Tryd.func43, Tryd.ntmps43
  go_wp2_with fail
  refine (HA.out _).mono ?_
  rintro e w1 ⟨rfl, hb⟩
  have HX := Lib.hid (HX.out.next hb)
  clear hb
  have hb0 := HX.out.c0
  have hb1 := HX.out.c1
  go_wp2_with fail
  refine (HP.out _ _ _ (place_one_at w1.heap.size rfl)).mono ?_
  rintro e w2 ⟨rfl, hb⟩
  have HX := Lib.hid ((HX.out.next (below_new _ _)).next hb)
  clear hb hb0 hb1
  cases hq : placeB n g q
  · have HZ := Lib.hid (show p = z by rw [HR.out, if_neg (fun h => by rw [(placeB_iff n g q).2 ⟨HRR.out, h⟩] at hq; cases hq)])
    clear hq
    go_wp2_with fail
    go_ret
    exact ⟨ret_int HZ.out, HX.out.below⟩
  · have HZ := Lib.hid (show q = z by rw [HR.out, if_pos ((placeB_iff n g q).1 hq).2])
    clear hq
    go_wp2_with fail
    go_ret
    exact ⟨ret_int HZ.out, HX.out.below⟩
theorem stepped_neg (n : Int) (g : Bool) (p : Int) (w : World) (hr : roadB n g = true) (hp : 0 ≤ p ∧ p < n) :
    Calls Tryd.prog 43 #[rd n g, .int .i64 p, .int .i64 (-1)] w fun e w' => e = .returned (.int .i64 (stepI n g p (-1))) ∧ Below w.heap.size w w' := by
  obtain ⟨h2, h24, h3⟩ := (roadB_iff n g).1 hr
  have HA := Lib.hid (fun w => before_any n g p w ⟨h2, h24⟩ hp)
  have HP := Lib.hid (fun q v w hv => places_1 n g q v w hv)
  have HX := Lib.hid (Boxed.first w n g 30)
  have HR := Lib.hid (stepI_before (g := g) h2 hp)
  have HRR := Lib.hid hr
  clear hr h3
  generalize beforeI n g p = q at *
  generalize stepI n g p (-1) = z at *
  unfold rd at *
  go_enter Tryd.func43, Tryd.ntmps43
  go_wp2_with fail
  refine (HA.out _).mono ?_
  rintro e w1 ⟨rfl, hb⟩
  have HX := Lib.hid (HX.out.next hb)
  clear hb
  have hb0 := HX.out.c0
  have hb1 := HX.out.c1
  go_wp2_with fail
  refine (HP.out _ _ _ (place_one_at w1.heap.size rfl)).mono ?_
  rintro e w2 ⟨rfl, hb⟩
  have HX := Lib.hid ((HX.out.next (below_new _ _)).next hb)
  clear hb hb0 hb1
  cases hq : placeB n g q
  · have HZ := Lib.hid (show p = z by rw [HR.out, if_neg (fun h => by rw [(placeB_iff n g q).2 ⟨HRR.out, h⟩] at hq; cases hq)])
    clear hq
    go_wp2_with fail
    go_ret
    exact ⟨ret_int HZ.out, HX.out.below⟩
  · have HZ := Lib.hid (show q = z by rw [HR.out, if_pos ((placeB_iff n g q).1 hq).2])
    clear hq
    go_wp2_with fail
    go_ret
    exact ⟨ret_int HZ.out, HX.out.below⟩
theorem stepped_nil (n : Int) (g : Bool) (p : Int) (w : World) (hr : roadB n g = true) (hp : 0 ≤ p ∧ p < n) :
    Calls Tryd.prog 43 #[rd n g, .int .i64 p, .int .i64 0] w fun e w' => e = .returned (.int .i64 (stepI n g p 0)) ∧ Below w.heap.size w w' := by
  obtain ⟨h2, h24, h3⟩ := (roadB_iff n g).1 hr
  have HP := Lib.hid (fun q v w hv => places_1 n g q v w hv)
  have HX := Lib.hid (Boxed.first w n g 30)
  have HR := Lib.hid (stepI_stay (g := g) h2 hp)
  have HQ := Lib.hid ((placeB_iff n g p).2 ⟨hr, hp⟩)
  clear hr h3
  generalize stepI n g p 0 = z at *
  unfold rd at *
  go_enter Tryd.func43, Tryd.ntmps43
  go_wp2_with fail
  refine (HP.out _ _ _ (place_one_at (w.heap.size + 1) (by simp))).mono ?_
  rw [HQ.out]
  rintro e w2 ⟨rfl, hb⟩
  have HX := Lib.hid ((HX.out.next (below_new _ _)).next hb)
  clear hb
  go_wp2_with fail
  go_ret
  exact ⟨ret_int HR.out.symm, HX.out.below⟩
theorem stepped_any (n : Int) (g : Bool) (p m : Int) (w : World) (hr : roadB n g = true) (hp : 0 ≤ p ∧ p < n) (hm : -1 ≤ m ∧ m ≤ 1) :
    Calls Tryd.prog 43 #[rd n g, .int .i64 p, .int .i64 m] w fun e w' => e = .returned (.int .i64 (stepI n g p m)) ∧ Below w.heap.size w w' := by
  by_cases h : m = 1
  · subst h
    exact stepped_one n g p w hr hp
  · by_cases h2 : m = -1
    · subst h2
      exact stepped_neg n g p w hr hp
    · obtain rfl : m = 0 := by omega
      exact stepped_nil n g p w hr hp
/-- the places of which the first k + 1 are those of f -/
def partL (f : Nat → Int) (m k : Nat) : List Int := (List.range (m + 1)).map fun t => if t ≤ k then f t else 0
theorem partL_len (f : Nat → Int) (m k : Nat) : (partL f m k).length = m + 1 := by simp [partL]
theorem partL_at (f : Nat → Int) (m k j : Nat) (h : j ≤ m) : (partL f m k)[j]? = some (if j ≤ k then f j else 0) := by
  have h2 : j < m + 1 := by omega
  simp [partL, h2]
theorem partL_all (f : Nat → Int) (m : Nat) : partL f m m = pathL f m := by
  apply List.ext_getElem?
  intro j
  by_cases hj : j ≤ m
  · rw [partL_at f m m j hj, pathL_at f m j hj, if_pos hj]
  · rw [List.getElem?_eq_none (by rw [partL_len]; omega), List.getElem?_eq_none (by rw [pathL_len]; omega)]
theorem partL_set (f : Nat → Int) (m k : Nat) (h : k + 1 ≤ m) : ((partL f m k).map iv).set (k + 1) (.int .i64 (f (k + 1))) = (partL f m (k + 1)).map iv := by
  have e : (partL f m k).set (k + 1) (f (k + 1)) = partL f m (k + 1) := by
    apply List.ext_getElem?
    intro j
    by_cases hj : j ≤ m
    · by_cases e : k + 1 = j
      · subst e
        rw [List.getElem?_set_self (by rw [partL_len]; omega), partL_at f m (k + 1) (k + 1) hj, if_pos (Nat.le_refl _)]
      · rw [List.getElem?_set_ne e, partL_at f m k j hj, partL_at f m (k + 1) j hj]
        by_cases h1 : j ≤ k
        · rw [if_pos h1, if_pos (by omega)]
        · rw [if_neg h1, if_neg (by omega)]
    · rw [List.getElem?_eq_none (by rw [List.length_set, partL_len]; omega), List.getElem?_eq_none (by rw [partL_len]; omega)]
  rw [← e, List.map_set]
theorem partL_first (f : Nat → Int) (m : Nat) : ((madeCells #[Value.int .i64 0] (m + 1)).toList).set 0 (.int .i64 (f 0)) = (partL f m 0).map iv := by
  apply List.ext_getElem?
  intro j
  by_cases hj : j ≤ m
  · by_cases e : j = 0
    · subst e
      rw [List.getElem?_set_self (by simp [madeCells]), List.getElem?_map, partL_at f m 0 0 hj]
      rfl
    · rw [List.getElem?_set_ne (fun h => e h.symm), List.getElem?_map, partL_at f m 0 j hj, if_neg (by omega)]
      have h2 : j < m + 1 := by omega
      simp [madeCells, Nat.mod_one, h2]
  · rw [List.getElem?_eq_none (by simp [madeCells]; omega), List.getElem?_eq_none (by rw [List.length_map, partL_len]; omega)]
/-- what stays: the boxes of a walker and of a road -/
structure WBox (base : Nat) (n : Int) (g : Bool) (k : Wk) (m : Value) (w wr : World) : Prop where
  below : Below base w wr
  wk : Blk wr base #[.int .i64 k.s, .int .i64 k.f, .int .i64 k.d, m] 32
  road : Blk wr (base + 1) #[.int .i64 n, .bool g] 30
theorem WBox.first (w : World) (n : Int) (g : Bool) (k : Wk) (m : Value) : WBox w.heap.size n g k m w ((w.alloc (.cells #[.int .i64 k.s, .int .i64 k.f, .int .i64 k.d, m] 32)).alloc (.cells #[.int .i64 n, .bool g] 30)) :=
  ⟨(below_new w _).trans ((below_new _ _).mono (by simp)), (blk_new w _ _).below (below_new _ _), blk_at _ _ _ _ (by simp)⟩
theorem WBox.next {base : Nat} {n : Int} {g : Bool} {k : Wk} {m : Value} {w wr w' : World} (h : WBox base n g k m w wr) (hb : Below wr.heap.size wr w') : WBox base n g k m w w' :=
  ⟨h.below.trans (hb.mono (Nat.le_of_lt h.wk.lt)), h.wk.below hb, h.road.below hb⟩
theorem WBox.nextAt {base l : Nat} {n : Int} {g : Bool} {k : Wk} {m : Value} {w wr w' : World} (h : WBox base n g k m w wr) (hl : base + 1 < l) (hb : Below l wr w') : WBox base n g k m w w' :=
  ⟨h.below.trans (hb.mono (by omega)), h.wk.belowAt (by omega) hb, h.road.belowAt hl hb⟩
theorem WBox.lt {base : Nat} {n : Int} {g : Bool} {k : Wk} {m : Value} {w wr : World} (h : WBox base n g k m w wr) : base + 2 ≤ wr.heap.size := h.road.lt
def WalkRel (n : Int) (g : Bool) (k : Wk) (N base bk : Nat) (m : Value) (w : World) (i : Value) (wr : World) : Prop :=
  WBox base n g k m w wr ∧ ∃ t : Nat, t ≤ N ∧ i = .int .i64 t ∧ wr.ownsRow (base + 2) 3 1 (.slice (some ⟨bk, 0, none⟩) (N + 1) (N + 1)) (N + 1) ((partL (posW n g k) N t).map iv)
set_option maxHeartbeats 3200000 in
set_option maxRecDepth 20000 in
theorem walk_nat (n : Int) (g : Bool) (k : Wk) (m : Value) (N : Nat) (w : World) (hv : ReadsI w m k.ms) (hk : WkOK n g k) (hN : N ≤ 60) :
    Calls Tryd.prog 37 #[wkv k m, rd n g, .int .i64 N] w (OwnsI w.heap.size (walkW n g k N) w) := by
  obtain ⟨i0, hi, hz0, hz1, hz2⟩ := info_parts infoInt
  have hl1 := hk.l1
  have hl24 := hk.l24
  have hd0 := hk.d0
  have hd60 := hk.d60
  have HK := Lib.hid hk
  have HST := Lib.hid (fun p m w hp hm => stepped_any n g p m w hk.road hp hm)
  have HX := Lib.hid (WBox.first w n g k m)
  have HV := Lib.hid hv
  have hl3 : ¬ (k.ms.length : Int) = 0 := by omega
  have hl4 : (k.ms.length : Int) ≠ 0 := hl3
  have hl5 : k.ms ≠ [] := fun h => by rw [h] at hl1; simp at hl1
  obtain ⟨ma, mc, rfl, _, _, hx⟩ := hv
  have HL := Lib.hid hx
  clear hx hk
  unfold wkv rd at *
  go_enter Tryd.func37, Tryd.ntmps37
  go_wp2_with (at_make; refine wpList_make_full _ rfl _ _ 24 rfl (w.heap.size + 2) 3 i0 (.int .i64 0) 1 Tryd.underlying24 hi hz0 hz1 .i64 .i64 _ _ (N + 1) rfl rfl (by simp) (by simp) ?c1 ?c2 ?c3 ?_)
  case c1 => rw [hz2]; omega
  case c2 => unfold maxLen; omega
  case c3 => simp
  intro w2 hown hgrow
  have hb2 := (Below.refl (w.heap.size + 2) _).grown hgrow (by simp) (fun k e => by cases e)
  have HX := Lib.hid (HX.out.nextAt (by omega) hb2)
  have h0 := HX.out.wk.cell 0
  have hcell : w2.cell? ⟨w.heap.size + 1 + 1, 0, none⟩ = some (.int .i64 0) := (hown.cellAt 0 (by omega)).trans (by simp [madeCells])
  have hfr := hown.frozenAt 0
  have Hst := Lib.hid (hown.stored 0 (.int .i64 k.s))
  have Hset := Lib.hid (partL_first (posW n g k) N)
  have HX := Lib.hid (HX.out.nextAt (by omega) ((Below.refl (w.heap.size + 2) w2).setCell (p := ⟨w.heap.size + 1 + 1, 0, none⟩) (by show w.heap.size + 2 ≤ _; simp) (.int .i64 k.s)))
  clear hgrow hb2 hown
  go_wp2_with fail
  generalize w2.setCell ⟨w.heap.size + 1 + 1, 0, none⟩ (.int .i64 k.s) = w3 at *
  clear hcell hfr h0
  have HO := Lib.hid (show w3.ownsRow (w.heap.size + 2) 3 1 (.slice (some ⟨w.heap.size + 1 + 1, 0, none⟩) (N + 1) (N + 1)) (N + 1) ((partL (posW n g k) N 0).map iv) by rw [← Hset.out]; exact Hst.out.1)
  go_loopw [19] (fun i wr => WalkRel n g k N w.heap.size (w.heap.size + 1 + 1) (.slice ma k.ms.length mc) w i wr) (fun i _ => N - (intOf i).toNat)
  case atStart => exact ⟨HX.out, 0, Nat.zero_le _, rfl, HO.out⟩
  case round =>
    obtain ⟨hx, t, ht, rfl, hown⟩ := hrel
    clear HX HO Hst Hset
    have HX := Lib.hid hx
    clear hx
    by_cases hlt : t < N
    · have hat := hown.cellAt t (by omega)
      rw [List.getElem?_map, partL_at _ _ _ _ (by omega), if_pos (Nat.le_refl _)] at hat
      have hat1 := hown.cellAt (t + 1) (by omega)
      rw [List.getElem?_map, partL_at _ _ _ _ (by omega), if_neg (by omega)] at hat1
      have hpi := posW_in HK.out t
      have hsi := stT_in HK.out t
      have hct : wr.cell? ⟨w.heap.size + 1 + 1, t, none⟩ = some (.int .i64 (posW n g k t)) := hat
      have hcn : wr.cell? ⟨w.heap.size + 1 + 1, t + 1, none⟩ = some (.int .i64 0) := hat1
      have HCN := Lib.hid hcn
      have HPN := Lib.hid (posW_next n g k t)
      have HWT := Lib.hid (fun h => stT_wait (k := k) (t := t) h)
      have HGO := Lib.hid (fun x h h2 => stT_go (k := k) (t := t) (x := x) h h2)
      have HMV := Lib.hid (mv_of HK.out t)
      have HSET := Lib.hid (partL_set (posW n g k) N t (by omega))
      generalize hys : (partL (posW n g k) N t).map iv = ys at *
      have HOW := Lib.hid hown
      generalize posW n g k t = p at *
      generalize hst : stT k t = s at *
      have HS := Lib.hid hst
      have HPI := Lib.hid hpi
      have HSI := Lib.hid hsi
      have h1 := HX.out.wk.cell 1
      have h2 := HX.out.wk.cell 2
      have h3 := HX.out.wk.cell 3
      have r0 := HX.out.road.cell 0
      have r1 := HX.out.road.cell 1
      have hw1 : IntKind.i64.wrap ((t : Int) + 1) = (t : Int) + 1 := IntWalk.i64_in _ (by omega)
      have hn1 : 0 ≤ (t : Int) + 1 := by omega
      have hn2 : ((t : Int) + 1).toNat = t + 1 := by omega
      have hi1 : (t : Int) + 1 < ((N + 1 : Nat) : Int) := by omega
      have hi2 : (t : Int) < ((N + 1 : Nat) : Int) := by omega
      have hi0 : 0 ≤ (t : Int) := by omega
      have hi3 : (t : Int) < (N : Int) + 1 := by omega
      have hi4 : (t : Int) < N := by omega
      have hi5 : (t : Int) + 1 < (N : Int) + 1 := by omega
      clear hown hat hat1 hys hst hcn
      have HW1 := Lib.hid hw1
      have HN2 := Lib.hid hn2
      clear hw1 hn2
      by_cases hd : (t : Int) < k.d
      · have hs0 : s = 0 := HWT.out hd
        subst hs0
        have hd2 : ¬ 0 ≤ (t : Int) - k.d := by omega
        have hd3 : (t : Int) - k.d < 0 := by omega
        go_wp2_with fail
        refine wp_region_noPanic ?_
        refine wp_region_held_drew (S := fun w' => w'.cell? ⟨w.heap.size + 1, 0, none⟩ = some (.int .i64 n) ∧ w'.cell? ⟨w.heap.size + 1, 1, none⟩ = some (.bool g) ∧ w'.cell? ⟨w.heap.size + 1 + 1, t, none⟩ = some (.int .i64 p)) (by kernel_rfl) (⟨r0, r1, hct⟩) (fun hHeld => ?_)
        have hw1 := HW1.out
        refine wpAnyH_take (i := 0) (oi := _) (v := ?_) rfl (by kernel_rfl) (by kernel_rfl) (by kernel_rfl) (fun _ _ _ h => h) (Or.inl ⟨by rfl, ?_⟩) (by assumption) ?_
        rotate_left
        · (intro w hSw; (try dsimp only at hSw); (first | (go_simp; done) | (go_simp; with_reducible rfl)))
        simp only [Act.put, List.getElem_toArray, List.getElem_cons_succ, List.getElem_cons_zero, List.setIfInBounds_toArray, List.set_cons_zero, List.set_cons_succ]
        refine wpAnyH_take (i := 1) (oi := _) (v := ?_) rfl (by kernel_rfl) (by kernel_rfl) (by kernel_rfl) (fun _ _ _ h => h) (Or.inl ⟨by rfl, ?_⟩) (by assumption) ?_
        rotate_left
        · (intro w hSw; (try dsimp only at hSw); (first | (go_simp; done) | (go_simp; with_reducible rfl)))
        simp only [Act.put, List.getElem_toArray, List.getElem_cons_succ, List.getElem_cons_zero, List.setIfInBounds_toArray, List.set_cons_zero, List.set_cons_succ]
        refine wpAnyH_take (i := 2) (oi := _) (v := ?_) rfl (by kernel_rfl) (by kernel_rfl) (by kernel_rfl) (fun _ _ _ h => h) (Or.inl ⟨by rfl, ?_⟩) (by assumption) ?_
        rotate_left
        · (intro w hSw; (try dsimp only at hSw); (first | (go_simp; done) | (go_simp; with_reducible rfl)))
        simp only [Act.put, List.getElem_toArray, List.getElem_cons_succ, List.getElem_cons_zero, List.setIfInBounds_toArray, List.set_cons_zero, List.set_cons_succ]
        refine wpAnyH_take (i := 3) (oi := _) (v := ?_) rfl (by kernel_rfl) (by kernel_rfl) (by kernel_rfl) (fun _ _ _ h => h) (Or.inl ⟨by rfl, ?_⟩) (by assumption) ?_
        rotate_left
        · (intro w hSw; (try dsimp only at hSw); (first | (go_simp; done) | (go_simp; with_reducible rfl)))
        simp only [Act.put, List.getElem_toArray, List.getElem_cons_succ, List.getElem_cons_zero, List.setIfInBounds_toArray, List.set_cons_zero, List.set_cons_succ]
        refine wpAnyH_take (i := 4) (oi := _) (v := ?_) rfl (by kernel_rfl) (by kernel_rfl) (by kernel_rfl) (fun _ _ _ h => h) (Or.inl ⟨by rfl, ?_⟩) (by assumption) ?_
        rotate_left
        · (intro w hSw; (try dsimp only at hSw); (first | (go_simp; done) | (go_simp; with_reducible rfl)))
        simp only [Act.put, List.getElem_toArray, List.getElem_cons_succ, List.getElem_cons_zero, List.setIfInBounds_toArray, List.set_cons_zero, List.set_cons_succ]
        refine wpAnyH_take (i := 5) (oi := _) (v := ?_) rfl (by kernel_rfl) (by kernel_rfl) (by kernel_rfl) (fun _ _ _ h => h) (Or.inl ⟨by rfl, ?_⟩) (by assumption) ?_
        rotate_left
        · (intro w hSw; (try dsimp only at hSw); (first | (go_simp; done) | (go_simp; with_reducible rfl)))
        simp only [Act.put, List.getElem_toArray, List.getElem_cons_succ, List.getElem_cons_zero, List.setIfInBounds_toArray, List.set_cons_zero, List.set_cons_succ]
        refine wpAnyH_take (i := 6) (oi := _) (v := ?_) rfl (by kernel_rfl) (by kernel_rfl) (by kernel_rfl) (fun _ _ _ h => h) (Or.inl ⟨by rfl, ?_⟩) (by assumption) ?_
        rotate_left
        · (intro w hSw; (try dsimp only at hSw); (first | (go_simp; done) | (go_simp; with_reducible rfl)))
        simp only [Act.put, List.getElem_toArray, List.getElem_cons_succ, List.getElem_cons_zero, List.setIfInBounds_toArray, List.set_cons_zero, List.set_cons_succ]
        refine wpAnyH_take (i := 7) (oi := _) (v := ?_) rfl (by kernel_rfl) (by kernel_rfl) (by kernel_rfl) (fun _ _ _ h => h) (Or.inl ⟨by rfl, ?_⟩) (by assumption) ?_
        rotate_left
        · (intro w hSw; (try dsimp only at hSw); (first | (go_simp; done) | (go_simp; with_reducible rfl)))
        simp only [Act.put, List.getElem_toArray, List.getElem_cons_succ, List.getElem_cons_zero, List.setIfInBounds_toArray, List.set_cons_zero, List.set_cons_succ]
        refine wpAnyH_take (i := 8) (oi := _) (v := ?_) rfl (by kernel_rfl) (by kernel_rfl) (by kernel_rfl) (fun _ _ _ h => h) (Or.inl ⟨by rfl, ?_⟩) (by assumption) ?_
        rotate_left
        · (intro w hSw; (try dsimp only at hSw); (first | (go_simp; done) | (go_simp; with_reducible rfl)))
        simp only [Act.put, List.getElem_toArray, List.getElem_cons_succ, List.getElem_cons_zero, List.setIfInBounds_toArray, List.set_cons_zero, List.set_cons_succ]
        refine wpAnyH_ready (rs := [9]) (by kernel_rfl) (by simp) ?_
        refine AllReadyH.cons rfl (fun K hK => ?_) AllReadyH.nil
        go_simp
        refine (HST.out p 0 _ HPI.out HSI.out).mono ?_
        rintro e w4 ⟨rfl, hb⟩
        have HX4 := Lib.hid ((HX.out.next (below_drewN _ 1)).next hb)
        have HO4 := Lib.hid (owns_below (owns_below HOW.out (below_drewN _ 1)) hb)
        have HCN4 := Lib.hid ((hb.cell (p := ⟨w.heap.size + 1 + 1, t + 1, none⟩) (World.block_lt_of_cell? _ _ HCN.out)).trans HCN.out)
        have hct4 := (hb.cell (p := ⟨w.heap.size + 1 + 1, t, none⟩) (World.block_lt_of_cell? _ _ hct)).trans hct
        clear hb hHeld
        go_wp2_with fail
        refine hK.out _ _ (⟨HX4.out.road.cell 0, HX4.out.road.cell 1, hct4⟩) (fun hHeld => ?_)
        clear hK K
        have hn2 := HN2.out
        refine wpAnyH_take (i := 10) (oi := _) (v := ?_) rfl (by kernel_rfl) (by kernel_rfl) (by kernel_rfl) (fun _ _ _ h => h) (Or.inl ⟨by rfl, ?_⟩) (by assumption) ?_
        rotate_left
        · (intro w hSw; (try dsimp only at hSw); (first | (go_simp; done) | (go_simp; with_reducible rfl)))
        simp only [Act.put, List.getElem_toArray, List.getElem_cons_succ, List.getElem_cons_zero, List.setIfInBounds_toArray, List.set_cons_zero, List.set_cons_succ]
        refine wpAnyH_ready (rs := [11]) (by kernel_rfl) (by simp) ?_
        refine AllReadyH.cons rfl (fun K hK => ?_) AllReadyH.nil
        go_simp
        have hcn4 := HCN4.out
        have hfr4 := HO4.out.frozenAt (t + 1)
        have Hst := Lib.hid (HO4.out.stored (t + 1) (.int .i64 (stepI n g p 0)))
        have HX5 := Lib.hid (HX4.out.nextAt (by omega) ((Below.refl (w.heap.size + 2) w4).setCell (p := ⟨w.heap.size + 1 + 1, t + 1, none⟩) (by show w.heap.size + 2 ≤ _; simp) (.int .i64 (stepI n g p 0))))
        have hct5 := (World.cell?_setCell_other w4 ⟨w.heap.size + 1 + 1, t + 1, none⟩ ⟨w.heap.size + 1 + 1, t, none⟩ (.int .i64 (stepI n g p 0)) (by simp)).trans hct4
        clear hHeld hct4
        go_simp
        refine hK.out _ _ (⟨HX5.out.road.cell 0, HX5.out.road.cell 1, hct5⟩) (fun hHeld => ?_)
        clear hK K
        refine wpAnyH_done (by kernel_rfl) ?_ _
        refine NoPanic.normal ?_
        clear hHeld hw1 hn2 hcn4 hfr4 hct5 hct
        generalize w4.setCell ⟨w.heap.size + 1 + 1, t + 1, none⟩ (.int .i64 (stepI n g p 0)) = w5 at *
        go_wp2_with fail
        go_roundw
        case rel =>
          refine ⟨HX5.out, t + 1, by omega, by go_num, ?_⟩
          rw [← HSET.out, HPN.out]
          exact Hst.out.1
        case measure => simp [intOf]; omega
      · obtain ⟨x, hx, hx1, hx2⟩ := HMV.out
        have hsx := HGO.out x hd hx
        have hidx : (t - k.d.toNat) % k.ms.length < k.ms.length := Nat.mod_lt _ hl1
        have htm := mod_idx (t := (t : Int)) (d := k.d) (l := k.ms.length) (by omega) hd0 hl1
        rw [show ((t : Int).toNat - k.d.toNat) = t - k.d.toNat by simp] at htm
        generalize (t - k.d.toNat) % k.ms.length = i at *
        obtain ⟨b, o, hma, hbl, hcx⟩ := HL.out i x hx
        subst hma
        have hcx : wr.cell? ⟨b, o + i, none⟩ = some (.int .i64 x) := (HX.out.below.cell (p := ⟨b, o + i, none⟩) hbl).trans hcx
        obtain ⟨j, hj⟩ : ∃ j : Nat, (t : Int) - k.d = j := ⟨((t : Int) - k.d).toNat, by omega⟩
        rw [hj] at htm
        have hd2 : 0 ≤ (t : Int) - k.d := by omega
        have hd3 : ¬ (t : Int) - k.d < 0 := by omega
        have hm1 : IntKind.i64.wrap (k.f * x) = s := by
          rw [hsx]
          refine IntWalk.i64_in _ ?_
          rcases HK.out.fac with hf | hf <;> rw [hf] <;> omega
        have hii : (i : Int) < (k.ms.length : Int) := by omega
        have hio : 0 ≤ (i : Int) := by omega
        have HJ := Lib.hid hj
        clear hx hsx hbl
        have hjj : 0 ≤ (j : Int) := by omega
        go_wp2_with fail
        go_quiet (fail)
        have HX := Lib.hid (HX.out.next (below_drewN wr nq))
        have HOW := Lib.hid (owns_below HOW.out (below_drewN wr nq))
        have hct : (wr.drewN nq).cell? ⟨w.heap.size + 1 + 1, t, none⟩ = some (.int .i64 p) := hct
        have HCN : Hid ((wr.drewN nq).cell? ⟨w.heap.size + 1 + 1, t + 1, none⟩ = some (.int .i64 0)) := Lib.hid HCN.out
        have r0 := HX.out.road.cell 0
        have r1 := HX.out.road.cell 1
        clear h1 h2 h3 hcx htm hj hm1 hii hio hd2 hd3
        generalize wr.drewN nq = wq at *
        go_wp2_with fail
        refine wp_region_noPanic ?_
        refine wp_region_held_drew (S := fun w' => w'.cell? ⟨w.heap.size + 1, 0, none⟩ = some (.int .i64 n) ∧ w'.cell? ⟨w.heap.size + 1, 1, none⟩ = some (.bool g) ∧ w'.cell? ⟨w.heap.size + 1 + 1, t, none⟩ = some (.int .i64 p)) (by kernel_rfl) (⟨r0, r1, hct⟩) (fun hHeld => ?_)
        have hw1 := HW1.out
        refine wpAnyH_take (i := 0) (oi := _) (v := ?_) rfl (by kernel_rfl) (by kernel_rfl) (by kernel_rfl) (fun _ _ _ h => h) (Or.inl ⟨by rfl, ?_⟩) (by assumption) ?_
        rotate_left
        · (intro w hSw; (try dsimp only at hSw); (first | (go_simp; done) | (go_simp; with_reducible rfl)))
        simp only [Act.put, List.getElem_toArray, List.getElem_cons_succ, List.getElem_cons_zero, List.setIfInBounds_toArray, List.set_cons_zero, List.set_cons_succ]
        refine wpAnyH_take (i := 1) (oi := _) (v := ?_) rfl (by kernel_rfl) (by kernel_rfl) (by kernel_rfl) (fun _ _ _ h => h) (Or.inl ⟨by rfl, ?_⟩) (by assumption) ?_
        rotate_left
        · (intro w hSw; (try dsimp only at hSw); (first | (go_simp; done) | (go_simp; with_reducible rfl)))
        simp only [Act.put, List.getElem_toArray, List.getElem_cons_succ, List.getElem_cons_zero, List.setIfInBounds_toArray, List.set_cons_zero, List.set_cons_succ]
        refine wpAnyH_take (i := 2) (oi := _) (v := ?_) rfl (by kernel_rfl) (by kernel_rfl) (by kernel_rfl) (fun _ _ _ h => h) (Or.inl ⟨by rfl, ?_⟩) (by assumption) ?_
        rotate_left
        · (intro w hSw; (try dsimp only at hSw); (first | (go_simp; done) | (go_simp; with_reducible rfl)))
        simp only [Act.put, List.getElem_toArray, List.getElem_cons_succ, List.getElem_cons_zero, List.setIfInBounds_toArray, List.set_cons_zero, List.set_cons_succ]
        refine wpAnyH_take (i := 3) (oi := _) (v := ?_) rfl (by kernel_rfl) (by kernel_rfl) (by kernel_rfl) (fun _ _ _ h => h) (Or.inl ⟨by rfl, ?_⟩) (by assumption) ?_
        rotate_left
        · (intro w hSw; (try dsimp only at hSw); (first | (go_simp; done) | (go_simp; with_reducible rfl)))
        simp only [Act.put, List.getElem_toArray, List.getElem_cons_succ, List.getElem_cons_zero, List.setIfInBounds_toArray, List.set_cons_zero, List.set_cons_succ]
        refine wpAnyH_take (i := 4) (oi := _) (v := ?_) rfl (by kernel_rfl) (by kernel_rfl) (by kernel_rfl) (fun _ _ _ h => h) (Or.inl ⟨by rfl, ?_⟩) (by assumption) ?_
        rotate_left
        · (intro w hSw; (try dsimp only at hSw); (first | (go_simp; done) | (go_simp; with_reducible rfl)))
        simp only [Act.put, List.getElem_toArray, List.getElem_cons_succ, List.getElem_cons_zero, List.setIfInBounds_toArray, List.set_cons_zero, List.set_cons_succ]
        refine wpAnyH_take (i := 5) (oi := _) (v := ?_) rfl (by kernel_rfl) (by kernel_rfl) (by kernel_rfl) (fun _ _ _ h => h) (Or.inl ⟨by rfl, ?_⟩) (by assumption) ?_
        rotate_left
        · (intro w hSw; (try dsimp only at hSw); (first | (go_simp; done) | (go_simp; with_reducible rfl)))
        simp only [Act.put, List.getElem_toArray, List.getElem_cons_succ, List.getElem_cons_zero, List.setIfInBounds_toArray, List.set_cons_zero, List.set_cons_succ]
        refine wpAnyH_take (i := 6) (oi := _) (v := ?_) rfl (by kernel_rfl) (by kernel_rfl) (by kernel_rfl) (fun _ _ _ h => h) (Or.inl ⟨by rfl, ?_⟩) (by assumption) ?_
        rotate_left
        · (intro w hSw; (try dsimp only at hSw); (first | (go_simp; done) | (go_simp; with_reducible rfl)))
        simp only [Act.put, List.getElem_toArray, List.getElem_cons_succ, List.getElem_cons_zero, List.setIfInBounds_toArray, List.set_cons_zero, List.set_cons_succ]
        refine wpAnyH_take (i := 7) (oi := _) (v := ?_) rfl (by kernel_rfl) (by kernel_rfl) (by kernel_rfl) (fun _ _ _ h => h) (Or.inl ⟨by rfl, ?_⟩) (by assumption) ?_
        rotate_left
        · (intro w hSw; (try dsimp only at hSw); (first | (go_simp; done) | (go_simp; with_reducible rfl)))
        simp only [Act.put, List.getElem_toArray, List.getElem_cons_succ, List.getElem_cons_zero, List.setIfInBounds_toArray, List.set_cons_zero, List.set_cons_succ]
        refine wpAnyH_take (i := 8) (oi := _) (v := ?_) rfl (by kernel_rfl) (by kernel_rfl) (by kernel_rfl) (fun _ _ _ h => h) (Or.inl ⟨by rfl, ?_⟩) (by assumption) ?_
        rotate_left
        · (intro w hSw; (try dsimp only at hSw); (first | (go_simp; done) | (go_simp; with_reducible rfl)))
        simp only [Act.put, List.getElem_toArray, List.getElem_cons_succ, List.getElem_cons_zero, List.setIfInBounds_toArray, List.set_cons_zero, List.set_cons_succ]
        refine wpAnyH_ready (rs := [9]) (by kernel_rfl) (by simp) ?_
        refine AllReadyH.cons rfl (fun K hK => ?_) AllReadyH.nil
        go_simp
        refine (HST.out p s _ HPI.out HSI.out).mono ?_
        rintro e w4 ⟨rfl, hb⟩
        have HX4 := Lib.hid ((HX.out.next (below_drewN _ 1)).next hb)
        have HO4 := Lib.hid (owns_below (owns_below HOW.out (below_drewN _ 1)) hb)
        have HCN4 := Lib.hid ((hb.cell (p := ⟨w.heap.size + 1 + 1, t + 1, none⟩) (World.block_lt_of_cell? _ _ HCN.out)).trans HCN.out)
        have hct4 := (hb.cell (p := ⟨w.heap.size + 1 + 1, t, none⟩) (World.block_lt_of_cell? _ _ hct)).trans hct
        clear hb hHeld
        go_wp2_with fail
        refine hK.out _ _ (⟨HX4.out.road.cell 0, HX4.out.road.cell 1, hct4⟩) (fun hHeld => ?_)
        clear hK K
        have hn2 := HN2.out
        refine wpAnyH_take (i := 10) (oi := _) (v := ?_) rfl (by kernel_rfl) (by kernel_rfl) (by kernel_rfl) (fun _ _ _ h => h) (Or.inl ⟨by rfl, ?_⟩) (by assumption) ?_
        rotate_left
        · (intro w hSw; (try dsimp only at hSw); (first | (go_simp; done) | (go_simp; with_reducible rfl)))
        simp only [Act.put, List.getElem_toArray, List.getElem_cons_succ, List.getElem_cons_zero, List.setIfInBounds_toArray, List.set_cons_zero, List.set_cons_succ]
        refine wpAnyH_ready (rs := [11]) (by kernel_rfl) (by simp) ?_
        refine AllReadyH.cons rfl (fun K hK => ?_) AllReadyH.nil
        go_simp
        have hcn4 := HCN4.out
        have hfr4 := HO4.out.frozenAt (t + 1)
        have Hst := Lib.hid (HO4.out.stored (t + 1) (.int .i64 (stepI n g p s)))
        have HX5 := Lib.hid (HX4.out.nextAt (by omega) ((Below.refl (w.heap.size + 2) w4).setCell (p := ⟨w.heap.size + 1 + 1, t + 1, none⟩) (by show w.heap.size + 2 ≤ _; simp) (.int .i64 (stepI n g p s))))
        have hct5 := (World.cell?_setCell_other w4 ⟨w.heap.size + 1 + 1, t + 1, none⟩ ⟨w.heap.size + 1 + 1, t, none⟩ (.int .i64 (stepI n g p s)) (by simp)).trans hct4
        clear hHeld hct4
        go_simp
        refine hK.out _ _ (⟨HX5.out.road.cell 0, HX5.out.road.cell 1, hct5⟩) (fun hHeld => ?_)
        clear hK K
        refine wpAnyH_done (by kernel_rfl) ?_ _
        refine NoPanic.normal ?_
        clear hHeld hw1 hn2 hcn4 hfr4 hct5 hct
        generalize w4.setCell ⟨w.heap.size + 1 + 1, t + 1, none⟩ (.int .i64 (stepI n g p s)) = w5 at *
        go_wp2_with fail
        go_roundw
        case rel =>
          refine ⟨HX5.out, t + 1, by omega, by go_num, ?_⟩
          rw [← HSET.out, HPN.out]
          exact Hst.out.1
        case measure => simp [intOf]; omega
    · have hte : t = N := by omega
      subst hte
      rw [partL_all] at hown
      have HO := Lib.hid hown
      clear hown
      go_wp2_with fail
      go_ret
      exact ⟨_, rfl, by unfold walkW; rw [pathL_len]; exact owns_lower HO.out (by omega), HX.out.below⟩
def L4Rel (n : Int) (g : Bool) (k : Wk) (N base : Nat) (m : Value) (w : World) (v p i : Value) (wr : World) : Prop :=
  KeepW base n g k m w wr ∧ ∃ t : Nat, t ≤ N ∧ i = .int .i64 t ∧ p = .int .i64 (posW n g k t) ∧ wr.ownsRow (base + 2) 3 1 v (t + 1) ((pathL (posW n g k) t).map iv)
theorem keepW_at {base l : Nat} {n : Int} {g : Bool} {k : Wk} {m : Value} {w w1 w2 : World} (h : KeepW base n g k m w w1) (hl : base + 1 < l) (hb : Below l w1 w2) : KeepW base n g k m w w2 :=
  keepW_mk (h.1.nextAt (by omega) hb) (h.2.2.2.1.belowAt hl hb)
theorem keepW_lt {base : Nat} {n : Int} {g : Bool} {k : Wk} {m : Value} {w w1 : World} (h : KeepW base n g k m w w1) : base + 2 ≤ w1.heap.size := h.2.2.2.1.lt
theorem made_one_at (w : World) (a : Int) (base b : Nat) (hb : w.heap.size = b) (h : base ≤ b) : (w.alloc (.cells #[.int .i64 a] 3)).ownsRow base 3 1 (.slice (some ⟨b, 0, none⟩) 1 1) 1 [.int .i64 a] := by
  subst hb
  exact ⟨by simp, .inr ⟨w.heap.size, 1, #[iv a], rfl, h, heap_alloc_new w _, Nat.le_refl _, by decide, rfl, by simp⟩⟩
set_option maxHeartbeats 3200000 in
set_option maxRecDepth 20000 in
theorem l4Walk_nat (n : Int) (g : Bool) (k : Wk) (m : Value) (N : Nat) (w : World) (hv : ReadsI w m k.ms) (hk : WkOK n g k) (hN : N ≤ 60) :
    Calls Tryd.prog 21 #[rd n g, wkv k m, .int .i64 N] w (OwnsI w.heap.size (walkW n g k N) w) := by
  obtain ⟨i0, hi, hz0, hz1, hz2⟩ := info_parts infoInt
  have hl1 := hk.l1
  have hl24 := hk.l24
  have hd0 := hk.d0
  have hd60 := hk.d60
  have HK := Lib.hid hk
  have HST := Lib.hid (fun p m w hp hm => l2Step_any n g p m w ⟨hk.n2, hk.n24⟩ hp hm)
  have HX := Lib.hid (keepW_first w n g k m)
  have hl3 : ¬ (k.ms.length : Int) = 0 := by omega
  have hl4 : (k.ms.length : Int) ≠ 0 := hl3
  have hl5 : k.ms ≠ [] := fun h => by rw [h] at hl1; simp at hl1
  obtain ⟨ma, mc, rfl, _, _, hx⟩ := hv
  have HL := Lib.hid hx
  clear hx hk
  unfold wkv rd at *
  go_enter Tryd.func21, Tryd.ntmps21
  go_wp2_with fail
  generalize (w.alloc (Obj.cells #[Value.int IntKind.i64 n, Value.bool g] 30)).alloc (.cells #[.int .i64 k.s, .int .i64 k.f, .int .i64 k.d, .slice ma k.ms.length mc] 32) = w1 at *
  go_region_held3 (fun w' => Boxed w.heap.size n g w w' ∧ w'.cell? ⟨w.heap.size, 0, none⟩ = some (.int .i64 n) ∧ w'.cell? ⟨w.heap.size, 1, none⟩ = some (.bool g) ∧ Blk w' (w.heap.size + 1) #[.int .i64 k.s, .int .i64 k.f, .int .i64 k.d, .slice ma k.ms.length mc] 32 ∧
      w'.cell? ⟨w.heap.size + 1, 0, none⟩ = some (.int .i64 k.s) ∧ w'.cell? ⟨w.heap.size + 1, 1, none⟩ = some (.int .i64 k.f) ∧ w'.cell? ⟨w.heap.size + 1, 2, none⟩ = some (.int .i64 k.d) ∧ w'.cell? ⟨w.heap.size + 1, 3, none⟩ = some (.slice ma k.ms.length mc))
    (first | exact keepW HX.out (below_drewN _ 1) | exact keepW (keepW HX.out (below_new _ _)) (below_drewN _ 1)) (fail)
  have HO : Hid ((w1.alloc (.cells #[.int .i64 k.s] 3)).drew.ownsRow (w.heap.size + 2) 3 1 (.slice (some ⟨w1.heap.size, 0, none⟩) 1 1) 1 [.int .i64 k.s]) := Lib.hid (made_one_at w1 k.s (w.heap.size + 2) w1.heap.size rfl (keepW_lt HX.out))
  have HX : Hid (KeepW w.heap.size n g k (.slice ma k.ms.length mc) w (w1.alloc (.cells #[.int .i64 k.s] 3)).drew) := Lib.hid (keepW (keepW HX.out (below_new _ _)) (below_drewN _ 1))
  generalize (w1.alloc (.cells #[.int .i64 k.s] 3)).drew = w2 at *
  go_wp2_with fail
  go_loopw [7, 8, 9] (fun v p i wr => L4Rel n g k N w.heap.size (.slice ma k.ms.length mc) w v p i wr) (fun _ _ i _ => N - (intOf i).toNat)
  case atStart => exact ⟨HX.out, 0, Nat.zero_le _, rfl, rfl, HO.out⟩
  case round =>
    obtain ⟨hx, t, ht, rfl, rfl, hown⟩ := hrel
    clear HX HO
    have HX := Lib.hid hx
    clear hx
    by_cases hlt : t < N
    · have hpi := posW_in HK.out t
      have hsi := stT_in HK.out t
      have HPN := Lib.hid (posW_next n g k t)
      have HWT := Lib.hid (fun h => stT_wait (k := k) (t := t) h)
      have HGO := Lib.hid (fun x h h2 => stT_go (k := k) (t := t) (x := x) h h2)
      have HMV := Lib.hid (mv_of HK.out t)
      have HSN := Lib.hid (pathL_snoc (posW n g k) t)
      have HSS := Lib.hid (stepI_stay (g := g) HK.out.n2 hpi)
      generalize hys : (pathL (posW n g k) t).map iv = ys at *
      have HOW := Lib.hid hown
      generalize posW n g k t = p at *
      generalize hst : stT k t = s at *
      have HPI := Lib.hid hpi
      have HSI := Lib.hid hsi
      have h0 := HX.out.2.1
      have h1 := HX.out.2.2.1
      have h2 := HX.out.2.2.2.2.2.1
      have h3 := HX.out.2.2.2.2.2.2.1
      have h4 := HX.out.2.2.2.2.2.2.2
      clear hown hys hst
      by_cases hd : (t : Int) < k.d
      · have hs0 : s = 0 := HWT.out hd
        subst hs0
        rw [HSS.out] at HPN
        have hd2 : ¬ k.d ≤ (t : Int) := by omega
        go_wp2_with (at_builtin; refine wpList_append_own _ rfl _ _ 24 rfl (w.heap.size + 2) 3 i0 (.int .i64 0) 1 8 Tryd.underlying24 hi hz0 hz1 hz2 rfl (by decide) _ _ _ rfl (HOW.out.alloc _) ⟨wr.heap.size, 0, none⟩ 1 1 [.int .i64 (p)] rfl rfl (cell_one_new _ _ _) ?c2 ?c3 ?c4 ?c5 ?_)
        case c2 => first | (intro u hu; simp at hu; subst hu; rfl) | rfl
        case c3 => unfold maxLen; omega
        case c4 => omega
        case c5 => have := keepW_lt HX.out; simp; omega
        intro v9 w9 hown9 hgrow9 _
        have HOW9 := Lib.hid hown9
        have HX9 := Lib.hid (keepW_at (keepW HX.out (below_new _ _)) (by omega) (below_grown (m := w.heap.size + 2) hgrow9 (fun b hb => (HOW.out.lt b hb).1) (by have := keepW_lt HX.out; simp; omega)))
        clear hown9 hgrow9
        go_wp2_with fail
        go_roundw
        case rel => exact ⟨HX9.out, t + 1, by omega, by go_num, by rw [HPN.out], by rw [← HSN.out, HPN.out]; exact HOW9.out⟩
        case measure => simp [intOf]; omega
      · obtain ⟨x, hx, hx1, hx2⟩ := HMV.out
        have hsx := HGO.out x hd hx
        have hidx : (t - k.d.toNat) % k.ms.length < k.ms.length := Nat.mod_lt _ hl1
        have htm := mod_idx (t := (t : Int)) (d := k.d) (l := k.ms.length) (by omega) hd0 hl1
        rw [show ((t : Int).toNat - k.d.toNat) = t - k.d.toNat by simp] at htm
        generalize (t - k.d.toNat) % k.ms.length = i at *
        obtain ⟨b, o, hma, hbl, hcx⟩ := HL.out i x hx
        subst hma
        have hcx : wr.cell? ⟨b, o + i, none⟩ = some (.int .i64 x) := (HX.out.1.below.cell (p := ⟨b, o + i, none⟩) hbl).trans hcx
        obtain ⟨j, hj⟩ : ∃ j : Nat, (t : Int) - k.d = j := ⟨((t : Int) - k.d).toNat, by omega⟩
        have hws : IntKind.i64.wrap ((t : Int) - k.d) = j := by rw [← hj]; exact IntWalk.i64_in _ (by omega)
        rw [hj] at htm
        have hd2 : k.d ≤ (t : Int) := by omega
        have hii : (i : Int) < (k.ms.length : Int) := by omega
        have hio : 0 ≤ (i : Int) := by omega
        have hxk : x * k.f = s := by rw [hsx, Int.mul_comm]
        have HXK := Lib.hid hxk
        have hjj : 0 ≤ (j : Int) := by omega
        clear hx hbl hj hxk hsx
        go_wp2_with fail
        go_quiet (fail)
        have HX := Lib.hid (keepW HX.out (below_drewN wr nq))
        have HOW := Lib.hid (owns_below HOW.out (below_drewN wr nq))
        have h0 := HX.out.2.1
        have h1 := HX.out.2.2.1
        have h2 := HX.out.2.2.2.2.2.1
        have h3 := HX.out.2.2.2.2.2.2.1
        have h4 := HX.out.2.2.2.2.2.2.2
        clear hcx htm hii hio hd2 hws hjj
        generalize wr.drewN nq = wq at *
        by_cases hx0 : x = 0
        · have hs0 : s = 0 := by rw [← HXK.out, hx0]; omega
          subst hx0
          subst hs0
          rw [HSS.out] at HPN
          go_wp2_with (at_builtin; refine wpList_append_own _ rfl _ _ 24 rfl (w.heap.size + 2) 3 i0 (.int .i64 0) 1 8 Tryd.underlying24 hi hz0 hz1 hz2 rfl (by decide) _ _ _ rfl (HOW.out.alloc _) ⟨wq.heap.size, 0, none⟩ 1 1 [.int .i64 (p)] rfl rfl (cell_one_new _ _ _) ?c2 ?c3 ?c4 ?c5 ?_)
          case c2 => first | (intro u hu; simp at hu; subst hu; rfl) | rfl
          case c3 => unfold maxLen; omega
          case c4 => omega
          case c5 => have := keepW_lt HX.out; simp; omega
          intro v9 w9 hown9 hgrow9 _
          have HOW9 := Lib.hid hown9
          have HX9 := Lib.hid (keepW_at (keepW HX.out (below_new _ _)) (by omega) (below_grown (m := w.heap.size + 2) hgrow9 (fun b hb => (HOW.out.lt b hb).1) (by have := keepW_lt HX.out; simp; omega)))
          clear hown9 hgrow9
          go_wp2_with fail
          go_roundw
          case rel => exact ⟨HX9.out, t + 1, by omega, by go_num, by rw [HPN.out], by rw [← HSN.out, HPN.out]; exact HOW9.out⟩
          case measure => simp [intOf]; omega
        · have hxn : (x != 0) = true := by simp [hx0]
          have hxn2 : (x == 0) = false := by simp [hx0]
          have hm1 : IntKind.i64.wrap (x * k.f) = s := by
            rw [HXK.out]
            exact IntWalk.i64_in _ (by omega)
          go_wp2_with fail
          refine (HST.out p s _ HPI.out HSI.out).mono ?_
          rintro e w4 ⟨rfl, hb⟩
          have HX := Lib.hid (keepW HX.out hb)
          have HOW := Lib.hid (owns_below HOW.out hb)
          clear hb h0 h1 h2 h3 h4 hm1
          go_wp2_with (at_builtin; refine wpList_append_own _ rfl _ _ 24 rfl (w.heap.size + 2) 3 i0 (.int .i64 0) 1 8 Tryd.underlying24 hi hz0 hz1 hz2 rfl (by decide) _ _ _ rfl (HOW.out.alloc _) ⟨w4.heap.size, 0, none⟩ 1 1 [.int .i64 (stepI n g p s)] rfl rfl (cell_one_new _ _ _) ?c2 ?c3 ?c4 ?c5 ?_)
          case c2 => first | (intro u hu; simp at hu; subst hu; rfl) | rfl
          case c3 => unfold maxLen; omega
          case c4 => omega
          case c5 => have := keepW_lt HX.out; simp; omega
          intro v9 w9 hown9 hgrow9 _
          have HOW9 := Lib.hid hown9
          have HX9 := Lib.hid (keepW_at (keepW HX.out (below_new _ _)) (by omega) (below_grown (m := w.heap.size + 2) hgrow9 (fun b hb => (HOW.out.lt b hb).1) (by have := keepW_lt HX.out; simp; omega)))
          clear hown9 hgrow9
          go_wp2_with fail
          go_roundw
          case rel => exact ⟨HX9.out, t + 1, by omega, by go_num, by rw [HPN.out], by rw [← HSN.out, HPN.out]; exact HOW9.out⟩
          case measure => simp [intOf]; omega
    · have hte : t = N := by omega
      subst hte
      have HO := Lib.hid hown
      clear hown
      go_wp2_with fail
      go_ret
      exact ⟨_, rfl, by unfold walkW; rw [pathL_len]; exact owns_lower HO.out (by omega), HX.out.1.below⟩
end Go.Proofs.YtiokgnabiidlbaaDoor
