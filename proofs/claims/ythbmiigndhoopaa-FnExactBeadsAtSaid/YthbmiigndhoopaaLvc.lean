/-
  What is proved: when shades fall off, and the last of them, of the model and of the program. Conditions: those of each contract.
-/
import Derived.Test.YthbmiigndhoopaaLva
import Derived.Test.YthbmiigndhoopaaFn19
namespace Go.Proofs.Ythbmiigndhoopaa
open Go.RowKit
set_option linter.unusedVariables false
set_option linter.unusedSimpArgs false

noncomputable def shadeR (L : Int) (ps ds : List Int) : List Int × Bool := if wireB L ps ds = true then (shdL L ps ds ps.length, true) else ([], false)
theorem shadeR_len (L : Int) (ps ds : List Int) : (shadeR L ps ds).1.length ≤ 1048576 := by
  unfold shadeR
  split
  · rename_i h
    have := (wire_ok h).n8
    show (shdL L ps ds ps.length).length ≤ _
    rw [shdL_len]
    omega
  · simp
noncomputable def fallR (L : Int) (ps ds : List Int) : Int × Bool := if wireB L ps ds = true then (topOf (shdL L ps ds ps.length) ps.length, true) else (0, false)
theorem ret_ibW {R : Int × Bool} {z : Int} {b : Bool} (h : R = (z, b)) : Ending.returned (.tuple #[.int .i64 z, .bool b]) = .returned (.tuple #[.int .i64 R.1, .bool R.2]) := by rw [h]
theorem shd_range {L : Int} {ps ds : List Int} (h : WireOK L ps ds) (i : Nat) (hi : i < ps.length) : 0 ≤ shd L ps ds i ∧ shd L ps ds i ≤ 30 := by
  obtain ⟨p, hp⟩ := get_some hi
  obtain ⟨d, hd⟩ := get_some (xs := ds) (k := i) (by rw [h.same]; exact hi)
  rw [shd_at hp hd]
  have h1 := h.place i p hp
  have h2 := h.l30
  split <;> omega
theorem topOf_range {xs : List Int} (h : ∀ (i : Nat) (x : Int), xs[i]? = some x → x ≤ 30) : ∀ k, k ≤ xs.length → 0 ≤ topOf xs k ∧ topOf xs k ≤ 30
  | 0, _ => by show (0 : Int) ≤ 0 ∧ (0 : Int) ≤ 30; omega
  | k + 1, hk => by
    have ih := topOf_range h k (by omega)
    obtain ⟨x, hx⟩ := get_some (xs := xs) (k := k) (by omega)
    rw [topOf_next hx]
    have := h k x hx
    omega
def ShRel (L : Int) (v u : Value) (ps ds : List Int) (T : TypeId) (bx base : Nat) (w : World) (vo vi : Value) (wr : World) : Prop :=
  ∃ k : Nat, k ≤ ps.length ∧ vi = .int .i64 k ∧ wr.ownsRow base 3 1 vo k ((shdL L ps ds k).map iv) ∧ Blk wr bx (wrC L v u) T ∧ Below base w wr
theorem sh_next {L : Int} {v u : Value} {ps ds : List Int} {T : TypeId} {bx base k : Nat} {w wr : World} {vo vi : Value} {x : Int} {ys : List Value} (hys : (shdL L ps ds k).map iv = ys) (hk : k < ps.length) (hi : vi = .int .i64 ((k + 1 : Nat) : Int)) (hx : shd L ps ds k = x) (ho : wr.ownsRow base 3 1 vo (k + 1) (ys ++ [.int .i64 x])) (hbx : Blk wr bx (wrC L v u) T) (hb : Below base w wr) : ShRel L v u ps ds T bx base w vo vi wr := by
  subst hys hx
  refine ⟨k + 1, hk, hi, ?_, hbx, hb⟩
  rw [shdL_next, List.map_append]
  exact ho
set_option maxHeartbeats 3200000 in
set_option maxRecDepth 20000 in
theorem l8Shades_any (L : Int) (v u : Value) (ps ds : List Int) (w : World) (hv : ReadsI w v ps) (hu : ReadsI w u ds) (hw : wireB L ps ds = true) :
    Calls Try.prog 75 #[wrV L v u] w (OwnsI w.heap.size (shdL L ps ds ps.length) w) := by
  obtain ⟨i0, hi, hz0, hz1, hz2⟩ := info_parts infoInt
  have HWO := Lib.hid (wire_ok hw)
  have h8 := (wire_ok hw).n8
  have hL1 := (wire_ok hw).l1
  have hL30 := (wire_ok hw).l30
  obtain ⟨y, c, rfl, hc, hm, hx⟩ := hv
  obtain ⟨z, e, rfl, he, hem, hy⟩ := hu
  have HL := Lib.hid hx
  have HD := Lib.hid hy
  have HSS := Lib.hid (wire_ok hw).same
  unfold maxLen at hm hem
  clear hx hy hw
  have HS := Lib.hid (show ShRel L (.slice y ps.length c) (.slice z ds.length e) ps ds 39 w.heap.size w.heap.size w (.slice (some ⟨w.heap.size + 1, 0, none⟩) 0 0) (.int .i64 0) ((w.alloc (.cells (wrC L (.slice y ps.length c) (.slice z ds.length e)) 39)).alloc (.cells #[] 3)) from
    ⟨0, Nat.zero_le _, rfl, made_at _ w.heap.size (w.heap.size + 1) (by simp) (by omega), (blk_new w _ _).below (below_new _ _), (below_new w _).trans ((below_new _ _).mono (by simp))⟩)
  have HSZ0 := Lib.hid (show w.heap.size < w.heap.size + 1 by omega)
  unfold wrV wrC at *
  go_enter Try.func75, Try.ntmps75
  go_wp2_with fail
  go_loopw [3, 4] (fun vo vi wr => ShRel L (.slice y ps.length c) (.slice z ds.length e) ps ds 39 w.heap.size w.heap.size w vo vi wr) (fun _ i _ => ps.length - (intOf i).toNat)
  case atStart => exact HS.out
  case round =>
    clear HS
    obtain ⟨k, hk, rfl, ho, hbx, hb⟩ := hrel
    have c0 := hbx.cell 0
    have c1 := hbx.cell 1
    have c2 := hbx.cell 2
    have HBX := Lib.hid hbx
    have HB := Lib.hid hb
    have HOW := Lib.hid ho
    have HSZ := Lib.hid hb.size
    clear ho hbx hb
    by_cases hlt : k < ps.length
    · obtain ⟨p, hpk⟩ := get_some hlt
      obtain ⟨d, hdk⟩ := get_some (xs := ds) (k := k) (by have := HSS.out; omega)
      obtain ⟨bp, op, rfl, hbp, hcp⟩ := HL.out k p hpk
      obtain ⟨bd, od, rfl, hbd, hcd⟩ := HD.out k d hdk
      have hdw := HWO.out.way k d hdk
      have hpw := HWO.out.place k p hpk
      have HSH := Lib.hid (shd_at (L := L) hpk hdk)
      have hcp1 : wr.cell? ⟨bp, op + k, none⟩ = some (.int .i64 p) := (HB.out.cell (p := ⟨bp, op + k, none⟩) hbp).trans hcp
      have hcd1 : wr.cell? ⟨bd, od + k, none⟩ = some (.int .i64 d) := (HB.out.cell (p := ⟨bd, od + k, none⟩) hbd).trans hcd
      have HCP := Lib.hid hcp
      have hi0 : 0 ≤ (k : Int) := by omega
      have hi1 : (k : Int) < ps.length := by omega
      have hi2 : (k : Int) < ds.length := by have := HSS.out; omega
      generalize hys : (shdL L ps ds k).map iv = ys at *
      have HYS := Lib.hid hys
      have HOW := Lib.hid HOW.out
      clear hpk hdk hcp hcd hys
      rcases hdw with hd1 | hd1
      · subst hd1
        have HSX := Lib.hid (show shd L ps ds k = L - p by rw [HSH.out]; rfl)
        have hlp : IntKind.i64.wrap (L - p) = L - p := IntWalk.i64_in _ (by omega)
        clear HSH hcp1
        go_wp2_with fail
        refine wp_region_noPanic ?_
        have HBX := Lib.hid (HBX.out.below (below_drewN _ 1))
        have HOW := Lib.hid (owns_below HOW.out (below_drewN _ 1))
        have HB := Lib.hid (HB.out.trans ((below_drewN _ 1).mono HB.out.size))
        refine wp_region_held_drew (S := fun w' => w'.cell? ⟨w.heap.size, 0, none⟩ = some (.int .i64 L) ∧ w'.cell? ⟨w.heap.size, 1, none⟩ = some (.slice (some ⟨bp, op, none⟩) ps.length c) ∧ w'.cell? ⟨bp, op + k, none⟩ = some (.int .i64 p)) (by kernel_rfl) (⟨HBX.out.cell 0, HBX.out.cell 1, (HB.out.cell (p := ⟨bp, op + k, none⟩) hbp).trans HCP.out⟩) (fun hHeld => ?_)
        refine wpAnyH_take (i := 0) (oi := _) (v := ?_) rfl (by kernel_rfl) (by kernel_rfl) (by kernel_rfl) (fun _ _ _ h => h) (Or.inl ⟨by rfl, ?_⟩) (by assumption) ?_
        rotate_left
        · (intro w hSw; (try dsimp only at hSw); (first | (go_simp; done) | (go_simp; with_reducible rfl)))
        simp only [Act.put, List.getElem_toArray, List.getElem_cons_succ, List.getElem_cons_zero, List.setIfInBounds_toArray, List.set_cons_zero, List.set_cons_succ]
        refine wpAnyH_take (i := 1) (oi := _) (v := ?_) rfl (by kernel_rfl) (by kernel_rfl) (by kernel_rfl) (fun _ _ _ h => h) (Or.inl ⟨by rfl, ?_⟩) (by assumption) ?_
        rotate_left
        · (intro w hSw; (try dsimp only at hSw); (first | (go_simp; done) | (go_simp; with_reducible rfl)))
        simp only [Act.put, List.getElem_toArray, List.getElem_cons_succ, List.getElem_cons_zero, List.setIfInBounds_toArray, List.set_cons_zero, List.set_cons_succ]
        refine wpAnyH_take (i := 2) (oi := _) (v := ?_) rfl (by kernel_rfl) (by kernel_rfl) (by kernel_rfl) (fun _ _ _ h => h) (Or.inl ⟨by rfl, ?_⟩) (by assumption) ?_
        rotate_left
        · (intro w hSw; (try dsimp only at hSw); (first | (go_simp; done) | (go_simp; with_reducible rfl)))
        simp only [Act.put, List.getElem_toArray, List.getElem_cons_succ, List.getElem_cons_zero, List.setIfInBounds_toArray, List.set_cons_zero, List.set_cons_succ]
        refine wpAnyH_take (i := 3) (oi := _) (v := ?_) rfl (by kernel_rfl) (by kernel_rfl) (by kernel_rfl) (fun _ _ _ h => h) (Or.inl ⟨by rfl, ?_⟩) (by assumption) ?_
        rotate_left
        · (intro w hSw; (try dsimp only at hSw); (first | (go_simp; done) | (go_simp; with_reducible rfl)))
        simp only [Act.put, List.getElem_toArray, List.getElem_cons_succ, List.getElem_cons_zero, List.setIfInBounds_toArray, List.set_cons_zero, List.set_cons_succ]
        refine wpAnyH_take (i := 4) (oi := _) (v := ?_) rfl (by kernel_rfl) (by kernel_rfl) (by kernel_rfl) (fun _ _ _ h => h) (Or.inl ⟨by rfl, ?_⟩) (by assumption) ?_
        rotate_left
        · (intro w hSw; (try dsimp only at hSw); (first | (go_simp; done) | (go_simp; with_reducible rfl)))
        simp only [Act.put, List.getElem_toArray, List.getElem_cons_succ, List.getElem_cons_zero, List.setIfInBounds_toArray, List.set_cons_zero, List.set_cons_succ]
        refine wpAnyH_take (i := 5) (oi := _) (v := ?_) rfl (by kernel_rfl) (by kernel_rfl) (by kernel_rfl) (fun _ _ _ h => h) (Or.inl ⟨by rfl, ?_⟩) (by assumption) ?_
        rotate_left
        · (intro w hSw; (try dsimp only at hSw); (first | (go_simp; done) | (go_simp; with_reducible rfl)))
        simp only [Act.put, List.getElem_toArray, List.getElem_cons_succ, List.getElem_cons_zero, List.setIfInBounds_toArray, List.set_cons_zero, List.set_cons_succ]
        refine wpAnyH_take (i := 6) (oi := _) (v := .pointer (some ⟨bp, op + k, none⟩)) rfl (by kernel_rfl) (by kernel_rfl) (by kernel_rfl) (fun _ _ _ h => h) (Or.inl ⟨by rfl, ?_⟩) (by assumption) ?_
        · (intro w hSw; (try dsimp only at hSw); go_simp; first | done | (simp [hi0, hi1]; done) | omega | (simp <;> omega) | trace_state)
        simp only [Act.put, List.getElem_toArray, List.getElem_cons_succ, List.getElem_cons_zero, List.setIfInBounds_toArray, List.set_cons_zero, List.set_cons_succ]
        refine wpAnyH_take (i := 7) (oi := _) (v := ?_) rfl (by kernel_rfl) (by kernel_rfl) (by kernel_rfl) (fun _ _ _ h => h) (Or.inl ⟨by rfl, ?_⟩) (by assumption) ?_
        rotate_left
        · (intro w hSw; (try dsimp only at hSw); (first | (go_simp; done) | (go_simp; with_reducible rfl)))
        simp only [Act.put, List.getElem_toArray, List.getElem_cons_succ, List.getElem_cons_zero, List.setIfInBounds_toArray, List.set_cons_zero, List.set_cons_succ]
        refine wpAnyH_take (i := 8) (oi := _) (v := .int .i64 (L - p)) rfl (by kernel_rfl) (by kernel_rfl) (by kernel_rfl) (fun _ _ _ h => h) (Or.inl ⟨by rfl, ?_⟩) (by assumption) ?_
        · (intro w hSw; (try dsimp only at hSw); go_simp; first | done | (simp [hlp]; done) | omega | (simp <;> omega) | trace_state)
        simp only [Act.put, List.getElem_toArray, List.getElem_cons_succ, List.getElem_cons_zero, List.setIfInBounds_toArray, List.set_cons_zero, List.set_cons_succ]
        refine wpAnyH_ready (rs := [9]) (by kernel_rfl) (by simp) ?_
        refine AllReadyH.cons rfl (fun K hK => ?_) AllReadyH.nil
        go_simp
        have HNW := Lib.hid (one_nw (x := .int .i64 (L - p)) (t := 3) (wr.drewN 1) wr.heap.size rfl)
        have HBX := Lib.hid (HBX.out.below (below_new _ (.cells #[.int .i64 (L - p)] 3)))
        have HOW := Lib.hid (owns_below HOW.out (below_new _ (.cells #[.int .i64 (L - p)] 3)))
        have HB := Lib.hid (HB.out.trans ((below_new _ (.cells #[.int .i64 (L - p)] 3)).mono HB.out.size))
        refine hK.out _ _ (⟨HBX.out.cell 0, HBX.out.cell 1, (HB.out.cell (p := ⟨bp, op + k, none⟩) hbp).trans HCP.out⟩) (fun hHeld => ?_)
        clear hK K
        have HX := Lib.hid hHeld.1
        refine wpAnyH_ready (rs := [10]) (by kernel_rfl) (by simp) ?_
        refine AllReadyH.cons rfl (fun K hK => ?_) AllReadyH.nil
        refine step_append_any (by rfl) _ _ _ (by rfl) (w.heap.size) 3 i0 (.int .i64 0) 1 8 Try.underlying22 hi hz0 hz1 hz2 rfl (by decide) _ _ _ (by rfl) HOW.out ⟨wr.heap.size, 0, none⟩ 1 1 [.int .i64 (L - p)] (by rfl) (by rfl) HNW.out ?c2 ?c3 ?c4 ?c5 ?_
        case c2 => first | (intro u hu; simp at hu; subst hu; rfl) | rfl
        case c3 => unfold maxLen; omega
        case c4 => omega
        case c5 => exact HB.out.size
        intro v9 w22 hown9 hgrow9
        have HBX := Lib.hid (bkept HBX.out hgrow9 (fun e => row_type HOW.out HBX.out (by decide) _ e rfl))
        have HB := Lib.hid (HB.out.trans (below_grown hgrow9 (fun b hb => (owns_block HOW.out b hb).1) HB.out.size))
        have HOW := Lib.hid hown9
        clear hown9 hgrow9 HNW
        clear hHeld
        refine hK.out _ _ (⟨HBX.out.cell 0, HBX.out.cell 1, (HB.out.cell (p := ⟨bp, op + k, none⟩) hbp).trans HCP.out⟩) (fun hHeld => ?_)
        clear hK K
        refine wpAnyH_take (i := 11) (oi := _) (v := ?_) rfl (by kernel_rfl) (by kernel_rfl) (by kernel_rfl) (fun _ _ _ h => h) (Or.inl ⟨by rfl, ?_⟩) (by assumption) ?_
        rotate_left
        · (intro w hSw; (try dsimp only at hSw); (first | (go_simp; done) | (go_simp; with_reducible rfl)))
        simp only [Act.put, List.getElem_toArray, List.getElem_cons_succ, List.getElem_cons_zero, List.setIfInBounds_toArray, List.set_cons_zero, List.set_cons_succ]
        refine wpAnyH_done (by kernel_rfl) ?_ _
        refine NoPanic.normal ?_
        clear hHeld
        go_wp2_with fail
        go_roundw
        case rel => exact sh_next HYS.out hlt (by go_num) HSX.out HOW.out HBX.out HB.out
        case measure => simp [intOf] <;> omega

      · subst hd1
        have HX := Lib.hid (show shd L ps ds k = p by rw [HSH.out]; rfl)
        clear HSH
        go_wp2_with (at_builtin; refine wpList_append_own _ rfl _ _ 22 rfl (w.heap.size) 3 i0 (.int .i64 0) 1 8 Try.underlying22 hi hz0 hz1 hz2 rfl (by decide) _ _ _ rfl (HOW.out.alloc _) ⟨wr.heap.size, 0, none⟩ 1 1 [.int .i64 (p)] rfl rfl (cell_one_new _ _ _) ?c2 ?c3 ?c4 ?c5 ?_)
        case c2 => first | (intro u hu; simp at hu; subst hu; rfl) | rfl
        case c3 => unfold maxLen; omega
        case c4 => omega
        case c5 => have z0 := HSZ.out; simp; omega
        intro v' w9 hown' hgrow _
        have HBA := Lib.hid (below_new wr (.cells #[.int .i64 p] 3))
        have HBX := Lib.hid (bkept (HBX.out.below HBA.out) hgrow (fun e => row_type (owns_below HOW.out HBA.out) (HBX.out.below HBA.out) (by decide) _ e rfl))
        have HB := Lib.hid ((HB.out.trans (HBA.out.mono HB.out.size)).trans (below_grown hgrow (fun b hb => (owns_block HOW.out b hb).1) (by have := HSZ.out; simp; omega)))
        have HOW := Lib.hid hown'
        clear hgrow hown' HBA
        go_wp2_with fail
        go_roundw
        case rel => exact sh_next HYS.out hlt (by go_num) HX.out HOW.out HBX.out HB.out
        case measure => simp [intOf] <;> omega
    · have hi1 : ¬ (k : Int) < ps.length := by omega
      have hke : k = ps.length := by omega
      have HKE := Lib.hid hke
      clear hke
      go_wp2_with fail
      go_ret
      refine ⟨_, rfl, ?_, HB.out⟩
      rw [shdL_len, ← HKE.out]
      exact HOW.out
theorem spec_ShadeTimes (L : Int) (v u : Value) (ps ds : List Int) (w : World) (hv : ReadsI w v ps) (hu : ReadsI w u ds) :
    Calls Try.prog 46 #[wrV L v u] w (OwnsB w.heap.size (shadeR L ps ds).1 (shadeR L ps ds).2 w) := by
  have HW := Lib.hid (fun w hv hu => l8Wire_any L v u ps ds w hv hu)
  have HSH := Lib.hid (fun w hv hu h => l8Shades_any L v u ps ds w hv hu h)
  have HB := Lib.hid (below_new w (.cells (wrC L v u) 39))
  have HBX := Lib.hid (blk_new w (wrC L v u) 39)
  have HV := Lib.hid (hv.below HB.out)
  have HU := Lib.hid (hu.below HB.out)
  obtain ⟨y, c, rfl, _⟩ := hv
  obtain ⟨z, e, rfl, _⟩ := hu
  unfold wrV wrC at *
  go_enter Try.func46, Try.ntmps46
  go_wp2_with fail
  refine (HW.out _ HV.out HU.out).mono ?_
  rintro e w1 ⟨rfl, hb⟩
  have hbx := HBX.out.below hb
  have c0 := hbx.cell 0
  have c1 := hbx.cell 1
  have c2 := hbx.cell 2
  have HV := Lib.hid (HV.out.below hb)
  have HU := Lib.hid (HU.out.below hb)
  have HB := Lib.hid (HB.out.trans (hb.mono HB.out.size))
  clear hb hbx HBX
  cases hl : wireB L ps ds
  · have HR := Lib.hid (show shadeR L ps ds = ([], false) from if_neg (by rw [hl]; simp))
    have HM := Lib.hid (made_at w1 w.heap.size w1.heap.size rfl HB.out.size)
    have HB := Lib.hid (HB.out.trans ((below_new w1 (.cells #[] 3)).mono HB.out.size))
    clear hl
    go_wp2_with fail
    go_ret2
    exact owns_R HR.out ⟨_, rfl, HM.out, HB.out⟩
  · have HR := Lib.hid (show shadeR L ps ds = (shdL L ps ds ps.length, true) from if_pos hl)
    have HWB := Lib.hid hl
    clear hl
    go_wp2_with fail
    refine (HSH.out _ HV.out HU.out HWB.out).mono ?_
    rintro e w2 ⟨v2, rfl, ho, hb⟩
    have HO := Lib.hid (owns_lower ho HB.out.size)
    have HB := Lib.hid (HB.out.trans (hb.mono HB.out.size))
    clear ho hb
    go_wp2_with fail
    go_ret2
    exact owns_R HR.out ⟨_, rfl, HO.out, HB.out⟩
set_option maxHeartbeats 1600000 in
set_option maxRecDepth 20000 in
theorem shadeTime_any (L : Int) (v u : Value) (ps ds : List Int) (k : Nat) (w : World) (hv : ReadsI w v ps) (hu : ReadsI w u ds) (hw : wireB L ps ds = true) (hk : k < ps.length) :
    Calls Try.prog 76 #[wrV L v u, .int .i64 k] w fun e w' => e = .returned (.int .i64 (shd L ps ds k)) ∧ Below w.heap.size w w' := by
  have HWO := Lib.hid (wire_ok hw)
  have hL1 := (wire_ok hw).l1
  have hL30 := (wire_ok hw).l30
  obtain ⟨p, hpk⟩ := get_some hk
  obtain ⟨d, hdk⟩ := get_some (xs := ds) (k := k) (by rw [HWO.out.same]; exact hk)
  have hdw := HWO.out.way k d hdk
  have hpw := HWO.out.place k p hpk
  have HSH := Lib.hid (shd_at (L := L) hpk hdk)
  have hsame := HWO.out.same
  obtain ⟨y, c, rfl, hc, hm, hx⟩ := hv
  obtain ⟨z, e, rfl, he, hem, hy⟩ := hu
  obtain ⟨bp, op, rfl, hbp, hcp⟩ := hx k p hpk
  obtain ⟨bd, od, rfl, hbd, hcd⟩ := hy k d hdk
  unfold maxLen at hm hem
  have HBX := Lib.hid (blk_new w (wrC L (.slice (some ⟨bp, op, none⟩) ps.length c) (.slice (some ⟨bd, od, none⟩) ds.length e)) 39)
  have HB := Lib.hid (below_new w (.cells (wrC L (.slice (some ⟨bp, op, none⟩) ps.length c) (.slice (some ⟨bd, od, none⟩) ds.length e)) 39))
  have hcp1 := (HB.out.cell (p := ⟨bp, op + k, none⟩) hbp).trans hcp
  have hcd1 := (HB.out.cell (p := ⟨bd, od + k, none⟩) hbd).trans hcd
  have HCP := Lib.hid hcp
  have hi0 : 0 ≤ (k : Int) := by omega
  have hi1 : (k : Int) < ps.length := by omega
  have hi2 : (k : Int) < ds.length := by omega
  clear hx hy hw hpk hdk hcp hcd hsame
  unfold wrV wrC at *
  have c0 := HBX.out.cell 0
  have c1 := HBX.out.cell 1
  have c2 := HBX.out.cell 2
  go_enter Try.func76, Try.ntmps76
  rcases hdw with hd1 | hd1
  · subst hd1
    have HX := Lib.hid (show shd L ps ds k = L - p by rw [HSH.out]; rfl)
    have hlp : IntKind.i64.wrap (L - p) = L - p := IntWalk.i64_in _ (by omega)
    clear HSH
    go_wp2_with fail
    generalize hwr : w.alloc (.cells #[.int .i64 L, .slice (some ⟨bp, op, none⟩) ps.length c, .slice (some ⟨bd, od, none⟩) ds.length e] 39) = wr at *
    clear hwr c0 c1 c2 hcp1
    refine wp_region_noPanic ?_
    have HBX := Lib.hid (HBX.out.below (below_drewN _ 1))
    have HB := Lib.hid (HB.out.trans ((below_drewN _ 1).mono HB.out.size))
    refine wp_region_held_drew (S := fun w' => w'.cell? ⟨w.heap.size, 0, none⟩ = some (.int .i64 L) ∧ w'.cell? ⟨w.heap.size, 1, none⟩ = some (.slice (some ⟨bp, op, none⟩) ps.length c) ∧ w'.cell? ⟨bp, op + k, none⟩ = some (.int .i64 p)) (by kernel_rfl) (⟨HBX.out.cell 0, HBX.out.cell 1, (HB.out.cell (p := ⟨bp, op + k, none⟩) hbp).trans HCP.out⟩) (fun hHeld => ?_)
    refine wpAnyH_take (i := 0) (oi := _) (v := ?_) rfl (by kernel_rfl) (by kernel_rfl) (by kernel_rfl) (fun _ _ _ h => h) (Or.inl ⟨by rfl, ?_⟩) (by assumption) ?_
    rotate_left
    · (intro w hSw; (try dsimp only at hSw); (first | (go_simp; done) | (go_simp; with_reducible rfl)))
    simp only [Act.put, List.getElem_toArray, List.getElem_cons_succ, List.getElem_cons_zero, List.setIfInBounds_toArray, List.set_cons_zero, List.set_cons_succ]
    refine wpAnyH_take (i := 1) (oi := _) (v := ?_) rfl (by kernel_rfl) (by kernel_rfl) (by kernel_rfl) (fun _ _ _ h => h) (Or.inl ⟨by rfl, ?_⟩) (by assumption) ?_
    rotate_left
    · (intro w hSw; (try dsimp only at hSw); (first | (go_simp; done) | (go_simp; with_reducible rfl)))
    simp only [Act.put, List.getElem_toArray, List.getElem_cons_succ, List.getElem_cons_zero, List.setIfInBounds_toArray, List.set_cons_zero, List.set_cons_succ]
    refine wpAnyH_take (i := 2) (oi := _) (v := ?_) rfl (by kernel_rfl) (by kernel_rfl) (by kernel_rfl) (fun _ _ _ h => h) (Or.inl ⟨by rfl, ?_⟩) (by assumption) ?_
    rotate_left
    · (intro w hSw; (try dsimp only at hSw); (first | (go_simp; done) | (go_simp; with_reducible rfl)))
    simp only [Act.put, List.getElem_toArray, List.getElem_cons_succ, List.getElem_cons_zero, List.setIfInBounds_toArray, List.set_cons_zero, List.set_cons_succ]
    refine wpAnyH_take (i := 3) (oi := _) (v := ?_) rfl (by kernel_rfl) (by kernel_rfl) (by kernel_rfl) (fun _ _ _ h => h) (Or.inl ⟨by rfl, ?_⟩) (by assumption) ?_
    rotate_left
    · (intro w hSw; (try dsimp only at hSw); (first | (go_simp; done) | (go_simp; with_reducible rfl)))
    simp only [Act.put, List.getElem_toArray, List.getElem_cons_succ, List.getElem_cons_zero, List.setIfInBounds_toArray, List.set_cons_zero, List.set_cons_succ]
    refine wpAnyH_take (i := 4) (oi := _) (v := ?_) rfl (by kernel_rfl) (by kernel_rfl) (by kernel_rfl) (fun _ _ _ h => h) (Or.inl ⟨by rfl, ?_⟩) (by assumption) ?_
    rotate_left
    · (intro w hSw; (try dsimp only at hSw); (first | (go_simp; done) | (go_simp; with_reducible rfl)))
    simp only [Act.put, List.getElem_toArray, List.getElem_cons_succ, List.getElem_cons_zero, List.setIfInBounds_toArray, List.set_cons_zero, List.set_cons_succ]
    refine wpAnyH_take (i := 5) (oi := _) (v := .pointer (some ⟨bp, op + k, none⟩)) rfl (by kernel_rfl) (by kernel_rfl) (by kernel_rfl) (fun _ _ _ h => h) (Or.inl ⟨by rfl, ?_⟩) (by assumption) ?_
    · (intro w hSw; (try dsimp only at hSw); go_simp; first | done | (simp [hi0, hi1]; done) | omega | (simp <;> omega) | trace_state)
    simp only [Act.put, List.getElem_toArray, List.getElem_cons_succ, List.getElem_cons_zero, List.setIfInBounds_toArray, List.set_cons_zero, List.set_cons_succ]
    refine wpAnyH_take (i := 6) (oi := _) (v := ?_) rfl (by kernel_rfl) (by kernel_rfl) (by kernel_rfl) (fun _ _ _ h => h) (Or.inl ⟨by rfl, ?_⟩) (by assumption) ?_
    rotate_left
    · (intro w hSw; (try dsimp only at hSw); (first | (go_simp; done) | (go_simp; with_reducible rfl)))
    simp only [Act.put, List.getElem_toArray, List.getElem_cons_succ, List.getElem_cons_zero, List.setIfInBounds_toArray, List.set_cons_zero, List.set_cons_succ]
    refine wpAnyH_take (i := 7) (oi := _) (v := .int .i64 (L - p)) rfl (by kernel_rfl) (by kernel_rfl) (by kernel_rfl) (fun _ _ _ h => h) (Or.inl ⟨by rfl, ?_⟩) (by assumption) ?_
    · (intro w hSw; (try dsimp only at hSw); go_simp; first | done | (simp [hlp]; done) | omega | (simp <;> omega) | trace_state)
    simp only [Act.put, List.getElem_toArray, List.getElem_cons_succ, List.getElem_cons_zero, List.setIfInBounds_toArray, List.set_cons_zero, List.set_cons_succ]
    refine wpAnyH_take (i := 8) (oi := _) (v := ?_) rfl (by kernel_rfl) (by kernel_rfl) (by kernel_rfl) (fun _ _ _ h => h) (Or.inl ⟨by rfl, ?_⟩) (by assumption) ?_
    rotate_left
    · (intro w hSw; (try dsimp only at hSw); (first | (go_simp; done) | (go_simp; with_reducible rfl)))
    simp only [Act.put, List.getElem_toArray, List.getElem_cons_succ, List.getElem_cons_zero, List.setIfInBounds_toArray, List.set_cons_zero, List.set_cons_succ]
    refine wpAnyH_done (by kernel_rfl) ?_ _
    refine NoPanic.normal ?_
    clear hHeld
    go_wp2_with fail
    go_ret
    exact ⟨ret_int HX.out.symm, HB.out⟩

  · subst hd1
    have HX := Lib.hid (show shd L ps ds k = p by rw [HSH.out]; rfl)
    clear HSH
    go_wp2_with fail
    go_ret
    exact ⟨ret_int HX.out.symm, HB.out⟩
set_option maxHeartbeats 1600000 in
set_option maxRecDepth 20000 in
theorem impl_ShadeTimes (L : Int) (v u : Value) (ps ds : List Int) (w : World) (hv : ReadsI w v ps) (hu : ReadsI w u ds) :
    Calls Try.prog 47 #[wrV L v u] w (OwnsB w.heap.size (shadeR L ps ds).1 (shadeR L ps ds).2 w) := by
  obtain ⟨i0, hi, hz0, hz1, hz2⟩ := info_parts infoInt
  have HW := Lib.hid (fun w hv hu => impl_IsWire L v u ps ds w hv hu)
  have HST := Lib.hid (fun k w hv hu h hk => shadeTime_any L v u ps ds k w hv hu h hk)
  have hb2 := (below_new w (.cells (wrC L v u) 39)).trans ((below_new (w.alloc (.cells (wrC L v u) 39)) (.cells #[] 3)).mono (by simp))
  have HB := Lib.hid hb2
  have HBX := Lib.hid ((blk_new w (wrC L v u) 39).below (below_new (w.alloc (.cells (wrC L v u) 39)) (.cells #[] 3)))
  have HM := Lib.hid (made_at (w.alloc (.cells (wrC L v u) 39)) w.heap.size (w.heap.size + 1) (by simp) (by omega))
  have HV := Lib.hid (hv.below HB.out)
  have HU := Lib.hid (hu.below HB.out)
  have HVW := Lib.hid hv
  have HUW := Lib.hid hu
  obtain ⟨y, c, rfl, hc, hm, _⟩ := hv
  obtain ⟨z, e, rfl, he, hem, _⟩ := hu
  unfold maxLen at hm hem
  clear hb2
  unfold wrV wrC at *
  have c0 := HBX.out.cell 0
  have c1 := HBX.out.cell 1
  have c2 := HBX.out.cell 2
  go_enter Try.func47, Try.ntmps47
  go_wp2_with fail
  refine (HW.out _ HV.out HU.out).mono ?_
  rintro e w1 ⟨rfl, hb⟩
  have hbx := HBX.out.below hb
  have HBX := Lib.hid hbx
  have HM := Lib.hid (owns_below HM.out hb)
  have HB := Lib.hid (HB.out.trans (hb.mono HB.out.size))
  clear hb c0 c1 c2
  have c1 := hbx.cell 1
  clear hbx
  cases hl : wireB L ps ds
  · have HR := Lib.hid (show shadeR L ps ds = ([], false) from if_neg (by rw [hl]; simp))
    clear hl
    go_wp2_with fail
    go_ret2
    exact owns_R HR.out ⟨_, rfl, HM.out, HB.out⟩
  · have HR := Lib.hid (show shadeR L ps ds = (shdL L ps ds ps.length, true) from if_pos hl)
    have HWB := Lib.hid hl
    have h8 := (wire_ok hl).n8
    have HS := Lib.hid (show ShRel L (.slice y ps.length c) (.slice z ds.length e) ps ds 39 w.heap.size w.heap.size w (.slice (some ⟨w.heap.size + 1, 0, none⟩) 0 0) (.int .i64 0) w1 from ⟨0, Nat.zero_le _, rfl, HM.out, HBX.out, HB.out⟩)
    clear hl HM HBX HB
    go_wp2_with fail
    go_loopw [4, 14] (fun vo vi wr => ShRel L (.slice y ps.length c) (.slice z ds.length e) ps ds 39 w.heap.size w.heap.size w vo vi wr) (fun _ i _ => ps.length - (intOf i).toNat)
    case atStart => exact HS.out
    case round =>
      clear HS c1
      obtain ⟨k, hk, rfl, ho, hbx, hb⟩ := hrel
      have c0 := hbx.cell 0
      have c1 := hbx.cell 1
      have c2 := hbx.cell 2
      have HBX := Lib.hid hbx
      have HB := Lib.hid hb
      have HOW := Lib.hid ho
      clear ho hbx hb
      by_cases hlt : k < ps.length
      · have hi0 : 0 ≤ (k : Int) := by omega
        have hi1 : (k : Int) < ps.length := by omega
        have HX := Lib.hid (show shd L ps ds k = shd L ps ds k from rfl)
        generalize hys : (shdL L ps ds k).map iv = ys at *
        have HYS := Lib.hid hys
        have HOW := Lib.hid HOW.out
        clear hys
        go_wp2_with fail
        refine (HST.out k _ (HVW.out.below HB.out) (HUW.out.below HB.out) HWB.out hlt).mono ?_
        rintro e w3 ⟨rfl, hb⟩
        have HBX := Lib.hid (HBX.out.below hb)
        have HOW := Lib.hid (owns_below HOW.out hb)
        have HB := Lib.hid (HB.out.trans (hb.mono HB.out.size))
        have HSZ := Lib.hid HB.out.size
        clear hb c0 c1 c2
        have HXX := Lib.hid (show shd L ps ds k = shd L ps ds k from rfl)
        obtain ⟨sx, hsx⟩ : ∃ sx, shd L ps ds k = sx := ⟨_, rfl⟩
        have HX := Lib.hid hsx
        rw [hsx]
        clear hsx HXX
        go_wp2_with (at_builtin; refine wpList_append_own _ rfl _ _ 22 rfl (w.heap.size) 3 i0 (.int .i64 0) 1 8 Try.underlying22 hi hz0 hz1 hz2 rfl (by decide) _ _ _ rfl (HOW.out.alloc _) ⟨w3.heap.size, 0, none⟩ 1 1 [.int .i64 (sx)] rfl rfl (cell_one_new _ _ _) ?c2 ?c3 ?c4 ?c5 ?_)
        case c2 => first | (intro u hu; simp at hu; subst hu; rfl) | rfl
        case c3 => unfold maxLen; omega
        case c4 => omega
        case c5 => have z0 := HSZ.out; simp; omega
        intro v' w9 hown' hgrow _
        have HBA := Lib.hid (below_new w3 (.cells #[.int .i64 sx] 3))
        have HBX := Lib.hid (bkept (HBX.out.below HBA.out) hgrow (fun e => row_type (owns_below HOW.out HBA.out) (HBX.out.below HBA.out) (by decide) _ e rfl))
        have HB := Lib.hid ((HB.out.trans (HBA.out.mono HB.out.size)).trans (below_grown hgrow (fun b hb => (owns_block HOW.out b hb).1) (by have := HSZ.out; simp; omega)))
        have HOW := Lib.hid hown'
        clear hgrow hown' HBA
        go_wp2_with fail
        go_roundw
        case rel => exact sh_next HYS.out hlt (by go_num) HX.out HOW.out HBX.out HB.out
        case measure => simp [intOf] <;> omega
      · have hi1 : ¬ (k : Int) < ps.length := by omega
        have hke : k = ps.length := by omega
        have HKE := Lib.hid hke
        clear hke
        go_wp2_with fail
        go_ret2
        refine owns_R HR.out ⟨_, rfl, ?_, HB.out⟩
        rw [shdL_len, ← HKE.out]
        exact HOW.out
set_option maxHeartbeats 1600000 in
set_option maxRecDepth 20000 in
theorem spec_LastFall (L : Int) (v u : Value) (ps ds : List Int) (w : World) (hv : ReadsI w v ps) (hu : ReadsI w u ds) :
    Calls Try.prog 49 #[wrV L v u] w fun e w' => e = .returned (.tuple #[.int .i64 (fallR L ps ds).1, .bool (fallR L ps ds).2]) ∧ Below w.heap.size w w' := by
  have HW := Lib.hid (fun w hv hu => l8Wire_any L v u ps ds w hv hu)
  have HSH := Lib.hid (fun w hv hu h => l8Shades_any L v u ps ds w hv hu h)
  have HMO := Lib.hid (fun a b w => l1Most_any a b w)
  have HB := Lib.hid (below_new w (.cells (wrC L v u) 39))
  have HBX := Lib.hid (blk_new w (wrC L v u) 39)
  have HV := Lib.hid (hv.below HB.out)
  have HU := Lib.hid (hu.below HB.out)
  obtain ⟨y, c, rfl, _⟩ := hv
  obtain ⟨z, e, rfl, _⟩ := hu
  unfold wrV wrC at *
  go_enter Try.func49, Try.ntmps49
  go_wp2_with fail
  refine (HW.out _ HV.out HU.out).mono ?_
  rintro e w1 ⟨rfl, hb⟩
  have hbx := HBX.out.below hb
  have c0 := hbx.cell 0
  have c1 := hbx.cell 1
  have c2 := hbx.cell 2
  have HV := Lib.hid (HV.out.below hb)
  have HU := Lib.hid (HU.out.below hb)
  have HB := Lib.hid (HB.out.trans (hb.mono HB.out.size))
  clear hb hbx HBX
  cases hl : wireB L ps ds
  · have HR := Lib.hid (show fallR L ps ds = (0, false) from if_neg (by rw [hl]; simp))
    clear hl
    go_wp2_with fail
    go_ret2
    exact ⟨ret_ibW HR.out, HB.out⟩
  · have HR := Lib.hid (show fallR L ps ds = (topOf (shdL L ps ds ps.length) ps.length, true) from if_pos hl)
    have HWB := Lib.hid hl
    have h8 := (wire_ok hl).n8
    have HTR := Lib.hid (topOf_range (xs := shdL L ps ds ps.length) (fun i x hx => by
      have hi := (List.getElem?_eq_some_iff.1 hx).1
      rw [shdL_len] at hi
      rw [shdL_at L ps ds ps.length i hi] at hx
      cases hx
      exact (shd_range (wire_ok hl) i hi).2))
    clear hl
    go_wp2_with fail
    refine (HSH.out _ HV.out HU.out HWB.out).mono ?_
    rintro e w2 ⟨v2, rfl, ho, hb⟩
    have hrd := owns_reads ho (by rw [shdL_len]; unfold maxLen; omega)
    have hln := shdL_len L ps ds ps.length
    generalize shdL L ps ds ps.length = xs at *
    obtain ⟨a2, c2', rfl, hc2, hm2, hx2⟩ := hrd
    have HL2 := Lib.hid hx2
    unfold maxLen at hm2
    have HB := Lib.hid (HB.out.trans (hb.mono HB.out.size))
    have HLN := Lib.hid hln
    clear ho hb hx2 c0 c1 c2 hln
    go_wp2_with fail
    go_loopw [4, 6] (fun vt vi wr => wr = w2 ∧ ∃ k : Nat, k ≤ xs.length ∧ vi = .int .i64 k ∧ vt = .int .i64 (topOf xs k)) (fun _ i _ => xs.length - (intOf i).toNat)
    case atStart => exact ⟨rfl, 0, Nat.zero_le _, rfl, rfl⟩
    case round =>
      obtain ⟨hwr, k, hk, rfl, rfl⟩ := hrel
      subst hwr
      have htr := HTR.out k hk
      by_cases hlt : k < xs.length
      · obtain ⟨x, hxk⟩ := get_some hlt
        obtain ⟨b, o, rfl, hbl, hcell⟩ := HL2.out k x hxk
        have HN := Lib.hid (topOf_next hxk)
        have hi0 : 0 ≤ (k : Int) := by omega
        have hi1 : (k : Int) < xs.length := by omega
        clear hxk
        generalize topOf xs k = t at *
        go_wp2_with fail
        refine (HMO.out _ _ _).mono ?_
        rintro e w3 ⟨rfl, rfl⟩
        go_wp2_with fail
        go_roundw
        case rel => exact ⟨by trivial, k + 1, hlt, by go_num, by rw [HN.out]⟩
        case measure => simp [intOf] <;> omega
      · have hi1 : ¬ (k : Int) < xs.length := by omega
        have HKE := Lib.hid (show k = ps.length by have := HLN.out; omega)
        go_wp2_with fail
        go_ret2
        exact ⟨ret_ibW (by rw [HR.out, ← HKE.out]), HB.out⟩
set_option maxHeartbeats 1600000 in
set_option maxRecDepth 20000 in
theorem impl_LastFall (L : Int) (v u : Value) (ps ds : List Int) (w : World) (hv : ReadsI w v ps) (hu : ReadsI w u ds) :
    Calls Try.prog 50 #[wrV L v u] w fun e w' => e = .returned (.tuple #[.int .i64 (fallR L ps ds).1, .bool (fallR L ps ds).2]) ∧ Below w.heap.size w w' := by
  have HSH := Lib.hid (fun w hv hu => impl_ShadeTimes L v u ps ds w hv hu)
  have HB := Lib.hid (below_new w (.cells (wrC L v u) 39))
  have HBX := Lib.hid (blk_new w (wrC L v u) 39)
  have HV := Lib.hid (hv.below HB.out)
  have HU := Lib.hid (hu.below HB.out)
  obtain ⟨y, c, rfl, _⟩ := hv
  obtain ⟨z, e, rfl, _⟩ := hu
  have HRR := Lib.hid (show ∃ xs b, shadeR L ps ds = (xs, b) ∧ fallR L ps ds = (topOf xs xs.length, b) ∧ xs.length ≤ 8 ∧ ∀ (i : Nat) (x : Int), xs[i]? = some x → x ≤ 30 by
    cases hl : wireB L ps ds
    · exact ⟨[], false, if_neg (by rw [hl]; simp), if_neg (by rw [hl]; simp), by simp, fun i x hx => by simp at hx⟩
    · refine ⟨shdL L ps ds ps.length, true, if_pos hl, ?_, ?_, fun i x hx => ?_⟩
      · rw [shdL_len]; exact if_pos hl
      · rw [shdL_len]; exact (wire_ok hl).n8
      · have hi := (List.getElem?_eq_some_iff.1 hx).1
        rw [shdL_len] at hi
        rw [shdL_at L ps ds ps.length i hi] at hx
        cases hx
        exact (shd_range (wire_ok hl) i hi).2)
  obtain ⟨xs, b, h1, h2, h8, h30⟩ := HRR.out
  have HR := Lib.hid h2
  have HTR := Lib.hid (topOf_range h30)
  rw [h1] at HSH
  clear HRR h1 h2 h30
  unfold wrV wrC at *
  go_enter Try.func50, Try.ntmps50
  go_wp2_with fail
  refine (HSH.out _ HV.out HU.out).mono ?_
  rintro e w2 ⟨v2, rfl, ho, hb⟩
  have hrd := owns_reads ho (by unfold maxLen; show xs.length ≤ _; omega)
  obtain ⟨a2, c2', rfl, hc2, hm2, hx2⟩ := hrd
  have HL2 := Lib.hid hx2
  unfold maxLen at hm2
  have HB := Lib.hid (HB.out.trans (hb.mono HB.out.size))
  clear ho hb hx2
  go_wp2_with fail
  go_loopw [4, 16] (fun vt vi wr => wr = w2 ∧ ∃ k : Nat, k ≤ xs.length ∧ vi = .int .i64 k ∧ vt = .int .i64 (topOf xs k)) (fun _ i _ => xs.length - (intOf i).toNat)
  case atStart => exact ⟨rfl, 0, Nat.zero_le _, rfl, rfl⟩
  case round =>
    obtain ⟨hwr, k, hk, rfl, rfl⟩ := hrel
    subst hwr
    have htr := HTR.out k hk
    by_cases hlt : k < xs.length
    · obtain ⟨x, hxk⟩ := get_some hlt
      obtain ⟨b, o, rfl, hbl, hcell⟩ := HL2.out k x hxk
      have HN := Lib.hid (topOf_next hxk)
      have hi0 : 0 ≤ (k : Int) := by omega
      have hi1 : (k : Int) < xs.length := by omega
      clear hxk
      generalize topOf xs k = t at *
      rcases Int.lt_trichotomy t x with hq | hq | hq
      · have HM := Lib.hid (show max t x = x by omega)
        go_wp2_with fail
        go_roundw
        case rel => exact ⟨by trivial, k + 1, hlt, by go_num, by rw [HN.out, HM.out]⟩
        case measure => simp [intOf] <;> omega
      · have HM := Lib.hid (show max t x = x by omega)
        subst hq
        go_wp2_with fail
        go_roundw
        case rel => exact ⟨by trivial, k + 1, hlt, by go_num, by rw [HN.out, HM.out]⟩
        case measure => simp [intOf] <;> omega
      · have HM := Lib.hid (show max t x = t by omega)
        go_wp2_with fail
        go_roundw
        case rel => exact ⟨by trivial, k + 1, hlt, by go_num, by rw [HN.out, HM.out]⟩
        case measure => simp [intOf] <;> omega
    · have hi1 : ¬ (k : Int) < xs.length := by omega
      have HKE := Lib.hid (show k = xs.length by omega)
      go_wp2_with fail
      go_ret2
      exact ⟨ret_ibW (by rw [HR.out, ← HKE.out]), HB.out⟩
end Go.Proofs.Ythbmiigndhoopaa
