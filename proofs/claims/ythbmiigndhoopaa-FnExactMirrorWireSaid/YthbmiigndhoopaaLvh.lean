/-
  What is proved: MirrorWire of the model. Conditions: those of each contract.
-/
import Derived.Test.YthbmiigndhoopaaLvd
namespace Go.Proofs.Ythbmiigndhoopaa
open Go.RowKit
set_option linter.unusedVariables false
set_option linter.unusedSimpArgs false

/-- the mirrored wire, bead by bead -/
def mrG (L : Int) (ps : List Int) (t : Nat) : Int := L - ps.getD (ps.length - 1 - t) 0
def mrH (ds : List Int) (n t : Nat) : Int := -ds.getD (n - 1 - t) 0
def mrP (L : Int) (ps : List Int) (k : Nat) : List Int := (List.range k).map (mrG L ps)
def mrD (ds : List Int) (n k : Nat) : List Int := (List.range k).map (mrH ds n)
theorem mrP_len (L : Int) (ps : List Int) (k : Nat) : (mrP L ps k).length = k := by simp [mrP]
theorem mrD_len (ds : List Int) (n k : Nat) : (mrD ds n k).length = k := by simp [mrD]
theorem mrP_next (L : Int) (ps : List Int) (k : Nat) : (mrP L ps (k + 1)).map iv = (mrP L ps k).map iv ++ [.int .i64 (mrG L ps k)] := by
  unfold mrP
  rw [List.range_succ, List.map_append, List.map_append]
  rfl
theorem mrD_next (ds : List Int) (n k : Nat) : (mrD ds n (k + 1)).map iv = (mrD ds n k).map iv ++ [.int .i64 (mrH ds n k)] := by
  unfold mrD
  rw [List.range_succ, List.map_append, List.map_append]
  rfl
theorem own_nilWr (lo hi : Nat) (w : World) : OwnWr lo hi (.slice none 0 0) (.slice none 0 0) [] [] w :=
  ⟨own_nil _ _, own_nil _ _, fun b e => by simp [Value.ownBlock] at e, fun b e => by simp [Value.ownBlock] at e, fun b e => by simp [Value.ownBlock] at e⟩
noncomputable def mirrorWR (L : Int) (ps ds : List Int) : Int × List Int × List Int × Bool := if wireB L ps ds = true then (L, mrP L ps ps.length, mrD ds ps.length ps.length, true) else (0, [], [], false)
theorem mirrorWR_len (L : Int) (ps ds : List Int) : (mirrorWR L ps ds).2.1.length + (mirrorWR L ps ds).2.2.1.length ≤ 1048576 := by
  unfold mirrorWR
  split
  · rename_i h
    have h1 := (wire_ok h).n8
    show (mrP L ps ps.length).length + (mrD ds ps.length ps.length).length ≤ _
    rw [mrP_len, mrD_len]
    omega
  · simp
/-- the answer is a wire, its lists of their own and apart, and a truth -/
def OwnsWrB (base : Nat) (L : Int) (xs ys : List Int) (b : Bool) (w : World) (e : Ending) (w' : World) : Prop :=
  ∃ v u, e = .returned (.tuple #[wrV L v u, .bool b]) ∧ OwnWr base w'.heap.size v u xs ys w' ∧ Below base w w'
theorem wr_R {base : Nat} {R : Int × List Int × List Int × Bool} {L : Int} {zs ys : List Int} {b : Bool} {w w' : World} {e : Ending} (hR : R = (L, zs, ys, b)) (h : OwnsWrB base L zs ys b w e w') : OwnsWrB base R.1 R.2.1 R.2.2.1 R.2.2.2 w e w' := by
  rw [hR]
  exact h
def MiRel (L : Int) (v u : Value) (ps ds : List Int) (g4 base : Nat) (w : World) (vi : Value) (wr : World) : Prop :=
  ∃ (k : Nat) (v5 v6 : Value), k ≤ ps.length ∧ vi = .int .i64 ((ps.length : Int) - 1 - k) ∧ wr.ownsRow base 3 1 v5 k ((mrP L ps k).map iv) ∧ wr.ownsRow base 3 1 v6 k ((mrD ds ps.length k).map iv) ∧ ApW v5 v6 ∧ Blk wr base (wrC L v u) 39 ∧ Blk wr (base + 1) (wrC 0 (.slice none 0 0) (.slice none 0 0)) 39 ∧ Blk wr g4 (wrC L v5 v6) 39 ∧ Below base w wr
set_option maxHeartbeats 3200000 in
set_option maxRecDepth 20000 in
theorem spec_MirrorWire (L : Int) (v u : Value) (ps ds : List Int) (w : World) (hv : ReadsI w v ps) (hu : ReadsI w u ds) :
    Calls Try.prog 57 #[wrV L v u] w (OwnsWrB w.heap.size (mirrorWR L ps ds).1 (mirrorWR L ps ds).2.1 (mirrorWR L ps ds).2.2.1 (mirrorWR L ps ds).2.2.2 w) := by
  obtain ⟨i0, hi, hz0, hz1, hz2⟩ := info_parts infoInt
  have HW := Lib.hid (fun w hv hu => l8Wire_any L v u ps ds w hv hu)
  have hb0 : Below w.heap.size w ((w.alloc (.cells (wrC L v u) 39)).alloc (.cells (wrC 0 (.slice none 0 0) (.slice none 0 0)) 39)) := ((Below.refl _ w).alloc (Nat.le_refl _) _).alloc (by simp) _
  have HB := Lib.hid hb0
  have HBX := Lib.hid ((blk_new w (wrC L v u) 39).below (below_new _ (.cells (wrC 0 (.slice none 0 0) (.slice none 0 0)) 39)))
  have HBR := Lib.hid (blk_at (w.alloc (.cells (wrC L v u) 39)) (wrC 0 (.slice none 0 0) (.slice none 0 0)) 39 (w.heap.size + 1) (by simp))
  have HV := Lib.hid (hv.below HB.out)
  have HU := Lib.hid (hu.below HB.out)
  obtain ⟨y, c, rfl, hc, hm, hx⟩ := hv
  obtain ⟨z, e, rfl, he, hem, hy⟩ := hu
  have HL := Lib.hid hx
  have HD := Lib.hid hy
  unfold maxLen at hm hem
  clear hx hy hb0
  unfold wrV wrC at *
  have c0 := HBX.out.cell 0
  have c1 := HBX.out.cell 1
  have c2 := HBX.out.cell 2
  go_enter Try.func57, Try.ntmps57
  go_wp2_with fail
  refine (HW.out _ HV.out HU.out).mono ?_
  rintro e2 w1 ⟨rfl, hb⟩
  replace HBX := Lib.hid (HBX.out.below hb)
  replace HBR := Lib.hid (HBR.out.below hb)
  replace HB := Lib.hid (HB.out.trans (hb.mono HB.out.size))
  clear hb c0 c1 c2
  cases hl : wireB L ps ds
  · have HR := Lib.hid (show mirrorWR L ps ds = (0, [], [], false) from if_neg (by rw [hl]; simp))
    have d0 := HBR.out.cell 0
    have d1 := HBR.out.cell 1
    have d2 := HBR.out.cell 2
    have f0 := HBR.out.free 0
    have f1 := HBR.out.free 1
    have f2 := HBR.out.free 2
    clear hl
    go_wp2_with fail
    have HRS := bset3 (.int .i64 0) (.slice none 0 0) (.slice none 0 0) HBR.out
    have s0 := HRS.cell 0
    have s1 := HRS.cell 1
    have s2 := HRS.cell 2
    exact bodyPost_ret (v := .tuple #[wrV 0 (.slice none 0 0) (.slice none 0 0), .bool false]) (by simp [results, Try.results57, go_sem, s0, s1, s2]) rfl (wr_R HR.out ⟨_, _, rfl, own_nilWr _ _ _, lset3 _ _ _ HB.out (by omega)⟩)
  · have HR := Lib.hid (show mirrorWR L ps ds = (L, mrP L ps ps.length, mrD ds ps.length ps.length, true) from if_pos hl)
    have HWO := Lib.hid (wire_ok hl)
    have hL1 := (wire_ok hl).l1
    have hL30 := (wire_ok hl).l30
    have h8 := (wire_ok hl).n8
    have c0 := HBX.out.cell 0
    have HM5 := Lib.hid (owns_below (owns_below (made_at w1 w.heap.size w1.heap.size rfl HB.out.size) (below_new _ (.cells #[] 3))) (below_new _ (.cells #[.int .i64 L, .slice (some ⟨w1.heap.size, 0, none⟩) 0 0, .slice (some ⟨w1.heap.size + 1, 0, none⟩) 0 0] 39)))
    have HM6 := Lib.hid (owns_below (made_at (w1.alloc (.cells #[] 3)) w.heap.size (w1.heap.size + 1) (by simp) (by have := HB.out.size; omega)) (below_new _ (.cells #[.int .i64 L, .slice (some ⟨w1.heap.size, 0, none⟩) 0 0, .slice (some ⟨w1.heap.size + 1, 0, none⟩) 0 0] 39)))
    have hb3 : Below w1.heap.size w1 (((w1.alloc (.cells #[] 3)).alloc (.cells #[] 3)).alloc (.cells #[.int .i64 L, .slice (some ⟨w1.heap.size, 0, none⟩) 0 0, .slice (some ⟨w1.heap.size + 1, 0, none⟩) 0 0] 39)) := (((Below.refl _ w1).alloc (Nat.le_refl _) _).alloc (by simp) _).alloc (by simp; omega) _
    have HAP := Lib.hid (show ApW (.slice (some ⟨w1.heap.size, 0, none⟩) 0 0) (.slice (some ⟨w1.heap.size + 1, 0, none⟩) 0 0) from fun b e e2 => by have := ob_eqW e; have := ob_eqW e2; omega)
    have HB4 := Lib.hid (blk_at ((w1.alloc (.cells #[] 3)).alloc (.cells #[] 3)) #[.int .i64 L, .slice (some ⟨w1.heap.size, 0, none⟩) 0 0, .slice (some ⟨w1.heap.size + 1, 0, none⟩) 0 0] 39 (w1.heap.size + 1 + 1) (by simp))
    have HS := Lib.hid (show MiRel L (.slice y ps.length c) (.slice z ds.length e) ps ds (w1.heap.size + 1 + 1) w.heap.size w (.int .i64 ((ps.length : Int) - 1)) _ from ⟨0, _, _, Nat.zero_le _, by simp, HM5.out, HM6.out, HAP.out, HBX.out.below hb3, HBR.out.below hb3, HB4.out, HB.out.trans (hb3.mono HB.out.size)⟩)
    have HGL := Lib.hid (show w.heap.size + 1 < w1.heap.size + 1 + 1 by have := HBR.out.lt; omega)
    have c1 := (HBX.out.below hb3).cell 1
    clear hl HM5 HM6 HAP HB4 HBX HBR HB hb3
    go_wp2_with fail
    generalize hg4 : w1.heap.size + 1 + 1 = g4 at *
    clear hg4 c0 c1
    go_loopw [5] (fun vi wr => MiRel L (.slice y ps.length c) (.slice z ds.length e) ps ds g4 w.heap.size w vi wr) (fun i _ => (intOf i + 1).toNat)
    case atStart => exact HS.out
    case round =>
      clear HS
      obtain ⟨k, v5, v6, hk, rfl, h5, h6, hap, hbx, hbr, hb4, hb⟩ := hrel
      have HOW := Lib.hid h5
      have HO6 := Lib.hid h6
      have HAP := Lib.hid hap
      have HBX := Lib.hid hbx
      have HBR := Lib.hid hbr
      have HB4 := Lib.hid hb4
      have HB := Lib.hid hb
      clear h5 h6 hap hbx hbr hb4 hb
      by_cases hlt : k < ps.length
      · obtain ⟨p, hpk⟩ := get_some (xs := ps) (k := ps.length - 1 - k) (by omega)
        obtain ⟨d, hdk⟩ := get_some (xs := ds) (k := ps.length - 1 - k) (by have := HWO.out.same; omega)
        obtain ⟨bp, op, e7, hbp, hcp⟩ := HL.out _ p hpk
        obtain ⟨bd, od, e8, hbd, hcd⟩ := HD.out _ d hdk
        have hdw := HWO.out.way _ d hdk
        have hpw := HWO.out.place _ p hpk
        have HGP := Lib.hid (show mrG L ps k = L - p by unfold mrG; rw [show ps.getD (ps.length - 1 - k) 0 = p by simp [List.getD, hpk]])
        have HGD := Lib.hid (show mrH ds ps.length k = -d by unfold mrH; rw [show ds.getD (ps.length - 1 - k) 0 = d by simp [List.getD, hdk]])
        obtain ⟨j, hj⟩ : ∃ j : Nat, ps.length - 1 - k = j := ⟨_, rfl⟩
        rw [hj] at hcp hcd
        have hji : (ps.length : Int) - 1 - k = (j : Int) := by omega
        have HJI := Lib.hid hji
        have HCP := Lib.hid hcp
        have HCD := Lib.hid hcd
        have hj0 : 0 ≤ (j : Int) := by omega
        have hj1 : (j : Int) < ps.length := by omega
        have hj2 : (j : Int) < ds.length := by have := HWO.out.same; omega
        have hlp : IntKind.i64.wrap (L - p) = L - p := IntWalk.i64_in _ (by omega)
        have hnd : IntKind.i64.wrap (-d) = -d := IntWalk.i64_in _ (by omega)
        obtain ⟨a5, c5, f5, _⟩ := owns_shape HOW.out
        obtain ⟨a6, c6, f6, _⟩ := owns_shape HO6.out
        subst e7 e8 f5 f6
        generalize hy5 : (mrP L ps k).map iv = y5 at *
        generalize hy6 : (mrD ds ps.length k).map iv = y6 at *
        have HYS5 := Lib.hid hy5
        have HYS6 := Lib.hid hy6
        have HLT := Lib.hid hlt
        rw [hji]
        clear hpk hdk hcp hcd hj hji hy5 hy6
        go_wp2_with fail
        refine wp_region_noPanic ?_
        have HBX := Lib.hid (HBX.out.below (below_drewN _ 1))
        have HBR := Lib.hid (HBR.out.below (below_drewN _ 1))
        have HB4 := Lib.hid (HB4.out.below (below_drewN _ 1))
        have HOW := Lib.hid (owns_below HOW.out (below_drewN _ 1))
        have HO6 := Lib.hid (owns_below HO6.out (below_drewN _ 1))
        have HB := Lib.hid (HB.out.trans ((below_drewN _ 1).mono HB.out.size))
        refine wp_region_held_drew (S := fun w' => w'.cell? ⟨w.heap.size, 0, none⟩ = some (.int .i64 L) ∧ w'.cell? ⟨w.heap.size, 1, none⟩ = some (.slice (some ⟨bp, op, none⟩) ps.length c) ∧ w'.cell? ⟨w.heap.size, 2, none⟩ = some (.slice (some ⟨bd, od, none⟩) ds.length e) ∧ w'.cell? ⟨bp, op + j, none⟩ = some (.int .i64 p) ∧ w'.cell? ⟨bd, od + j, none⟩ = some (.int .i64 d)) (by kernel_rfl) (⟨HBX.out.cell 0, HBX.out.cell 1, HBX.out.cell 2, (HB.out.cell (p := ⟨bp, op + j, none⟩) hbp).trans HCP.out, (HB.out.cell (p := ⟨bd, od + j, none⟩) hbd).trans HCD.out⟩) (fun hHeld => ?_)
        refine wpAnyH_take (i := 0) (oi := _) (v := ?_) rfl (by kernel_rfl) (by kernel_rfl) (by kernel_rfl) (fun _ _ _ h => h) (Or.inl ⟨by rfl, ?_⟩) (by assumption) ?_
        rotate_left
        · (intro w hSw; (try dsimp only at hSw); (first | (go_simp; done) | (go_simp; with_reducible rfl)))
        simp only [Act.put, List.getElem_toArray, List.getElem_cons_succ, List.getElem_cons_zero, List.setIfInBounds_toArray, List.set_cons_zero, List.set_cons_succ]
        refine wpAnyH_take (i := 2) (oi := _) (v := ?_) rfl (by kernel_rfl) (by kernel_rfl) (by kernel_rfl) (fun _ _ _ h => h) (Or.inl ⟨by rfl, ?_⟩) (by assumption) ?_
        rotate_left
        · (intro w hSw; (try dsimp only at hSw); (first | (go_simp; done) | (go_simp; with_reducible rfl)))
        simp only [Act.put, List.getElem_toArray, List.getElem_cons_succ, List.getElem_cons_zero, List.setIfInBounds_toArray, List.set_cons_zero, List.set_cons_succ]
        refine wpAnyH_take (i := 3) (oi := _) (v := ?_) rfl (by kernel_rfl) (by kernel_rfl) (by kernel_rfl) (fun _ _ _ h => h) (Or.inl ⟨by rfl, ?_⟩) (by assumption) ?_
        rotate_left
        · (intro w hSw; (try dsimp only at hSw); (first | (go_simp; done) | (go_simp; with_reducible rfl)))
        simp only [Act.put, List.getElem_toArray, List.getElem_cons_succ, List.getElem_cons_zero, List.setIfInBounds_toArray, List.set_cons_zero, List.set_cons_succ]
        refine wpAnyH_take (i := 4) (oi := _) (v := ?_) rfl (by kernel_rfl) (by kernel_rfl) (by kernel_rfl) (fun _ _ _ h => h) (Or.inl ⟨by rfl, ?_⟩) (by assumption) ?_
        rotate_left
        · (intro w hSw; (try dsimp only at hSw); (first | (go_simp; done) | (go_simp; with_reducible rfl)))
        simp only [Act.put, List.getElem_toArray, List.getElem_cons_succ, List.getElem_cons_zero, List.setIfInBounds_toArray, List.set_cons_zero, List.set_cons_succ]
        refine wpAnyH_take (i := 5) (oi := _) (v := ?_) rfl (by kernel_rfl) (by kernel_rfl) (by kernel_rfl) (fun _ _ _ h => h) (Or.inl ⟨by rfl, ?_⟩) (by assumption) ?_
        rotate_left
        · (intro w hSw; (try dsimp only at hSw); (first | (go_simp; done) | (go_simp; with_reducible rfl)))
        simp only [Act.put, List.getElem_toArray, List.getElem_cons_succ, List.getElem_cons_zero, List.setIfInBounds_toArray, List.set_cons_zero, List.set_cons_succ]
        refine wpAnyH_take (i := 6) (oi := _) (v := ?_) rfl (by kernel_rfl) (by kernel_rfl) (by kernel_rfl) (fun _ _ _ h => h) (Or.inl ⟨by rfl, ?_⟩) (by assumption) ?_
        rotate_left
        · (intro w hSw; (try dsimp only at hSw); (first | (go_simp; done) | (go_simp; with_reducible rfl)))
        simp only [Act.put, List.getElem_toArray, List.getElem_cons_succ, List.getElem_cons_zero, List.setIfInBounds_toArray, List.set_cons_zero, List.set_cons_succ]
        refine wpAnyH_take (i := 7) (oi := _) (v := .pointer (some ⟨bp, op + j, none⟩)) rfl (by kernel_rfl) (by kernel_rfl) (by kernel_rfl) (fun _ _ _ h => h) (Or.inl ⟨by rfl, ?_⟩) (by assumption) ?_
        · (intro w hSw; (try dsimp only at hSw); go_simp; first | done | (simp [hj0, hj1]; done) | omega | (simp <;> omega) | trace_state)
        simp only [Act.put, List.getElem_toArray, List.getElem_cons_succ, List.getElem_cons_zero, List.setIfInBounds_toArray, List.set_cons_zero, List.set_cons_succ]
        refine wpAnyH_take (i := 8) (oi := _) (v := ?_) rfl (by kernel_rfl) (by kernel_rfl) (by kernel_rfl) (fun _ _ _ h => h) (Or.inl ⟨by rfl, ?_⟩) (by assumption) ?_
        rotate_left
        · (intro w hSw; (try dsimp only at hSw); (first | (go_simp; done) | (go_simp; with_reducible rfl)))
        simp only [Act.put, List.getElem_toArray, List.getElem_cons_succ, List.getElem_cons_zero, List.setIfInBounds_toArray, List.set_cons_zero, List.set_cons_succ]
        refine wpAnyH_take (i := 9) (oi := _) (v := .int .i64 (L - p)) rfl (by kernel_rfl) (by kernel_rfl) (by kernel_rfl) (fun _ _ _ h => h) (Or.inl ⟨by rfl, ?_⟩) (by assumption) ?_
        · (intro w hSw; (try dsimp only at hSw); go_simp; first | done | (simp [hlp]; done) | omega | (simp <;> omega) | trace_state)
        simp only [Act.put, List.getElem_toArray, List.getElem_cons_succ, List.getElem_cons_zero, List.setIfInBounds_toArray, List.set_cons_zero, List.set_cons_succ]
        refine wpAnyH_ready (rs := [1, 10]) (by kernel_rfl) (by simp) ?_
        refine AllReadyH.cons rfl (fun K hK => ?_) (AllReadyH.cons rfl (fun K hK => ?_) AllReadyH.nil)
        · skip
          have q9 : World.cell? _ ⟨g4, 1, none⟩ = some (.slice a5 k c5) := HB4.out.cell 1
          go_simp
          first | (have q8 : (wr.alloc (.cells #[.int .i64 (L - p)] 3)).cell? ⟨g4, 1, none⟩ = some (.slice a5 k c5) := q9; rw [q8]) | (have q8 : wr.cell? ⟨g4, 1, none⟩ = some (.slice a5 k c5) := q9; rw [q8])
          go_simp
          clear q9
          clear hHeld
          refine hK.out _ _ (⟨HBX.out.cell 0, HBX.out.cell 1, HBX.out.cell 2, (HB.out.cell (p := ⟨bp, op + j, none⟩) hbp).trans HCP.out, (HB.out.cell (p := ⟨bd, od + j, none⟩) hbd).trans HCD.out⟩) (fun hHeld => ?_)
          clear hK K
          refine wpAnyH_ready (rs := [10]) (by kernel_rfl) (by simp) ?_
          refine AllReadyH.cons rfl (fun K hK => ?_) AllReadyH.nil
          go_simp
          have HNW := Lib.hid (one_nw (x := .int .i64 (L - p)) (t := 3) (wr.drewN 1) wr.heap.size rfl)
          have H6B := Lib.hid (fun b hb => (owns_block HO6.out b hb).2)
          have HBX := Lib.hid (HBX.out.below (below_new _ (.cells #[.int .i64 (L - p)] 3)))
          have HBR := Lib.hid (HBR.out.below (below_new _ (.cells #[.int .i64 (L - p)] 3)))
          have HB4 := Lib.hid (HB4.out.below (below_new _ (.cells #[.int .i64 (L - p)] 3)))
          have HOW := Lib.hid (owns_below HOW.out (below_new _ (.cells #[.int .i64 (L - p)] 3)))
          have HO6 := Lib.hid (owns_below HO6.out (below_new _ (.cells #[.int .i64 (L - p)] 3)))
          have HB := Lib.hid (HB.out.trans ((below_new _ (.cells #[.int .i64 (L - p)] 3)).mono HB.out.size))
          refine hK.out _ _ (⟨HBX.out.cell 0, HBX.out.cell 1, HBX.out.cell 2, (HB.out.cell (p := ⟨bp, op + j, none⟩) hbp).trans HCP.out, (HB.out.cell (p := ⟨bd, od + j, none⟩) hbd).trans HCD.out⟩) (fun hHeld => ?_)
          clear hK K
          have HX := Lib.hid hHeld.1
          refine wpAnyH_ready (rs := [11]) (by kernel_rfl) (by simp) ?_
          refine AllReadyH.cons rfl (fun K hK => ?_) AllReadyH.nil
          refine step_append_lies _ (by rfl) _ _ _ (by rfl) (w.heap.size) 3 i0 (.int .i64 0) 1 8 Try.underlying22 hi hz0 hz1 hz2 rfl (by decide) _ _ _ (by rfl) HOW.out ⟨wr.heap.size, 0, none⟩ 1 1 [.int .i64 (L - p)] (by rfl) (by rfl) HNW.out ?c2 (by decide) ?c3 ?c4 ?c5 (wr.heap.size + 1) (by simp) ?_
          case c2 => first | (intro u hu; simp at hu; subst hu; rfl) | rfl
          case c3 => unfold maxLen; omega
          case c4 => omega
          case c5 => exact HB.out.size
          intro g95 c95 w95 hown' hgrow hlies hlt9
          have HO6 := Lib.hid (rkept HO6.out hgrow (fun b e e2 => HAP.out b e2 e))
          have HBX := Lib.hid (bkept HBX.out hgrow (fun e => row_type HOW.out HBX.out (by decide) _ e rfl))
          have HBR := Lib.hid (bkept HBR.out hgrow (fun e => row_type HOW.out HBR.out (by decide) _ e rfl))
          have HB4 := Lib.hid (bkept HB4.out hgrow (fun e => row_type HOW.out HB4.out (by decide) _ e rfl))
          have HB := Lib.hid (HB.out.trans (below_grown hgrow (fun b hb => (owns_block HOW.out b hb).1) HB.out.size))
          have HAP := Lib.hid (ap_left (n := k + 1) (c := c95) HAP.out hlies (fun b e => by have h := H6B.out b e; have h2 : (wr.drewN 1).heap.size = wr.heap.size := rfl; omega))
          have HOW := Lib.hid hown'
          clear hown' hgrow hlies hlt9 HNW H6B
          clear hHeld
          refine hK.out _ _ (⟨HBX.out.cell 0, HBX.out.cell 1, HBX.out.cell 2, (HB.out.cell (p := ⟨bp, op + j, none⟩) hbp).trans HCP.out, (HB.out.cell (p := ⟨bd, od + j, none⟩) hbd).trans HCD.out⟩) (fun hHeld => ?_)
          clear hK K
          refine wpAnyH_take (i := 12) (oi := _) (v := ?_) rfl (by kernel_rfl) (by kernel_rfl) (by kernel_rfl) (fun _ _ _ h => h) (Or.inl ⟨by rfl, ?_⟩) (by assumption) ?_
          rotate_left
          · (intro w hSw; (try dsimp only at hSw); (first | (go_simp; done) | (go_simp; with_reducible rfl)))
          simp only [Act.put, List.getElem_toArray, List.getElem_cons_succ, List.getElem_cons_zero, List.setIfInBounds_toArray, List.set_cons_zero, List.set_cons_succ]
          refine wpAnyH_ready (rs := [13]) (by kernel_rfl) (by simp) ?_
          refine AllReadyH.cons rfl (fun K hK => ?_) AllReadyH.nil
          have q0 := HB4.out.cell 1
          have q1 := HB4.out.free 1
          go_simp
          have HOW := Lib.hid (roth (j := 1) HOW.out (.slice (some ⟨g95, 0, none⟩) (k + 1) c95) (row_type HOW.out HB4.out (by decide)))
          have HO6 := Lib.hid (roth (j := 1) HO6.out (.slice (some ⟨g95, 0, none⟩) (k + 1) c95) (row_type HO6.out HB4.out (by decide)))
          have HBX := Lib.hid (both (j := 1) (.slice (some ⟨g95, 0, none⟩) (k + 1) c95) HBX.out (show w.heap.size ≠ g4 by have := HGL.out; omega))
          have HBR := Lib.hid (both (j := 1) (.slice (some ⟨g95, 0, none⟩) (k + 1) c95) HBR.out (show w.heap.size + 1 ≠ g4 by have := HGL.out; omega))
          have HB4 := Lib.hid (bset (j := 1) (.slice (some ⟨g95, 0, none⟩) (k + 1) c95) HB4.out)
          have HB := Lib.hid (below_set (b := g4) (j := 1) (.slice (some ⟨g95, 0, none⟩) (k + 1) c95) HB.out (by have := HGL.out; omega))
          clear q0 q1
          clear hHeld
          refine hK.out _ _ (⟨HBX.out.cell 0, HBX.out.cell 1, HBX.out.cell 2, (HB.out.cell (p := ⟨bp, op + j, none⟩) hbp).trans HCP.out, (HB.out.cell (p := ⟨bd, od + j, none⟩) hbd).trans HCD.out⟩) (fun hHeld => ?_)
          clear hK K
          refine wpAnyH_done (by kernel_rfl) ?_ _
          refine NoPanic.normal ?_
          clear hHeld
          go_wp2_with fail
          generalize hws : w95.setCell ⟨g4, 1, none⟩ (.slice (some ⟨g95, 0, none⟩) (k + 1) c95) = ws at *
          clear hws
          refine wp_region_noPanic ?_
          have HBX := Lib.hid (HBX.out.below (below_drewN _ 1))
          have HBR := Lib.hid (HBR.out.below (below_drewN _ 1))
          have HB4 := Lib.hid (HB4.out.below (below_drewN _ 1))
          have HOW := Lib.hid (owns_below HOW.out (below_drewN _ 1))
          have HO6 := Lib.hid (owns_below HO6.out (below_drewN _ 1))
          have HB := Lib.hid (HB.out.trans ((below_drewN _ 1).mono HB.out.size))
          refine wp_region_held_drew (S := fun w' => w'.cell? ⟨w.heap.size, 0, none⟩ = some (.int .i64 L) ∧ w'.cell? ⟨w.heap.size, 1, none⟩ = some (.slice (some ⟨bp, op, none⟩) ps.length c) ∧ w'.cell? ⟨w.heap.size, 2, none⟩ = some (.slice (some ⟨bd, od, none⟩) ds.length e) ∧ w'.cell? ⟨bp, op + j, none⟩ = some (.int .i64 p) ∧ w'.cell? ⟨bd, od + j, none⟩ = some (.int .i64 d)) (by kernel_rfl) (⟨HBX.out.cell 0, HBX.out.cell 1, HBX.out.cell 2, (HB.out.cell (p := ⟨bp, op + j, none⟩) hbp).trans HCP.out, (HB.out.cell (p := ⟨bd, od + j, none⟩) hbd).trans HCD.out⟩) (fun hHeld => ?_)
          refine wpAnyH_take (i := 0) (oi := _) (v := ?_) rfl (by kernel_rfl) (by kernel_rfl) (by kernel_rfl) (fun _ _ _ h => h) (Or.inl ⟨by rfl, ?_⟩) (by assumption) ?_
          rotate_left
          · (intro w hSw; (try dsimp only at hSw); (first | (go_simp; done) | (go_simp; with_reducible rfl)))
          simp only [Act.put, List.getElem_toArray, List.getElem_cons_succ, List.getElem_cons_zero, List.setIfInBounds_toArray, List.set_cons_zero, List.set_cons_succ]
          refine wpAnyH_take (i := 2) (oi := _) (v := ?_) rfl (by kernel_rfl) (by kernel_rfl) (by kernel_rfl) (fun _ _ _ h => h) (Or.inl ⟨by rfl, ?_⟩) (by assumption) ?_
          rotate_left
          · (intro w hSw; (try dsimp only at hSw); (first | (go_simp; done) | (go_simp; with_reducible rfl)))
          simp only [Act.put, List.getElem_toArray, List.getElem_cons_succ, List.getElem_cons_zero, List.setIfInBounds_toArray, List.set_cons_zero, List.set_cons_succ]
          refine wpAnyH_take (i := 3) (oi := _) (v := ?_) rfl (by kernel_rfl) (by kernel_rfl) (by kernel_rfl) (fun _ _ _ h => h) (Or.inl ⟨by rfl, ?_⟩) (by assumption) ?_
          rotate_left
          · (intro w hSw; (try dsimp only at hSw); (first | (go_simp; done) | (go_simp; with_reducible rfl)))
          simp only [Act.put, List.getElem_toArray, List.getElem_cons_succ, List.getElem_cons_zero, List.setIfInBounds_toArray, List.set_cons_zero, List.set_cons_succ]
          refine wpAnyH_take (i := 4) (oi := _) (v := ?_) rfl (by kernel_rfl) (by kernel_rfl) (by kernel_rfl) (fun _ _ _ h => h) (Or.inl ⟨by rfl, ?_⟩) (by assumption) ?_
          rotate_left
          · (intro w hSw; (try dsimp only at hSw); (first | (go_simp; done) | (go_simp; with_reducible rfl)))
          simp only [Act.put, List.getElem_toArray, List.getElem_cons_succ, List.getElem_cons_zero, List.setIfInBounds_toArray, List.set_cons_zero, List.set_cons_succ]
          refine wpAnyH_take (i := 5) (oi := _) (v := .pointer (some ⟨bd, od + j, none⟩)) rfl (by kernel_rfl) (by kernel_rfl) (by kernel_rfl) (fun _ _ _ h => h) (Or.inl ⟨by rfl, ?_⟩) (by assumption) ?_
          · (intro w hSw; (try dsimp only at hSw); go_simp; first | done | (simp [hj0, hj2]; done) | omega | (simp <;> omega) | trace_state)
          simp only [Act.put, List.getElem_toArray, List.getElem_cons_succ, List.getElem_cons_zero, List.setIfInBounds_toArray, List.set_cons_zero, List.set_cons_succ]
          refine wpAnyH_take (i := 6) (oi := _) (v := ?_) rfl (by kernel_rfl) (by kernel_rfl) (by kernel_rfl) (fun _ _ _ h => h) (Or.inl ⟨by rfl, ?_⟩) (by assumption) ?_
          rotate_left
          · (intro w hSw; (try dsimp only at hSw); (first | (go_simp; done) | (go_simp; with_reducible rfl)))
          simp only [Act.put, List.getElem_toArray, List.getElem_cons_succ, List.getElem_cons_zero, List.setIfInBounds_toArray, List.set_cons_zero, List.set_cons_succ]
          refine wpAnyH_take (i := 7) (oi := _) (v := .int .i64 (-d)) rfl (by kernel_rfl) (by kernel_rfl) (by kernel_rfl) (fun _ _ _ h => h) (Or.inl ⟨by rfl, ?_⟩) (by assumption) ?_
          · (intro w hSw; (try dsimp only at hSw); go_simp; first | done | (simp [hnd]; done) | omega | (simp <;> omega) | trace_state)
          simp only [Act.put, List.getElem_toArray, List.getElem_cons_succ, List.getElem_cons_zero, List.setIfInBounds_toArray, List.set_cons_zero, List.set_cons_succ]
          refine wpAnyH_ready (rs := [1, 8]) (by kernel_rfl) (by simp) ?_
          refine AllReadyH.cons rfl (fun K hK => ?_) (AllReadyH.cons rfl (fun K hK => ?_) AllReadyH.nil)
          · skip
            have q9 : World.cell? _ ⟨g4, 2, none⟩ = some (.slice a6 k c6) := HB4.out.cell 2
            go_simp
            first | (have q8 : (ws.alloc (.cells #[.int .i64 (-d)] 3)).cell? ⟨g4, 2, none⟩ = some (.slice a6 k c6) := q9; rw [q8]) | (have q8 : ws.cell? ⟨g4, 2, none⟩ = some (.slice a6 k c6) := q9; rw [q8])
            go_simp
            clear q9
            clear hHeld
            refine hK.out _ _ (⟨HBX.out.cell 0, HBX.out.cell 1, HBX.out.cell 2, (HB.out.cell (p := ⟨bp, op + j, none⟩) hbp).trans HCP.out, (HB.out.cell (p := ⟨bd, od + j, none⟩) hbd).trans HCD.out⟩) (fun hHeld => ?_)
            clear hK K
            refine wpAnyH_ready (rs := [8]) (by kernel_rfl) (by simp) ?_
            refine AllReadyH.cons rfl (fun K hK => ?_) AllReadyH.nil
            go_simp
            have HNW := Lib.hid (one_nw (x := .int .i64 (-d)) (t := 3) (ws.drewN 1) ws.heap.size rfl)
            have H5B := Lib.hid (fun b hb => (owns_block HOW.out b hb).2)
            have HBX := Lib.hid (HBX.out.below (below_new _ (.cells #[.int .i64 (-d)] 3)))
            have HBR := Lib.hid (HBR.out.below (below_new _ (.cells #[.int .i64 (-d)] 3)))
            have HB4 := Lib.hid (HB4.out.below (below_new _ (.cells #[.int .i64 (-d)] 3)))
            have HOW := Lib.hid (owns_below HOW.out (below_new _ (.cells #[.int .i64 (-d)] 3)))
            have HO6 := Lib.hid (owns_below HO6.out (below_new _ (.cells #[.int .i64 (-d)] 3)))
            have HB := Lib.hid (HB.out.trans ((below_new _ (.cells #[.int .i64 (-d)] 3)).mono HB.out.size))
            refine hK.out _ _ (⟨HBX.out.cell 0, HBX.out.cell 1, HBX.out.cell 2, (HB.out.cell (p := ⟨bp, op + j, none⟩) hbp).trans HCP.out, (HB.out.cell (p := ⟨bd, od + j, none⟩) hbd).trans HCD.out⟩) (fun hHeld => ?_)
            clear hK K
            have HX := Lib.hid hHeld.1
            refine wpAnyH_ready (rs := [9]) (by kernel_rfl) (by simp) ?_
            refine AllReadyH.cons rfl (fun K hK => ?_) AllReadyH.nil
            refine step_append_lies _ (by rfl) _ _ _ (by rfl) (w.heap.size) 3 i0 (.int .i64 0) 1 8 Try.underlying22 hi hz0 hz1 hz2 rfl (by decide) _ _ _ (by rfl) HO6.out ⟨ws.heap.size, 0, none⟩ 1 1 [.int .i64 (-d)] (by rfl) (by rfl) HNW.out ?c2 (by decide) ?c3 ?c4 ?c5 (ws.heap.size + 1) (by simp) ?_
            case c2 => first | (intro u hu; simp at hu; subst hu; rfl) | rfl
            case c3 => unfold maxLen; omega
            case c4 => omega
            case c5 => exact HB.out.size
            intro g96 c96 w96 hown' hgrow hlies hlt9
            have HOW := Lib.hid (rkept HOW.out hgrow HAP.out)
            have HBX := Lib.hid (bkept HBX.out hgrow (fun e => row_type HO6.out HBX.out (by decide) _ e rfl))
            have HBR := Lib.hid (bkept HBR.out hgrow (fun e => row_type HO6.out HBR.out (by decide) _ e rfl))
            have HB4 := Lib.hid (bkept HB4.out hgrow (fun e => row_type HO6.out HB4.out (by decide) _ e rfl))
            have HB := Lib.hid (HB.out.trans (below_grown hgrow (fun b hb => (owns_block HO6.out b hb).1) HB.out.size))
            have HAP := Lib.hid (ap_right (n := k + 1) (c := c96) HAP.out hlies (fun b e => by have h := H5B.out b e; have h2 : (ws.drewN 1).heap.size = ws.heap.size := rfl; omega))
            have HO6 := Lib.hid hown'
            clear hown' hgrow hlies hlt9 HNW H5B
            clear hHeld
            refine hK.out _ _ (⟨HBX.out.cell 0, HBX.out.cell 1, HBX.out.cell 2, (HB.out.cell (p := ⟨bp, op + j, none⟩) hbp).trans HCP.out, (HB.out.cell (p := ⟨bd, od + j, none⟩) hbd).trans HCD.out⟩) (fun hHeld => ?_)
            clear hK K
            refine wpAnyH_take (i := 10) (oi := _) (v := ?_) rfl (by kernel_rfl) (by kernel_rfl) (by kernel_rfl) (fun _ _ _ h => h) (Or.inl ⟨by rfl, ?_⟩) (by assumption) ?_
            rotate_left
            · (intro w hSw; (try dsimp only at hSw); (first | (go_simp; done) | (go_simp; with_reducible rfl)))
            simp only [Act.put, List.getElem_toArray, List.getElem_cons_succ, List.getElem_cons_zero, List.setIfInBounds_toArray, List.set_cons_zero, List.set_cons_succ]
            refine wpAnyH_ready (rs := [11]) (by kernel_rfl) (by simp) ?_
            refine AllReadyH.cons rfl (fun K hK => ?_) AllReadyH.nil
            have q0 := HB4.out.cell 2
            have q1 := HB4.out.free 2
            go_simp
            have HOW := Lib.hid (roth (j := 2) HOW.out (.slice (some ⟨g96, 0, none⟩) (k + 1) c96) (row_type HOW.out HB4.out (by decide)))
            have HO6 := Lib.hid (roth (j := 2) HO6.out (.slice (some ⟨g96, 0, none⟩) (k + 1) c96) (row_type HO6.out HB4.out (by decide)))
            have HBX := Lib.hid (both (j := 2) (.slice (some ⟨g96, 0, none⟩) (k + 1) c96) HBX.out (show w.heap.size ≠ g4 by have := HGL.out; omega))
            have HBR := Lib.hid (both (j := 2) (.slice (some ⟨g96, 0, none⟩) (k + 1) c96) HBR.out (show w.heap.size + 1 ≠ g4 by have := HGL.out; omega))
            have HB4 := Lib.hid (bset (j := 2) (.slice (some ⟨g96, 0, none⟩) (k + 1) c96) HB4.out)
            have HB := Lib.hid (below_set (b := g4) (j := 2) (.slice (some ⟨g96, 0, none⟩) (k + 1) c96) HB.out (by have := HGL.out; omega))
            clear q0 q1
            clear hHeld
            refine hK.out _ _ (⟨HBX.out.cell 0, HBX.out.cell 1, HBX.out.cell 2, (HB.out.cell (p := ⟨bp, op + j, none⟩) hbp).trans HCP.out, (HB.out.cell (p := ⟨bd, od + j, none⟩) hbd).trans HCD.out⟩) (fun hHeld => ?_)
            clear hK K
            refine wpAnyH_done (by kernel_rfl) ?_ _
            refine NoPanic.normal ?_
            clear hHeld
            go_wp2_with fail
            go_roundw
            case rel => exact ⟨k + 1, _, _, HLT.out, by have := HJI.out; go_num, by rw [mrP_next, HGP.out, HYS5.out]; exact HOW.out, by rw [mrD_next, HGD.out, HYS6.out]; exact HO6.out, HAP.out, HBX.out, HBR.out, HB4.out, HB.out⟩
            case measure => have := HJI.out; simp [intOf] <;> omega
          · skip
            go_simp
            have HNW := Lib.hid (one_nw (x := .int .i64 (-d)) (t := 3) (ws.drewN 1) ws.heap.size rfl)
            have H5B := Lib.hid (fun b hb => (owns_block HOW.out b hb).2)
            have HBX := Lib.hid (HBX.out.below (below_new _ (.cells #[.int .i64 (-d)] 3)))
            have HBR := Lib.hid (HBR.out.below (below_new _ (.cells #[.int .i64 (-d)] 3)))
            have HB4 := Lib.hid (HB4.out.below (below_new _ (.cells #[.int .i64 (-d)] 3)))
            have HOW := Lib.hid (owns_below HOW.out (below_new _ (.cells #[.int .i64 (-d)] 3)))
            have HO6 := Lib.hid (owns_below HO6.out (below_new _ (.cells #[.int .i64 (-d)] 3)))
            have HB := Lib.hid (HB.out.trans ((below_new _ (.cells #[.int .i64 (-d)] 3)).mono HB.out.size))
            refine hK.out _ _ (⟨HBX.out.cell 0, HBX.out.cell 1, HBX.out.cell 2, (HB.out.cell (p := ⟨bp, op + j, none⟩) hbp).trans HCP.out, (HB.out.cell (p := ⟨bd, od + j, none⟩) hbd).trans HCD.out⟩) (fun hHeld => ?_)
            clear hK K
            have HX := Lib.hid hHeld.1
            refine wpAnyH_ready (rs := [1]) (by kernel_rfl) (by simp) ?_
            refine AllReadyH.cons rfl (fun K hK => ?_) AllReadyH.nil
            have q9 : World.cell? _ ⟨g4, 2, none⟩ = some (.slice a6 k c6) := HB4.out.cell 2
            go_simp
            first | (have q8 : (ws.alloc (.cells #[.int .i64 (-d)] 3)).cell? ⟨g4, 2, none⟩ = some (.slice a6 k c6) := q9; rw [q8]) | (have q8 : ws.cell? ⟨g4, 2, none⟩ = some (.slice a6 k c6) := q9; rw [q8])
            go_simp
            clear q9
            clear hHeld
            refine hK.out _ _ (⟨HBX.out.cell 0, HBX.out.cell 1, HBX.out.cell 2, (HB.out.cell (p := ⟨bp, op + j, none⟩) hbp).trans HCP.out, (HB.out.cell (p := ⟨bd, od + j, none⟩) hbd).trans HCD.out⟩) (fun hHeld => ?_)
            clear hK K
            refine wpAnyH_ready (rs := [9]) (by kernel_rfl) (by simp) ?_
            refine AllReadyH.cons rfl (fun K hK => ?_) AllReadyH.nil
            refine step_append_lies _ (by rfl) _ _ _ (by rfl) (w.heap.size) 3 i0 (.int .i64 0) 1 8 Try.underlying22 hi hz0 hz1 hz2 rfl (by decide) _ _ _ (by rfl) HO6.out ⟨ws.heap.size, 0, none⟩ 1 1 [.int .i64 (-d)] (by rfl) (by rfl) HNW.out ?c2 (by decide) ?c3 ?c4 ?c5 (ws.heap.size + 1) (by simp) ?_
            case c2 => first | (intro u hu; simp at hu; subst hu; rfl) | rfl
            case c3 => unfold maxLen; omega
            case c4 => omega
            case c5 => exact HB.out.size
            intro g96 c96 w96 hown' hgrow hlies hlt9
            have HOW := Lib.hid (rkept HOW.out hgrow HAP.out)
            have HBX := Lib.hid (bkept HBX.out hgrow (fun e => row_type HO6.out HBX.out (by decide) _ e rfl))
            have HBR := Lib.hid (bkept HBR.out hgrow (fun e => row_type HO6.out HBR.out (by decide) _ e rfl))
            have HB4 := Lib.hid (bkept HB4.out hgrow (fun e => row_type HO6.out HB4.out (by decide) _ e rfl))
            have HB := Lib.hid (HB.out.trans (below_grown hgrow (fun b hb => (owns_block HO6.out b hb).1) HB.out.size))
            have HAP := Lib.hid (ap_right (n := k + 1) (c := c96) HAP.out hlies (fun b e => by have h := H5B.out b e; have h2 : (ws.drewN 1).heap.size = ws.heap.size := rfl; omega))
            have HO6 := Lib.hid hown'
            clear hown' hgrow hlies hlt9 HNW H5B
            clear hHeld
            refine hK.out _ _ (⟨HBX.out.cell 0, HBX.out.cell 1, HBX.out.cell 2, (HB.out.cell (p := ⟨bp, op + j, none⟩) hbp).trans HCP.out, (HB.out.cell (p := ⟨bd, od + j, none⟩) hbd).trans HCD.out⟩) (fun hHeld => ?_)
            clear hK K
            refine wpAnyH_take (i := 10) (oi := _) (v := ?_) rfl (by kernel_rfl) (by kernel_rfl) (by kernel_rfl) (fun _ _ _ h => h) (Or.inl ⟨by rfl, ?_⟩) (by assumption) ?_
            rotate_left
            · (intro w hSw; (try dsimp only at hSw); (first | (go_simp; done) | (go_simp; with_reducible rfl)))
            simp only [Act.put, List.getElem_toArray, List.getElem_cons_succ, List.getElem_cons_zero, List.setIfInBounds_toArray, List.set_cons_zero, List.set_cons_succ]
            refine wpAnyH_ready (rs := [11]) (by kernel_rfl) (by simp) ?_
            refine AllReadyH.cons rfl (fun K hK => ?_) AllReadyH.nil
            have q0 := HB4.out.cell 2
            have q1 := HB4.out.free 2
            go_simp
            have HOW := Lib.hid (roth (j := 2) HOW.out (.slice (some ⟨g96, 0, none⟩) (k + 1) c96) (row_type HOW.out HB4.out (by decide)))
            have HO6 := Lib.hid (roth (j := 2) HO6.out (.slice (some ⟨g96, 0, none⟩) (k + 1) c96) (row_type HO6.out HB4.out (by decide)))
            have HBX := Lib.hid (both (j := 2) (.slice (some ⟨g96, 0, none⟩) (k + 1) c96) HBX.out (show w.heap.size ≠ g4 by have := HGL.out; omega))
            have HBR := Lib.hid (both (j := 2) (.slice (some ⟨g96, 0, none⟩) (k + 1) c96) HBR.out (show w.heap.size + 1 ≠ g4 by have := HGL.out; omega))
            have HB4 := Lib.hid (bset (j := 2) (.slice (some ⟨g96, 0, none⟩) (k + 1) c96) HB4.out)
            have HB := Lib.hid (below_set (b := g4) (j := 2) (.slice (some ⟨g96, 0, none⟩) (k + 1) c96) HB.out (by have := HGL.out; omega))
            clear q0 q1
            clear hHeld
            refine hK.out _ _ (⟨HBX.out.cell 0, HBX.out.cell 1, HBX.out.cell 2, (HB.out.cell (p := ⟨bp, op + j, none⟩) hbp).trans HCP.out, (HB.out.cell (p := ⟨bd, od + j, none⟩) hbd).trans HCD.out⟩) (fun hHeld => ?_)
            clear hK K
            refine wpAnyH_done (by kernel_rfl) ?_ _
            refine NoPanic.normal ?_
            clear hHeld
            go_wp2_with fail
            go_roundw
            case rel => exact ⟨k + 1, _, _, HLT.out, by have := HJI.out; go_num, by rw [mrP_next, HGP.out, HYS5.out]; exact HOW.out, by rw [mrD_next, HGD.out, HYS6.out]; exact HO6.out, HAP.out, HBX.out, HBR.out, HB4.out, HB.out⟩
            case measure => have := HJI.out; simp [intOf] <;> omega
        · skip
          go_simp
          have HNW := Lib.hid (one_nw (x := .int .i64 (L - p)) (t := 3) (wr.drewN 1) wr.heap.size rfl)
          have H6B := Lib.hid (fun b hb => (owns_block HO6.out b hb).2)
          have HBX := Lib.hid (HBX.out.below (below_new _ (.cells #[.int .i64 (L - p)] 3)))
          have HBR := Lib.hid (HBR.out.below (below_new _ (.cells #[.int .i64 (L - p)] 3)))
          have HB4 := Lib.hid (HB4.out.below (below_new _ (.cells #[.int .i64 (L - p)] 3)))
          have HOW := Lib.hid (owns_below HOW.out (below_new _ (.cells #[.int .i64 (L - p)] 3)))
          have HO6 := Lib.hid (owns_below HO6.out (below_new _ (.cells #[.int .i64 (L - p)] 3)))
          have HB := Lib.hid (HB.out.trans ((below_new _ (.cells #[.int .i64 (L - p)] 3)).mono HB.out.size))
          refine hK.out _ _ (⟨HBX.out.cell 0, HBX.out.cell 1, HBX.out.cell 2, (HB.out.cell (p := ⟨bp, op + j, none⟩) hbp).trans HCP.out, (HB.out.cell (p := ⟨bd, od + j, none⟩) hbd).trans HCD.out⟩) (fun hHeld => ?_)
          clear hK K
          have HX := Lib.hid hHeld.1
          refine wpAnyH_ready (rs := [1]) (by kernel_rfl) (by simp) ?_
          refine AllReadyH.cons rfl (fun K hK => ?_) AllReadyH.nil
          have q9 : World.cell? _ ⟨g4, 1, none⟩ = some (.slice a5 k c5) := HB4.out.cell 1
          go_simp
          first | (have q8 : (wr.alloc (.cells #[.int .i64 (L - p)] 3)).cell? ⟨g4, 1, none⟩ = some (.slice a5 k c5) := q9; rw [q8]) | (have q8 : wr.cell? ⟨g4, 1, none⟩ = some (.slice a5 k c5) := q9; rw [q8])
          go_simp
          clear q9
          clear hHeld
          refine hK.out _ _ (⟨HBX.out.cell 0, HBX.out.cell 1, HBX.out.cell 2, (HB.out.cell (p := ⟨bp, op + j, none⟩) hbp).trans HCP.out, (HB.out.cell (p := ⟨bd, od + j, none⟩) hbd).trans HCD.out⟩) (fun hHeld => ?_)
          clear hK K
          refine wpAnyH_ready (rs := [11]) (by kernel_rfl) (by simp) ?_
          refine AllReadyH.cons rfl (fun K hK => ?_) AllReadyH.nil
          refine step_append_lies _ (by rfl) _ _ _ (by rfl) (w.heap.size) 3 i0 (.int .i64 0) 1 8 Try.underlying22 hi hz0 hz1 hz2 rfl (by decide) _ _ _ (by rfl) HOW.out ⟨wr.heap.size, 0, none⟩ 1 1 [.int .i64 (L - p)] (by rfl) (by rfl) HNW.out ?c2 (by decide) ?c3 ?c4 ?c5 (wr.heap.size + 1) (by simp) ?_
          case c2 => first | (intro u hu; simp at hu; subst hu; rfl) | rfl
          case c3 => unfold maxLen; omega
          case c4 => omega
          case c5 => exact HB.out.size
          intro g95 c95 w95 hown' hgrow hlies hlt9
          have HO6 := Lib.hid (rkept HO6.out hgrow (fun b e e2 => HAP.out b e2 e))
          have HBX := Lib.hid (bkept HBX.out hgrow (fun e => row_type HOW.out HBX.out (by decide) _ e rfl))
          have HBR := Lib.hid (bkept HBR.out hgrow (fun e => row_type HOW.out HBR.out (by decide) _ e rfl))
          have HB4 := Lib.hid (bkept HB4.out hgrow (fun e => row_type HOW.out HB4.out (by decide) _ e rfl))
          have HB := Lib.hid (HB.out.trans (below_grown hgrow (fun b hb => (owns_block HOW.out b hb).1) HB.out.size))
          have HAP := Lib.hid (ap_left (n := k + 1) (c := c95) HAP.out hlies (fun b e => by have h := H6B.out b e; have h2 : (wr.drewN 1).heap.size = wr.heap.size := rfl; omega))
          have HOW := Lib.hid hown'
          clear hown' hgrow hlies hlt9 HNW H6B
          clear hHeld
          refine hK.out _ _ (⟨HBX.out.cell 0, HBX.out.cell 1, HBX.out.cell 2, (HB.out.cell (p := ⟨bp, op + j, none⟩) hbp).trans HCP.out, (HB.out.cell (p := ⟨bd, od + j, none⟩) hbd).trans HCD.out⟩) (fun hHeld => ?_)
          clear hK K
          refine wpAnyH_take (i := 12) (oi := _) (v := ?_) rfl (by kernel_rfl) (by kernel_rfl) (by kernel_rfl) (fun _ _ _ h => h) (Or.inl ⟨by rfl, ?_⟩) (by assumption) ?_
          rotate_left
          · (intro w hSw; (try dsimp only at hSw); (first | (go_simp; done) | (go_simp; with_reducible rfl)))
          simp only [Act.put, List.getElem_toArray, List.getElem_cons_succ, List.getElem_cons_zero, List.setIfInBounds_toArray, List.set_cons_zero, List.set_cons_succ]
          refine wpAnyH_ready (rs := [13]) (by kernel_rfl) (by simp) ?_
          refine AllReadyH.cons rfl (fun K hK => ?_) AllReadyH.nil
          have q0 := HB4.out.cell 1
          have q1 := HB4.out.free 1
          go_simp
          have HOW := Lib.hid (roth (j := 1) HOW.out (.slice (some ⟨g95, 0, none⟩) (k + 1) c95) (row_type HOW.out HB4.out (by decide)))
          have HO6 := Lib.hid (roth (j := 1) HO6.out (.slice (some ⟨g95, 0, none⟩) (k + 1) c95) (row_type HO6.out HB4.out (by decide)))
          have HBX := Lib.hid (both (j := 1) (.slice (some ⟨g95, 0, none⟩) (k + 1) c95) HBX.out (show w.heap.size ≠ g4 by have := HGL.out; omega))
          have HBR := Lib.hid (both (j := 1) (.slice (some ⟨g95, 0, none⟩) (k + 1) c95) HBR.out (show w.heap.size + 1 ≠ g4 by have := HGL.out; omega))
          have HB4 := Lib.hid (bset (j := 1) (.slice (some ⟨g95, 0, none⟩) (k + 1) c95) HB4.out)
          have HB := Lib.hid (below_set (b := g4) (j := 1) (.slice (some ⟨g95, 0, none⟩) (k + 1) c95) HB.out (by have := HGL.out; omega))
          clear q0 q1
          clear hHeld
          refine hK.out _ _ (⟨HBX.out.cell 0, HBX.out.cell 1, HBX.out.cell 2, (HB.out.cell (p := ⟨bp, op + j, none⟩) hbp).trans HCP.out, (HB.out.cell (p := ⟨bd, od + j, none⟩) hbd).trans HCD.out⟩) (fun hHeld => ?_)
          clear hK K
          refine wpAnyH_done (by kernel_rfl) ?_ _
          refine NoPanic.normal ?_
          clear hHeld
          go_wp2_with fail
          generalize hws : w95.setCell ⟨g4, 1, none⟩ (.slice (some ⟨g95, 0, none⟩) (k + 1) c95) = ws at *
          clear hws
          refine wp_region_noPanic ?_
          have HBX := Lib.hid (HBX.out.below (below_drewN _ 1))
          have HBR := Lib.hid (HBR.out.below (below_drewN _ 1))
          have HB4 := Lib.hid (HB4.out.below (below_drewN _ 1))
          have HOW := Lib.hid (owns_below HOW.out (below_drewN _ 1))
          have HO6 := Lib.hid (owns_below HO6.out (below_drewN _ 1))
          have HB := Lib.hid (HB.out.trans ((below_drewN _ 1).mono HB.out.size))
          refine wp_region_held_drew (S := fun w' => w'.cell? ⟨w.heap.size, 0, none⟩ = some (.int .i64 L) ∧ w'.cell? ⟨w.heap.size, 1, none⟩ = some (.slice (some ⟨bp, op, none⟩) ps.length c) ∧ w'.cell? ⟨w.heap.size, 2, none⟩ = some (.slice (some ⟨bd, od, none⟩) ds.length e) ∧ w'.cell? ⟨bp, op + j, none⟩ = some (.int .i64 p) ∧ w'.cell? ⟨bd, od + j, none⟩ = some (.int .i64 d)) (by kernel_rfl) (⟨HBX.out.cell 0, HBX.out.cell 1, HBX.out.cell 2, (HB.out.cell (p := ⟨bp, op + j, none⟩) hbp).trans HCP.out, (HB.out.cell (p := ⟨bd, od + j, none⟩) hbd).trans HCD.out⟩) (fun hHeld => ?_)
          refine wpAnyH_take (i := 0) (oi := _) (v := ?_) rfl (by kernel_rfl) (by kernel_rfl) (by kernel_rfl) (fun _ _ _ h => h) (Or.inl ⟨by rfl, ?_⟩) (by assumption) ?_
          rotate_left
          · (intro w hSw; (try dsimp only at hSw); (first | (go_simp; done) | (go_simp; with_reducible rfl)))
          simp only [Act.put, List.getElem_toArray, List.getElem_cons_succ, List.getElem_cons_zero, List.setIfInBounds_toArray, List.set_cons_zero, List.set_cons_succ]
          refine wpAnyH_take (i := 2) (oi := _) (v := ?_) rfl (by kernel_rfl) (by kernel_rfl) (by kernel_rfl) (fun _ _ _ h => h) (Or.inl ⟨by rfl, ?_⟩) (by assumption) ?_
          rotate_left
          · (intro w hSw; (try dsimp only at hSw); (first | (go_simp; done) | (go_simp; with_reducible rfl)))
          simp only [Act.put, List.getElem_toArray, List.getElem_cons_succ, List.getElem_cons_zero, List.setIfInBounds_toArray, List.set_cons_zero, List.set_cons_succ]
          refine wpAnyH_take (i := 3) (oi := _) (v := ?_) rfl (by kernel_rfl) (by kernel_rfl) (by kernel_rfl) (fun _ _ _ h => h) (Or.inl ⟨by rfl, ?_⟩) (by assumption) ?_
          rotate_left
          · (intro w hSw; (try dsimp only at hSw); (first | (go_simp; done) | (go_simp; with_reducible rfl)))
          simp only [Act.put, List.getElem_toArray, List.getElem_cons_succ, List.getElem_cons_zero, List.setIfInBounds_toArray, List.set_cons_zero, List.set_cons_succ]
          refine wpAnyH_take (i := 4) (oi := _) (v := ?_) rfl (by kernel_rfl) (by kernel_rfl) (by kernel_rfl) (fun _ _ _ h => h) (Or.inl ⟨by rfl, ?_⟩) (by assumption) ?_
          rotate_left
          · (intro w hSw; (try dsimp only at hSw); (first | (go_simp; done) | (go_simp; with_reducible rfl)))
          simp only [Act.put, List.getElem_toArray, List.getElem_cons_succ, List.getElem_cons_zero, List.setIfInBounds_toArray, List.set_cons_zero, List.set_cons_succ]
          refine wpAnyH_take (i := 5) (oi := _) (v := .pointer (some ⟨bd, od + j, none⟩)) rfl (by kernel_rfl) (by kernel_rfl) (by kernel_rfl) (fun _ _ _ h => h) (Or.inl ⟨by rfl, ?_⟩) (by assumption) ?_
          · (intro w hSw; (try dsimp only at hSw); go_simp; first | done | (simp [hj0, hj2]; done) | omega | (simp <;> omega) | trace_state)
          simp only [Act.put, List.getElem_toArray, List.getElem_cons_succ, List.getElem_cons_zero, List.setIfInBounds_toArray, List.set_cons_zero, List.set_cons_succ]
          refine wpAnyH_take (i := 6) (oi := _) (v := ?_) rfl (by kernel_rfl) (by kernel_rfl) (by kernel_rfl) (fun _ _ _ h => h) (Or.inl ⟨by rfl, ?_⟩) (by assumption) ?_
          rotate_left
          · (intro w hSw; (try dsimp only at hSw); (first | (go_simp; done) | (go_simp; with_reducible rfl)))
          simp only [Act.put, List.getElem_toArray, List.getElem_cons_succ, List.getElem_cons_zero, List.setIfInBounds_toArray, List.set_cons_zero, List.set_cons_succ]
          refine wpAnyH_take (i := 7) (oi := _) (v := .int .i64 (-d)) rfl (by kernel_rfl) (by kernel_rfl) (by kernel_rfl) (fun _ _ _ h => h) (Or.inl ⟨by rfl, ?_⟩) (by assumption) ?_
          · (intro w hSw; (try dsimp only at hSw); go_simp; first | done | (simp [hnd]; done) | omega | (simp <;> omega) | trace_state)
          simp only [Act.put, List.getElem_toArray, List.getElem_cons_succ, List.getElem_cons_zero, List.setIfInBounds_toArray, List.set_cons_zero, List.set_cons_succ]
          refine wpAnyH_ready (rs := [1, 8]) (by kernel_rfl) (by simp) ?_
          refine AllReadyH.cons rfl (fun K hK => ?_) (AllReadyH.cons rfl (fun K hK => ?_) AllReadyH.nil)
          · skip
            have q9 : World.cell? _ ⟨g4, 2, none⟩ = some (.slice a6 k c6) := HB4.out.cell 2
            go_simp
            first | (have q8 : (ws.alloc (.cells #[.int .i64 (-d)] 3)).cell? ⟨g4, 2, none⟩ = some (.slice a6 k c6) := q9; rw [q8]) | (have q8 : ws.cell? ⟨g4, 2, none⟩ = some (.slice a6 k c6) := q9; rw [q8])
            go_simp
            clear q9
            clear hHeld
            refine hK.out _ _ (⟨HBX.out.cell 0, HBX.out.cell 1, HBX.out.cell 2, (HB.out.cell (p := ⟨bp, op + j, none⟩) hbp).trans HCP.out, (HB.out.cell (p := ⟨bd, od + j, none⟩) hbd).trans HCD.out⟩) (fun hHeld => ?_)
            clear hK K
            refine wpAnyH_ready (rs := [8]) (by kernel_rfl) (by simp) ?_
            refine AllReadyH.cons rfl (fun K hK => ?_) AllReadyH.nil
            go_simp
            have HNW := Lib.hid (one_nw (x := .int .i64 (-d)) (t := 3) (ws.drewN 1) ws.heap.size rfl)
            have H5B := Lib.hid (fun b hb => (owns_block HOW.out b hb).2)
            have HBX := Lib.hid (HBX.out.below (below_new _ (.cells #[.int .i64 (-d)] 3)))
            have HBR := Lib.hid (HBR.out.below (below_new _ (.cells #[.int .i64 (-d)] 3)))
            have HB4 := Lib.hid (HB4.out.below (below_new _ (.cells #[.int .i64 (-d)] 3)))
            have HOW := Lib.hid (owns_below HOW.out (below_new _ (.cells #[.int .i64 (-d)] 3)))
            have HO6 := Lib.hid (owns_below HO6.out (below_new _ (.cells #[.int .i64 (-d)] 3)))
            have HB := Lib.hid (HB.out.trans ((below_new _ (.cells #[.int .i64 (-d)] 3)).mono HB.out.size))
            refine hK.out _ _ (⟨HBX.out.cell 0, HBX.out.cell 1, HBX.out.cell 2, (HB.out.cell (p := ⟨bp, op + j, none⟩) hbp).trans HCP.out, (HB.out.cell (p := ⟨bd, od + j, none⟩) hbd).trans HCD.out⟩) (fun hHeld => ?_)
            clear hK K
            have HX := Lib.hid hHeld.1
            refine wpAnyH_ready (rs := [9]) (by kernel_rfl) (by simp) ?_
            refine AllReadyH.cons rfl (fun K hK => ?_) AllReadyH.nil
            refine step_append_lies _ (by rfl) _ _ _ (by rfl) (w.heap.size) 3 i0 (.int .i64 0) 1 8 Try.underlying22 hi hz0 hz1 hz2 rfl (by decide) _ _ _ (by rfl) HO6.out ⟨ws.heap.size, 0, none⟩ 1 1 [.int .i64 (-d)] (by rfl) (by rfl) HNW.out ?c2 (by decide) ?c3 ?c4 ?c5 (ws.heap.size + 1) (by simp) ?_
            case c2 => first | (intro u hu; simp at hu; subst hu; rfl) | rfl
            case c3 => unfold maxLen; omega
            case c4 => omega
            case c5 => exact HB.out.size
            intro g96 c96 w96 hown' hgrow hlies hlt9
            have HOW := Lib.hid (rkept HOW.out hgrow HAP.out)
            have HBX := Lib.hid (bkept HBX.out hgrow (fun e => row_type HO6.out HBX.out (by decide) _ e rfl))
            have HBR := Lib.hid (bkept HBR.out hgrow (fun e => row_type HO6.out HBR.out (by decide) _ e rfl))
            have HB4 := Lib.hid (bkept HB4.out hgrow (fun e => row_type HO6.out HB4.out (by decide) _ e rfl))
            have HB := Lib.hid (HB.out.trans (below_grown hgrow (fun b hb => (owns_block HO6.out b hb).1) HB.out.size))
            have HAP := Lib.hid (ap_right (n := k + 1) (c := c96) HAP.out hlies (fun b e => by have h := H5B.out b e; have h2 : (ws.drewN 1).heap.size = ws.heap.size := rfl; omega))
            have HO6 := Lib.hid hown'
            clear hown' hgrow hlies hlt9 HNW H5B
            clear hHeld
            refine hK.out _ _ (⟨HBX.out.cell 0, HBX.out.cell 1, HBX.out.cell 2, (HB.out.cell (p := ⟨bp, op + j, none⟩) hbp).trans HCP.out, (HB.out.cell (p := ⟨bd, od + j, none⟩) hbd).trans HCD.out⟩) (fun hHeld => ?_)
            clear hK K
            refine wpAnyH_take (i := 10) (oi := _) (v := ?_) rfl (by kernel_rfl) (by kernel_rfl) (by kernel_rfl) (fun _ _ _ h => h) (Or.inl ⟨by rfl, ?_⟩) (by assumption) ?_
            rotate_left
            · (intro w hSw; (try dsimp only at hSw); (first | (go_simp; done) | (go_simp; with_reducible rfl)))
            simp only [Act.put, List.getElem_toArray, List.getElem_cons_succ, List.getElem_cons_zero, List.setIfInBounds_toArray, List.set_cons_zero, List.set_cons_succ]
            refine wpAnyH_ready (rs := [11]) (by kernel_rfl) (by simp) ?_
            refine AllReadyH.cons rfl (fun K hK => ?_) AllReadyH.nil
            have q0 := HB4.out.cell 2
            have q1 := HB4.out.free 2
            go_simp
            have HOW := Lib.hid (roth (j := 2) HOW.out (.slice (some ⟨g96, 0, none⟩) (k + 1) c96) (row_type HOW.out HB4.out (by decide)))
            have HO6 := Lib.hid (roth (j := 2) HO6.out (.slice (some ⟨g96, 0, none⟩) (k + 1) c96) (row_type HO6.out HB4.out (by decide)))
            have HBX := Lib.hid (both (j := 2) (.slice (some ⟨g96, 0, none⟩) (k + 1) c96) HBX.out (show w.heap.size ≠ g4 by have := HGL.out; omega))
            have HBR := Lib.hid (both (j := 2) (.slice (some ⟨g96, 0, none⟩) (k + 1) c96) HBR.out (show w.heap.size + 1 ≠ g4 by have := HGL.out; omega))
            have HB4 := Lib.hid (bset (j := 2) (.slice (some ⟨g96, 0, none⟩) (k + 1) c96) HB4.out)
            have HB := Lib.hid (below_set (b := g4) (j := 2) (.slice (some ⟨g96, 0, none⟩) (k + 1) c96) HB.out (by have := HGL.out; omega))
            clear q0 q1
            clear hHeld
            refine hK.out _ _ (⟨HBX.out.cell 0, HBX.out.cell 1, HBX.out.cell 2, (HB.out.cell (p := ⟨bp, op + j, none⟩) hbp).trans HCP.out, (HB.out.cell (p := ⟨bd, od + j, none⟩) hbd).trans HCD.out⟩) (fun hHeld => ?_)
            clear hK K
            refine wpAnyH_done (by kernel_rfl) ?_ _
            refine NoPanic.normal ?_
            clear hHeld
            go_wp2_with fail
            go_roundw
            case rel => exact ⟨k + 1, _, _, HLT.out, by have := HJI.out; go_num, by rw [mrP_next, HGP.out, HYS5.out]; exact HOW.out, by rw [mrD_next, HGD.out, HYS6.out]; exact HO6.out, HAP.out, HBX.out, HBR.out, HB4.out, HB.out⟩
            case measure => have := HJI.out; simp [intOf] <;> omega
          · skip
            go_simp
            have HNW := Lib.hid (one_nw (x := .int .i64 (-d)) (t := 3) (ws.drewN 1) ws.heap.size rfl)
            have H5B := Lib.hid (fun b hb => (owns_block HOW.out b hb).2)
            have HBX := Lib.hid (HBX.out.below (below_new _ (.cells #[.int .i64 (-d)] 3)))
            have HBR := Lib.hid (HBR.out.below (below_new _ (.cells #[.int .i64 (-d)] 3)))
            have HB4 := Lib.hid (HB4.out.below (below_new _ (.cells #[.int .i64 (-d)] 3)))
            have HOW := Lib.hid (owns_below HOW.out (below_new _ (.cells #[.int .i64 (-d)] 3)))
            have HO6 := Lib.hid (owns_below HO6.out (below_new _ (.cells #[.int .i64 (-d)] 3)))
            have HB := Lib.hid (HB.out.trans ((below_new _ (.cells #[.int .i64 (-d)] 3)).mono HB.out.size))
            refine hK.out _ _ (⟨HBX.out.cell 0, HBX.out.cell 1, HBX.out.cell 2, (HB.out.cell (p := ⟨bp, op + j, none⟩) hbp).trans HCP.out, (HB.out.cell (p := ⟨bd, od + j, none⟩) hbd).trans HCD.out⟩) (fun hHeld => ?_)
            clear hK K
            have HX := Lib.hid hHeld.1
            refine wpAnyH_ready (rs := [1]) (by kernel_rfl) (by simp) ?_
            refine AllReadyH.cons rfl (fun K hK => ?_) AllReadyH.nil
            have q9 : World.cell? _ ⟨g4, 2, none⟩ = some (.slice a6 k c6) := HB4.out.cell 2
            go_simp
            first | (have q8 : (ws.alloc (.cells #[.int .i64 (-d)] 3)).cell? ⟨g4, 2, none⟩ = some (.slice a6 k c6) := q9; rw [q8]) | (have q8 : ws.cell? ⟨g4, 2, none⟩ = some (.slice a6 k c6) := q9; rw [q8])
            go_simp
            clear q9
            clear hHeld
            refine hK.out _ _ (⟨HBX.out.cell 0, HBX.out.cell 1, HBX.out.cell 2, (HB.out.cell (p := ⟨bp, op + j, none⟩) hbp).trans HCP.out, (HB.out.cell (p := ⟨bd, od + j, none⟩) hbd).trans HCD.out⟩) (fun hHeld => ?_)
            clear hK K
            refine wpAnyH_ready (rs := [9]) (by kernel_rfl) (by simp) ?_
            refine AllReadyH.cons rfl (fun K hK => ?_) AllReadyH.nil
            refine step_append_lies _ (by rfl) _ _ _ (by rfl) (w.heap.size) 3 i0 (.int .i64 0) 1 8 Try.underlying22 hi hz0 hz1 hz2 rfl (by decide) _ _ _ (by rfl) HO6.out ⟨ws.heap.size, 0, none⟩ 1 1 [.int .i64 (-d)] (by rfl) (by rfl) HNW.out ?c2 (by decide) ?c3 ?c4 ?c5 (ws.heap.size + 1) (by simp) ?_
            case c2 => first | (intro u hu; simp at hu; subst hu; rfl) | rfl
            case c3 => unfold maxLen; omega
            case c4 => omega
            case c5 => exact HB.out.size
            intro g96 c96 w96 hown' hgrow hlies hlt9
            have HOW := Lib.hid (rkept HOW.out hgrow HAP.out)
            have HBX := Lib.hid (bkept HBX.out hgrow (fun e => row_type HO6.out HBX.out (by decide) _ e rfl))
            have HBR := Lib.hid (bkept HBR.out hgrow (fun e => row_type HO6.out HBR.out (by decide) _ e rfl))
            have HB4 := Lib.hid (bkept HB4.out hgrow (fun e => row_type HO6.out HB4.out (by decide) _ e rfl))
            have HB := Lib.hid (HB.out.trans (below_grown hgrow (fun b hb => (owns_block HO6.out b hb).1) HB.out.size))
            have HAP := Lib.hid (ap_right (n := k + 1) (c := c96) HAP.out hlies (fun b e => by have h := H5B.out b e; have h2 : (ws.drewN 1).heap.size = ws.heap.size := rfl; omega))
            have HO6 := Lib.hid hown'
            clear hown' hgrow hlies hlt9 HNW H5B
            clear hHeld
            refine hK.out _ _ (⟨HBX.out.cell 0, HBX.out.cell 1, HBX.out.cell 2, (HB.out.cell (p := ⟨bp, op + j, none⟩) hbp).trans HCP.out, (HB.out.cell (p := ⟨bd, od + j, none⟩) hbd).trans HCD.out⟩) (fun hHeld => ?_)
            clear hK K
            refine wpAnyH_take (i := 10) (oi := _) (v := ?_) rfl (by kernel_rfl) (by kernel_rfl) (by kernel_rfl) (fun _ _ _ h => h) (Or.inl ⟨by rfl, ?_⟩) (by assumption) ?_
            rotate_left
            · (intro w hSw; (try dsimp only at hSw); (first | (go_simp; done) | (go_simp; with_reducible rfl)))
            simp only [Act.put, List.getElem_toArray, List.getElem_cons_succ, List.getElem_cons_zero, List.setIfInBounds_toArray, List.set_cons_zero, List.set_cons_succ]
            refine wpAnyH_ready (rs := [11]) (by kernel_rfl) (by simp) ?_
            refine AllReadyH.cons rfl (fun K hK => ?_) AllReadyH.nil
            have q0 := HB4.out.cell 2
            have q1 := HB4.out.free 2
            go_simp
            have HOW := Lib.hid (roth (j := 2) HOW.out (.slice (some ⟨g96, 0, none⟩) (k + 1) c96) (row_type HOW.out HB4.out (by decide)))
            have HO6 := Lib.hid (roth (j := 2) HO6.out (.slice (some ⟨g96, 0, none⟩) (k + 1) c96) (row_type HO6.out HB4.out (by decide)))
            have HBX := Lib.hid (both (j := 2) (.slice (some ⟨g96, 0, none⟩) (k + 1) c96) HBX.out (show w.heap.size ≠ g4 by have := HGL.out; omega))
            have HBR := Lib.hid (both (j := 2) (.slice (some ⟨g96, 0, none⟩) (k + 1) c96) HBR.out (show w.heap.size + 1 ≠ g4 by have := HGL.out; omega))
            have HB4 := Lib.hid (bset (j := 2) (.slice (some ⟨g96, 0, none⟩) (k + 1) c96) HB4.out)
            have HB := Lib.hid (below_set (b := g4) (j := 2) (.slice (some ⟨g96, 0, none⟩) (k + 1) c96) HB.out (by have := HGL.out; omega))
            clear q0 q1
            clear hHeld
            refine hK.out _ _ (⟨HBX.out.cell 0, HBX.out.cell 1, HBX.out.cell 2, (HB.out.cell (p := ⟨bp, op + j, none⟩) hbp).trans HCP.out, (HB.out.cell (p := ⟨bd, od + j, none⟩) hbd).trans HCD.out⟩) (fun hHeld => ?_)
            clear hK K
            refine wpAnyH_done (by kernel_rfl) ?_ _
            refine NoPanic.normal ?_
            clear hHeld
            go_wp2_with fail
            go_roundw
            case rel => exact ⟨k + 1, _, _, HLT.out, by have := HJI.out; go_num, by rw [mrP_next, HGP.out, HYS5.out]; exact HOW.out, by rw [mrD_next, HGD.out, HYS6.out]; exact HO6.out, HAP.out, HBX.out, HBR.out, HB4.out, HB.out⟩
            case measure => have := HJI.out; simp [intOf] <;> omega

      · have hj0 : ¬ 0 ≤ (ps.length : Int) - 1 - k := by omega
        have hke : k = ps.length := by omega
        have HKE := Lib.hid hke
        obtain ⟨a5, c5, f5, _⟩ := owns_shape HOW.out
        obtain ⟨a6, c6, f6, _⟩ := owns_shape HO6.out
        subst f5 f6
        have d0 := HBR.out.cell 0
        have d1 := HBR.out.cell 1
        have d2 := HBR.out.cell 2
        have f0 := HBR.out.free 0
        have f1 := HBR.out.free 1
        have f2 := HBR.out.free 2
        have g0 := HB4.out.cell 0
        have g1 := HB4.out.cell 1
        have g2 := HB4.out.cell 2
        clear hke
        go_wp2_with fail
        have HRS := bset3 (.int .i64 L) (.slice a5 k c5) (.slice a6 k c6) HBR.out
        have s0 := HRS.cell 0
        have s1 := HRS.cell 1
        have s2 := HRS.cell 2
        refine bodyPost_ret (v := .tuple #[wrV L (.slice a5 k c5) (.slice a6 k c6), .bool true]) (by simp [results, Try.results57, go_sem, s0, s1, s2]) rfl (wr_R HR.out ⟨_, _, rfl, ⟨?_, ?_, HAP.out, fun b e => by have := (owns_block HOW.out b e).2; simp; omega, fun b e => by have := (owns_block HO6.out b e).2; simp; omega⟩, lset3 _ _ _ HB.out (by omega)⟩)
        · have h := roth3 HOW.out (.int .i64 L) (.slice a5 k c5) (.slice a6 k c6) (row_type HOW.out HBR.out (by decide))
          rw [mrP_len]
          have e := HKE.out
          subst e
          exact h
        · have h := roth3 HO6.out (.int .i64 L) (.slice a5 k c5) (.slice a6 k c6) (row_type HO6.out HBR.out (by decide))
          rw [mrD_len]
          have e := HKE.out
          subst e
          exact h
end Go.Proofs.Ythbmiigndhoopaa
