/-
  What is proved: a lane behind a number of turns, of the program, with its flows. Conditions: those of each contract.
-/
import Derived.Test.YthbmiigndhoopaaLnu
import Derived.Test.YthbmiigndhoopaaFn19
namespace Go.Proofs.Ythbmiigndhoopaa
open Go.RowKit
set_option linter.unusedVariables false
set_option linter.unusedSimpArgs false

def drivenN (xs : List Int) (t : Int) : Nat := if turnsB xs t = true then xs.length else 0
def drivenS (xs : List Int) (t : Int) : List Nat := if turnsB xs t = true then stpN xs.length (carsOf xs) t.toNat else []
def drivenF (xs : List Int) (t : Int) : List Int := if turnsB xs t = true then floN xs.length (carsOf xs) t.toNat else []
/-- the answer is a traffic, its cars a list of their own, flows likewise, and a truth -/
def OwnsDr (base n : Nat) (S : List Nat) (F : List Int) (b : Bool) (w : World) (e : Ending) (w' : World) : Prop :=
  ∃ g a m c vf, e = .returned (.tuple #[trV n g (.slice a m c), vf, .bool b]) ∧ w'.ownsRow base 3 1 (.slice a m c) S.length ((cas S).map iv) ∧ w'.ownsRow base 3 1 vf F.length (F.map iv) ∧ Below base w w'
def DrRel (xs : List Int) (T base g8 : Nat) (w : World) (vf vi : Value) (wr : World) : Prop :=
  ∃ (k : Nat) (a : Option Addr) (m c : Nat) (S : List Nat), k ≤ T ∧ vi = .int .i64 k ∧ S = stpN xs.length (carsOf xs) k ∧ Blk wr base (trC 0 false (.slice none 0 0)) 58 ∧ Blk wr g8 (trC xs.length true (.slice a m c)) 58 ∧ wr.ownsRow base 3 1 (.slice a m c) S.length ((cas S).map iv) ∧ wr.ownsRow base 3 1 vf k ((floN xs.length (carsOf xs) k).map iv) ∧ Below base w wr
theorem dr_next {xs : List Int} {T base g8 k : Nat} {w wr : World} {vf vi : Value} {a : Option Addr} {m c : Nat} {S S' : List Nat} (hS : S = stpN xs.length (carsOf xs) k) (hk : k < T) (hi : vi = .int .i64 ((k + 1 : Nat) : Int)) (hS' : S' = stp xs.length S) (h4 : Blk wr base (trC 0 false (.slice none 0 0)) 58) (h8 : Blk wr g8 (trC xs.length true (.slice a m c)) 58)
    (h2 : wr.ownsRow base 3 1 (.slice a m c) S'.length ((cas S').map iv)) (hf : wr.ownsRow base 3 1 vf (k + 1) ((floN xs.length (carsOf xs) k).map iv ++ [.int .i64 ((flo xs.length S : Nat) : Int)])) (hb : Below base w wr) : DrRel xs T base g8 w vf vi wr := by
  subst hS hS'
  refine ⟨k + 1, a, m, c, _, hk, hi, rfl, h4, h8, h2, ?_, hb⟩
  rw [floN_next, List.map_append]
  exact hf
set_option maxHeartbeats 3200000 in
set_option maxRecDepth 20000 in
theorem driven_any (v : Value) (xs : List Int) (t : Int) (w : World) (hv : ReadsI w v xs) (ht : -9223372036854775808 ≤ t ∧ t ≤ 9223372036854775807) :
    Calls Try.prog 68 #[v, .int .i64 t] w (OwnsDr w.heap.size (drivenN xs t) (drivenS xs t) (drivenF xs t) (turnsB xs t) w) := by
  obtain ⟨i0, hi, hz0, hz1, hz2⟩ := info_parts infoInt
  have HW := Lib.hid (fun w hv => isLane_any v xs w hv)
  have HO := Lib.hid (fun w hv h => trafficOf_any v xs w hv h)
  have HT := Lib.hid (fun n v S w hv h1 h2 => turned_any n v S w hv h1 h2)
  have HV := Lib.hid hv
  have hm : xs.length ≤ maxLen := by
    obtain ⟨_, _, _, _, hm, _⟩ := hv
    exact hm
  unfold maxLen at hm
  have HC4 := Lib.hid ((blk_new w (trC 0 false (.slice none 0 0)) 58).below (below_new _ (.cells #[] 3)))
  have HM := Lib.hid (made_at (w.alloc (.cells (trC 0 false (.slice none 0 0)) 58)) w.heap.size (w.heap.size + 1) (by simp) (by omega))
  have HB := Lib.hid ((below_new w (.cells (trC 0 false (.slice none 0 0)) 58)).trans ((below_new _ (.cells #[] 3)).mono (by simp)))
  clear hv
  unfold trV trC at *
  go_enter Try.func68, Try.ntmps68
  go_wp2_with fail
  refine (HW.out _ (HV.out.below HB.out)).mono ?_
  rintro e w1 ⟨rfl, rfl⟩
  generalize hww : ((w.alloc (.cells #[.int .i64 0, .bool false, .slice none 0 0] 58)).alloc (.cells #[] 3)) = w1 at *
  have HWW := Lib.hid hww
  clear hww
  have c40 := HC4.out.cell 0
  have c41 := HC4.out.cell 1
  have c42 := HC4.out.cell 2
  have f40 := HC4.out.free 0
  have f41 := HC4.out.free 1
  have f42 := HC4.out.free 2
  have no : turnsB xs t = false → OwnsDr w.heap.size (drivenN xs t) (drivenS xs t) (drivenF xs t) (turnsB xs t) w (.returned (.tuple #[trV 0 false (.slice none 0 0), .slice (some ⟨w.heap.size + 1, 0, none⟩) 0 0, .bool false])) (((w1.setCell ⟨w.heap.size, 0, none⟩ (.int .i64 0)).setCell ⟨w.heap.size, 1, none⟩ (.bool false)).setCell ⟨w.heap.size, 2, none⟩ (.slice none 0 0)) := by
    intro h
    have e1 : drivenN xs t = 0 := if_neg (by rw [h]; simp)
    have e2 : drivenS xs t = [] := if_neg (by rw [h]; simp)
    have e3 : drivenF xs t = [] := if_neg (by rw [h]; simp)
    rw [e1, e2, e3, h]
    exact ⟨false, none, 0, 0, _, rfl, own_nil _ _, roth3 HM.out _ _ _ (row_type HM.out HC4.out (by decide)), lset3 _ _ _ HB.out (Nat.le_refl _)⟩
  have s0 := (bset3 (.int .i64 0) (.bool false) (.slice none 0 0) HC4.out).cell 0
  have s1 := (bset3 (.int .i64 0) (.bool false) (.slice none 0 0) HC4.out).cell 1
  have s2 := (bset3 (.int .i64 0) (.bool false) (.slice none 0 0) HC4.out).cell 2
  have NO := Lib.hid no
  have S0 := Lib.hid s0
  have S1 := Lib.hid s1
  have S2 := Lib.hid s2
  clear no s0 s1 s2
  cases hl : laneB xs
  · have HF := Lib.hid (show turnsB xs t = false by unfold turnsB; rw [hl]; rfl)
    clear hl
    go_wp2_with fail
    have s0 := S0.out
    have s1 := S1.out
    have s2 := S2.out
    exact bodyPost_ret (v := .tuple #[trV 0 false (.slice none 0 0), .slice (some ⟨w.heap.size + 1, 0, none⟩) 0 0, .bool false]) (by simp [results, Try.results68, go_sem, s0, s1, s2]) rfl (NO.out HF.out)
  · by_cases h0 : t < 0
    · have HF := Lib.hid (show turnsB xs t = false by rw [Bool.eq_false_iff]; intro h; have := ((turnsB_iff xs t).1 h).2.1; omega)
      clear hl
      go_wp2_with fail
      have s0 := S0.out
      have s1 := S1.out
      have s2 := S2.out
      exact bodyPost_ret (v := .tuple #[trV 0 false (.slice none 0 0), .slice (some ⟨w.heap.size + 1, 0, none⟩) 0 0, .bool false]) (by simp [results, Try.results68, go_sem, s0, s1, s2]) rfl (NO.out HF.out)
    by_cases h6 : 60 < t
    · have HF := Lib.hid (show turnsB xs t = false by rw [Bool.eq_false_iff]; intro h; have := ((turnsB_iff xs t).1 h).2.2; omega)
      clear hl
      go_wp2_with fail
      have s0 := S0.out
      have s1 := S1.out
      have s2 := S2.out
      exact bodyPost_ret (v := .tuple #[trV 0 false (.slice none 0 0), .slice (some ⟨w.heap.size + 1, 0, none⟩) 0 0, .bool false]) (by simp [results, Try.results68, go_sem, s0, s1, s2]) rfl (NO.out HF.out)
    have HF := Lib.hid ((turnsB_iff xs t).2 ⟨hl, by omega, by omega⟩)
    obtain ⟨T, rfl⟩ : ∃ T : Nat, t = (T : Int) := ⟨t.toNat, by omega⟩
    obtain ⟨h3, h24, _⟩ := (laneB_iff xs).1 hl
    have HC := Lib.hid (stpN_cars (n := xs.length) (by omega) (cars_of xs))
    have HLN := Lib.hid (cars_of xs).len
    clear hl c40 c41 c42 f40 f41 f42 S0 S1 S2 NO
    go_wp2_with fail
    refine (HO.out _ (HV.out.below HB.out) (by omega)).mono ?_
    rintro e w2 ⟨v2, rfl, ho, hb⟩
    obtain ⟨a2, l2, rfl, _⟩ := owns_shape ho
    have HC4 := Lib.hid ((HC4.out.below hb).below (below_new _ (.cells (trC xs.length true (.slice a2 (carsOf xs).length l2)) 58)))
    have HC8 := Lib.hid (blk_new w2 (trC xs.length true (.slice a2 (carsOf xs).length l2)) 58)
    have HR := Lib.hid (owns_below (owns_lower ho HB.out.size) (below_new _ (.cells (trC xs.length true (.slice a2 (carsOf xs).length l2)) 58)))
    have HRF := Lib.hid (owns_below (owns_below HM.out hb) (below_new _ (.cells (trC xs.length true (.slice a2 (carsOf xs).length l2)) 58)))
    have HG8 := Lib.hid (show w.heap.size < w2.heap.size from Nat.lt_of_lt_of_le (by rw [← HWW.out]; simp; omega) hb.size)
    have HB := Lib.hid ((HB.out.trans (hb.mono HB.out.size)).trans ((below_new _ (.cells (trC xs.length true (.slice a2 (carsOf xs).length l2)) 58)).mono (by have := HG8.out; omega)))
    unfold trV trC at *
    go_wp2_with fail
    generalize hg8 : w2.heap.size = g8 at *
    have HSTART := Lib.hid (show DrRel xs T w.heap.size g8 w (.slice (some ⟨w.heap.size + 1, 0, none⟩) 0 0) (.int .i64 0) _ from ⟨0, a2, _, l2, carsOf xs, Nat.zero_le _, rfl, rfl, HC4.out, HC8.out, HR.out, HRF.out, HB.out⟩)
    clear ho hb HC4 HC8 HR HRF HB HM
    have HG2 := Lib.hid hg8
    clear hg8
    go_loopw [7, 28] (fun vf vi wr => DrRel xs T w.heap.size g8 w vf vi wr) (fun _ i _ => T - (intOf i).toNat)
    case atStart => exact HSTART.out
    case round =>
      clear HSTART
      obtain ⟨k, a1, m1, l1, S, hk, rfl, hS, h4, h8, hr, hf, hb⟩ := hrel
      have HS := Lib.hid hS
      have HC4 := Lib.hid h4
      have HC8 := Lib.hid h8
      have HR := Lib.hid hr
      have HRF := Lib.hid hf
      have HB := Lib.hid hb
      have HCS := Lib.hid (show Cars xs.length S by rw [hS]; exact HC.out k)
      have c80 := h8.cell 0
      have c81 := h8.cell 1
      have c82 := h8.cell 2
      have f80 := h8.free 0
      have f81 := h8.free 1
      have f82 := h8.free 2
      have H8LT := Lib.hid h8.lt
      clear h4 h8 hr hf hb hS
      by_cases hlt : k < T
      · have hi1 : (k : Int) < T := by omega
        have hSl := HCS.out.len
        clear f80 f81 f82
        go_wp2_with fail
        refine (HT.out xs.length _ S _ (owns_reads (by rw [cas_len]; exact HR.out) (by rw [cas_len]; unfold maxLen; omega)) HCS.out ⟨h3, h24⟩).mono ?_
        rintro e w4 ⟨v2, rfl, ho, hb4⟩
        obtain ⟨a2, l2, rfl, _⟩ := owns_shape ho
        have HLS := Lib.hid (stp_len xs.length S)
        generalize hS2 : stp xs.length S = S2 at *
        have HTS := Lib.hid hS2.symm
        clear hS2
        have HC4 := Lib.hid ((HC4.out.below hb4).below (below_new _ (.cells (trC xs.length true (.slice a2 S2.length l2)) 58)))
        have HC8 := Lib.hid ((HC8.out.below hb4).below (below_new _ (.cells (trC xs.length true (.slice a2 S2.length l2)) 58)))
        have HC9 := Lib.hid (blk_new w4 (trC xs.length true (.slice a2 S2.length l2)) 58)
        have H2LO := Lib.hid (fun b hb => owns_block ho b hb)
        have HFHI := Lib.hid (fun b hb => owns_block HRF.out b hb)
        have HR2 := Lib.hid (owns_below (owns_lower ho HB.out.size) (below_new _ (.cells (trC xs.length true (.slice a2 S2.length l2)) 58)))
        have HRF := Lib.hid (owns_below (owns_below HRF.out hb4) (below_new _ (.cells (trC xs.length true (.slice a2 S2.length l2)) 58)))
        have HNE := Lib.hid (show w4.heap.size ≠ g8 by have := HC8.out.lt; have h := hb4.size; have z : g8 < w4.heap.size := Nat.lt_of_lt_of_le H8LT.out h; omega)
        have HB := Lib.hid ((HB.out.trans (hb4.mono HB.out.size)).trans ((below_new _ (.cells (trC xs.length true (.slice a2 S2.length l2)) 58)).mono (Nat.le_trans HB.out.size hb4.size)))
        generalize hm2 : S2.length = m2 at *
        have HM2 := Lib.hid hm2
        clear hm2
        unfold trV trC at *
        clear ho hb4 c80 c81 c82
        go_wp2_with fail
        generalize hg9 : w4.heap.size = g9 at *
        generalize hw5 : w4.alloc (.cells #[.int .i64 xs.length, .bool true, .slice a2 m2 l2] 58) = w5 at *
        have HW5 := Lib.hid hw5
        clear hw5 hg9
        refine wp_region_noPanic ?_
        have HC9 := Lib.hid (HC9.out.below (below_drewN _ 1))
        have HC8 := Lib.hid (HC8.out.below (below_drewN _ 1))
        have HC4 := Lib.hid (HC4.out.below (below_drewN _ 1))
        have HR2 := Lib.hid (owns_below HR2.out (below_drewN _ 1))
        have HRF := Lib.hid (owns_below HRF.out (below_drewN _ 1))
        have HB := Lib.hid (HB.out.trans ((below_drewN _ 1).mono HB.out.size))
        have HSZ := Lib.hid (show w5.heap.size = (w5.drewN 1).heap.size from rfl)
        refine wp_region_held_drew (S := fun w' => w'.cell? ⟨g9, 0, none⟩ = some (.int .i64 xs.length) ∧ w'.cell? ⟨g9, 1, none⟩ = some (.bool true) ∧ w'.cell? ⟨g9, 2, none⟩ = some (.slice a2 m2 l2)) (by kernel_rfl) (⟨HC9.out.cell 0, HC9.out.cell 1, HC9.out.cell 2⟩) (fun hHeld => ?_)
        refine wpAnyH_take (i := 0) (oi := _) (v := ?_) rfl (by kernel_rfl) (by kernel_rfl) (by kernel_rfl) (fun _ _ _ h => h) (Or.inl ⟨by rfl, ?_⟩) (by assumption) ?_
        rotate_left
        · (intro w hSw; (try dsimp only at hSw); (first | (go_simp; done) | (go_simp; with_reducible rfl)))
        simp only [Act.put, List.getElem_toArray, List.getElem_cons_succ, List.getElem_cons_zero, List.setIfInBounds_toArray, List.set_cons_zero, List.set_cons_succ]
        refine wpAnyH_take (i := 1) (oi := _) (v := ?_) rfl (by kernel_rfl) (by kernel_rfl) (by kernel_rfl) (fun _ _ _ h => h) (Or.inl ⟨by rfl, ?_⟩) (by assumption) ?_
        rotate_left
        · (intro w hSw; (try dsimp only at hSw); (first | (go_simp; done) | (go_simp; with_reducible rfl)))
        simp only [Act.put, List.getElem_toArray, List.getElem_cons_succ, List.getElem_cons_zero, List.setIfInBounds_toArray, List.set_cons_zero, List.set_cons_succ]
        refine wpAnyH_take (i := 2) (oi := _) (v := ?_) rfl (by kernel_rfl) (by kernel_rfl) (by kernel_rfl) (fun _ _ _ h => h) (Or.inl ⟨by rfl, ?_⟩) (by assumption) ?_
        rotate_left
        · (intro w hSw; (try dsimp only at hSw); (first | (go_simp; done) | (go_simp; with_reducible rfl)))
        simp only [Act.put, List.getElem_toArray, List.getElem_cons_succ, List.getElem_cons_zero, List.setIfInBounds_toArray, List.set_cons_zero, List.set_cons_succ]
        refine wpAnyH_ready (rs := [3]) (by kernel_rfl) (by simp) ?_
        refine AllReadyH.cons rfl (fun K hK => ?_) AllReadyH.nil
        go_simp
        have HNW := Lib.hid (one_nw (x := .int .i64 ((flo xs.length S : Nat) : Int)) (t := 3) (w5.drewN 1) w5.heap.size rfl)
        have HC9 := Lib.hid (HC9.out.below (below_new _ (.cells #[.int .i64 ((flo xs.length S : Nat) : Int)] 3)))
        have HC8 := Lib.hid (HC8.out.below (below_new _ (.cells #[.int .i64 ((flo xs.length S : Nat) : Int)] 3)))
        have HC4 := Lib.hid (HC4.out.below (below_new _ (.cells #[.int .i64 ((flo xs.length S : Nat) : Int)] 3)))
        have HR2 := Lib.hid (owns_below HR2.out (below_new _ (.cells #[.int .i64 ((flo xs.length S : Nat) : Int)] 3)))
        have HRF := Lib.hid (owns_below HRF.out (below_new _ (.cells #[.int .i64 ((flo xs.length S : Nat) : Int)] 3)))
        have HB := Lib.hid (HB.out.trans ((below_new _ (.cells #[.int .i64 ((flo xs.length S : Nat) : Int)] 3)).mono HB.out.size))
        refine hK.out _ _ (⟨HC9.out.cell 0, HC9.out.cell 1, HC9.out.cell 2⟩) (fun hHeld => ?_)
        clear hK K
        have HX := Lib.hid hHeld.1
        refine wpAnyH_ready (rs := [4]) (by kernel_rfl) (by simp) ?_
        refine AllReadyH.cons rfl (fun K hK => ?_) AllReadyH.nil
        have hsz9 := HB.out.size
        refine step_append_any (by rfl) _ _ _ (by rfl) (w.heap.size) 3 i0 (.int .i64 0) 1 8 Try.underlying22 hi hz0 hz1 hz2 rfl (by decide) _ _ _ (by rfl) HRF.out ⟨w5.heap.size, 0, none⟩ 1 1 [.int .i64 ((flo xs.length S : Nat) : Int)] (by rfl) (by rfl) HNW.out ?c2 ?c3 ?c4 ?c5 ?_
        case c2 => intro u hu; simp at hu; subst hu; rfl
        case c3 => unfold maxLen; omega
        case c4 => omega
        case c5 => exact HB.out.size
        intro v9 w22 hown9 hgrow9
        have HC9 := Lib.hid (bkept HC9.out hgrow9 (fun e => row_type HRF.out HC9.out (by decide) _ e rfl))
        have HC8 := Lib.hid (bkept HC8.out hgrow9 (fun e => row_type HRF.out HC8.out (by decide) _ e rfl))
        have HC4 := Lib.hid (bkept HC4.out hgrow9 (fun e => row_type HRF.out HC4.out (by decide) _ e rfl))
        have HR2 := Lib.hid (rkept HR2.out hgrow9 (fun b e e2 => by have z1 := H2LO.out b e; have z2 := HFHI.out b e2; omega))
        have HB := Lib.hid (HB.out.trans (below_grown hgrow9 (fun b hb => (owns_block HRF.out b hb).1) (by omega)))
        have HRF := Lib.hid hown9
        clear hown9 hgrow9 HNW hsz9
        clear hHeld
        refine hK.out _ _ (⟨HC9.out.cell 0, HC9.out.cell 1, HC9.out.cell 2⟩) (fun hHeld => ?_)
        clear hK K
        refine wpAnyH_ready (rs := [5]) (by kernel_rfl) (by simp) ?_
        refine AllReadyH.cons rfl (fun K hK => ?_) AllReadyH.nil
        have c80 := HC8.out.cell 0
        have c81 := HC8.out.cell 1
        have c82 := HC8.out.cell 2
        have f80 := HC8.out.free 0
        have f81 := HC8.out.free 1
        have f82 := HC8.out.free 2
        go_simp
        have HN89 := Lib.hid (show g9 ≠ g8 from HNE.out)
        have HRF := Lib.hid (roth3 HRF.out (.int .i64 xs.length) (.bool true) (.slice a2 m2 l2) (row_type HRF.out HC8.out (by decide)))
        have HR2 := Lib.hid (roth3 HR2.out (.int .i64 xs.length) (.bool true) (.slice a2 m2 l2) (row_type HR2.out HC8.out (by decide)))
        have HC9 := Lib.hid (both3 (.int .i64 xs.length) (.bool true) (.slice a2 m2 l2) HC9.out HN89.out)
        have HC4 := Lib.hid (both3 (.int .i64 xs.length) (.bool true) (.slice a2 m2 l2) HC4.out (show w.heap.size ≠ g8 by have := HG8.out; omega))
        have HC8 := Lib.hid (bset3 (.int .i64 xs.length) (.bool true) (.slice a2 m2 l2) HC8.out)
        have HB := Lib.hid (lset3 (.int .i64 xs.length) (.bool true) (.slice a2 m2 l2) HB.out (show w.heap.size ≤ g8 by have := HG8.out; omega))
        clear c80 c81 c82 f80 f81 f82
        clear hHeld
        refine hK.out _ _ (⟨HC9.out.cell 0, HC9.out.cell 1, HC9.out.cell 2⟩) (fun hHeld => ?_)
        clear hK K
        refine wpAnyH_take (i := 6) (oi := _) (v := ?_) rfl (by kernel_rfl) (by kernel_rfl) (by kernel_rfl) (fun _ _ _ h => h) (Or.inl ⟨by rfl, ?_⟩) (by assumption) ?_
        rotate_left
        · (intro w hSw; (try dsimp only at hSw); (first | (go_simp; done) | (go_simp; with_reducible rfl)))
        simp only [Act.put, List.getElem_toArray, List.getElem_cons_succ, List.getElem_cons_zero, List.setIfInBounds_toArray, List.set_cons_zero, List.set_cons_succ]
        refine wpAnyH_done (by kernel_rfl) ?_ _
        refine NoPanic.normal ?_
        clear hHeld
        go_wp2_with fail
        go_roundw
        case rel => exact dr_next HS.out hlt (by go_num) HTS.out HC4.out HC8.out (by rw [HM2.out]; exact HR2.out) HRF.out HB.out
        case measure => simp [intOf] <;> omega
      · have hi1 : ¬ (k : Int) < T := by omega
        have hke : k = T := by omega
        have HKE := Lib.hid hke
        have c40 := HC4.out.cell 0
        have c41 := HC4.out.cell 1
        have c42 := HC4.out.cell 2
        have f40 := HC4.out.free 0
        have f41 := HC4.out.free 1
        have f42 := HC4.out.free 2
        clear f80 f81 f82 hke
        go_wp2_with fail
        have HRC := bset3 (.int .i64 xs.length) (.bool true) (.slice a1 m1 l1) HC4.out
        have s0 := HRC.cell 0
        have s1 := HRC.cell 1
        have s2 := HRC.cell 2
        have eN : drivenN xs (T : Int) = xs.length := if_pos HF.out
        have eS : drivenS xs (T : Int) = stpN xs.length (carsOf xs) T := if_pos HF.out
        have eF : drivenF xs (T : Int) = floN xs.length (carsOf xs) T := if_pos HF.out
        have hS := HS.out
        rw [HKE.out] at hS
        refine bodyPost_ret (v := .tuple #[trV xs.length true (.slice a1 m1 l1), u7, .bool true]) (by simp [results, Try.results68, go_sem, s0, s1, s2]) rfl ?_
        rw [eN, eS, eF, HF.out, ← hS]
        refine ⟨true, a1, m1, l1, u7, rfl, roth3 HR.out _ _ _ (row_type HR.out HC4.out (by decide)), ?_, lset3 _ _ _ HB.out (Nat.le_refl _)⟩
        rw [floN_len, ← HKE.out]
        exact roth3 HRF.out _ _ _ (row_type HRF.out HC4.out (by decide))
end Go.Proofs.Ythbmiigndhoopaa
