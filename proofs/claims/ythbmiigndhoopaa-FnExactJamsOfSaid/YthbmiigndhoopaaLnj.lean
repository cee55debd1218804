/-
  What is proved: JamsOf of the model and of the program. Conditions: those of each contract.
-/
import Derived.Test.YthbmiigndhoopaaLnu
import Derived.Test.YthbmiigndhoopaaLnw
namespace Go.Proofs.Ythbmiigndhoopaa
open Go.RowKit
set_option linter.unusedVariables false
set_option linter.unusedSimpArgs false

/-- whether a car stays -/
def jamP (xs : List Int) (k : Nat) : Bool := decide (xs.getD k 0 = 1) && decide (xs.getD (nx xs.length k) 0 = 1)
def idF (k : Nat) : Int := (k : Int)
/-- what JamsOf answers -/
noncomputable def jamsR (xs : List Int) : List Int × Bool := if laneB xs = true then (selTo (jamP xs) idF xs.length, true) else ([], false)
theorem jamsR_len (xs : List Int) : (jamsR xs).1.length ≤ 1048576 := by
  unfold jamsR
  split
  · rename_i h
    have := ((laneB_iff xs).1 h).2.1
    have := selTo_len (jamP xs) idF xs.length
    show (selTo (jamP xs) idF xs.length).length ≤ _
    omega
  · simp
theorem jamP_at {xs : List Int} {k : Nat} {x z : Int} (hx : xs[k]? = some x) (hz : xs[nx xs.length k]? = some z) : jamP xs k = true ↔ x = 1 ∧ z = 1 := by
  unfold jamP
  simp [List.getD, hx, hz]
/-- the jams among the first k cars -/
def jamL (n : Nat) (S : List Nat) (k : Nat) : List Nat := (S.take k).filter (fun c => decide (nx n c ∈ S))
theorem jamL_yes {n : Nat} {S : List Nat} {k q : Nat} (hk : S[k]? = some q) (h : nx n q ∈ S) : jamL n S (k + 1) = jamL n S k ++ [q] := by
  obtain ⟨hk2, e⟩ := List.getElem?_eq_some_iff.1 hk
  unfold jamL
  rw [List.take_succ_eq_append_getElem hk2, List.filter_append, e]
  simp [h]
theorem jamL_no {n : Nat} {S : List Nat} {k q : Nat} (hk : S[k]? = some q) (h : nx n q ∉ S) : jamL n S (k + 1) = jamL n S k := by
  obtain ⟨hk2, e⟩ := List.getElem?_eq_some_iff.1 hk
  unfold jamL
  rw [List.take_succ_eq_append_getElem hk2, List.filter_append, e]
  simp [h]
theorem jamL_len (n : Nat) (S : List Nat) (k : Nat) : (jamL n S k).length ≤ S.length := Nat.le_trans (List.length_filter_le _ _) (by rw [List.length_take]; omega)
/-- all jams, by cars and by places -/
theorem jams_to {xs : List Int} (h : laneB xs = true) : ∀ k, k ≤ xs.length → cas ((carsTo xs k).filter (fun c => decide (nx xs.length c ∈ carsOf xs))) = selTo (jamP xs) idF k
  | 0, _ => rfl
  | k + 1, hk => by
    obtain ⟨h3, h24, h01⟩ := (laneB_iff xs).1 h
    have ih := jams_to h k (by omega)
    obtain ⟨x, hx⟩ := get_some (xs := xs) (k := k) (by omega)
    have hnl : nx xs.length k < xs.length := nx_lt (by omega)
    obtain ⟨z, hz⟩ := get_some hnl
    have hj := jamP_at hx hz
    have hm : nx xs.length k ∈ carsOf xs ↔ z = 1 := by
      unfold carsOf
      rw [carsTo_mem, show xs.getD (nx xs.length k) 0 = z by simp [List.getD, hz]]
      exact ⟨fun h => h.2, fun h => ⟨hnl, h⟩⟩
    by_cases h1 : x = 1
    · rw [carsTo_yes hx h1, List.filter_append]
      by_cases h2 : z = 1
      · rw [selTo_yes (hj.2 ⟨h1, h2⟩), ← ih]
        simp [hm.2 h2, cas, idF]
      · have hn : jamP xs k = false := by
          cases hq : jamP xs k
          · rfl
          · exact absurd (hj.1 hq).2 h2
        rw [selTo_no hn, ← ih]
        have hnm : nx xs.length k ∉ carsOf xs := fun hh => h2 (hm.1 hh)
        simp [hnm]
    · have hn : jamP xs k = false := by
        cases hq : jamP xs k
        · rfl
        · exact absurd (hj.1 hq).1 h1
      rw [carsTo_no hx h1, selTo_no hn, ih]
theorem jams_all {xs : List Int} (h : laneB xs = true) : cas (jamL xs.length (carsOf xs) (carsOf xs).length) = selTo (jamP xs) idF xs.length := by
  unfold jamL
  rw [List.take_length]
  exact jams_to h xs.length (Nat.le_refl _)
/-- a list of its own in the middle of its building -/
def SelRel (P : Nat → Bool) (F : Nat → Int) (K base : Nat) (w : World) (v vi : Value) (wr : World) : Prop :=
  ∃ k : Nat, k ≤ K ∧ vi = .int .i64 k ∧ wr.ownsRow base 3 1 v (selTo P F k).length ((selTo P F k).map iv) ∧ Below base w wr
theorem sel_yes {P : Nat → Bool} {F : Nat → Int} {K base k m : Nat} {w wr : World} {v vi : Value} {ys : List Value} {x : Int} (hm : (selTo P F k).length = m) (hys : (selTo P F k).map iv = ys) (hk : k < K) (hi : vi = .int .i64 ((k + 1 : Nat) : Int)) (hP : P k = true) (hx : F k = x) (ho : wr.ownsRow base 3 1 v (m + 1) (ys ++ [.int .i64 x])) (hb : Below base w wr) : SelRel P F K base w v vi wr := by
  subst hm hys hx
  refine ⟨k + 1, hk, hi, ?_, hb⟩
  rw [selTo_yes hP, List.length_append, List.map_append]
  exact ho
theorem sel_no {P : Nat → Bool} {F : Nat → Int} {K base k : Nat} {w wr : World} {v vi : Value} (hk : k < K) (hi : vi = .int .i64 ((k + 1 : Nat) : Int)) (hP : P k = false) (ho : wr.ownsRow base 3 1 v (selTo P F k).length ((selTo P F k).map iv)) (hb : Below base w wr) : SelRel P F K base w v vi wr := by
  refine ⟨k + 1, hk, hi, ?_, hb⟩
  rw [selTo_no hP]
  exact ho
set_option maxHeartbeats 1600000 in
set_option maxRecDepth 20000 in
theorem spec_JamsOf (v : Value) (xs : List Int) (w : World) (hv : ReadsI w v xs) :
    Calls Try.prog 39 #[v] w (OwnsB w.heap.size (jamsR xs).1 (jamsR xs).2 w) := by
  obtain ⟨i0, hi, hz0, hz1, hz2⟩ := info_parts infoInt
  have HW := Lib.hid (fun w hv => l8Lane_any v xs w hv)
  have HV := Lib.hid (hv.below (below_new w (.cells #[] 3)))
  obtain ⟨y, c, rfl, hc, hm, hx⟩ := hv
  have HL := Lib.hid hx
  unfold maxLen at hm
  clear hx
  have HM := Lib.hid (made_at w w.heap.size w.heap.size rfl (Nat.le_refl _))
  have HB := Lib.hid (below_new w (.cells #[] 3))
  go_enter Try.func39, Try.ntmps39
  go_wp2_with fail
  refine (HW.out _ HV.out).mono ?_
  rintro e w1 ⟨rfl, rfl⟩
  generalize hww : w.alloc (.cells #[] 3) = w1 at *
  clear hww
  cases hl : laneB xs
  · have HR := Lib.hid (show jamsR xs = ([], false) from if_neg (by rw [hl]; simp))
    clear hl
    go_wp2_with fail
    go_ret2
    exact owns_R HR.out ⟨_, rfl, HM.out, HB.out⟩
  · have HR := Lib.hid (show jamsR xs = (selTo (jamP xs) idF xs.length, true) from if_pos hl)
    obtain ⟨h3, h24, _⟩ := (laneB_iff xs).1 hl
    clear hl
    have HS := Lib.hid (show SelRel (jamP xs) idF xs.length w.heap.size w (.slice (some ⟨w.heap.size, 0, none⟩) 0 0) (.int .i64 0) w1 from ⟨0, Nat.zero_le _, rfl, HM.out, HB.out⟩)
    clear HM HB HV
    go_wp2_with fail
    go_loopw [4, 5] (fun v vi wr => SelRel (jamP xs) idF xs.length w.heap.size w v vi wr) (fun _ i _ => xs.length - (intOf i).toNat)
    case atStart => exact HS.out
    case round =>
      clear HS
      obtain ⟨k, hk, rfl, ho, hb⟩ := hrel
      have HOW := Lib.hid ho
      have HB := Lib.hid hb
      have hlen := selTo_len (jamP xs) idF k
      clear ho hb
      by_cases hlt : k < xs.length
      · obtain ⟨x, hxk⟩ := get_some hlt
        have hnl : nx xs.length k < xs.length := nx_lt (by omega)
        obtain ⟨z, hzk⟩ := get_some hnl
        obtain ⟨b, o, rfl, hbl, hcell⟩ := HL.out k x hxk
        obtain ⟨b2, o2, e2, hbl2, hcell2⟩ := HL.out _ z hzk
        cases e2
        have hcr : wr.cell? ⟨b, o + k, none⟩ = some (.int .i64 x) := (HB.out.cell (p := ⟨b, o + k, none⟩) hbl).trans hcell
        have hcr2 : wr.cell? ⟨b, o + nx xs.length k, none⟩ = some (.int .i64 z) := (HB.out.cell (p := ⟨b, o + nx xs.length k, none⟩) hbl).trans hcell2
        have HJ := Lib.hid (jamP_at hxk hzk)
        have htm := nx_tmod hlt
        have hnz : (xs.length : Int) ≠ 0 := by omega
        have hi0 : 0 ≤ (k : Int) := by omega
        have hi1 : (k : Int) < xs.length := by omega
        have hi2 : ((nx xs.length k : Nat) : Int) < xs.length := by omega
        clear hxk hzk hcell hcell2
        generalize hq : nx xs.length k = q at *
        clear hq
        by_cases hx1 : x = 1
        · by_cases hz1 : z = 1
          · have HP := Lib.hid (HJ.out.2 ⟨hx1, hz1⟩)
            have HSZ := Lib.hid HB.out.size
            subst hx1 hz1
            generalize hys : (selTo (jamP xs) idF k).map iv = ys at *
            generalize hzl : (selTo (jamP xs) idF k).length = m at *
            have HYS := Lib.hid hys
            have HZL := Lib.hid hzl
            have HOW := Lib.hid HOW.out
            clear hys hzl
            go_wp2_with (at_builtin; refine wpList_append_own _ rfl _ _ 22 rfl (w.heap.size) 3 i0 (.int .i64 0) 1 8 Try.underlying22 hi hz0 hz1 hz2 rfl (by decide) _ _ _ rfl (HOW.out.alloc _) ⟨wr.heap.size, 0, none⟩ 1 1 [.int .i64 (k)] rfl rfl (cell_one_new _ _ _) ?c2 ?c3 ?c4 ?c5 ?_)
            case c2 => first | (intro u hu; simp at hu; subst hu; rfl) | rfl
            case c3 => unfold maxLen; omega
            case c4 => omega
            case c5 => have z0 := HSZ.out; simp; omega
            intro v' w9 hown' hgrow _
            have HB := Lib.hid ((HB.out.trans ((below_new wr (.cells #[.int .i64 k] 3)).mono HB.out.size)).trans (below_grown hgrow (fun b hb => (owns_block HOW.out b hb).1) (by have := HSZ.out; simp; omega)))
            have HOW := Lib.hid hown'
            clear hgrow hown'
            go_wp2_with fail
            go_roundw
            case rel => exact sel_yes HZL.out HYS.out hlt (by go_num) HP.out rfl HOW.out HB.out
            case measure => simp [intOf] <;> omega
          · have HP := Lib.hid (show jamP xs k = false by cases hq : jamP xs k; rfl; exact absurd (HJ.out.1 hq).2 hz1)
            have hz2 : (z == 1) = false := by simp [hz1]
            subst hx1
            go_wp2_with fail
            go_roundw
            case rel => exact sel_no hlt (by go_num) HP.out HOW.out HB.out
            case measure => simp [intOf] <;> omega
        · have HP := Lib.hid (show jamP xs k = false by cases hq : jamP xs k; rfl; exact absurd (HJ.out.1 hq).1 hx1)
          have hx2 : (x == 1) = false := by simp [hx1]
          go_wp2_with fail
          go_roundw
          case rel => exact sel_no hlt (by go_num) HP.out HOW.out HB.out
          case measure => simp [intOf] <;> omega
      · have hi1 : ¬ (k : Int) < xs.length := by omega
        have HKE := Lib.hid (show k = xs.length by omega)
        go_wp2_with fail
        go_ret2
        refine owns_R HR.out ⟨_, rfl, ?_, HB.out⟩
        rw [← HKE.out]
        exact HOW.out
theorem ob_eq {g n c b : Nat} (h : (Value.slice (some ⟨g, 0, none⟩) n c).ownBlock = some b) : g = b := by
  cases h
  rfl
/-- no block in common -/
def Ap (v u : Value) : Prop := ∀ b, v.ownBlock = some b → u.ownBlock = some b → False
/-- the program in the middle of its search -/
def JmRel (n : Nat) (S : List Nat) (base g5 g6 : Nat) (v5 v6 : Value) (w : World) (v vi : Value) (wr : World) : Prop :=
  ∃ k : Nat, k ≤ S.length ∧ vi = .int .i64 k ∧ wr.ownsRow base 3 1 v (jamL n S k).length ((cas (jamL n S k)).map iv) ∧ wr.ownsRow base 3 1 v5 S.length ((cas S).map iv) ∧ wr.ownsRow base 3 1 v6 S.length ((cas (stp n S)).map iv) ∧ Blk wr g6 (trC n true v6) 58 ∧ (Ap v5 v ∧ Ap v6 v) ∧ Below base w wr
theorem stp_at {n : Nat} {S : List Nat} {k q : Nat} (h : S[k]? = some q) : (stp n S)[k]? = some (mvC n S q) := by unfold stp; rw [List.getElem?_map, h]; rfl
theorem mv_stay {n : Nat} {S : List Nat} {q : Nat} (hn : 2 ≤ n) (hq : q < n) : mvC n S q = q ↔ nx n q ∈ S := by
  unfold mvC
  by_cases h : nx n q ∈ S
  · rw [if_pos h]; exact ⟨fun _ => h, fun _ => rfl⟩
  · rw [if_neg h]
    exact ⟨fun e => absurd e (nx_ne hn hq), fun e => absurd e h⟩
theorem ap_new {base : Nat} {w : World} {v5 v : Value} {g n n' c H : Nat} {l : List Value} (h5 : w.ownsRow base 3 1 v5 n l) (ha : Ap v5 v) (hl : v.ownBlock = some g ∨ g = H) (hH : w.heap.size ≤ H) : Ap v5 (.slice (some ⟨g, 0, none⟩) n' c) := by
  intro b e e2
  cases e2
  rcases hl with h | h
  · exact ha g e h
  · have := (owns_block h5 g e).2
    omega
set_option maxHeartbeats 1600000 in
set_option maxRecDepth 20000 in
theorem impl_JamsOf (v : Value) (xs : List Int) (w : World) (hv : ReadsI w v xs) :
    Calls Try.prog 40 #[v] w (OwnsB w.heap.size (jamsR xs).1 (jamsR xs).2 w) := by
  obtain ⟨i0, hi, hz0, hz1, hz2⟩ := info_parts infoInt
  have HW := Lib.hid (fun w hv => isLane_any v xs w hv)
  have HO := Lib.hid (fun w hv h => trafficOf_any v xs w hv h)
  have HT := Lib.hid (fun n v S w hv h1 h2 => turned_any n v S w hv h1 h2)
  have HV := Lib.hid (hv.below (below_new w (.cells #[] 3)))
  have HM := Lib.hid (made_at w w.heap.size w.heap.size rfl (Nat.le_refl _))
  have HB := Lib.hid (below_new w (.cells #[] 3))
  clear hv
  go_enter Try.func40, Try.ntmps40
  go_wp2_with fail
  refine (HW.out _ HV.out).mono ?_
  rintro e w1 ⟨rfl, rfl⟩
  have HSZ1 := Lib.hid (show w.heap.size < (w.alloc (.cells #[] 3)).heap.size by simp)
  generalize hww : w.alloc (.cells #[] 3) = w1 at *
  clear hww
  cases hl : laneB xs
  · have HR := Lib.hid (show jamsR xs = ([], false) from if_neg (by rw [hl]; simp))
    clear hl
    go_wp2_with fail
    go_ret2
    exact owns_R HR.out ⟨_, rfl, HM.out, HB.out⟩
  · have HR := Lib.hid (show jamsR xs = (selTo (jamP xs) idF xs.length, true) from if_pos hl)
    have HJA := Lib.hid (jams_all hl)
    obtain ⟨h3, h24, _⟩ := (laneB_iff xs).1 hl
    have HC := Lib.hid (cars_of xs)
    have hln := (cars_of xs).len
    clear hl
    go_wp2_with fail
    refine (HO.out _ HV.out (by omega)).mono ?_
    rintro e w2 ⟨v5, rfl, ho, hb⟩
    generalize carsOf xs = S at *
    generalize hnn : xs.length = n at *
    have HNN := Lib.hid hnn
    clear hnn
    obtain ⟨a5, c5, rfl, _⟩ := owns_shape ho
    have HAP5 := Lib.hid (show Ap (.slice a5 S.length c5) (.slice (some ⟨w.heap.size, 0, none⟩) 0 0) from fun b e e2 => by have h0 := ob_eq e2; have := (owns_block ho _ e).1; have := HSZ1.out; have h4 := HB.out.size; have h5 := hb.size; omega)
    have HK5 := Lib.hid (blk_new w2 (trC n true (.slice a5 S.length c5)) 58)
    have HOW := Lib.hid (owns_below (owns_below HM.out hb) (below_new w2 (.cells (trC n true (.slice a5 S.length c5)) 58)))
    have HO5 := Lib.hid (owns_below (owns_lower ho HB.out.size) (below_new w2 (.cells (trC n true (.slice a5 S.length c5)) 58)))
    have HB := Lib.hid ((HB.out.trans (hb.mono HB.out.size)).trans ((below_new w2 (.cells (trC n true (.slice a5 S.length c5)) 58)).mono (Nat.le_trans HB.out.size hb.size)))
    have HSZ2 := Lib.hid (show w.heap.size < w2.heap.size from Nat.lt_of_lt_of_le HSZ1.out hb.size)
    have k50 := HK5.out.cell 0
    have k51 := HK5.out.cell 1
    have k52 := HK5.out.cell 2
    clear ho hb HM
    unfold trV trC at *
    go_wp2_with fail
    generalize hg5 : w2.heap.size = g5 at *
    generalize hw3 : w2.alloc (.cells #[.int .i64 n, .bool true, .slice a5 S.length c5] 58) = w3 at *
    have HW3 := Lib.hid hw3
    clear hw3 hg5
    refine (HT.out n _ S _ (owns_reads (by rw [cas_len]; exact HO5.out) (by rw [cas_len]; unfold maxLen; omega)) HC.out ⟨h3, h24⟩).mono ?_
    rintro e w4 ⟨v6, rfl, ho, hb⟩
    rw [stp_len] at ho
    obtain ⟨a6, c6, rfl, _⟩ := owns_shape ho
    have HAP6 := Lib.hid (show Ap (.slice a6 S.length c6) (.slice (some ⟨w.heap.size, 0, none⟩) 0 0) from fun b e e2 => by have h0 := ob_eq e2; have h1 := (owns_block ho _ e).1; have h2 := HSZ2.out; have h3 := HK5.out.lt; omega)
    have HK6 := Lib.hid (blk_new w4 (trC n true (.slice a6 S.length c6)) 58)
    have HK5 := Lib.hid ((HK5.out.below hb).below (below_new w4 (.cells (trC n true (.slice a6 S.length c6)) 58)))
    have HOW := Lib.hid (owns_below (owns_below HOW.out hb) (below_new w4 (.cells (trC n true (.slice a6 S.length c6)) 58)))
    have HO5 := Lib.hid (owns_below (owns_below HO5.out hb) (below_new w4 (.cells (trC n true (.slice a6 S.length c6)) 58)))
    have HO6 := Lib.hid (owns_below (owns_lower ho HB.out.size) (below_new w4 (.cells (trC n true (.slice a6 S.length c6)) 58)))
    have HB := Lib.hid ((HB.out.trans (hb.mono HB.out.size)).trans ((below_new w4 (.cells (trC n true (.slice a6 S.length c6)) 58)).mono (Nat.le_trans HB.out.size hb.size)))
    clear ho hb k50 k51 k52
    unfold trV trC at *
    have k52 := HK5.out.cell 2
    go_wp2_with fail
    generalize hg6 : w4.heap.size = g6 at *
    generalize hw5 : w4.alloc (.cells #[.int .i64 n, .bool true, .slice a6 S.length c6] 58) = w5 at *
    have HW5 := Lib.hid hw5
    clear hw5 hg6
    have HS := Lib.hid (show JmRel n S w.heap.size g5 g6 (.slice a5 S.length c5) (.slice a6 S.length c6) w (.slice (some ⟨w.heap.size, 0, none⟩) 0 0) (.int .i64 0) w5 from ⟨0, Nat.zero_le _, rfl, HOW.out, HO5.out, HO6.out, HK6.out, ⟨HAP5.out, HAP6.out⟩, HB.out⟩)
    clear HOW HO5 HO6 HK5 HK6 HAP5 HAP6 HB k52
    go_loopw [4, 25] (fun v vi wr => JmRel n S w.heap.size g5 g6 (.slice a5 S.length c5) (.slice a6 S.length c6) w v vi wr) (fun _ i _ => S.length - (intOf i).toNat)
    case atStart => exact HS.out
    case round =>
      clear HS
      obtain ⟨k, hk, rfl, ho, h5, h6, hk6, ⟨hp5, hp6⟩, hb⟩ := hrel
      have HOW := Lib.hid ho
      have HO5 := Lib.hid h5
      have HO6 := Lib.hid h6
      have HK6 := Lib.hid hk6
      have HAP5 := Lib.hid hp5
      have HAP6 := Lib.hid hp6
      have HB := Lib.hid hb
      have hlen := jamL_len n S k
      clear ho h5 h6 hp5 hp6 hb
      by_cases hlt : k < S.length
      · obtain ⟨q, hqk⟩ := get_some hlt
        have hqn := HC.out.2 q (List.mem_of_getElem? hqk)
        obtain ⟨b5, rfl, _, _, hc5, _⟩ := cellI HO5.out (cas_at hqk) hlt
        obtain ⟨b6, rfl, _, _, hc6, _⟩ := cellI HO6.out (cas_at (stp_at (n := n) hqk)) hlt
        have k62 := hk6.cell 2
        have HQK := Lib.hid hqk
        have HMV := Lib.hid (mv_stay (n := n) (S := S) (by omega) hqn)
        have hi0 : 0 ≤ (k : Int) := by omega
        have hi1 : (k : Int) < S.length := by omega
        clear hqk hk6
        generalize mvC n S q = p at *
        by_cases hpq : p = q
        · have HIN := Lib.hid (HMV.out.1 hpq)
          have e1 : ((p : Int) == (q : Int)) = true := by simp [hpq]
          have e2 : (p : Int) = (q : Int) := by omega
          have HSZ := Lib.hid HB.out.size
          subst hpq
          generalize hys : (cas (jamL n S k)).map iv = ys at *
          generalize hzl : (jamL n S k).length = m at *
          have HYS := Lib.hid hys
          have HZL := Lib.hid hzl
          have HOW := Lib.hid HOW.out
          clear hys hzl
          go_wp2_with (at_builtin; refine wpList_append_lies _ rfl _ _ 22 rfl (w.heap.size) 3 i0 (.int .i64 0) 1 8 Try.underlying22 hi hz0 hz1 hz2 rfl (by decide) _ _ _ rfl (HOW.out.alloc _) ⟨wr.heap.size, 0, none⟩ 1 1 [.int .i64 (p)] rfl rfl (cell_one_new _ _ _) ?c2 (by decide) ?c3 ?c4 ?c5 _ rfl ?_)
          case c2 => first | (intro u hu; simp at hu; subst hu; rfl) | rfl
          case c3 => unfold maxLen; omega
          case c4 => omega
          case c5 => have z0 := HSZ.out; simp; omega
          intro g9 c9 w9 hown' hgrow hlies hlt9
          have HBA := Lib.hid (below_new wr (.cells #[.int .i64 p] 3))
          have HAPN5 := Lib.hid (ap_new (n' := m + 1) (c := c9) (owns_below HO5.out HBA.out) HAP5.out hlies (by simp))
          have HAPN6 := Lib.hid (ap_new (n' := m + 1) (c := c9) (owns_below HO6.out HBA.out) HAP6.out hlies (by simp))
          have HO5 := Lib.hid (rkept (owns_below HO5.out HBA.out) hgrow HAP5.out)
          have HO6 := Lib.hid (rkept (owns_below HO6.out HBA.out) hgrow HAP6.out)
          have HK6 := Lib.hid (bkept (HK6.out.below HBA.out) hgrow (fun e => row_type (owns_below HOW.out HBA.out) (HK6.out.below HBA.out) (by decide) _ e rfl))
          have HB := Lib.hid ((HB.out.trans (HBA.out.mono HB.out.size)).trans (below_grown hgrow (fun b hb => (owns_block HOW.out b hb).1) (by have := HSZ.out; simp; omega)))
          have HOW := Lib.hid hown'
          clear hgrow hown' hlies hlt9
          go_wp2_with fail
          go_roundw
          case rel => exact ⟨k + 1, hlt, by go_num, by rw [jamL_yes HQK.out HIN.out, cas_snoc, List.length_append, HYS.out, HZL.out]; exact HOW.out, HO5.out, HO6.out, HK6.out, ⟨HAPN5.out, HAPN6.out⟩, HB.out⟩
          case measure => simp [intOf] <;> omega
        · have HIN := Lib.hid (fun h => hpq (HMV.out.2 h))
          have e1 : ((p : Int) == (q : Int)) = false := by simp; omega
          have e2 : ¬ (p : Int) = (q : Int) := by omega
          go_wp2_with fail
          go_roundw
          case rel => exact ⟨k + 1, hlt, by go_num, by rw [jamL_no HQK.out HIN.out]; exact HOW.out, HO5.out, HO6.out, HK6.out, ⟨HAP5.out, HAP6.out⟩, HB.out⟩
          case measure => simp [intOf] <;> omega
      · have hi1 : ¬ (k : Int) < S.length := by omega
        have HKE := Lib.hid (show k = S.length by omega)
        go_wp2_with fail
        go_ret2
        refine owns_R HR.out ⟨_, rfl, ?_, HB.out⟩
        rw [← HJA.out, ← HKE.out, cas_len]
        exact HOW.out
end Go.Proofs.Ythbmiigndhoopaa
