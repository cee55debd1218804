/-
  What is proved: slices.Clone, slices.Reverse, impl.BackWalk and the model's answer alike. Conditions: those of each contract.
-/
import Derived.Test.YtiokgnabiidlbaaFn4
import Derived.Lib.SliceRun
namespace Go.Proofs.Ytiokgnabiidlbaa
open Go.RowKit

noncomputable def backR (n : Int) (g : Bool) (xs : List Int) : List Int × Bool := if walkD n g xs = true then (xs.reverse, true) else ([], false)
theorem backR_len (n : Int) (g : Bool) (xs : List Int) (h : xs.length ≤ 1048576) : (backR n g xs).1.length ≤ 1048576 := by
  unfold backR
  split
  · simpa using h
  · simp
/-- behind k rounds the list holds the last k numbers, the last one first -/
def BRel (n : Int) (g : Bool) (xs : List Int) (base : Nat) (w : World) (v i : Value) (wr : World) : Prop :=
  Boxed base n g w wr ∧ ∃ k : Nat, k ≤ xs.length ∧ i = .int .i64 ((xs.length : Int) - 1 - k) ∧ wr.ownsRow (base + 1) 3 1 v k ((xs.reverse.take k).map iv)
theorem rev_snoc (xs : List Int) (k : Nat) (x : Int) (hk : k < xs.length) (h : xs[xs.length - 1 - k]? = some x) : (xs.reverse.take k).map iv ++ [Value.int .i64 x] = (xs.reverse.take (k + 1)).map iv := by
  have hk' : k < xs.reverse.length := by simpa using hk
  rw [List.take_succ_eq_append_getElem hk', List.map_append, List.getElem_reverse]
  obtain ⟨h2, rfl⟩ := List.getElem?_eq_some_iff.1 h
  rfl
set_option maxHeartbeats 800000 in
set_option maxRecDepth 20000 in
theorem spec_BackWalk (n : Int) (g : Bool) (v : Value) (xs : List Int) (w : World) (hv : ReadsI w v xs) :
    Calls Try.prog 19 #[rd n g, v] w (OwnsB w.heap.size (backR n g xs).1 (backR n g xs).2 w) := by
  obtain ⟨i0, hi, hz0, hz1, hz2⟩ := info_parts infoInt
  have HX0 := Lib.hid (Boxed.first w n g 25)
  have HV := Lib.hid hv
  have HVB := Lib.hid (hv.below (below_new w (.cells #[.int .i64 n, .bool g] 25)))
  have HO0 := Lib.hid (made_at (w.alloc (.cells #[.int .i64 n, .bool g] 25)) (w.heap.size + 1) (w.heap.size + 1) (by simp) (Nat.le_refl _))
  obtain ⟨y, c, hvv, hc, hm, hx⟩ := hv
  subst hvv
  unfold maxLen at hm
  have HL := Lib.hid hx
  clear hx
  have HW := Lib.hid (fun v w hv => l2Walk_is n g v xs w hv)
  unfold rd at *
  go_enter Try.func19, Try.ntmps19
  go_wp2_with fail
  refine (HW.out _ _ (HVB.out.below (below_new _ _))).mono ?_
  rintro e w1 ⟨rfl, hb⟩
  have HX := Lib.hid ((HX0.out.next (below_new _ _)).next hb)
  have HO := Lib.hid (owns_below HO0.out hb)
  clear hb HX0 HO0
  cases hw : walkD n g xs
  · go_wp2_with fail
    go_ret2
    exact owns_R (zs := []) (b := false) (by simp [backR, hw]) (owns_out HX.out HO.out)
  · have hwk := (walkD_iff n g xs).1 hw
    have hl61 := hwk.2.2.1
    have hl1 := hwk.2.1
    have HK := Lib.hid hw
    clear hwk hw
    go_wp2_with fail
    go_loopw [6, 7] (fun v i wr => BRel n g xs w.heap.size w v i wr) (fun _ i _ => (intOf i + 1).toNat)
    case atStart => exact ⟨HX.out, 0, Nat.zero_le _, by congr 1; omega, HO.out⟩
    case round =>
      obtain ⟨hx, k, hk, rfl, hown⟩ := hrel
      clear HX HO
      have HX := Lib.hid hx
      clear hx
      generalize hys : (xs.reverse.take k).map iv = ys at hown
      have HYS := Lib.hid hys
      have HOW := Lib.hid hown
      clear hown hys
      by_cases hlt : k < xs.length
      · obtain ⟨m, hm'⟩ : ∃ m : Nat, xs.length - 1 - k = m := ⟨_, rfl⟩
        have hmi : (xs.length : Int) - 1 - k = (m : Int) := by omega
        obtain ⟨x, hxk⟩ := get_some (xs := xs) (k := m) (by omega)
        obtain ⟨b, o, rfl, hbl, hcx0⟩ := HL.out m x hxk
        have hcx : wr.cell? ⟨b, o + m, none⟩ = some (.int .i64 x) := (HX.out.below.cell (p := ⟨b, o + m, none⟩) hbl).trans hcx0
        have hml : m < xs.length := by omega
        have HXK := Lib.hid hxk
        have HM := Lib.hid hm'
        have HMI := Lib.hid hmi
        rw [hmi]
        clear hcx0 hxk hm' hmi
        go_wp2_with (at_builtin; refine wpList_append_own _ rfl _ _ 26 rfl (w.heap.size + 1) 3 i0 (.int .i64 0) 1 8 Try.underlying26 hi hz0 hz1 hz2 rfl (by decide) _ _ _ rfl (HOW.out.alloc _) ⟨wr.heap.size, 0, none⟩ 1 1 [.int .i64 (x)] rfl rfl (cell_one_new _ _ _) ?c2 ?c3 ?c4 ?c5 ?_)
        case c2 => intro u hu; simp at hu; subst hu; rfl
        case c3 => unfold maxLen; omega
        case c4 => omega
        case c5 => have := HX.out.size; simp; omega
        intro v' w9 hown' hgrow _
        have HX := Lib.hid (boxed_append HX.out hgrow (fun b hb => (owns_block HOW.out b hb).1))
        have HOW' := Lib.hid hown'
        clear hgrow hown' HOW
        go_wp2_with fail
        go_roundw
        case rel =>
          have h1 := HM.out
          have h2 := HMI.out
          refine ⟨HX.out, k + 1, hlt, by congr 1; omega, ?_⟩
          rw [← rev_snoc xs k x hlt (by rw [h1]; exact HXK.out), HYS.out]
          exact HOW'.out
        case measure => simp [intOf] <;> omega
      · have hke : k = xs.length := by omega
        have HE := Lib.hid hke
        have hneg : (xs.length : Int) - 1 - k = -1 := by omega
        rw [hneg]
        clear hke hneg
        go_wp2_with fail
        go_ret2
        refine owns_R (zs := xs.reverse) (b := true) (by simp [backR, HK.out]) (owns_out HX.out ?_)
        have h1 := HYS.out
        have hE := HE.out
        have hr : xs.reverse.take k = xs.reverse := List.take_of_length_le (by rw [List.length_reverse]; omega)
        rw [hr] at h1
        rw [h1, List.length_reverse, ← hE]
        exact HOW.out
set_option maxHeartbeats 800000 in
set_option maxRecDepth 20000 in
theorem clone_any (v : Value) (xs : List Int) (w : World) (hv : ReadsI w v xs) (hl : 1 ≤ xs.length) (hl2 : xs.length ≤ 1048576) :
    Calls Try.prog 53 #[v] w (OwnsI w.heap.size xs w) := by
  obtain ⟨i0, hi, hz0, hz1, hz2⟩ := info_parts infoInt
  obtain ⟨y, c, rfl, hc, hm, hx⟩ := hv
  unfold maxLen at hm
  obtain ⟨x0, hx0⟩ := get_some (xs := xs) (k := 0) hl
  obtain ⟨b, o, rfl, hbl, _⟩ := hx 0 x0 hx0
  have hcells : ∀ j u, (xs.map iv)[j]? = some u → (w.alloc (.cells #[] 3)).cell? ((⟨b, o, none⟩ : Addr).add j) = some u := by
    intro j u hj
    rw [List.getElem?_map] at hj
    cases hxj : xs[j]? with
    | none => rw [hxj] at hj; cases hj
    | some x =>
      rw [hxj] at hj
      cases hj
      obtain ⟨b', o', e, _, hcell⟩ := hx j x hxj
      cases e
      have ha : (⟨b, o, none⟩ : Addr).add j = ⟨b, o + j, none⟩ := by
        unfold Addr.add
        by_cases h : j = 0 <;> simp [h]
      rw [ha]
      exact ((below_new w _).cell (p := ⟨b, o + j, none⟩) hbl).trans hcell
  have HC := Lib.hid hcells
  have q22 : ∀ (w : World) (a : Option Addr) (n c n' c' : Nat), (binOp .eql 26 (.slice a n c) (.slice none n' c')).run Try.prog w = .ok (.bool a.isNone) w := fun w a n c n' c' => Lib.run_eql_slice_nil w _ _ a n c n' c' Try.underlying26
  have hown0 := made_at w w.heap.size w.heap.size rfl (Nat.le_refl _)
  have HOW := Lib.hid hown0
  clear hx hcells hown0 hx0
  go_enter Try.func53, Try.ntmps53
  go_wp2_with (at_builtin; refine wpList_append_own _ rfl _ _ 26 rfl w.heap.size 3 i0 (.int .i64 0) 1 8 Try.underlying26 hi hz0 hz1 hz2 rfl (by decide) _ _ _ rfl HOW.out ⟨b, o, none⟩ xs.length c (xs.map iv) rfl ?c1 HC.out ?c2 ?c3 ?c4 ?c5 ?_)
  case c1 => simp
  case c2 => intro u hu; simp at hu; obtain ⟨z, _, rfl⟩ := hu; rfl
  case c3 => unfold maxLen; omega
  case c4 => omega
  case c5 => simp
  intro v' w9 hown' hgrow _
  have HB := Lib.hid ((Below.refl w.heap.size w).alloc (Nat.le_refl _) (.cells #[] 3) |>.trans (below_grown hgrow (fun b hb => (owns_block HOW.out b hb).1) (by simp)))
  have HOW' := Lib.hid hown'
  clear hgrow hown'
  go_wp2_with fail
  go_ret
  exact ⟨_, rfl, by simpa using HOW'.out, HB.out⟩
/-- the cells behind k exchanges -/
def revTo (xs : List Int) (k : Nat) : List Value := (List.range xs.length).map fun j => iv (if j < k ∨ xs.length ≤ j + k then xs.getD (xs.length - 1 - j) 0 else xs.getD j 0)
theorem revTo_len (xs : List Int) (k : Nat) : (revTo xs k).length = xs.length := by simp [revTo]
theorem revTo_at (xs : List Int) (k j : Nat) (h : j < xs.length) : (revTo xs k)[j]? = some (iv (if j < k ∨ xs.length ≤ j + k then xs.getD (xs.length - 1 - j) 0 else xs.getD j 0)) := by simp [revTo, h]
theorem revTo_zero (xs : List Int) : revTo xs 0 = xs.map iv := by
  apply List.ext_getElem?
  intro j
  by_cases h : j < xs.length
  · rw [revTo_at xs 0 j h, if_neg (by omega)]
    simp [List.getD, h]
  · rw [List.getElem?_eq_none (by rw [revTo_len]; omega), List.getElem?_eq_none (by simp; omega)]
theorem revTo_step (xs : List Int) (k : Nat) (h : k + (k + 1) < xs.length) : ((revTo xs k).set k (iv (xs.getD (xs.length - 1 - k) 0))).set (xs.length - 1 - k) (iv (xs.getD k 0)) = revTo xs (k + 1) := by
  apply List.ext_getElem?
  intro j
  by_cases hj : j < xs.length
  · rw [revTo_at xs (k + 1) j hj, List.getElem?_set, List.getElem?_set, revTo_at xs k j hj]
    simp only [List.length_set, revTo_len]
    by_cases c1 : xs.length - 1 - k = j
    · rw [if_pos c1, if_pos (by omega), if_pos (by omega)]
      subst c1
      rw [show xs.length - 1 - (xs.length - 1 - k) = k by omega]
    · rw [if_neg c1]
      by_cases c2 : k = j
      · subst c2
        rw [if_pos rfl, if_pos (by omega), if_pos (by omega)]
      · rw [if_neg c2]
        congr 2
        by_cases c3 : j < k ∨ xs.length ≤ j + k
        · rw [if_pos c3, if_pos (by omega)]
        · rw [if_neg c3, if_neg (by omega)]
  · rw [List.getElem?_eq_none (by simp [revTo_len]; omega), List.getElem?_eq_none (by rw [revTo_len]; omega)]
theorem revTo_end (xs : List Int) (k : Nat) (h : xs.length ≤ k + k + 1) : revTo xs k = xs.reverse.map iv := by
  apply List.ext_getElem?
  intro j
  by_cases hj : j < xs.length
  · rw [revTo_at xs k j hj, List.getElem?_map, List.getElem?_reverse hj]
    by_cases c : j < k ∨ xs.length ≤ j + k
    · rw [if_pos c]
      have : xs.length - 1 - j < xs.length := by omega
      simp [List.getD, this]
    · rw [if_neg c]
      have e : xs.length - 1 - j = j := by omega
      rw [e]
      simp [List.getD, hj]
  · rw [List.getElem?_eq_none (by rw [revTo_len]; omega), List.getElem?_eq_none (by simp; omega)]
def RvRel (xs : List Int) (base : Nat) (v : Value) (w : World) (i j : Value) (wr : World) : Prop :=
  ∃ k : Nat, k ≤ xs.length ∧ i = .int .i64 k ∧ j = .int .i64 ((xs.length : Int) - 1 - k) ∧ (k = 0 ∨ k + k ≤ xs.length) ∧ wr.ownsRow base 3 1 v xs.length (revTo xs k) ∧ w.grownBy wr v.ownBlock
set_option maxHeartbeats 1600000 in
theorem reverse_any (v : Value) (xs : List Int) (base : Nat) (w : World) (ho : w.ownsRow base 3 1 v xs.length (xs.map iv)) (hl : 1 ≤ xs.length) (hl2 : xs.length ≤ 1048576) :
    Calls Try.prog 54 #[v] w fun e w' => e = .returned (.tuple #[]) ∧ w.grownBy w' v.ownBlock ∧ w'.ownsRow base 3 1 v xs.length (xs.reverse.map iv) := by
  obtain ⟨a, c, rfl, ha⟩ := owns_shape ho
  obtain ⟨gb, rfl, hg1, _⟩ := ha (by omega)
  have Ho := Lib.hid ho
  clear ho ha
  go_enter Try.func54, Try.ntmps54
  go_wp2
  go_loopw [2, 3] (fun i j wr => RvRel xs base (.slice (some ⟨gb, 0, none⟩) xs.length c) w i j wr) (fun _ j _ => (intOf j + 1).toNat)
  case atStart => exact ⟨0, Nat.zero_le _, rfl, by congr 1; omega, .inl rfl, by rw [revTo_zero]; exact Ho.out, grown_refl _ _⟩
  case round =>
    obtain ⟨k, hk, rfl, rfl, hkk, ho, hg⟩ := hrel
    have HG := Lib.hid hg
    have HO := Lib.hid ho
    clear hg ho
    by_cases hlt : k + (k + 1) < xs.length
    · obtain ⟨m, hm'⟩ : ∃ m : Nat, xs.length - 1 - k = m := ⟨_, rfl⟩
      have hmi : (xs.length : Int) - 1 - k = (m : Int) := by omega
      have hci : wr.cell? ⟨gb, k, none⟩ = some (.int .i64 (xs.getD k 0)) := (HO.out.cellAt k (by omega)).trans ((revTo_at xs k k (by omega)).trans (by rw [if_neg (by omega)]))
      have hcj : wr.cell? ⟨gb, m, none⟩ = some (.int .i64 (xs.getD m 0)) := (HO.out.cellAt m (by omega)).trans ((revTo_at xs k m (by omega)).trans (by rw [if_neg (by omega)]))
      have hfi := HO.out.frozenAt k
      have hfj := HO.out.frozenAt m
      have Hst := Lib.hid (HO.out.stored k (.int .i64 (xs.getD m 0)))
      have Hst2 := Lib.hid (Hst.out.1.stored m (.int .i64 (xs.getD k 0)))
      have hst0 := revTo_step xs k hlt
      rw [hm'] at hst0
      have Hstep := Lib.hid hst0
      clear hst0
      have HM := Lib.hid hm'
      have HMI := Lib.hid hmi
      have hkm : k < m := by omega
      have hne : k ≠ m := by omega
      have hne2 : ¬ m = k := by omega
      have hi0 : 0 ≤ (k : Int) := by omega
      have hi1 : (k : Int) < xs.length := by omega
      have hi2 : 0 ≤ (m : Int) := by omega
      have hi3 : (m : Int) < xs.length := by omega
      rw [hmi]
      clear hm' hmi
      generalize xs.getD k 0 = p at *
      generalize xs.getD m 0 = q at *
      go_wp2_with fail
      go_region
      all_goals
        go_wp2_with fail
        go_roundw
        case rel =>
          have h1 := HM.out
          have h2 := HMI.out
          refine ⟨k + 1, by omega, by go_num, by congr 1; omega, .inr (by omega), ?_, grown_trans HG.out (grown_trans Hst.out.2 (grown_trans Hst2.out.2 ⟨rfl, rfl, rfl, Nat.le_refl _, fun _ _ _ => rfl⟩))⟩
          have h3 := Hst2.out.1
          have h4 := Hstep.out
          rw [← h4]
          exact owns_below h3 (below_drewN _ 1)
        case measure => simp [intOf] <;> omega
    · have HE := Lib.hid (revTo_end xs k (by omega))
      have hij : ¬ (k : Int) < (xs.length : Int) - 1 - k := by omega
      go_wp2_with fail
      go_end0
      exact ⟨rfl, HG.out, by rw [← List.map_reverse, ← HE.out]; exact HO.out⟩
set_option maxHeartbeats 800000 in
theorem impl_BackWalk (n : Int) (g : Bool) (v : Value) (xs : List Int) (w : World) (hv : ReadsI w v xs) :
    Calls Try.prog 18 #[rd n g, v] w (OwnsB w.heap.size (backR n g xs).1 (backR n g xs).2 w) := by
  have HCL := Lib.hid (fun v w hv hl h2 => clone_any v xs w hv hl h2)
  have HRV := Lib.hid (fun v base w ho hl h2 => reverse_any v xs base w ho hl h2)
  have HX0 := Lib.hid (Boxed.first w n g 25)
  have HV := Lib.hid hv
  have HVB := Lib.hid (hv.below (below_new w (.cells #[.int .i64 n, .bool g] 25)))
  obtain ⟨y, c, hvv, hc, hm, hx⟩ := hv
  subst hvv
  unfold maxLen at hm
  clear hx
  have HW := Lib.hid (fun v w hv => areWalks_one n g v xs w hv)
  unfold rd at *
  go_enter Try.func18, Try.ntmps18
  go_wp2_with fail
  refine (HW.out _ _ (one_list_at HVB.out _ (by simp))).mono ?_
  rintro e w1 ⟨rfl, hb⟩
  have HX := Lib.hid ((HX0.out.next (below_new _ _)).next hb)
  clear hb HX0
  cases hw : walkD n g xs
  · have HO := Lib.hid (made_at w1 (w.heap.size + 1) w1.heap.size rfl (Nat.succ_le_of_lt HX.out.size))
    go_wp2_with fail
    go_ret2
    exact owns_R (zs := []) (b := false) (by simp [backR, hw]) (owns_out (HX.out.next (below_new _ _)) HO.out)
  · have hwk := (walkD_iff n g xs).1 hw
    have hl61 := hwk.2.2.1
    have hl1 := hwk.2.1
    have HK := Lib.hid hw
    clear hwk hw
    go_wp2_with fail
    refine (HCL.out _ _ (HV.out.below HX.out.below) hl1 (by omega)).mono ?_
    rintro e w2 ⟨u, rfl, ho, hb⟩
    have HS := Lib.hid HX.out.size
    have HX := Lib.hid (HX.out.next hb)
    have HO := Lib.hid ho
    clear hb ho
    go_wp2_with fail
    refine (HRV.out u _ _ HO.out hl1 (by omega)).mono ?_
    rintro e w3 ⟨rfl, hg, ho⟩
    have HX := Lib.hid (HX.out.nextAt (m := w.heap.size + 1) (Nat.lt_succ_self _) (below_grown hg (fun b hb => Nat.le_trans (Nat.succ_le_of_lt HS.out) (owns_block HO.out b hb).1) (Nat.succ_le_of_lt HX.out.size)))
    have HO := Lib.hid ho
    clear hg ho
    go_wp2_with fail
    go_ret2
    exact owns_R (zs := xs.reverse) (b := true) (by simp [backR, HK.out]) (owns_out HX.out (by rw [List.length_reverse]; exact owns_lower HO.out (Nat.succ_le_of_lt HS.out)))
end Go.Proofs.Ytiokgnabiidlbaa
