/-
  What is proved: impl.TurnTimes and the model's answer alike. Conditions: a slice that reads as a list of numbers.
-/
import Derived.Test.YtiokgnabiidlbaaFn4
namespace Go.Proofs.Ytiokgnabiidlbaa
open Go.RowKit

/-- the direction of a step -/
def wayI (n : Int) (g : Bool) (a b : Int) : Int := if b = a then 0 else if stepI n g a 1 = b then 1 else -1
theorem way_three (n : Int) (g : Bool) (a b : Int) : wayI n g a b = 0 ∨ wayI n g a b = 1 ∨ wayI n g a b = -1 := by
  unfold wayI
  split
  · left; rfl
  · split
    · right; left; rfl
    · right; right; rfl
theorem stepUp {n a : Int} (ha : 0 ≤ a ∧ a < n) (_hn : 2 ≤ n) : stepI n true a 1 = if a + 1 < n then a + 1 else 0 := by
  unfold stepI
  simp only [if_true]
  rw [Int.add_emod_right]
  split
  · exact Int.emod_eq_of_lt (by omega) (by omega)
  · rw [show a + 1 = n by omega, Int.emod_self]
theorem head_way {n : Int} {g : Bool} {a b : Int} (hr : roadB n g = true) (ha : 0 ≤ a ∧ a < n) (hb : 0 ≤ b ∧ b < n) (hg : gapI n g a b ≤ 1) :
    headI n g a b = (if wayI n g a b = -1 then 1 else 0, decide (wayI n g a b ≠ 0)) := by
  obtain ⟨h1, h2, h3⟩ := (roadB_iff n g).1 hr
  unfold headI wayI
  cases g
  · simp only [afterI, beforeI, stepI, gapI, Bool.false_eq_true, false_and, if_false] at *
    by_cases c0 : b = a
    · subst c0
      rw [if_neg (by omega), if_neg (by omega)]
      simp
    · rw [if_neg c0]
      by_cases c1 : a + 1 = b
      · have e1 : max (min (a + 1) (n - 1)) 0 = b := by omega
        rw [if_pos c1, if_pos e1]
        simp
      · have e1 : ¬ max (min (a + 1) (n - 1)) 0 = b := by omega
        have e2 : a - 1 = b := by omega
        rw [if_neg c1, if_pos e2, if_neg e1]
        simp
  · have h4 := h3 rfl
    rw [stepUp ha h1]
    simp only [afterI, beforeI, gapI, if_true, true_and] at *
    by_cases c0 : b = a
    · subst c0
      rw [if_neg (by split <;> omega), if_neg (by split <;> omega)]
      simp
    · rw [if_neg c0]
      by_cases c1 : (if a + 1 < n then a + 1 else 0) = b
      · have e1 : (if a = n - 1 then (0 : Int) else a + 1) = b := by split at c1 <;> split <;> omega
        rw [if_pos c1, if_pos e1]
        simp
      · have e1 : ¬ (if a = n - 1 then (0 : Int) else a + 1) = b := by split at c1 <;> split <;> omega
        have e2 : (if a = 0 then n - 1 else a - 1) = b := by split at c1 <;> split <;> omega
        rw [if_neg c1, if_neg e1, if_pos e2]
        simp
set_option maxRecDepth 20000 in
theorem l2Way_any (n : Int) (g : Bool) (a b : Int) (w : World) (hn : 2 ≤ n ∧ n ≤ 24) (ha : 0 ≤ a ∧ a < n) :
    Calls Try.prog 50 #[rd n g, .int .i64 a, .int .i64 b] w fun e w' => e = .returned (.int .i64 (wayI n g a b)) ∧ Below w.heap.size w w' := by
  have HS := Lib.hid (fun w => l2Step_any n g a 1 w hn ha (by omega))
  have HX := Lib.hid (Boxed.first w n g 25)
  unfold rd at *
  go_enter Try.func50, Try.ntmps50
  by_cases h : b = a
  · have HW := Lib.hid (show wayI n g a b = 0 from if_pos h)
    have h1 : (b == a) = true := by simp [h]
    clear h
    go_wp2_with fail
    go_ret
    exact ⟨ret_int HW.out.symm, HX.out.below⟩
  · have h1 : (b == a) = false := by simp [h]
    go_wp2_with fail
    refine (HS.out _).mono ?_
    rintro e w1 ⟨rfl, hb⟩
    have HX1 := Lib.hid (HX.out.next hb)
    clear hb HX
    by_cases h2 : stepI n g a 1 = b
    · have HW := Lib.hid (show wayI n g a b = 1 by unfold wayI; rw [if_neg h, if_pos h2])
      have h3 : (b == stepI n g a 1) = true := by simp [h2]
      have h4 : b = stepI n g a 1 := h2.symm
      generalize stepI n g a 1 = s at *
      clear h2
      go_wp2_with fail
      go_ret
      exact ⟨ret_int HW.out.symm, HX1.out.below⟩
    · have HW := Lib.hid (show wayI n g a b = -1 by unfold wayI; rw [if_neg h, if_neg h2])
      have h4 : ¬ b = stepI n g a 1 := fun e => h2 e.symm
      have h3 : (b == stepI n g a 1) = false := by simp [h4]
      generalize stepI n g a 1 = s at *
      go_wp2_with fail
      go_ret
      exact ⟨ret_int HW.out.symm, HX1.out.below⟩
def cameTo (n : Int) (g : Bool) (xs : List Int) : Nat → Int
  | 0 => 0
  | k + 1 => if wayI n g (xs.getD k 0) (xs.getD (k + 1) 0) = 0 then cameTo n g xs k else wayI n g (xs.getD k 0) (xs.getD (k + 1) 0)
def turnsTo (n : Int) (g : Bool) (xs : List Int) : Nat → List Int
  | 0 => []
  | k + 1 => if wayI n g (xs.getD k 0) (xs.getD (k + 1) 0) ≠ 0 ∧ cameTo n g xs k = -wayI n g (xs.getD k 0) (xs.getD (k + 1) 0) then turnsTo n g xs k ++ [(k : Int)] else turnsTo n g xs k
theorem came_three (n : Int) (g : Bool) (xs : List Int) : ∀ k, cameTo n g xs k = 0 ∨ cameTo n g xs k = 1 ∨ cameTo n g xs k = -1
  | 0 => .inl rfl
  | k + 1 => by
    have h1 := came_three n g xs k
    have h2 := way_three n g (xs.getD k 0) (xs.getD (k + 1) 0)
    unfold cameTo
    split
    · exact h1
    · exact h2
theorem turns_len (n : Int) (g : Bool) (xs : List Int) : ∀ k, (turnsTo n g xs k).length ≤ k
  | 0 => Nat.le_refl _
  | k + 1 => by
    have := turns_len n g xs k
    unfold turnsTo
    split
    · simp; omega
    · omega
theorem came_next {n : Int} {g : Bool} {xs : List Int} {k : Nat} {x z wv : Int} (hx : xs[k]? = some x) (hz : xs[k + 1]? = some z) (hw : wayI n g x z = wv) : cameTo n g xs (k + 1) = if wv = 0 then cameTo n g xs k else wv := by
  have e1 : xs.getD k 0 = x := by simp [List.getD, hx]
  have e2 : xs.getD (k + 1) 0 = z := by simp [List.getD, hz]
  show (if wayI n g (xs.getD k 0) (xs.getD (k + 1) 0) = 0 then cameTo n g xs k else wayI n g (xs.getD k 0) (xs.getD (k + 1) 0)) = _
  rw [e1, e2, hw]
theorem turns_next {n : Int} {g : Bool} {xs : List Int} {k : Nat} {x z wv : Int} (hx : xs[k]? = some x) (hz : xs[k + 1]? = some z) (hw : wayI n g x z = wv) : turnsTo n g xs (k + 1) = if wv ≠ 0 ∧ cameTo n g xs k = -wv then turnsTo n g xs k ++ [(k : Int)] else turnsTo n g xs k := by
  have e1 : xs.getD k 0 = x := by simp [List.getD, hx]
  have e2 : xs.getD (k + 1) 0 = z := by simp [List.getD, hz]
  show (if wayI n g (xs.getD k 0) (xs.getD (k + 1) 0) ≠ 0 ∧ cameTo n g xs k = -wayI n g (xs.getD k 0) (xs.getD (k + 1) 0) then turnsTo n g xs k ++ [(k : Int)] else turnsTo n g xs k) = _
  rw [e1, e2, hw]
noncomputable def turnsR (n : Int) (g : Bool) (xs : List Int) : List Int × Bool := if walkD n g xs = true then (turnsTo n g xs (xs.length - 1), true) else ([], false)
theorem turnsR_len (n : Int) (g : Bool) (xs : List Int) (h : xs.length ≤ 1048576) : (turnsR n g xs).1.length ≤ 1048576 := by
  unfold turnsR
  split
  · have := turns_len n g xs (xs.length - 1)
    simp only
    omega
  · simp
/-- how the state of the walk lies in the variables: model and program -/
def StS (c : Int) (v1 _v2 : Value) : Prop := v1 = .int .i64 c
def StI (c : Int) (v1 v2 : Value) : Prop := (c = 0 ∧ v1 = .int .i64 0 ∧ v2 = .bool false) ∨ (c = 1 ∧ v1 = .int .i64 0 ∧ v2 = .bool true) ∨ (c = -1 ∧ v1 = .int .i64 1 ∧ v2 = .bool true)
def TuRel (n : Int) (g : Bool) (xs : List Int) (base : Nat) (w : World) (v i : Value) (c : Int) (wr : World) : Prop :=
  Boxed base n g w wr ∧ ∃ k : Nat, k + 1 ≤ xs.length ∧ i = .int .i64 ((k + 1 : Nat) : Int) ∧ c = cameTo n g xs k ∧ wr.ownsRow (base + 1) 3 1 v (turnsTo n g xs k).length ((turnsTo n g xs k).map iv)
theorem tu_next {n : Int} {g : Bool} {xs : List Int} {base k : Nat} {w wr : World} {v i : Value} {c c' wv : Int} {ys zs : List Value} {m m' : Nat} {x z : Int} (hys : (turnsTo n g xs k).map iv = ys) (hm : (turnsTo n g xs k).length = m) (hx : xs[k]? = some x) (hz : xs[k + 1]? = some z) (hw : wayI n g x z = wv) (hc : c = cameTo n g xs k)
    (hi : i = .int .i64 ((k + 1 + 1 : Nat) : Int)) (hc' : c' = if wv = 0 then c else wv) (hzs : zs = if wv ≠ 0 ∧ c = -wv then ys ++ [Value.int .i64 k] else ys) (hm' : m' = if wv ≠ 0 ∧ c = -wv then m + 1 else m) (h : Boxed base n g w wr) (ho : wr.ownsRow (base + 1) 3 1 v m' zs) : TuRel n g xs base w v i c' wr := by
  have e1 := came_next hx hz hw
  have e2 := turns_next hx hz hw
  rw [← hc] at e1 e2
  refine ⟨h, k + 1, (List.getElem?_eq_some_iff.1 hz).1, hi, by rw [e1, hc'], ?_⟩
  rw [e2]
  subst hzs hm'
  by_cases hq : wv ≠ 0 ∧ c = -wv
  · rw [if_pos hq] at ho ⊢
    rw [if_pos hq] at ho
    rw [List.length_append, List.map_append, hm, hys]
    exact ho
  · rw [if_neg hq] at ho ⊢
    rw [if_neg hq] at ho
    rw [hm, hys]
    exact ho
set_option maxHeartbeats 3200000 in
set_option maxRecDepth 20000 in
theorem spec_TurnTimes (n : Int) (g : Bool) (v : Value) (xs : List Int) (w : World) (hv : ReadsI w v xs) :
    Calls Try.prog 15 #[rd n g, v] w (OwnsB w.heap.size (turnsR n g xs).1 (turnsR n g xs).2 w) := by
  obtain ⟨i0, hi, hz0, hz1, hz2⟩ := info_parts infoInt
  have HWA := Lib.hid (fun a b w hn ha => l2Way_any n g a b w hn ha)
  have HX0 := Lib.hid (Boxed.first w n g 25)
  have HV := Lib.hid hv
  have HVB := Lib.hid (hv.below (below_new w (.cells #[.int .i64 n, .bool g] 25)))
  have HO0 := Lib.hid (made_at (w.alloc (.cells #[.int .i64 n, .bool g] 25)) (w.heap.size + 1) (w.heap.size + 1) (by simp) (Nat.le_refl _))
  obtain ⟨y, c, hvv, hc, hm, hx⟩ := hv
  subst hvv
  unfold maxLen at hm
  have HL := Lib.hid hx
  clear hx
  have HW := Lib.hid (fun v w hv => l2Walk_is n g v xs w hv)
  unfold rd at *
  go_enter Try.func15, Try.ntmps15
  go_wp2_with fail
  refine (HW.out _ _ (HVB.out.below (below_new _ _))).mono ?_
  rintro e w1 ⟨rfl, hb⟩
  have HX := Lib.hid ((HX0.out.next (below_new _ _)).next hb)
  have HO := Lib.hid (owns_below HO0.out hb)
  clear hb HX0 HO0
  cases hw : walkD n g xs
  · have HR := Lib.hid (show turnsR n g xs = ([], false) from if_neg (by rw [hw]; simp))
    clear hw
    go_wp2_with fail
    go_ret2
    exact owns_R (zs := []) (b := false) HR.out (owns_out HX.out HO.out)
  · have hwk := (walkD_iff n g xs).1 hw
    have HR := Lib.hid (show turnsR n g xs = (turnsTo n g xs (xs.length - 1), true) from if_pos hw)
    have hn := (roadB_iff n g).1 hwk.1
    have hl1 := hwk.2.1
    have hl61 := hwk.2.2.1
    have HWK := Lib.hid hwk
    have HN : Hid (2 ≤ n ∧ n ≤ 24) := Lib.hid ⟨hn.1, hn.2.1⟩
    clear hwk hn hw
    go_wp2_with fail
    go_loopw [6, 7, 8] (fun v cv i wr => ∃ c : Int, cv = .int .i64 c ∧ TuRel n g xs w.heap.size w v i c wr) (fun _ _ i _ => xs.length - (intOf i).toNat)
    case atStart => exact ⟨0, rfl, HX.out, 0, hl1, rfl, rfl, HO.out⟩
    case round =>
      obtain ⟨c, hst, hx, k, hk, rfl, hcame, hown⟩ := hrel
      clear HX HO
      have HX := Lib.hid hx
      have HC := Lib.hid hcame
      have hc3 := came_three n g xs k
      rw [← hcame] at hc3
      have htl := turns_len n g xs k
      generalize hys : (turnsTo n g xs k).map iv = ys at hown
      generalize hml : (turnsTo n g xs k).length = m at hown htl
      have HYS := Lib.hid hys
      have HML := Lib.hid hml
      have HOW := Lib.hid hown
      clear hx hown hys hml hcame
      by_cases hlt : k + 1 < xs.length
      · obtain ⟨x, hxk⟩ := get_some (xs := xs) (k := k) (by omega)
        obtain ⟨z, hzk⟩ := get_some hlt
        obtain ⟨b, o, rfl, hbl, hcx0⟩ := HL.out k x hxk
        obtain ⟨b', o', e, _, hcz0⟩ := HL.out (k + 1) z hzk
        cases e
        have hw3 := way_three n g x z
        have HXK := Lib.hid hxk
        have HZK := Lib.hid hzk
        have HHW := Lib.hid (head_way HWK.out.1 (HWK.out.2.2.2.1 k x hxk) (HWK.out.2.2.2.1 (k + 1) z hzk) (HWK.out.2.2.2.2 k x z hxk hzk))
        have HCA := Lib.hid (HWA.out x z · HN.out (HWK.out.2.2.2.1 k x hxk))
        have hcx : wr.cell? ⟨b, o + (k + 1 - 1), none⟩ = some (.int .i64 x) := (HX.out.below.cell (p := ⟨b, o + k, none⟩) hbl).trans hcx0
        have hcz : wr.cell? ⟨b, o + (k + 1), none⟩ = some (.int .i64 z) := (HX.out.below.cell (p := ⟨b, o + (k + 1), none⟩) hbl).trans hcz0
        have hmb : m + 1 ≤ 61 := by omega
        clear hcx0 hcz0 hxk hzk
        generalize hT : k + 1 = t at *
        have hi0 : 0 ≤ (t : Int) := by omega
        have hi1 : (t : Int) < xs.length := by omega
        have hi2 : 0 ≤ (t : Int) - 1 := by omega
        have hi3 : (t : Int) - 1 < xs.length := by omega
        have hi4 : 1 ≤ (t : Int) := by omega
        have hi5 : (t : Int) < xs.length + 1 := by omega
        have HT := Lib.hid hT
        clear hT
        have hw1 : IntKind.i64.wrap ((t : Int) - 1) = (t : Int) - 1 := IntWalk.i64_in _ (by omega)
        have HW1 := Lib.hid hw1
        clear hw1
        go_wp2_with fail
        have hw1 := HW1.out
        go_region_held3 (fun w' => Boxed w.heap.size n g w w' ∧ w'.cell? ⟨w.heap.size, 0, none⟩ = some (.int .i64 n) ∧ w'.cell? ⟨w.heap.size, 1, none⟩ = some (.bool g) ∧ w'.cell? ⟨b, o + (t - 1), none⟩ = some (.int .i64 x) ∧ w'.cell? ⟨b, o + t, none⟩ = some (.int .i64 z)) (first | exact hS | exact keep4_new HX.out hcx hcz) (first | (go_at_call 50; refine (HCA.out _).mono ?_; rintro e w2 ⟨rfl, hb⟩; have hS : Keep4 w.heap.size n g b (o + (t - 1)) (o + t) (.int .i64 x) (.int .i64 z) w w2 := keep4 (by assumption) hbl hb; have hO := owns_below (w := wr.drew) (owns_below HOW.out (below_drewN _ 1)) hb; clear hb))
        clear hw1 hcx hcz
        have HX := Lib.hid hS.1
        have HOW := Lib.hid hO
        clear hS hO
        generalize hwv : wayI n g x z = wv at *
        have HWV := Lib.hid hwv
        clear hwv HHW
        rcases hw3 with rfl | rfl | rfl
        · subst hst
          go_wp2_with fail
          go_roundw
          case rel =>
            have h1 := HT.out
            subst h1
            refine ⟨_, rfl, tu_next (wv := 0) (c := c) HYS.out HML.out HXK.out HZK.out HWV.out HC.out (by go_num) rfl (by simp) (by simp) HX.out (HOW.out)⟩
          case measure => simp [intOf] <;> omega
        · subst hst
          rcases hc3 with rfl | rfl | rfl
          · go_wp2_with fail
            go_roundw
            case rel =>
              have h1 := HT.out
              subst h1
              refine ⟨_, rfl, tu_next (wv := 1) (c := 0) HYS.out HML.out HXK.out HZK.out HWV.out HC.out (by go_num) rfl (by simp) (by simp) HX.out (HOW.out)⟩
            case measure => simp [intOf] <;> omega
          · go_wp2_with fail
            go_roundw
            case rel =>
              have h1 := HT.out
              subst h1
              refine ⟨_, rfl, tu_next (wv := 1) (c := 1) HYS.out HML.out HXK.out HZK.out HWV.out HC.out (by go_num) rfl (by simp) (by simp) HX.out (HOW.out)⟩
            case measure => simp [intOf] <;> omega
          · go_wp2_with (at_builtin; refine wpList_append_own _ rfl _ _ 26 rfl (w.heap.size + 1) 3 i0 (.int .i64 0) 1 8 Try.underlying26 hi hz0 hz1 hz2 rfl (by decide) _ _ _ rfl (HOW.out.alloc _) ⟨w2.heap.size, 0, none⟩ 1 1 [.int .i64 ((t : Int) - 1)] rfl rfl (cell_one_new _ _ _) ?cbc2 ?cbc3 ?cbc4 ?cbc5 ?_)
            case cbc2 => first | (intro u hu; simp at hu; subst hu; rfl) | rfl
            case cbc3 => unfold maxLen; omega
            case cbc4 => omega
            case cbc5 => have := HX.out.size; simp; omega
            intro v' w9 hown' hgrow _
            have HX := Lib.hid (boxed_append HX.out hgrow (fun b hb => (owns_block HOW.out b hb).1))
            have HOW' := Lib.hid hown'
            clear hgrow hown' HOW
            go_wp2_with fail
            go_roundw
            case rel =>
              have h1 := HT.out
              subst h1
              refine ⟨_, rfl, tu_next (wv := 1) (c := -1) (zs := ys ++ [Value.int .i64 (k : Int)]) (m' := m + 1) HYS.out HML.out HXK.out HZK.out HWV.out HC.out (by go_num) rfl (by simp) (by simp) HX.out (by have e := HOW'.out; rw [show ((k + 1 : Nat) : Int) - 1 = k by omega] at e; exact e)⟩
            case measure => simp [intOf] <;> omega
        · subst hst
          rcases hc3 with rfl | rfl | rfl
          · go_wp2_with fail
            go_roundw
            case rel =>
              have h1 := HT.out
              subst h1
              refine ⟨_, rfl, tu_next (wv := -1) (c := 0) HYS.out HML.out HXK.out HZK.out HWV.out HC.out (by go_num) rfl (by simp) (by simp) HX.out (HOW.out)⟩
            case measure => simp [intOf] <;> omega
          · go_wp2_with (at_builtin; refine wpList_append_own _ rfl _ _ 26 rfl (w.heap.size + 1) 3 i0 (.int .i64 0) 1 8 Try.underlying26 hi hz0 hz1 hz2 rfl (by decide) _ _ _ rfl (HOW.out.alloc _) ⟨w2.heap.size, 0, none⟩ 1 1 [.int .i64 ((t : Int) - 1)] rfl rfl (cell_one_new _ _ _) ?ccb2 ?ccb3 ?ccb4 ?ccb5 ?_)
            case ccb2 => first | (intro u hu; simp at hu; subst hu; rfl) | rfl
            case ccb3 => unfold maxLen; omega
            case ccb4 => omega
            case ccb5 => have := HX.out.size; simp; omega
            intro v' w9 hown' hgrow _
            have HX := Lib.hid (boxed_append HX.out hgrow (fun b hb => (owns_block HOW.out b hb).1))
            have HOW' := Lib.hid hown'
            clear hgrow hown' HOW
            go_wp2_with fail
            go_roundw
            case rel =>
              have h1 := HT.out
              subst h1
              refine ⟨_, rfl, tu_next (wv := -1) (c := 1) (zs := ys ++ [Value.int .i64 (k : Int)]) (m' := m + 1) HYS.out HML.out HXK.out HZK.out HWV.out HC.out (by go_num) rfl (by simp) (by simp) HX.out (by have e := HOW'.out; rw [show ((k + 1 : Nat) : Int) - 1 = k by omega] at e; exact e)⟩
            case measure => simp [intOf] <;> omega
          · go_wp2_with fail
            go_roundw
            case rel =>
              have h1 := HT.out
              subst h1
              refine ⟨_, rfl, tu_next (wv := -1) (c := -1) HYS.out HML.out HXK.out HZK.out HWV.out HC.out (by go_num) rfl (by simp) (by simp) HX.out (HOW.out)⟩
            case measure => simp [intOf] <;> omega

      · have HE := Lib.hid (show k = xs.length - 1 by omega)
        go_wp2_with fail
        go_ret2
        refine owns_R (zs := turnsTo n g xs (xs.length - 1)) (b := true) HR.out (owns_out HX.out ?_)
        rw [← HE.out, HML.out, HYS.out]
        exact HOW.out
set_option maxHeartbeats 3200000 in
set_option maxRecDepth 20000 in
theorem impl_TurnTimes (n : Int) (g : Bool) (v : Value) (xs : List Int) (w : World) (hv : ReadsI w v xs) :
    Calls Try.prog 14 #[rd n g, v] w (OwnsB w.heap.size (turnsR n g xs).1 (turnsR n g xs).2 w) := by
  obtain ⟨i0, hi, hz0, hz1, hz2⟩ := info_parts infoInt
  have HWA := Lib.hid (fun a b w hn ha => headingOf_any n g a b w hn ha)
  have HX0 := Lib.hid (Boxed.first w n g 25)
  have HV := Lib.hid hv
  have HVB := Lib.hid (hv.below (below_new w (.cells #[.int .i64 n, .bool g] 25)))
  have HO0 := Lib.hid (made_at (w.alloc (.cells #[.int .i64 n, .bool g] 25)) (w.heap.size + 1) (w.heap.size + 1) (by simp) (Nat.le_refl _))
  obtain ⟨y, c, hvv, hc, hm, hx⟩ := hv
  subst hvv
  unfold maxLen at hm
  have HL := Lib.hid hx
  clear hx
  have HW := Lib.hid (fun v w hv => areWalks_one n g v xs w hv)
  unfold rd at *
  go_enter Try.func14, Try.ntmps14
  go_wp2_with fail
  refine (HW.out _ _ (one_list_at (HVB.out.below (below_new _ _)) _ (by simp))).mono ?_
  rintro e w1 ⟨rfl, hb⟩
  have HX := Lib.hid (((HX0.out.next (below_new _ _)).next (below_new _ _)).next hb)
  have HO := Lib.hid (owns_below (owns_below HO0.out (below_new _ _)) hb)
  clear hb HX0 HO0
  cases hw : walkD n g xs
  · have HR := Lib.hid (show turnsR n g xs = ([], false) from if_neg (by rw [hw]; simp))
    clear hw
    go_wp2_with fail
    go_ret2
    exact owns_R (zs := []) (b := false) HR.out (owns_out HX.out HO.out)
  · have hwk := (walkD_iff n g xs).1 hw
    have HR := Lib.hid (show turnsR n g xs = (turnsTo n g xs (xs.length - 1), true) from if_pos hw)
    have hn := (roadB_iff n g).1 hwk.1
    have hl1 := hwk.2.1
    have hl61 := hwk.2.2.1
    have HWK := Lib.hid hwk
    have HN : Hid (2 ≤ n ∧ n ≤ 24) := Lib.hid ⟨hn.1, hn.2.1⟩
    clear hwk hn hw
    go_wp2_with fail
    go_loopw [6, 7, 8, 9] (fun v lv bv i wr => ∃ c : Int, StI c lv bv ∧ TuRel n g xs w.heap.size w v i c wr) (fun _ _ _ i _ => xs.length - (intOf i).toNat)
    case atStart => exact ⟨0, .inl ⟨rfl, rfl, rfl⟩, HX.out, 0, hl1, rfl, rfl, HO.out⟩
    case round =>
      obtain ⟨c, hst, hx, k, hk, rfl, hcame, hown⟩ := hrel
      clear HX HO
      have HX := Lib.hid hx
      have HC := Lib.hid hcame
      have hc3 := came_three n g xs k
      rw [← hcame] at hc3
      have htl := turns_len n g xs k
      generalize hys : (turnsTo n g xs k).map iv = ys at hown
      generalize hml : (turnsTo n g xs k).length = m at hown htl
      have HYS := Lib.hid hys
      have HML := Lib.hid hml
      have HOW := Lib.hid hown
      clear hx hown hys hml hcame
      by_cases hlt : k + 1 < xs.length
      · obtain ⟨x, hxk⟩ := get_some (xs := xs) (k := k) (by omega)
        obtain ⟨z, hzk⟩ := get_some hlt
        obtain ⟨b, o, rfl, hbl, hcx0⟩ := HL.out k x hxk
        obtain ⟨b', o', e, _, hcz0⟩ := HL.out (k + 1) z hzk
        cases e
        have hw3 := way_three n g x z
        have HXK := Lib.hid hxk
        have HZK := Lib.hid hzk
        have HHW := Lib.hid (head_way HWK.out.1 (HWK.out.2.2.2.1 k x hxk) (HWK.out.2.2.2.1 (k + 1) z hzk) (HWK.out.2.2.2.2 k x z hxk hzk))
        have HCA := Lib.hid (HWA.out x z · HN.out (HWK.out.2.2.2.1 k x hxk))
        have hcx : wr.cell? ⟨b, o + (k + 1 - 1), none⟩ = some (.int .i64 x) := (HX.out.below.cell (p := ⟨b, o + k, none⟩) hbl).trans hcx0
        have hcz : wr.cell? ⟨b, o + (k + 1), none⟩ = some (.int .i64 z) := (HX.out.below.cell (p := ⟨b, o + (k + 1), none⟩) hbl).trans hcz0
        have hmb : m + 1 ≤ 61 := by omega
        clear hcx0 hcz0 hxk hzk
        generalize hT : k + 1 = t at *
        have hi0 : 0 ≤ (t : Int) := by omega
        have hi1 : (t : Int) < xs.length := by omega
        have hi2 : 0 ≤ (t : Int) - 1 := by omega
        have hi3 : (t : Int) - 1 < xs.length := by omega
        have hi4 : 1 ≤ (t : Int) := by omega
        have hi5 : (t : Int) < xs.length + 1 := by omega
        have HT := Lib.hid hT
        clear hT
        have hw1 : IntKind.i64.wrap ((t : Int) - 1) = (t : Int) - 1 := IntWalk.i64_in _ (by omega)
        have HW1 := Lib.hid hw1
        clear hw1
        go_wp2_with fail
        have hw1 := HW1.out
        go_region_held3 (fun w' => Boxed w.heap.size n g w w' ∧ w'.cell? ⟨w.heap.size, 0, none⟩ = some (.int .i64 n) ∧ w'.cell? ⟨w.heap.size, 1, none⟩ = some (.bool g) ∧ w'.cell? ⟨b, o + (t - 1), none⟩ = some (.int .i64 x) ∧ w'.cell? ⟨b, o + t, none⟩ = some (.int .i64 z)) (first | exact hS | exact keep4_new HX.out hcx hcz) (first | (go_at_call 49; refine (HCA.out _).mono ?_; rintro e w2 ⟨rfl, hb⟩; have hS : Keep4 w.heap.size n g b (o + (t - 1)) (o + t) (.int .i64 x) (.int .i64 z) w w2 := keep4 (by assumption) hbl hb; have hO := owns_below (w := wr.drew) (owns_below HOW.out (below_drewN _ 1)) hb; clear hb))
        clear hw1 hcx hcz
        have HX := Lib.hid hS.1
        have HOW := Lib.hid hO
        clear hS hO
        rw [HHW.out]
        generalize hwv : wayI n g x z = wv at *
        have HWV := Lib.hid hwv
        clear hwv HHW
        rcases hw3 with rfl | rfl | rfl
        · go_wp2_with fail
          go_roundw
          case rel =>
            have h1 := HT.out
            subst h1
            refine ⟨_, hst, tu_next (wv := 0) (c := c) HYS.out HML.out HXK.out HZK.out HWV.out HC.out (by go_num) rfl (by simp) (by simp) HX.out (HOW.out)⟩
          case measure => simp [intOf] <;> omega
        · rcases hst with ⟨rfl, rfl, rfl⟩ | ⟨rfl, rfl, rfl⟩ | ⟨rfl, rfl, rfl⟩
          · go_wp2_with fail
            go_roundw
            case rel =>
              have h1 := HT.out
              subst h1
              refine ⟨_, .inr (.inl ⟨rfl, rfl, rfl⟩), tu_next (wv := 1) (c := 0) HYS.out HML.out HXK.out HZK.out HWV.out HC.out (by go_num) rfl (by simp) (by simp) HX.out (HOW.out)⟩
            case measure => simp [intOf] <;> omega
          · go_wp2_with fail
            go_roundw
            case rel =>
              have h1 := HT.out
              subst h1
              refine ⟨_, .inr (.inl ⟨rfl, rfl, rfl⟩), tu_next (wv := 1) (c := 1) HYS.out HML.out HXK.out HZK.out HWV.out HC.out (by go_num) rfl (by simp) (by simp) HX.out (HOW.out)⟩
            case measure => simp [intOf] <;> omega
          · go_wp2_with (at_builtin; refine wpList_append_own _ rfl _ _ 26 rfl (w.heap.size + 1) 3 i0 (.int .i64 0) 1 8 Try.underlying26 hi hz0 hz1 hz2 rfl (by decide) _ _ _ rfl (HOW.out.alloc _) ⟨w2.heap.size, 0, none⟩ 1 1 [.int .i64 ((t : Int) - 1)] rfl rfl (cell_one_new _ _ _) ?cbc2 ?cbc3 ?cbc4 ?cbc5 ?_)
            case cbc2 => first | (intro u hu; simp at hu; subst hu; rfl) | rfl
            case cbc3 => unfold maxLen; omega
            case cbc4 => omega
            case cbc5 => have := HX.out.size; simp; omega
            intro v' w9 hown' hgrow _
            have HX := Lib.hid (boxed_append HX.out hgrow (fun b hb => (owns_block HOW.out b hb).1))
            have HOW' := Lib.hid hown'
            clear hgrow hown' HOW
            go_wp2_with fail
            go_roundw
            case rel =>
              have h1 := HT.out
              subst h1
              refine ⟨_, .inr (.inl ⟨rfl, rfl, rfl⟩), tu_next (wv := 1) (c := -1) (zs := ys ++ [Value.int .i64 (k : Int)]) (m' := m + 1) HYS.out HML.out HXK.out HZK.out HWV.out HC.out (by go_num) rfl (by simp) (by simp) HX.out (by have e := HOW'.out; rw [show ((k + 1 : Nat) : Int) - 1 = k by omega] at e; exact e)⟩
            case measure => simp [intOf] <;> omega
        · rcases hst with ⟨rfl, rfl, rfl⟩ | ⟨rfl, rfl, rfl⟩ | ⟨rfl, rfl, rfl⟩
          · go_wp2_with fail
            go_roundw
            case rel =>
              have h1 := HT.out
              subst h1
              refine ⟨_, .inr (.inr ⟨rfl, rfl, rfl⟩), tu_next (wv := -1) (c := 0) HYS.out HML.out HXK.out HZK.out HWV.out HC.out (by go_num) rfl (by simp) (by simp) HX.out (HOW.out)⟩
            case measure => simp [intOf] <;> omega
          · go_wp2_with (at_builtin; refine wpList_append_own _ rfl _ _ 26 rfl (w.heap.size + 1) 3 i0 (.int .i64 0) 1 8 Try.underlying26 hi hz0 hz1 hz2 rfl (by decide) _ _ _ rfl (HOW.out.alloc _) ⟨w2.heap.size, 0, none⟩ 1 1 [.int .i64 ((t : Int) - 1)] rfl rfl (cell_one_new _ _ _) ?ccb2 ?ccb3 ?ccb4 ?ccb5 ?_)
            case ccb2 => first | (intro u hu; simp at hu; subst hu; rfl) | rfl
            case ccb3 => unfold maxLen; omega
            case ccb4 => omega
            case ccb5 => have := HX.out.size; simp; omega
            intro v' w9 hown' hgrow _
            have HX := Lib.hid (boxed_append HX.out hgrow (fun b hb => (owns_block HOW.out b hb).1))
            have HOW' := Lib.hid hown'
            clear hgrow hown' HOW
            go_wp2_with fail
            go_roundw
            case rel =>
              have h1 := HT.out
              subst h1
              refine ⟨_, .inr (.inr ⟨rfl, rfl, rfl⟩), tu_next (wv := -1) (c := 1) (zs := ys ++ [Value.int .i64 (k : Int)]) (m' := m + 1) HYS.out HML.out HXK.out HZK.out HWV.out HC.out (by go_num) rfl (by simp) (by simp) HX.out (by have e := HOW'.out; rw [show ((k + 1 : Nat) : Int) - 1 = k by omega] at e; exact e)⟩
            case measure => simp [intOf] <;> omega
          · go_wp2_with fail
            go_roundw
            case rel =>
              have h1 := HT.out
              subst h1
              refine ⟨_, .inr (.inr ⟨rfl, rfl, rfl⟩), tu_next (wv := -1) (c := -1) HYS.out HML.out HXK.out HZK.out HWV.out HC.out (by go_num) rfl (by simp) (by simp) HX.out (HOW.out)⟩
            case measure => simp [intOf] <;> omega

      · have HE := Lib.hid (show k = xs.length - 1 by omega)
        go_wp2_with fail
        go_ret2
        refine owns_R (zs := turnsTo n g xs (xs.length - 1)) (b := true) HR.out (owns_out HX.out ?_)
        rw [← HE.out, HML.out, HYS.out]
        exact HOW.out
end Go.Proofs.Ytiokgnabiidlbaa
