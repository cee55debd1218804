/-
  What is proved: the contracts of LeaveTimes and WorstLeave, the model's and the program's. Conditions: tables that read as lists of lists of numbers.
-/
import Derived.Test.YtijhbhjapcfddaaExi
import Derived.Test.YtijhbhjapcfddaaFn7
namespace Go.Proofs.Ytijhbhjapcfddaa
open Go.RowKit
set_option linter.unusedVariables false
set_option linter.unusedSimpArgs false

/-- the leave times of all places -/
def leavesL (n : Int) (g : Bool) (xss : List (List Int)) : List Int := (upTo n).map (leaveV n g xss)
theorem leavesL_len (n : Int) (g : Bool) (xss : List (List Int)) : (leavesL n g xss).length = n.toNat := by simp [leavesL, upTo_len]
theorem leavesL_at (n : Int) (g : Bool) (xss : List (List Int)) (k : Nat) (h : k < n.toNat) : (leavesL n g xss)[k]? = some (leaveV n g xss k) := by simp [leavesL, upTo_at n k h]
theorem leavesL_mem {n : Int} {g : Bool} {xss : List (List Int)} {x : Int} (h : x ∈ leavesL n g xss) : ∃ k : Nat, k < n.toNat ∧ x = leaveV n g xss k := by
  obtain ⟨k, hk, he⟩ := List.getElem_of_mem h
  have hk2 : k < n.toNat := by rw [leavesL_len] at hk; exact hk
  have h1 := leavesL_at n g xss k hk2
  rw [List.getElem?_eq_getElem hk, he] at h1
  exact ⟨k, hk2, Option.some.inj h1⟩
/-- what LeaveTimes answers -/
noncomputable def leavesR (n : Int) (g : Bool) (xss : List (List Int)) : List Int × Bool := if leavB n g xss then (leavesL n g xss, true) else ([], false)
theorem leavesR_no {n : Int} {g : Bool} {xss : List (List Int)} (h : leavB n g xss = false) : leavesR n g xss = ([], false) := by unfold leavesR; rw [h]; rfl
theorem leavesR_yes {n : Int} {g : Bool} {xss : List (List Int)} (h : leavB n g xss = true) : leavesR n g xss = (leavesL n g xss, true) := by unfold leavesR; rw [h]; rfl
theorem leavesR_len (n : Int) (g : Bool) (xss : List (List Int)) : (leavesR n g xss).1.length ≤ 1048576 := by
  cases h : leavB n g xss
  · rw [leavesR_no h]
    simp
  · rw [leavesR_yes h]
    have h2 := (roadB_iff n g).1 ((leavB_iff n g xss).1 h).2.1
    have h3 := leavesL_len n g xss
    show (leavesL n g xss).length ≤ 1048576
    omega
/-- what WorstLeave answers -/
noncomputable def wleaveR (n : Int) (g : Bool) (xss : List (List Int)) : Int × Bool := grtR (leavesR n g xss).1 (leavesR n g xss).2
set_option maxHeartbeats 1600000 in
set_option maxRecDepth 20000 in
theorem spec_LeaveTimes (n : Int) (g : Bool) (v : Value) (xss : List (List Int)) (w : World) (hv : ReadsL w v xss) :
    Calls Try.prog 43 #[rd n g, v] w (OwnsB w.heap.size (leavesR n g xss).1 (leavesR n g xss).2 w) := by
  obtain ⟨i0, hi, hz0, hz1, hz2⟩ := info_parts infoInt
  have HLV := Lib.hid (fun w hv => l6Leavers_any n g v xss w hv)
  have HLE := Lib.hid (fun p w hv hl hp => l6Leave_any n g v xss p w hv hl hp)
  have HX := Lib.hid ((Boxed.first w n g 27).next (below_new _ (.cells #[] 3)))
  have HO := Lib.hid (made_at (w.alloc (.cells #[.int .i64 n, .bool g] 27)) (w.heap.size + 1) (w.heap.size + 1) (by simp) (Nat.le_refl _))
  have HV := Lib.hid hv
  clear hv
  unfold rd at *
  go_enter Try.func43, Try.ntmps43
  go_wp2_with fail
  refine (HLV.out _ (HV.out.below HX.out.below)).mono ?_
  rintro e w1 ⟨rfl, hb⟩
  have HX := Lib.hid (HX.out.next hb)
  have HO := Lib.hid (owns_below HO.out hb)
  clear hb
  cases hf : leavB n g xss
  · have HR := Lib.hid (leavesR_no hf)
    clear hf
    go_wp2_with fail
    go_ret2
    exact owns_R HR.out (owns_out (zs := []) HX.out HO.out)
  · have HP := Lib.hid ((leavB_iff n g xss).1 hf)
    have hrr := (roadB_iff n g).1 HP.out.2.1
    have hn1 := hrr.1
    have hn2 := hrr.2.1
    have HR := Lib.hid (show leavesR n g xss = ((upTo n).map (leaveV n g xss), true) from leavesR_yes hf)
    have hul := upTo_len n
    clear hf hrr
    go_wp2_with fail
    go_loopw [6, 7] (fun v i wr => LRel n g (upTo n) (leaveV n g xss) w.heap.size w v i wr) (fun _ i _ => n.toNat - (intOf i).toNat)
    case atStart => exact ⟨HX.out, 0, Nat.zero_le _, rfl, HO.out⟩
    case round =>
      obtain ⟨hx9, k, hk, rfl, hown⟩ := hrel
      clear HX HO
      have HX := Lib.hid hx9
      clear hx9
      generalize hys : (((upTo n).take k).map (leaveV n g xss)).map iv = ys at hown
      have HYS := Lib.hid hys
      have HOW := Lib.hid hown
      clear hown hys
      have h0 := HX.out.c0
      have h1 := HX.out.c1
      by_cases hlt : (k : Int) < n
      · have hxk := upTo_at n k (by omega)
        have HXK := Lib.hid hxk
        clear hxk
        go_wp2_with fail
        refine (HLE.out k _ (HV.out.below HX.out.below) HP.out (by omega)).mono ?_
        rintro e w2 ⟨rfl, hb⟩
        have HX := Lib.hid (HX.out.next hb)
        have HOW := Lib.hid (owns_below HOW.out hb)
        clear hb h0 h1
        go_wp2_with (at_builtin; refine wpList_append_own _ rfl _ _ 24 rfl (w.heap.size + 1) 3 i0 (.int .i64 0) 1 8 Try.underlying24 hi hz0 hz1 hz2 rfl (by decide) _ _ _ rfl (HOW.out.alloc _) ⟨w2.heap.size, 0, none⟩ 1 1 [.int .i64 (leaveV n g xss k)] rfl rfl (cell_one_new _ _ _) ?c2 ?c3 ?c4 ?c5 ?_)
        case c2 => intro u hu; simp at hu; subst hu; rfl
        case c3 => unfold maxLen; omega
        case c4 => omega
        case c5 => have := HX.out.size; simp; omega
        intro v' w9 hown' hgrow _
        have HX := Lib.hid (boxed_append HX.out hgrow (fun b hb => (owns_block HOW.out b hb).1))
        have HOW' := Lib.hid hown'
        clear hgrow hown' HOW
        go_wp2_with fail
        go_roundw
        case rel => exact lrel_next2 (f := leaveV n g xss) HYS.out HXK.out (by go_num) HX.out HOW'.out
        case measure => simp [intOf] <;> omega
      · have HE := Lib.hid (show k = (upTo n).length by omega)
        go_wp2_with fail
        go_ret2
        exact owns_R HR.out (lrel_end (xs := upTo n) (f := leaveV n g xss) HE.out HX.out (by rw [HYS.out]; exact HOW.out))
set_option maxHeartbeats 1600000 in
set_option maxRecDepth 20000 in
theorem impl_LeaveTimes (n : Int) (g : Bool) (v : Value) (xss : List (List Int)) (w : World) (hv : ReadsL w v xss) :
    Calls Try.prog 45 #[rd n g, v] w (OwnsB w.heap.size (leavesR n g xss).1 (leavesR n g xss).2 w) := by
  obtain ⟨i0, hi, hz0, hz1, hz2⟩ := info_parts infoInt
  have HAW := Lib.hid (fun w hv => areWalks_any n g v xss w hv)
  have HLE := Lib.hid (fun p w hv hl hp => leaveTime_any n g v xss p w hv hl hp)
  have HX := Lib.hid ((Boxed.first w n g 27).next (below_new _ (.cells #[] 3)))
  have HO := Lib.hid (made_at (w.alloc (.cells #[.int .i64 n, .bool g] 27)) (w.heap.size + 1) (w.heap.size + 1) (by simp) (Nat.le_refl _))
  have HV := Lib.hid hv
  obtain ⟨y, c, hvv, hc, hm, hx⟩ := hv
  subst hvv
  unfold maxLen at hm
  clear hx
  unfold rd at *
  by_cases h0 : xss.length = 0
  · have HR := Lib.hid (leavesR_no (leavB_no (n := n) (g := g) (xss := xss) (fun h => by have := h.1; omega)))
    have hx0 : xss = [] := List.eq_nil_of_length_eq_zero h0
    subst hx0
    clear h0
    go_enter Try.func45, Try.ntmps45
    go_wp2_with fail
    go_ret2
    exact owns_R HR.out (owns_out (zs := []) HX.out HO.out)
  · have hne : xss ≠ [] := fun e => h0 (by rw [e]; rfl)
    have h2 : ¬ (xss.length : Int) = 0 := by omega
    have h3 : ((xss.length : Int) == 0) = false := by simpa using hne
    by_cases h4 : 4 < xss.length
    · have h4i : (4 : Int) < xss.length := by omega
      have HR := Lib.hid (leavesR_no (leavB_no (n := n) (g := g) (xss := xss) (fun h => by have := h.1; omega)))
      go_enter Try.func45, Try.ntmps45
      go_wp2_with fail
      go_ret2
      exact owns_R HR.out (owns_out (zs := []) HX.out HO.out)
    · have h4i : ¬ (4 : Int) < xss.length := by omega
      have HLL := Lib.hid (show 1 ≤ xss.length ∧ xss.length ≤ 4 by omega)
      go_enter Try.func45, Try.ntmps45
      go_wp2_with fail
      refine (HAW.out _ (HV.out.below HX.out.below)).mono ?_
      rintro e w1 ⟨bb, rfl, hbb, hb⟩
      have HX := Lib.hid (HX.out.next hb)
      have HO := Lib.hid (owns_below HO.out hb)
      clear hb
      cases bb
      · have HR := Lib.hid (leavesR_no (leavB_no (n := n) (g := g) (xss := xss) (fun h => by have := hbb.2 h.2; cases this)))
        clear hbb
        go_wp2_with fail
        go_ret2
        exact owns_R HR.out (owns_out (zs := []) HX.out HO.out)
      · have HP : Hid (LeavP n g xss) := Lib.hid ⟨HLL.out, hbb.1 rfl⟩
        have hrr := (roadB_iff n g).1 HP.out.2.1
        have hn1 := hrr.1
        have hn2 := hrr.2.1
        have HR := Lib.hid (show leavesR n g xss = ((upTo n).map (leaveV n g xss), true) from leavesR_yes ((leavB_iff n g xss).2 HP.out))
        have hul := upTo_len n
        have h0 := HX.out.c0
        clear hbb hrr
        go_wp2_with fail
        go_loopw [6, 26] (fun v i wr => LRel n g (upTo n) (leaveV n g xss) w.heap.size w v i wr) (fun _ i _ => n.toNat - (intOf i).toNat)
        case atStart => exact ⟨HX.out, 0, Nat.zero_le _, rfl, HO.out⟩
        case round =>
          obtain ⟨hx9, k, hk, rfl, hown⟩ := hrel
          clear HX HO h0
          have HX := Lib.hid hx9
          clear hx9
          generalize hys : (((upTo n).take k).map (leaveV n g xss)).map iv = ys at hown
          have HYS := Lib.hid hys
          have HOW := Lib.hid hown
          clear hown hys
          have h0 := HX.out.c0
          have h1 := HX.out.c1
          by_cases hlt : (k : Int) < n
          · have hxk := upTo_at n k (by omega)
            have HXK := Lib.hid hxk
            clear hxk
            go_wp2_with fail
            refine (HLE.out k _ (HV.out.below HX.out.below) HP.out (by omega)).mono ?_
            rintro e w2 ⟨rfl, hb⟩
            have HX := Lib.hid (HX.out.next hb)
            have HOW := Lib.hid (owns_below HOW.out hb)
            clear hb h0 h1
            go_wp2_with (at_builtin; refine wpList_append_own _ rfl _ _ 24 rfl (w.heap.size + 1) 3 i0 (.int .i64 0) 1 8 Try.underlying24 hi hz0 hz1 hz2 rfl (by decide) _ _ _ rfl (HOW.out.alloc _) ⟨w2.heap.size, 0, none⟩ 1 1 [.int .i64 (leaveV n g xss k)] rfl rfl (cell_one_new _ _ _) ?c2 ?c3 ?c4 ?c5 ?_)
            case c2 => intro u hu; simp at hu; subst hu; rfl
            case c3 => unfold maxLen; omega
            case c4 => omega
            case c5 => have := HX.out.size; simp; omega
            intro v' w9 hown' hgrow _
            have HX := Lib.hid (boxed_append HX.out hgrow (fun b hb => (owns_block HOW.out b hb).1))
            have HOW' := Lib.hid hown'
            clear hgrow hown' HOW
            go_wp2_with fail
            go_roundw
            case rel => exact lrel_next2 (f := leaveV n g xss) HYS.out HXK.out (by go_num) HX.out HOW'.out
            case measure => simp [intOf] <;> omega
          · have HE := Lib.hid (show k = (upTo n).length by omega)
            go_wp2_with fail
            go_ret2
            exact owns_R HR.out (lrel_end (xs := upTo n) (f := leaveV n g xss) HE.out HX.out (by rw [HYS.out]; exact HOW.out))
theorem wleave_neg {n : Int} {g : Bool} {xss : List (List Int)} {k : Nat} (h : LeavP n g xss) (hk : (k : Int) < n) (hneg : leaveV n g xss k < 0) : wleaveR n g xss = (0, false) := by
  have hm : (-1 : Int) ∈ leavesL n g xss := by
    have h1 := leaveV_ge (p := (k : Int)) h (by omega)
    have h2 := List.mem_of_getElem? (leavesL_at n g xss k (by omega))
    rwa [show leaveV n g xss k = -1 by omega] at h2
  unfold wleaveR
  rw [leavesR_yes ((leavB_iff n g xss).2 h)]
  exact grtR_neg hm
theorem wleave_all {n : Int} {g : Bool} {xss : List (List Int)} (h : LeavP n g xss) (hn : 2 ≤ n) (hp : ∀ j : Nat, j < n.toNat → 0 ≤ leaveV n g xss j) : wleaveR n g xss = (maxTo 0 (leavesL n g xss) n.toNat, true) := by
  unfold wleaveR
  rw [leavesR_yes ((leavB_iff n g xss).2 h)]
  have hl := leavesL_len n g xss
  have e := grtR_yes (xs := leavesL n g xss) (fun hm => by
    obtain ⟨k, hk, he⟩ := leavesL_mem hm
    have := hp k hk
    omega) (fun x hx => by
    obtain ⟨k, hk, he⟩ := leavesL_mem hx
    have := hp k hk
    omega) (by omega)
  rw [hl] at e
  exact e
set_option maxHeartbeats 1600000 in
theorem spec_WorstLeave (n : Int) (g : Bool) (v : Value) (xss : List (List Int)) (w : World) (hv : ReadsL w v xss) :
    Calls Try.prog 48 #[rd n g, v] w fun e w' => e = .returned (.tuple #[.int .i64 (wleaveR n g xss).1, .bool (wleaveR n g xss).2]) ∧ Below w.heap.size w w' := by
  have HLV := Lib.hid (fun w hv => l6Leavers_any n g v xss w hv)
  have HLE := Lib.hid (fun p w hv hl hp => l6Leave_any n g v xss p w hv hl hp)
  have HMO := Lib.hid (fun a b w => l1Most_any a b w)
  have HX := Lib.hid (Boxed.first w n g 27)
  have HV := Lib.hid hv
  clear hv
  unfold rd at *
  go_enter Try.func48, Try.ntmps48
  go_wp2_with fail
  refine (HLV.out _ (HV.out.below HX.out.below)).mono ?_
  rintro e w1 ⟨rfl, hb⟩
  have HX := Lib.hid (HX.out.next hb)
  clear hb
  cases hf : leavB n g xss
  · have HR := Lib.hid (show wleaveR n g xss = (0, false) by unfold wleaveR; rw [leavesR_no hf]; exact grtR_no)
    clear hf
    go_wp2_with fail
    go_ret2
    exact ⟨ret_R HR.out, HX.out.below⟩
  · have HP := Lib.hid ((leavB_iff n g xss).1 hf)
    have hrr := (roadB_iff n g).1 HP.out.2.1
    have hn1 := hrr.1
    have hn2 := hrr.2.1
    clear hf hrr
    go_wp2_with fail
    go_loopw [4, 5, 6, 7] (fun r s m i wr => r = .int .i64 0 ∧ s = .bool false ∧ ∃ k : Nat, (k : Int) ≤ n ∧ i = .int .i64 k ∧ m = .int .i64 (maxTo 0 (leavesL n g xss) k) ∧ Boxed w.heap.size n g w wr ∧ ∀ j : Nat, j < k → 0 ≤ leaveV n g xss j) (fun _ _ _ i _ => n.toNat - (intOf i).toNat)
    case atStart => exact ⟨rfl, rfl, 0, by omega, rfl, rfl, HX.out, fun j hj => by omega⟩
    case round =>
      obtain ⟨rfl, rfl, k, hk, rfl, rfl, hx, hpre⟩ := hrel
      clear HX
      have HX := Lib.hid hx
      have HPR := Lib.hid hpre
      have h0 := HX.out.c0
      have h1 := HX.out.c1
      clear hx hpre
      by_cases hlt : (k : Int) < n
      · have HNK := Lib.hid (show maxTo 0 (leavesL n g xss) (k + 1) = max (maxTo 0 (leavesL n g xss) k) (leaveV n g xss k) by
          show max (maxTo 0 (leavesL n g xss) k) ((leavesL n g xss).getD k 0) = _
          simp [List.getD, leavesL_at n g xss k (by omega)])
        have HNG := Lib.hid (fun h => wleave_neg (k := k) HP.out hlt h)
        generalize maxTo 0 (leavesL n g xss) k = m at *
        go_wp2_with fail
        refine (HLE.out k _ (HV.out.below HX.out.below) HP.out (by omega)).mono ?_
        rintro e w2 ⟨rfl, hb⟩
        have HX := Lib.hid (HX.out.next hb)
        clear hb h0 h1
        generalize htt : leaveV n g xss k = t at *
        have HTT := Lib.hid htt
        clear htt
        by_cases ht : t < 0
        · have HR := Lib.hid (HNG.out ht)
          go_wp2_with fail
          go_ret2
          exact ⟨ret_R HR.out, HX.out.below⟩
        · go_wp2_with fail
          refine (HMO.out _ _ _).mono ?_
          rintro e w3 ⟨rfl, rfl⟩
          go_wp2_with fail
          go_roundw
          case rel =>
            refine ⟨rfl, rfl, k + 1, by omega, by go_num, by rw [HNK.out], HX.out, fun j hj => ?_⟩
            rcases Nat.lt_succ_iff_lt_or_eq.1 hj with hj | rfl
            · exact HPR.out j hj
            · rw [HTT.out]
              omega
          case measure => simp [intOf] <;> omega
      · have HE := Lib.hid (show k = n.toNat by omega)
        have HR := Lib.hid (wleave_all HP.out hn1 (fun j hj => HPR.out j (by omega)))
        go_wp2_with fail
        go_ret2
        exact ⟨ret_R (by rw [HR.out, HE.out]), HX.out.below⟩
set_option maxHeartbeats 800000 in
theorem impl_WorstLeave (n : Int) (g : Bool) (v : Value) (xss : List (List Int)) (w : World) (hv : ReadsL w v xss) :
    Calls Try.prog 49 #[rd n g, v] w fun e w' => e = .returned (.tuple #[.int .i64 (wleaveR n g xss).1, .bool (wleaveR n g xss).2]) ∧ Below w.heap.size w w' := by
  have HFV := Lib.hid (fun w hv => impl_LeaveTimes n g v xss w hv)
  have HGR := Lib.hid (fun v w hv hl => greatest_any v (leavesR n g xss).1 (leavesR n g xss).2 w hv hl)
  have HX0 := Lib.hid (Boxed.first w n g 27)
  have HVB := Lib.hid (hv.below (below_new w (.cells #[.int .i64 n, .bool g] 27)))
  have HEQ := Lib.hid (show wleaveR n g xss = grtR (leavesR n g xss).1 (leavesR n g xss).2 from rfl)
  have HLN := Lib.hid (leavesR_len n g xss)
  have HL1 : Hid ((leavesR n g xss).2 = true → 1 ≤ (leavesR n g xss).1.length) := Lib.hid (by
    cases h : leavB n g xss
    · rw [leavesR_no h]
      intro h
      cases h
    · rw [leavesR_yes h]
      have hn := (roadB_iff n g).1 ((leavB_iff n g xss).1 h).2.1
      have hfl := leavesL_len n g xss
      intro _
      show 1 ≤ (leavesL n g xss).length
      omega)
  clear hv
  generalize leavesR n g xss = R at *
  obtain ⟨zs, b⟩ := R
  unfold rd at *
  go_enter Try.func49, Try.ntmps49
  go_wp2_with fail
  refine (HFV.out _ HVB.out).mono ?_
  rintro e w1 ⟨u, rfl, ho, hb⟩
  have HX := Lib.hid (HX0.out.next hb)
  have HO := Lib.hid ho
  clear hb HX0 ho
  go_wp2_with fail
  refine (HGR.out u _ (owns_reads HO.out (by have h9 := HLN.out; unfold maxLen; omega)) HL1.out).mono ?_
  rintro e w2 ⟨rfl, rfl⟩
  go_wp2_with fail
  go_ret2
  exact ⟨ret_R HEQ.out, HX.out.below⟩
end Go.Proofs.Ytijhbhjapcfddaa
