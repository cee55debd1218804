/-
  What is proved: the contracts of the model's and the program's runs of places: l6Fits, isRun, l6Run and RunPlaces. Conditions: those of each contract.
-/
import Derived.Test.YtijhbhjapcfddaaExc
import Derived.Test.YtijhbhjapcfddaaFn1
import Derived.Test.YtijhbhjapcfddaaMec
namespace Go.Proofs.Ytijhbhjapcfddaa
open Go.RowKit
set_option linter.unusedVariables false
set_option linter.unusedSimpArgs false

set_option maxHeartbeats 800000 in
theorem l6Fits_any (n : Int) (g : Bool) (x m : Int) (w : World) :
    Calls Try.prog 65 #[rd n g, .int .i64 x, .int .i64 m] w fun e w' => e = .returned (.bool (fitsB n g x m)) ∧ Below w.heap.size w w' := by
  have HP := Lib.hid (fun w => l2Place_any n g x w)
  have HIN := Lib.hid (fun w => inB_any m 0 n w)
  have HX := Lib.hid (Boxed.first w n g 27)
  unfold rd at *
  go_enter Try.func65, Try.ntmps65
  go_wp2_with fail
  refine (HP.out _).mono ?_
  rintro e w1 ⟨rfl, hb⟩
  have HX := Lib.hid (HX.out.next hb)
  have h0 := HX.out.c0
  have h1 := HX.out.c1
  clear hb
  cases hp : placeB n g x
  · have HR := Lib.hid (fitsB_no (n := n) (g := g) (x := x) (m := m) (fun h => by rw [hp] at h; cases h.1))
    clear hp
    go_wp2_with fail
    go_ret
    exact ⟨ret_bool HR.out.symm, HX.out.below⟩
  · have hpp := (placeB_iff n g x).1 hp
    have hn2 := ((roadB_iff n g).1 hpp.1).2.1
    have hx := hpp.2
    have HPB := Lib.hid hp
    clear hpp hp
    go_wp2_with fail
    refine (HIN.out _).mono ?_
    rintro e w2 ⟨rfl, rfl⟩
    cases hi : inB 0 n m
    · have HR := Lib.hid (fitsB_no (n := n) (g := g) (x := x) (m := m) (fun h => by have h2 := (inB_iff 0 n m).2 ⟨h.2.1, h.2.2.1⟩; rw [hi] at h2; cases h2))
      clear hi
      go_wp2_with fail
      go_ret
      exact ⟨ret_bool HR.out.symm, HX.out.below⟩
    · have hmm := (inB_iff 0 n m).1 hi
      have HMM := Lib.hid hmm
      clear hi
      cases g
      · by_cases hf : x + m ≤ n
        · have HR := Lib.hid ((fitsB_iff n false x m).2 ⟨HPB.out, HMM.out.1, HMM.out.2, Or.inr hf⟩)
          go_wp2_with fail
          go_ret
          exact ⟨ret_bool (by rw [HR.out]), HX.out.below⟩
        · have HR := Lib.hid (fitsB_no (n := n) (g := false) (x := x) (m := m) (fun h => by rcases h.2.2.2 with h2 | h2; cases h2; exact hf h2))
          go_wp2_with fail
          go_ret
          exact ⟨ret_bool (by rw [HR.out]; exact decide_eq_false (by omega)), HX.out.below⟩
      · have HR := Lib.hid ((fitsB_iff n true x m).2 ⟨HPB.out, HMM.out.1, HMM.out.2, Or.inl rfl⟩)
        go_wp2_with fail
        go_ret
        exact ⟨ret_bool HR.out.symm, HX.out.below⟩
theorem ints_one_kk {w : World} {a : Int} {t : TypeId} (k : Nat) (hk : w.heap.size = k) : ReadsI (w.alloc (.cells #[.int .i64 a] t)) (.slice (some ⟨k, 0, none⟩) 1 1) [a] := by
  subst hk
  refine ⟨_, 1, rfl, Nat.le_refl _, by simp [maxLen], fun j x hj => ?_⟩
  match j, hj with
  | 0, hj =>
    cases hj
    exact ⟨_, 0, rfl, by simp, by rw [cell_new]; rfl⟩
set_option maxHeartbeats 800000 in
theorem isRun_any (n : Int) (g : Bool) (x m : Int) (w : World) :
    Calls Try.prog 67 #[rd n g, .int .i64 x, .int .i64 m] w fun e w' => e = .returned (.bool (fitsB n g x m)) ∧ Below w.heap.size w w' := by
  have HP := Lib.hid (fun v w hv => arePlaces_one n g x v w hv)
  have HX := Lib.hid (Boxed.first w n g 27)
  unfold rd at *
  go_enter Try.func67, Try.ntmps67
  go_wp2_with fail
  refine (HP.out _ _ (ints_one_kk _ (by simp))).mono ?_
  rintro e w1 ⟨rfl, hb⟩
  have HX := Lib.hid ((HX.out.next (below_new _ _)).next hb)
  have h0 := HX.out.c0
  have h1 := HX.out.c1
  clear hb
  cases hp : placeB n g x
  · have HR := Lib.hid (fitsB_no (n := n) (g := g) (x := x) (m := m) (fun h => by rw [hp] at h; cases h.1))
    clear hp
    go_wp2_with fail
    go_ret
    exact ⟨ret_bool HR.out.symm, HX.out.below⟩
  · have hpp := (placeB_iff n g x).1 hp
    have hn2 := ((roadB_iff n g).1 hpp.1).2.1
    have hx := hpp.2
    have HPB := Lib.hid hp
    clear hpp hp
    by_cases hm0 : 0 ≤ m
    · by_cases hmn : m ≤ n
      · cases g
        · by_cases hf : x + m ≤ n
          · have HR := Lib.hid ((fitsB_iff n false x m).2 ⟨HPB.out, hm0, hmn, Or.inr hf⟩)
            go_wp2_with fail
            go_ret
            exact ⟨ret_bool (by rw [HR.out]), HX.out.below⟩
          · have HR := Lib.hid (fitsB_no (n := n) (g := false) (x := x) (m := m) (fun h => by rcases h.2.2.2 with h2 | h2; cases h2; exact hf h2))
            go_wp2_with fail
            go_ret
            exact ⟨ret_bool (by rw [HR.out]; exact decide_eq_false (by omega)), HX.out.below⟩
        · have HR := Lib.hid ((fitsB_iff n true x m).2 ⟨HPB.out, hm0, hmn, Or.inl rfl⟩)
          go_wp2_with fail
          go_ret
          exact ⟨ret_bool HR.out.symm, HX.out.below⟩
      · have HR := Lib.hid (fitsB_no (n := n) (g := g) (x := x) (m := m) (fun h => hmn h.2.2.1))
        go_wp2_with fail
        go_ret
        exact ⟨ret_bool HR.out.symm, HX.out.below⟩
    · have HR := Lib.hid (fitsB_no (n := n) (g := g) (x := x) (m := m) (fun h => hm0 h.2.1))
      go_wp2_with fail
      go_ret
      exact ⟨ret_bool HR.out.symm, HX.out.below⟩
set_option maxHeartbeats 800000 in
set_option maxRecDepth 20000 in
theorem l6Run_any (n : Int) (g : Bool) (x m : Int) (w : World) (hn : 2 ≤ n ∧ n ≤ 24) (hx : 0 ≤ x ∧ x < n) (hm : 0 ≤ m ∧ m ≤ 24) :
    Calls Try.prog 66 #[rd n g, .int .i64 x, .int .i64 m] w (OwnsI w.heap.size (runL n x m) w) := by
  obtain ⟨i0, hi, hz0, hz1, hz2⟩ := info_parts infoInt
  have HX := Lib.hid ((Boxed.first w n g 27).next (below_new _ (.cells #[] 3)))
  have HO := Lib.hid (made_at (w.alloc (.cells #[.int .i64 n, .bool g] 27)) (w.heap.size + 1) (w.heap.size + 1) (by simp) (Nat.le_refl _))
  have hnz : n ≠ 0 := by omega
  have hul := upTo_len m
  unfold rd at *
  go_enter Try.func66, Try.ntmps66
  go_wp2_with fail
  go_loopw [7, 8] (fun v i wr => LRel n g (upTo m) (runF n x) w.heap.size w v i wr) (fun _ i _ => m.toNat - (intOf i).toNat)
  case atStart => exact ⟨HX.out, 0, Nat.zero_le _, rfl, HO.out⟩
  case round =>
    obtain ⟨hx9, k, hk, rfl, hown⟩ := hrel
    clear HX HO
    have HX := Lib.hid hx9
    clear hx9
    generalize hys : (((upTo m).take k).map (runF n x)).map iv = ys at hown
    have HYS := Lib.hid hys
    have HOW := Lib.hid hown
    clear hown hys
    have h0 := HX.out.c0
    by_cases hlt : (k : Int) < m
    · have hxk := upTo_at m k (by omega)
      have HXK := Lib.hid hxk
      have hsum : 0 ≤ x + (k : Int) := by omega
      have hrf : (x + (k : Int)) % n = runF n x k := rfl
      clear hxk
      go_wp2_with (at_builtin; refine wpList_append_own _ rfl _ _ 24 rfl (w.heap.size + 1) 3 i0 (.int .i64 0) 1 8 Try.underlying24 hi hz0 hz1 hz2 rfl (by decide) _ _ _ rfl (HOW.out.alloc _) ⟨wr.heap.size, 0, none⟩ 1 1 [.int .i64 (runF n x k)] rfl rfl (cell_one_new _ _ _) ?c2 ?c3 ?c4 ?c5 ?_)
      case c2 => intro u hu; simp at hu; subst hu; rfl
      case c3 => unfold maxLen; omega
      case c4 => omega
      case c5 => have := HX.out.size; simp; omega
      intro v' w9 hown' hgrow _
      have HX := Lib.hid (boxed_append HX.out hgrow (fun b hb => (owns_block HOW.out b hb).1))
      have HOW' := Lib.hid hown'
      clear hgrow hown' HOW h0
      go_wp2_with fail
      go_roundw
      case rel => exact lrel_next2 (f := runF n x) HYS.out HXK.out (by go_num) HX.out HOW'.out
      case measure => simp [intOf] <;> omega
    · have HE := Lib.hid (show k = (upTo m).length by omega)
      go_wp2_with fail
      go_ret
      exact lrel_endI (xs := upTo m) (f := runF n x) HE.out HX.out (by rw [HYS.out]; exact HOW.out)
/-- what RunPlaces answers -/
def runsR (n : Int) (g : Bool) (x m : Int) : List Int × Bool := if fitsB n g x m then (runL n x m, true) else ([], false)
theorem runsR_len (n : Int) (g : Bool) (x m : Int) : (runsR n g x m).1.length ≤ 1048576 := by
  unfold runsR
  cases hf : fitsB n g x m
  · simp
  · have h1 := (fitsB_iff n g x m).1 hf
    have h2 := (roadB_iff n g).1 ((placeB_iff n g x).1 h1.1).1
    have h3 := runL_len n x m
    simp only [if_true]
    omega
set_option maxHeartbeats 800000 in
set_option maxRecDepth 20000 in
theorem spec_RunPlaces (n : Int) (g : Bool) (x m : Int) (w : World) :
    Calls Try.prog 24 #[rd n g, .int .i64 x, .int .i64 m] w (OwnsB w.heap.size (runsR n g x m).1 (runsR n g x m).2 w) := by
  have HF := Lib.hid (fun w => l6Fits_any n g x m w)
  have HRU := Lib.hid (fun w hn hx hm => l6Run_any n g x m w hn hx hm)
  have HX := Lib.hid (Boxed.first w n g 27)
  unfold rd at *
  go_enter Try.func24, Try.ntmps24
  go_wp2_with fail
  refine (HF.out _).mono ?_
  rintro e w1 ⟨rfl, hb⟩
  have HX := Lib.hid (HX.out.next hb)
  have h0 := HX.out.c0
  have h1 := HX.out.c1
  clear hb
  cases hf : fitsB n g x m
  · have HR := Lib.hid (show runsR n g x m = ([], false) by unfold runsR; rw [hf]; rfl)
    have HO := Lib.hid (made_at w1 (w.heap.size + 1) w1.heap.size rfl (Nat.succ_le_of_lt HX.out.size))
    clear hf
    go_wp2_with fail
    go_ret2
    exact owns_R HR.out (owns_out (zs := []) (HX.out.next (below_new _ _)) HO.out)
  · have hff := (fitsB_iff n g x m).1 hf
    have hpp := (placeB_iff n g x).1 hff.1
    have hrr := (roadB_iff n g).1 hpp.1
    have HN := Lib.hid (And.intro hrr.1 hrr.2.1)
    have HPX := Lib.hid hpp.2
    have HM := Lib.hid (show 0 ≤ m ∧ m ≤ 24 by omega)
    have HR := Lib.hid (show runsR n g x m = (runL n x m, true) by unfold runsR; rw [hf]; rfl)
    clear hf hff hpp hrr
    go_wp2_with fail
    refine (HRU.out _ HN.out HPX.out HM.out).mono ?_
    rintro e w2 ⟨v, rfl, ho, hb⟩
    have HO := Lib.hid (owns_lower ho (Nat.le_of_lt HX.out.size))
    have HX := Lib.hid (HX.out.next hb)
    clear hb ho h0 h1
    go_wp2_with fail
    go_ret2
    exact owns_R HR.out ⟨v, rfl, HO.out, HX.out.below⟩
set_option maxHeartbeats 800000 in
set_option maxRecDepth 20000 in
theorem impl_RunPlaces (n : Int) (g : Bool) (x m : Int) (w : World) :
    Calls Try.prog 25 #[rd n g, .int .i64 x, .int .i64 m] w (OwnsB w.heap.size (runsR n g x m).1 (runsR n g x m).2 w) := by
  obtain ⟨i0, hi, hz0, hz1, hz2⟩ := info_parts infoInt
  have HF := Lib.hid (fun w => isRun_any n g x m w)
  have HX := Lib.hid ((Boxed.first w n g 27).next (below_new _ (.cells #[] 3)))
  have HO := Lib.hid (made_at (w.alloc (.cells #[.int .i64 n, .bool g] 27)) (w.heap.size + 1) (w.heap.size + 1) (by simp) (Nat.le_refl _))
  unfold rd at *
  go_enter Try.func25, Try.ntmps25
  go_wp2_with fail
  refine (HF.out _).mono ?_
  rintro e w1 ⟨rfl, hb⟩
  have HX := Lib.hid (HX.out.next hb)
  have HO := Lib.hid (owns_below HO.out hb)
  clear hb
  cases hf : fitsB n g x m
  · have HR := Lib.hid (show runsR n g x m = ([], false) by unfold runsR; rw [hf]; rfl)
    clear hf
    go_wp2_with fail
    go_ret2
    exact owns_R HR.out (owns_out (zs := []) HX.out HO.out)
  · have hff := (fitsB_iff n g x m).1 hf
    have hpp := (placeB_iff n g x).1 hff.1
    have hrr := (roadB_iff n g).1 hpp.1
    have hn := And.intro hrr.1 hrr.2.1
    have hx := hpp.2
    have hm : 0 ≤ m ∧ m ≤ 24 := by omega
    have HR := Lib.hid (show runsR n g x m = ((upTo m).map (runF n x), true) by unfold runsR; rw [hf]; rfl)
    have hnz : n ≠ 0 := by omega
    have hul := upTo_len m
    clear hf hff hpp hrr
    go_wp2_with fail
    go_loopw [8, 18] (fun v i wr => LRel n g (upTo m) (runF n x) w.heap.size w v i wr) (fun _ i _ => m.toNat - (intOf i).toNat)
    case atStart => exact ⟨HX.out, 0, Nat.zero_le _, rfl, HO.out⟩
    case round =>
      obtain ⟨hx9, k, hk, rfl, hown⟩ := hrel
      clear HX HO
      have HX := Lib.hid hx9
      clear hx9
      generalize hys : (((upTo m).take k).map (runF n x)).map iv = ys at hown
      have HYS := Lib.hid hys
      have HOW := Lib.hid hown
      clear hown hys
      have h0 := HX.out.c0
      by_cases hlt : (k : Int) < m
      · have hxk := upTo_at m k (by omega)
        have HXK := Lib.hid hxk
        have hsum : 0 ≤ x + (k : Int) := by omega
        clear hxk
        go_wp2_with (at_builtin; refine wpList_append_own _ rfl _ _ 24 rfl (w.heap.size + 1) 3 i0 (.int .i64 0) 1 8 Try.underlying24 hi hz0 hz1 hz2 rfl (by decide) _ _ _ rfl (HOW.out.alloc _) ⟨wr.heap.size, 0, none⟩ 1 1 [.int .i64 (runF n x k)] rfl rfl (cell_one_new _ _ _) ?c2 ?c3 ?c4 ?c5 ?_)
        case c2 => intro u hu; simp at hu; subst hu; rfl
        case c3 => unfold maxLen; omega
        case c4 => omega
        case c5 => have := HX.out.size; simp; omega
        intro v' w9 hown' hgrow _
        have HX := Lib.hid (boxed_append HX.out hgrow (fun b hb => (owns_block HOW.out b hb).1))
        have HOW' := Lib.hid hown'
        clear hgrow hown' HOW h0
        go_wp2_with fail
        go_roundw
        case rel => exact lrel_next2 (f := runF n x) HYS.out HXK.out (by go_num) HX.out HOW'.out
        case measure => simp [intOf] <;> omega
      · have HE := Lib.hid (show k = (upTo m).length by omega)
        go_wp2_with fail
        go_ret2
        exact owns_R HR.out (lrel_end (xs := upTo m) (f := runF n x) HE.out HX.out (by rw [HYS.out]; exact HOW.out))
end Go.Proofs.Ytijhbhjapcfddaa
