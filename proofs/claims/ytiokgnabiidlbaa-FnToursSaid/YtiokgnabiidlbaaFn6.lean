/-
  What is proved: impl.FirstVisits, impl.CoverTime and the model's answer alike. Conditions: a slice that reads as a list of numbers.
-/
import Derived.Test.YtiokgnabiidlbaaFn5
namespace Go.Proofs.Ytiokgnabiidlbaa
open Go.RowKit

theorem firstFrom_neg (p : Int) : ∀ (xs : List Int) (k : Nat), firstFrom p xs k = -1 ↔ p ∉ xs
  | [], k => by simp [firstFrom]
  | x :: xs, k => by
    unfold firstFrom
    have := firstFrom_neg p xs (k + 1)
    by_cases h : x = p
    · rw [if_pos h]
      simp [h]
    · rw [if_neg h, this]
      have h2 : ¬ p = x := fun e => h e.symm
      simp [h2]
theorem firstI_neg (xs : List Int) (p : Int) : firstI xs p = -1 ↔ p ∉ xs := firstFrom_neg p xs 0
/-- the numbers 0 .. n-1 -/
def upTo (n : Int) : List Int := (List.range n.toNat).map fun (k : Nat) => (k : Int)
theorem upTo_len (n : Int) : (upTo n).length = n.toNat := by simp [upTo]
theorem upTo_at (n : Int) (k : Nat) (h : k < n.toNat) : (upTo n)[k]? = some (k : Int) := by simp [upTo, h]
def firsts (n : Int) (xs : List Int) : List Int := (upTo n).map (firstI xs)
theorem firsts_len (n : Int) (xs : List Int) : (firsts n xs).length = n.toNat := by simp [firsts, upTo_len]
theorem firsts_at (n : Int) (xs : List Int) (k : Nat) (h : k < n.toNat) : (firsts n xs)[k]? = some (firstI xs k) := by simp [firsts, upTo_at n k h]
/-- what FirstVisits answers -/
noncomputable def visitsR (n : Int) (g : Bool) (xs : List Int) : List Int × Bool := if walkD n g xs = true then (firsts n xs, true) else ([], false)
theorem visitsR_len (n : Int) (g : Bool) (xs : List Int) : (visitsR n g xs).1.length ≤ 1048576 := by
  unfold visitsR
  by_cases h : walkD n g xs = true
  · rw [if_pos h]
    have := ((roadB_iff n g).1 ((walkD_iff n g xs).1 h).1).2.1
    simp only [firsts_len]
    omega
  · rw [if_neg h]
    simp
set_option maxHeartbeats 800000 in
set_option maxRecDepth 20000 in
theorem spec_FirstVisits (n : Int) (g : Bool) (v : Value) (xs : List Int) (w : World) (hv : ReadsI w v xs) :
    Calls Try.prog 8 #[rd n g, v] w (OwnsB w.heap.size (visitsR n g xs).1 (visitsR n g xs).2 w) := by
  obtain ⟨i0, hi, hz0, hz1, hz2⟩ := info_parts infoInt
  have HF := Lib.hid (fun v p w hv => l2First_any v xs p w hv)
  have HX0 := Lib.hid (Boxed.first w n g 25)
  have HV := Lib.hid hv
  have HVB := Lib.hid (hv.below (below_new w (.cells #[.int .i64 n, .bool g] 25)))
  have HO0 := Lib.hid (made_at (w.alloc (.cells #[.int .i64 n, .bool g] 25)) (w.heap.size + 1) (w.heap.size + 1) (by simp) (Nat.le_refl _))
  obtain ⟨y, c, hvv, hc, hm, hx⟩ := hv
  subst hvv
  unfold maxLen at hm
  have HL := Lib.hid hx
  clear hx
  have HW := Lib.hid (fun v w hv => l2Walk_is n g v xs w hv)
  unfold rd at *
  go_enter Try.func8, Try.ntmps8
  go_wp2_with fail
  refine (HW.out _ _ (HVB.out.below (below_new _ _))).mono ?_
  rintro e w1 ⟨rfl, hb⟩
  have HX := Lib.hid ((HX0.out.next (below_new _ _)).next hb)
  have HO := Lib.hid (owns_below HO0.out hb)
  clear hb HX0 HO0
  cases hw : walkD n g xs
  · go_wp2_with fail
    go_ret2
    exact owns_R (zs := []) (b := false) (by simp [visitsR, hw]) (owns_out HX.out HO.out)
  · have hwk := (walkD_iff n g xs).1 hw
    have hn := (roadB_iff n g).1 hwk.1
    have hn1 := hn.1
    have hn2 := hn.2.1
    have hul := upTo_len n
    have HK := Lib.hid hw
    clear hwk hw hn
    go_wp2_with fail
    go_loopw [6, 7] (fun v i wr => LRel n g (upTo n) (firstI xs) w.heap.size w v i wr) (fun _ i _ => n.toNat - (intOf i).toNat)
    case atStart => exact ⟨HX.out, 0, Nat.zero_le _, rfl, HO.out⟩
    case round =>
      obtain ⟨hx, k, hk, rfl, hown⟩ := hrel
      clear HX HO
      have HX := Lib.hid hx
      clear hx
      generalize hys : (((upTo n).take k).map (firstI xs)).map iv = ys at hown
      have HYS := Lib.hid hys
      have HOW := Lib.hid hown
      clear hown hys
      have h0 := HX.out.c0
      by_cases hlt : (k : Int) < n
      · have hxk := upTo_at n k (by omega)
        have HXK := Lib.hid hxk
        clear hxk
        go_wp2_with fail
        refine (HF.out _ k _ (HV.out.below HX.out.below)).mono ?_
        rintro e w2 ⟨rfl, rfl⟩
        clear h0
        go_wp2_with (at_builtin; refine wpList_append_own _ rfl _ _ 26 rfl (w.heap.size + 1) 3 i0 (.int .i64 0) 1 8 Try.underlying26 hi hz0 hz1 hz2 rfl (by decide) _ _ _ rfl (HOW.out.alloc _) ⟨wr.heap.size, 0, none⟩ 1 1 [.int .i64 (firstI xs k)] rfl rfl (cell_one_new _ _ _) ?c2 ?c3 ?c4 ?c5 ?_)
        case c2 => intro u hu; simp at hu; subst hu; rfl
        case c3 => unfold maxLen; omega
        case c4 => omega
        case c5 => have := HX.out.size; simp; omega
        intro v' w9 hown' hgrow _
        have HX := Lib.hid (boxed_append HX.out hgrow (fun b hb => (owns_block HOW.out b hb).1))
        have HOW' := Lib.hid hown'
        clear hgrow hown' HOW
        go_wp2_with fail
        go_roundw
        case rel => exact lrel_next2 (f := firstI xs) HYS.out HXK.out (by go_num) HX.out HOW'.out
        case measure => simp [intOf]; omega
      · have hke : k = (upTo n).length := by omega
        have HE := Lib.hid hke
        clear hke
        go_wp2_with fail
        go_ret2
        exact owns_R (zs := firsts n xs) (b := true) (by simp [visitsR, HK.out]) (lrel_end (xs := upTo n) (f := firstI xs) HE.out HX.out (by rw [HYS.out]; exact HOW.out))
def MkRel (n : Int) (g : Bool) (fs : List Int) (base bk : Nat) (w : World) (i : Value) (wr : World) : Prop :=
  Boxed base n g w wr ∧ ∃ k : Nat, k ≤ fs.length ∧ i = .int .i64 k ∧ wr.ownsRow (base + 1) 3 1 (.slice (some ⟨bk, 0, none⟩) fs.length fs.length) fs.length (cellsTo fs k)
set_option maxHeartbeats 800000 in
theorem impl_FirstVisits_yes (N : Nat) (g : Bool) (v : Value) (xs : List Int) (w : World) (hv : ReadsI w v xs) (hw : walkD N g xs = true) :
    Calls Try.prog 7 #[rd N g, v] w (OwnsB w.heap.size (firsts N xs) true w) := by
  obtain ⟨i0, hi, hz0, hz1, hz2⟩ := info_parts infoInt
  have HF := Lib.hid (fun v p w hv => index_any v xs p w hv)
  have hwk := (walkD_iff N g xs).1 hw
  have hn := (roadB_iff N g).1 hwk.1
  have hn2 := hn.2.1
  have hfl : (firsts N xs).length = N := by rw [firsts_len]; omega
  have HFL := Lib.hid hfl
  have HK := Lib.hid hw
  clear hwk hn hw hfl
  have HX0 := Lib.hid (Boxed.first w N g 25)
  have HV := Lib.hid hv
  have HVB := Lib.hid (hv.below (below_new w (.cells #[.int .i64 N, .bool g] 25)))
  obtain ⟨y, c, hvv, hc, hm, hx⟩ := hv
  subst hvv
  unfold maxLen at hm
  clear hx
  have HW := Lib.hid (fun v w hv => areWalks_one N g v xs w hv)
  unfold rd at *
  go_enter Try.func7, Try.ntmps7
  go_wp2_with fail
  refine (HW.out _ _ (one_list_at HVB.out _ (by simp))).mono ?_
  rintro e w1 ⟨rfl, hb⟩
  have HX := Lib.hid ((HX0.out.next (below_new _ _)).next hb)
  clear hb HX0
  rw [HK.out]
  have h0 := HX.out.c0
  have hsz := HX.out.size
  go_wp2_with (at_make; refine wpList_make_full _ rfl _ _ 26 rfl (w.heap.size + 1) 3 i0 (.int .i64 0) 1 Try.underlying26 hi hz0 hz1 .i64 .i64 _ _ N rfl rfl rfl rfl ?c1 ?c2 ?c3 ?_)
  case c1 => rw [hz2]; omega
  case c2 => unfold maxLen; omega
  case c3 => omega
  intro w2 hown hgrow
  have hb2 : Below w1.heap.size w1 w2 := (Below.refl _ _).grown hgrow (Nat.le_refl _) (fun k e => by cases e)
  have HX := Lib.hid (HX.out.next hb2)
  have hst : (madeCells #[Value.int .i64 0] N).toList = cellsTo (firsts N xs) 0 := by
    have hfl := HFL.out
    apply List.ext_getElem?
    intro j
    by_cases hj : j < N
    · simp [cellsTo, madeCells, hj, hfl, Nat.mod_one]
    · simp [cellsTo, madeCells, hj, hfl]
  rw [hst] at hown
  have HOW := Lib.hid hown
  clear hgrow hst hb2 h0 hsz hown
  generalize hbk : w1.heap.size = bk at *
  clear hbk
  go_wp2_with fail
  go_loopw [19] (fun i wr => MkRel N g (firsts N xs) w.heap.size bk w i wr) (fun i _ => N - (intOf i).toNat)
  case atStart => exact ⟨HX.out, 0, Nat.zero_le _, rfl, by rw [HFL.out]; exact HOW.out⟩
  case round =>
    obtain ⟨hx, k, hk, rfl, hown⟩ := hrel
    clear HX HOW
    have HX := Lib.hid hx
    rw [HFL.out] at hk hown
    have hkk : k ≤ N := hk
    clear hx hk
    by_cases hlt : k < N
    · have hxk := firsts_at N xs k (by omega)
      have hold : wr.cell? ⟨bk, k, none⟩ = some (.int .i64 0) := (hown.cellAt k (by omega)).trans (cellsTo_at _ k (by rw [HFL.out]; exact hlt))
      have hfr := hown.frozenAt k
      have Hst := Lib.hid (hown.stored k (.int .i64 (firstI xs k)))
      have Hset := Lib.hid (cellsTo_set _ k _ hxk)
      have HOB := Lib.hid (fun b hb => (owns_block hown b hb).1)
      clear hxk hown
      go_wp2_with fail
      refine (HF.out _ k _ (HV.out.below HX.out.below)).mono ?_
      rintro e w3 ⟨rfl, rfl⟩
      go_wp2_with fail
      go_roundw
      case rel =>
        refine ⟨HX.out.nextAt (Nat.lt_succ_self _) (below_grown (v := .slice (some ⟨bk, 0, none⟩) N N) Hst.out.2 HOB.out (Nat.succ_le_of_lt HX.out.size)), k + 1, by rw [HFL.out]; omega, by go_num, ?_⟩
        rw [← Hset.out, HFL.out]
        exact Hst.out.1
      case measure => simp [intOf]; omega
    · have hke : k = N := by omega
      have HE := Lib.hid hke
      have HOW := Lib.hid hown
      clear hke hown
      go_wp2_with fail
      go_ret2
      have ho := HOW.out
      rw [HE.out] at ho
      have ha := cellsTo_all (firsts N xs)
      rw [HFL.out] at ha
      rw [ha] at ho
      exact owns_out HX.out (by rw [HFL.out]; exact ho)
theorem impl_FirstVisits (n : Int) (g : Bool) (v : Value) (xs : List Int) (w : World) (hv : ReadsI w v xs) :
    Calls Try.prog 7 #[rd n g, v] w (OwnsB w.heap.size (visitsR n g xs).1 (visitsR n g xs).2 w) := by
  by_cases hw : walkD n g xs = true
  · have hn := ((roadB_iff n g).1 ((walkD_iff n g xs).1 hw).1).1
    obtain ⟨N, rfl⟩ : ∃ N : Nat, n = N := ⟨n.toNat, by omega⟩
    have e : visitsR N g xs = (firsts N xs, true) := if_pos hw
    rw [e]
    exact impl_FirstVisits_yes N g v xs w hv hw
  · have e : visitsR n g xs = ([], false) := if_neg hw
    have hwf : walkD n g xs = false := by cases h : walkD n g xs; rfl; exact absurd h hw
    rw [e]
    have HK := Lib.hid hwf
    clear hwf hw e
    have HX0 := Lib.hid (Boxed.first w n g 25)
    have HVB := Lib.hid (hv.below (below_new w (.cells #[.int .i64 n, .bool g] 25)))
    obtain ⟨y, c, hvv, _⟩ := hv
    subst hvv
    have HW := Lib.hid (fun v w hv => areWalks_one n g v xs w hv)
    unfold rd at *
    go_enter Try.func7, Try.ntmps7
    go_wp2_with fail
    refine (HW.out _ _ (one_list_at HVB.out _ (by simp))).mono ?_
    rintro e w1 ⟨rfl, hb⟩
    have HX := Lib.hid ((HX0.out.next (below_new _ _)).next hb)
    have HO := Lib.hid (made_at w1 (w.heap.size + 1) w1.heap.size rfl (Nat.succ_le_of_lt HX.out.size))
    clear hb HX0
    rw [HK.out]
    go_wp2_with fail
    go_ret2
    exact owns_out (zs := []) (HX.out.next (below_new _ _)) HO.out
end Go.Proofs.Ytiokgnabiidlbaa
