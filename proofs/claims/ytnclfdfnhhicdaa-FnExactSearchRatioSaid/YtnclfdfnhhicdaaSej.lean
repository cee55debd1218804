/-
  What is proved: SearchLoad of the model and of the program, and the contracts of spec.l3Hefts and impl.areHefts. Conditions: slices that read as lists of numbers of the row's length.
-/
import Derived.Test.YtnclfdfnhhicdaaSeh
namespace Go.Proofs.Ytnclfdfnhhicdaa
open Go.RowKit
set_option linter.unusedVariables false
set_option linter.unusedSimpArgs false

/-- a heft for each place -/
def heftsB (n : Int) (hs : List Int) : Bool := hs.all (fun h => decide (0 ≤ h) && decide (h ≤ 99)) && ((hs.length : Int) == n)
theorem heftsB_no {n : Int} {hs : List Int} {j : Nat} {h : Int} (hj : hs[j]? = some h) (hb : ¬ (0 ≤ h ∧ h ≤ 99)) : heftsB n hs = false := by
  unfold heftsB
  have : hs.all (fun h => decide (0 ≤ h) && decide (h ≤ 99)) = false := by
    cases he : hs.all (fun h => decide (0 ≤ h) && decide (h ≤ 99))
    · rfl
    · have := List.all_eq_true.1 he h (List.mem_of_getElem? hj)
      simp at this
      omega
  rw [this]
  rfl
theorem heftsB_end {n : Int} {hs : List Int} (h : ∀ (j : Nat) x, j < hs.length → hs[j]? = some x → 0 ≤ x ∧ x ≤ 99) : heftsB n hs = ((hs.length : Int) == n) := by
  unfold heftsB
  have : hs.all (fun h => decide (0 ≤ h) && decide (h ≤ 99)) = true := by
    rw [List.all_eq_true]
    intro x hx
    obtain ⟨j, hj⟩ := List.getElem?_of_mem hx
    have := h j x (List.getElem?_eq_some_iff.1 hj).1 hj
    simp
    omega
  rw [this, Bool.true_and]
theorem heftsB_parts {n : Int} {hs : List Int} (h : heftsB n hs = true) : (hs.length : Int) = n ∧ ∀ (j : Nat) x, hs[j]? = some x → 0 ≤ x ∧ x ≤ 99 := by
  unfold heftsB at h
  rw [Bool.and_eq_true, List.all_eq_true] at h
  refine ⟨by simpa using h.2, fun j x hj => ?_⟩
  have := h.1 x (List.mem_of_getElem? hj)
  simpa using this
def HefR (n : Int) (g : Bool) (hs : List Int) (base : Nat) (w : World) (r i : Value) (wr : World) : Prop :=
  r = .bool false ∧ Boxed base n g w wr ∧ ∃ k : Nat, k ≤ hs.length ∧ i = .int .i64 k ∧ ∀ (j : Nat) x, j < k → hs[j]? = some x → 0 ≤ x ∧ x ≤ 99
theorem hef_next {hs : List Int} {k : Nat} {x : Int} (h : ∀ (j : Nat) x, j < k → hs[j]? = some x → 0 ≤ x ∧ x ≤ 99) (hx : hs[k]? = some x) (hb : 0 ≤ x ∧ x ≤ 99) : ∀ (j : Nat) x, j < k + 1 → hs[j]? = some x → 0 ≤ x ∧ x ≤ 99 := by
  intro j y hj hy
  rcases Nat.lt_succ_iff_lt_or_eq.1 hj with hj | rfl
  · exact h j y hj hy
  · have e := hy.symm.trans hx
    cases e
    exact hb
set_option maxHeartbeats 800000 in
theorem l3Hefts_any (n : Int) (g : Bool) (v : Value) (hs : List Int) (w : World) (hv : ReadsI w v hs) :
    Calls Try.prog 64 #[rd n g, v] w fun e w' => e = .returned (.bool (heftsB n hs)) ∧ Below w.heap.size w w' := by
  have HI := Lib.hid (fun x w => l1In_same x 0 99 w)
  have HX := Lib.hid (Boxed.first w n g 27)
  obtain ⟨y, c, rfl, hc, hm, hx⟩ := hv
  have HL := Lib.hid hx
  unfold maxLen at hm
  clear hx
  unfold rd at *
  go_enter Try.func64, Try.ntmps64
  go_wp2_with fail
  go_loopw [4, 5] (fun r i wr => HefR n g hs w.heap.size w r i wr) (fun _ i _ => hs.length - (intOf i).toNat)
  case atStart => exact ⟨rfl, HX.out, 0, Nat.zero_le _, rfl, fun j x hj => by omega⟩
  case round =>
    obtain ⟨rfl, hx, k, hk, rfl, hin⟩ := hrel
    clear HX
    have HX := Lib.hid hx
    have HIN := Lib.hid hin
    clear hx hin
    by_cases hlt : k < hs.length
    · obtain ⟨z, hzk⟩ := get_some hlt
      obtain ⟨b, o, rfl, hbl, hcx0⟩ := HL.out k z hzk
      have hcx : wr.cell? ⟨b, o + k, none⟩ = some (.int .i64 z) := (HX.out.below.cell (p := ⟨b, o + k, none⟩) hbl).trans hcx0
      have HZK := Lib.hid hzk
      clear hcx0 hzk
      go_wp2_with fail
      refine (HI.out _ _).mono ?_
      rintro e w2 ⟨rfl, rfl⟩
      by_cases hr : 0 ≤ z ∧ z ≤ 99
      · have HN := Lib.hid (hef_next HIN.out HZK.out hr)
        rw [show (decide (0 ≤ z) && decide (z ≤ 99)) = true by simp; exact hr]
        go_wp2_with fail
        go_roundw
        case rel => exact ⟨rfl, HX.out, k + 1, hlt, by go_num, HN.out⟩
        case measure => simp [intOf]; omega
      · have HN := Lib.hid (heftsB_no (n := n) HZK.out hr)
        rw [show (decide (0 ≤ z) && decide (z ≤ 99)) = false by simp; omega]
        go_wp2_with fail
        go_ret
        exact ⟨ret_bool HN.out.symm, HX.out.below⟩
    · have hke : k = hs.length := by omega
      subst hke
      have HN := Lib.hid (heftsB_end (n := n) HIN.out)
      have h0 := HX.out.c0
      go_wp2_with fail
      go_ret
      exact ⟨ret_bool HN.out.symm, HX.out.below⟩
set_option maxHeartbeats 800000 in
theorem areHefts_any (n : Int) (g : Bool) (v : Value) (hs : List Int) (w : World) (hv : ReadsI w v hs) :
    Calls Try.prog 65 #[rd n g, v] w fun e w' => e = .returned (.bool (heftsB n hs)) ∧ Below w.heap.size w w' := by
  have HX := Lib.hid (Boxed.first w n g 27)
  obtain ⟨y, c, rfl, hc, hm, hx⟩ := hv
  have HL := Lib.hid hx
  unfold maxLen at hm
  clear hx
  unfold rd at *
  go_enter Try.func65, Try.ntmps65
  go_wp2_with fail
  go_loopw [4, 9] (fun r i wr => HefR n g hs w.heap.size w r i wr) (fun _ i _ => hs.length - (intOf i).toNat)
  case atStart => exact ⟨rfl, HX.out, 0, Nat.zero_le _, rfl, fun j x hj => by omega⟩
  case round =>
    obtain ⟨rfl, hx, k, hk, rfl, hin⟩ := hrel
    clear HX
    have HX := Lib.hid hx
    have HIN := Lib.hid hin
    clear hx hin
    by_cases hlt : k < hs.length
    · obtain ⟨z, hzk⟩ := get_some hlt
      obtain ⟨b, o, rfl, hbl, hcx0⟩ := HL.out k z hzk
      have hcx : wr.cell? ⟨b, o + k, none⟩ = some (.int .i64 z) := (HX.out.below.cell (p := ⟨b, o + k, none⟩) hbl).trans hcx0
      have HZK := Lib.hid hzk
      clear hcx0 hzk
      by_cases h1 : z < 0
      · have HN := Lib.hid (heftsB_no (n := n) HZK.out (by omega))
        go_wp2_with fail
        go_ret
        exact ⟨ret_bool HN.out.symm, HX.out.below⟩
      · by_cases h2 : 99 < z
        · have HN := Lib.hid (heftsB_no (n := n) HZK.out (by omega))
          go_wp2_with fail
          go_ret
          exact ⟨ret_bool HN.out.symm, HX.out.below⟩
        · have HN := Lib.hid (hef_next HIN.out HZK.out (by omega))
          go_wp2_with fail
          go_roundw
          case rel => exact ⟨rfl, HX.out, k + 1, hlt, by go_num, HN.out⟩
          case measure => simp [intOf]; omega
    · have hke : k = hs.length := by omega
      subst hke
      have HN := Lib.hid (heftsB_end (n := n) HIN.out)
      have h0 := HX.out.c0
      go_wp2_with fail
      go_ret
      exact ⟨ret_bool HN.out.symm, HX.out.below⟩
/-- the load of the first k places -/
def loadS (f : Int → Int) (hs : List Int) : Nat → Int
  | 0 => 0
  | k + 1 => loadS f hs k + hs.getD k 0 * f k
theorem loadS_next {f : Int → Int} {hs : List Int} {k : Nat} {h : Int} (hk : hs[k]? = some h) : loadS f hs (k + 1) = loadS f hs k + h * f k := by
  show loadS f hs k + hs.getD k 0 * f k = _
  rw [show hs.getD k 0 = h by simp [hk]]
theorem mul_bounds {a b A B : Int} (h0 : 0 ≤ a) (h1 : a ≤ A) (h2 : 0 ≤ b) (h3 : b ≤ B) : 0 ≤ a * b ∧ a * b ≤ A * B :=
  ⟨Int.mul_nonneg h0 h2, Int.le_trans (Int.mul_le_mul_of_nonneg_right h1 h2) (Int.mul_le_mul_of_nonneg_left h3 (Int.le_trans h0 h1))⟩
/-- what SearchLoad answers -/
def loadR (n : Int) (g : Bool) (a : Int) (xs hs : List Int) : Int × Bool := if lineB n g a && searchB n a xs && heftsB n hs then (loadS (timT a 0 xs xs.length) hs n.toNat, true) else (0, false)
theorem loadR_no {n : Int} {g : Bool} {a : Int} {xs hs : List Int} (h : (lineB n g a && searchB n a xs && heftsB n hs) = false) : loadR n g a xs hs = (0, false) := by
  unfold loadR
  rw [if_neg (by rw [h]; exact Bool.false_ne_true)]
theorem loadR_yes {n : Int} {g : Bool} {a : Int} {xs hs : List Int} (h : (lineB n g a && searchB n a xs && heftsB n hs) = true) : loadR n g a xs hs = (loadS (timT a 0 xs xs.length) hs n.toNat, true) := by
  unfold loadR
  exact if_pos h
def LoaR (n : Int) (g : Bool) (f : Int → Int) (hs : List Int) (base : Nat) (tv : Value) (w : World) (sv i : Value) (wr : World) : Prop :=
  Boxed base n g w wr ∧ ReadsI wr tv (listF n f) ∧ ∃ k : Nat, (k : Int) ≤ n ∧ i = .int .i64 k ∧ sv = .int .i64 (loadS f hs k) ∧ 0 ≤ loadS f hs k ∧ loadS f hs k ≤ 80000 * (k : Int)
theorem reads_at {w : World} {a : Option Addr} {m c : Nat} {xs : List Int} {j : Nat} {x : Int} (h : ReadsI w (.slice a m c) xs) (hj : xs[j]? = some x) : ∃ b o, a = some ⟨b, o, none⟩ ∧ b < w.heap.size ∧ w.cell? ⟨b, o + j, none⟩ = some (.int .i64 x) := by
  obtain ⟨a', c', e, hc, hm, hx⟩ := h
  cases e
  exact hx j x hj
theorem reads_shape {w : World} {v : Value} {xs : List Int} (h : ReadsI w v xs) : ∃ a c, v = .slice a xs.length c := by
  obtain ⟨a, c, e, _⟩ := h
  exact ⟨a, c, e⟩
set_option maxHeartbeats 1600000 in
set_option maxRecDepth 20000 in
theorem spec_SearchLoad (n : Int) (g : Bool) (a : Int) (v : Value) (xs : List Int) (u : Value) (hs : List Int) (w : World) (hv : ReadsI w v xs) (hu : ReadsI w u hs) (_hlen : xs.length ≤ 1048576) :
    Calls Try.prog 29 #[rd n g, .int .i64 a, v, u] w fun e w' => e = .returned (.tuple #[.int .i64 (loadR n g a xs hs).1, .bool (loadR n g a xs hs).2]) ∧ Below w.heap.size w w' := by
  have HG := Lib.hid (fun v w hv => l3Good_any n g a v xs w hv)
  have HH := Lib.hid (fun u w hu => l3Hefts_any n g u hs w hu)
  have HTI := Lib.hid (fun v w hv hl hs => l3Times_any n a 0 v xs w hv hl hs (Int.le_refl _) (by decide))
  have HX := Lib.hid (Boxed.first w n g 27)
  have HV := Lib.hid (hv.below (below_new w (.cells #[.int .i64 n, .bool g] 27)))
  have HU := Lib.hid (hu.below (below_new w (.cells #[.int .i64 n, .bool g] 27)))
  obtain ⟨y, c, rfl, hc, hm, _⟩ := hv
  obtain ⟨y2, c2, rfl, hc2, hm2, hlh⟩ := hu
  have HLH := Lib.hid hlh
  clear hlh
  unfold maxLen at hm hm2
  unfold rd at *
  go_enter Try.func29, Try.ntmps29
  go_wp2_with fail
  refine (HG.out _ _ HV.out).mono ?_
  rintro e w1 ⟨rfl, hb⟩
  have HX := Lib.hid (HX.out.next hb)
  have HV2 := Lib.hid (HV.out.below hb)
  have HU2 := Lib.hid (HU.out.below hb)
  clear hb HV HU
  cases hg : (lineB n g a && searchB n a xs)
  · have HR := Lib.hid (loadR_no (n := n) (g := g) (a := a) (xs := xs) (hs := hs) (by rw [hg]; rfl))
    go_wp2_with fail
    go_ret2
    exact ⟨ret_R HR.out, HX.out.below⟩
  · have h0 := HX.out.c0
    have h1 := HX.out.c1
    go_wp2_with fail
    refine (HH.out _ _ HU2.out).mono ?_
    rintro e w2 ⟨rfl, hb⟩
    have HX := Lib.hid (HX.out.next hb)
    have HV3 := Lib.hid (HV2.out.below hb)
    clear hb h0 h1 HV2 HU2
    cases hh : heftsB n hs
    · have HR := Lib.hid (loadR_no (n := n) (g := g) (a := a) (xs := xs) (hs := hs) (by rw [hg, hh]; rfl))
      go_wp2_with fail
      go_ret2
      exact ⟨ret_R HR.out, HX.out.below⟩
    · have HR := Lib.hid (loadR_yes (n := n) (g := g) (a := a) (xs := xs) (hs := hs) (by rw [hg, hh]; rfl))
      obtain ⟨hhl, hhb⟩ := heftsB_parts hh
      have HHB := Lib.hid hhb
      rw [Bool.and_eq_true] at hg
      obtain ⟨hl, hs2⟩ := hg
      obtain ⟨hn1, hn2, hgf, ha0, ha1⟩ := (lineB_iff n g a).1 hl
      subst hgf
      have HC := Lib.hid (fun w hv => HTI.out (.slice y xs.length c) w hv hl hs2)
      have HFB := Lib.hid (fun (k : Nat) h0 h1 => timT_bounds (e := 0) hs2 ha0 ha1 hn2 hn1 (Int.le_refl _) (by decide) (k : Int) h0 h1)
      clear hl hs2 hh hhb
      have h0 := HX.out.c0
      have h1 := HX.out.c1
      go_wp2_with fail
      refine (HC.out _ HV3.out).mono ?_
      rintro e w3 ⟨tv, rfl, ho, hb⟩
      have HX := Lib.hid (HX.out.next hb)
      have HTV := Lib.hid (show ReadsI w3 tv (listF n (timT a 0 xs xs.length)) from owns_reads ho (by rw [listF_len]; unfold maxLen; omega))
      clear ho hb h0 h1
      obtain ⟨ta, tc, hts⟩ := reads_shape HTV.out
      have hll := listF_len n (timT a 0 xs xs.length)
      rw [hll] at hts
      subst hts
      clear hll
      go_wp2_with fail
      go_loopw [10, 12] (fun sv i wr => LoaR n false (timT a 0 xs xs.length) hs w.heap.size (.slice ta n.toNat tc) w sv i wr) (fun _ i _ => n.toNat - (intOf i).toNat)
      case atStart => exact ⟨HX.out, HTV.out, 0, by omega, rfl, rfl, Int.le_refl _, by simp [loadS]⟩
      case round =>
        obtain ⟨hx, htv, k, hk, rfl, rfl, hs0, hsU⟩ := hrel
        clear HX HTV
        have HX := Lib.hid hx
        have HTV := Lib.hid htv
        clear hx htv
        have h0 := HX.out.c0
        by_cases hlt : (k : Int) < n
        · obtain ⟨h, hhk⟩ := get_some (xs := hs) (k := k) (by omega)
          obtain ⟨b, o, rfl, hbl, hch0⟩ := HLH.out k h hhk
          have hch : wr.cell? ⟨b, o + k, none⟩ = some (.int .i64 h) := (HX.out.below.cell (p := ⟨b, o + k, none⟩) hbl).trans hch0
          have hhb := HHB.out k h hhk
          have hfb := HFB.out k (by omega) hlt
          have hmb := mul_bounds hhb.1 hhb.2 hfb.1 hfb.2
          obtain ⟨tb, to, e, htl, hct⟩ := reads_at HTV.out (listF_at n (timT a 0 xs xs.length) k (by omega))
          subst e
          have HNX := Lib.hid (loadS_next (f := timT a 0 xs xs.length) hhk)
          clear hch0 hhk
          generalize timT a 0 xs xs.length k = t at *
          generalize loadS (timT a 0 xs xs.length) hs k = s at *
          have hki : (k : Int) < (listF n (timT a 0 xs xs.length)).length := by rw [listF_len]; omega
          have hw1 : IntKind.i64.wrap (h * t) = h * t := IntWalk.i64_in _ (by omega)
          have hw2 : IntKind.i64.wrap (s + h * t) = s + h * t := IntWalk.i64_in _ (by omega)
          have HNB := Lib.hid (show 0 ≤ s + h * t ∧ s + h * t ≤ 80000 * ((k + 1 : Nat) : Int) by omega)
          go_wp2_with fail
          go_quiet (fail)
          clear hw1 hw2
          have HX := Lib.hid (HX.out.next (below_drewN _ nq))
          have HTV := Lib.hid (HTV.out.below (below_drewN _ nq))
          clear h0
          have h0 := HX.out.c0
          go_wp2_with fail
          go_roundw
          case rel => exact ⟨HX.out, HTV.out, k + 1, by omega, by go_num, by rw [HNX.out], by rw [HNX.out]; exact HNB.out⟩
          case measure => simp [intOf]; omega
        · have hke : n.toNat = k := by omega
          have HKE := Lib.hid hke
          clear hke
          go_wp2_with fail
          go_ret2
          exact ⟨ret_R (by rw [HR.out, HKE.out]), HX.out.below⟩

set_option maxHeartbeats 1600000 in
set_option maxRecDepth 20000 in
theorem impl_SearchLoad (n : Int) (g : Bool) (a : Int) (v : Value) (xs : List Int) (u : Value) (hs : List Int) (w : World) (hv : ReadsI w v xs) (hu : ReadsI w u hs) (hlen : xs.length ≤ 1048576) :
    Calls Try.prog 30 #[rd n g, .int .i64 a, v, u] w fun e w' => e = .returned (.tuple #[.int .i64 (loadR n g a xs hs).1, .bool (loadR n g a xs hs).2]) ∧ Below w.heap.size w w' := by
  have HT := Lib.hid (fun v w hv => impl_SearchTimes n g a v xs 0 w hv hlen)
  have HH := Lib.hid (fun u w hu => areHefts_any n g u hs w hu)
  have HX := Lib.hid (Boxed.first w n g 27)
  have HV := Lib.hid (hv.below (below_new w (.cells #[.int .i64 n, .bool g] 27)))
  have HU := Lib.hid (hu.below (below_new w (.cells #[.int .i64 n, .bool g] 27)))
  obtain ⟨y, c, rfl, hc, hm, _⟩ := hv
  obtain ⟨y2, c2, rfl, hc2, hm2, hlh⟩ := hu
  have HLH := Lib.hid hlh
  clear hlh
  unfold maxLen at hm hm2
  unfold rd at *
  have h0 := HX.out.c0
  have h1 := HX.out.c1
  go_enter Try.func30, Try.ntmps30
  go_wp2_with fail
  refine (HT.out _ _ HV.out).mono ?_
  cases hg : (lineB n g a && searchB n a xs)
  · have HR := Lib.hid (loadR_no (n := n) (g := g) (a := a) (xs := xs) (hs := hs) (by rw [hg]; rfl))
    rw [stimesR_no (by rw [hg]; rfl)]
    rintro e w1 ⟨tv, rfl, ho, hb⟩
    have HX := Lib.hid (HX.out.next hb)
    clear hb ho h0 h1
    go_wp2_with fail
    go_ret2
    exact ⟨ret_R HR.out, HX.out.below⟩
  · rw [stimesR_yes (by rw [hg]; rfl)]
    rintro e w1 ⟨tv, rfl, ho, hb⟩
    have HX := Lib.hid (HX.out.next hb)
    have HU2 := Lib.hid (HU.out.below hb)
    have hn24 : n ≤ 24 := by
      rw [Bool.and_eq_true] at hg
      exact ((lineB_iff n g a).1 hg.1).2.1
    have HTV := Lib.hid (show ReadsI w1 tv (listF n (timT a 0 xs xs.length)) from owns_reads ho (by show (listF n _).length ≤ _; rw [listF_len]; unfold maxLen; omega))
    clear hb ho h0 h1
    have h0 := HX.out.c0
    have h1 := HX.out.c1
    go_wp2_with fail
    refine (HH.out _ _ HU2.out).mono ?_
    rintro e w2 ⟨rfl, hb⟩
    have HX := Lib.hid (HX.out.next hb)
    have HTV := Lib.hid (HTV.out.below hb)
    clear hb h0 h1 HU2
    cases hh : heftsB n hs
    · have HR := Lib.hid (loadR_no (n := n) (g := g) (a := a) (xs := xs) (hs := hs) (by rw [hg, hh]; rfl))
      go_wp2_with fail
      go_ret2
      exact ⟨ret_R HR.out, HX.out.below⟩
    · have HR := Lib.hid (loadR_yes (n := n) (g := g) (a := a) (xs := xs) (hs := hs) (by rw [hg, hh]; rfl))
      obtain ⟨hhl, hhb⟩ := heftsB_parts hh
      have HHB := Lib.hid hhb
      rw [Bool.and_eq_true] at hg
      obtain ⟨hl, hs2⟩ := hg
      obtain ⟨hn1, hn2, hgf, ha0, ha1⟩ := (lineB_iff n g a).1 hl
      subst hgf
      have HFB := Lib.hid (fun (k : Nat) h0 h1 => timT_bounds (e := 0) hs2 ha0 ha1 hn2 hn1 (Int.le_refl _) (by decide) (k : Int) h0 h1)
      clear hl hs2 hh hhb
      obtain ⟨ta, tc, hts⟩ := reads_shape HTV.out
      have hll := listF_len n (timT a 0 xs xs.length)
      rw [hll] at hts
      subst hts
      clear hll
      go_wp2_with fail
      go_loopw [12, 32] (fun sv i wr => LoaR n false (timT a 0 xs xs.length) hs w.heap.size (.slice ta n.toNat tc) w sv i wr) (fun _ i _ => n.toNat - (intOf i).toNat)
      case atStart => exact ⟨HX.out, HTV.out, 0, by omega, rfl, rfl, Int.le_refl _, by simp [loadS]⟩
      case round =>
        obtain ⟨hx, htv, k, hk, rfl, rfl, hs0, hsU⟩ := hrel
        clear HX HTV
        have HX := Lib.hid hx
        have HTV := Lib.hid htv
        clear hx htv
        have h0 := HX.out.c0
        by_cases hlt : (k : Int) < n
        · obtain ⟨h, hhk⟩ := get_some (xs := hs) (k := k) (by omega)
          obtain ⟨b, o, rfl, hbl, hch0⟩ := HLH.out k h hhk
          have hch : wr.cell? ⟨b, o + k, none⟩ = some (.int .i64 h) := (HX.out.below.cell (p := ⟨b, o + k, none⟩) hbl).trans hch0
          have hhb := HHB.out k h hhk
          have hfb := HFB.out k (by omega) hlt
          have hmb := mul_bounds hhb.1 hhb.2 hfb.1 hfb.2
          obtain ⟨tb, to, e, htl, hct⟩ := reads_at HTV.out (listF_at n (timT a 0 xs xs.length) k (by omega))
          subst e
          have HNX := Lib.hid (loadS_next (f := timT a 0 xs xs.length) hhk)
          clear hch0 hhk
          generalize timT a 0 xs xs.length k = t at *
          generalize loadS (timT a 0 xs xs.length) hs k = s at *
          have hki : (k : Int) < (listF n (timT a 0 xs xs.length)).length := by rw [listF_len]; omega
          have hw1 : IntKind.i64.wrap (h * t) = h * t := IntWalk.i64_in _ (by omega)
          have hw2 : IntKind.i64.wrap (s + h * t) = s + h * t := IntWalk.i64_in _ (by omega)
          have HNB := Lib.hid (show 0 ≤ s + h * t ∧ s + h * t ≤ 80000 * ((k + 1 : Nat) : Int) by omega)
          go_wp2_with fail
          go_roundw
          case rel => exact ⟨HX.out, HTV.out, k + 1, by omega, by go_num, by rw [HNX.out], by rw [HNX.out]; exact HNB.out⟩
          case measure => simp [intOf]; omega
        · have hke : n.toNat = k := by omega
          have HKE := Lib.hid hke
          clear hke
          have hll := listF_len n (timT a 0 xs xs.length)
          go_wp2_with fail
          go_ret2
          exact ⟨ret_R (by rw [HR.out, HKE.out]), HX.out.below⟩

end Go.Proofs.Ytnclfdfnhhicdaa
