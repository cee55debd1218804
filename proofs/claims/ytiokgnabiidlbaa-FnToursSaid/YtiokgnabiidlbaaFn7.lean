/-
  What is proved: impl.CoverTime and the model's answer alike. Conditions: a slice that reads as a list of numbers.
-/
import Derived.Test.YtiokgnabiidlbaaFn6
namespace Go.Proofs.Ytiokgnabiidlbaa
open Go.RowKit

theorem maxTo_from (z : Int) (xs : List Int) (hz : xs[0]? = some z) (h0 : 0 ≤ z) : ∀ k, 1 ≤ k → maxTo z xs k = maxTo 0 xs k
  | 0, h => by omega
  | 1, _ => by
    show max z (xs.getD 0 0) = max 0 (xs.getD 0 0)
    simp [List.getD, hz]
    omega
  | k + 2, _ => by
    have := maxTo_from z xs hz h0 (k + 1) (by omega)
    show max (maxTo z xs (k + 1)) _ = max (maxTo 0 xs (k + 1)) _
    rw [this]
theorem maxTo_nonneg (xs : List Int) : ∀ k, 0 ≤ maxTo 0 xs k
  | 0 => Int.le_refl _
  | k + 1 => by
    have := maxTo_nonneg xs k
    show 0 ≤ max (maxTo 0 xs k) _
    omega
/-- what CoverTime answers -/
noncomputable def coverR (n : Int) (g : Bool) (xs : List Int) : Int × Bool := if walkD n g xs = true ∧ (-1 : Int) ∉ firsts n xs then (maxTo 0 (firsts n xs) n.toNat, true) else (0, false)
def CvRel (n : Int) (g : Bool) (xs : List Int) (base : Nat) (w : World) (m i : Value) (wr : World) : Prop :=
  Boxed base n g w wr ∧ ∃ k : Nat, k ≤ n.toNat ∧ i = .int .i64 k ∧ m = .int .i64 (maxTo 0 (firsts n xs) k) ∧ ∀ j, j < k → 0 ≤ firstI xs j
theorem no_neg {n : Int} {xs : List Int} (h : ∀ j : Nat, j < n.toNat → 0 ≤ firstI xs j) : (-1 : Int) ∉ firsts n xs := by
  intro hm
  obtain ⟨k, hk, he⟩ := List.getElem_of_mem hm
  have hk2 : k < n.toNat := by rw [firsts_len] at hk; exact hk
  have h1 := firsts_at n xs k hk2
  rw [List.getElem?_eq_getElem hk, he] at h1
  have h2 := h k hk2
  have h3 := Option.some.inj h1
  omega
theorem maxTo_le (xs : List Int) (b : Int) (hb : 0 ≤ b) (h : ∀ x ∈ xs, x ≤ b) : ∀ k, maxTo 0 xs k ≤ b
  | 0 => hb
  | k + 1 => by
    have := maxTo_le xs b hb h k
    show max (maxTo 0 xs k) (xs.getD k 0) ≤ b
    by_cases hk : k < xs.length
    · have h2 := h _ (List.getElem_mem hk)
      have e : xs.getD k 0 = xs[k] := by simp [List.getD, hk]
      omega
    · have e : xs.getD k 0 = 0 := by simp [List.getD, hk]
      omega
theorem firsts_le (n : Int) (xs : List Int) : ∀ x ∈ firsts n xs, x ≤ xs.length := by
  intro x hx
  obtain ⟨k, hk, he⟩ := List.getElem_of_mem hx
  have hk2 : k < n.toNat := by rw [firsts_len] at hk; exact hk
  have h1 := firsts_at n xs k hk2
  rw [List.getElem?_eq_getElem hk, he] at h1
  have := firstI_range xs k
  have h3 := Option.some.inj h1
  omega
set_option maxHeartbeats 800000 in
theorem spec_CoverTime (n : Int) (g : Bool) (v : Value) (xs : List Int) (w : World) (hv : ReadsI w v xs) :
    Calls Try.prog 22 #[rd n g, v] w fun e w' => e = .returned (.tuple #[.int .i64 (coverR n g xs).1, .bool (coverR n g xs).2]) ∧ Below w.heap.size w w' := by
  have HF := Lib.hid (fun v p w hv => l2First_any v xs p w hv)
  have HM := Lib.hid (fun a b w => l1Most_any a b w)
  have HX := Lib.hid (Boxed.first w n g 25)
  have HV := Lib.hid hv
  have HVB := Lib.hid (hv.below (below_new w (.cells #[.int .i64 n, .bool g] 25)))
  obtain ⟨y, c, hvv, hc, hm, hx⟩ := hv
  subst hvv
  unfold maxLen at hm
  have HL := Lib.hid hx
  clear hx
  have HW := Lib.hid (fun v w hv => l2Walk_is n g v xs w hv)
  unfold rd at *
  go_enter Try.func22, Try.ntmps22
  go_wp2_with fail
  refine (HW.out _ _ HVB.out).mono ?_
  rintro e w1 ⟨rfl, hb⟩
  have HX := Lib.hid (HX.out.next hb)
  clear hb
  cases hw : walkD n g xs
  · go_wp2_with fail
    go_ret2
    exact ⟨ret_R (if_neg (fun h => by rw [hw] at h; cases h.1)), HX.out.below⟩
  · have hwk := (walkD_iff n g xs).1 hw
    have hn := (roadB_iff n g).1 hwk.1
    have hn1 := hn.1
    have hn2 := hn.2.1
    have hl61 := hwk.2.2.1
    have HK := Lib.hid hw
    clear hwk hn hw
    go_wp2_with fail
    go_loopw [4, 5, 6, 7] (fun r s m i wr => r = .int .i64 0 ∧ s = .bool false ∧ CvRel n g xs w.heap.size w m i wr) (fun _ _ _ i _ => n.toNat - (intOf i).toNat)
    case atStart => exact ⟨rfl, rfl, HX.out, 0, Nat.zero_le _, rfl, rfl, fun j hj => by omega⟩
    case round =>
      obtain ⟨rfl, rfl, hx, k, hk, rfl, rfl, hpre⟩ := hrel
      clear HX
      have HX := Lib.hid hx
      have HP := Lib.hid hpre
      have h0 := HX.out.c0
      clear hx hpre
      by_cases hlt : (k : Int) < n
      · go_wp2_with fail
        refine (HF.out _ k _ (HV.out.below HX.out.below)).mono ?_
        rintro e w2 ⟨rfl, rfl⟩
        have hfr := firstI_range xs k
        have hat := firsts_at n xs k (by omega)
        have hmx : maxTo 0 (firsts n xs) (k + 1) = max (maxTo 0 (firsts n xs) k) (firstI xs k) := by
          show max (maxTo 0 (firsts n xs) k) ((firsts n xs).getD k 0) = _
          simp [List.getD, hat]
        have HMX := Lib.hid hmx
        have HAT := Lib.hid hat
        clear hmx hat
        by_cases hneg : firstI xs k < 0
        · have hm : (-1 : Int) ∈ firsts n xs := by
            have h1 := List.mem_of_getElem? HAT.out
            rwa [show firstI xs k = -1 by omega] at h1
          have HMM := Lib.hid hm
          clear hm
          go_wp2_with fail
          go_ret2
          exact ⟨ret_R (if_neg (fun h => h.2 HMM.out)), HX.out.below⟩
        · go_wp2_with fail
          refine (HM.out _ _ _).mono ?_
          rintro e w3 ⟨rfl, rfl⟩
          go_wp2_with fail
          go_roundw
          case rel =>
            refine ⟨rfl, rfl, HX.out, k + 1, by omega, by go_num, by rw [HMX.out], fun j hj => ?_⟩
            rcases Nat.lt_succ_iff_lt_or_eq.1 hj with hj | rfl
            · exact HP.out j hj
            · omega
          case measure => simp [intOf] <;> omega
      · have hke : k = n.toNat := by omega
        have HE := Lib.hid hke
        clear hke
        go_wp2_with fail
        go_ret2
        refine ⟨ret_R ?_, HX.out.below⟩
        have hE := HE.out
        unfold coverR
        rw [if_pos ⟨HK.out, no_neg (fun j hj => HP.out j (by omega))⟩, hE]
/-- what greatestTime answers -/
noncomputable def grtR (xs : List Int) (ok : Bool) : Int × Bool := if ok = true ∧ (-1 : Int) ∉ xs then (maxTo (xs.getD 0 0) xs xs.length, true) else (0, false)
theorem grtR_no {xs : List Int} : grtR xs false = (0, false) := if_neg (fun h => by cases h.1)
theorem grtR_neg {xs : List Int} {ok : Bool} (h : (-1 : Int) ∈ xs) : grtR xs ok = (0, false) := if_neg (fun h2 => h2.2 h)
theorem grtR_yes {xs : List Int} (h : (-1 : Int) ∉ xs) (hge : ∀ x ∈ xs, -1 ≤ x) (hl : 1 ≤ xs.length) : grtR xs true = (maxTo 0 xs xs.length, true) := by
  obtain ⟨z, hz⟩ := get_some (xs := xs) (k := 0) (by omega)
  have hm := List.mem_of_getElem? hz
  have h0 : 0 ≤ z := by
    have h1 := hge z hm
    by_cases h3 : z = -1
    · exact absurd (h3 ▸ hm) h
    · omega
  unfold grtR
  rw [if_pos ⟨rfl, h⟩, show xs.getD 0 0 = z by simp [List.getD, hz], maxTo_from z xs hz h0 xs.length hl]
set_option maxHeartbeats 800000 in
theorem greatest_any (v : Value) (xs : List Int) (ok : Bool) (w : World) (hv : ReadsI w v xs) (hl : ok = true → 1 ≤ xs.length) :
    Calls Try.prog 59 #[v, .bool ok] w fun e w' => e = .returned (.tuple #[.int .i64 (grtR xs ok).1, .bool (grtR xs ok).2]) ∧ w' = w := by
  have HCO := Lib.hid (fun w hv => contains_any v xs (-1) w hv)
  have HMA := Lib.hid (fun z w hv hz => max_any v xs z w hv hz)
  have HV := Lib.hid hv
  clear hv
  cases ok
  · have HR := Lib.hid (grtR_no (xs := xs))
    go_enter Try.func59, Try.ntmps59
    go_wp2_with fail
    go_ret2
    exact ⟨ret_R HR.out, rfl⟩
  · have hl1 := hl rfl
    obtain ⟨z, hz⟩ := get_some (xs := xs) (k := 0) (by omega)
    have HZ := Lib.hid hz
    have HZD := Lib.hid (show xs.getD 0 0 = z by simp [List.getD, hz])
    clear hl hz
    go_enter Try.func59, Try.ntmps59
    go_wp2_with fail
    refine (HCO.out _ HV.out).mono ?_
    rintro e w2 ⟨rfl, rfl⟩
    by_cases hneg : (-1 : Int) ∈ xs
    · have h0 : 0 ≤ firstI xs (-1) := by
        have h1 := firstI_range xs (-1)
        have h2 := firstI_neg xs (-1)
        by_cases h3 : firstI xs (-1) = -1
        · exact absurd hneg (h2.1 h3)
        · omega
      have hd : decide (0 ≤ firstI xs (-1)) = true := by simp [h0]
      have HR := Lib.hid (grtR_neg (ok := true) hneg)
      clear hneg h0
      rw [hd]
      clear hd
      go_wp2_with fail
      go_ret2
      exact ⟨ret_R HR.out, rfl⟩
    · have h0 := (firstI_neg xs (-1)).2 hneg
      have hd : decide (0 ≤ firstI xs (-1)) = false := by rw [h0]; rfl
      have HR := Lib.hid (show grtR xs true = (maxTo z xs xs.length, true) by unfold grtR; rw [if_pos ⟨rfl, hneg⟩, HZD.out])
      clear hneg h0
      rw [hd]
      clear hd
      go_wp2_with fail
      refine (HMA.out z _ HV.out HZ.out).mono ?_
      rintro e w2 ⟨rfl, rfl⟩
      go_wp2_with fail
      go_ret2
      exact ⟨ret_R HR.out, rfl⟩
theorem firsts_ge (n : Int) (xs : List Int) : ∀ x ∈ firsts n xs, -1 ≤ x := by
  intro x hx
  obtain ⟨k, hk, he⟩ := List.getElem_of_mem hx
  have hk2 : k < n.toNat := by rw [firsts_len] at hk; exact hk
  have h1 := firsts_at n xs k hk2
  rw [List.getElem?_eq_getElem hk, he] at h1
  have := firstI_range xs k
  have h3 := Option.some.inj h1
  omega
theorem cover_grt (n : Int) (g : Bool) (xs : List Int) : grtR (visitsR n g xs).1 (visitsR n g xs).2 = coverR n g xs := by
  unfold visitsR coverR
  by_cases hw : walkD n g xs = true
  · rw [if_pos hw]
    have hn := (roadB_iff n g).1 ((walkD_iff n g xs).1 hw).1
    have hfl := firsts_len n xs
    by_cases hneg : (-1 : Int) ∈ firsts n xs
    · rw [if_neg (fun h => h.2 hneg)]
      exact grtR_neg hneg
    · rw [if_pos ⟨hw, hneg⟩]
      have h := grtR_yes hneg (firsts_ge n xs) (by omega)
      rw [hfl] at h
      exact h
  · rw [if_neg hw, if_neg (fun h => hw h.1)]
    exact grtR_no
set_option maxHeartbeats 800000 in
theorem impl_CoverTime (n : Int) (g : Bool) (v : Value) (xs : List Int) (w : World) (hv : ReadsI w v xs) :
    Calls Try.prog 21 #[rd n g, v] w fun e w' => e = .returned (.tuple #[.int .i64 (coverR n g xs).1, .bool (coverR n g xs).2]) ∧ Below w.heap.size w w' := by
  have HFV := Lib.hid (fun w hv => impl_FirstVisits n g v xs w hv)
  have HGR := Lib.hid (fun v w hv hl => greatest_any v (visitsR n g xs).1 (visitsR n g xs).2 w hv hl)
  have HX0 := Lib.hid (Boxed.first w n g 25)
  have HVB := Lib.hid (hv.below (below_new w (.cells #[.int .i64 n, .bool g] 25)))
  have HEQ := Lib.hid (cover_grt n g xs)
  have HLN := Lib.hid (visitsR_len n g xs)
  have HL1 : Hid ((visitsR n g xs).2 = true → 1 ≤ (visitsR n g xs).1.length) := Lib.hid (by
    unfold visitsR
    by_cases hw : walkD n g xs = true
    · rw [if_pos hw]
      have hn := (roadB_iff n g).1 ((walkD_iff n g xs).1 hw).1
      have hfl := firsts_len n xs
      intro _
      show 1 ≤ (firsts n xs).length
      omega
    · rw [if_neg hw]
      intro h
      cases h)
  clear hv
  generalize visitsR n g xs = R at *
  obtain ⟨zs, b⟩ := R
  unfold rd at *
  go_enter Try.func21, Try.ntmps21
  go_wp2_with fail
  refine (HFV.out _ HVB.out).mono ?_
  rintro e w1 ⟨u, rfl, ho, hb⟩
  have HX := Lib.hid (HX0.out.next hb)
  have HO := Lib.hid ho
  clear hb HX0 ho
  go_wp2_with fail
  refine (HGR.out u _ (owns_reads HO.out (by have h9 := HLN.out; unfold maxLen; omega)) HL1.out).mono ?_
  rintro e w2 ⟨rfl, rfl⟩
  go_wp2_with fail
  go_ret2
  exact ⟨ret_R (by rw [← HEQ.out]), HX.out.below⟩
end Go.Proofs.Ytiokgnabiidlbaa
