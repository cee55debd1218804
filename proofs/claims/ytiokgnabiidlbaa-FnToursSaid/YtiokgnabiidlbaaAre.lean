/-
  What is proved: the contract of impl.areWalks: it says whether all lists of a list are walks. Conditions: slices that read as lists of numbers.
-/
import Derived.Test.YtiokgnabiidlbaaWlk
namespace Go.Proofs.Ytiokgnabiidlbaa
open Go.RowKit

/-- v reads as a list of lists of numbers -/
def ReadsL (w : World) (v : Value) (xss : List (List Int)) : Prop :=
  ∃ a c, v = .slice a xss.length c ∧ xss.length ≤ c ∧ xss.length ≤ maxLen ∧ ∀ (j : Nat) xs, xss[j]? = some xs → ∃ b o u, a = some ⟨b, o, none⟩ ∧ b < w.heap.size ∧ w.cell? ⟨b, o + j, none⟩ = some u ∧ ReadsI w u xs
theorem ReadsL.below {w w' : World} {v : Value} {xss : List (List Int)} (h : ReadsL w v xss) (hb : Below w.heap.size w w') : ReadsL w' v xss := by
  obtain ⟨a, c, hv, hc, hm, hx⟩ := h
  refine ⟨a, c, hv, hc, hm, fun j x hj => ?_⟩
  obtain ⟨b, o, u, ha, hlt, hcell, hr⟩ := hx j x hj
  exact ⟨b, o, u, ha, Nat.lt_of_lt_of_le hlt hb.size, (hb.cell (p := ⟨b, o + j, none⟩) hlt).trans hcell, hr.below hb⟩
theorem walk_iff (n : Int) (g : Bool) (xs : List Int) : Walk n g xs ↔ 1 ≤ xs.length ∧ xs.length ≤ 61 ∧ (roadB n g = true ∧ Inside n xs) ∧ Chain n g xs :=
  ⟨fun h => ⟨h.2.1, h.2.2.1, ⟨h.1, h.2.2.2.1⟩, h.2.2.2.2⟩, fun h => ⟨h.2.2.1.1, h.1, h.2.1, h.2.2.1.2, h.2.2.2⟩⟩
def ArRel (n : Int) (g : Bool) (xss : List (List Int)) (base : Nat) (w : World) (r i : Value) (wr : World) : Prop :=
  r = .bool false ∧ Boxed base n g w wr ∧ ∃ k : Nat, k ≤ xss.length ∧ i = .int .i64 k ∧ ∀ (j : Nat) xs, j < k → xss[j]? = some xs → Walk n g xs
def AllWalks (n : Int) (g : Bool) (xss : List (List Int)) : Prop := roadB n g = true ∧ ∀ (j : Nat) xs, xss[j]? = some xs → Walk n g xs
set_option maxHeartbeats 800000 in
theorem areWalks_any (n : Int) (g : Bool) (v : Value) (xss : List (List Int)) (w : World) (hv : ReadsL w v xss) :
    Calls Try.prog 43 #[rd n g, v] w (Says (AllWalks n g xss) w) := by
  obtain ⟨a, c, rfl, hc, hm, hx⟩ := hv
  have HX := Lib.hid hx
  clear hx
  unfold maxLen at hm
  have HB := Lib.hid (Boxed.first w n g 25)
  have HRO := Lib.hid (fun w => isRoad_any n g w)
  have HAP := Lib.hid (fun v xs w hv => arePlaces_any n g v xs w hv)
  have HHS := Lib.hid (fun v xs w hv hr hl hi => hasSteps_any n g v xs w hv hr hl hi)
  unfold rd at *
  go_enter Try.func43, Try.ntmps43
  go_wp2_with fail
  go_loopw [4, 9] (fun r i wr => ArRel n g xss w.heap.size w r i wr) (fun _ i _ => xss.length - (intOf i).toNat)
  case atStart => exact ⟨rfl, HB.out, 0, Nat.zero_le _, rfl, fun j x hj => by omega⟩
  case round =>
    obtain ⟨rfl, hx, k, hk, rfl, hpre⟩ := hrel
    have HP := Lib.hid hpre
    have HW := Lib.hid hx
    obtain ⟨_, hxs, hx0, hx1⟩ := hx
    clear hpre HB
    by_cases hlt : k < xss.length
    · obtain ⟨xs, hxk⟩ := get_some hlt
      obtain ⟨b, o, u, rfl, hbl, hcu0, hru0⟩ := HX.out k xs hxk
      have hcu : wr.cell? ⟨b, o + k, none⟩ = some u := (HW.out.below.cell (p := ⟨b, o + k, none⟩) hbl).trans hcu0
      have HRU := Lib.hid (hru0.below (HW.out.below))
      obtain ⟨a', c', rfl, hc', hm', _⟩ := hru0
      have HK := Lib.hid hxk
      clear hxk hcu0
      unfold maxLen at hm'
      by_cases h0 : xs.length = 0
      · have h0' : ((xs.length : Int) == 0) = true := by simp [h0]
        go_wp2_with fail
        go_ret
        exact says_no (fun h => by have := (h.2 k xs HK.out).2.1; omega) HW.out.below
      · have h0' : ((xs.length : Int) == 0) = false := by simp [h0]
        by_cases h61 : 61 < xs.length
        · go_wp2_with fail
          go_ret
          exact says_no (fun h => by have := (h.2 k xs HK.out).2.2.1; omega) HW.out.below
        · go_wp2_with fail
          refine (HAP.out _ xs _ HRU.out).mono ?_
          rintro e w2 ⟨pb, rfl, hpb, hb2⟩
          have HW2 := Lib.hid (HW.out.next hb2)
          have HRU2 := Lib.hid (HRU.out.below hb2)
          have hz0 := HW2.out.c0
          have hz1 := HW2.out.c1
          clear hb2
          cases pb
          · have HF := Lib.hid hpb
            clear hpb
            go_wp2_with fail
            go_ret
            refine says_no (fun h => ?_) HW2.out.below
            have h2 := h.2 k xs HK.out
            exact absurd (HF.out.2 ⟨h2.1, h2.2.2.2.1⟩) Bool.false_ne_true
          · have hpl := hpb.1 rfl
            have HPL := Lib.hid hpl
            clear hpb hpl
            go_wp2_with fail
            refine (HHS.out _ xs _ HRU2.out HPL.out.1 (by omega) HPL.out.2).mono ?_
            rintro e w3 ⟨sb, rfl, hsb, hb3⟩
            have HW3 := Lib.hid (HW2.out.next hb3)
            clear hb3
            cases sb
            · have HF := Lib.hid hsb
              clear hsb
              go_wp2_with fail
              go_ret
              refine says_no (fun h => ?_) HW3.out.below
              exact absurd (HF.out.2 (h.2 k xs HK.out).2.2.2.2) Bool.false_ne_true
            · have HT := Lib.hid (hsb.1 rfl)
              clear hsb
              go_wp2_with fail
              go_roundw
              case rel =>
                refine ⟨rfl, HW3.out, k + 1, by omega, by go_num, fun j ys hj hy => ?_⟩
                rcases Nat.lt_succ_iff_lt_or_eq.1 hj with hj | rfl
                · exact HP.out j ys hj hy
                · have e := HK.out.symm.trans hy
                  cases e
                  exact ⟨HPL.out.1, by omega, by omega, HPL.out.2, HT.out⟩
              case measure => simp [intOf]; omega
    · go_wp2_with fail
      refine (HRO.out _).mono ?_
      rintro e w2 ⟨rfl, hb⟩
      have HZ := Lib.hid (HW.out.next hb)
      clear hb
      go_wp2_with fail
      go_ret
      exact ⟨_, rfl, ⟨fun h => ⟨h, fun j xs hj => HP.out j xs (by have := (List.getElem?_eq_some_iff.1 hj).1; omega) hj⟩, fun h => h.1⟩, HZ.out.below⟩
theorem allWalks_one (n : Int) (g : Bool) (xs : List Int) : AllWalks n g [xs] ↔ Walk n g xs := by
  constructor
  · intro h
    exact h.2 0 xs rfl
  · intro h
    refine ⟨h.1, fun j ys hj => ?_⟩
    match j, hj with
    | 0, hj => cases hj; exact h
theorem allWalks_two (n : Int) (g : Bool) (xs ys : List Int) : AllWalks n g [xs, ys] ↔ Walk n g xs ∧ Walk n g ys := by
  constructor
  · intro h
    exact ⟨h.2 0 xs rfl, h.2 1 ys rfl⟩
  · intro h
    refine ⟨h.1.1, fun j zs hj => ?_⟩
    match j, hj with
    | 0, hj => cases hj; exact h.1
    | 1, hj => cases hj; exact h.2
end Go.Proofs.Ytiokgnabiidlbaa
