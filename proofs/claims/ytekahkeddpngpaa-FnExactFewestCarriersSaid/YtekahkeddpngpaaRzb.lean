/-
  What is proved: FewestCarriers of the model and of the program. Conditions: a slice that reads as a list of carriers.
-/
import Derived.Test.YtekahkeddpngpaaRza
import Derived.Test.YtekahkeddpngpaaRlv
import Derived.Test.YtekahkeddpngpaaRye
namespace Go.Proofs.Ytekahkeddpngpaa
open Go.RowKit
set_option linter.unusedVariables false
set_option linter.unusedSimpArgs false

/-- what FewestCarriers answers -/
def fewR (n : Int) (g : Bool) (cs : List Cr) (a b : Int) : Int × Bool := (((roR n g cs a b).1.length : Int), (roR n g cs a b).2)
theorem fewR_no {n : Int} {g : Bool} {cs : List Cr} {a b : Int} (h : askB n g cs a b = false) : fewR n g cs a b = (0, false) := by
  unfold fewR
  rw [roR_no h]
  rfl
theorem fewR_yes {n : Int} {g : Bool} {cs : List Cr} {a b : Int} (h : askB n g cs a b = true) (hl : cs.length ≤ 6) : fewR n g cs a b = (max (fewS n cs a b (2 ^ cs.length)) 0, decide (0 ≤ fewS n cs a b (2 ^ cs.length))) := by
  have e := few_ro (n := n) (cs := cs) (a := a) (b := b) hl
  unfold fewR
  cases hr : roF n cs a b with
  | none =>
    rw [hr] at e
    rw [roR_none h hr, e]
    rfl
  | some o =>
    rw [hr] at e
    rw [roR_some h hr, e]
    show ((o.length : Int), true) = _
    have h1 : max (o.length : Int) 0 = o.length := by omega
    have h2 : (0 : Int) ≤ o.length := by omega
    simp only [h1, h2, decide_true]
theorem cnt_le (c : Nat) : ∀ i, cntF c i ≤ i
  | 0 => Int.le_refl _
  | i + 1 => by
    have := cnt_le c i
    unfold cntF
    split <;> omega
theorem cnt_yes {c i : Nat} (h : c.testBit i = true) : cntF c (i + 1) = cntF c i + 1 := by simp [cntF, h]
theorem cnt_no {c i : Nat} (h : c.testBit i = false) : cntF c (i + 1) = cntF c i := by simp [cntF, h]
theorem few_le (n : Int) (cs : List Cr) (a b : Int) : ∀ k, fewS n cs a b k ≤ cs.length
  | 0 => by unfold fewS; omega
  | k + 1 => by
    have := few_le n cs a b k
    have := cnt_le k cs.length
    unfold fewS
    split <;> omega
theorem bit_vals : ∀ k : Fin 64, ∀ q : Fin 6, bits .and .i64 ((k.val : Int) / (2 : Int) ^ q.val) 1 = if k.val.testBit q.val then 1 else 0 := by decide +kernel
theorem val_yes {k q : Nat} (hk : k < 64) (hq : q < 6) (h : k.testBit q = true) : bits .and .i64 ((k : Int) / (2 : Int) ^ q) 1 = 1 := by
  have := bit_vals ⟨k, hk⟩ ⟨q, hq⟩
  simpa [h] using this
theorem val_no {k q : Nat} (hk : k < 64) (hq : q < 6) (h : k.testBit q = false) : bits .and .i64 ((k : Int) / (2 : Int) ^ q) 1 = 0 := by
  have := bit_vals ⟨k, hk⟩ ⟨q, hq⟩
  simpa [h] using this
theorem l7Told_any (z : Int) (w : World) (hz : -1 ≤ z ∧ z ≤ 1048576) :
    Calls Try.prog 40 #[.int .i64 z] w fun e w' => e = .returned (.tuple #[.int .i64 (max z 0), .bool (decide (0 ≤ z))]) ∧ w' = w := by
  have hm := fun w => l1Most_any z 0 w
  go_enter Try.func40, Try.ntmps40
  go_wp2_with (go_at_call 66; refine (hm _).mono ?_; rintro e w' ⟨rfl, rfl⟩)
  go_ret2
  first | exact ⟨rfl, rfl⟩ | trace_state
def FcRel (n : Int) (cs : List Cr) (a b : Int) (base : Nat) (w : World) (v10 z i : Value) (wr : World) : Prop :=
  Boxed base n false w wr ∧ wr.ownsRow base 3 1 v10 (2 ^ cs.length) ((tabF n cs a (2 ^ cs.length)).map iv) ∧ ∃ k : Nat, k ≤ 2 ^ cs.length ∧ i = .int .i64 k ∧ z = .int .i64 (fewS n cs a b k)
theorem fc_next {n : Int} {cs : List Cr} {a b x z m : Int} {k : Nat} (hx : tvF n cs a k = x) (hz : fewS n cs a b k = z) (hm : cntF k cs.length = m) : fewS n cs a b (k + 1) = if b ≤ x ∧ (z < 0 ∨ m < z) then m else z := by
  subst hx hz hm
  rfl
set_option maxHeartbeats 3200000 in
set_option maxRecDepth 20000 in
theorem spec_FewestCarriers (n : Int) (g : Bool) (v : Value) (cs : List Cr) (a b : Int) (w : World) (hv : ReadsC w v cs) :
    Calls Try.prog 30 #[rd n g, v, .int .i64 a, .int .i64 b] w fun e w' => e = .returned (.tuple #[.int .i64 (fewR n g cs a b).1, .bool (fewR n g cs a b).2]) ∧ Below w.heap.size w w' := by
  have HA := Lib.hid (fun w hv => l7Asks_any n g v cs a b w hv)
  have HT := Lib.hid (fun w hv hc ha => l7Table_any n v cs a w hv hc ha)
  have HTD := Lib.hid (fun z w hz => l7Told_any z w hz)
  have H1 := Lib.hid hv
  have HX := Lib.hid (Boxed.first w n g 27)
  have HNO := Lib.hid (fun h => fewR_no (n := n) (g := g) (cs := cs) (a := a) (b := b) h)
  have HYE := Lib.hid (fun h hl => fewR_yes (n := n) (g := g) (cs := cs) (a := a) (b := b) h hl)
  obtain ⟨y1, c1, hv1, _, hm1, _⟩ := hv
  subst hv1
  clear hm1
  unfold rd at *
  go_enter Try.func30, Try.ntmps30
  go_wp2_with fail
  refine (HA.out _ (H1.out.below HX.out.below)).mono ?_
  rintro e w1 ⟨rfl, hb⟩
  replace HX := Lib.hid (HX.out.next hb)
  clear hb
  have h0 := HX.out.c0
  have h1 := HX.out.c1
  cases hk : askB n g cs a b
  · have HE := Lib.hid (HNO.out hk)
    clear hk
    go_wp2_with fail
    go_ret2
    rw [HE.out]
    exact ⟨rfl, HX.out.below⟩
  · have HOK := Lib.hid (ask_ok hk)
    have hg := (ask_ok hk).1
    subst hg
    have hl6 := HOK.out.2.1.2.1
    have HE := Lib.hid (HYE.out hk hl6)
    have hp6 := pow_le hl6
    have haa : 0 ≤ a ∧ a < n := by have := HOK.out.2.2; omega
    clear hk
    go_wp2_with fail
    refine (HT.out _ (H1.out.below HX.out.below) HOK.out.2.1 ?ha).mono ?_
    case ha => exact haa
    rintro e w2 ⟨v10, rfl, ho, hb⟩
    have HO := Lib.hid (owns_lower ho HX.out.below.size)
    replace HX := Lib.hid (HX.out.next hb)
    obtain ⟨oa, oc, hos, hog⟩ := owns_shape HO.out
    subst hos
    obtain ⟨g9, rfl, _⟩ := hog (Nat.two_pow_pos _)
    obtain ⟨PP, hPP⟩ : ∃ PP, 2 ^ cs.length = PP := ⟨_, rfl⟩
    have HPP := Lib.hid hPP
    have HS := Lib.hid (show FcRel n cs a b w.heap.size w (.slice (some ⟨g9, 0, none⟩) PP oc) (.int .i64 (-1)) (.int .i64 0) w2 from by rw [← hPP]; exact ⟨HX.out, HO.out, 0, Nat.zero_le _, rfl, rfl⟩)
    have HTL := Lib.hid (show (tabF n cs a PP).length = PP from tabF_len n cs a PP)
    have HTR := Lib.hid (tabF_range HOK.out.2.1 haa (2 ^ cs.length) (Nat.le_refl _))
    rw [hPP] at hp6 ⊢
    clear ho hb HO HX h0 h1 hPP
    go_wp2_with fail
    go_loopw [11, 12] (fun z i wr => FcRel n cs a b w.heap.size w (.slice (some ⟨g9, 0, none⟩) PP oc) z i wr) (fun _ i _ => PP - (intOf i).toNat)
    case atStart => exact HS.out
    case round =>
      clear HS
      obtain ⟨hx, ho, k, hk, rfl, rfl⟩ := hrel
      rw [HPP.out] at hk ho
      have HX := Lib.hid hx
      have HO := Lib.hid ho
      clear hx ho
      have HFR := Lib.hid (few_range n cs a b k)
      have HFL := Lib.hid (few_le n cs a b k)
      obtain ⟨z, hz⟩ : ∃ z, fewS n cs a b k = z := ⟨_, rfl⟩
      have HZ := Lib.hid hz
      rw [hz] at HFR HFL ⊢
      have hz1 := HFR.out
      have hz2 := HFL.out
      clear hz
      by_cases hlt : k < PP
      · have hlt1 : (k : Int) < PP := by omega
        go_wp2_with fail
        go_loopw [13, 14] (fun q i wr2 => wr2 = wr ∧ ∃ j : Nat, j ≤ cs.length ∧ i = .int .i64 j ∧ q = .int .i64 (cntF k j)) (fun _ i _ => cs.length - (intOf i).toNat)
        case atStart => exact ⟨rfl, 0, Nat.zero_le _, rfl, rfl⟩
        case round =>
          obtain ⟨hwx, j, hj, rfl, rfl⟩ := hrel
          have hwx2 := hwx.symm
          subst hwx2
          have hc1 := cnt_nn k j
          have hc2 := cnt_le k j
          by_cases hjl : j < cs.length
          · have hjl1 : (j : Int) < cs.length := by omega
            cases hbt : k.testBit j
            · have hb1 := val_no (by omega) (by omega) hbt
              have HNX := Lib.hid (cnt_no hbt)
              clear hbt
              go_wp2_with fail
              go_roundw
              case rel => exact ⟨by first | rfl | trivial, j + 1, by omega, by go_num, by rw [HNX.out]⟩
              case measure => simp [intOf] <;> omega
            · have hb1 := val_yes (by omega) (by omega) hbt
              have HNX := Lib.hid (cnt_yes hbt)
              clear hbt
              go_wp2_with fail
              go_roundw
              case rel => exact ⟨by first | rfl | trivial, j + 1, by omega, by go_num, by rw [HNX.out]⟩
              case measure => simp [intOf] <;> omega
          · have hjl1 : ¬ (j : Int) < cs.length := by omega
            have hje : j = cs.length := by omega
            subst hje
            obtain ⟨m, hm⟩ : ∃ m, cntF k cs.length = m := ⟨_, rfl⟩
            have HM := Lib.hid hm
            rw [hm] at hc1 hc2 ⊢
            obtain ⟨x, hx⟩ := get_some (xs := tabF n cs a PP) (k := k) (by rw [HTL.out]; exact hlt)
            have HTV := Lib.hid (show tvF n cs a k = x by rw [← tab_get n cs a k PP hlt]; simp [List.getD, hx])
            obtain ⟨y5, d5, e5, _, _, hrd⟩ := owns_reads (xs := tabF n cs a PP) (by rw [HTL.out]; exact HO.out) (by rw [HTL.out]; unfold maxLen; omega)
            obtain ⟨b5, o5, e6, hb5, hc5⟩ := hrd k x hx
            injection e5 with e5a e5b e5c
            subst e5a
            cases e6
            rw [Nat.zero_add] at hc5
            have HNX := Lib.hid (fc_next HTV.out HZ.out HM.out (b := b))
            have hk0 : 0 ≤ (k : Int) := by omega
            clear hm hx hrd e5b e5c
            by_cases hbx : b ≤ x
            · by_cases hz0 : z < 0
              · go_wp2_with fail
                go_roundw
                case rel => exact ⟨HX.out, by rw [HPP.out]; exact HO.out, k + 1, by rw [HPP.out]; omega, by go_num, by rw [HNX.out, if_pos ⟨by omega, by omega⟩]⟩
                case measure => simp [intOf] <;> omega
              · by_cases hmz : m < z
                · go_wp2_with fail
                  go_roundw
                  case rel => exact ⟨HX.out, by rw [HPP.out]; exact HO.out, k + 1, by rw [HPP.out]; omega, by go_num, by rw [HNX.out, if_pos ⟨by omega, by omega⟩]⟩
                  case measure => simp [intOf] <;> omega
                · go_wp2_with fail
                  go_roundw
                  case rel => exact ⟨HX.out, by rw [HPP.out]; exact HO.out, k + 1, by rw [HPP.out]; omega, by go_num, by rw [HNX.out, if_neg (by omega)]⟩
                  case measure => simp [intOf] <;> omega
            · go_wp2_with fail
              go_roundw
              case rel => exact ⟨HX.out, by rw [HPP.out]; exact HO.out, k + 1, by rw [HPP.out]; omega, by go_num, by rw [HNX.out, if_neg (by omega)]⟩
              case measure => simp [intOf] <;> omega
      · have hlt1 : ¬ (k : Int) < PP := by omega
        have hke : k = PP := by omega
        have HKE := Lib.hid hke
        clear hke
        go_wp2_with fail
        refine (HTD.out z _ (by omega)).mono ?_
        rintro e w3 ⟨rfl, rfl⟩
        go_wp2_with fail
        go_ret2
        rw [HE.out, HPP.out, ← HKE.out, HZ.out]
        exact ⟨rfl, HX.out.below⟩
theorem impl_FewestCarriers (n : Int) (g : Bool) (v : Value) (cs : List Cr) (a b : Int) (w : World) (hv : ReadsC w v cs) :
    Calls Try.prog 31 #[rd n g, v, .int .i64 a, .int .i64 b] w fun e w' => e = .returned (.tuple #[.int .i64 (fewR n g cs a b).1, .bool (fewR n g cs a b).2]) ∧ Below w.heap.size w w' := by
  have HRO := Lib.hid (fun w hv => impl_ReachOrder n g v cs a b w hv)
  have H1 := Lib.hid hv
  have HX := Lib.hid (Boxed.first w n g 27)
  have HE := Lib.hid (show fewR n g cs a b = (((roR n g cs a b).1.length : Int), (roR n g cs a b).2) from rfl)
  obtain ⟨y1, c1, hv1, _, hm1, _⟩ := hv
  subst hv1
  clear hm1
  unfold rd at *
  go_enter Try.func31, Try.ntmps31
  go_wp2_with fail
  refine (HRO.out _ (H1.out.below HX.out.below)).mono ?_
  rintro e w1 ⟨u, rfl, ho, hb⟩
  replace HX := Lib.hid (HX.out.next hb)
  obtain ⟨oa, oc, hos, _⟩ := owns_shape ho
  subst hos
  clear ho hb
  go_wp2_with fail
  go_ret2
  rw [HE.out]
  exact ⟨rfl, HX.out.below⟩
end Go.Proofs.Ytekahkeddpngpaa
