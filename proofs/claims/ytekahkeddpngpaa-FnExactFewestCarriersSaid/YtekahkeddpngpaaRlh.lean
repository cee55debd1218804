/-
  What is proved: orders of carriers and their reach, and OrderReach, of the model and of the program. Conditions: lists that read as carriers and as numbers.
-/
import Derived.Test.YtekahkeddpngpaaRlf
import Derived.Test.YtekahkeddpngpaaRlg
import Derived.Test.YtekahkeddpngpaaRlc
import Derived.Test.YtekahkeddpngpaaHas
import Derived.Test.YtekahkeddpngpaaBlk
import Derived.Test.YtekahkeddpngpaaFn1
import Derived.Test.YtekahkeddpngpaaFn9
namespace Go.Proofs.Ytekahkeddpngpaa
open Go.RowKit
set_option linter.unusedVariables false
set_option linter.unusedSimpArgs false

/-- the value of an errand -/
abbrev erV (n : Int) (g : Bool) (v : Value) (a b : Int) : Value := .agg #[.int .i64 n, .bool g, v, .int .i64 a, .int .i64 b]
abbrev erC (n : Int) (g : Bool) (v : Value) (a b : Int) : Array Value := #[.int .i64 n, .bool g, v, .int .i64 a, .int .i64 b]
theorem reads_take {w : World} {a : Option Addr} {l c : Nat} {xs : List Int} (h : ReadsI w (.slice a l c) xs) {k : Nat} (hk : k ≤ xs.length) : ReadsI w (.slice a k c) (xs.take k) := by
  obtain ⟨a', c', e, hc, hm, hx⟩ := h
  cases e
  have hl : (xs.take k).length = k := by rw [List.length_take]; omega
  refine ⟨_, _, by rw [hl], by omega, by omega, fun j x hj => ?_⟩
  have hjk : j < k := by have := (List.getElem?_eq_some_iff.1 hj).1; omega
  exact hx j x (by rw [List.getElem?_take, if_pos hjk] at hj; exact hj)
theorem int_nat {x : Int} (h : 0 ≤ x) : ∃ j : Nat, x = (j : Int) := ⟨x.toNat, by omega⟩
set_option maxHeartbeats 800000 in
theorem isOrderE_any (n : Int) (g : Bool) (y1 : Option Addr) (m c1 : Nat) (a b : Int) (v : Value) (os : List Int) (w : World) (hv : ReadsI w v os) :
    Calls Try.prog 81 #[erV n g (.slice y1 m c1) a b, v] w fun e w' => e = .returned (.bool (ordC m os)) ∧ Below w.heap.size w w' := by
  have HC := Lib.hid (fun v xs (p : Int) w hv => contains_any v xs p w hv)
  have HV := Lib.hid hv
  have HB := Lib.hid (below_new w (.cells (erC n g (.slice y1 m c1) a b) 64))
  obtain ⟨y, c, hvv, hc, hmm, hx⟩ := hv
  subst hvv
  unfold maxLen at hmm
  have HL := Lib.hid hx
  clear hx
  unfold erV erC at *
  go_enter Try.func81, Try.ntmps81
  go_wp2_with fail
  go_loop [4, 9] (fun r i => r = .bool false ∧ ∃ k : Nat, k ≤ os.length ∧ i = .int .i64 k ∧ ordK m os k) (fun _ i => os.length - (intOf i).toNat)
  case atStart => exact ⟨rfl, 0, Nat.zero_le _, rfl, ordK_zero m os⟩
  case round =>
    obtain ⟨rfl, k, hk, rfl, hok⟩ := hrel
    have HOK := Lib.hid hok
    clear hok
    by_cases hlt : k < os.length
    · obtain ⟨x, hxk⟩ := get_some hlt
      obtain ⟨bb, o, rfl, hbl, hcell0⟩ := HL.out k x hxk
      have hcell : (w.alloc (.cells #[.int .i64 n, .bool g, .slice y1 m c1, .int .i64 a, .int .i64 b] 64)).cell? ⟨bb, o + k, none⟩ = some (.int .i64 x) := (HB.out.cell (p := ⟨bb, o + k, none⟩) hbl).trans hcell0
      have HK := Lib.hid hxk
      have HT := Lib.hid ((reads_take HV.out hk).below HB.out)
      have hi0 : 0 ≤ (k : Int) := by omega
      have hi1 : (k : Int) < os.length := by omega
      have hkc : (k : Int) ≤ c := by omega
      clear hxk hcell0
      by_cases h0 : x < 0
      · have HF := Lib.hid (ordC_range (m := m) HK.out (by omega))
        go_wp2_with fail
        go_ret
        exact ⟨ret_bool HF.out.symm, HB.out⟩
      · by_cases h1 : (m : Int) ≤ x
        · have HF := Lib.hid (ordC_range (m := m) HK.out (by omega))
          go_wp2_with fail
          go_ret
          exact ⟨ret_bool HF.out.symm, HB.out⟩
        · have HIN := Lib.hid (show 0 ≤ x ∧ x < (m : Int) by omega)
          go_wp2_with fail
          refine (HC.out _ (os.take k) x _ HT.out).mono ?_
          rintro e w1 ⟨rfl, rfl⟩
          have hfc := has_firstX (xs := os.take k) (p := x)
          rw [hfc]
          cases hct : (os.take k).contains x
          · have HCT := Lib.hid hct
            clear hct hfc
            go_wp2_with fail
            go_round
            case rel => exact ⟨rfl, k + 1, by omega, by go_num, ordK_next HOK.out HK.out HIN.out.1 HIN.out.2 HCT.out⟩
            case measure => simp [intOf]; omega
          · have HF := Lib.hid (ordC_twice (m := m) HK.out hct)
            clear hct hfc
            go_wp2_with fail
            go_ret
            exact ⟨ret_bool HF.out.symm, HB.out⟩
    · have hke : k = os.length := by omega
      subst hke
      have HF := Lib.hid (ordK_all HOK.out)
      go_wp2_with fail
      go_ret
      exact ⟨ret_bool HF.out.symm, HB.out⟩
set_option maxHeartbeats 800000 in
theorem isValidE_any (n : Int) (g : Bool) (v : Value) (cs : List Cr) (a b : Int) (w : World) (hv : ReadsC w v cs) :
    Calls Try.prog 71 #[erV n g v a b] w fun e w' => e = .returned (.bool (askB n g cs a b)) ∧ Below w.heap.size w w' := by
  have HA := Lib.hid (fun w hv => areCarriers_any n g v cs w hv)
  have HP := Lib.hid (fun v w hv => arePlaces_two n g a b v w hv)
  have HV := Lib.hid hv
  obtain ⟨y, c, hvv, _⟩ := hv
  subst hvv
  generalize cs.length = l at *
  have HW := Lib.hid (below_new w (.cells (erC n g (.slice y l c) a b) 64))
  have HE := Lib.hid (blk_new w (erC n g (.slice y l c) a b) 64)
  have HQ := Lib.hid (askB_iff n g cs a b)
  unfold erV erC at *
  go_enter Try.func71, Try.ntmps71
  go_wp2_with fail
  refine (HA.out _ (HV.out.below HW.out)).mono ?_
  rintro e w1 ⟨rfl, hb⟩
  replace HW := Lib.hid (HW.out.trans (hb.mono HW.out.size))
  replace HE := Lib.hid (HE.out.below hb)
  clear hb
  have e0 := HE.out.cell 0
  have e1 := HE.out.cell 1
  have e3 := HE.out.cell 3
  have e4 := HE.out.cell 4
  cases hc : csB n g cs
  · have HR := Lib.hid (askB_no (a := a) (b := b) (fun h => by rw [hc] at h; cases h.1))
    go_wp2_with fail
    go_ret
    exact ⟨ret_bool HR.out.symm, HW.out⟩
  · have HCS := Lib.hid hc
    have hst := (straightB_iff n g).1 ((csB_iff n g cs).1 hc).1
    have HST := Lib.hid hst
    have HRO := Lib.hid (show roadB n g = true from by have := ((csB_iff n g cs).1 hc).1; unfold straightB at this; cases hr : roadB n g <;> simp_all)
    clear hc hst
    go_wp2_with fail
    refine (HP.out _ _ (ints_two_at w1.heap.size rfl)).mono ?_
    rintro e w2 ⟨rfl, hb⟩
    replace HW := Lib.hid (HW.out.trans (((below_new _ _).trans (hb.mono (by simp))).mono HW.out.size))
    replace HE := Lib.hid ((HE.out.below (below_new _ _)).below hb)
    clear hb e0 e1 e3 e4
    have e3 := HE.out.cell 3
    have e4 := HE.out.cell 4
    cases hp : (placeB n g a && placeB n g b)
    · have HR := Lib.hid (askB_no (n := n) (g := g) (cs := cs) (a := a) (b := b) (fun h => by
        have h1 := (placeB_iff n g a).2 ⟨HRO.out, by omega⟩
        have h2 := (placeB_iff n g b).2 ⟨HRO.out, by omega⟩
        rw [h1, h2] at hp
        cases hp))
      clear hp
      go_wp2_with fail
      go_ret
      exact ⟨ret_bool HR.out.symm, HW.out⟩
    · rw [Bool.and_eq_true, placeB_iff, placeB_iff] at hp
      have HPL := Lib.hid hp
      clear hp
      by_cases hab : a ≤ b
      · have HR := Lib.hid (HQ.out.2 ⟨HCS.out, HPL.out.1.2.1, hab, HPL.out.2.2.2⟩)
        go_wp2_with fail
        go_ret
        exact ⟨ret_bool HR.out.symm, HW.out⟩
      · have HR := Lib.hid (askB_no (n := n) (g := g) (cs := cs) (a := a) (b := b) (fun h => by omega))
        go_wp2_with fail
        go_ret
        exact ⟨ret_bool (by rw [HR.out] <;> first | rfl | (simp; omega)), HW.out⟩
end Go.Proofs.Ytekahkeddpngpaa
