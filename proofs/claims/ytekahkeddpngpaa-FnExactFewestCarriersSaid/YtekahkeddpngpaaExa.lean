/-
  What is proved: the contracts of the model's and the program's tests of explorers. Conditions: slices that read as lists of numbers.
-/
import Derived.Test.YtekahkeddpngpaaMec
namespace Go.Proofs.Ytekahkeddpngpaa
open Go.RowKit
set_option linter.unusedVariables false
set_option linter.unusedSimpArgs false

/-- a valid road and explorers on it -/
def startsB (n : Int) (g : Bool) (xs : List Int) : Bool := roadB n g && withB 4 0 (n - 1) xs
theorem startsB_iff (n : Int) (g : Bool) (xs : List Int) : startsB n g xs = true ↔ roadB n g = true ∧ 1 ≤ xs.length ∧ (xs.length : Int) ≤ 4 ∧ ∀ (j : Nat) x, xs[j]? = some x → 0 ≤ x ∧ x ≤ n - 1 := by
  unfold startsB
  rw [Bool.and_eq_true, withB_iff]
theorem startsB_no {n : Int} {g : Bool} {xs : List Int} (h : ¬ (roadB n g = true ∧ 1 ≤ xs.length ∧ (xs.length : Int) ≤ 4 ∧ ∀ (j : Nat) x, xs[j]? = some x → 0 ≤ x ∧ x ≤ n - 1)) : startsB n g xs = false := by
  cases hb : startsB n g xs
  · rfl
  · exact absurd ((startsB_iff n g xs).1 hb) h
theorem areExplorers_any (n : Int) (g : Bool) (v : Value) (xs : List Int) (w : World) (hv : ReadsI w v xs) :
    Calls Try.prog 54 #[rd n g, v] w fun e w' => e = .returned (.bool (startsB n g xs)) ∧ Below w.heap.size w w' := by
  have HRO := Lib.hid (fun w => isRoad_any n g w)
  have HW := Lib.hid (fun w hv => within_any v xs 4 0 (n - 1) w hv)
  have HX := Lib.hid (Boxed.first w n g 27)
  have HV := Lib.hid hv
  clear hv
  unfold rd at *
  go_enter Try.func54, Try.ntmps54
  go_wp2_with fail
  refine (HRO.out _).mono ?_
  rintro e w1 ⟨rfl, hb⟩
  have HX := Lib.hid (HX.out.next hb)
  have h0 := HX.out.c0
  clear hb
  cases hr : roadB n g
  · have HR := Lib.hid (show startsB n g xs = false by unfold startsB; rw [hr]; rfl)
    clear hr
    go_wp2_with fail
    go_ret
    exact ⟨ret_bool HR.out.symm, HX.out.below⟩
  · have HR := Lib.hid (show startsB n g xs = withB 4 0 (n - 1) xs by unfold startsB; rw [hr]; rfl)
    have hrr := (roadB_iff n g).1 hr
    have hn1 := hrr.1
    have hn2 := hrr.2.1
    have hwr : IntKind.i64.wrap (n - 1) = n - 1 := IntWalk.i64_in _ (by omega)
    clear hrr hr
    go_wp2_with fail
    refine (HW.out _ (HV.out.below HX.out.below)).mono ?_
    rintro e w2 ⟨rfl, rfl⟩
    go_wp2_with fail
    go_ret
    exact ⟨ret_bool HR.out.symm, HX.out.below⟩
def l6SRel (n : Int) (g : Bool) (xs : List Int) (base : Nat) (w : World) (r i : Value) (wr : World) : Prop :=
  r = .bool false ∧ Boxed base n g w wr ∧ ∃ k : Nat, k ≤ xs.length ∧ k ≤ 5 ∧ i = .int .i64 k ∧ ∀ (j : Nat) x, j < k → xs[j]? = some x → placeB n g x = true
set_option maxHeartbeats 800000 in
set_option maxRecDepth 20000 in
theorem l6Starts_any (n : Int) (g : Bool) (v : Value) (xs : List Int) (w : World) (hv : ReadsI w v xs) :
    Calls Try.prog 32 #[rd n g, v] w fun e w' => e = .returned (.bool (startsB n g xs)) ∧ Below w.heap.size w w' := by
  have HP := Lib.hid (fun p w => l2Place_any n g p w)
  have HRO := Lib.hid (fun w => l2Road_any n g w)
  have HIN := Lib.hid (fun w => inB_any xs.length 1 4 w)
  have HX := Lib.hid (Boxed.first w n g 27)
  have HV := Lib.hid hv
  obtain ⟨y, c, hvv, hc, hm, hx⟩ := hv
  subst hvv
  unfold maxLen at hm
  have HL := Lib.hid hx
  clear hx
  unfold rd at *
  go_enter Try.func32, Try.ntmps32
  go_wp2_with fail
  go_loopw [4, 5] (fun r i wr => l6SRel n g xs w.heap.size w r i wr) (fun _ i _ => xs.length - (intOf i).toNat)
  case atStart => exact ⟨rfl, HX.out, 0, Nat.zero_le _, Nat.zero_le _, rfl, fun j x hj => by omega⟩
  case round =>
    obtain ⟨rfl, hx, k, hk, hk2, rfl, hpre⟩ := hrel
    clear HX
    have HX := Lib.hid hx
    have HPR := Lib.hid hpre
    have h0 := HX.out.c0
    have h1 := HX.out.c1
    clear hx hpre
    by_cases hlt : k < xs.length
    · obtain ⟨x, hxk⟩ := get_some hlt
      obtain ⟨b, o, rfl, hbl, hcx0⟩ := HL.out k x hxk
      have hcx : wr.cell? ⟨b, o + k, none⟩ = some (.int .i64 x) := (HX.out.below.cell (p := ⟨b, o + k, none⟩) hbl).trans hcx0
      have HK := Lib.hid hxk
      have hi0 : 0 ≤ (k : Int) := by omega
      have hi1 : (k : Int) < xs.length := by omega
      clear hcx0 hxk
      by_cases h6 : k ≤ 4
      · have hi6 : (k : Int) ≤ 4 := by omega
        have HPP := Lib.hid (HP.out x)
        clear h0 h1
        go_wp2_with fail
        go_region_held3 (fun w' => Boxed w.heap.size n g w w' ∧ w'.cell? ⟨w.heap.size, 0, none⟩ = some (.int .i64 n) ∧ w'.cell? ⟨w.heap.size, 1, none⟩ = some (.bool g) ∧ w'.cell? ⟨b, o + k, none⟩ = some (.int .i64 x) ∧ w'.cell? ⟨b, o + k, none⟩ = some (.int .i64 x)) (first | exact hS | exact keep4_new HX.out hcx hcx) (first | (go_at_call 49; refine (HPP.out _).mono ?_; rintro e w2 ⟨rfl, hb⟩; have hS : Keep4 w.heap.size n g b (o + k) (o + k) (.int .i64 x) (.int .i64 x) w w2 := keep4 (by assumption) hbl hb; clear hb))
        have HX2 := Lib.hid hS.1
        clear hS hcx HX
        cases hpb : placeB n g x
        · have HR := Lib.hid (startsB_no (n := n) (g := g) (xs := xs) (fun h => absurd (((placeB_iff n g x).2 ⟨h.1, by have := h.2.2.2 k x HK.out; omega⟩).symm.trans hpb) (by simp)))
          clear hpb
          go_wp2_with fail
          go_ret
          exact ⟨ret_bool HR.out.symm, HX2.out.below⟩
        · have HPB := Lib.hid hpb
          clear hpb
          go_wp2_with fail
          go_roundw
          case rel =>
            refine ⟨rfl, HX2.out, k + 1, by omega, by omega, by go_num, fun j q hj hq => ?_⟩
            rcases Nat.lt_succ_iff_lt_or_eq.1 hj with hj | rfl
            · exact HPR.out j q hj hq
            · have e := HK.out.symm.trans hq
              cases e
              exact HPB.out
          case measure => simp [intOf] <;> omega
      · have hi6 : ¬ (k : Int) ≤ 4 := by omega
        have HR := Lib.hid (startsB_no (n := n) (g := g) (xs := xs) (fun h => by omega))
        have HB := Lib.hid (inB_no (lo := 1) (hi := 4) (x := xs.length) (by omega))
        clear hcx
        go_wp2_with fail
        refine (HRO.out _).mono ?_
        rintro e w1 ⟨rfl, hb⟩
        have HX := Lib.hid (HX.out.next hb)
        clear hb h0 h1
        cases hr : roadB n g
        · go_wp2_with fail
          go_ret
          exact ⟨ret_bool HR.out.symm, HX.out.below⟩
        · go_wp2_with fail
          refine (HIN.out _).mono ?_
          rw [HB.out]
          rintro e w1 ⟨rfl, rfl⟩
          go_wp2_with fail
          go_ret
          exact ⟨ret_bool HR.out.symm, HX.out.below⟩
    · have hke : k = xs.length := by omega
      have HE := Lib.hid hke
      have HB := Lib.hid (fun (hr : roadB n g = true) => show inB 1 4 xs.length = startsB n g xs by
        rw [Bool.eq_iff_iff, inB_iff, startsB_iff]
        constructor
        · intro h
          exact ⟨hr, by omega, h.2, fun j x hx => by have := ((placeB_iff n g x).1 (HPR.out j x (by have := (List.getElem?_eq_some_iff.1 hx).1; omega) hx)).2; omega⟩
        · intro h
          exact ⟨by omega, h.2.2.1⟩)
      clear hke
      go_wp2_with fail
      refine (HRO.out _).mono ?_
      rintro e w1 ⟨rfl, hb⟩
      have HX := Lib.hid (HX.out.next hb)
      clear hb h0 h1
      cases hr : roadB n g
      · have HR := Lib.hid (startsB_no (n := n) (g := g) (xs := xs) (fun h => by rw [hr] at h; cases h.1))
        go_wp2_with fail
        go_ret
        exact ⟨ret_bool HR.out.symm, HX.out.below⟩
      · have HR := Lib.hid (HB.out hr)
        go_wp2_with fail
        refine (HIN.out _).mono ?_
        rintro e w1 ⟨rfl, rfl⟩
        go_wp2_with fail
        go_ret
        exact ⟨ret_bool HR.out, HX.out.below⟩
end Go.Proofs.Ytekahkeddpngpaa
