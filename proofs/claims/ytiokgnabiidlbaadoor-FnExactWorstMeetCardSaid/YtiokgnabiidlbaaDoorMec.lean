/-
  What is proved: the contracts of the model's and the program's tests of labels and walkers. Conditions: slices that read as lists of numbers.
-/
import Derived.Test.YtiokgnabiidlbaaDoorMeb
namespace Go.Proofs.YtiokgnabiidlbaaDoor
open Go.RowKit
set_option linter.unusedVariables false
set_option linter.unusedSimpArgs false

theorem inB_any (x a b : Int) (w : World) :
    Calls Tryd.prog 31 #[.int .i64 x, .int .i64 a, .int .i64 b] w fun e w' => e = .returned (.bool (inB a b x)) ∧ w' = w :=
  (l1In_any x a b w).mono fun _ _ ⟨he, hw⟩ => ⟨he, hw.symm⟩
def l4MovesRel (xs : List Int) (r i : Value) : Prop := r = .bool false ∧ ∃ k : Nat, k ≤ xs.length ∧ k ≤ 25 ∧ i = .int .i64 k ∧ ∀ (j : Nat) x, j < k → xs[j]? = some x → -1 ≤ x ∧ x ≤ 1
set_option maxHeartbeats 400000 in
theorem l4Moves_any (v : Value) (xs : List Int) (w : World) (hv : ReadsI w v xs) :
    Calls Tryd.prog 32 #[v] w fun e w' => e = .returned (.bool (withB 24 (-1) 1 xs)) ∧ w' = w := by
  have HI := Lib.hid (fun x w => inB_any x (-1) 1 w)
  obtain ⟨y, c, rfl, hc, hm, hx⟩ := hv
  unfold maxLen at hm
  have HL := Lib.hid hx
  have HN := Lib.hid (fun w => inB_any xs.length 1 24 w)
  clear hx
  go_enter Tryd.func32, Tryd.ntmps32
  go_wp2
  go_loop [2, 3] (fun r i => l4MovesRel xs r i) (fun _ i => xs.length - (intOf i).toNat)
  case atStart => exact ⟨rfl, 0, Nat.zero_le _, Nat.zero_le _, rfl, fun j x hj => by omega⟩
  case round =>
    obtain ⟨rfl, k, hk, hk2, rfl, hpre⟩ := hrel
    have HP := Lib.hid hpre
    clear hpre
    by_cases hlt : k < xs.length
    · obtain ⟨x, hxk⟩ := get_some hlt
      obtain ⟨b, o, rfl, hbl, hcell⟩ := HL.out k x hxk
      have HK := Lib.hid hxk
      clear hxk
      have hi0 : 0 ≤ (k : Int) := by omega
      have hi1 : (k : Int) < xs.length := by omega
      by_cases h6 : k ≤ 24
      · have hi6 : (k : Int) ≤ 24 := by omega
        cases hb : inB (-1) 1 x
        · have HB := Lib.hid hb
          have HF := Lib.hid (withB_no (most := 24) (lo := -1) (hi := 1) (xs := xs) (fun h => by rw [(inB_iff _ _ _).2 (h.2.2 k x HK.out)] at hb; cases hb))
          clear hb
          go_wp2_with fail
          refine (HI.out _ _).mono ?_
          rw [HB.out]
          rintro e w1 ⟨rfl, rfl⟩
          go_wp2_with fail
          go_ret
          exact ⟨ret_bool HF.out.symm, rfl⟩
        · have HB := Lib.hid hb
          have HN2 := Lib.hid ((inB_iff _ _ _).1 hb)
          clear hb
          go_wp2_with fail
          refine (HI.out _ _).mono ?_
          rw [HB.out]
          rintro e w1 ⟨rfl, rfl⟩
          go_wp2_with fail
          go_round
          case rel =>
            refine ⟨rfl, k + 1, by omega, by omega, by go_num, fun j z hj hz => ?_⟩
            by_cases e : j = k
            · subst e
              rw [HK.out] at hz
              cases hz
              exact HN2.out
            · exact HP.out j z (by omega) hz
          case measure => simp [intOf]; omega
      · have hi6 : ¬ (k : Int) ≤ 24 := by omega
        have HF := Lib.hid (withB_no (most := 24) (lo := -1) (hi := 1) (xs := xs) (fun h => by omega))
        have HB := Lib.hid (inB_no (lo := 1) (hi := 24) (x := xs.length) (by omega))
        go_wp2_with fail
        refine (HN.out _).mono ?_
        rw [HB.out]
        rintro e w1 ⟨rfl, rfl⟩
        go_wp2_with fail
        go_ret
        exact ⟨ret_bool HF.out.symm, rfl⟩
    · have hke : k = xs.length := by omega
      have HE := Lib.hid hke
      have HB := Lib.hid (show inB 1 24 xs.length = withB 24 (-1) 1 xs by
        rw [Bool.eq_iff_iff, inB_iff, withB_iff]
        constructor
        · intro h
          exact ⟨by omega, h.2, fun j x hx => HP.out j x (by have := (List.getElem?_eq_some_iff.1 hx).1; omega) hx⟩
        · intro h
          exact ⟨by omega, h.2.1⟩)
      clear hke
      go_wp2_with fail
      refine (HN.out _).mono ?_
      rintro e w1 ⟨rfl, rfl⟩
      go_wp2_with fail
      go_ret
      exact ⟨ret_bool HB.out, rfl⟩
/-- a walker as a value -/
def wkv (k : Wk) (m : Value) : Value := .agg #[.int .i64 k.s, .int .i64 k.f, .int .i64 k.d, m]
/-- its cells -/
abbrev wkc (k : Wk) (m : Value) : Array Value := #[.int .i64 k.s, .int .i64 k.f, .int .i64 k.d, m]
theorem place_one_at {w : World} {a : Int} {t : TypeId} (k : Nat) (hk : w.heap.size = k) : ReadsI (w.alloc (.cells #[.int .i64 a] t)) (.slice (some ⟨k, 0, none⟩) 1 1) [a] := by
  subst hk
  refine ⟨_, 1, rfl, Nat.le_refl _, by simp [maxLen], fun j x hj => ?_⟩
  match j, hj with
  | 0, hj => cases hj; exact ⟨_, 0, rfl, by simp, by rw [cell_new]; rfl⟩
theorem inside_one (n : Int) (g : Bool) (a : Int) : (roadB n g = true ∧ Inside n [a]) ↔ placeB n g a = true := by
  rw [placeB_iff]
  constructor
  · intro h
    exact ⟨h.1, h.2 0 a rfl⟩
  · intro h
    refine ⟨h.1, fun j x hj => ?_⟩
    match j, hj with
    | 0, hj => cases hj; exact h.2
theorem places_1 (n : Int) (g : Bool) (a : Int) (v : Value) (w : World) (hv : ReadsI w v [a]) :
    Calls Tryd.prog 41 #[rd n g, v] w fun e w' => e = .returned (.bool (placeB n g a)) ∧ Below w.heap.size w w' :=
  (arePlaces_any n g v [a] w hv).mono fun _ _ ⟨_, he, hi, hb⟩ => ⟨by rw [he, bool_of_iff (hi.trans (inside_one n g a)) Iff.rfl], hb⟩
set_option maxHeartbeats 800000 in
theorem l4Walker_any (n : Int) (g : Bool) (k : Wk) (m : Value) (w : World) (hv : ReadsI w m k.ms) :
    Calls Tryd.prog 19 #[rd n g, wkv k m] w fun e w' => e = .returned (.bool (wkB n g k)) ∧ Below w.heap.size w w' := by
  obtain ⟨s, f, d, ms⟩ := k
  have HP := Lib.hid (fun w => l2Place_any n g s w)
  have HI := Lib.hid (fun w => inB_any d 0 60 w)
  have HM := Lib.hid (fun w hv => l4Moves_any m ms w hv)
  have HX := Lib.hid ((Boxed.first w n g 30).next (below_new _ (.cells #[.int .i64 s, .int .i64 f, .int .i64 d, m] 32)))
  have HB := Lib.hid (blk_at (w.alloc (.cells #[.int .i64 n, .bool g] 30)) #[.int .i64 s, .int .i64 f, .int .i64 d, m] 32 (w.heap.size + 1) (by simp))
  have HV := Lib.hid hv
  clear hv
  have HR := Lib.hid (show wkB n g ⟨s, f, d, ms⟩ = (placeB n g s && (facB f && (inB 0 60 d && withB 24 (-1) 1 ms))) from rfl)
  unfold wkv rd at *
  go_enter Tryd.func19, Tryd.ntmps19
  go_wp2_with fail
  refine (HP.out _).mono ?_
  rintro e w1 ⟨rfl, hb⟩
  have HX := Lib.hid (HX.out.next hb)
  have HB := Lib.hid (HB.out.below hb)
  clear hb
  have h1 := HB.out.cell 1
  have h2 := HB.out.cell 2
  have h3 := HB.out.cell 3
  cases hp : placeB n g s
  · go_wp2_with fail
    go_ret
    exact ⟨ret_bool (by rw [HR.out, hp]; rfl), HX.out.below⟩
  · by_cases hf : facB f = true
    · have hf2 := (facB_iff f).1 hf
      have HF := Lib.hid hf
      clear hf
      rcases hf2 with hf2 | hf2
      all_goals
        subst hf2
        go_wp2_with fail
        refine (HI.out _).mono ?_
        rintro e w2 ⟨rfl, rfl⟩
        cases hd : inB 0 60 d
        · go_wp2_with fail
          go_ret
          exact ⟨ret_bool (by rw [HR.out, hp, HF.out, hd]; rfl), HX.out.below⟩
        · go_wp2_with fail
          refine (HM.out _ (HV.out.below HX.out.below)).mono ?_
          rintro e w2 ⟨rfl, rfl⟩
          go_wp2_with fail
          go_ret
          exact ⟨ret_bool (by rw [HR.out, hp, HF.out, hd]; rfl), HX.out.below⟩
    · have hf0 : facB f = false := by simpa using hf
      have hf1 : ¬ f = 1 := fun h => hf ((facB_iff f).2 (.inl h))
      have hf2 : ¬ f = -1 := fun h => hf ((facB_iff f).2 (.inr h))
      have hf3 : (f == 1) = false := by simp [hf1]
      have hf4 : (f == -1) = false := by simp [hf2]
      have HF := Lib.hid hf0
      clear hf hf0
      go_wp2_with fail
      go_ret
      exact ⟨ret_bool (by rw [HR.out, hp, HF.out]; rfl), HX.out.below⟩
set_option maxHeartbeats 800000 in
theorem isOn_any (n : Int) (g : Bool) (k : Wk) (m : Value) (w : World) (hv : ReadsI w m k.ms) :
    Calls Tryd.prog 34 #[wkv k m, rd n g] w fun e w' => e = .returned (.bool (wkB n g k)) ∧ Below w.heap.size w w' := by
  obtain ⟨s, f, d, ms⟩ := k
  have HP := Lib.hid (fun v w hv => places_1 n g s v w hv)
  have HM := Lib.hid (fun w hv => areMoves_any m ms w hv)
  have HB := Lib.hid ((blk_new w #[.int .i64 s, .int .i64 f, .int .i64 d, m] 32).below (below_new _ (.cells #[.int .i64 n, .bool g] 30)))
  have HW := Lib.hid ((below_new w (.cells #[.int .i64 s, .int .i64 f, .int .i64 d, m] 32)).trans ((below_new _ (.cells #[.int .i64 n, .bool g] 30)).mono (by simp)))
  have HV := Lib.hid hv
  clear hv
  have HR := Lib.hid (show wkB n g ⟨s, f, d, ms⟩ = (placeB n g s && (facB f && (inB 0 60 d && withB 24 (-1) 1 ms))) from rfl)
  unfold wkv rd at *
  by_cases hf : facB f = true
  · have hf2 := (facB_iff f).1 hf
    have HF := Lib.hid hf
    clear hf
    rcases hf2 with hf2 | hf2
    all_goals
      subst hf2
      go_enter Tryd.func34, Tryd.ntmps34
      go_wp2_with fail
      refine (HP.out _ _ (place_one_at (w.heap.size + 1 + 1) (by simp))).mono ?_
      rintro e w1 ⟨rfl, hb⟩
      have HW := Lib.hid (HW.out.trans (((below_new _ _).trans (hb.mono (by simp))).mono (by simp; omega)))
      have HB := Lib.hid ((HB.out.below (below_new _ _)).below hb)
      clear hb
      have h2 := HB.out.cell 2
      have h3 := HB.out.cell 3
      cases hp : placeB n g s
      · go_wp2_with fail
        go_ret
        exact ⟨ret_bool (by rw [HR.out, hp]; rfl), HW.out⟩
      · by_cases hd : 0 ≤ d
        · by_cases hd2 : d ≤ 60
          · have HD := Lib.hid ((inB_iff 0 60 d).2 ⟨hd, hd2⟩)
            go_wp2_with fail
            refine (HM.out _ (HV.out.below HW.out)).mono ?_
            rintro e w2 ⟨rfl, rfl⟩
            go_wp2_with fail
            go_ret
            exact ⟨ret_bool (by rw [HR.out, hp, HF.out, HD.out]; rfl), HW.out⟩
          · have HD := Lib.hid (inB_no (lo := 0) (hi := 60) (x := d) (by omega))
            go_wp2_with fail
            go_ret
            exact ⟨ret_bool (by rw [HR.out, hp, HF.out, HD.out]; rfl), HW.out⟩
        · have HD := Lib.hid (inB_no (lo := 0) (hi := 60) (x := d) (by omega))
          go_wp2_with fail
          go_ret
          exact ⟨ret_bool (by rw [HR.out, hp, HF.out, HD.out]; rfl), HW.out⟩
  · have hf0 : facB f = false := by simpa using hf
    have hf1 : ¬ f = 1 := fun h => hf ((facB_iff f).2 (.inl h))
    have hf2 : ¬ f = -1 := fun h => hf ((facB_iff f).2 (.inr h))
    have hf3 : (f == 1) = false := by simp [hf1]
    have hf4 : (f == -1) = false := by simp [hf2]
    have HF := Lib.hid hf0
    clear hf hf0
    go_enter Tryd.func34, Tryd.ntmps34
    go_wp2_with fail
    go_ret
    exact ⟨ret_bool (by rw [HR.out, HF.out]; cases placeB n g s <;> rfl), HW.out⟩
end Go.Proofs.YtiokgnabiidlbaaDoor
