/-
  What is proved: the contracts of RunTime, the model's and the program's. Conditions: none.
-/
import Derived.Test.YtijhbhjapcfddaaExe
namespace Go.Proofs.Ytijhbhjapcfddaa
open Go.RowKit
set_option linter.unusedVariables false
set_option linter.unusedSimpArgs false

theorem rtimeR_no {n : Int} {g : Bool} {a x m : Int} {back : Bool} (h : ¬ (placeB n g a = true ∧ fitsB n g x m = true)) : rtimeR n g a x m back = (0, false) := by
  unfold rtimeR
  rw [if_neg (by rw [Bool.and_eq_true]; exact h)]
theorem rtimeR_yes {n : Int} {g : Bool} {a x m : Int} {back : Bool} (h1 : placeB n g a = true) (h2 : fitsB n g x m = true) : rtimeR n g a x m back = (runT n g a x m back, true) := by
  unfold rtimeR
  rw [if_pos (by rw [h1, h2]; rfl)]
set_option maxHeartbeats 800000 in
theorem spec_RunTime (n : Int) (g : Bool) (a x m : Int) (back : Bool) (w : World) :
    Calls Try.prog 28 #[rd n g, .int .i64 a, .int .i64 x, .int .i64 m, .bool back] w fun e w' => e = .returned (.tuple #[.int .i64 (rtimeR n g a x m back).1, .bool (rtimeR n g a x m back).2]) ∧ Below w.heap.size w w' := by
  have HP := Lib.hid (fun w => l2Place_any n g a w)
  have HF := Lib.hid (fun w => l6Fits_any n g x m w)
  have HT := Lib.hid (fun w ha hf => l6Time_any n g a x m back w ha hf)
  have HX := Lib.hid (Boxed.first w n g 27)
  unfold rd at *
  go_enter Try.func28, Try.ntmps28
  go_wp2_with fail
  refine (HP.out _).mono ?_
  rintro e w1 ⟨rfl, hb⟩
  have HX := Lib.hid (HX.out.next hb)
  have h0 := HX.out.c0
  have h1 := HX.out.c1
  clear hb
  cases hp : placeB n g a
  · have HR := Lib.hid (rtimeR_no (n := n) (g := g) (a := a) (x := x) (m := m) (back := back) (fun h => by rw [hp] at h; cases h.1))
    clear hp
    go_wp2_with fail
    go_ret2
    exact ⟨ret_R HR.out, HX.out.below⟩
  · have HPA := Lib.hid hp
    clear hp
    go_wp2_with fail
    refine (HF.out _).mono ?_
    rintro e w2 ⟨rfl, hb⟩
    have HX := Lib.hid (HX.out.next hb)
    clear hb h0 h1
    have h0 := HX.out.c0
    have h1 := HX.out.c1
    cases hf : fitsB n g x m
    · have HR := Lib.hid (rtimeR_no (n := n) (g := g) (a := a) (x := x) (m := m) (back := back) (fun h => by rw [hf] at h; cases h.2))
      clear hf
      go_wp2_with fail
      go_ret2
      exact ⟨ret_R HR.out, HX.out.below⟩
    · have HFF := Lib.hid hf
      have HR := Lib.hid (rtimeR_yes (back := back) HPA.out hf)
      clear hf
      go_wp2_with fail
      refine (HT.out _ ((placeB_iff n g a).1 HPA.out).2 HFF.out).mono ?_
      rintro e w3 ⟨rfl, hb⟩
      have HX := Lib.hid (HX.out.next hb)
      clear hb h0 h1
      go_wp2_with fail
      go_ret2
      exact ⟨ret_R HR.out, HX.out.below⟩
set_option maxHeartbeats 800000 in
theorem impl_RunTime (n : Int) (g : Bool) (a x m : Int) (back : Bool) (w : World) :
    Calls Try.prog 29 #[rd n g, .int .i64 a, .int .i64 x, .int .i64 m, .bool back] w fun e w' => e = .returned (.tuple #[.int .i64 (rtimeR n g a x m back).1, .bool (rtimeR n g a x m back).2]) ∧ Below w.heap.size w w' := by
  have HP := Lib.hid (fun v w hv => arePlaces_one n g a v w hv)
  have HF := Lib.hid (fun w => isRun_any n g x m w)
  have HT := Lib.hid (fun w ha hf => runTime_any n g a x m back w ha hf)
  have HX := Lib.hid (Boxed.first w n g 27)
  unfold rd at *
  go_enter Try.func29, Try.ntmps29
  go_wp2_with fail
  refine (HP.out _ _ (ints_one_kk _ (by simp))).mono ?_
  rintro e w1 ⟨rfl, hb⟩
  have HX := Lib.hid ((HX.out.next (below_new _ _)).next hb)
  have h0 := HX.out.c0
  have h1 := HX.out.c1
  clear hb
  cases hp : placeB n g a
  · have HR := Lib.hid (rtimeR_no (n := n) (g := g) (a := a) (x := x) (m := m) (back := back) (fun h => by rw [hp] at h; cases h.1))
    clear hp
    go_wp2_with fail
    go_ret2
    exact ⟨ret_R HR.out, HX.out.below⟩
  · have HPA := Lib.hid hp
    clear hp
    go_wp2_with fail
    refine (HF.out _).mono ?_
    rintro e w2 ⟨rfl, hb⟩
    have HX := Lib.hid (HX.out.next hb)
    clear hb h0 h1
    have h0 := HX.out.c0
    have h1 := HX.out.c1
    cases hf : fitsB n g x m
    · have HR := Lib.hid (rtimeR_no (n := n) (g := g) (a := a) (x := x) (m := m) (back := back) (fun h => by rw [hf] at h; cases h.2))
      clear hf
      go_wp2_with fail
      go_ret2
      exact ⟨ret_R HR.out, HX.out.below⟩
    · have HFF := Lib.hid hf
      have HR := Lib.hid (rtimeR_yes (back := back) HPA.out hf)
      clear hf
      go_wp2_with fail
      refine (HT.out _ ((placeB_iff n g a).1 HPA.out).2 HFF.out).mono ?_
      rintro e w3 ⟨rfl, hb⟩
      have HX := Lib.hid (HX.out.next hb)
      clear hb h0 h1
      go_wp2_with fail
      go_ret2
      exact ⟨ret_R HR.out, HX.out.below⟩
end Go.Proofs.Ytijhbhjapcfddaa
