/-
  What is proved: WorstPlace of the model and of the program. Conditions: slices that read as lists of numbers of the row's length.
-/
import Derived.Test.YtnclfdfnhhicdaaSem
namespace Go.Proofs.Ytnclfdfnhhicdaa
open Go.RowKit
set_option linter.unusedVariables false
set_option linter.unusedSimpArgs false

/-- what WorstPlace answers -/
def worstR (n : Int) (g : Bool) (a : Int) (xs : List Int) (x : Int) : Int × Bool := if canB n g a x xs then ((wor (timT a x xs xs.length) a n).1, true) else (0, false)
theorem worstR_no {n : Int} {g : Bool} {a : Int} {xs : List Int} {x : Int} (h : canB n g a x xs = false) : worstR n g a xs x = (0, false) := by
  unfold worstR
  rw [if_neg (by rw [h]; exact Bool.false_ne_true)]
theorem worstR_yes {n : Int} {g : Bool} {a : Int} {xs : List Int} {x : Int} (h : canB n g a x xs = true) : worstR n g a xs x = ((wor (timT a x xs xs.length) a n).1, true) := by
  unfold worstR
  exact if_pos h
set_option maxHeartbeats 800000 in
set_option maxRecDepth 20000 in
theorem spec_WorstPlace (n : Int) (g : Bool) (a : Int) (v : Value) (xs : List Int) (x : Int) (w : World) (hv : ReadsI w v xs) (_hlen : xs.length ≤ 1048576) :
    Calls Try.prog 35 #[rd n g, .int .i64 a, v, .int .i64 x] w fun e w' => e = .returned (.tuple #[.int .i64 (worstR n g a xs x).1, .bool (worstR n g a xs x).2]) ∧ Below w.heap.size w w' := by
  have HG := Lib.hid (fun v w hv => l3Good_any n g a v xs w hv)
  have HE := Lib.hid (fun w => l3Extra_any x w)
  have HTI := Lib.hid (fun v w hv hl hs h0 h9 => l3Worst_any n a x v xs w hv hl hs h0 h9)
  have HX := Lib.hid (Boxed.first w n g 27)
  have HV := Lib.hid (hv.below (below_new w (.cells #[.int .i64 n, .bool g] 27)))
  obtain ⟨y, c, rfl, hc, hm, _⟩ := hv
  unfold maxLen at hm
  unfold rd at *
  go_enter Try.func35, Try.ntmps35
  go_wp2_with fail
  refine (HG.out _ _ HV.out).mono ?_
  rintro e w1 ⟨rfl, hb⟩
  have HX := Lib.hid (HX.out.next hb)
  have HV2 := Lib.hid (HV.out.below hb)
  clear hb HV
  cases hg : (lineB n g a && searchB n a xs)
  · have HR := Lib.hid (worstR_no (n := n) (g := g) (a := a) (xs := xs) (x := x) (by rw [← stimes_can, hg]; rfl))
    go_wp2_with fail
    go_ret2
    exact ⟨ret_R HR.out, HX.out.below⟩
  · have h0 := HX.out.c0
    have h1 := HX.out.c1
    go_wp2_with fail
    refine (HE.out _).mono ?_
    rintro e w2 ⟨rfl, hb⟩
    have HX := Lib.hid (HX.out.next hb)
    have HV3 := Lib.hid (HV2.out.below hb)
    clear hb h0 h1 HV2
    have h0 := HX.out.c0
    have h1 := HX.out.c1
    cases hx : (decide (0 ≤ x) && decide (x ≤ 9))
    · have HR := Lib.hid (worstR_no (n := n) (g := g) (a := a) (xs := xs) (x := x) (by rw [← stimes_can, hg, hx]; rfl))
      go_wp2_with fail
      go_ret2
      exact ⟨ret_R HR.out, HX.out.below⟩
    · have hcan : canB n g a x xs = true := (stimes_can n g a xs x).symm.trans (by rw [hg, hx]; rfl)
      have HR := Lib.hid (worstR_yes hcan)
      obtain ⟨hgf, hl, hs, hx0, hx9, _, _⟩ := can_parts hcan
      have HC := Lib.hid (fun w hv => HTI.out (.slice y xs.length c) w hv hl hs hx0 hx9)
      clear hl hs hx hg hcan
      subst hgf
      go_wp2_with fail
      refine (HC.out _ HV3.out).mono ?_
      rintro e w3 ⟨rfl, hb⟩
      have HX := Lib.hid (HX.out.next hb)
      clear hb h0 h1
      go_wp2_with fail
      go_ret2
      exact ⟨ret_R HR.out, HX.out.below⟩
set_option maxHeartbeats 800000 in
set_option maxRecDepth 20000 in
theorem impl_WorstPlace (n : Int) (g : Bool) (a : Int) (v : Value) (xs : List Int) (x : Int) (w : World) (hv : ReadsI w v xs) (hlen : xs.length ≤ 1048576) :
    Calls Try.prog 36 #[rd n g, .int .i64 a, v, .int .i64 x] w fun e w' => e = .returned (.tuple #[.int .i64 (worstR n g a xs x).1, .bool (worstR n g a xs x).2]) ∧ Below w.heap.size w w' := by
  have HCS := Lib.hid (fun v w hv => canSearch_any n g a x v xs w hv)
  have HTI := Lib.hid (fun v w hv hl hs h0 h9 => worst_any n a x v xs w hv hl hs h0 h9 hlen)
  have HX := Lib.hid ((Boxed.first w n g 27).next (below_new _ (.cells #[.int .i64 n, .bool g, .int .i64 a, .int .i64 x] 60)))
  have HB := Lib.hid (blk_at (w.alloc (.cells #[.int .i64 n, .bool g] 27)) #[.int .i64 n, .bool g, .int .i64 a, .int .i64 x] 60 (w.heap.size + 1) (by simp))
  have HV := Lib.hid ((hv.below (below_new w (.cells #[.int .i64 n, .bool g] 27))).below (below_new _ (.cells #[.int .i64 n, .bool g, .int .i64 a, .int .i64 x] 60)))
  obtain ⟨y, c, rfl, hc, hm, _⟩ := hv
  unfold maxLen at hm
  unfold sr rd at *
  go_enter Try.func36, Try.ntmps36
  go_wp2_with fail
  refine (HCS.out _ _ HV.out).mono ?_
  rintro e w1 ⟨rfl, hb⟩
  have HX := Lib.hid (HX.out.next hb)
  have HB := Lib.hid (HB.out.below hb)
  have HV2 := Lib.hid (HV.out.below hb)
  clear hb HV
  cases hcb : canB n g a x xs
  · have HR := Lib.hid (worstR_no hcb)
    go_wp2_with fail
    go_ret2
    exact ⟨ret_R HR.out, HX.out.below⟩
  · have HR := Lib.hid (worstR_yes hcb)
    obtain ⟨hgf, hl, hs, hx0, hx9, _, _⟩ := can_parts hcb
    have HC := Lib.hid (fun w hv => HTI.out (.slice y xs.length c) w hv hl hs hx0 hx9)
    clear hl hs hcb
    subst hgf
    have h0 := HB.out.cell 0
    have h1 := HB.out.cell 1
    have h2 := HB.out.cell 2
    have h3 := HB.out.cell 3
    go_wp2_with fail
    refine (HC.out _ HV2.out).mono ?_
    rintro e w3 ⟨rfl, hb⟩
    have HX := Lib.hid (HX.out.next hb)
    clear hb h0 h1 h2 h3
    generalize wor (timT a x xs xs.length) a n = R at *
    go_wp2_with fail
    go_ret2
    exact ⟨ret_R HR.out, (HX.out.next (below_new _ _)).below⟩
end Go.Proofs.Ytnclfdfnhhicdaa
