/-
  What is proved: the contracts of what an expedition tells: isValid, isOrder, begins, begin. Conditions: lists that read as lists of numbers.
-/
import Derived.Test.YtgchodielkodeaaExn
import Derived.Test.YtgchodielkodeaaFn5
import Derived.Test.YtgchodielkodeaaFn6
import Derived.Test.YtgchodielkodeaaBlk
namespace Go.Proofs.Ytgchodielkodeaa
open Go.RowKit
set_option linter.unusedVariables false
set_option linter.unusedSimpArgs false

/-- the value of an expedition -/
abbrev exV (n : Int) (g : Bool) (v1 v2 : Value) (back : Bool) : Value := .agg #[.int .i64 n, .bool g, v1, v2, .bool back]
/-- the value of a progress -/
abbrev prV (nx lf : Int) (b0 b1 b2 b3 : Bool) : Value := .agg #[.int .i64 nx, .int .i64 lf, .bool b0, .bool b1, .bool b2, .bool b3]
theorem has_firstX {xs : List Int} {p : Int} : decide (0 ≤ firstI xs p) = xs.contains p := by
  have h1 := firstI_range xs p
  have h2 := firstI_neg xs p
  by_cases h : p ∈ xs
  · have h3 : firstI xs p ≠ -1 := fun e => (h2.1 e) h
    rw [decide_eq_true (by omega)]
    simp [h]
  · have h3 := h2.2 h
    rw [decide_eq_false (by omega)]
    simp [h]
set_option maxHeartbeats 800000 in
theorem isValid_any (n : Int) (g : Bool) (v1 v2 : Value) (ss bs : List Int) (back : Bool) (w : World) (h1 : ReadsI w v1 ss) (h2 : ReadsI w v2 bs) :
    Calls Try.prog 105 #[exV n g v1 v2 back] w fun e w' => e = .returned (.bool (budB n g ss bs)) ∧ Below w.heap.size w w' := by
  have HW := Lib.hid (fun w hv => within_any v2 bs 4 0 99 w hv)
  have HA := Lib.hid (fun w hv => areExplorers_any n g v1 ss w hv)
  have HV1 := Lib.hid h1
  have HV2 := Lib.hid h2
  obtain ⟨y1, c1, hv1, _, hm1, _⟩ := h1
  obtain ⟨y2, c2, hv2, _, hm2, _⟩ := h2
  subst hv1 hv2
  unfold maxLen at hm1 hm2
  have HB := Lib.hid (below_new w (.cells #[.int .i64 n, .bool g, .slice y1 ss.length c1, .slice y2 bs.length c2, .bool back] 113))
  by_cases hl : bs.length = ss.length
  · have hb : ((bs.length : Int) == (ss.length : Int)) = true := by rw [hl]; simp
    have HLE := Lib.hid hl
    clear hl
    go_enter Try.func105, Try.ntmps105
    go_wp2_with fail
    refine (HW.out _ (HV2.out.below HB.out)).mono ?_
    rintro e w1 ⟨rfl, rfl⟩
    cases hw : withB 4 0 99 bs
    · have HR := Lib.hid (budB_no (n := n) (g := g) (ss := ss) (bs := bs) (fun h => by rw [hw] at h; cases h.2.1))
      clear hw
      go_wp2_with fail
      go_ret
      exact ⟨ret_bool HR.out.symm, HB.out⟩
    · have HWW := Lib.hid hw
      clear hw
      go_wp2_with fail
      refine (HA.out _ (HV1.out.below HB.out)).mono ?_
      rintro e w2 ⟨rfl, hb2⟩
      have HB2 := Lib.hid (HB.out.trans (hb2.mono HB.out.size))
      have HR := Lib.hid (show budB n g ss bs = startsB n g ss by unfold budB; rw [HWW.out, HLE.out]; simp)
      clear hb2
      go_wp2_with fail
      go_ret
      exact ⟨ret_bool HR.out.symm, HB2.out⟩
  · have hb : ((bs.length : Int) == (ss.length : Int)) = false := by rw [beq_eq_false_iff_ne]; omega
    have HR := Lib.hid (budB_no (n := n) (g := g) (ss := ss) (bs := bs) (fun h => hl h.2.2))
    clear hl
    go_enter Try.func105, Try.ntmps105
    go_wp2_with fail
    go_ret
    exact ⟨ret_bool HR.out.symm, HB.out⟩
theorem begins_any (n : Int) (g : Bool) (v1 v2 : Value) (back : Bool) (w : World) :
    Calls Try.prog 139 #[exV n g v1 v2 back] w fun e w' => e = .returned (.int .i64 (if g then n else 1)) ∧ Below w.heap.size w w' := by
  have HB := Lib.hid (below_new w (.cells #[.int .i64 n, .bool g, v1, v2, .bool back] 113))
  cases g
  · go_enter Try.func139, Try.ntmps139
    go_wp2_with fail
    go_ret
    exact ⟨rfl, HB.out⟩
  · go_enter Try.func139, Try.ntmps139
    go_wp2_with fail
    go_ret
    exact ⟨rfl, HB.out⟩
theorem begin_any (n : Int) (g : Bool) (v1 v2 : Value) (back : Bool) (x : Int) (w : World) :
    Calls Try.prog 142 #[exV n g v1 v2 back, .int .i64 x] w fun e w' => e = .returned (prV x n false false false false) ∧ Below w.heap.size w w' := by
  have HB := Lib.hid ((below_new w (.cells #[.int .i64 n, .bool g, v1, v2, .bool back] 113)).trans ((below_new (w.alloc (.cells #[.int .i64 n, .bool g, v1, v2, .bool back] 113)) (.cells #[.int .i64 x, .int .i64 n, .bool false, .bool false, .bool false, .bool false] 150)).mono (by simp)))
  go_enter Try.func142, Try.ntmps142
  go_wp2_with fail
  have hbk := blk_at (w.alloc (.cells #[.int .i64 n, .bool g, v1, v2, .bool back] 113)) #[.int .i64 x, .int .i64 n, .bool false, .bool false, .bool false, .bool false] 150 (w.heap.size + 1) (by simp)
  have s0 := hbk.cell 0
  have s1 := hbk.cell 1
  have s2 := hbk.cell 2
  have s3 := hbk.cell 3
  have s4 := hbk.cell 4
  have s5 := hbk.cell 5
  exact bodyPost_ret (v := prV x n false false false false) (by simp [results, Try.results142, go_sem, s0, s1, s2, s3, s4, s5]) rfl ⟨rfl, HB.out⟩
end Go.Proofs.Ytgchodielkodeaa
