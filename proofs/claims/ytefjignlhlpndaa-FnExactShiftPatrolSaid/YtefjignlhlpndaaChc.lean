/-
  What is proved: the contracts of MirrorPatrol, BackPatrol, ShiftPatrol of the program. Conditions: tables that read as lists of lists of numbers, of the row's size.
-/
import Derived.Test.YtefjignlhlpndaaChb
namespace Go.Proofs.Ytefjignlhlpndaa
open Go.RowKit
set_option linter.unusedVariables false
set_option linter.unusedSimpArgs false

set_option maxHeartbeats 800000 in
theorem impl_MirrorPatrol (n : Int) (g : Bool) (v : Value) (xss : List (List Int)) (w : World) (hv : ReadsL w v xss) (hl : sizeT xss ≤ 1048576) :
    Calls Try.prog 32 #[rd n g, v] w (OwnsTB w.heap.size (chgR n g (mirT n) true xss).1 (chgR n g (mirT n) true xss).2 w) := by
  have HC := Lib.hid (fun w hv => changed_mirror n g v xss w hv hl)
  have HX := Lib.hid (Boxed.first w n g 28)
  have HV := Lib.hid hv
  obtain ⟨va, vc, rfl, _⟩ := hv
  unfold rd at *
  go_enter Try.func32, Try.ntmps32
  go_wp2_with fail
  refine (HC.out _ (HV.out.below HX.out.below)).mono ?_
  rintro e w1 ⟨u, us, rfl, ho, hb⟩
  have HS := Lib.hid HX.out.size
  have HX := Lib.hid (HX.out.next hb)
  have HO := Lib.hid ho
  clear ho hb
  go_wp2_with fail
  go_ret2
  exact ⟨u, us, rfl, HO.out.widen (by have := HS.out; simp) (Nat.le_refl _), HX.out.below⟩
set_option maxHeartbeats 800000 in
theorem impl_BackPatrol (n : Int) (g : Bool) (v : Value) (xss : List (List Int)) (w : World) (hv : ReadsL w v xss) (hl : sizeT xss ≤ 1048576) :
    Calls Try.prog 34 #[rd n g, v] w (OwnsTB w.heap.size (chgR n g (List.reverse) true xss).1 (chgR n g (List.reverse) true xss).2 w) := by
  have HC := Lib.hid (fun w hv => changed_back n g v xss w hv hl)
  have HX := Lib.hid (Boxed.first w n g 28)
  have HV := Lib.hid hv
  obtain ⟨va, vc, rfl, _⟩ := hv
  unfold rd at *
  go_enter Try.func34, Try.ntmps34
  go_wp2_with fail
  refine (HC.out _ (HV.out.below HX.out.below)).mono ?_
  rintro e w1 ⟨u, us, rfl, ho, hb⟩
  have HS := Lib.hid HX.out.size
  have HX := Lib.hid (HX.out.next hb)
  have HO := Lib.hid ho
  clear ho hb
  go_wp2_with fail
  go_ret2
  exact ⟨u, us, rfl, HO.out.widen (by have := HS.out; simp) (Nat.le_refl _), HX.out.below⟩
set_option maxHeartbeats 800000 in
theorem impl_ShiftPatrol (n : Int) (g : Bool) (v : Value) (xss : List (List Int)) (d : Int) (w : World) (hv : ReadsL w v xss) (hl : sizeT xss ≤ 1048576) :
    Calls Try.prog 30 #[rd n g, v, .int .i64 d] w (OwnsTB w.heap.size (chgR n g (shfT d.toNat) (decide (0 ≤ d ∧ d ≤ 60)) xss).1 (chgR n g (shfT d.toNat) (decide (0 ≤ d ∧ d ≤ 60)) xss).2 w) := by
  have HX0 := Lib.hid (Boxed.first w n g 28)
  have HV := Lib.hid hv
  obtain ⟨va, vc, rfl, _⟩ := hv
  have HX := Lib.hid (HX0.out.next (below_new _ (.cells #[.int .i64 d] 3)))
  have hcb : ((w.alloc (.cells #[.int .i64 n, .bool g] 28)).alloc (.cells #[.int .i64 d] 3)).cell? ⟨w.heap.size + 1, 0, none⟩ = some (.int .i64 d) := cell_at _ _ _ _ _ (by simp) rfl
  by_cases hd : 0 ≤ d ∧ d ≤ 60
  · obtain ⟨h0, h60⟩ := hd
    have HC := Lib.hid (fun bb w hv hbb hcb => show Calls Try.prog 63 #[rd n g, .slice va xss.length vc, .func (.func 64) #[] #[.pointer (some ⟨bb, 0, none⟩)]] w (OwnsTB w.heap.size (chgR n g (shfT d.toNat) true xss).1 (chgR n g (shfT d.toNat) true xss).2 w) from changed_shift n g (.slice va xss.length vc) xss d.toNat bb w hv hl (by omega) hbb hcb)
    have HCB := Lib.hid (show ((w.alloc (.cells #[.int .i64 n, .bool g] 28)).alloc (.cells #[.int .i64 d] 3)).cell? ⟨w.heap.size + 1, 0, none⟩ = some (.int .i64 (d.toNat : Nat)) by rw [Int.toNat_of_nonneg h0]; exact hcb)
    have HD := Lib.hid (decide_eq_true (show 0 ≤ d ∧ d ≤ 60 from ⟨h0, h60⟩))
    have h61 : ¬ 60 < d := by omega
    have h00 : ¬ d < 0 := by omega
    unfold rd at *
    go_enter Try.func30, Try.ntmps30
    go_wp2_with fail
    refine (HC.out (w.heap.size + 1) _ (HV.out.below HX.out.below) (by simp) HCB.out).mono ?_
    rintro e w1 ⟨u, us, rfl, ho, hb⟩
    have HX := Lib.hid (HX.out.next hb)
    have HO := Lib.hid ho
    clear ho hb hcb
    go_wp2_with fail
    go_ret2
    rw [HD.out]
    exact ⟨u, us, rfl, HO.out.widen (by simp; omega) (Nat.le_refl _), HX.out.below⟩
  · have HR := Lib.hid (chgR_no (n := n) (g := g) (T := shfT d.toNat) (c := decide (0 ≤ d ∧ d ≤ 60)) (xss := xss) (fun h => hd (decide_eq_true_iff.1 h.2)))
    have HT := Lib.hid (ownT_new ((w.alloc (.cells #[.int .i64 n, .bool g] 28)).alloc (.cells #[.int .i64 d] 3)) w.heap.size (w.heap.size + 1 + 1) (by simp) (by omega))
    generalize chgR n g (shfT d.toNat) (decide (0 ≤ d ∧ d ≤ 60)) xss = R at *
    unfold rd at *
    by_cases h0 : d < 0
    · clear hd
      go_enter Try.func30, Try.ntmps30
      go_wp2_with fail
      go_ret2
      exact ownsTB_R HR.out HT.out (HX.out.next (below_new _ _)).below
    · have h61 : 60 < d := by omega
      have h00 : 0 ≤ d := by omega
      clear hd
      go_enter Try.func30, Try.ntmps30
      go_wp2_with fail
      go_ret2
      exact ownsTB_R HR.out HT.out (HX.out.next (below_new _ _)).below
end Go.Proofs.Ytefjignlhlpndaa
