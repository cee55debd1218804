/-
  What is proved: the contracts of WalkOf of the model and of the program. Conditions: slices that read as lists of numbers.
-/
import Derived.Test.YtcpembfioelnlaaMei
import Derived.Test.YtcpembfioelnlaaMeg
namespace Go.Proofs.Ytcpembfioelnlaa
open Go.RowKit
set_option linter.unusedVariables false
set_option linter.unusedSimpArgs false

/-- what WalkOf answers -/
def walkR (n : Int) (g : Bool) (k : Wk) (a : Int) : List Int × Bool := if wkB n g k = true ∧ 0 ≤ a ∧ a ≤ 60 then (walkW n g k a.toNat, true) else ([], false)
theorem walkR_no {n : Int} {g : Bool} {k : Wk} {a : Int} (h : ¬ (wkB n g k = true ∧ 0 ≤ a ∧ a ≤ 60)) : walkR n g k a = ([], false) := if_neg h
theorem walkR_yes {n : Int} {g : Bool} {k : Wk} {N : Nat} (h : wkB n g k = true) (h2 : N ≤ 60) : walkR n g k N = (walkW n g k N, true) := by
  unfold walkR
  rw [if_pos ⟨h, by omega, by omega⟩]
  rfl
theorem walkR_len (n : Int) (g : Bool) (k : Wk) (a : Int) : (walkR n g k a).1.length ≤ 1048576 := by
  unfold walkR
  split
  · unfold walkW
    rw [pathL_len]
    omega
  · simp
set_option maxHeartbeats 800000 in
set_option maxRecDepth 20000 in
theorem spec_WalkOf (n : Int) (g : Bool) (k : Wk) (m : Value) (a : Int) (w : World) (hv : ReadsI w m k.ms) :
    Calls Try.prog 15 #[rd n g, wkv k m, .int .i64 a] w (OwnsB w.heap.size (walkR n g k a).1 (walkR n g k a).2 w) := by
  have HW := Lib.hid (fun w hv => l4Walker_any n g k m w hv)
  have HI := Lib.hid (fun w => inB_any a 0 60 w)
  have HL := Lib.hid (fun N w hv hk hN => l4Walk_nat n g k m N w hv hk hN)
  have HX := Lib.hid (keepW_first w n g k m)
  have HV := Lib.hid hv
  obtain ⟨ma, mc, rfl, _⟩ := hv
  generalize hml : k.ms.length = ml at *
  clear hml
  unfold wkv rd at *
  go_enter Try.func15, Try.ntmps15
  go_wp2_with fail
  refine (HW.out _ (HV.out.below HX.out.1.below)).mono ?_
  rintro e w1 ⟨rfl, hb⟩
  have HX := Lib.hid (keepW HX.out hb)
  have HM := Lib.hid (made_at w1 w.heap.size w1.heap.size rfl (by have := keepW_lt HX.out; omega))
  clear hb
  have h0 := HX.out.2.1
  have h1 := HX.out.2.2.1
  have h2 := HX.out.2.2.2.2.1
  have h3 := HX.out.2.2.2.2.2.1
  have h4 := HX.out.2.2.2.2.2.2.1
  have h5 := HX.out.2.2.2.2.2.2.2
  cases hw : wkB n g k
  · have HR := Lib.hid (walkR_no (a := a) (fun h => by rw [h.1] at hw; cases hw))
    clear hw
    go_wp2_with fail
    go_ret2
    exact owns_RL HR.out rfl HM.out (HX.out.1.next (below_new _ _)).below
  · have HWT := Lib.hid hw
    clear hw
    go_wp2_with fail
    refine (HI.out _).mono ?_
    rintro e w2 ⟨rfl, rfl⟩
    cases hi : inB 0 60 a
    · have HR := Lib.hid (walkR_no (n := n) (g := g) (k := k) (a := a) (fun h => by rw [(inB_iff 0 60 a).2 h.2] at hi; cases hi))
      clear hi
      go_wp2_with fail
      go_ret2
      exact owns_RL HR.out rfl HM.out (HX.out.1.next (below_new _ _)).below
    · have ha := (inB_iff 0 60 a).1 hi
      obtain ⟨N, rfl⟩ : ∃ N : Nat, a = N := ⟨a.toNat, by omega⟩
      have HR := Lib.hid (walkR_yes (N := N) HWT.out (by omega))
      have HN := Lib.hid (show N ≤ 60 by omega)
      clear hi ha
      go_wp2_with fail
      refine (HL.out N _ (HV.out.below HX.out.1.below) ((wkB_iff n g k).1 HWT.out) HN.out).mono ?_
      rintro e w3 ⟨u, rfl, ho, hb⟩
      have HX3 := Lib.hid (keepW HX.out hb)
      have HO := Lib.hid (owns_lower ho (show w.heap.size ≤ _ by have := keepW_lt HX.out; omega))
      clear hb ho h0 h1 h2 h3 h4 h5
      go_wp2_with fail
      go_ret2
      exact owns_R (zs := walkW n g k N) (b := true) HR.out ⟨u, rfl, HO.out, HX3.out.1.below⟩
set_option maxHeartbeats 800000 in
set_option maxRecDepth 20000 in
theorem impl_WalkOf (n : Int) (g : Bool) (k : Wk) (m : Value) (a : Int) (w : World) (hv : ReadsI w m k.ms) :
    Calls Try.prog 16 #[rd n g, wkv k m, .int .i64 a] w (OwnsB w.heap.size (walkR n g k a).1 (walkR n g k a).2 w) := by
  have HW := Lib.hid (fun v w hv => areWalkers_one n g v k w hv)
  have HL := Lib.hid (fun N w hv hk hN => walk_nat n g k m N w hv hk hN)
  have HX := Lib.hid (keepW_first w n g k m)
  have HV := Lib.hid hv
  obtain ⟨ma, mc, rfl, _⟩ := hv
  generalize hml : k.ms.length = ml at *
  clear hml
  unfold wkv rd at *
  go_enter Try.func16, Try.ntmps16
  go_wp2_with fail
  refine (HW.out _ _ (walkers_one (HV.out.below HX.out.1.below) _ (by simp))).mono ?_
  rintro e w1 ⟨rfl, hb⟩
  have HX := Lib.hid (keepW (keepW HX.out (below_new _ _)) hb)
  have HM := Lib.hid (made_at w1 w.heap.size w1.heap.size rfl (by have := keepW_lt HX.out; omega))
  clear hb
  have h0 := HX.out.2.1
  have h1 := HX.out.2.2.1
  have h2 := HX.out.2.2.2.2.1
  have h3 := HX.out.2.2.2.2.2.1
  have h4 := HX.out.2.2.2.2.2.2.1
  have h5 := HX.out.2.2.2.2.2.2.2
  cases hw : wkB n g k
  · have HR := Lib.hid (walkR_no (a := a) (fun h => by rw [h.1] at hw; cases hw))
    clear hw
    go_wp2_with fail
    go_ret2
    exact owns_RL HR.out rfl HM.out (HX.out.1.next (below_new _ _)).below
  · have HWT := Lib.hid hw
    clear hw
    by_cases ha : 0 ≤ a
    · by_cases ha2 : a ≤ 60
      · obtain ⟨N, rfl⟩ : ∃ N : Nat, a = N := ⟨a.toNat, by omega⟩
        have HR := Lib.hid (walkR_yes (N := N) HWT.out (by omega))
        have HN := Lib.hid (show N ≤ 60 by omega)
        go_wp2_with fail
        refine (HL.out N _ (HV.out.below HX.out.1.below) ((wkB_iff n g k).1 HWT.out) HN.out).mono ?_
        rintro e w3 ⟨u, rfl, ho, hb⟩
        have HX3 := Lib.hid (keepW HX.out hb)
        have HO := Lib.hid (owns_lower ho (show w.heap.size ≤ _ by have := keepW_lt HX.out; omega))
        clear hb ho h0 h1 h2 h3 h4 h5
        go_wp2_with fail
        go_ret2
        exact owns_R (zs := walkW n g k N) (b := true) HR.out ⟨u, rfl, HO.out, HX3.out.1.below⟩
      · have HR := Lib.hid (walkR_no (n := n) (g := g) (k := k) (a := a) (fun h => ha2 h.2.2))
        go_wp2_with fail
        go_ret2
        exact owns_RL HR.out rfl HM.out (HX.out.1.next (below_new _ _)).below
    · have HR := Lib.hid (walkR_no (n := n) (g := g) (k := k) (a := a) (fun h => ha h.2.1))
      go_wp2_with fail
      go_ret2
      exact owns_RL HR.out rfl HM.out (HX.out.1.next (below_new _ _)).below
end Go.Proofs.Ytcpembfioelnlaa
