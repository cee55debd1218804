/-
  What is proved: the contract of spec.l3Good; IsSearch and TurnCount of the model and of the program. Conditions: slices that read as lists of numbers.
-/
import Derived.Test.YtnclfdfnhhicdaaSed
namespace Go.Proofs.Ytnclfdfnhhicdaa
open Go.RowKit
set_option linter.unusedVariables false
set_option linter.unusedSimpArgs false

theorem l3Good_any (n : Int) (g : Bool) (a : Int) (v : Value) (xs : List Int) (w : World) (hv : ReadsI w v xs) :
    Calls Try.prog 55 #[rd n g, .int .i64 a, v] w fun e w' => e = .returned (.bool (lineB n g a && searchB n a xs)) ∧ Below w.heap.size w w' := by
  have HL := Lib.hid (fun w => l3Line_any n g a w)
  have HX := Lib.hid (Boxed.first w n g 27)
  have HV := Lib.hid (hv.below (below_new w (.cells #[.int .i64 n, .bool g] 27)))
  have HS := Lib.hid (fun w hv hl => l3Search_any n a v xs w hv hl)
  clear hv
  unfold rd at *
  go_enter Try.func55, Try.ntmps55
  go_wp2_with fail
  refine (HL.out _).mono ?_
  rintro e w1 ⟨rfl, hb⟩
  have HX := Lib.hid (HX.out.next hb)
  have HV2 := Lib.hid (HV.out.below hb)
  clear hb HV
  have h0 := HX.out.c0
  have h1 := HX.out.c1
  cases hl : lineB n g a
  · go_wp2_with fail
    go_ret
    exact ⟨ret_bool (by simp [hl]), HX.out.below⟩
  · obtain rfl : g = false := ((lineB_iff n g a).1 hl).2.2.1
    go_wp2_with fail
    refine (HS.out _ HV2.out hl).mono ?_
    rintro e w2 ⟨rfl, hb⟩
    have HX := Lib.hid (HX.out.next hb)
    clear hb
    go_wp2_with fail
    go_ret
    exact ⟨ret_bool (by simp [hl]), HX.out.below⟩
theorem validB_zero (n : Int) (g : Bool) (a : Int) : validB n g a 0 = lineB n g a := by simp [validB]
/-- what IsSearch answers -/
def isSearchR (n : Int) (g : Bool) (a : Int) (xs : List Int) : Bool × Bool := (lineB n g a && searchB n a xs, lineB n g a)
theorem spec_IsSearch (n : Int) (g : Bool) (a : Int) (v : Value) (xs : List Int) (w : World) (hv : ReadsI w v xs) :
    Calls Try.prog 16 #[rd n g, .int .i64 a, v] w fun e w' => e = .returned (.tuple #[.bool (isSearchR n g a xs).1, .bool (isSearchR n g a xs).2]) ∧ Below w.heap.size w w' := by
  have HL := Lib.hid (fun w => l3Line_any n g a w)
  have HX := Lib.hid (Boxed.first w n g 27)
  have HV := Lib.hid (hv.below (below_new w (.cells #[.int .i64 n, .bool g] 27)))
  have HS := Lib.hid (fun w hv hl => l3Search_any n a v xs w hv hl)
  clear hv
  unfold rd at *
  go_enter Try.func16, Try.ntmps16
  go_wp2_with fail
  refine (HL.out _).mono ?_
  rintro e w1 ⟨rfl, hb⟩
  have HX := Lib.hid (HX.out.next hb)
  have HV2 := Lib.hid (HV.out.below hb)
  clear hb HV
  have h0 := HX.out.c0
  have h1 := HX.out.c1
  cases hl : lineB n g a
  · go_wp2_with fail
    go_ret2
    exact ⟨ret_bool2 (by simp [isSearchR, hl]) (by simp [isSearchR, hl]), HX.out.below⟩
  · obtain rfl : g = false := ((lineB_iff n g a).1 hl).2.2.1
    go_wp2_with fail
    refine (HS.out _ HV2.out hl).mono ?_
    rintro e w2 ⟨rfl, hb⟩
    have HX := Lib.hid (HX.out.next hb)
    clear hb
    go_wp2_with fail
    go_ret2
    exact ⟨ret_bool2 (by simp [isSearchR, hl]) (by simp [isSearchR, hl]), HX.out.below⟩
abbrev KeepS (base : Nat) (n : Int) (g : Bool) (a x : Int) (k : Nat) (v : Value) (xs : List Int) (w w1 : World) : Prop :=
  Below base w w1 ∧ Blk w1 k #[.int .i64 n, .bool g, .int .i64 a, .int .i64 x] 60 ∧ base ≤ w1.heap.size ∧ ReadsI w1 v xs ∧ w1.cell? ⟨k, 0, none⟩ = some (.int .i64 n) ∧ w1.cell? ⟨k, 1, none⟩ = some (.bool g) ∧ w1.cell? ⟨k, 2, none⟩ = some (.int .i64 a) ∧ w1.cell? ⟨k, 3, none⟩ = some (.int .i64 x)
theorem keepS_mk {base : Nat} {n : Int} {g : Bool} {a x : Int} {k : Nat} {v : Value} {xs : List Int} {w w1 : World} (hb : Below base w w1) (hk : Blk w1 k #[.int .i64 n, .bool g, .int .i64 a, .int .i64 x] 60) (hs : base ≤ w1.heap.size) (hv : ReadsI w1 v xs) : KeepS base n g a x k v xs w w1 :=
  ⟨hb, hk, hs, hv, hk.cell 0, hk.cell 1, hk.cell 2, hk.cell 3⟩
theorem keepS_next {base : Nat} {n : Int} {g : Bool} {a x : Int} {k : Nat} {v : Value} {xs : List Int} {w w1 w2 : World} (h : KeepS base n g a x k v xs w w1) (hb : Below w1.heap.size w1 w2) : KeepS base n g a x k v xs w w2 :=
  keepS_mk (h.1.trans (hb.mono h.2.2.1)) (h.2.1.below hb) (Nat.le_trans h.2.2.1 hb.size) (h.2.2.2.1.below hb)
theorem keepS_rd {base : Nat} {n : Int} {g : Bool} {a x : Int} {k : Nat} {v : Value} {xs : List Int} {w w1 : World} (h : KeepS base n g a x k v xs w w1) : ReadsI w1 v xs := h.2.2.2.1
set_option maxHeartbeats 800000 in
set_option maxRecDepth 20000 in
theorem impl_IsSearch (n : Int) (g : Bool) (a : Int) (v : Value) (xs : List Int) (w : World) (hv : ReadsI w v xs) :
    Calls Try.prog 19 #[rd n g, .int .i64 a, v] w fun e w' => e = .returned (.tuple #[.bool (isSearchR n g a xs).1, .bool (isSearchR n g a xs).2]) ∧ Below w.heap.size w w' := by
  have HCS := Lib.hid (fun w hv => canSearch_any n g a 0 v xs w hv)
  have HVA := Lib.hid (fun w => isValid_any n g a 0 w)
  have HB := Lib.hid (blk_at (w.alloc (.cells #[.int .i64 n, .bool g] 27)) #[.int .i64 n, .bool g, .int .i64 a, .int .i64 0] 60 (w.heap.size + 1) (by simp))
  have HBL := Lib.hid ((below_new w (.cells #[.int .i64 n, .bool g] 27)).trans ((below_new (w.alloc (.cells #[.int .i64 n, .bool g] 27)) (.cells #[.int .i64 n, .bool g, .int .i64 a, .int .i64 0] 60)).mono (by simp)))
  have HV := Lib.hid ((hv.below (below_new w (.cells #[.int .i64 n, .bool g] 27))).below (below_new _ (.cells #[.int .i64 n, .bool g, .int .i64 a, .int .i64 0] 60)))
  have hkk : w.heap.size ≤ ((w.alloc (.cells #[.int .i64 n, .bool g] 27)).alloc (.cells #[.int .i64 n, .bool g, .int .i64 a, .int .i64 0] 60)).heap.size := by simp; omega
  have HK0 := Lib.hid (keepS_mk HBL.out HB.out hkk HV.out)
  clear hkk hv HV HB HBL
  obtain ⟨y, c, hvv, _⟩ := HK0.out.2.2.2.1
  subst hvv
  unfold sr rd at *
  go_enter Try.func19, Try.ntmps19
  go_wp2_with fail
  generalize (w.alloc (.cells #[.int .i64 n, .bool g] 27)).alloc (.cells #[.int .i64 n, .bool g, .int .i64 a, .int .i64 0] 60) = w1 at *
  have h0 := HK0.out.2.2.2.2.1
  have h1 := HK0.out.2.2.2.2.2.1
  have h2 := HK0.out.2.2.2.2.2.2.1
  have h3 := HK0.out.2.2.2.2.2.2.2
  go_region_held3 (fun w' => Below w.heap.size w w' ∧ Blk w' (w.heap.size + 1) #[.int .i64 n, .bool g, .int .i64 a, .int .i64 0] 60 ∧ w.heap.size ≤ w'.heap.size ∧ ReadsI w' (.slice y xs.length c) xs ∧ w'.cell? ⟨w.heap.size + 1, 0, none⟩ = some (.int .i64 n) ∧ w'.cell? ⟨w.heap.size + 1, 1, none⟩ = some (.bool g) ∧ w'.cell? ⟨w.heap.size + 1, 2, none⟩ = some (.int .i64 a) ∧ w'.cell? ⟨w.heap.size + 1, 3, none⟩ = some (.int .i64 0))
    (first | exact hS | exact keepS_next HK0.out (below_drewN _ 1))
    (first | (go_at_call 54; refine (HVA.out _).mono ?_; rintro e w2 ⟨rfl, hb⟩; have hS := keepS_next (by assumption) hb; clear hb) | (go_at_call 53; refine (HCS.out _ ?_).mono ?_; exact keepS_rd (by assumption); rintro e w2 ⟨rfl, hb⟩; have hS := keepS_next (by assumption) hb; clear hb))
  have HZ := Lib.hid hS.1
  go_wp2_with fail
  go_ret2
  exact ⟨ret_bool2 (by simp [isSearchR, canB, validB]) (by simp [isSearchR, validB]), HZ.out⟩
/-- what TurnCount answers -/
def turnR (n : Int) (g : Bool) (a : Int) (xs : List Int) : Int × Bool := if lineB n g a && searchB n a xs then ((xs.length : Int) - 1, true) else (0, false)
theorem searchB_len {n a : Int} {xs : List Int} (hn : 2 ≤ n) (h : searchB n a xs = true) : 1 ≤ xs.length := by
  cases xs with
  | nil =>
    rw [searchB_some (n := n) (show cov a [] [].length = some (a, a, a) from rfl)] at h
    simp at h
    omega
  | cons x xs => simp
theorem spec_TurnCount (n : Int) (g : Bool) (a : Int) (v : Value) (xs : List Int) (w : World) (hv : ReadsI w v xs) :
    Calls Try.prog 27 #[rd n g, .int .i64 a, v] w fun e w' => e = .returned (.tuple #[.int .i64 (turnR n g a xs).1, .bool (turnR n g a xs).2]) ∧ Below w.heap.size w w' := by
  have HG := Lib.hid (fun v w hv => l3Good_any n g a v xs w hv)
  have HX := Lib.hid (Boxed.first w n g 27)
  have HV := Lib.hid (hv.below (below_new w (.cells #[.int .i64 n, .bool g] 27)))
  obtain ⟨y, c, rfl, hc, hm, _⟩ := hv
  unfold maxLen at hm
  unfold rd at *
  go_enter Try.func27, Try.ntmps27
  go_wp2_with fail
  refine (HG.out _ _ HV.out).mono ?_
  rintro e w1 ⟨rfl, hb⟩
  have HX := Lib.hid (HX.out.next hb)
  clear hb
  cases hs : (lineB n g a && searchB n a xs)
  · go_wp2_with fail
    go_ret2
    exact ⟨ret_R (by simp [turnR, hs]), HX.out.below⟩
  · go_wp2_with fail
    go_ret2
    exact ⟨ret_R (by simp [turnR, hs]), HX.out.below⟩
theorem impl_TurnCount (n : Int) (g : Bool) (a : Int) (v : Value) (xs : List Int) (w : World) (hv : ReadsI w v xs) :
    Calls Try.prog 28 #[rd n g, .int .i64 a, v] w fun e w' => e = .returned (.tuple #[.int .i64 (turnR n g a xs).1, .bool (turnR n g a xs).2]) ∧ Below w.heap.size w w' := by
  have HCS := Lib.hid (fun v w hv => canSearch_any n g a 0 v xs w hv)
  have HBL := Lib.hid ((below_new w (.cells #[.int .i64 n, .bool g] 27)).trans ((below_new (w.alloc (.cells #[.int .i64 n, .bool g] 27)) (.cells #[.int .i64 n, .bool g, .int .i64 a, .int .i64 0] 60)).mono (by simp)))
  have HV := Lib.hid ((hv.below (below_new w (.cells #[.int .i64 n, .bool g] 27))).below (below_new _ (.cells #[.int .i64 n, .bool g, .int .i64 a, .int .i64 0] 60)))
  obtain ⟨y, c, rfl, hc, hm, _⟩ := hv
  unfold maxLen at hm
  unfold sr rd at *
  go_enter Try.func28, Try.ntmps28
  go_wp2_with fail
  refine (HCS.out _ _ HV.out).mono ?_
  rintro e w1 ⟨rfl, hb⟩
  have HBL := Lib.hid (HBL.out.trans (hb.mono HBL.out.size))
  clear hb
  have hcb : canB n g a 0 xs = (lineB n g a && searchB n a xs) := by simp [canB, validB]
  rw [hcb]
  clear hcb
  cases hs : (lineB n g a && searchB n a xs)
  · go_wp2_with fail
    go_ret2
    exact ⟨ret_R (by simp [turnR, hs]), HBL.out⟩
  · go_wp2_with fail
    go_ret2
    exact ⟨ret_R (by simp [turnR, hs]), HBL.out⟩
end Go.Proofs.Ytnclfdfnhhicdaa
