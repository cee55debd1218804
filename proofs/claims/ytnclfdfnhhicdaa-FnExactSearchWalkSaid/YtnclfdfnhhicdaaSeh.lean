/-
  What is proved: SearchTimes of the model and of the program. Conditions: slices that read as lists of numbers of the row's length.
-/
import Derived.Test.YtnclfdfnhhicdaaSet
import Derived.Test.YtnclfdfnhhicdaaSeg
namespace Go.Proofs.Ytnclfdfnhhicdaa
open Go.RowKit
set_option linter.unusedVariables false
set_option linter.unusedSimpArgs false

theorem stimesR_no {n : Int} {g : Bool} {a : Int} {xs : List Int} {e : Int} (h : (lineB n g a && searchB n a xs && (decide (0 ≤ e) && decide (e ≤ 9))) = false) : stimesR n g a xs e = ([], false) := by
  unfold stimesR
  rw [if_neg (by rw [h]; exact Bool.false_ne_true)]
theorem stimesR_yes {n : Int} {g : Bool} {a : Int} {xs : List Int} {e : Int} (h : (lineB n g a && searchB n a xs && (decide (0 ≤ e) && decide (e ≤ 9))) = true) : stimesR n g a xs e = (timesL n a e xs, true) := by
  unfold stimesR
  exact if_pos h
theorem stimes_can (n : Int) (g : Bool) (a : Int) (xs : List Int) (e : Int) : (lineB n g a && searchB n a xs && (decide (0 ≤ e) && decide (e ≤ 9))) = canB n g a e xs := by
  unfold canB validB
  cases lineB n g a <;> cases searchB n a xs <;> cases (decide (0 ≤ e) && decide (e ≤ 9)) <;> rfl
theorem can_parts {n : Int} {g : Bool} {a x : Int} {xs : List Int} (h : canB n g a x xs = true) : g = false ∧ lineB n false a = true ∧ searchB n a xs = true ∧ 0 ≤ x ∧ x ≤ 9 ∧ 2 ≤ n ∧ n ≤ 24 := by
  unfold canB at h
  rw [Bool.and_eq_true, validB_iff] at h
  have hl := (lineB_iff n g a).1 h.1.1
  obtain rfl := hl.2.2.1
  exact ⟨rfl, h.1.1, h.2, h.1.2.1, h.1.2.2, hl.1, hl.2.1⟩
theorem l3Extra_any (x : Int) (w : World) :
    Calls Try.prog 56 #[.int .i64 x] w fun e w' => e = .returned (.bool (decide (0 ≤ x) && decide (x ≤ 9))) ∧ Below w.heap.size w w' := by
  have HI := Lib.hid (fun w => l1In_same x 0 9 w)
  go_enter Try.func56, Try.ntmps56
  go_wp2_with fail
  refine (HI.out _).mono ?_
  rintro e w1 ⟨rfl, rfl⟩
  go_wp2_with fail
  go_ret
  exact ⟨rfl, Below.refl _ _⟩
theorem l3Times_any (n : Int) (a x : Int) (v : Value) (xs : List Int) (w : World) (hv : ReadsI w v xs) (hl : lineB n false a = true) (hs : searchB n a xs = true) (he0 : 0 ≤ x) (he9 : x ≤ 9) :
    Calls Try.prog 57 #[rd n false, .int .i64 a, v, .int .i64 x] w (OwnsI w.heap.size (timesL n a x xs) w) := by
  obtain ⟨N, rfl⟩ : ∃ N : Nat, n = N := ⟨n.toNat, by have := ((lineB_iff n false a).1 hl).1; omega⟩
  exact l3Times_nat N a x v xs w hv hl hs he0 he9
theorem times_int (n : Int) (a x : Int) (v : Value) (xs : List Int) (w : World) (hv : ReadsI w v xs) (hl : lineB n false a = true) (hs : searchB n a xs = true) (he0 : 0 ≤ x) (he9 : x ≤ 9) (hlen : xs.length ≤ 1048576) :
    Calls Try.prog 58 #[sr n false a x, v] w (OwnsI w.heap.size (timesL n a x xs) w) := by
  obtain ⟨N, rfl⟩ : ∃ N : Nat, n = N := ⟨n.toNat, by have := ((lineB_iff n false a).1 hl).1; omega⟩
  exact times_any N a x v xs w hv hl hs he0 he9 hlen
set_option maxHeartbeats 800000 in
set_option maxRecDepth 20000 in
theorem spec_SearchTimes (n : Int) (g : Bool) (a : Int) (v : Value) (xs : List Int) (x : Int) (w : World) (hv : ReadsI w v xs) (_hlen : xs.length ≤ 1048576) :
    Calls Try.prog 21 #[rd n g, .int .i64 a, v, .int .i64 x] w (OwnsB w.heap.size (stimesR n g a xs x).1 (stimesR n g a xs x).2 w) := by
  have HG := Lib.hid (fun v w hv => l3Good_any n g a v xs w hv)
  have HE := Lib.hid (fun w => l3Extra_any x w)
  have HTI := Lib.hid (fun v w hv hl hs h0 h9 => l3Times_any n a x v xs w hv hl hs h0 h9)
  have HX := Lib.hid (Boxed.first w n g 27)
  have HV := Lib.hid (hv.below (below_new w (.cells #[.int .i64 n, .bool g] 27)))
  obtain ⟨y, c, rfl, hc, hm, _⟩ := hv
  unfold maxLen at hm
  unfold rd at *
  go_enter Try.func21, Try.ntmps21
  go_wp2_with fail
  refine (HG.out _ _ HV.out).mono ?_
  rintro e w1 ⟨rfl, hb⟩
  have HX := Lib.hid (HX.out.next hb)
  have HV2 := Lib.hid (HV.out.below hb)
  clear hb HV
  have hsz := HX.out.size
  have HMD := Lib.hid (fun (w2 : World) (h : w.heap.size + 1 ≤ w2.heap.size) => made_at w2 (w.heap.size + 1) w2.heap.size rfl h)
  cases hg : (lineB n g a && searchB n a xs)
  · have HR := Lib.hid (stimesR_no (n := n) (g := g) (a := a) (xs := xs) (e := x) (by rw [hg]; rfl))
    go_wp2_with fail
    go_ret2
    exact owns_R (zs := []) (b := false) HR.out (owns_out (HX.out.next (below_new _ _)) (HMD.out _ (Nat.succ_le_of_lt hsz)))
  · have h0 := HX.out.c0
    have h1 := HX.out.c1
    go_wp2_with fail
    refine (HE.out _).mono ?_
    rintro e w2 ⟨rfl, hb⟩
    have HX := Lib.hid (HX.out.next hb)
    have HV3 := Lib.hid (HV2.out.below hb)
    clear hb hsz h0 h1 HV2
    have hsz := HX.out.size
    have h0 := HX.out.c0
    have h1 := HX.out.c1
    cases hx : (decide (0 ≤ x) && decide (x ≤ 9))
    · have HR := Lib.hid (stimesR_no (n := n) (g := g) (a := a) (xs := xs) (e := x) (by rw [hg, hx]; rfl))
      go_wp2_with fail
      go_ret2
      exact owns_R (zs := []) (b := false) HR.out (owns_out (HX.out.next (below_new _ _)) (HMD.out _ (Nat.succ_le_of_lt hsz)))
    · have HR := Lib.hid (stimesR_yes (n := n) (g := g) (a := a) (xs := xs) (e := x) (by rw [hg, hx]; rfl))
      have hp := can_parts ((stimes_can n g a xs x).symm.trans (by rw [hg, hx]; rfl))
      obtain ⟨hgf, hl, hs, hx0, hx9, _, _⟩ := hp
      have HC := Lib.hid (fun w hv => HTI.out (.slice y xs.length c) w hv hl hs hx0 hx9)
      clear hl hs hx hg
      subst hgf
      go_wp2_with fail
      refine (HC.out _ HV3.out).mono ?_
      rintro e w3 ⟨u, rfl, ho, hb⟩
      have HX := Lib.hid (HX.out.next hb)
      have HO := Lib.hid (owns_lower ho (show w.heap.size ≤ w2.heap.size by omega))
      clear ho hb h0 h1
      go_wp2_with fail
      go_ret2
      exact owns_R (zs := timesL n a x xs) (b := true) HR.out ⟨u, rfl, HO.out, HX.out.below⟩
theorem blkR_keep {base : Nat} {n : Int} {g : Bool} {a x : Int} {w wr w' : World} {k : Nat} (h : Boxed base n g w wr ∧ Blk wr k #[.int .i64 n, .bool g, .int .i64 a, .int .i64 x] 60) (hb : Below wr.heap.size wr w') : Boxed base n g w w' ∧ Blk w' k #[.int .i64 n, .bool g, .int .i64 a, .int .i64 x] 60 := ⟨h.1.next hb, h.2.below hb⟩
set_option maxHeartbeats 800000 in
set_option maxRecDepth 20000 in
theorem impl_SearchTimes (n : Int) (g : Bool) (a : Int) (v : Value) (xs : List Int) (x : Int) (w : World) (hv : ReadsI w v xs) (hlen : xs.length ≤ 1048576) :
    Calls Try.prog 22 #[rd n g, .int .i64 a, v, .int .i64 x] w (OwnsB w.heap.size (stimesR n g a xs x).1 (stimesR n g a xs x).2 w) := by
  have HCS := Lib.hid (fun v w hv => canSearch_any n g a x v xs w hv)
  have HTI := Lib.hid (fun v w hv hl hs h0 h9 => times_int n a x v xs w hv hl hs h0 h9 hlen)
  have HX := Lib.hid ((Boxed.first w n g 27).next (below_new _ (.cells #[.int .i64 n, .bool g, .int .i64 a, .int .i64 x] 60)))
  have HB := Lib.hid (blk_at (w.alloc (.cells #[.int .i64 n, .bool g] 27)) #[.int .i64 n, .bool g, .int .i64 a, .int .i64 x] 60 (w.heap.size + 1) (by simp))
  have HV := Lib.hid ((hv.below (below_new w (.cells #[.int .i64 n, .bool g] 27))).below (below_new _ (.cells #[.int .i64 n, .bool g, .int .i64 a, .int .i64 x] 60)))
  obtain ⟨y, c, rfl, hc, hm, _⟩ := hv
  unfold maxLen at hm
  unfold sr rd at *
  go_enter Try.func22, Try.ntmps22
  go_wp2_with fail
  refine (HCS.out _ _ HV.out).mono ?_
  rintro e w1 ⟨rfl, hb⟩
  have HX := Lib.hid (HX.out.next hb)
  have HB := Lib.hid (HB.out.below hb)
  have HV2 := Lib.hid (HV.out.below hb)
  clear hb HV
  have hsz := HX.out.size
  have HMD := Lib.hid (fun (w2 : World) (h : w.heap.size + 1 ≤ w2.heap.size) => made_at w2 (w.heap.size + 1) w2.heap.size rfl h)
  cases hcb : canB n g a x xs
  · have HR := Lib.hid (stimesR_no ((stimes_can n g a xs x).trans hcb))
    go_wp2_with fail
    go_ret2
    exact owns_R (zs := []) (b := false) HR.out (owns_out (HX.out.next (below_new _ _)) (HMD.out _ (Nat.succ_le_of_lt hsz)))
  · have HR := Lib.hid (stimesR_yes ((stimes_can n g a xs x).trans hcb))
    obtain ⟨hgf, hl, hs, hx0, hx9, _, _⟩ := can_parts hcb
    have HC := Lib.hid (fun w hv => HTI.out (.slice y xs.length c) w hv hl hs hx0 hx9)
    clear hl hs hcb
    subst hgf
    have h0 := HB.out.cell 0
    have h1 := HB.out.cell 1
    have h2 := HB.out.cell 2
    have h3 := HB.out.cell 3
    go_wp2_with fail
    refine (HC.out _ HV2.out).mono ?_
    rintro e w3 ⟨u, rfl, ho, hb⟩
    have HX := Lib.hid (HX.out.next hb)
    have HO := Lib.hid (owns_lower ho (show w.heap.size ≤ w1.heap.size by omega))
    clear ho hb h0 h1 h2 h3
    go_wp2_with fail
    go_ret2
    exact owns_R (zs := timesL n a x xs) (b := true) HR.out ⟨u, rfl, HO.out, HX.out.below⟩
end Go.Proofs.Ytnclfdfnhhicdaa
