/-
  What is proved: SearchRatio of the model and of the program; laws.eqIntA2. Conditions: slices that read as lists of numbers of the row's length.
-/
import Derived.Test.YtnclfdfnhhicdaaSep
namespace Go.Proofs.Ytnclfdfnhhicdaa
open Go.RowKit
set_option linter.unusedVariables false
set_option linter.unusedSimpArgs false

/-- what SearchRatio answers -/
def ratioR (n : Int) (g : Bool) (a : Int) (xs : List Int) (x : Int) : (Int × Int) × Bool := if canB n g a x xs then (ratI (timT a x xs xs.length) a n, true) else ((0, 0), false)
theorem ratioR_no {n : Int} {g : Bool} {a : Int} {xs : List Int} {x : Int} (h : canB n g a x xs = false) : ratioR n g a xs x = ((0, 0), false) := by
  unfold ratioR
  rw [if_neg (by rw [h]; exact Bool.false_ne_true)]
theorem ratioR_yes {n : Int} {g : Bool} {a : Int} {xs : List Int} {x : Int} (h : canB n g a x xs = true) : ratioR n g a xs x = (ratI (timT a x xs xs.length) a n, true) := by
  unfold ratioR
  exact if_pos h
def RatPost (R : (Int × Int) × Bool) (w : World) (e : Ending) (w' : World) : Prop := e = .returned (.tuple #[.agg #[.int .i64 R.1.1, .int .i64 R.1.2], .bool R.2]) ∧ Below w.heap.size w w'
theorem rat_post {R : (Int × Int) × Bool} {w w' : World} {t g : Int} {b : Bool} (h : R = ((t, g), b)) (hb : Below w.heap.size w w') : RatPost R w (.returned (.tuple #[.agg #[.int .i64 t, .int .i64 g], .bool b])) w' := by
  rw [h]
  exact ⟨rfl, hb⟩
/-- the box and the result's block -/
abbrev BoxT (n : Int) (g : Bool) (w wr : World) : Prop := Boxed w.heap.size n g w wr ∧ Two wr (w.heap.size + 1) 0 0
theorem boxT_next {n : Int} {g : Bool} {w wr w' : World} (h : BoxT n g w wr) (hb : Below wr.heap.size wr w') : BoxT n g w w' := ⟨h.1.next hb, h.2.below hb⟩
theorem boxT_first (n : Int) (g : Bool) (w : World) : BoxT n g w ((w.alloc (.cells #[.int .i64 n, .bool g] 27)).alloc (.cells #[.int .i64 0, .int .i64 0] 46)) :=
  ⟨(Boxed.first w n g 27).next (below_new _ _), blk_at _ _ _ _ (by simp)⟩
set_option maxHeartbeats 1600000 in
set_option maxRecDepth 20000 in
theorem spec_SearchRatio (n : Int) (g : Bool) (a : Int) (v : Value) (xs : List Int) (x : Int) (w : World) (hv : ReadsI w v xs) (_hlen : xs.length ≤ 1048576) :
    Calls Try.prog 37 #[rd n g, .int .i64 a, v, .int .i64 x] w (RatPost (ratioR n g a xs x) w) := by
  have HG := Lib.hid (fun v w hv => l3Good_any n g a v xs w hv)
  have HE := Lib.hid (fun w => l3Extra_any x w)
  have HTI := Lib.hid (fun v w hv hl hs h0 h9 => l3Worst_any n a x v xs w hv hl hs h0 h9)
  have HX := Lib.hid (boxT_first n g w)
  have HV := Lib.hid ((hv.below (below_new w (.cells #[.int .i64 n, .bool g] 27))).below (below_new _ (.cells #[.int .i64 0, .int .i64 0] 46)))
  obtain ⟨y, c, rfl, hc, hm, _⟩ := hv
  unfold maxLen at hm
  unfold rd at *
  have h0 := HX.out.1.c0
  have h1 := HX.out.1.c1
  go_enter Try.func37, Try.ntmps37
  go_wp2_with fail
  refine (HG.out _ _ HV.out).mono ?_
  rintro e w1 ⟨rfl, hb⟩
  have HX1 := Lib.hid (boxT_next HX.out hb)
  have HV2 := Lib.hid (HV.out.below hb)
  clear hb HV HX h0 h1
  cases hg : (lineB n g a && searchB n a xs)
  · have HR := Lib.hid (ratioR_no (n := n) (g := g) (a := a) (xs := xs) (x := x) (by rw [← stimes_can, hg]; rfl))
    have d0 := HX1.out.2.cell 0
    have d1 := HX1.out.2.cell 1
    have f0 := HX1.out.2.free 0
    have f1 := HX1.out.2.free 1
    have HRS := Lib.hid (set2_same (.int .i64 0) (.int .i64 0) HX1.out.2)
    have HBE := Lib.hid (set2_below (v0 := .int .i64 0) (v1 := .int .i64 0) HX1.out.1.below (show w.heap.size ≤ w.heap.size + 1 by omega))
    have s0 := HRS.out.cell 0
    have s1 := HRS.out.cell 1
    go_wp2_with fail
    exact bodyPost_ret (v := .tuple #[.agg #[.int .i64 0, .int .i64 0], .bool false]) (by simp [results, Try.results37, go_sem, s0, s1]) rfl (rat_post HR.out HBE.out)
  · have h0 := HX1.out.1.c0
    have h1 := HX1.out.1.c1
    go_wp2_with fail
    refine (HE.out _).mono ?_
    rintro e w2 ⟨rfl, hb⟩
    have HX2 := Lib.hid (boxT_next HX1.out hb)
    have HV3 := Lib.hid (HV2.out.below hb)
    clear hb h0 h1 HV2 HX1
    cases hx : (decide (0 ≤ x) && decide (x ≤ 9))
    · have HR := Lib.hid (ratioR_no (n := n) (g := g) (a := a) (xs := xs) (x := x) (by rw [← stimes_can, hg, hx]; rfl))
      have d0 := HX2.out.2.cell 0
      have d1 := HX2.out.2.cell 1
      have f0 := HX2.out.2.free 0
      have f1 := HX2.out.2.free 1
      have HRS := Lib.hid (set2_same (.int .i64 0) (.int .i64 0) HX2.out.2)
      have HBE := Lib.hid (set2_below (v0 := .int .i64 0) (v1 := .int .i64 0) HX2.out.1.below (show w.heap.size ≤ w.heap.size + 1 by omega))
      have s0 := HRS.out.cell 0
      have s1 := HRS.out.cell 1
      go_wp2_with fail
      exact bodyPost_ret (v := .tuple #[.agg #[.int .i64 0, .int .i64 0], .bool false]) (by simp [results, Try.results37, go_sem, s0, s1]) rfl (rat_post HR.out HBE.out)
    · have hcan : canB n g a x xs = true := (stimes_can n g a xs x).symm.trans (by rw [hg, hx]; rfl)
      have hr := ratioR_yes hcan
      obtain ⟨hgf, hl, hs, hx0, hx9, _, _⟩ := can_parts hcan
      obtain ⟨b, t, p, hw, ht, hp, hp1⟩ := wor_nat hl hs hx0 hx9
      have HC := Lib.hid (fun w hv => HTI.out (.slice y xs.length c) w hv hl hs hx0 hx9)
      rw [hw] at HC
      have hri : ratI (timT a x xs xs.length) a n = red t p := by unfold ratI; rw [hw]; simp
      rw [hri] at hr
      clear hl hs hx hg hcan hw hri
      subst hgf
      obtain ⟨d, hd⟩ : ∃ d, d = Nat.gcd t p := ⟨_, rfl⟩
      have hd1 : 1 ≤ d := by rw [hd]; exact Nat.gcd_pos_of_pos_right t hp1
      have HGC := Lib.hid (fun w => l3Gcd_any t p w ht hp)
      rw [← hd] at HGC
      have hdd : d ≤ 1000 := by rw [hd]; exact Nat.le_trans (Nat.gcd_le_right t hp1) hp
      have hda := div_small t d ht
      have hdb := div_small p d hp
      have ht1 : (t : Int).tdiv d = ((t / d : Nat) : Int) := rfl
      have ht2 : (p : Int).tdiv d = ((p / d : Nat) : Int) := rfl
      have hre : red t p = (((t / d : Nat) : Int), ((p / d : Nat) : Int)) := by unfold red; rw [← hd]
      rw [hre] at hr
      generalize t / d = A at *
      generalize p / d = B at *
      have HR := Lib.hid hr
      have HT1 := Lib.hid ht1
      have HT2 := Lib.hid ht2
      clear hr hre hd ht1 ht2
      have h0 := HX2.out.1.c0
      have h1 := HX2.out.1.c1
      go_wp2_with fail
      refine (HC.out _ HV3.out).mono ?_
      rintro e w3 ⟨rfl, hb⟩
      have HX3 := Lib.hid (boxT_next HX2.out hb)
      clear hb h0 h1 HX2
      go_wp2_with fail
      refine (HGC.out _).mono ?_
      rintro e w4 ⟨rfl, hb⟩
      have HX4 := Lib.hid (boxT_next HX3.out hb)
      clear hb HX3
      have ht1 := HT1.out
      have ht2 := HT2.out
      have hnz : (d : Int) ≠ 0 := by omega
      have hnz2 : ((d : Int) == 0) = false := by simp; omega
      have hw1 : IntKind.i64.wrap (A : Int) = (A : Int) := IntWalk.i64_in _ (by omega)
      have hw2 : IntKind.i64.wrap (B : Int) = (B : Int) := IntWalk.i64_in _ (by omega)
      have d0 := HX4.out.2.cell 0
      have d1 := HX4.out.2.cell 1
      have f0 := HX4.out.2.free 0
      have f1 := HX4.out.2.free 1
      have HRS := Lib.hid (set2_same (.int .i64 (A : Int)) (.int .i64 (B : Int)) HX4.out.2)
      have HBE := Lib.hid (set2_below (v0 := .int .i64 (A : Int)) (v1 := .int .i64 (B : Int)) HX4.out.1.below (show w.heap.size ≤ w.heap.size + 1 by omega))
      go_wp2_with fail
      go_region
      have s0 := HRS.out.cell 0
      have s1 := HRS.out.cell 1
      go_wp2_with fail
      exact bodyPost_ret (v := .tuple #[.agg #[.int .i64 (A : Int), .int .i64 (B : Int)], .bool true]) (by simp [results, Try.results37, go_sem, s0, s1]) rfl (rat_post HR.out (HBE.out.trans ((below_drewN _ 1).mono HBE.out.size)))
set_option maxHeartbeats 1600000 in
set_option maxRecDepth 20000 in
theorem impl_SearchRatio (n : Int) (g : Bool) (a : Int) (v : Value) (xs : List Int) (x : Int) (w : World) (hv : ReadsI w v xs) (hlen : xs.length ≤ 1048576) :
    Calls Try.prog 38 #[rd n g, .int .i64 a, v, .int .i64 x] w (RatPost (ratioR n g a xs x) w) := by
  have HCS := Lib.hid (fun v w hv => canSearch_any n g a x v xs w hv)
  have HTI := Lib.hid (fun v w hv hl hs h0 h9 => ratio_any n a x v xs w hv hl hs h0 h9 hlen)
  have HX := Lib.hid (boxT_next (boxT_first n g w) (below_new _ (.cells #[.int .i64 n, .bool g, .int .i64 a, .int .i64 x] 60)))
  have HB := Lib.hid (blk_at ((w.alloc (.cells #[.int .i64 n, .bool g] 27)).alloc (.cells #[.int .i64 0, .int .i64 0] 46)) #[.int .i64 n, .bool g, .int .i64 a, .int .i64 x] 60 (w.heap.size + 1 + 1) (by simp))
  have HV := Lib.hid (((hv.below (below_new w (.cells #[.int .i64 n, .bool g] 27))).below (below_new _ (.cells #[.int .i64 0, .int .i64 0] 46))).below (below_new _ (.cells #[.int .i64 n, .bool g, .int .i64 a, .int .i64 x] 60)))
  obtain ⟨y, c, rfl, hc, hm, _⟩ := hv
  unfold maxLen at hm
  unfold sr rd at *
  go_enter Try.func38, Try.ntmps38
  go_wp2_with fail
  refine (HCS.out _ _ HV.out).mono ?_
  rintro e w1 ⟨rfl, hb⟩
  have HX1 := Lib.hid (boxT_next HX.out hb)
  have HB1 := Lib.hid (HB.out.below hb)
  have HV2 := Lib.hid (HV.out.below hb)
  clear hb HV HX HB
  cases hcb : canB n g a x xs
  · have HR := Lib.hid (ratioR_no hcb)
    have d0 := HX1.out.2.cell 0
    have d1 := HX1.out.2.cell 1
    have f0 := HX1.out.2.free 0
    have f1 := HX1.out.2.free 1
    have HRS := Lib.hid (set2_same (.int .i64 0) (.int .i64 0) HX1.out.2)
    have HBE := Lib.hid (set2_below (v0 := .int .i64 0) (v1 := .int .i64 0) HX1.out.1.below (show w.heap.size ≤ w.heap.size + 1 by omega))
    have s0 := HRS.out.cell 0
    have s1 := HRS.out.cell 1
    go_wp2_with fail
    exact bodyPost_ret (v := .tuple #[.agg #[.int .i64 0, .int .i64 0], .bool false]) (by simp [results, Try.results38, go_sem, s0, s1]) rfl (rat_post HR.out HBE.out)
  · have hr := ratioR_yes hcb
    obtain ⟨hgf, hl, hs, hx0, hx9, _, _⟩ := can_parts hcb
    have HC := Lib.hid (fun w hv => HTI.out (.slice y xs.length c) w hv hl hs hx0 hx9)
    clear hl hs hcb
    subst hgf
    obtain ⟨p, q, hpq⟩ : ∃ p q, ratI (timT a x xs xs.length) a n = (p, q) := ⟨_, _, rfl⟩
    rw [hpq] at HC hr
    have HR := Lib.hid hr
    clear hpq hr
    have h0 := HB1.out.cell 0
    have h1 := HB1.out.cell 1
    have h2 := HB1.out.cell 2
    have h3 := HB1.out.cell 3
    go_wp2_with fail
    refine (HC.out _ HV2.out).mono ?_
    rintro e w3 ⟨rfl, hb⟩
    have HX3 := Lib.hid (boxT_next HX1.out hb)
    clear hb h0 h1 h2 h3 HX1 HB1
    have d0 := HX3.out.2.cell 0
    have d1 := HX3.out.2.cell 1
    have f0 := HX3.out.2.free 0
    have f1 := HX3.out.2.free 1
    have HRS := Lib.hid (set2_same (.int .i64 p) (.int .i64 q) HX3.out.2)
    have HBE := Lib.hid (set2_below (v0 := .int .i64 p) (v1 := .int .i64 q) HX3.out.1.below (show w.heap.size ≤ w.heap.size + 1 by omega))
    have s0 := HRS.out.cell 0
    have s1 := HRS.out.cell 1
    go_wp2_with fail
    exact bodyPost_ret (v := .tuple #[.agg #[.int .i64 p, .int .i64 q], .bool true]) (by simp [results, Try.results38, go_sem, s0, s1]) rfl (rat_post HR.out HBE.out)
def EqTR (p q : Int) (w : World) (rv i : Value) (wr : World) : Prop :=
  rv = .bool false ∧ Below w.heap.size w wr ∧ Two wr w.heap.size p q ∧ Two wr (w.heap.size + 1) p q ∧ (i = .int .i64 0 ∨ i = .int .i64 1 ∨ i = .int .i64 2)
set_option maxHeartbeats 800000 in
theorem eqA2_same (p q : Int) (w : World) :
    Calls Try.prog 39 #[.agg #[.int .i64 p, .int .i64 q], .agg #[.int .i64 p, .int .i64 q]] w fun e w' => e = .returned (.bool true) ∧ Below w.heap.size w w' := by
  have HBL := Lib.hid ((below_new w (.cells #[.int .i64 p, .int .i64 q] 46)).trans ((below_new (w.alloc (.cells #[.int .i64 p, .int .i64 q] 46)) (.cells #[.int .i64 p, .int .i64 q] 46)).mono (by simp)))
  have HA := Lib.hid ((blk_new w #[.int .i64 p, .int .i64 q] 46).below (below_new _ (.cells #[.int .i64 p, .int .i64 q] 46)))
  have HB := Lib.hid (blk_at (w.alloc (.cells #[.int .i64 p, .int .i64 q] 46)) #[.int .i64 p, .int .i64 q] 46 (w.heap.size + 1) (by simp))
  go_enter Try.func39, Try.ntmps39
  go_wp2_with fail
  go_loopw [4, 5] (fun rv i wr => EqTR p q w rv i wr) (fun _ i _ => 3 - (intOf i).toNat)
  case atStart => exact ⟨rfl, HBL.out, HA.out, HB.out, .inl rfl⟩
  case round =>
    obtain ⟨rfl, hbl, ha, hb, hi⟩ := hrel
    clear HBL HA HB
    have HBL := Lib.hid hbl
    have HA := Lib.hid ha
    have HB := Lib.hid hb
    clear hbl ha hb
    have c0 := HA.out.cell 0
    have c1 := HA.out.cell 1
    have d0 := HB.out.cell 0
    have d1 := HB.out.cell 1
    rcases hi with rfl | rfl | rfl
    · go_wp2_with fail
      go_quiet (fail)
      go_wp2_with fail
      go_roundw
      case rel => exact ⟨rfl, HBL.out.trans ((below_drewN _ _).mono HBL.out.size), HA.out.below (below_drewN _ _), HB.out.below (below_drewN _ _), .inr (.inl rfl)⟩
      case measure => decide
    · go_wp2_with fail
      go_quiet (fail)
      go_wp2_with fail
      go_roundw
      case rel => exact ⟨rfl, HBL.out.trans ((below_drewN _ _).mono HBL.out.size), HA.out.below (below_drewN _ _), HB.out.below (below_drewN _ _), .inr (.inr rfl)⟩
      case measure => decide
    · go_wp2_with fail
      go_ret
      exact ⟨rfl, HBL.out⟩
end Go.Proofs.Ytnclfdfnhhicdaa
