/-
  What is proved: the contracts of impl.stretchOf and of a searcher's canSearch; impl.IsSearch and impl.TurnCount. Conditions: slices that read as lists of numbers.
-/
import Derived.Test.YtnclfdfnhhicdaaSeb
namespace Go.Proofs.Ytnclfdfnhhicdaa
open Go.RowKit
set_option linter.unusedVariables false

/-- a world with one cell stored -/
def set1 (W : World) (b j : Nat) (v : Value) : World := W.setCell ⟨b, j, none⟩ v
theorem set1_same (W : World) (b j : Nat) (cs : Array Value) (t : TypeId) (v : Value) (h : Blk W b cs t) : Blk (W.setCell ⟨b, j, none⟩ v) b (cs.setIfInBounds j v) t := heap_setCell_same W b j _ t v h
theorem set1_other {W : World} {b c j : Nat} {cs : Array Value} {t : TypeId} {v : Value} (h : Blk W c cs t) (hne : c ≠ b) : Blk (W.setCell ⟨b, j, none⟩ v) c cs t := (Below.heap_setCell W ⟨b, j, none⟩ v c hne).trans h
theorem set3_same {W : World} {b : Nat} {x0 x1 x2 : Value} {t : TypeId} (v0 v1 v2 : Value) (h : Blk W b #[x0, x1, x2] t) : Blk (((W.setCell ⟨b, 0, none⟩ v0).setCell ⟨b, 1, none⟩ v1).setCell ⟨b, 2, none⟩ v2) b #[v0, v1, v2] t :=
  set1_same _ b 2 _ t v2 (set1_same _ b 1 _ t v1 (set1_same _ b 0 _ t v0 h))
theorem set3_other {W : World} {b c : Nat} {cs : Array Value} {t : TypeId} {v0 v1 v2 : Value} (h : Blk W c cs t) (hne : c ≠ b) : Blk (((W.setCell ⟨b, 0, none⟩ v0).setCell ⟨b, 1, none⟩ v1).setCell ⟨b, 2, none⟩ v2) c cs t :=
  set1_other (set1_other (set1_other h hne) hne) hne
theorem set3_below {base : Nat} {w W : World} {b : Nat} {v0 v1 v2 : Value} (h : Below base w W) (hb : base ≤ b) : Below base w (((W.setCell ⟨b, 0, none⟩ v0).setCell ⟨b, 1, none⟩ v1).setCell ⟨b, 2, none⟩ v2) :=
  ((h.setCell (p := ⟨b, 0, none⟩) hb _).setCell (p := ⟨b, 1, none⟩) hb _).setCell (p := ⟨b, 2, none⟩) hb _
theorem set4_same {W : World} {b : Nat} {x0 x1 x2 x3 : Value} {t : TypeId} (v0 v1 v2 v3 : Value) (h : Blk W b #[x0, x1, x2, x3] t) : Blk ((((W.setCell ⟨b, 0, none⟩ v0).setCell ⟨b, 1, none⟩ v1).setCell ⟨b, 2, none⟩ v2).setCell ⟨b, 3, none⟩ v3) b #[v0, v1, v2, v3] t :=
  set1_same _ b 3 _ t v3 (set1_same _ b 2 _ t v2 (set1_same _ b 1 _ t v1 (set1_same _ b 0 _ t v0 h)))
theorem set4_other {W : World} {b c : Nat} {cs : Array Value} {t : TypeId} {v0 v1 v2 v3 : Value} (h : Blk W c cs t) (hne : c ≠ b) : Blk ((((W.setCell ⟨b, 0, none⟩ v0).setCell ⟨b, 1, none⟩ v1).setCell ⟨b, 2, none⟩ v2).setCell ⟨b, 3, none⟩ v3) c cs t :=
  set1_other (set1_other (set1_other (set1_other h hne) hne) hne) hne
theorem set4_below {base : Nat} {w W : World} {b : Nat} {v0 v1 v2 v3 : Value} (h : Below base w W) (hb : base ≤ b) : Below base w ((((W.setCell ⟨b, 0, none⟩ v0).setCell ⟨b, 1, none⟩ v1).setCell ⟨b, 2, none⟩ v2).setCell ⟨b, 3, none⟩ v3) :=
  (((h.setCell (p := ⟨b, 0, none⟩) hb _).setCell (p := ⟨b, 1, none⟩) hb _).setCell (p := ⟨b, 2, none⟩) hb _).setCell (p := ⟨b, 3, none⟩) hb _
/-- what stretchOf answers -/
def strR (a : Int) (xs : List Int) : (Int × Int × Int) × Bool := match cov a xs xs.length with
  | some c => (c, true)
  | none => ((0, 0, 0), false)
theorem strR_some {a : Int} {xs : List Int} {c : Int × Int × Int} (h : cov a xs xs.length = some c) : strR a xs = (c, true) := by unfold strR; rw [h]
theorem strR_none {a : Int} {xs : List Int} {k : Nat} (h : cov a xs k = none) (hk : k ≤ xs.length) : strR a xs = ((0, 0, 0), false) := by unfold strR; rw [cov_none h hk]
def StR (a : Int) (xs : List Int) (base : Nat) (w : World) (i : Value) (wr : World) : Prop :=
  Below base w wr ∧ Blk wr base #[.int .i64 0, .int .i64 0, .int .i64 0] 83 ∧ ∃ (k : Nat) (lo hi q : Int), k ≤ xs.length ∧ i = .int .i64 k ∧ cov a xs k = some (lo, hi, q) ∧ Blk wr (base + 1) #[.int .i64 lo, .int .i64 hi, .int .i64 q] 83
def StPost (a : Int) (xs : List Int) (w : World) (e : Ending) (w' : World) : Prop :=
  e = .returned (.tuple #[tv (strR a xs).1.1 (strR a xs).1.2.1 (strR a xs).1.2.2, .bool (strR a xs).2]) ∧ Below w.heap.size w w'
theorem st_post {a : Int} {xs : List Int} {w w' : World} {lo hi q : Int} {b : Bool} (h : strR a xs = ((lo, hi, q), b)) (hb : Below w.heap.size w w') : StPost a xs w (.returned (.tuple #[.agg #[.int .i64 lo, .int .i64 hi, .int .i64 q], .bool b])) w' := by
  unfold StPost
  rw [h]
  exact ⟨rfl, hb⟩
set_option maxHeartbeats 1600000 in
set_option maxRecDepth 20000 in
theorem stretchOf_any (a : Int) (v : Value) (xs : List Int) (w : World) (hv : ReadsI w v xs) :
    Calls Try.prog 76 #[.int .i64 a, v] w (StPost a xs w) := by
  have HM := Lib.hid (fun lo hi q p w => mayTurn_any lo hi q p w)
  have HW := Lib.hid (fun lo hi q p w => widened_any lo hi q p w)
  obtain ⟨y, c, rfl, hc, hm, hx⟩ := hv
  have HL := Lib.hid hx
  unfold maxLen at hm
  clear hx
  have H0 := Lib.hid ((blk_new w #[.int .i64 0, .int .i64 0, .int .i64 0] 83).below (below_new _ (.cells #[.int .i64 a, .int .i64 a, .int .i64 a] 83)))
  have H1 := Lib.hid (blk_at (w.alloc (.cells #[.int .i64 0, .int .i64 0, .int .i64 0] 83)) #[.int .i64 a, .int .i64 a, .int .i64 a] 83 (w.heap.size + 1) (by simp))
  have HBL := Lib.hid ((below_new w (.cells #[.int .i64 0, .int .i64 0, .int .i64 0] 83)).trans ((below_new (w.alloc (.cells #[.int .i64 0, .int .i64 0, .int .i64 0] 83)) (.cells #[.int .i64 a, .int .i64 a, .int .i64 a] 83)).mono (by simp)))
  unfold tv at *
  go_enter Try.func76, Try.ntmps76
  go_wp2_with fail
  go_loopw [5, 15] (fun r i wr => r = .bool false ∧ StR a xs w.heap.size w i wr) (fun _ i _ => xs.length - (intOf i).toNat)
  case atStart => exact ⟨rfl, HBL.out, H0.out, 0, a, a, a, Nat.zero_le _, rfl, rfl, H1.out⟩
  case round =>
    obtain ⟨rfl, hbl, hz, k, lo, hi, q, hk, rfl, hcv, hs⟩ := hrel
    clear H0 H1 HBL
    have HBL := Lib.hid hbl
    have HZ := Lib.hid hz
    have HS := Lib.hid hs
    have HC := Lib.hid hcv
    clear hbl hz hs hcv
    by_cases hlt : k < xs.length
    · obtain ⟨x, hxk⟩ := get_some hlt
      obtain ⟨b, o, rfl, hbl, hcx0⟩ := HL.out k x hxk
      have HXK := Lib.hid hxk
      have hcx : wr.cell? ⟨b, o + k, none⟩ = some (.int .i64 x) := (HBL.out.cell (p := ⟨b, o + k, none⟩) hbl).trans hcx0
      have h0 := HS.out.cell 0
      have h1 := HS.out.cell 1
      have h2 := HS.out.cell 2
      clear hcx0 hxk
      go_wp2_with fail
      refine (HM.out _ _ _ _ _).mono ?_
      rintro e w2 ⟨rfl, hb⟩
      have HBL := Lib.hid (HBL.out.trans (hb.mono HBL.out.size))
      have HZ := Lib.hid (HZ.out.below hb)
      have HS := Lib.hid (HS.out.below hb)
      clear hb h0 h1 h2 hcx
      cases hmb : mayB lo hi q x
      · have HN := Lib.hid (strR_none (cov_no HC.out HXK.out hmb) hlt)
        have f0 := HZ.out.free 0
        have f1 := HZ.out.free 1
        have f2 := HZ.out.free 2
        have c0 := HZ.out.cell 0
        have c1 := HZ.out.cell 1
        have c2 := HZ.out.cell 2
        have hS9 := set3_same (.int .i64 0) (.int .i64 0) (.int .i64 0) HZ.out
        have r0 := hS9.cell 0
        have r1 := hS9.cell 1
        have r2 := hS9.cell 2
        clear hS9
        go_wp2_with fail
        exact bodyPost_ret (v := .tuple #[.agg #[.int .i64 0, .int .i64 0, .int .i64 0], .bool false]) (by simp [results, Try.results76, go_sem, r0, r1, r2]) rfl (st_post HN.out (set3_below HBL.out (Nat.le_refl _)))
      · have HN := Lib.hid (cov_yes HC.out HXK.out hmb)
        have h0 := HS.out.cell 0
        have h1 := HS.out.cell 1
        have h2 := HS.out.cell 2
        have f0 := HS.out.free 0
        have f1 := HS.out.free 1
        have f2 := HS.out.free 2
        go_wp2_with fail
        refine (HW.out _ _ _ _ _).mono ?_
        rintro e w3 ⟨rfl, hb⟩
        have HBL := Lib.hid (HBL.out.trans (hb.mono HBL.out.size))
        have HZ := Lib.hid (HZ.out.below hb)
        have HS := Lib.hid (HS.out.below hb)
        clear hb h0 h1 h2 f0 f1 f2
        have h0 := HS.out.cell 0
        have h1 := HS.out.cell 1
        have h2 := HS.out.cell 2
        have f0 := HS.out.free 0
        have f1 := HS.out.free 1
        have f2 := HS.out.free 2
        go_wp2_with fail
        go_roundw
        case rel => exact ⟨rfl, set3_below HBL.out (by omega), set3_other HZ.out (by omega), k + 1, _, _, _, by omega, by go_num, HN.out, set3_same _ _ _ HS.out⟩
        case measure => simp [intOf]; omega
    · have hke : k = xs.length := by omega
      subst hke
      have HN := Lib.hid (strR_some HC.out)
      have h0 := HS.out.cell 0
      have h1 := HS.out.cell 1
      have h2 := HS.out.cell 2
      have f0 := HZ.out.free 0
      have f1 := HZ.out.free 1
      have f2 := HZ.out.free 2
      have c0 := HZ.out.cell 0
      have c1 := HZ.out.cell 1
      have c2 := HZ.out.cell 2
      have hS9 := set3_same (.int .i64 lo) (.int .i64 hi) (.int .i64 q) HZ.out
      have r0 := hS9.cell 0
      have r1 := hS9.cell 1
      have r2 := hS9.cell 2
      clear hS9
      go_wp2_with fail
      exact bodyPost_ret (v := .tuple #[.agg #[.int .i64 lo, .int .i64 hi, .int .i64 q], .bool true]) (by simp [results, Try.results76, go_sem, r0, r1, r2]) rfl (st_post HN.out (set3_below HBL.out (Nat.le_refl _)))
/-- a valid searcher and a search of it -/
def canB (n : Int) (g : Bool) (a x : Int) (xs : List Int) : Bool := validB n g a x && searchB n a xs
theorem validB_iff (n : Int) (g : Bool) (a x : Int) : validB n g a x = true ↔ lineB n g a = true ∧ 0 ≤ x ∧ x ≤ 9 := by
  unfold validB
  simp
set_option maxHeartbeats 1600000 in
set_option maxRecDepth 20000 in
theorem canSearch_any (n : Int) (g : Bool) (a x : Int) (v : Value) (xs : List Int) (w : World) (hv : ReadsI w v xs) :
    Calls Try.prog 53 #[sr n g a x, v] w fun e w' => e = .returned (.bool (canB n g a x xs)) ∧ Below w.heap.size w w' := by
  have HST := Lib.hid (fun w hv => stretchOf_any a v xs w hv)
  have HVA := Lib.hid (fun w => isValid_any n g a x w)
  have HIW := Lib.hid (fun lo hi q w hn => isWhole_any lo hi q n g w hn)
  have HB := Lib.hid (blk_new w #[.int .i64 n, .bool g, .int .i64 a, .int .i64 x] 60)
  have HBL := Lib.hid (below_new w (.cells #[.int .i64 n, .bool g, .int .i64 a, .int .i64 x] 60))
  have HV := Lib.hid (hv.below (below_new w (.cells #[.int .i64 n, .bool g, .int .i64 a, .int .i64 x] 60)))
  clear hv
  unfold sr rd tv at *
  go_enter Try.func53, Try.ntmps53
  go_wp2_with fail
  refine (HST.out _ HV.out).mono ?_
  rintro e w1 ⟨rfl, hb⟩
  have HB := Lib.hid (HB.out.below hb)
  have HBL := Lib.hid (HBL.out.trans (hb.mono HBL.out.size))
  clear hb HV
  cases hc : cov a xs xs.length with
  | none =>
    have hs := strR_none hc (Nat.le_refl _)
    have hn := searchB_no (n := n) hc (Nat.le_refl _)
    have HN := Lib.hid hn
    clear hc hn
    rw [hs]
    dsimp only [tv]
    go_wp2_with fail
    go_ret
    exact ⟨ret_bool (by simp [canB, HN.out]), HBL.out.trans ((below_new _ _).mono HBL.out.size)⟩
  | some c =>
    obtain ⟨lo, hi, q⟩ := c
    have hs := strR_some hc
    have hn := searchB_some (n := n) hc
    have HN := Lib.hid hn
    clear hc hn
    rw [hs]
    dsimp only [tv]
    have HB := Lib.hid (HB.out.below (below_new w1 (.cells #[.int .i64 lo, .int .i64 hi, .int .i64 q] 83)))
    have HC := Lib.hid (blk_new w1 #[.int .i64 lo, .int .i64 hi, .int .i64 q] 83)
    have HBL := Lib.hid (HBL.out.trans ((below_new w1 (.cells #[.int .i64 lo, .int .i64 hi, .int .i64 q] 83)).mono HBL.out.size))
    have h0 := HB.out.cell 0
    have h1 := HB.out.cell 1
    have h2 := HB.out.cell 2
    have h3 := HB.out.cell 3
    go_wp2_with fail
    refine (HVA.out _).mono ?_
    rintro e w2 ⟨rfl, hb⟩
    have HB := Lib.hid (HB.out.below hb)
    have HC := Lib.hid (HC.out.below hb)
    have HBL := Lib.hid (HBL.out.trans (hb.mono HBL.out.size))
    clear hb h0 h1 h2 h3
    cases hva : validB n g a x
    · go_wp2_with fail
      go_ret
      exact ⟨ret_bool (by simp [canB, hva]), HBL.out⟩
    · have hl := (lineB_iff n g a).1 ((validB_iff n g a x).1 hva).1
      have HLN := Lib.hid (show 2 ≤ n ∧ n ≤ 24 from ⟨hl.1, hl.2.1⟩)
      have h0 := HB.out.cell 0
      have h1 := HB.out.cell 1
      have c0 := HC.out.cell 0
      have c1 := HC.out.cell 1
      have c2 := HC.out.cell 2
      clear hl
      go_wp2_with fail
      refine (HIW.out _ _ _ _ HLN.out).mono ?_
      rintro e w3 ⟨rfl, hb⟩
      have HBL := Lib.hid (HBL.out.trans (hb.mono HBL.out.size))
      clear hb
      go_wp2_with fail
      go_ret
      exact ⟨ret_bool (by simp [canB, hva, HN.out]), HBL.out⟩
end Go.Proofs.Ytnclfdfnhhicdaa
