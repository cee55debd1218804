/-
  What is proved: the contracts of spec.l3Worst, impl.isLess and a searcher's worst: the worst place of a search. Conditions: a valid line, a place on it, a search, an extra time from 0 to 9.
-/
import Derived.Test.YtnclfdfnhhicdaaSej
namespace Go.Proofs.Ytnclfdfnhhicdaa
open Go.RowKit
set_option linter.unusedVariables false
set_option linter.unusedSimpArgs false

/-- the worst place of the first k, its time and its gap -/
def wst (f : Int → Int) (a : Int) : Nat → Int × Int × Int
  | 0 => (0, 0, 1)
  | k + 1 => if (k : Int) ≠ a ∧ (wst f a k).2.1 * gap1 a k < f k * (wst f a k).2.2 then ((k : Int), f k, gap1 a k) else wst f a k
theorem wst_yes {f : Int → Int} {a : Int} {k : Nat} {b t g : Int} (h : wst f a k = (b, t, g)) (ha : (k : Int) ≠ a) (hc : t * gap1 a k < f k * g) : wst f a (k + 1) = ((k : Int), f k, gap1 a k) := by
  show (if (k : Int) ≠ a ∧ (wst f a k).2.1 * gap1 a k < f k * (wst f a k).2.2 then ((k : Int), f k, gap1 a k) else wst f a k) = _
  rw [h]
  exact if_pos ⟨ha, hc⟩
theorem wst_no {f : Int → Int} {a : Int} {k : Nat} {b t g : Int} (h : wst f a k = (b, t, g)) (hn : (k : Int) = a ∨ ¬ t * gap1 a k < f k * g) : wst f a (k + 1) = (b, t, g) := by
  show (if (k : Int) ≠ a ∧ (wst f a k).2.1 * gap1 a k < f k * (wst f a k).2.2 then ((k : Int), f k, gap1 a k) else wst f a k) = _
  rw [h]
  exact if_neg (fun hh => by
    rcases hn with h1 | h1
    · exact hh.1 h1
    · exact h1 hh.2)
/-- what holds of it -/
structure WInv (n a : Int) (k : Nat) (b t g : Int) : Prop where
  b0 : 0 ≤ b
  b1 : b < n
  t0 : 0 ≤ t
  t1 : t ≤ 760
  g0 : 1 ≤ g
  g1 : g ≤ 24
theorem winv_first {n a : Int} (hn : 2 ≤ n) : WInv n a 0 0 0 1 := ⟨by decide, by omega, by decide, by decide, by decide, by decide⟩
theorem winv_at {n a : Int} {f : Int → Int} (hn : 2 ≤ n ∧ n ≤ 24) (ha : 0 ≤ a ∧ a < n) (hf : ∀ k : Nat, 0 ≤ (k : Int) → (k : Int) < n → 0 ≤ f k ∧ f k ≤ 760) : ∀ k : Nat, (k : Int) ≤ n → ∃ b t g, wst f a k = (b, t, g) ∧ WInv n a k b t g
  | 0, _ => ⟨0, 0, 1, rfl, winv_first hn.1⟩
  | k + 1, hk => by
    obtain ⟨b, t, g, h, hi⟩ := winv_at hn ha hf k (by omega)
    have hfk := hf k (by omega) (by omega)
    by_cases hc : (k : Int) ≠ a ∧ t * gap1 a k < f k * g
    · have hg : 1 ≤ gap1 a k ∧ gap1 a k ≤ 24 := by unfold gap1; omega
      exact ⟨_, _, _, wst_yes h hc.1 hc.2, ⟨by omega, by omega, hfk.1, hfk.2, hg.1, hg.2⟩⟩
    · refine ⟨b, t, g, wst_no h ?_, ⟨hi.b0, hi.b1, hi.t0, hi.t1, hi.g0, hi.g1⟩⟩
      by_cases h1 : (k : Int) = a
      · exact .inl h1
      · exact .inr (fun h2 => hc ⟨h1, h2⟩)
theorem gap_line (n a p : Int) : gapI n false a p = gap1 a p := rfl
def WorR (n : Int) (f : Int → Int) (a : Int) (base : Nat) (tv : Value) (w : World) (bv tm gv i : Value) (wr : World) : Prop :=
  Boxed base n false w wr ∧ ReadsI wr tv (listF n f) ∧ ∃ (k : Nat) (b t g : Int), (k : Int) ≤ n ∧ i = .int .i64 k ∧ bv = .int .i64 b ∧ tm = .int .i64 t ∧ gv = .int .i64 g ∧ wst f a k = (b, t, g) ∧ WInv n a k b t g
def wor (f : Int → Int) (a n : Int) : Int × Int × Int := wst f a n.toNat
theorem winv_next {n a : Int} {f : Int → Int} {k : Nat} {b' t' g' : Int} (hn : 2 ≤ n ∧ n ≤ 24) (ha : 0 ≤ a ∧ a < n) (hf : ∀ k : Nat, 0 ≤ (k : Int) → (k : Int) < n → 0 ≤ f k ∧ f k ≤ 760) (hk : (k : Int) ≤ n) (h : wst f a k = (b', t', g')) : WInv n a k b' t' g' := by
  obtain ⟨b, t, g, h2, h3⟩ := winv_at hn ha hf k hk
  rw [h] at h2
  cases h2
  exact h3
set_option maxHeartbeats 1600000 in
set_option maxRecDepth 20000 in
theorem l3Worst_any (n a x : Int) (v : Value) (xs : List Int) (w : World) (hv : ReadsI w v xs) (hl : lineB n false a = true) (hs : searchB n a xs = true) (he0 : 0 ≤ x) (he9 : x ≤ 9) :
    Calls Try.prog 71 #[rd n false, .int .i64 a, v, .int .i64 x] w fun e w' => e = .returned (.tuple #[.int .i64 (wor (timT a x xs xs.length) a n).1, .int .i64 (wor (timT a x xs xs.length) a n).2.1, .int .i64 (wor (timT a x xs xs.length) a n).2.2]) ∧ Below w.heap.size w w' := by
  obtain ⟨hn1, hn2, _, ha0, ha1⟩ := (lineB_iff n false a).1 hl
  have HTI := Lib.hid (fun w hv => l3Times_any n a x v xs w hv hl hs he0 he9)
  have HFB := Lib.hid (fun (k : Nat) h0 h1 => timT_bounds (e := x) hs ha0 ha1 hn2 hn1 he0 he9 (k : Int) h0 h1)
  have HG := Lib.hid (fun p w hp => l2Gap_any n false a p w ⟨by omega, hn2⟩ ⟨ha0, by omega⟩ hp)
  have HWN := Lib.hid (fun k b t g hk h => winv_next (k := k) (b' := b) (t' := t) (g' := g) ⟨hn1, hn2⟩ ⟨ha0, ha1⟩ HFB.out hk h)
  have HX := Lib.hid (Boxed.first w n false 27)
  have HV := Lib.hid (hv.below (below_new w (.cells #[.int .i64 n, .bool false] 27)))
  obtain ⟨y, c, rfl, hc, hm, _⟩ := hv
  clear hl hs
  unfold rd at *
  unfold wor timesL at *
  generalize timT a x xs xs.length = f at *
  have h0 := HX.out.c0
  have h1 := HX.out.c1
  go_enter Try.func71, Try.ntmps71
  go_wp2_with fail
  refine (HTI.out _ HV.out).mono ?_
  rintro e w1 ⟨tv, rfl, ho, hb⟩
  have HX := Lib.hid (HX.out.next hb)
  have HTV := Lib.hid (show ReadsI w1 tv (listF n f) from owns_reads ho (by show (listF n _).length ≤ _; rw [listF_len]; unfold maxLen; omega))
  clear hb ho h0 h1 HTI HV
  obtain ⟨ta, tc, hts⟩ := reads_shape HTV.out
  have hll := listF_len n f
  rw [hll] at hts
  subst hts
  clear hll
  go_wp2_with fail
  go_loopw [12, 13, 14, 15] (fun bv tm gv i wr => WorR n f a w.heap.size (.slice ta n.toNat tc) w bv tm gv i wr) (fun _ _ _ i _ => n.toNat - (intOf i).toNat)
  case atStart => exact ⟨HX.out, HTV.out, 0, 0, 0, 1, by omega, rfl, rfl, rfl, rfl, rfl, winv_first hn1⟩
  case round =>
    obtain ⟨hx, htv, k, b, t, g, hk, rfl, rfl, rfl, rfl, hw, hi⟩ := hrel
    clear HX HTV
    have HX := Lib.hid hx
    have HTV := Lib.hid htv
    have HW := Lib.hid hw
    have ht0 := hi.t0
    have ht1 := hi.t1
    have hg0 := hi.g0
    have hg1 := hi.g1
    have HI := Lib.hid hi
    clear hx htv hw hi
    have h0 := HX.out.c0
    have h1 := HX.out.c1
    by_cases hlt : (k : Int) < n
    · have hfb := HFB.out k (by omega) hlt
      obtain ⟨tb, to, e, htl, hct0⟩ := reads_at HTV.out (listF_at n f k (by omega))
      subst e
      have HCT := Lib.hid hct0
      have hgl := gap_line n a k
      have hgr : 0 ≤ gap1 a k ∧ gap1 a k ≤ 24 ∧ ((k : Int) ≠ a → 0 < gap1 a k) ∧ ((k : Int) = a → ¬ 0 < gap1 a k) := by unfold gap1; omega
      have HGL := Lib.hid hgl
      have HTL := Lib.hid htl
      clear hct0 hgl htl
      go_wp2_with fail
      refine (HG.out _ _ ⟨by omega, by omega⟩).mono ?_
      rw [HGL.out]
      rintro e w2 ⟨rfl, hb⟩
      have HX := Lib.hid (HX.out.next hb)
      have hct := (hb.cell (p := ⟨tb, to + k, none⟩) HTL.out).trans HCT.out
      have HTV := Lib.hid (HTV.out.below hb)
      clear hb h0 h1
      have hmb1 := mul_bounds (a := t) (b := gap1 a k) ht0 ht1 hgr.1 hgr.2.1
      have hmb2 := mul_bounds (a := f k) (b := g) hfb.1 hfb.2 (show 0 ≤ g by omega) hg1
      by_cases hka : (k : Int) = a
      · have HN := Lib.hid (wst_no HW.out (.inl hka))
        have hgz : gap1 a k ≤ 0 := hgr.2.2.2 hka
        have HI2 := Lib.hid (HWN.out (k + 1) b t g (by omega) HN.out)
        generalize gap1 a k = G at *
        go_wp2_with fail
        go_roundw
        case rel => exact ⟨HX.out, HTV.out, k + 1, b, t, g, by omega, by go_num, rfl, rfl, rfl, HN.out, HI2.out⟩
        case measure => simp [intOf]; omega
      · have hgz : 0 < gap1 a k := hgr.2.2.1 hka
        have hki : (k : Int) < (n.toNat : Int) := by omega
        by_cases hcc : t * gap1 a k < f k * g
        · have HN := Lib.hid (wst_yes HW.out hka hcc)
          have HI2 := Lib.hid (HWN.out (k + 1) _ _ _ (by omega) HN.out)
          generalize gap1 a k = G at *
          generalize f k = tk at *
          have hw1 : IntKind.i64.wrap (t * G) = t * G := IntWalk.i64_in _ (by omega)
          have hw2 : IntKind.i64.wrap (tk * g) = tk * g := IntWalk.i64_in _ (by omega)
          go_wp2_with fail
          go_roundw
          case rel => exact ⟨HX.out, HTV.out, k + 1, _, _, _, by omega, by go_num, rfl, rfl, rfl, HN.out, HI2.out⟩
          case measure => simp [intOf]; omega
        · have HN := Lib.hid (wst_no HW.out (.inr hcc))
          have HI2 := Lib.hid (HWN.out (k + 1) _ _ _ (by omega) HN.out)
          generalize gap1 a k = G at *
          generalize f k = tk at *
          have hw1 : IntKind.i64.wrap (t * G) = t * G := IntWalk.i64_in _ (by omega)
          have hw2 : IntKind.i64.wrap (tk * g) = tk * g := IntWalk.i64_in _ (by omega)
          go_wp2_with fail
          go_roundw
          case rel => exact ⟨HX.out, HTV.out, k + 1, _, _, _, by omega, by go_num, rfl, rfl, rfl, HN.out, HI2.out⟩
          case measure => simp [intOf]; omega
    · have hke : n.toNat = k := by omega
      have HKE := Lib.hid hke
      clear hke
      go_wp2_with fail
      refine bodyPost_ret (v := .tuple #[.int .i64 b, .int .i64 t, .int .i64 g]) (by simp [results, Try.results71, go_sem]) rfl ⟨?_, HX.out.below⟩
      rw [HKE.out, HW.out]
theorem isLess_any (t g t2 g2 : Int) (w : World) (h0 : 0 ≤ t ∧ t ≤ 760) (h1 : 0 ≤ g ∧ g ≤ 24) (h2 : 0 ≤ t2 ∧ t2 ≤ 760) (h3 : 0 ≤ g2 ∧ g2 ≤ 24) :
    Calls Try.prog 92 #[.agg #[.int .i64 t, .int .i64 g], .agg #[.int .i64 t2, .int .i64 g2]] w fun e w' => e = .returned (.bool (decide (t * g2 < t2 * g))) ∧ Below w.heap.size w w' := by
  have hmb1 := mul_bounds h0.1 h0.2 h3.1 h3.2
  have hmb2 := mul_bounds h2.1 h2.2 h1.1 h1.2
  have hw1 : IntKind.i64.wrap (t * g2) = t * g2 := IntWalk.i64_in _ (by omega)
  have hw2 : IntKind.i64.wrap (t2 * g) = t2 * g := IntWalk.i64_in _ (by omega)
  have HB0 := Lib.hid ((blk_new w #[.int .i64 t, .int .i64 g] 46).below (below_new _ (.cells #[.int .i64 t2, .int .i64 g2] 46)))
  have HB1 := Lib.hid (blk_at (w.alloc (.cells #[.int .i64 t, .int .i64 g] 46)) #[.int .i64 t2, .int .i64 g2] 46 (w.heap.size + 1) (by simp))
  have c0 := HB0.out.cell 0
  have c1 := HB0.out.cell 1
  have c2 := HB1.out.cell 0
  have c3 := HB1.out.cell 1
  go_enter Try.func92, Try.ntmps92
  go_wp2
  go_ret
  exact ⟨rfl, (below_new w _).trans ((below_new _ _).mono (by simp))⟩
end Go.Proofs.Ytnclfdfnhhicdaa
