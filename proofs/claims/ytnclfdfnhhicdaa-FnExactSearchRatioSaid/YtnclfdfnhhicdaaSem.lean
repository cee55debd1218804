/-
  What is proved: the contract of a searcher's worst: the worst place of a search; WorstPlace of the model and of the program. Conditions: a valid line, a place on it, a search, an extra time from 0 to 9.
-/
import Derived.Test.YtnclfdfnhhicdaaSei
import Derived.RegionTactic
import Derived.ChangeAlike
namespace Go.Proofs.Ytnclfdfnhhicdaa
open Go.RowKit
set_option linter.unusedVariables false
set_option linter.unusedSimpArgs false

theorem set2_same {W : World} {b : Nat} {x0 x1 : Value} {t : TypeId} (v0 v1 : Value) (h : Blk W b #[x0, x1] t) : Blk ((W.setCell ⟨b, 0, none⟩ v0).setCell ⟨b, 1, none⟩ v1) b #[v0, v1] t :=
  set1_same _ b 1 _ t v1 (set1_same _ b 0 _ t v0 h)
theorem set2_other {W : World} {b c : Nat} {cs : Array Value} {t : TypeId} {v0 v1 : Value} (h : Blk W c cs t) (hne : c ≠ b) : Blk ((W.setCell ⟨b, 0, none⟩ v0).setCell ⟨b, 1, none⟩ v1) c cs t :=
  set1_other (set1_other h hne) hne
theorem set2_below {base : Nat} {w W : World} {b : Nat} {v0 v1 : Value} (h : Below base w W) (hb : base ≤ b) : Below base w ((W.setCell ⟨b, 0, none⟩ v0).setCell ⟨b, 1, none⟩ v1) :=
  (h.setCell (p := ⟨b, 0, none⟩) hb _).setCell (p := ⟨b, 1, none⟩) hb _
/-- two numbers in a block -/
abbrev Two (w : World) (b : Nat) (t g : Int) : Prop := Blk w b #[.int .i64 t, .int .i64 g] 46
/-- what stays and what is known in a searcher's worst -/
structure WK (base : Nat) (n a x : Int) (w wr : World) (t g : Int) : Prop where
  bel : Below base w wr
  sea : Blk wr base #[.int .i64 n, .bool false, .int .i64 a, .int .i64 x] 60
  res : Two wr (base + 1) 0 0
  cur : Two wr (base + 1 + 1) t g
theorem WK.next {base : Nat} {n a x : Int} {w wr w' : World} {t g : Int} (h : WK base n a x w wr t g) (hb : Below wr.heap.size wr w') : WK base n a x w w' t g :=
  ⟨h.bel.trans (hb.mono (Nat.le_of_lt h.sea.lt)), h.sea.below hb, h.res.below hb, h.cur.below hb⟩
theorem rdT_set {m b j : Nat} {W : World} {u v : Value} {xs : List Int} (h : RdT m W u xs) (hb : b < m) : RdT m (W.setCell ⟨b, j, none⟩ v) u xs := by
  obtain h | ⟨g, c, cs, hu, hg, hc, hm, hh, ht⟩ := h
  · exact .inl h
  · exact .inr ⟨g, c, cs, hu, hg, hc, hm, (Below.heap_setCell W ⟨b, j, none⟩ v g (by show g ≠ b; omega)).trans hh, ht⟩
def WorI (n : Int) (f : Int → Int) (a x : Int) (base m : Nat) (tv : Value) (w : World) (bv i : Value) (wr : World) : Prop :=
  RdT m wr tv (listF n f) ∧ ∃ (k : Nat) (b t g : Int), (k : Int) ≤ n ∧ i = .int .i64 k ∧ bv = .int .i64 b ∧ WK base n a x w wr t g ∧ wst f a k = (b, t, g) ∧ WInv n a k b t g
set_option maxHeartbeats 1600000 in
set_option maxRecDepth 20000 in
theorem worst_any (n a x : Int) (v : Value) (xs : List Int) (w : World) (hv : ReadsI w v xs) (hl : lineB n false a = true) (hs : searchB n a xs = true) (he0 : 0 ≤ x) (he9 : x ≤ 9) (hlen : xs.length ≤ 1048576) :
    Calls Try.prog 72 #[sr n false a x, v] w fun e w' => e = .returned (.tuple #[.int .i64 (wor (timT a x xs xs.length) a n).1, .agg #[.int .i64 (wor (timT a x xs xs.length) a n).2.1, .int .i64 (wor (timT a x xs xs.length) a n).2.2]]) ∧ Below w.heap.size w w' := by
  obtain ⟨hn1, hn2, _, ha0, ha1⟩ := (lineB_iff n false a).1 hl
  have HTI := Lib.hid (fun w hv => times_int n a x v xs w hv hl hs he0 he9 hlen)
  have HFB := Lib.hid (fun (k : Nat) h0 h1 => timT_bounds (e := x) hs ha0 ha1 hn2 hn1 he0 he9 (k : Int) h0 h1)
  have hpl : ∀ p : Int, 0 ≤ p → p < n → gapR n false a p = (gap1 a p, true) := fun p h0 h1 => gapR_yes (by rw [Bool.and_eq_true, placeB_iff, placeB_iff]; exact ⟨⟨(roadB_iff n false).2 ⟨hn1, hn2, fun h => by cases h⟩, ha0, ha1⟩, (roadB_iff n false).2 ⟨hn1, hn2, fun h => by cases h⟩, h0, h1⟩)
  have HPL := Lib.hid hpl
  have HG := Lib.hid (fun p w => impl_GapOf n false a p w)
  have HWN := Lib.hid (fun k b t g hk h => winv_next (k := k) (b' := b) (t' := t) (g' := g) ⟨hn1, hn2⟩ ⟨ha0, ha1⟩ HFB.out hk h)
  have HIL := Lib.hid (fun t g t2 g2 w h0 h1 h2 h3 => isLess_any t g t2 g2 w h0 h1 h2 h3)
  have hk0 : WK w.heap.size n a x w (((w.alloc (.cells #[.int .i64 n, .bool false, .int .i64 a, .int .i64 x] 60)).alloc (.cells #[.int .i64 0, .int .i64 0] 46)).alloc (.cells #[.int .i64 0, .int .i64 1] 46)) 0 1 :=
    ⟨((below_new w _).trans ((below_new _ _).mono (by simp))).trans ((below_new _ _).mono (by simp; omega)), ((blk_new w _ _).below (below_new _ _)).below (below_new _ _), (blk_at _ _ _ _ (by simp)).below (below_new _ _), blk_at _ _ _ _ (by simp)⟩
  have HK := Lib.hid hk0
  have HV := Lib.hid (((hv.below (below_new w (.cells #[.int .i64 n, .bool false, .int .i64 a, .int .i64 x] 60))).below (below_new _ (.cells #[.int .i64 0, .int .i64 0] 46))).below (below_new _ (.cells #[.int .i64 0, .int .i64 1] 46)))
  obtain ⟨y, c, rfl, hc, hm, _⟩ := hv
  clear hl hs hk0 hpl
  unfold sr rd wor timesL at *
  generalize timT a x xs xs.length = f at *
  have c0 := HK.out.sea.cell 0
  have c1 := HK.out.sea.cell 1
  have c2 := HK.out.sea.cell 2
  have c3 := HK.out.sea.cell 3
  go_enter Try.func72, Try.ntmps72
  go_wp2_with fail
  refine (HTI.out _ HV.out).mono ?_
  rintro e w1 ⟨tv, rfl, ho, hb⟩
  have HK := Lib.hid (HK.out.next hb)
  have HTV := Lib.hid ((show RdT _ w1 tv (listF n f) from rdT_of ho (by show (listF n _).length ≤ _; rw [listF_len]; unfold maxLen; omega)).lower (show w.heap.size + 3 ≤ _ by simp))
  clear hb ho c0 c1 c2 c3 HTI HV
  obtain ⟨ta, tc, hts⟩ := reads_shape HTV.out.reads
  have hll := listF_len n f
  rw [hll] at hts
  subst hts
  clear hll
  go_wp2_with fail
  go_loopw [6, 18] (fun bv i wr => WorI n f a x w.heap.size (w.heap.size + 3) (.slice ta n.toNat tc) w bv i wr) (fun _ i _ => n.toNat - (intOf i).toNat)
  case atStart => exact ⟨HTV.out, 0, 0, 0, 1, by omega, rfl, rfl, HK.out, rfl, winv_first hn1⟩
  case round =>
    obtain ⟨htv, k, b, t, g, hk, rfl, rfl, hkk, hw, hi⟩ := hrel
    clear HK HTV
    have HK := Lib.hid hkk
    have HTV := Lib.hid htv
    have HW := Lib.hid hw
    have ht0 := hi.t0
    have ht1 := hi.t1
    have hg0 := hi.g0
    have hg1 := hi.g1
    clear hkk htv hw hi
    have c0 := HK.out.sea.cell 0
    have c1 := HK.out.sea.cell 1
    have c2 := HK.out.sea.cell 2
    by_cases hlt : (k : Int) < n
    · have hfb := HFB.out k (by omega) hlt
      have hgr : 0 ≤ gap1 a k ∧ gap1 a k ≤ 24 := by unfold gap1; omega
      obtain ⟨tb, to, e, htl, hct⟩ := reads_at HTV.out.reads (listF_at n f k (by omega))
      subst e
      by_cases hka : (k : Int) = a
      · have HN := Lib.hid (wst_no HW.out (.inl hka))
        have HI2 := Lib.hid (HWN.out (k + 1) b t g (by omega) HN.out)
        have hka' : ((k : Int) == a) = true := by simp [hka]
        clear hka
        go_wp2_with fail
        go_roundw
        case rel => exact ⟨HTV.out, k + 1, b, t, g, by omega, by go_num, rfl, HK.out, HN.out, HI2.out⟩
        case measure => simp [intOf]; omega
      · have hka' : ((k : Int) == a) = false := by simp [hka]
        go_wp2_with fail
        refine (HG.out _ _).mono ?_
        rw [HPL.out k (by omega) hlt]
        rintro e w2 ⟨rfl, hb⟩
        have hs2 := hb.size
        have HKa := Lib.hid ((HK.out.next hb).next (below_new _ (.cells #[.int .i64 (f k), .int .i64 (gap1 a k)] 46)))
        have HTa := Lib.hid ((HTV.out.below hb).below (below_new _ (.cells #[.int .i64 (f k), .int .i64 (gap1 a k)] 46)))
        have HXa := Lib.hid (blk_new w2 #[.int .i64 (f k), .int .i64 (gap1 a k)] 46)
        clear hb c0 c1 c2 hct HK HTV
        have d0 := HKa.out.cur.cell 0
        have d1 := HKa.out.cur.cell 1
        have e0 := HXa.out.cell 0
        have e1 := HXa.out.cell 1
        go_wp2_with fail
        refine (HIL.out _ _ _ _ _ ⟨ht0, ht1⟩ ⟨by omega, hg1⟩ hfb hgr).mono ?_
        rintro e w3 ⟨rfl, hb⟩
        have hs3 : w2.heap.size < w3.heap.size := by have := hb.size; simp at this; omega
        have HX3 := Lib.hid (HXa.out.below hb)
        have HK3 := Lib.hid (HKa.out.next hb)
        have HT3 := Lib.hid (HTa.out.below hb)
        clear d0 d1 e0 e1 hb HKa HTa HXa
        by_cases hcc : t * gap1 a k < f k * g
        · have HN := Lib.hid (wst_yes HW.out hka hcc)
          have HI2 := Lib.hid (HWN.out (k + 1) _ _ _ (by omega) HN.out)
          rw [show decide (t * gap1 a k < f k * g) = true by simp [hcc]]
          generalize gap1 a k = G at *
          generalize f k = tk at *
          have d0 := HK3.out.cur.cell 0
          have d1 := HK3.out.cur.cell 1
          have f0 := HK3.out.cur.free 0
          have f1 := HK3.out.cur.free 1
          have e0 := HX3.out.cell 0
          have e1 := HX3.out.cell 1
          go_wp2_with fail
          go_region
          have HK4 := Lib.hid (show WK w.heap.size n a x w (((w3.setCell ⟨w.heap.size + 1 + 1, 0, none⟩ (.int .i64 tk)).setCell ⟨w.heap.size + 1 + 1, 1, none⟩ (.int .i64 G)).drew) tk G from
            WK.next ⟨set2_below HK3.out.bel (by omega), set2_other HK3.out.sea (by omega), set2_other HK3.out.res (by omega), set2_same _ _ HK3.out.cur⟩ (below_drewN _ 1))
          have HT4 := Lib.hid (show RdT (w.heap.size + 3) (((w3.setCell ⟨w.heap.size + 1 + 1, 0, none⟩ (.int .i64 tk)).setCell ⟨w.heap.size + 1 + 1, 1, none⟩ (.int .i64 G)).drew) (.slice (some ⟨tb, to, none⟩) n.toNat tc) (listF n f) from (rdT_set (rdT_set HT3.out (by omega)) (by omega)).below (below_drewN _ 1))
          go_wp2_with fail
          go_roundw
          case rel => exact ⟨HT4.out, k + 1, _, _, _, by omega, by go_num, rfl, HK4.out, HN.out, HI2.out⟩
          case measure => simp [intOf]; omega
        · have HN := Lib.hid (wst_no HW.out (.inr hcc))
          have HI2 := Lib.hid (HWN.out (k + 1) _ _ _ (by omega) HN.out)
          rw [show decide (t * gap1 a k < f k * g) = false by simp; omega]
          go_wp2_with fail
          go_roundw
          case rel => exact ⟨HT3.out, k + 1, _, _, _, by omega, by go_num, rfl, HK3.out, HN.out, HI2.out⟩
          case measure => simp [intOf]; omega
    · have hke : n.toNat = k := by omega
      have HKE := Lib.hid hke
      have d0 := HK.out.cur.cell 0
      have d1 := HK.out.cur.cell 1
      have r0 := HK.out.res.cell 0
      have r1 := HK.out.res.cell 1
      have f0 := HK.out.res.free 0
      have f1 := HK.out.res.free 1
      clear hke
      have HR := Lib.hid (set2_same (.int .i64 t) (.int .i64 g) HK.out.res)
      have HBE := Lib.hid (set2_below (v0 := .int .i64 t) (v1 := .int .i64 g) HK.out.bel (show w.heap.size ≤ w.heap.size + 1 by omega))
      go_wp2_with fail
      go_region
      have s0 := HR.out.cell 0
      have s1 := HR.out.cell 1
      go_wp2_with fail
      refine bodyPost_ret (v := .tuple #[.int .i64 b, .agg #[.int .i64 t, .int .i64 g]]) (by simp [results, Try.results72, go_sem, s0, s1]) rfl ⟨?_, HBE.out.trans ((below_drewN _ 1).mono HBE.out.size)⟩
      rw [HKE.out, HW.out]
end Go.Proofs.Ytnclfdfnhhicdaa
