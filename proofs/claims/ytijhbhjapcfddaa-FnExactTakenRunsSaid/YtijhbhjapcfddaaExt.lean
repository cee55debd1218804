/-
  What is proved: the contract of onward: the progress behind the run that an explorer takes. Conditions: those of the contract.
-/
import Derived.Test.YtijhbhjapcfddaaExs
import Derived.Test.YtijhbhjapcfddaaGcd
import Derived.Test.YtijhbhjapcfddaaVtf
import Derived.BigQuiet
import Derived.Deep.RegionHeld3
import Derived.IntWalk
namespace Go.Proofs.Ytijhbhjapcfddaa
open Go.RowKit
set_option linter.unusedVariables false
set_option linter.unusedSimpArgs false

/-- the boxes of a call of onward: the expedition, the progress, the answer -/
structure OnW (n : Int) (g : Bool) (v1 v2 : Value) (back : Bool) (nx lf : Int) (b0 b1 b2 b3 : Bool) (base : Nat) (w w' : World) : Prop where
  low : Below base w w'
  size : base + 3 ≤ w'.heap.size
  e : Blk w' base #[.int .i64 n, .bool g, v1, v2, .bool back] 73
  a : Blk w' (base + 1) #[.int .i64 nx, .int .i64 lf, .bool b0, .bool b1, .bool b2, .bool b3] 79
  r : Blk w' (base + 2) #[.int .i64 0, .int .i64 0, .bool false, .bool false, .bool false, .bool false] 79
theorem OnW.next {n : Int} {g : Bool} {v1 v2 : Value} {back : Bool} {nx lf : Int} {b0 b1 b2 b3 : Bool} {base : Nat} {w w' w'' : World} (h : OnW n g v1 v2 back nx lf b0 b1 b2 b3 base w w') (hb : Below w'.heap.size w' w'') : OnW n g v1 v2 back nx lf b0 b1 b2 b3 base w w'' :=
  ⟨h.low.trans (hb.mono (by have := h.size; omega)), Nat.le_trans h.size hb.size, h.e.below hb, h.a.below hb, h.r.below hb⟩
theorem on_done {n : Int} {g : Bool} {v1 v2 : Value} {back : Bool} {nx lf : Int} {b0 b1 b2 b3 : Bool} {base : Nat} {w W : World} (h : OnW n g v1 v2 back nx lf b0 b1 b2 b3 base w W) (k : Nat) (x y z u0 u1 u2 u3 : Value) :
    Blk (((((((((W.setCell ⟨base + 1, 0, none⟩ x).setCell ⟨base + 1, 1, none⟩ y).setCell ⟨base + 1, k, none⟩ z).setCell ⟨base + 1 + 1, 0, none⟩ x).setCell ⟨base + 1 + 1, 1, none⟩ y).setCell ⟨base + 1 + 1, 2, none⟩ u0).setCell ⟨base + 1 + 1, 3, none⟩ u1).setCell ⟨base + 1 + 1, 4, none⟩ u2).setCell ⟨base + 1 + 1, 5, none⟩ u3) (base + 1 + 1) #[x, y, u0, u1, u2, u3] 79 ∧
    Below base w (((((((((W.setCell ⟨base + 1, 0, none⟩ x).setCell ⟨base + 1, 1, none⟩ y).setCell ⟨base + 1, k, none⟩ z).setCell ⟨base + 1 + 1, 0, none⟩ x).setCell ⟨base + 1 + 1, 1, none⟩ y).setCell ⟨base + 1 + 1, 2, none⟩ u0).setCell ⟨base + 1 + 1, 3, none⟩ u1).setCell ⟨base + 1 + 1, 4, none⟩ u2).setCell ⟨base + 1 + 1, 5, none⟩ u3) :=
  ⟨set6_same x y u0 u1 u2 u3 (set1_other (set1_other (set1_other h.r (by omega)) (by omega)) (by omega)),
   set6_below x y u0 u1 u2 u3 (((h.low.setCell (p := ⟨base + 1, 0, none⟩) (by simp) _).setCell (p := ⟨base + 1, 1, none⟩) (by simp) _).setCell (p := ⟨base + 1, k, none⟩) (by simp) _) (by omega)⟩
set_option maxHeartbeats 3200000 in
set_option maxRecDepth 20000 in
theorem onward_any (n : Int) (g : Bool) (v1 v2 : Value) (ss bs : List Int) (back : Bool) (nx : Int) (lf i : Nat) (b0 b1 b2 b3 : Bool) (a b : Int) (w : World) (h1 : ReadsI w v1 ss) (h2 : ReadsI w v2 bs)
    (hr : roadB n g = true) (hnx : 0 ≤ nx ∧ nx < n) (hlf : (lf : Int) ≤ n) (hfit : ∀ m : Nat, m ≤ lf → 1 ≤ m → fitsB n g nx m = true) (hsa : ss[i]? = some a) (hsb : bs[i]? = some b) (ha : 0 ≤ a ∧ a < n) (hb : 0 ≤ b ∧ b ≤ 99) (hi4 : i < 4) :
    Calls Try.prog 81 #[exV n g v1 v2 back, prV nx lf b0 b1 b2 b3, .int .i64 i] w fun e w' => e = .returned (prV ((nx + (tkN (fun m => runT n g a nx m back) b lf : Nat)) % n) ((lf : Int) - (tkN (fun m => runT n g a nx m back) b lf : Nat)) (b0 || decide (i = 0)) (b1 || decide (i = 1)) (b2 || decide (i = 2)) (b3 || decide (i = 3))) ∧ Below w.heap.size w w' := by
  have hrr := (roadB_iff n g).1 hr
  have hn1 := hrr.1
  have hn2 := hrr.2.1
  have hpl : placeB n g nx = true := (placeB_iff n g nx).2 ⟨hr, hnx⟩
  have HFI := Lib.hid (fun (m : Nat) (hm : m ≤ lf) => show fitsB n g nx m = true from by
    by_cases h0 : m = 0
    · subst h0
      exact (fitsB_iff n g nx _).2 ⟨hpl, by omega, by omega, .inr (by omega)⟩
    · exact hfit m hm (by omega))
  have HRT := Lib.hid (fun (m : Nat) w hf => runTime_any n g a nx m back w ha hf)
  have HRNG := Lib.hid (fun (m : Nat) (hm : m ≤ lf) => runT_range (x := nx) (g := g) (back := back) ⟨hn1, hn2⟩ ha hnx m (by omega))
  have HTL := Lib.hid (tkN_le (fun m => runT n g a nx m back) b lf)
  obtain ⟨y1, c1, hv1, hc1, hm1, hx1⟩ := h1
  obtain ⟨y2, c2, hv2, hc2, hm2, hx2⟩ := h2
  subst hv1 hv2
  unfold maxLen at hm1 hm2
  obtain ⟨p1, o1, he1, hbl1, hca⟩ := hx1 i a hsa
  obtain ⟨p2, o2, he2, hbl2, hcb⟩ := hx2 i b hsb
  subst he1 he2
  have hil1 := (List.getElem?_eq_some_iff.1 hsa).1
  have hil2 := (List.getElem?_eq_some_iff.1 hsb).1
  have HCA := Lib.hid hca
  have HCB := Lib.hid hcb
  have HB1 := Lib.hid hbl1
  have HB2 := Lib.hid hbl2
  have hnz : n ≠ 0 := by omega
  have HX : Hid (OnW n g (.slice (some ⟨p1, o1, none⟩) ss.length c1) (.slice (some ⟨p2, o2, none⟩) bs.length c2) back nx lf b0 b1 b2 b3 w.heap.size w (((w.alloc (.cells #[.int .i64 n, .bool g, .slice (some ⟨p1, o1, none⟩) ss.length c1, .slice (some ⟨p2, o2, none⟩) bs.length c2, .bool back] 73)).alloc (.cells #[.int .i64 nx, .int .i64 lf, .bool b0, .bool b1, .bool b2, .bool b3] 79)).alloc (.cells #[.int .i64 0, .int .i64 0, .bool false, .bool false, .bool false, .bool false] 79))) := Lib.hid
    ⟨(((Below.refl _ w).alloc (Nat.le_refl _) _).alloc (by simp) _).alloc (by simp; omega) _, by simp, ((blk_new w _ _).below (below_new _ _)).below (below_new _ _), (blk_at _ _ _ _ (by simp)).below (below_new _ _), blk_at _ _ _ _ (by simp)⟩
  have hi0 : 0 ≤ (i : Int) := by omega
  have hi1 : (i : Int) < (ss.length : Int) := by omega
  have hi2 : (i : Int) < (bs.length : Int) := by omega
  have HII := Lib.hid (And.intro hi0 (And.intro hi1 hi2))
  clear hrr hpl hfit hsa hsb hx1 hx2 hca hcb hbl1 hbl2 hr
  go_enter Try.func81, Try.ntmps81
  go_wp2_with fail
  go_loopw [7] (fun mv wr => ∃ m : Nat, mv = .int .i64 m ∧ m ≤ lf ∧ tkN (fun j => runT n g a nx j back) b lf = tkN (fun j => runT n g a nx j back) b m ∧ OnW n g (.slice (some ⟨p1, o1, none⟩) ss.length c1) (.slice (some ⟨p2, o2, none⟩) bs.length c2) back nx lf b0 b1 b2 b3 w.heap.size w wr) (fun mv _ => (intOf mv).toNat)
  case atStart => exact ⟨lf, rfl, Nat.le_refl _, rfl, HX.out⟩
  case round =>
    obtain ⟨m, rfl, hm, htk, hx9⟩ := hrel
    clear HX
    have HX := Lib.hid hx9
    have HTK := Lib.hid htk
    have hrng := HRNG.out m hm
    clear hx9 htk
    go_wp2_with fail
    refine wp_region_noPanic ?_
    have HX := Lib.hid (HX.out.next (below_drewN _ 1))
    obtain ⟨hI0, hI1, hI2⟩ := HII.out
    refine wp_region_held_drew (S := fun w' => OnW n g (.slice (some ⟨p1, o1, none⟩) ss.length c1) (.slice (some ⟨p2, o2, none⟩) bs.length c2) back nx lf b0 b1 b2 b3 w.heap.size w w' ∧ w'.cell? ⟨w.heap.size, 0, none⟩ = some (.int .i64 n) ∧ w'.cell? ⟨w.heap.size, 1, none⟩ = some (.bool g) ∧ w'.cell? ⟨w.heap.size, 2, none⟩ = some (.slice (some ⟨p1, o1, none⟩) ss.length c1) ∧ w'.cell? ⟨w.heap.size, 3, none⟩ = some (.slice (some ⟨p2, o2, none⟩) bs.length c2) ∧ w'.cell? ⟨w.heap.size, 4, none⟩ = some (.bool back) ∧ w'.cell? ⟨w.heap.size + 1, 0, none⟩ = some (.int .i64 nx) ∧ w'.cell? ⟨p1, o1 + i, none⟩ = some (.int .i64 a) ∧ w'.cell? ⟨p2, o2 + i, none⟩ = some (.int .i64 b)) (by kernel_rfl) (⟨HX.out, HX.out.e.cell 0, HX.out.e.cell 1, HX.out.e.cell 2, HX.out.e.cell 3, HX.out.e.cell 4, HX.out.a.cell 0, (HX.out.low.cell (p := ⟨p1, o1 + i, none⟩) HB1.out).trans HCA.out, (HX.out.low.cell (p := ⟨p2, o2 + i, none⟩) HB2.out).trans HCB.out⟩) (fun hHeld => ?_)
    refine wpAnyH_take (i := 0) (oi := _) (v := ?_) rfl (by kernel_rfl) (by kernel_rfl) (by kernel_rfl) (fun _ _ _ h => h) (Or.inl ⟨by rfl, ?_⟩) (by assumption) ?_
    rotate_left
    · (intro w hSw; (try dsimp only at hSw); (first | (go_simp; done) | (go_simp; with_reducible rfl)))
    simp only [Act.put, List.getElem_toArray, List.getElem_cons_succ, List.getElem_cons_zero, List.setIfInBounds_toArray, List.set_cons_zero, List.set_cons_succ]
    refine wpAnyH_take (i := 1) (oi := _) (v := ?_) rfl (by kernel_rfl) (by kernel_rfl) (by kernel_rfl) (fun _ _ _ h => h) (Or.inl ⟨by rfl, ?_⟩) (by assumption) ?_
    rotate_left
    · (intro w hSw; (try dsimp only at hSw); (first | (go_simp; done) | (go_simp; with_reducible rfl)))
    simp only [Act.put, List.getElem_toArray, List.getElem_cons_succ, List.getElem_cons_zero, List.setIfInBounds_toArray, List.set_cons_zero, List.set_cons_succ]
    refine wpAnyH_take (i := 2) (oi := _) (v := ?_) rfl (by kernel_rfl) (by kernel_rfl) (by kernel_rfl) (fun _ _ _ h => h) (Or.inl ⟨by rfl, ?_⟩) (by assumption) ?_
    rotate_left
    · (intro w hSw; (try dsimp only at hSw); (first | (go_simp; done) | (go_simp; with_reducible rfl)))
    simp only [Act.put, List.getElem_toArray, List.getElem_cons_succ, List.getElem_cons_zero, List.setIfInBounds_toArray, List.set_cons_zero, List.set_cons_succ]
    refine wpAnyH_take (i := 3) (oi := _) (v := ?_) rfl (by kernel_rfl) (by kernel_rfl) (by kernel_rfl) (fun _ _ _ h => h) (Or.inl ⟨by rfl, ?_⟩) (by assumption) ?_
    rotate_left
    · (intro w hSw; (try dsimp only at hSw); (first | (go_simp; done) | (go_simp; with_reducible rfl)))
    simp only [Act.put, List.getElem_toArray, List.getElem_cons_succ, List.getElem_cons_zero, List.setIfInBounds_toArray, List.set_cons_zero, List.set_cons_succ]
    refine wpAnyH_take (i := 4) (oi := _) (v := ?_) rfl (by kernel_rfl) (by kernel_rfl) (by kernel_rfl) (fun _ _ _ h => h) (Or.inl ⟨by rfl, ?_⟩) (by assumption) ?_
    rotate_left
    · (intro w hSw; (try dsimp only at hSw); (first | (go_simp; done) | (go_simp; with_reducible rfl)))
    simp only [Act.put, List.getElem_toArray, List.getElem_cons_succ, List.getElem_cons_zero, List.setIfInBounds_toArray, List.set_cons_zero, List.set_cons_succ]
    refine wpAnyH_take (i := 5) (oi := _) (v := ?_) rfl (by kernel_rfl) (by kernel_rfl) (by kernel_rfl) (fun _ _ _ h => h) (Or.inl ⟨by rfl, ?_⟩) (by assumption) ?_
    rotate_left
    · (intro w hSw; (try dsimp only at hSw); (first | (go_simp; done) | (go_simp; with_reducible rfl)))
    simp only [Act.put, List.getElem_toArray, List.getElem_cons_succ, List.getElem_cons_zero, List.setIfInBounds_toArray, List.set_cons_zero, List.set_cons_succ]
    refine wpAnyH_take (i := 6) (oi := _) (v := ?_) rfl (by kernel_rfl) (by kernel_rfl) (by kernel_rfl) (fun _ _ _ h => h) (Or.inl ⟨by rfl, ?_⟩) (by assumption) ?_
    rotate_left
    · (intro w hSw; (try dsimp only at hSw); (first | (go_simp; done) | (go_simp; with_reducible rfl)))
    simp only [Act.put, List.getElem_toArray, List.getElem_cons_succ, List.getElem_cons_zero, List.setIfInBounds_toArray, List.set_cons_zero, List.set_cons_succ]
    refine wpAnyH_take (i := 7) (oi := _) (v := ?_) rfl (by kernel_rfl) (by kernel_rfl) (by kernel_rfl) (fun _ _ _ h => h) (Or.inl ⟨by rfl, ?_⟩) (by assumption) ?_
    rotate_left
    · (intro w hSw; (try dsimp only at hSw); (first | (go_simp; done) | (go_simp; with_reducible rfl)))
    simp only [Act.put, List.getElem_toArray, List.getElem_cons_succ, List.getElem_cons_zero, List.setIfInBounds_toArray, List.set_cons_zero, List.set_cons_succ]
    refine wpAnyH_take (i := 8) (oi := _) (v := ?_) rfl (by kernel_rfl) (by kernel_rfl) (by kernel_rfl) (fun _ _ _ h => h) (Or.inl ⟨by rfl, ?_⟩) (by assumption) ?_
    rotate_left
    · (intro w hSw; (try dsimp only at hSw); (first | (go_simp; done) | (go_simp; with_reducible rfl)))
    simp only [Act.put, List.getElem_toArray, List.getElem_cons_succ, List.getElem_cons_zero, List.setIfInBounds_toArray, List.set_cons_zero, List.set_cons_succ]
    refine wpAnyH_take (i := 9) (oi := _) (v := ?_) rfl (by kernel_rfl) (by kernel_rfl) (by kernel_rfl) (fun _ _ _ h => h) (Or.inl ⟨by rfl, ?_⟩) (by assumption) ?_
    rotate_left
    · (intro w hSw; (try dsimp only at hSw); (first | (go_simp; done) | (go_simp; with_reducible rfl)))
    simp only [Act.put, List.getElem_toArray, List.getElem_cons_succ, List.getElem_cons_zero, List.setIfInBounds_toArray, List.set_cons_zero, List.set_cons_succ]
    refine wpAnyH_take (i := 10) (oi := _) (v := ?_) rfl (by kernel_rfl) (by kernel_rfl) (by kernel_rfl) (fun _ _ _ h => h) (Or.inl ⟨by rfl, ?_⟩) (by assumption) ?_
    rotate_left
    · (intro w hSw; (try dsimp only at hSw); (first | (go_simp; done) | (go_simp; with_reducible rfl)))
    simp only [Act.put, List.getElem_toArray, List.getElem_cons_succ, List.getElem_cons_zero, List.setIfInBounds_toArray, List.set_cons_zero, List.set_cons_succ]
    refine wpAnyH_take (i := 11) (oi := _) (v := ?_) rfl (by kernel_rfl) (by kernel_rfl) (by kernel_rfl) (fun _ _ _ h => h) (Or.inl ⟨by rfl, ?_⟩) (by assumption) ?_
    rotate_left
    · (intro w hSw; (try dsimp only at hSw); (first | (go_simp; done) | (go_simp; with_reducible rfl)))
    simp only [Act.put, List.getElem_toArray, List.getElem_cons_succ, List.getElem_cons_zero, List.setIfInBounds_toArray, List.set_cons_zero, List.set_cons_succ]
    refine wpAnyH_take (i := 13) (oi := _) (v := ?_) rfl (by kernel_rfl) (by kernel_rfl) (by kernel_rfl) (fun _ _ _ h => h) (Or.inl ⟨by rfl, ?_⟩) (by assumption) ?_
    rotate_left
    · (intro w hSw; (try dsimp only at hSw); (first | (go_simp; done) | (go_simp; with_reducible rfl)))
    simp only [Act.put, List.getElem_toArray, List.getElem_cons_succ, List.getElem_cons_zero, List.setIfInBounds_toArray, List.set_cons_zero, List.set_cons_succ]
    refine wpAnyH_take (i := 14) (oi := _) (v := ?_) rfl (by kernel_rfl) (by kernel_rfl) (by kernel_rfl) (fun _ _ _ h => h) (Or.inl ⟨by rfl, ?_⟩) (by assumption) ?_
    rotate_left
    · (intro w hSw; (try dsimp only at hSw); (first | (go_simp; done) | (go_simp; with_reducible rfl)))
    simp only [Act.put, List.getElem_toArray, List.getElem_cons_succ, List.getElem_cons_zero, List.setIfInBounds_toArray, List.set_cons_zero, List.set_cons_succ]
    refine wpAnyH_take (i := 15) (oi := _) (v := ?_) rfl (by kernel_rfl) (by kernel_rfl) (by kernel_rfl) (fun _ _ _ h => h) (Or.inl ⟨by rfl, ?_⟩) (by assumption) ?_
    rotate_left
    · (intro w hSw; (try dsimp only at hSw); (first | (go_simp; done) | (go_simp; with_reducible rfl)))
    simp only [Act.put, List.getElem_toArray, List.getElem_cons_succ, List.getElem_cons_zero, List.setIfInBounds_toArray, List.set_cons_zero, List.set_cons_succ]
    refine wpAnyH_take (i := 16) (oi := _) (v := ?_) rfl (by kernel_rfl) (by kernel_rfl) (by kernel_rfl) (fun _ _ _ h => h) (Or.inl ⟨by rfl, ?_⟩) (by assumption) ?_
    rotate_left
    · (intro w hSw; (try dsimp only at hSw); (first | (go_simp; done) | (go_simp; with_reducible rfl)))
    simp only [Act.put, List.getElem_toArray, List.getElem_cons_succ, List.getElem_cons_zero, List.setIfInBounds_toArray, List.set_cons_zero, List.set_cons_succ]
    refine wpAnyH_take (i := 17) (oi := _) (v := ?_) rfl (by kernel_rfl) (by kernel_rfl) (by kernel_rfl) (fun _ _ _ h => h) (Or.inl ⟨by rfl, ?_⟩) (by assumption) ?_
    rotate_left
    · (intro w hSw; (try dsimp only at hSw); (first | (go_simp; done) | (go_simp; with_reducible rfl)))
    simp only [Act.put, List.getElem_toArray, List.getElem_cons_succ, List.getElem_cons_zero, List.setIfInBounds_toArray, List.set_cons_zero, List.set_cons_succ]
    refine wpAnyH_ready (rs := [12]) (by kernel_rfl) (by simp) ?_
    refine AllReadyH.cons rfl (fun K hK => ?_) AllReadyH.nil
    go_simp
    refine (HRT.out m _ (HFI.out m hm)).mono ?_
    rintro e w21 ⟨rfl, hb⟩
    have HX := Lib.hid (HX.out.next hb)
    clear hb
    clear hHeld
    try go_wp2_with fail
    refine hK.out _ _ (⟨HX.out, HX.out.e.cell 0, HX.out.e.cell 1, HX.out.e.cell 2, HX.out.e.cell 3, HX.out.e.cell 4, HX.out.a.cell 0, (HX.out.low.cell (p := ⟨p1, o1 + i, none⟩) HB1.out).trans HCA.out, (HX.out.low.cell (p := ⟨p2, o2 + i, none⟩) HB2.out).trans HCB.out⟩) (fun hHeld => ?_)
    clear hK K
    refine wpAnyH_take (i := 18) (oi := _) (v := ?_) rfl (by kernel_rfl) (by kernel_rfl) (by kernel_rfl) (fun _ _ _ h => h) (Or.inl ⟨by rfl, ?_⟩) (by assumption) ?_
    rotate_left
    · (intro w hSw; (try dsimp only at hSw); (first | (go_simp; done) | (go_simp; with_reducible rfl)))
    simp only [Act.put, List.getElem_toArray, List.getElem_cons_succ, List.getElem_cons_zero, List.setIfInBounds_toArray, List.set_cons_zero, List.set_cons_succ]
    refine wpAnyH_done (by kernel_rfl) ?_ _
    refine NoPanic.normal ?_
    clear hHeld
    by_cases hle : runT n g a nx m back ≤ b
    · have hm0 : tkN (fun j => runT n g a nx j back) b m = m := by
        cases m with
        | zero => rfl
        | succ q => unfold tkN; rw [if_pos hle]
      have HTM := Lib.hid (HTK.out.trans hm0)
      clear hm0
      have e0 := HX.out.e.cell 0
      have c0 := HX.out.a.cell 0
      have c1 := HX.out.a.cell 1
      have c2 := HX.out.a.cell 2
      have c3 := HX.out.a.cell 3
      have c4 := HX.out.a.cell 4
      have c5 := HX.out.a.cell 5
      have f0 := HX.out.a.free 0
      have f1 := HX.out.a.free 1
      have f2 := HX.out.a.free 2
      have f3 := HX.out.a.free 3
      have f4 := HX.out.a.free 4
      have f5 := HX.out.a.free 5
      have d0 := HX.out.r.cell 0
      have d1 := HX.out.r.cell 1
      have d2 := HX.out.r.cell 2
      have d3 := HX.out.r.cell 3
      have d4 := HX.out.r.cell 4
      have d5 := HX.out.r.cell 5
      have k0 := HX.out.r.free 0
      have k1 := HX.out.r.free 1
      have k2 := HX.out.r.free 2
      have k3 := HX.out.r.free 3
      have k4 := HX.out.r.free 4
      have k5 := HX.out.r.free 5
      have hsum : 0 ≤ nx + (m : Int) := by omega
      have hw5 : (nx + (m : Int)).tmod n = (nx + (m : Int)) % n := Int.tmod_eq_emod_of_nonneg hsum
      have hi03 : i = 0 ∨ i = 1 ∨ i = 2 ∨ i = 3 := by omega
      clear hrng HRNG HFI HRT HCA HCB HB1 HB2 HII
      rcases hi03 with rfl | rfl | rfl | rfl
      · have HD := Lib.hid (on_done HX.out 2 (.int .i64 ((nx + (m : Int)) % n)) (.int .i64 ((lf : Int) - (m : Int))) (.bool true) (.bool true) (.bool b1) (.bool b2) (.bool b3))
        go_wp2_with fail
        have s0 := HD.out.1.cell 0
        have s1 := HD.out.1.cell 1
        have s2 := HD.out.1.cell 2
        have s3 := HD.out.1.cell 3
        have s4 := HD.out.1.cell 4
        have s5 := HD.out.1.cell 5
        exact bodyPost_ret (v := prV ((nx + (m : Int)) % n) ((lf : Int) - (m : Int)) true b1 b2 b3) (by simp [results, Try.results81, go_sem, prV, s0, s1, s2, s3, s4, s5]) rfl ⟨by rw [HTM.out] <;> simp, HD.out.2⟩
      · have HD := Lib.hid (on_done HX.out 3 (.int .i64 ((nx + (m : Int)) % n)) (.int .i64 ((lf : Int) - (m : Int))) (.bool true) (.bool b0) (.bool true) (.bool b2) (.bool b3))
        go_wp2_with fail
        have s0 := HD.out.1.cell 0
        have s1 := HD.out.1.cell 1
        have s2 := HD.out.1.cell 2
        have s3 := HD.out.1.cell 3
        have s4 := HD.out.1.cell 4
        have s5 := HD.out.1.cell 5
        exact bodyPost_ret (v := prV ((nx + (m : Int)) % n) ((lf : Int) - (m : Int)) b0 true b2 b3) (by simp [results, Try.results81, go_sem, prV, s0, s1, s2, s3, s4, s5]) rfl ⟨by rw [HTM.out] <;> simp, HD.out.2⟩
      · have HD := Lib.hid (on_done HX.out 4 (.int .i64 ((nx + (m : Int)) % n)) (.int .i64 ((lf : Int) - (m : Int))) (.bool true) (.bool b0) (.bool b1) (.bool true) (.bool b3))
        go_wp2_with fail
        have s0 := HD.out.1.cell 0
        have s1 := HD.out.1.cell 1
        have s2 := HD.out.1.cell 2
        have s3 := HD.out.1.cell 3
        have s4 := HD.out.1.cell 4
        have s5 := HD.out.1.cell 5
        exact bodyPost_ret (v := prV ((nx + (m : Int)) % n) ((lf : Int) - (m : Int)) b0 b1 true b3) (by simp [results, Try.results81, go_sem, prV, s0, s1, s2, s3, s4, s5]) rfl ⟨by rw [HTM.out] <;> simp, HD.out.2⟩
      · have HD := Lib.hid (on_done HX.out 5 (.int .i64 ((nx + (m : Int)) % n)) (.int .i64 ((lf : Int) - (m : Int))) (.bool true) (.bool b0) (.bool b1) (.bool b2) (.bool true))
        go_wp2_with fail
        have s0 := HD.out.1.cell 0
        have s1 := HD.out.1.cell 1
        have s2 := HD.out.1.cell 2
        have s3 := HD.out.1.cell 3
        have s4 := HD.out.1.cell 4
        have s5 := HD.out.1.cell 5
        exact bodyPost_ret (v := prV ((nx + (m : Int)) % n) ((lf : Int) - (m : Int)) b0 b1 b2 true) (by simp [results, Try.results81, go_sem, prV, s0, s1, s2, s3, s4, s5]) rfl ⟨by rw [HTM.out] <;> simp, HD.out.2⟩
    · obtain ⟨q, rfl⟩ : ∃ q, m = q + 1 := by
        cases m with
        | zero =>
          have h0 : runT n g a nx ((0 : Nat) : Int) back = 0 := rfl
          omega
        | succ q => exact ⟨q, rfl⟩
      have hm0 : tkN (fun j => runT n g a nx j back) b (q + 1) = tkN (fun j => runT n g a nx j back) b q := by
        show (if runT n g a nx ((q + 1 : Nat) : Int) back ≤ b then q + 1 else tkN (fun j => runT n g a nx j back) b q) = _
        rw [if_neg hle]
      have HTM := Lib.hid (HTK.out.trans hm0)
      clear hm0
      go_wp2_with fail
      go_roundw
      case rel => exact ⟨q, by go_num, by omega, HTM.out, HX.out⟩
      case measure => simp [intOf] <;> omega
end Go.Proofs.Ytijhbhjapcfddaa
