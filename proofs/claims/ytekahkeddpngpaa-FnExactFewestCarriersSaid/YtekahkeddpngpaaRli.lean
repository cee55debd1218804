/-
  What is proved: the reach of an order, and OrderReach, of the model and of the program. Conditions: lists that read as carriers and as numbers.
-/
import Derived.Test.YtekahkeddpngpaaRlh
namespace Go.Proofs.Ytekahkeddpngpaa
open Go.RowKit
set_option linter.unusedVariables false
set_option linter.unusedSimpArgs false

theorem carriers_at {w : World} {a : Option Addr} {l c : Nat} {cs : List Cr} (h : ReadsC w (.slice a l c) cs) {j : Nat} {k : Cr} (hj : cs[j]? = some k) :
    ∃ b o, a = some ⟨b, o, none⟩ ∧ l = cs.length ∧ j < l ∧ b < w.heap.size ∧ w.cell? ⟨b, o + j * 3, none⟩ = some (.int .i64 k.s) ∧ w.cell? ⟨b, o + j * 3 + 1, none⟩ = some (.int .i64 k.r) ∧ w.cell? ⟨b, o + j * 3 + 2, none⟩ = some (.int .i64 k.f) := by
  obtain ⟨a', c', e, hc, hm, hx⟩ := h
  cases e
  obtain ⟨b, o, h1, h2⟩ := hx j k hj
  exact ⟨b, o, h1, rfl, (List.getElem?_eq_some_iff.1 hj).1, h2⟩
set_option maxHeartbeats 800000 in
set_option maxRecDepth 20000 in
theorem onwardE_any (n : Int) (g : Bool) (v : Value) (cs : List Cr) (a b x : Int) (i : Nat) (k : Cr) (w : World) (hv : ReadsC w v cs) (hi : cs[i]? = some k) (hk : CrWk n k) (hx : 0 ≤ x ∧ x < n) :
    Calls Try.prog 96 #[erV n g v a b, .int .i64 x, .int .i64 i] w fun e w' => e = .returned (.int .i64 (onw n k x)) ∧ Below w.heap.size w w' := by
  have HE := Lib.hid (fun w => endC_any n g k x w hk hx)
  have hv2 := hv
  obtain ⟨y, c, hvv, _, hmm, _⟩ := hv2
  subst hvv
  unfold maxLen at hmm
  obtain ⟨bb, o, rfl, _, hil, hbl, g0, g1, g2⟩ := carriers_at hv hi
  have G0 := Lib.hid g0
  have G1 := Lib.hid g1
  have G2 := Lib.hid g2
  have HW := Lib.hid (below_new w (.cells (erC n g (.slice (some ⟨bb, o, none⟩) cs.length c) a b) 64))
  have HB := Lib.hid (blk_new w (erC n g (.slice (some ⟨bb, o, none⟩) cs.length c) a b) 64)
  have HR := Lib.hid (show onw n k x = max x (endI n k x) from rfl)
  have hi0 : 0 ≤ (i : Int) := by omega
  have hi1 : (i : Int) < (cs.length : Int) := by omega
  clear hv hi g0 g1 g2 hk hx
  generalize cs.length = l at *
  generalize endI n k x = z at *
  unfold erV erC crv at *
  go_enter Try.func96, Try.ntmps96
  go_wp2_with fail
  refine wp_region_noPanic ?_
  have HW := Lib.hid (HW.out.trans ((below_drewN _ 1).mono HW.out.size))
  have HB := Lib.hid (HB.out.below (below_drewN _ 1))
  refine wp_region_held_drew (S := fun w' => (Below w.heap.size w w' ∧ Blk w' w.heap.size #[.int .i64 n, .bool g, .slice (some ⟨bb, o, none⟩) l c, .int .i64 a, .int .i64 b] 64) ∧ w'.cell? ⟨w.heap.size, 0, none⟩ = some (.int .i64 n) ∧ w'.cell? ⟨w.heap.size, 1, none⟩ = some (.bool g) ∧ w'.cell? ⟨w.heap.size, 2, none⟩ = some (.slice (some ⟨bb, o, none⟩) l c) ∧ w'.cell? ⟨bb, o + i * 3, none⟩ = some (.int .i64 k.s) ∧ w'.cell? ⟨bb, o + i * 3 + 1, none⟩ = some (.int .i64 k.r) ∧ w'.cell? ⟨bb, o + i * 3 + 2, none⟩ = some (.int .i64 k.f)) (by kernel_rfl) (⟨⟨HW.out, HB.out⟩, HB.out.cell 0, HB.out.cell 1, HB.out.cell 2, (HW.out.cell (p := ⟨bb, o + i * 3, none⟩) hbl).trans G0.out, (HW.out.cell (p := ⟨bb, o + i * 3 + 1, none⟩) hbl).trans G1.out, (HW.out.cell (p := ⟨bb, o + i * 3 + 2, none⟩) hbl).trans G2.out⟩) (fun hHeld => ?_)
  refine wpAnyH_take (i := 0) (oi := _) (v := ?_) rfl (by kernel_rfl) (by kernel_rfl) (by kernel_rfl) (fun _ _ _ h => h) (Or.inl ⟨by rfl, ?_⟩) (by assumption) ?_
  rotate_left
  · (intro w hSw; (try dsimp only at hSw); (first | (go_simp; done) | (go_simp; with_reducible rfl)))
  simp only [Act.put, List.getElem_toArray, List.getElem_cons_succ, List.getElem_cons_zero, List.setIfInBounds_toArray, List.set_cons_zero, List.set_cons_succ]
  refine wpAnyH_take (i := 1) (oi := _) (v := ?_) rfl (by kernel_rfl) (by kernel_rfl) (by kernel_rfl) (fun _ _ _ h => h) (Or.inl ⟨by rfl, ?_⟩) (by assumption) ?_
  rotate_left
  · (intro w hSw; (try dsimp only at hSw); (first | (go_simp; done) | (go_simp; with_reducible rfl)))
  simp only [Act.put, List.getElem_toArray, List.getElem_cons_succ, List.getElem_cons_zero, List.setIfInBounds_toArray, List.set_cons_zero, List.set_cons_succ]
  refine wpAnyH_take (i := 2) (oi := _) (v := ?_) rfl (by kernel_rfl) (by kernel_rfl) (by kernel_rfl) (fun _ _ _ h => h) (Or.inl ⟨by rfl, ?_⟩) (by assumption) ?_
  rotate_left
  · (intro w hSw; (try dsimp only at hSw); (first | (go_simp; done) | (go_simp; with_reducible rfl)))
  simp only [Act.put, List.getElem_toArray, List.getElem_cons_succ, List.getElem_cons_zero, List.setIfInBounds_toArray, List.set_cons_zero, List.set_cons_succ]
  refine wpAnyH_take (i := 3) (oi := _) (v := ?_) rfl (by kernel_rfl) (by kernel_rfl) (by kernel_rfl) (fun _ _ _ h => h) (Or.inl ⟨by rfl, ?_⟩) (by assumption) ?_
  rotate_left
  · (intro w hSw; (try dsimp only at hSw); (first | (go_simp; done) | (go_simp; with_reducible rfl)))
  simp only [Act.put, List.getElem_toArray, List.getElem_cons_succ, List.getElem_cons_zero, List.setIfInBounds_toArray, List.set_cons_zero, List.set_cons_succ]
  refine wpAnyH_take (i := 4) (oi := _) (v := ?_) rfl (by kernel_rfl) (by kernel_rfl) (by kernel_rfl) (fun _ _ _ h => h) (Or.inl ⟨by rfl, ?_⟩) (by assumption) ?_
  rotate_left
  · (intro w hSw; (try dsimp only at hSw); (first | (go_simp; done) | (go_simp; with_reducible rfl)))
  simp only [Act.put, List.getElem_toArray, List.getElem_cons_succ, List.getElem_cons_zero, List.setIfInBounds_toArray, List.set_cons_zero, List.set_cons_succ]
  refine wpAnyH_take (i := 5) (oi := _) (v := ?_) rfl (by kernel_rfl) (by kernel_rfl) (by kernel_rfl) (fun _ _ _ h => h) (Or.inl ⟨by rfl, ?_⟩) (by assumption) ?_
  rotate_left
  · (intro w hSw; (try dsimp only at hSw); (first | (go_simp; done) | (go_simp; with_reducible rfl)))
  simp only [Act.put, List.getElem_toArray, List.getElem_cons_succ, List.getElem_cons_zero, List.setIfInBounds_toArray, List.set_cons_zero, List.set_cons_succ]
  refine wpAnyH_take (i := 6) (oi := _) (v := ?_) rfl (by kernel_rfl) (by kernel_rfl) (by kernel_rfl) (fun _ _ _ h => h) (Or.inl ⟨by rfl, ?_⟩) (by assumption) ?_
  rotate_left
  · (intro w hSw; (try dsimp only at hSw); (first | (go_simp; done) | (go_simp; with_reducible rfl)))
  simp only [Act.put, List.getElem_toArray, List.getElem_cons_succ, List.getElem_cons_zero, List.setIfInBounds_toArray, List.set_cons_zero, List.set_cons_succ]
  refine wpAnyH_take (i := 7) (oi := _) (v := ?_) rfl (by kernel_rfl) (by kernel_rfl) (by kernel_rfl) (fun _ _ _ h => h) (Or.inl ⟨by rfl, ?_⟩) (by assumption) ?_
  rotate_left
  · (intro w hSw; (try dsimp only at hSw); (first | (go_simp; done) | (go_simp; with_reducible rfl)))
  simp only [Act.put, List.getElem_toArray, List.getElem_cons_succ, List.getElem_cons_zero, List.setIfInBounds_toArray, List.set_cons_zero, List.set_cons_succ]
  refine wpAnyH_take (i := 8) (oi := _) (v := ?_) rfl (by kernel_rfl) (by kernel_rfl) (by kernel_rfl) (fun _ _ _ h => h) (Or.inl ⟨by rfl, ?_⟩) (by assumption) ?_
  rotate_left
  · (intro w hSw; (try dsimp only at hSw); (first | (go_simp; done) | (go_simp; with_reducible rfl)))
  simp only [Act.put, List.getElem_toArray, List.getElem_cons_succ, List.getElem_cons_zero, List.setIfInBounds_toArray, List.set_cons_zero, List.set_cons_succ]
  refine wpAnyH_ready (rs := [9]) (by kernel_rfl) (by simp) ?_
  refine AllReadyH.cons rfl (fun K hK => ?_) AllReadyH.nil
  go_simp
  refine (HE.out _).mono ?_
  rintro e w21 ⟨rfl, hb⟩
  have HW := Lib.hid (HW.out.trans (hb.mono HW.out.size))
  have HB := Lib.hid (HB.out.below hb)
  clear hb
  clear hHeld
  try go_wp2_with fail
  refine hK.out _ _ (⟨⟨HW.out, HB.out⟩, HB.out.cell 0, HB.out.cell 1, HB.out.cell 2, (HW.out.cell (p := ⟨bb, o + i * 3, none⟩) hbl).trans G0.out, (HW.out.cell (p := ⟨bb, o + i * 3 + 1, none⟩) hbl).trans G1.out, (HW.out.cell (p := ⟨bb, o + i * 3 + 2, none⟩) hbl).trans G2.out⟩) (fun hHeld => ?_)
  clear hK K
  refine wpAnyH_take (i := 10) (oi := _) (v := ?_) rfl (by kernel_rfl) (by kernel_rfl) (by kernel_rfl) (fun _ _ _ h => h) (Or.inl ⟨by rfl, ?_⟩) (by assumption) ?_
  rotate_left
  · (intro w hSw; (try dsimp only at hSw); (first | (go_simp; done) | (go_simp; with_reducible rfl)))
  simp only [Act.put, List.getElem_toArray, List.getElem_cons_succ, List.getElem_cons_zero, List.setIfInBounds_toArray, List.set_cons_zero, List.set_cons_succ]
  refine wpAnyH_take (i := 11) (oi := _) (v := ?_) rfl (by kernel_rfl) (by kernel_rfl) (by kernel_rfl) (fun _ _ _ h => h) (Or.inl ⟨by rfl, ?_⟩) (by assumption) ?_
  rotate_left
  · (intro w hSw; (try dsimp only at hSw); (first | (go_simp; done) | (go_simp; with_reducible rfl)))
  simp only [Act.put, List.getElem_toArray, List.getElem_cons_succ, List.getElem_cons_zero, List.setIfInBounds_toArray, List.set_cons_zero, List.set_cons_succ]
  refine wpAnyH_done (by kernel_rfl) ?_ _
  refine NoPanic.normal ?_
  clear hHeld
  go_wp2_with fail
  all_goals
    go_ret
    exact ⟨ret_int (by rw [HR.out]; omega), HW.out⟩
def ReRel (n : Int) (cs : List Cr) (a : Int) (os : List Int) (base : Nat) (w : World) (x i : Value) (wr : World) : Prop :=
  Boxed base n false w wr ∧ ∃ k : Nat, k ≤ os.length ∧ i = .int .i64 k ∧ x = .int .i64 (rchF n cs a (os.take k))
theorem ord_at {m : Nat} {os : List Int} (h : ordC m os = true) {k : Nat} {i : Int} (hi : os[k]? = some i) : ∃ j : Nat, i = (j : Int) ∧ j < m := by
  have := ((ordC_iff m os).1 h).1 k i hi
  exact ⟨i.toNat, by omega, by omega⟩
theorem rch_take {n : Int} {cs : List Cr} (hc : WkL n cs) {os : List Int} (ho : ordC cs.length os = true) {a : Int} (ha : 0 ≤ a ∧ a < n) (k : Nat) : 0 ≤ rchF n cs a (os.take k) ∧ rchF n cs a (os.take k) < n := by
  have h := rchF_range hc ha (os.take k) (fun i hi => by
    obtain ⟨j, hj⟩ := List.getElem?_of_mem (List.mem_of_mem_take hi)
    exact ((ordC_iff _ os).1 ho).1 j i hj)
  exact ⟨h.1, h.2.1⟩
set_option maxHeartbeats 1600000 in
set_option maxRecDepth 20000 in
theorem l7Reach_any (n : Int) (v1 v2 : Value) (cs : List Cr) (os : List Int) (a : Int) (w : World) (h1 : ReadsC w v1 cs) (h2 : ReadsI w v2 os) (hc : WkL n cs) (ho : ordC cs.length os = true) (ha : 0 ≤ a ∧ a < n) :
    Calls Try.prog 78 #[rd n false, v1, v2, .int .i64 a] w fun e w' => e = .returned (.int .i64 (rchF n cs a os)) ∧ Below w.heap.size w w' := by
  have HE := Lib.hid (fun k x w h hx => l7End_any n k x w h hx)
  have HMO := Lib.hid (fun a b w => l1Most_any a b w)
  have HC := Lib.hid hc
  have HO := Lib.hid ho
  have HRT := Lib.hid (fun k => rch_take hc ho ha k)
  have H1 := Lib.hid h1
  have HX := Lib.hid (Boxed.first w n false 27)
  obtain ⟨y1, c1, hv1, _, hm1, _⟩ := h1
  subst hv1
  obtain ⟨y2, c2, hv2, _, hm2, hx2⟩ := h2
  subst hv2
  unfold maxLen at hm1 hm2
  have HL := Lib.hid hx2
  clear hx2 hc ho ha
  unfold rd crv at *
  go_enter Try.func78, Try.ntmps78
  go_wp2_with fail
  go_loopw [3, 9] (fun x i wr => ReRel n cs a os w.heap.size w x i wr) (fun _ i _ => os.length - (intOf i).toNat)
  case atStart => exact ⟨HX.out, 0, Nat.zero_le _, rfl, rfl⟩
  case round =>
    obtain ⟨hx, k, hk, rfl, rfl⟩ := hrel
    clear HX
    have HX := Lib.hid hx
    clear hx
    by_cases hlt : k < os.length
    · obtain ⟨i, hik⟩ := get_some hlt
      obtain ⟨b2, o2, rfl, hbl2, hcell⟩ := HL.out k i hik
      obtain ⟨j, rfl, hjl⟩ := ord_at HO.out hik
      obtain ⟨kc, hkc⟩ := get_cr hjl
      obtain ⟨b1, o1, rfl, _, _, hbl1, g0, g1, g2⟩ := carriers_at H1.out hkc
      have HK := Lib.hid (rchF_next n cs a os k j hik)
      have HKC := Lib.hid hkc
      have HCO := Lib.hid hcell
      have G0 := Lib.hid g0
      have G1 := Lib.hid g1
      have G2 := Lib.hid g2
      have hxr := HRT.out k
      have HXR := Lib.hid hxr
      have HON := Lib.hid (onw_model (HC.out.2.2 j kc hkc) hxr)
      have HW := Lib.hid (HC.out.2.2 j kc hkc)
      have HCA := Lib.hid (crAt_some hkc)
      have hi0 : 0 ≤ (k : Int) := by omega
      have hi1 : (k : Int) < os.length := by omega
      have hj0 : 0 ≤ (j : Int) := by omega
      have hj1 : (j : Int) < cs.length := by omega
      clear hik hcell g0 g1 g2 hxr hkc
      generalize rchF n cs a (os.take k) = x at *
      go_wp2_with fail
      refine wp_region_noPanic ?_
      have HX := Lib.hid (HX.out.next (below_drewN _ 1))
      refine wp_region_held_drew (S := fun w' => Boxed w.heap.size n false w w' ∧ w'.cell? ⟨w.heap.size, 0, none⟩ = some (.int .i64 n) ∧ w'.cell? ⟨w.heap.size, 1, none⟩ = some (.bool false) ∧ w'.cell? ⟨b2, o2 + k, none⟩ = some (.int .i64 j) ∧ w'.cell? ⟨b1, o1 + j * 3, none⟩ = some (.int .i64 kc.s) ∧ w'.cell? ⟨b1, o1 + j * 3 + 1, none⟩ = some (.int .i64 kc.r) ∧ w'.cell? ⟨b1, o1 + j * 3 + 2, none⟩ = some (.int .i64 kc.f)) (by kernel_rfl) (⟨HX.out, HX.out.c0, HX.out.c1, (HX.out.below.cell (p := ⟨b2, o2 + k, none⟩) hbl2).trans HCO.out, (HX.out.below.cell (p := ⟨b1, o1 + j * 3, none⟩) hbl1).trans G0.out, (HX.out.below.cell (p := ⟨b1, o1 + j * 3 + 1, none⟩) hbl1).trans G1.out, (HX.out.below.cell (p := ⟨b1, o1 + j * 3 + 2, none⟩) hbl1).trans G2.out⟩) (fun hHeld => ?_)
      refine wpAnyH_take (i := 0) (oi := _) (v := ?_) rfl (by kernel_rfl) (by kernel_rfl) (by kernel_rfl) (fun _ _ _ h => h) (Or.inl ⟨by rfl, ?_⟩) (by assumption) ?_
      rotate_left
      · (intro w hSw; (try dsimp only at hSw); (first | (go_simp; done) | (go_simp; with_reducible rfl)))
      simp only [Act.put, List.getElem_toArray, List.getElem_cons_succ, List.getElem_cons_zero, List.setIfInBounds_toArray, List.set_cons_zero, List.set_cons_succ]
      refine wpAnyH_take (i := 1) (oi := _) (v := ?_) rfl (by kernel_rfl) (by kernel_rfl) (by kernel_rfl) (fun _ _ _ h => h) (Or.inl ⟨by rfl, ?_⟩) (by assumption) ?_
      rotate_left
      · (intro w hSw; (try dsimp only at hSw); (first | (go_simp; done) | (go_simp; with_reducible rfl)))
      simp only [Act.put, List.getElem_toArray, List.getElem_cons_succ, List.getElem_cons_zero, List.setIfInBounds_toArray, List.set_cons_zero, List.set_cons_succ]
      refine wpAnyH_take (i := 2) (oi := _) (v := ?_) rfl (by kernel_rfl) (by kernel_rfl) (by kernel_rfl) (fun _ _ _ h => h) (Or.inl ⟨by rfl, ?_⟩) (by assumption) ?_
      rotate_left
      · (intro w hSw; (try dsimp only at hSw); (first | (go_simp; done) | (go_simp; with_reducible rfl)))
      simp only [Act.put, List.getElem_toArray, List.getElem_cons_succ, List.getElem_cons_zero, List.setIfInBounds_toArray, List.set_cons_zero, List.set_cons_succ]
      refine wpAnyH_take (i := 3) (oi := _) (v := ?_) rfl (by kernel_rfl) (by kernel_rfl) (by kernel_rfl) (fun _ _ _ h => h) (Or.inl ⟨by rfl, ?_⟩) (by assumption) ?_
      rotate_left
      · (intro w hSw; (try dsimp only at hSw); (first | (go_simp; done) | (go_simp; with_reducible rfl)))
      simp only [Act.put, List.getElem_toArray, List.getElem_cons_succ, List.getElem_cons_zero, List.setIfInBounds_toArray, List.set_cons_zero, List.set_cons_succ]
      refine wpAnyH_take (i := 4) (oi := _) (v := ?_) rfl (by kernel_rfl) (by kernel_rfl) (by kernel_rfl) (fun _ _ _ h => h) (Or.inl ⟨by rfl, ?_⟩) (by assumption) ?_
      rotate_left
      · (intro w hSw; (try dsimp only at hSw); (first | (go_simp; done) | (go_simp; with_reducible rfl)))
      simp only [Act.put, List.getElem_toArray, List.getElem_cons_succ, List.getElem_cons_zero, List.setIfInBounds_toArray, List.set_cons_zero, List.set_cons_succ]
      refine wpAnyH_take (i := 5) (oi := _) (v := ?_) rfl (by kernel_rfl) (by kernel_rfl) (by kernel_rfl) (fun _ _ _ h => h) (Or.inl ⟨by rfl, ?_⟩) (by assumption) ?_
      rotate_left
      · (intro w hSw; (try dsimp only at hSw); (first | (go_simp; done) | (go_simp; with_reducible rfl)))
      simp only [Act.put, List.getElem_toArray, List.getElem_cons_succ, List.getElem_cons_zero, List.setIfInBounds_toArray, List.set_cons_zero, List.set_cons_succ]
      refine wpAnyH_take (i := 6) (oi := _) (v := ?_) rfl (by kernel_rfl) (by kernel_rfl) (by kernel_rfl) (fun _ _ _ h => h) (Or.inl ⟨by rfl, ?_⟩) (by assumption) ?_
      rotate_left
      · (intro w hSw; (try dsimp only at hSw); (first | (go_simp; done) | (go_simp; with_reducible rfl)))
      simp only [Act.put, List.getElem_toArray, List.getElem_cons_succ, List.getElem_cons_zero, List.setIfInBounds_toArray, List.set_cons_zero, List.set_cons_succ]
      refine wpAnyH_take (i := 7) (oi := _) (v := ?_) rfl (by kernel_rfl) (by kernel_rfl) (by kernel_rfl) (fun _ _ _ h => h) (Or.inl ⟨by rfl, ?_⟩) (by assumption) ?_
      rotate_left
      · (intro w hSw; (try dsimp only at hSw); (first | (go_simp; done) | (go_simp; with_reducible rfl)))
      simp only [Act.put, List.getElem_toArray, List.getElem_cons_succ, List.getElem_cons_zero, List.setIfInBounds_toArray, List.set_cons_zero, List.set_cons_succ]
      refine wpAnyH_take (i := 8) (oi := _) (v := ?_) rfl (by kernel_rfl) (by kernel_rfl) (by kernel_rfl) (fun _ _ _ h => h) (Or.inl ⟨by rfl, ?_⟩) (by assumption) ?_
      rotate_left
      · (intro w hSw; (try dsimp only at hSw); (first | (go_simp; done) | (go_simp; with_reducible rfl)))
      simp only [Act.put, List.getElem_toArray, List.getElem_cons_succ, List.getElem_cons_zero, List.setIfInBounds_toArray, List.set_cons_zero, List.set_cons_succ]
      refine wpAnyH_take (i := 9) (oi := _) (v := ?_) rfl (by kernel_rfl) (by kernel_rfl) (by kernel_rfl) (fun _ _ _ h => h) (Or.inl ⟨by rfl, ?_⟩) (by assumption) ?_
      rotate_left
      · (intro w hSw; (try dsimp only at hSw); (first | (go_simp; done) | (go_simp; with_reducible rfl)))
      simp only [Act.put, List.getElem_toArray, List.getElem_cons_succ, List.getElem_cons_zero, List.setIfInBounds_toArray, List.set_cons_zero, List.set_cons_succ]
      refine wpAnyH_ready (rs := [10]) (by kernel_rfl) (by simp) ?_
      refine AllReadyH.cons rfl (fun K hK => ?_) AllReadyH.nil
      go_simp
      refine (HE.out kc x _ HW.out HXR.out).mono ?_
      rintro e w21 ⟨rfl, hb⟩
      have HX := Lib.hid (HX.out.next hb)
      clear hb
      clear hHeld
      try go_wp2_with fail
      refine hK.out _ _ (⟨HX.out, HX.out.c0, HX.out.c1, (HX.out.below.cell (p := ⟨b2, o2 + k, none⟩) hbl2).trans HCO.out, (HX.out.below.cell (p := ⟨b1, o1 + j * 3, none⟩) hbl1).trans G0.out, (HX.out.below.cell (p := ⟨b1, o1 + j * 3 + 1, none⟩) hbl1).trans G1.out, (HX.out.below.cell (p := ⟨b1, o1 + j * 3 + 2, none⟩) hbl1).trans G2.out⟩) (fun hHeld => ?_)
      clear hK K
      refine wpAnyH_ready (rs := [11]) (by kernel_rfl) (by simp) ?_
      refine AllReadyH.cons rfl (fun K hK => ?_) AllReadyH.nil
      go_simp
      refine (HMO.out _ _ _).mono ?_
      rw [HON.out]
      rintro e w22 ⟨rfl, rfl⟩
      clear hHeld
      try go_wp2_with fail
      refine hK.out _ _ (⟨HX.out, HX.out.c0, HX.out.c1, (HX.out.below.cell (p := ⟨b2, o2 + k, none⟩) hbl2).trans HCO.out, (HX.out.below.cell (p := ⟨b1, o1 + j * 3, none⟩) hbl1).trans G0.out, (HX.out.below.cell (p := ⟨b1, o1 + j * 3 + 1, none⟩) hbl1).trans G1.out, (HX.out.below.cell (p := ⟨b1, o1 + j * 3 + 2, none⟩) hbl1).trans G2.out⟩) (fun hHeld => ?_)
      clear hK K
      refine wpAnyH_take (i := 12) (oi := _) (v := ?_) rfl (by kernel_rfl) (by kernel_rfl) (by kernel_rfl) (fun _ _ _ h => h) (Or.inl ⟨by rfl, ?_⟩) (by assumption) ?_
      rotate_left
      · (intro w hSw; (try dsimp only at hSw); (first | (go_simp; done) | (go_simp; with_reducible rfl)))
      simp only [Act.put, List.getElem_toArray, List.getElem_cons_succ, List.getElem_cons_zero, List.setIfInBounds_toArray, List.set_cons_zero, List.set_cons_succ]
      refine wpAnyH_done (by kernel_rfl) ?_ _
      refine NoPanic.normal ?_
      clear hHeld
      go_wp2_with fail
      go_roundw
      case rel => exact ⟨HX.out, k + 1, by omega, by go_num, by rw [HK.out, HCA.out]⟩
      case measure => simp [intOf]; omega
    · have hke : k = os.length := by omega
      subst hke
      rw [List.take_length]
      go_wp2_with fail
      go_ret
      exact ⟨rfl, HX.out.below⟩
def ReRelE (n : Int) (cs : List Cr) (a : Int) (os : List Int) (e : Array Value) (base : Nat) (w : World) (x i : Value) (wr : World) : Prop :=
  Below base w wr ∧ Blk wr base e 64 ∧ ∃ k : Nat, k ≤ os.length ∧ i = .int .i64 k ∧ x = .int .i64 (rchF n cs a (os.take k))
set_option maxHeartbeats 1600000 in
set_option maxRecDepth 20000 in
theorem reachE_any (n : Int) (g : Bool) (v1 v2 : Value) (cs : List Cr) (os : List Int) (a b : Int) (w : World) (h1 : ReadsC w v1 cs) (h2 : ReadsI w v2 os) (hc : WkL n cs) (ho : ordC cs.length os = true) (ha : 0 ≤ a ∧ a < n) :
    Calls Try.prog 79 #[erV n g v1 a b, v2] w fun e w' => e = .returned (.int .i64 (rchF n cs a os)) ∧ Below w.heap.size w w' := by
  have HE := Lib.hid (fun x i k w hv hi hk hx => onwardE_any n g v1 cs a b x i k w hv hi hk hx)
  have HC := Lib.hid hc
  have HO := Lib.hid ho
  have HRT := Lib.hid (fun k => rch_take hc ho ha k)
  have H1 := Lib.hid h1
  have HW := Lib.hid (below_new w (.cells (erC n g v1 a b) 64))
  have HB := Lib.hid (blk_new w (erC n g v1 a b) 64)
  obtain ⟨y2, c2, hv2, _, hm2, hx2⟩ := h2
  subst hv2
  unfold maxLen at hm2
  have HL := Lib.hid hx2
  clear hx2 hc ho ha h1
  unfold erV erC at *
  go_enter Try.func79, Try.ntmps79
  go_wp2_with fail
  go_loopw [5, 12] (fun x i wr => ReRelE n cs a os #[.int .i64 n, .bool g, v1, .int .i64 a, .int .i64 b] w.heap.size w x i wr) (fun _ i _ => os.length - (intOf i).toNat)
  case atStart => exact ⟨HW.out, HB.out, 0, Nat.zero_le _, rfl, rfl⟩
  case round =>
    obtain ⟨hw, hb, k, hk, rfl, rfl⟩ := hrel
    clear HW HB
    have HW := Lib.hid hw
    have HB := Lib.hid hb
    clear hw hb
    by_cases hlt : k < os.length
    · obtain ⟨i, hik⟩ := get_some hlt
      obtain ⟨b2, o2, rfl, hbl2, hcell⟩ := HL.out k i hik
      obtain ⟨j, rfl, hjl⟩ := ord_at HO.out hik
      obtain ⟨kc, hkc⟩ := get_cr hjl
      have HK := Lib.hid (rchF_next n cs a os k j hik)
      have HKC := Lib.hid hkc
      have hcl := (HW.out.cell (p := ⟨b2, o2 + k, none⟩) hbl2).trans hcell
      have HXR := Lib.hid (HRT.out k)
      have HWK := Lib.hid (HC.out.2.2 j kc hkc)
      have HCA := Lib.hid (crAt_some hkc)
      have hi0 : 0 ≤ (k : Int) := by omega
      have hi1 : (k : Int) < os.length := by omega
      have e0 := HB.out.cell 0
      have e1 := HB.out.cell 1
      have e2 := HB.out.cell 2
      have e3 := HB.out.cell 3
      have e4 := HB.out.cell 4
      clear hik hcell hkc
      generalize rchF n cs a (os.take k) = x at *
      go_wp2_with fail
      refine (HE.out x j kc _ (H1.out.below HW.out) HKC.out HWK.out HXR.out).mono ?_
      rintro e w2 ⟨rfl, hb⟩
      have HW2 := Lib.hid (HW.out.trans (hb.mono HW.out.size))
      have HB2 := Lib.hid (HB.out.below hb)
      clear hb hcl e0 e1 e2 e3 e4
      go_wp2_with fail
      go_roundw
      case rel => exact ⟨HW2.out, HB2.out, k + 1, by omega, by go_num, by rw [HK.out, HCA.out]⟩
      case measure => simp [intOf]; omega
    · have hke : k = os.length := by omega
      subst hke
      rw [List.take_length]
      go_wp2_with fail
      go_ret
      exact ⟨rfl, HW.out⟩
end Go.Proofs.Ytekahkeddpngpaa
