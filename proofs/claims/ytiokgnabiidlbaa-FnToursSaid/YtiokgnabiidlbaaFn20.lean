/-
  What is proved: the contract of spec.JoinWalks. Conditions: slices that read as lists of numbers.
-/
import Derived.Test.YtiokgnabiidlbaaFn19
import Derived.Test.YtiokgnabiidlbaaFn9
namespace Go.Proofs.Ytiokgnabiidlbaa
open Go.RowKit
set_option linter.unusedVariables false
set_option linter.unusedSimpArgs false

abbrev KeepJ (base : Nat) (n : Int) (g : Bool) (b i : Nat) (u : Value) (b2 i2 : Nat) (u2 : Value) (w w1 : World) : Prop :=
  Boxed base n g w w1 ∧ w1.cell? ⟨base, 0, none⟩ = some (.int .i64 n) ∧ w1.cell? ⟨base, 1, none⟩ = some (.bool g) ∧ w1.cell? ⟨b, i, none⟩ = some u ∧ w1.cell? ⟨b2, i2, none⟩ = some u2
theorem keepJ {base : Nat} {n : Int} {g : Bool} {w w1 w2 : World} {b i b2 i2 : Nat} {u u2 : Value} (h : KeepJ base n g b i u b2 i2 u2 w w1) (hbl : b < base) (hbl2 : b2 < base) (hb : Below w1.heap.size w1 w2) : KeepJ base n g b i u b2 i2 u2 w w2 :=
  ⟨h.1.next hb, (h.1.next hb).c0, (h.1.next hb).c1, (hb.cell (p := ⟨b, i, none⟩) (Nat.lt_trans hbl h.1.size)).trans h.2.2.2.1, (hb.cell (p := ⟨b2, i2, none⟩) (Nat.lt_trans hbl2 h.1.size)).trans h.2.2.2.2⟩
theorem keepJ_new {base : Nat} {n : Int} {g : Bool} {w w1 : World} {b i b2 i2 : Nat} {u u2 : Value} (h : Boxed base n g w w1) (h3 : w1.cell? ⟨b, i, none⟩ = some u) (h4 : w1.cell? ⟨b2, i2, none⟩ = some u2) : KeepJ base n g b i u b2 i2 u2 w w1.drew :=
  ⟨h.next (below_drewN _ 1), h.c0, h.c1, h3, h4⟩
theorem readsJ {base : Nat} {n : Int} {g : Bool} {w w1 : World} {b i b2 i2 : Nat} {u u2 : Value} {v : Value} {xs : List Int} (h : KeepJ base n g b i u b2 i2 u2 w w1) (hv : ReadsI w v xs) (hb : base = w.heap.size) : ReadsI w1 v xs := hv.below (hb ▸ h.1.below)
theorem reads2 {base : Nat} {n : Int} {g : Bool} {w w1 : World} {v : Value} {xs : List Int} (h : Keep2 base n g w w1) (hv : ReadsI w v xs) (hb : base = w.heap.size) : ReadsI w1 v xs := hv.below (hb ▸ h.1.below)
theorem keep2_grown {base : Nat} {n : Int} {g : Bool} {w wr w1 : World} {v : Value} (h : Keep2 base n g w wr) (hg : wr.grownBy w1 v.ownBlock) (hv : ∀ b, v.ownBlock = some b → base + 1 ≤ b) : Keep2 base n g w w1 := by
  have hB := h.1.nextAt (Nat.lt_succ_self _) (below_grown hg hv (Nat.succ_le_of_lt h.1.size))
  exact ⟨hB, hB.c0, hB.c1⟩
set_option maxHeartbeats 3200000 in
set_option maxRecDepth 20000 in
theorem spec_JoinWalks (n : Int) (g : Bool) (v : Value) (xs : List Int) (u : Value) (ys : List Int) (w : World) (hv : ReadsI w v xs) (hu : ReadsI w u ys) :
    Calls Try.prog 37 #[rd n g, v, u] w (OwnsB w.heap.size (joinR n g xs ys).1 (joinR n g xs ys).2 w) := by
  obtain ⟨i0, hi, hz0, hz1, hz2⟩ := info_parts infoInt
  have HWT := Lib.hid (fun v xs w hv (hw : walkD n g xs = true) => show Calls Try.prog 45 #[rd n g, v] w fun e w' => e = .returned (.bool true) ∧ Below w.heap.size w w' from by have h := l2Walk_is n g v xs w hv; rw [hw] at h; exact h)
  have HWF := Lib.hid (fun v xs w hv (hw : walkD n g xs = false) => show Calls Try.prog 45 #[rd n g, v] w fun e w' => e = .returned (.bool false) ∧ Below w.heap.size w w' from by have h := l2Walk_is n g v xs w hv; rw [hw] at h; exact h)
  have HOWN := Lib.hid (fun v w hv hl h2 => own_any v xs w hv hl h2)
  have HKY := Lib.hid (fun v w hv hw => kept_yes n g v (xs ++ ys.drop 1) w hv hw)
  have HKN := Lib.hid (fun v w hv hw => kept_no n g v (xs ++ ys.drop 1) w hv hw)
  have HX := Lib.hid (Boxed.first w n g 25)
  have HV := Lib.hid hv
  have HU := Lib.hid hu
  obtain ⟨y, c, hvv, hc, hm, hx⟩ := hv
  obtain ⟨y2, c2, huu, hc2, hm2, hx2⟩ := hu
  subst hvv huu
  unfold maxLen at hm hm2
  have HL := Lib.hid hx
  have HL2 := Lib.hid hx2
  clear hx hx2
  unfold rd at *
  cases hw : walkD n g xs
  · have HR := Lib.hid (joinR_no (fun h => walkD_no hw h.1) : joinR n g xs ys = ([], false))
    have HC := Lib.hid (fun v w h => HWF.out v xs w h hw)
    go_enter Try.func37, Try.ntmps37
    go_wp2_with fail
    generalize w.alloc (Obj.cells #[Value.int IntKind.i64 n, Value.bool g] 25) = w1 at *
    refine wp_region_noPanic ?_
    refine wp_region_held_drew (S := fun w' => Boxed w.heap.size n g w w' ∧ w'.cell? ⟨w.heap.size, 0, none⟩ = some (.int .i64 n) ∧ w'.cell? ⟨w.heap.size, 1, none⟩ = some (.bool g)) (by kernel_rfl) (keep2_new HX.out) (fun hHeld => ?_)
    refine wpAnyH_take (i := 0) (oi := _) (v := ?_) rfl (by kernel_rfl) (by kernel_rfl) (by kernel_rfl) (fun _ _ _ h => h) (Or.inl ⟨by rfl, ?_⟩) (by assumption) ?_
    rotate_left
    · (intro w hSw; (try dsimp only at hSw); (first | (go_simp; done) | (go_simp; with_reducible rfl)))
    simp only [Act.put, List.getElem_toArray, List.getElem_cons_succ, List.getElem_cons_zero, List.setIfInBounds_toArray, List.set_cons_zero, List.set_cons_succ]
    refine wpAnyH_take (i := 1) (oi := _) (v := ?_) rfl (by kernel_rfl) (by kernel_rfl) (by kernel_rfl) (fun _ _ _ h => h) (Or.inl ⟨by rfl, ?_⟩) (by assumption) ?_
    rotate_left
    · (intro w hSw; (try dsimp only at hSw); (first | (go_simp; done) | (go_simp; with_reducible rfl)))
    simp only [Act.put, List.getElem_toArray, List.getElem_cons_succ, List.getElem_cons_zero, List.setIfInBounds_toArray, List.set_cons_zero, List.set_cons_succ]
    refine wpAnyH_ready (rs := [2]) (by kernel_rfl) (by simp) ?_
    refine AllReadyH.cons rfl (fun K hK => ?_) AllReadyH.nil
    go_simp
    refine (HC.out _ _ (reads2 hHeld HV.out rfl)).mono ?_
    rintro e w2 ⟨rfl, hb⟩
    have hS := keep2 hHeld hb
    clear hb hHeld
    go_wp2_with fail
    refine hK.out _ _ (hS) (fun hHeld => ?_)
    clear hK K
    refine wpAnyH_take (i := 3) (oi := _) (v := ?_) rfl (by kernel_rfl) (by kernel_rfl) (by kernel_rfl) (fun _ _ _ h => h) (Or.inl ⟨by rfl, ?_⟩) (by assumption) ?_
    rotate_left
    · (intro w hSw; (try dsimp only at hSw); (first | (go_simp; done) | (go_simp; with_reducible rfl)))
    simp only [Act.put, List.getElem_toArray, List.getElem_cons_succ, List.getElem_cons_zero, List.setIfInBounds_toArray, List.set_cons_zero, List.set_cons_succ]
    refine wpAnyH_take (i := 4) (oi := _) (v := ?_) rfl (by kernel_rfl) (by kernel_rfl) (by kernel_rfl) (fun _ _ _ h => h) (Or.inl ⟨by rfl, ?_⟩) (by assumption) ?_
    rotate_left
    · (intro w hSw; (try dsimp only at hSw); (first | (go_simp; done) | (go_simp; with_reducible rfl)))
    simp only [Act.put, List.getElem_toArray, List.getElem_cons_succ, List.getElem_cons_zero, List.setIfInBounds_toArray, List.set_cons_zero, List.set_cons_succ]
    refine wpAnyH_take (i := 5) (oi := _) (v := undef) rfl (by kernel_rfl) (by kernel_rfl) (by kernel_rfl) (fun _ _ _ h => h) (Or.inr ⟨by rfl, rfl⟩) (by assumption) ?_
    simp only [Act.put, List.getElem_toArray, List.getElem_cons_succ, List.getElem_cons_zero, List.setIfInBounds_toArray, List.set_cons_zero, List.set_cons_succ]
    refine wpAnyH_take (i := 6) (oi := _) (v := undef) rfl (by kernel_rfl) (by kernel_rfl) (by kernel_rfl) (fun _ _ _ h => h) (Or.inr ⟨by rfl, rfl⟩) (by assumption) ?_
    simp only [Act.put, List.getElem_toArray, List.getElem_cons_succ, List.getElem_cons_zero, List.setIfInBounds_toArray, List.set_cons_zero, List.set_cons_succ]
    refine wpAnyH_take (i := 7) (oi := _) (v := undef) rfl (by kernel_rfl) (by kernel_rfl) (by kernel_rfl) (fun _ _ _ h => h) (Or.inr ⟨by rfl, rfl⟩) (by assumption) ?_
    simp only [Act.put, List.getElem_toArray, List.getElem_cons_succ, List.getElem_cons_zero, List.setIfInBounds_toArray, List.set_cons_zero, List.set_cons_succ]
    refine wpAnyH_take (i := 8) (oi := _) (v := undef) rfl (by kernel_rfl) (by kernel_rfl) (by kernel_rfl) (fun _ _ _ h => h) (Or.inr ⟨by rfl, rfl⟩) (by assumption) ?_
    simp only [Act.put, List.getElem_toArray, List.getElem_cons_succ, List.getElem_cons_zero, List.setIfInBounds_toArray, List.set_cons_zero, List.set_cons_succ]
    refine wpAnyH_take (i := 9) (oi := _) (v := ?_) rfl (by kernel_rfl) (by kernel_rfl) (by kernel_rfl) (fun _ _ _ h => h) (Or.inl ⟨by rfl, ?_⟩) (by assumption) ?_
    rotate_left
    · (intro w hSw; (try dsimp only at hSw); (first | (go_simp; done) | (go_simp; with_reducible rfl)))
    simp only [Act.put, List.getElem_toArray, List.getElem_cons_succ, List.getElem_cons_zero, List.setIfInBounds_toArray, List.set_cons_zero, List.set_cons_succ]
    refine wpAnyH_take (i := 10) (oi := _) (v := ?_) rfl (by kernel_rfl) (by kernel_rfl) (by kernel_rfl) (fun _ _ _ h => h) (Or.inl ⟨by rfl, ?_⟩) (by assumption) ?_
    rotate_left
    · (intro w hSw; (try dsimp only at hSw); (first | (go_simp; done) | (go_simp; with_reducible rfl)))
    simp only [Act.put, List.getElem_toArray, List.getElem_cons_succ, List.getElem_cons_zero, List.setIfInBounds_toArray, List.set_cons_zero, List.set_cons_succ]
    refine wpAnyH_take (i := 11) (oi := _) (v := undef) rfl (by kernel_rfl) (by kernel_rfl) (by kernel_rfl) (fun _ _ _ h => h) (Or.inr ⟨by rfl, rfl⟩) (by assumption) ?_
    simp only [Act.put, List.getElem_toArray, List.getElem_cons_succ, List.getElem_cons_zero, List.setIfInBounds_toArray, List.set_cons_zero, List.set_cons_succ]
    refine wpAnyH_take (i := 12) (oi := _) (v := undef) rfl (by kernel_rfl) (by kernel_rfl) (by kernel_rfl) (fun _ _ _ h => h) (Or.inr ⟨by rfl, rfl⟩) (by assumption) ?_
    simp only [Act.put, List.getElem_toArray, List.getElem_cons_succ, List.getElem_cons_zero, List.setIfInBounds_toArray, List.set_cons_zero, List.set_cons_succ]
    refine wpAnyH_take (i := 13) (oi := _) (v := undef) rfl (by kernel_rfl) (by kernel_rfl) (by kernel_rfl) (fun _ _ _ h => h) (Or.inr ⟨by rfl, rfl⟩) (by assumption) ?_
    simp only [Act.put, List.getElem_toArray, List.getElem_cons_succ, List.getElem_cons_zero, List.setIfInBounds_toArray, List.set_cons_zero, List.set_cons_succ]
    refine wpAnyH_take (i := 14) (oi := _) (v := undef) rfl (by kernel_rfl) (by kernel_rfl) (by kernel_rfl) (fun _ _ _ h => h) (Or.inr ⟨by rfl, rfl⟩) (by assumption) ?_
    simp only [Act.put, List.getElem_toArray, List.getElem_cons_succ, List.getElem_cons_zero, List.setIfInBounds_toArray, List.set_cons_zero, List.set_cons_succ]
    refine wpAnyH_take (i := 15) (oi := _) (v := undef) rfl (by kernel_rfl) (by kernel_rfl) (by kernel_rfl) (fun _ _ _ h => h) (Or.inr ⟨by rfl, rfl⟩) (by assumption) ?_
    simp only [Act.put, List.getElem_toArray, List.getElem_cons_succ, List.getElem_cons_zero, List.setIfInBounds_toArray, List.set_cons_zero, List.set_cons_succ]
    refine wpAnyH_take (i := 16) (oi := _) (v := undef) rfl (by kernel_rfl) (by kernel_rfl) (by kernel_rfl) (fun _ _ _ h => h) (Or.inr ⟨by rfl, rfl⟩) (by assumption) ?_
    simp only [Act.put, List.getElem_toArray, List.getElem_cons_succ, List.getElem_cons_zero, List.setIfInBounds_toArray, List.set_cons_zero, List.set_cons_succ]
    refine wpAnyH_take (i := 17) (oi := _) (v := undef) rfl (by kernel_rfl) (by kernel_rfl) (by kernel_rfl) (fun _ _ _ h => h) (Or.inr ⟨by rfl, rfl⟩) (by assumption) ?_
    simp only [Act.put, List.getElem_toArray, List.getElem_cons_succ, List.getElem_cons_zero, List.setIfInBounds_toArray, List.set_cons_zero, List.set_cons_succ]
    refine wpAnyH_take (i := 18) (oi := _) (v := undef) rfl (by kernel_rfl) (by kernel_rfl) (by kernel_rfl) (fun _ _ _ h => h) (Or.inr ⟨by rfl, rfl⟩) (by assumption) ?_
    simp only [Act.put, List.getElem_toArray, List.getElem_cons_succ, List.getElem_cons_zero, List.setIfInBounds_toArray, List.set_cons_zero, List.set_cons_succ]
    refine wpAnyH_take (i := 19) (oi := _) (v := undef) rfl (by kernel_rfl) (by kernel_rfl) (by kernel_rfl) (fun _ _ _ h => h) (Or.inr ⟨by rfl, rfl⟩) (by assumption) ?_
    simp only [Act.put, List.getElem_toArray, List.getElem_cons_succ, List.getElem_cons_zero, List.setIfInBounds_toArray, List.set_cons_zero, List.set_cons_succ]
    refine wpAnyH_take (i := 20) (oi := _) (v := undef) rfl (by kernel_rfl) (by kernel_rfl) (by kernel_rfl) (fun _ _ _ h => h) (Or.inr ⟨by rfl, rfl⟩) (by assumption) ?_
    simp only [Act.put, List.getElem_toArray, List.getElem_cons_succ, List.getElem_cons_zero, List.setIfInBounds_toArray, List.set_cons_zero, List.set_cons_succ]
    refine wpAnyH_take (i := 21) (oi := _) (v := ?_) rfl (by kernel_rfl) (by kernel_rfl) (by kernel_rfl) (fun _ _ _ h => h) (Or.inl ⟨by rfl, ?_⟩) (by assumption) ?_
    rotate_left
    · (intro w hSw; (try dsimp only at hSw); (first | (go_simp; done) | (go_simp; with_reducible rfl)))
    simp only [Act.put, List.getElem_toArray, List.getElem_cons_succ, List.getElem_cons_zero, List.setIfInBounds_toArray, List.set_cons_zero, List.set_cons_succ]
    refine wpAnyH_done (by kernel_rfl) ?_ _
    refine NoPanic.normal ?_
    have HZ := Lib.hid hHeld.1
    clear hHeld
    have HO := Lib.hid (fun (w2 : World) (h : Boxed w.heap.size n g w w2) => made_at w2 (w.heap.size + 1) w2.heap.size rfl (Nat.succ_le_of_lt h.size))
    go_wp2_with fail
    go_ret2
    exact owns_R (zs := []) (b := false) HR.out (owns_out (HZ.out.next (below_new _ _)) (HO.out _ HZ.out))
  · cases hw2 : walkD n g ys
    · have HR := Lib.hid (joinR_no (fun h => walkD_no hw2 h.2.1) : joinR n g xs ys = ([], false))
      have HC := Lib.hid (fun v w h => HWT.out v xs w h hw)
      have HC2 := Lib.hid (fun v w h => HWF.out v ys w h hw2)
      go_enter Try.func37, Try.ntmps37
      go_wp2_with fail
      generalize w.alloc (Obj.cells #[Value.int IntKind.i64 n, Value.bool g] 25) = w1 at *
      refine wp_region_noPanic ?_
      refine wp_region_held_drew (S := fun w' => Boxed w.heap.size n g w w' ∧ w'.cell? ⟨w.heap.size, 0, none⟩ = some (.int .i64 n) ∧ w'.cell? ⟨w.heap.size, 1, none⟩ = some (.bool g)) (by kernel_rfl) (keep2_new HX.out) (fun hHeld => ?_)
      refine wpAnyH_take (i := 0) (oi := _) (v := ?_) rfl (by kernel_rfl) (by kernel_rfl) (by kernel_rfl) (fun _ _ _ h => h) (Or.inl ⟨by rfl, ?_⟩) (by assumption) ?_
      rotate_left
      · (intro w hSw; (try dsimp only at hSw); (first | (go_simp; done) | (go_simp; with_reducible rfl)))
      simp only [Act.put, List.getElem_toArray, List.getElem_cons_succ, List.getElem_cons_zero, List.setIfInBounds_toArray, List.set_cons_zero, List.set_cons_succ]
      refine wpAnyH_take (i := 1) (oi := _) (v := ?_) rfl (by kernel_rfl) (by kernel_rfl) (by kernel_rfl) (fun _ _ _ h => h) (Or.inl ⟨by rfl, ?_⟩) (by assumption) ?_
      rotate_left
      · (intro w hSw; (try dsimp only at hSw); (first | (go_simp; done) | (go_simp; with_reducible rfl)))
      simp only [Act.put, List.getElem_toArray, List.getElem_cons_succ, List.getElem_cons_zero, List.setIfInBounds_toArray, List.set_cons_zero, List.set_cons_succ]
      refine wpAnyH_ready (rs := [2]) (by kernel_rfl) (by simp) ?_
      refine AllReadyH.cons rfl (fun K hK => ?_) AllReadyH.nil
      go_simp
      refine (HC.out _ _ (reads2 hHeld HV.out rfl)).mono ?_
      rintro e w2 ⟨rfl, hb⟩
      have hS := keep2 hHeld hb
      clear hb hHeld
      go_wp2_with fail
      refine hK.out _ _ (hS) (fun hHeld => ?_)
      clear hK K
      refine wpAnyH_take (i := 3) (oi := _) (v := ?_) rfl (by kernel_rfl) (by kernel_rfl) (by kernel_rfl) (fun _ _ _ h => h) (Or.inl ⟨by rfl, ?_⟩) (by assumption) ?_
      rotate_left
      · (intro w hSw; (try dsimp only at hSw); (first | (go_simp; done) | (go_simp; with_reducible rfl)))
      simp only [Act.put, List.getElem_toArray, List.getElem_cons_succ, List.getElem_cons_zero, List.setIfInBounds_toArray, List.set_cons_zero, List.set_cons_succ]
      refine wpAnyH_take (i := 4) (oi := _) (v := ?_) rfl (by kernel_rfl) (by kernel_rfl) (by kernel_rfl) (fun _ _ _ h => h) (Or.inl ⟨by rfl, ?_⟩) (by assumption) ?_
      rotate_left
      · (intro w hSw; (try dsimp only at hSw); (first | (go_simp; done) | (go_simp; with_reducible rfl)))
      simp only [Act.put, List.getElem_toArray, List.getElem_cons_succ, List.getElem_cons_zero, List.setIfInBounds_toArray, List.set_cons_zero, List.set_cons_succ]
      refine wpAnyH_take (i := 5) (oi := _) (v := ?_) rfl (by kernel_rfl) (by kernel_rfl) (by kernel_rfl) (fun _ _ _ h => h) (Or.inl ⟨by rfl, ?_⟩) (by assumption) ?_
      rotate_left
      · (intro w hSw; (try dsimp only at hSw); (first | (go_simp; done) | (go_simp; with_reducible rfl)))
      simp only [Act.put, List.getElem_toArray, List.getElem_cons_succ, List.getElem_cons_zero, List.setIfInBounds_toArray, List.set_cons_zero, List.set_cons_succ]
      refine wpAnyH_take (i := 6) (oi := _) (v := ?_) rfl (by kernel_rfl) (by kernel_rfl) (by kernel_rfl) (fun _ _ _ h => h) (Or.inl ⟨by rfl, ?_⟩) (by assumption) ?_
      rotate_left
      · (intro w hSw; (try dsimp only at hSw); (first | (go_simp; done) | (go_simp; with_reducible rfl)))
      simp only [Act.put, List.getElem_toArray, List.getElem_cons_succ, List.getElem_cons_zero, List.setIfInBounds_toArray, List.set_cons_zero, List.set_cons_succ]
      refine wpAnyH_ready (rs := [7]) (by kernel_rfl) (by simp) ?_
      refine AllReadyH.cons rfl (fun K hK => ?_) AllReadyH.nil
      go_simp
      refine (HC2.out _ _ (reads2 hHeld HU.out rfl)).mono ?_
      rintro e w3 ⟨rfl, hb⟩
      have hS := keep2 hHeld hb
      clear hb hHeld
      go_wp2_with fail
      refine hK.out _ _ (hS) (fun hHeld => ?_)
      clear hK K
      refine wpAnyH_take (i := 8) (oi := _) (v := ?_) rfl (by kernel_rfl) (by kernel_rfl) (by kernel_rfl) (fun _ _ _ h => h) (Or.inl ⟨by rfl, ?_⟩) (by assumption) ?_
      rotate_left
      · (intro w hSw; (try dsimp only at hSw); (first | (go_simp; done) | (go_simp; with_reducible rfl)))
      simp only [Act.put, List.getElem_toArray, List.getElem_cons_succ, List.getElem_cons_zero, List.setIfInBounds_toArray, List.set_cons_zero, List.set_cons_succ]
      refine wpAnyH_take (i := 9) (oi := _) (v := ?_) rfl (by kernel_rfl) (by kernel_rfl) (by kernel_rfl) (fun _ _ _ h => h) (Or.inl ⟨by rfl, ?_⟩) (by assumption) ?_
      rotate_left
      · (intro w hSw; (try dsimp only at hSw); (first | (go_simp; done) | (go_simp; with_reducible rfl)))
      simp only [Act.put, List.getElem_toArray, List.getElem_cons_succ, List.getElem_cons_zero, List.setIfInBounds_toArray, List.set_cons_zero, List.set_cons_succ]
      refine wpAnyH_take (i := 10) (oi := _) (v := ?_) rfl (by kernel_rfl) (by kernel_rfl) (by kernel_rfl) (fun _ _ _ h => h) (Or.inl ⟨by rfl, ?_⟩) (by assumption) ?_
      rotate_left
      · (intro w hSw; (try dsimp only at hSw); (first | (go_simp; done) | (go_simp; with_reducible rfl)))
      simp only [Act.put, List.getElem_toArray, List.getElem_cons_succ, List.getElem_cons_zero, List.setIfInBounds_toArray, List.set_cons_zero, List.set_cons_succ]
      refine wpAnyH_take (i := 11) (oi := _) (v := undef) rfl (by kernel_rfl) (by kernel_rfl) (by kernel_rfl) (fun _ _ _ h => h) (Or.inr ⟨by rfl, rfl⟩) (by assumption) ?_
      simp only [Act.put, List.getElem_toArray, List.getElem_cons_succ, List.getElem_cons_zero, List.setIfInBounds_toArray, List.set_cons_zero, List.set_cons_succ]
      refine wpAnyH_take (i := 12) (oi := _) (v := undef) rfl (by kernel_rfl) (by kernel_rfl) (by kernel_rfl) (fun _ _ _ h => h) (Or.inr ⟨by rfl, rfl⟩) (by assumption) ?_
      simp only [Act.put, List.getElem_toArray, List.getElem_cons_succ, List.getElem_cons_zero, List.setIfInBounds_toArray, List.set_cons_zero, List.set_cons_succ]
      refine wpAnyH_take (i := 13) (oi := _) (v := undef) rfl (by kernel_rfl) (by kernel_rfl) (by kernel_rfl) (fun _ _ _ h => h) (Or.inr ⟨by rfl, rfl⟩) (by assumption) ?_
      simp only [Act.put, List.getElem_toArray, List.getElem_cons_succ, List.getElem_cons_zero, List.setIfInBounds_toArray, List.set_cons_zero, List.set_cons_succ]
      refine wpAnyH_take (i := 14) (oi := _) (v := undef) rfl (by kernel_rfl) (by kernel_rfl) (by kernel_rfl) (fun _ _ _ h => h) (Or.inr ⟨by rfl, rfl⟩) (by assumption) ?_
      simp only [Act.put, List.getElem_toArray, List.getElem_cons_succ, List.getElem_cons_zero, List.setIfInBounds_toArray, List.set_cons_zero, List.set_cons_succ]
      refine wpAnyH_take (i := 15) (oi := _) (v := undef) rfl (by kernel_rfl) (by kernel_rfl) (by kernel_rfl) (fun _ _ _ h => h) (Or.inr ⟨by rfl, rfl⟩) (by assumption) ?_
      simp only [Act.put, List.getElem_toArray, List.getElem_cons_succ, List.getElem_cons_zero, List.setIfInBounds_toArray, List.set_cons_zero, List.set_cons_succ]
      refine wpAnyH_take (i := 16) (oi := _) (v := undef) rfl (by kernel_rfl) (by kernel_rfl) (by kernel_rfl) (fun _ _ _ h => h) (Or.inr ⟨by rfl, rfl⟩) (by assumption) ?_
      simp only [Act.put, List.getElem_toArray, List.getElem_cons_succ, List.getElem_cons_zero, List.setIfInBounds_toArray, List.set_cons_zero, List.set_cons_succ]
      refine wpAnyH_take (i := 17) (oi := _) (v := undef) rfl (by kernel_rfl) (by kernel_rfl) (by kernel_rfl) (fun _ _ _ h => h) (Or.inr ⟨by rfl, rfl⟩) (by assumption) ?_
      simp only [Act.put, List.getElem_toArray, List.getElem_cons_succ, List.getElem_cons_zero, List.setIfInBounds_toArray, List.set_cons_zero, List.set_cons_succ]
      refine wpAnyH_take (i := 18) (oi := _) (v := undef) rfl (by kernel_rfl) (by kernel_rfl) (by kernel_rfl) (fun _ _ _ h => h) (Or.inr ⟨by rfl, rfl⟩) (by assumption) ?_
      simp only [Act.put, List.getElem_toArray, List.getElem_cons_succ, List.getElem_cons_zero, List.setIfInBounds_toArray, List.set_cons_zero, List.set_cons_succ]
      refine wpAnyH_take (i := 19) (oi := _) (v := undef) rfl (by kernel_rfl) (by kernel_rfl) (by kernel_rfl) (fun _ _ _ h => h) (Or.inr ⟨by rfl, rfl⟩) (by assumption) ?_
      simp only [Act.put, List.getElem_toArray, List.getElem_cons_succ, List.getElem_cons_zero, List.setIfInBounds_toArray, List.set_cons_zero, List.set_cons_succ]
      refine wpAnyH_take (i := 20) (oi := _) (v := undef) rfl (by kernel_rfl) (by kernel_rfl) (by kernel_rfl) (fun _ _ _ h => h) (Or.inr ⟨by rfl, rfl⟩) (by assumption) ?_
      simp only [Act.put, List.getElem_toArray, List.getElem_cons_succ, List.getElem_cons_zero, List.setIfInBounds_toArray, List.set_cons_zero, List.set_cons_succ]
      refine wpAnyH_take (i := 21) (oi := _) (v := ?_) rfl (by kernel_rfl) (by kernel_rfl) (by kernel_rfl) (fun _ _ _ h => h) (Or.inl ⟨by rfl, ?_⟩) (by assumption) ?_
      rotate_left
      · (intro w hSw; (try dsimp only at hSw); (first | (go_simp; done) | (go_simp; with_reducible rfl)))
      simp only [Act.put, List.getElem_toArray, List.getElem_cons_succ, List.getElem_cons_zero, List.setIfInBounds_toArray, List.set_cons_zero, List.set_cons_succ]
      refine wpAnyH_done (by kernel_rfl) ?_ _
      refine NoPanic.normal ?_
      have HZ := Lib.hid hHeld.1
      clear hHeld
      have HO := Lib.hid (fun (w2 : World) (h : Boxed w.heap.size n g w w2) => made_at w2 (w.heap.size + 1) w2.heap.size rfl (Nat.succ_le_of_lt h.size))
      go_wp2_with fail
      go_ret2
      exact owns_R (zs := []) (b := false) HR.out (owns_out (HZ.out.next (below_new _ _)) (HO.out _ HZ.out))
    · have hwx := (walkD_iff n g xs).1 hw
      have hwy := (walkD_iff n g ys).1 hw2
      have hl1 := hwx.2.1
      have hl61 := hwx.2.2.1
      have hm1 := hwy.2.1
      have hm61 := hwy.2.2.1
      have HWX := Lib.hid hwx
      have HWY := Lib.hid hwy
      have H1 := Lib.hid hw
      have H2 := Lib.hid hw2
      obtain ⟨x, hxk⟩ := get_some (xs := xs) (k := xs.length - 1) (by omega)
      obtain ⟨z, hzk⟩ := get_some (xs := ys) (k := 0) (by omega)
      obtain ⟨b, o, hyy, hbl, hcx0⟩ := HL.out _ x hxk
      obtain ⟨b2, o2, hyy2, hbl2, hcz0⟩ := HL2.out 0 z hzk
      subst hyy hyy2
      have HXK := Lib.hid hxk
      have HZK := Lib.hid hzk
      have HC1 := Lib.hid (fun v w h => HWT.out v xs w h hw)
      have HC2 := Lib.hid (fun v w h => HWT.out v ys w h hw2)
      clear hw hw2 hwx hwy hxk hzk
      go_enter Try.func37, Try.ntmps37
      go_wp2_with fail
      generalize w.alloc (Obj.cells #[Value.int IntKind.i64 n, Value.bool g] 25) = w1 at *
      have hcx : w1.cell? ⟨b, o + (xs.length - 1), none⟩ = some (.int .i64 x) := (HX.out.below.cell (p := ⟨b, o + (xs.length - 1), none⟩) hbl).trans hcx0
      have hcz : w1.cell? ⟨b2, o2, none⟩ = some (.int .i64 z) := (HX.out.below.cell (p := ⟨b2, o2, none⟩) hbl2).trans hcz0
      have hi2 : 0 ≤ (xs.length : Int) - 1 := by omega
      have hi3 : (xs.length : Int) - 1 < xs.length := by omega
      have hi4 : 1 ≤ (xs.length : Int) := by omega
      have hi6 : 0 < (ys.length : Int) := by omega
      have hi7 : (0 : Int) < (ys.length : Int) := by omega
      have hw1 : IntKind.i64.wrap ((xs.length : Int) - 1) = (xs.length : Int) - 1 := IntWalk.i64_in _ (by omega)
      clear hcx0 hcz0
      have hi8 : ys ≠ [] := by intro h; rw [h] at hm1; simp at hm1
      have hi9 : 0 < ys.length := hm1
      have hi10 : (1 : Int) ≤ (ys.length : Int) := by omega
      by_cases hq : x = z
      · subst hq
        have HJ := Lib.hid (show xs[xs.length - 1]? = ys[0]? from HXK.out.trans HZK.out.symm)
        go_region_held3 (fun w' => Boxed w.heap.size n g w w' ∧ w'.cell? ⟨w.heap.size, 0, none⟩ = some (.int .i64 n) ∧ w'.cell? ⟨w.heap.size, 1, none⟩ = some (.bool g) ∧ w'.cell? ⟨b, o + (xs.length - 1), none⟩ = some (.int .i64 x) ∧ w'.cell? ⟨b2, o2, none⟩ = some (.int .i64 x)) (first | exact hS | exact keepJ_new HX.out hcx hcz) (first | (go_at_call 45; (first | (refine (HC1.out _ _ ?_).mono ?_; exact readsJ (by assumption) HV.out rfl) | (refine (HC2.out _ _ ?_).mono ?_; exact readsJ (by assumption) HU.out rfl)); rintro e w2 ⟨rfl, hb⟩; have hS : KeepJ w.heap.size n g b (o + (xs.length - 1)) (.int .i64 x) b2 o2 (.int .i64 x) w w2 := keepJ (by assumption) hbl hbl2 hb; clear hb))
        all_goals
          have HZ := Lib.hid hS.1
          clear hS hcx hcz
          by_cases hfit : xs.length + ys.length - 1 ≤ 61
          · have HR := Lib.hid (joinR_yes ⟨HWX.out, HWY.out, HJ.out, hfit⟩)
            have HWJ := Lib.hid ((walkD_iff n g (xs ++ ys.drop 1)).2 ((join_walk HWX.out HWY.out HJ.out).2 hfit))
            by_cases hc1 : c2 = 1
            · go_wp2_with fail
              refine wp_region_noPanic ?_
              refine wp_region_held_drew (S := fun w' => Boxed w.heap.size n g w w' ∧ w'.cell? ⟨w.heap.size, 0, none⟩ = some (.int .i64 n) ∧ w'.cell? ⟨w.heap.size, 1, none⟩ = some (.bool g)) (by kernel_rfl) (keep2_new HZ.out) (fun hHeld => ?_)
              refine wpAnyH_take (i := 0) (oi := _) (v := ?_) rfl (by kernel_rfl) (by kernel_rfl) (by kernel_rfl) (fun _ _ _ h => h) (Or.inl ⟨by rfl, ?_⟩) (by assumption) ?_
              rotate_left
              · (intro w hSw; (try dsimp only at hSw); (first | (go_simp; done) | (go_simp; with_reducible rfl)))
              simp only [Act.put, List.getElem_toArray, List.getElem_cons_succ, List.getElem_cons_zero, List.setIfInBounds_toArray, List.set_cons_zero, List.set_cons_succ]
              refine wpAnyH_take (i := 1) (oi := _) (v := ?_) rfl (by kernel_rfl) (by kernel_rfl) (by kernel_rfl) (fun _ _ _ h => h) (Or.inl ⟨by rfl, ?_⟩) (by assumption) ?_
              rotate_left
              · (intro w hSw; (try dsimp only at hSw); (first | (go_simp; done) | (go_simp; with_reducible rfl)))
              simp only [Act.put, List.getElem_toArray, List.getElem_cons_succ, List.getElem_cons_zero, List.setIfInBounds_toArray, List.set_cons_zero, List.set_cons_succ]
              refine wpAnyH_take (i := 3) (oi := _) (v := ?_) rfl (by kernel_rfl) (by kernel_rfl) (by kernel_rfl) (fun _ _ _ h => h) (Or.inl ⟨by rfl, ?_⟩) (by assumption) ?_
              rotate_left
              · (intro w hSw; (try dsimp only at hSw); (first | (go_simp; done) | (go_simp; with_reducible rfl)))
              simp only [Act.put, List.getElem_toArray, List.getElem_cons_succ, List.getElem_cons_zero, List.setIfInBounds_toArray, List.set_cons_zero, List.set_cons_succ]
              refine wpAnyH_take (i := 4) (oi := _) (v := ?_) rfl (by kernel_rfl) (by kernel_rfl) (by kernel_rfl) (fun _ _ _ h => h) (Or.inl ⟨by rfl, ?_⟩) (by assumption) ?_
              rotate_left
              · (intro w hSw; (try dsimp only at hSw); (first | (go_simp; done) | (go_simp; with_reducible rfl)))
              simp only [Act.put, List.getElem_toArray, List.getElem_cons_succ, List.getElem_cons_zero, List.setIfInBounds_toArray, List.set_cons_zero, List.set_cons_succ]
              refine wpAnyH_ready (rs := [2]) (by kernel_rfl) (by simp) ?_
              refine AllReadyH.cons rfl (fun K hK => ?_) AllReadyH.nil
              go_simp
              have hW9 := hHeld.1.size
              refine (HOWN.out _ _ (HV.out.below hHeld.1.below) hl1 (by omega)).mono ?_
              rintro e w3 ⟨v3, rfl, ho, hb⟩
              have hS := keep2 hHeld hb
              have HO3 := Lib.hid (owns_lower ho (Nat.succ_le_of_lt hW9))
              clear hb hHeld ho hW9
              go_wp2_with fail
              refine hK.out _ _ (hS) (fun hHeld => ?_)
              clear hK K
              refine wpAnyH_ready (rs := [5]) (by kernel_rfl) (by simp) ?_
              refine AllReadyH.cons rfl (fun K hK => ?_) AllReadyH.nil
              have hW9 := hHeld.1.size
              refine step_append_any (by rfl) _ _ _ (by rfl) (w.heap.size + 1) 3 i0 (.int .i64 0) 1 8 Try.underlying26 hi hz0 hz1 hz2 rfl (by decide) _ _ _ (by rfl) HO3.out ⟨b2, o2, none⟩ (ys.length - 1) 0 ((ys.drop 1).map iv) ?e2 ?c1 (fun j u hj => by rw [List.drop_eq_nil_of_le (by omega)] at hj; simp at hj) ?c2 ?c3 ?c4 ?c5 ?_
              case e2 => rfl
              case c1 => simp
              case c2 => intro u hu; simp only [List.mem_map] at hu; obtain ⟨z, _, rfl⟩ := hu; rfl
              case c3 => unfold maxLen; omega
              case c4 => omega
              case c5 => exact Nat.succ_le_of_lt hW9
              intro v4 w4 hown' hgrow
              have hS := keep2_grown hHeld hgrow (fun b hb => (owns_block HO3.out b hb).1)
              have HO4 := Lib.hid (show w4.ownsRow (w.heap.size + 1) 3 1 v4 (xs ++ ys.drop 1).length ((xs ++ ys.drop 1).map iv) from by rw [List.length_append, List.length_drop, List.map_append]; exact hown')
              clear hgrow hown' hHeld hW9
              refine hK.out _ _ (hS) (fun hHeld => ?_)
              clear hK K
              refine wpAnyH_ready (rs := [6]) (by kernel_rfl) (by simp) ?_
              refine AllReadyH.cons rfl (fun K hK => ?_) AllReadyH.nil
              go_simp
              refine (HKY.out _ _ (owns_reads HO4.out (by simp only [List.length_append, List.length_drop]; unfold maxLen; omega)) HWJ.out).mono ?_
              rintro e w5 ⟨rfl, hb⟩
              have hS := keep2 hHeld hb
              have HO5 := Lib.hid (owns_below HO4.out hb)
              clear hb hHeld
              go_wp2_with fail
              refine hK.out _ _ (hS) (fun hHeld => ?_)
              clear hK K
              refine wpAnyH_take (i := 7) (oi := _) (v := ?_) rfl (by kernel_rfl) (by kernel_rfl) (by kernel_rfl) (fun _ _ _ h => h) (Or.inl ⟨by rfl, ?_⟩) (by assumption) ?_
              rotate_left
              · (intro w hSw; (try dsimp only at hSw); (first | (go_simp; done) | (go_simp; with_reducible rfl)))
              simp only [Act.put, List.getElem_toArray, List.getElem_cons_succ, List.getElem_cons_zero, List.setIfInBounds_toArray, List.set_cons_zero, List.set_cons_succ]
              refine wpAnyH_take (i := 8) (oi := _) (v := ?_) rfl (by kernel_rfl) (by kernel_rfl) (by kernel_rfl) (fun _ _ _ h => h) (Or.inl ⟨by rfl, ?_⟩) (by assumption) ?_
              rotate_left
              · (intro w hSw; (try dsimp only at hSw); (first | (go_simp; done) | (go_simp; with_reducible rfl)))
              simp only [Act.put, List.getElem_toArray, List.getElem_cons_succ, List.getElem_cons_zero, List.setIfInBounds_toArray, List.set_cons_zero, List.set_cons_succ]
              refine wpAnyH_take (i := 9) (oi := _) (v := ?_) rfl (by kernel_rfl) (by kernel_rfl) (by kernel_rfl) (fun _ _ _ h => h) (Or.inl ⟨by rfl, ?_⟩) (by assumption) ?_
              rotate_left
              · (intro w hSw; (try dsimp only at hSw); (first | (go_simp; done) | (go_simp; with_reducible rfl)))
              simp only [Act.put, List.getElem_toArray, List.getElem_cons_succ, List.getElem_cons_zero, List.setIfInBounds_toArray, List.set_cons_zero, List.set_cons_succ]
              refine wpAnyH_take (i := 10) (oi := _) (v := ?_) rfl (by kernel_rfl) (by kernel_rfl) (by kernel_rfl) (fun _ _ _ h => h) (Or.inl ⟨by rfl, ?_⟩) (by assumption) ?_
              rotate_left
              · (intro w hSw; (try dsimp only at hSw); (first | (go_simp; done) | (go_simp; with_reducible rfl)))
              simp only [Act.put, List.getElem_toArray, List.getElem_cons_succ, List.getElem_cons_zero, List.setIfInBounds_toArray, List.set_cons_zero, List.set_cons_succ]
              refine wpAnyH_done (by kernel_rfl) ?_ _
              refine NoPanic.normal ?_
              have HZ9 := Lib.hid hHeld.1
              clear hHeld
              go_wp2_with fail
              go_ret2
              exact owns_R (zs := xs ++ ys.drop 1) (b := true) HR.out (owns_out HZ9.out HO5.out)
            · go_wp2_with fail
              refine wp_region_noPanic ?_
              refine wp_region_held_drew (S := fun w' => Boxed w.heap.size n g w w' ∧ w'.cell? ⟨w.heap.size, 0, none⟩ = some (.int .i64 n) ∧ w'.cell? ⟨w.heap.size, 1, none⟩ = some (.bool g)) (by kernel_rfl) (keep2_new HZ.out) (fun hHeld => ?_)
              refine wpAnyH_take (i := 0) (oi := _) (v := ?_) rfl (by kernel_rfl) (by kernel_rfl) (by kernel_rfl) (fun _ _ _ h => h) (Or.inl ⟨by rfl, ?_⟩) (by assumption) ?_
              rotate_left
              · (intro w hSw; (try dsimp only at hSw); (first | (go_simp; done) | (go_simp; with_reducible rfl)))
              simp only [Act.put, List.getElem_toArray, List.getElem_cons_succ, List.getElem_cons_zero, List.setIfInBounds_toArray, List.set_cons_zero, List.set_cons_succ]
              refine wpAnyH_take (i := 1) (oi := _) (v := ?_) rfl (by kernel_rfl) (by kernel_rfl) (by kernel_rfl) (fun _ _ _ h => h) (Or.inl ⟨by rfl, ?_⟩) (by assumption) ?_
              rotate_left
              · (intro w hSw; (try dsimp only at hSw); (first | (go_simp; done) | (go_simp; with_reducible rfl)))
              simp only [Act.put, List.getElem_toArray, List.getElem_cons_succ, List.getElem_cons_zero, List.setIfInBounds_toArray, List.set_cons_zero, List.set_cons_succ]
              refine wpAnyH_take (i := 3) (oi := _) (v := ?_) rfl (by kernel_rfl) (by kernel_rfl) (by kernel_rfl) (fun _ _ _ h => h) (Or.inl ⟨by rfl, ?_⟩) (by assumption) ?_
              rotate_left
              · (intro w hSw; (try dsimp only at hSw); (first | (go_simp; done) | (go_simp; with_reducible rfl)))
              simp only [Act.put, List.getElem_toArray, List.getElem_cons_succ, List.getElem_cons_zero, List.setIfInBounds_toArray, List.set_cons_zero, List.set_cons_succ]
              refine wpAnyH_take (i := 4) (oi := _) (v := ?_) rfl (by kernel_rfl) (by kernel_rfl) (by kernel_rfl) (fun _ _ _ h => h) (Or.inl ⟨by rfl, ?_⟩) (by assumption) ?_
              rotate_left
              · (intro w hSw; (try dsimp only at hSw); (first | (go_simp; done) | (go_simp; with_reducible rfl)))
              simp only [Act.put, List.getElem_toArray, List.getElem_cons_succ, List.getElem_cons_zero, List.setIfInBounds_toArray, List.set_cons_zero, List.set_cons_succ]
              refine wpAnyH_ready (rs := [2]) (by kernel_rfl) (by simp) ?_
              refine AllReadyH.cons rfl (fun K hK => ?_) AllReadyH.nil
              go_simp
              have hW9 := hHeld.1.size
              refine (HOWN.out _ _ (HV.out.below hHeld.1.below) hl1 (by omega)).mono ?_
              rintro e w3 ⟨v3, rfl, ho, hb⟩
              have hS := keep2 hHeld hb
              have HO3 := Lib.hid (owns_lower ho (Nat.succ_le_of_lt hW9))
              clear hb hHeld ho hW9
              go_wp2_with fail
              refine hK.out _ _ (hS) (fun hHeld => ?_)
              clear hK K
              refine wpAnyH_ready (rs := [5]) (by kernel_rfl) (by simp) ?_
              refine AllReadyH.cons rfl (fun K hK => ?_) AllReadyH.nil
              have hW9 := hHeld.1.size
              refine step_append_any (by rfl) _ _ _ (by rfl) (w.heap.size + 1) 3 i0 (.int .i64 0) 1 8 Try.underlying26 hi hz0 hz1 hz2 rfl (by decide) _ _ _ (by rfl) HO3.out ⟨b2, o2 + 1, none⟩ (ys.length - 1) (c2 - 1) ((ys.drop 1).map iv) ?e2 ?c1 (cells_list (fun i z hz => by rw [List.getElem?_drop] at hz; obtain ⟨b9, o9, e9, hl9, hc9⟩ := HL2.out _ z hz; cases e9; rw [show o2 + 1 + i = o2 + (1 + i) by omega]; exact (hHeld.1.below.cell (p := ⟨b2, o2 + (1 + i), none⟩) hl9).trans hc9)) ?c2 ?c3 ?c4 ?c5 ?_
              case e2 => rfl
              case c1 => simp
              case c2 => intro u hu; simp only [List.mem_map] at hu; obtain ⟨z, _, rfl⟩ := hu; rfl
              case c3 => unfold maxLen; omega
              case c4 => omega
              case c5 => exact Nat.succ_le_of_lt hW9
              intro v4 w4 hown' hgrow
              have hS := keep2_grown hHeld hgrow (fun b hb => (owns_block HO3.out b hb).1)
              have HO4 := Lib.hid (show w4.ownsRow (w.heap.size + 1) 3 1 v4 (xs ++ ys.drop 1).length ((xs ++ ys.drop 1).map iv) from by rw [List.length_append, List.length_drop, List.map_append]; exact hown')
              clear hgrow hown' hHeld hW9
              refine hK.out _ _ (hS) (fun hHeld => ?_)
              clear hK K
              refine wpAnyH_ready (rs := [6]) (by kernel_rfl) (by simp) ?_
              refine AllReadyH.cons rfl (fun K hK => ?_) AllReadyH.nil
              go_simp
              refine (HKY.out _ _ (owns_reads HO4.out (by simp only [List.length_append, List.length_drop]; unfold maxLen; omega)) HWJ.out).mono ?_
              rintro e w5 ⟨rfl, hb⟩
              have hS := keep2 hHeld hb
              have HO5 := Lib.hid (owns_below HO4.out hb)
              clear hb hHeld
              go_wp2_with fail
              refine hK.out _ _ (hS) (fun hHeld => ?_)
              clear hK K
              refine wpAnyH_take (i := 7) (oi := _) (v := ?_) rfl (by kernel_rfl) (by kernel_rfl) (by kernel_rfl) (fun _ _ _ h => h) (Or.inl ⟨by rfl, ?_⟩) (by assumption) ?_
              rotate_left
              · (intro w hSw; (try dsimp only at hSw); (first | (go_simp; done) | (go_simp; with_reducible rfl)))
              simp only [Act.put, List.getElem_toArray, List.getElem_cons_succ, List.getElem_cons_zero, List.setIfInBounds_toArray, List.set_cons_zero, List.set_cons_succ]
              refine wpAnyH_take (i := 8) (oi := _) (v := ?_) rfl (by kernel_rfl) (by kernel_rfl) (by kernel_rfl) (fun _ _ _ h => h) (Or.inl ⟨by rfl, ?_⟩) (by assumption) ?_
              rotate_left
              · (intro w hSw; (try dsimp only at hSw); (first | (go_simp; done) | (go_simp; with_reducible rfl)))
              simp only [Act.put, List.getElem_toArray, List.getElem_cons_succ, List.getElem_cons_zero, List.setIfInBounds_toArray, List.set_cons_zero, List.set_cons_succ]
              refine wpAnyH_take (i := 9) (oi := _) (v := ?_) rfl (by kernel_rfl) (by kernel_rfl) (by kernel_rfl) (fun _ _ _ h => h) (Or.inl ⟨by rfl, ?_⟩) (by assumption) ?_
              rotate_left
              · (intro w hSw; (try dsimp only at hSw); (first | (go_simp; done) | (go_simp; with_reducible rfl)))
              simp only [Act.put, List.getElem_toArray, List.getElem_cons_succ, List.getElem_cons_zero, List.setIfInBounds_toArray, List.set_cons_zero, List.set_cons_succ]
              refine wpAnyH_take (i := 10) (oi := _) (v := ?_) rfl (by kernel_rfl) (by kernel_rfl) (by kernel_rfl) (fun _ _ _ h => h) (Or.inl ⟨by rfl, ?_⟩) (by assumption) ?_
              rotate_left
              · (intro w hSw; (try dsimp only at hSw); (first | (go_simp; done) | (go_simp; with_reducible rfl)))
              simp only [Act.put, List.getElem_toArray, List.getElem_cons_succ, List.getElem_cons_zero, List.setIfInBounds_toArray, List.set_cons_zero, List.set_cons_succ]
              refine wpAnyH_done (by kernel_rfl) ?_ _
              refine NoPanic.normal ?_
              have HZ9 := Lib.hid hHeld.1
              clear hHeld
              go_wp2_with fail
              go_ret2
              exact owns_R (zs := xs ++ ys.drop 1) (b := true) HR.out (owns_out HZ9.out HO5.out)
          · have HR := Lib.hid (joinR_no (n := n) (g := g) (xs := xs) (ys := ys) (fun h => hfit h.2.2.2))
            have HWJ := Lib.hid (show walkD n g (xs ++ ys.drop 1) = false from by
              cases h : walkD n g (xs ++ ys.drop 1)
              · rfl
              · exact absurd ((join_walk HWX.out HWY.out HJ.out).1 ((walkD_iff n g (xs ++ ys.drop 1)).1 h)) hfit)
            by_cases hc1 : c2 = 1
            · go_wp2_with fail
              refine wp_region_noPanic ?_
              refine wp_region_held_drew (S := fun w' => Boxed w.heap.size n g w w' ∧ w'.cell? ⟨w.heap.size, 0, none⟩ = some (.int .i64 n) ∧ w'.cell? ⟨w.heap.size, 1, none⟩ = some (.bool g)) (by kernel_rfl) (keep2_new HZ.out) (fun hHeld => ?_)
              refine wpAnyH_take (i := 0) (oi := _) (v := ?_) rfl (by kernel_rfl) (by kernel_rfl) (by kernel_rfl) (fun _ _ _ h => h) (Or.inl ⟨by rfl, ?_⟩) (by assumption) ?_
              rotate_left
              · (intro w hSw; (try dsimp only at hSw); (first | (go_simp; done) | (go_simp; with_reducible rfl)))
              simp only [Act.put, List.getElem_toArray, List.getElem_cons_succ, List.getElem_cons_zero, List.setIfInBounds_toArray, List.set_cons_zero, List.set_cons_succ]
              refine wpAnyH_take (i := 1) (oi := _) (v := ?_) rfl (by kernel_rfl) (by kernel_rfl) (by kernel_rfl) (fun _ _ _ h => h) (Or.inl ⟨by rfl, ?_⟩) (by assumption) ?_
              rotate_left
              · (intro w hSw; (try dsimp only at hSw); (first | (go_simp; done) | (go_simp; with_reducible rfl)))
              simp only [Act.put, List.getElem_toArray, List.getElem_cons_succ, List.getElem_cons_zero, List.setIfInBounds_toArray, List.set_cons_zero, List.set_cons_succ]
              refine wpAnyH_take (i := 3) (oi := _) (v := ?_) rfl (by kernel_rfl) (by kernel_rfl) (by kernel_rfl) (fun _ _ _ h => h) (Or.inl ⟨by rfl, ?_⟩) (by assumption) ?_
              rotate_left
              · (intro w hSw; (try dsimp only at hSw); (first | (go_simp; done) | (go_simp; with_reducible rfl)))
              simp only [Act.put, List.getElem_toArray, List.getElem_cons_succ, List.getElem_cons_zero, List.setIfInBounds_toArray, List.set_cons_zero, List.set_cons_succ]
              refine wpAnyH_take (i := 4) (oi := _) (v := ?_) rfl (by kernel_rfl) (by kernel_rfl) (by kernel_rfl) (fun _ _ _ h => h) (Or.inl ⟨by rfl, ?_⟩) (by assumption) ?_
              rotate_left
              · (intro w hSw; (try dsimp only at hSw); (first | (go_simp; done) | (go_simp; with_reducible rfl)))
              simp only [Act.put, List.getElem_toArray, List.getElem_cons_succ, List.getElem_cons_zero, List.setIfInBounds_toArray, List.set_cons_zero, List.set_cons_succ]
              refine wpAnyH_ready (rs := [2]) (by kernel_rfl) (by simp) ?_
              refine AllReadyH.cons rfl (fun K hK => ?_) AllReadyH.nil
              go_simp
              have hW9 := hHeld.1.size
              refine (HOWN.out _ _ (HV.out.below hHeld.1.below) hl1 (by omega)).mono ?_
              rintro e w3 ⟨v3, rfl, ho, hb⟩
              have hS := keep2 hHeld hb
              have HO3 := Lib.hid (owns_lower ho (Nat.succ_le_of_lt hW9))
              clear hb hHeld ho hW9
              go_wp2_with fail
              refine hK.out _ _ (hS) (fun hHeld => ?_)
              clear hK K
              refine wpAnyH_ready (rs := [5]) (by kernel_rfl) (by simp) ?_
              refine AllReadyH.cons rfl (fun K hK => ?_) AllReadyH.nil
              have hW9 := hHeld.1.size
              refine step_append_any (by rfl) _ _ _ (by rfl) (w.heap.size + 1) 3 i0 (.int .i64 0) 1 8 Try.underlying26 hi hz0 hz1 hz2 rfl (by decide) _ _ _ (by rfl) HO3.out ⟨b2, o2, none⟩ (ys.length - 1) 0 ((ys.drop 1).map iv) ?e2 ?c1 (fun j u hj => by rw [List.drop_eq_nil_of_le (by omega)] at hj; simp at hj) ?c2 ?c3 ?c4 ?c5 ?_
              case e2 => rfl
              case c1 => simp
              case c2 => intro u hu; simp only [List.mem_map] at hu; obtain ⟨z, _, rfl⟩ := hu; rfl
              case c3 => unfold maxLen; omega
              case c4 => omega
              case c5 => exact Nat.succ_le_of_lt hW9
              intro v4 w4 hown' hgrow
              have hS := keep2_grown hHeld hgrow (fun b hb => (owns_block HO3.out b hb).1)
              have HO4 := Lib.hid (show w4.ownsRow (w.heap.size + 1) 3 1 v4 (xs ++ ys.drop 1).length ((xs ++ ys.drop 1).map iv) from by rw [List.length_append, List.length_drop, List.map_append]; exact hown')
              clear hgrow hown' hHeld hW9
              refine hK.out _ _ (hS) (fun hHeld => ?_)
              clear hK K
              refine wpAnyH_ready (rs := [6]) (by kernel_rfl) (by simp) ?_
              refine AllReadyH.cons rfl (fun K hK => ?_) AllReadyH.nil
              go_simp
              have hW9 := hHeld.1.size
              refine (HKN.out _ _ (owns_reads HO4.out (by simp only [List.length_append, List.length_drop]; unfold maxLen; omega)) HWJ.out).mono ?_
              rintro e w5 ⟨v5, rfl, ho, hb⟩
              have hS := keep2 hHeld hb
              have HO5 := Lib.hid (owns_lower ho (Nat.succ_le_of_lt hW9))
              clear hb hHeld ho hW9
              go_wp2_with fail
              refine hK.out _ _ (hS) (fun hHeld => ?_)
              clear hK K
              refine wpAnyH_take (i := 7) (oi := _) (v := ?_) rfl (by kernel_rfl) (by kernel_rfl) (by kernel_rfl) (fun _ _ _ h => h) (Or.inl ⟨by rfl, ?_⟩) (by assumption) ?_
              rotate_left
              · (intro w hSw; (try dsimp only at hSw); (first | (go_simp; done) | (go_simp; with_reducible rfl)))
              simp only [Act.put, List.getElem_toArray, List.getElem_cons_succ, List.getElem_cons_zero, List.setIfInBounds_toArray, List.set_cons_zero, List.set_cons_succ]
              refine wpAnyH_take (i := 8) (oi := _) (v := ?_) rfl (by kernel_rfl) (by kernel_rfl) (by kernel_rfl) (fun _ _ _ h => h) (Or.inl ⟨by rfl, ?_⟩) (by assumption) ?_
              rotate_left
              · (intro w hSw; (try dsimp only at hSw); (first | (go_simp; done) | (go_simp; with_reducible rfl)))
              simp only [Act.put, List.getElem_toArray, List.getElem_cons_succ, List.getElem_cons_zero, List.setIfInBounds_toArray, List.set_cons_zero, List.set_cons_succ]
              refine wpAnyH_take (i := 9) (oi := _) (v := ?_) rfl (by kernel_rfl) (by kernel_rfl) (by kernel_rfl) (fun _ _ _ h => h) (Or.inl ⟨by rfl, ?_⟩) (by assumption) ?_
              rotate_left
              · (intro w hSw; (try dsimp only at hSw); (first | (go_simp; done) | (go_simp; with_reducible rfl)))
              simp only [Act.put, List.getElem_toArray, List.getElem_cons_succ, List.getElem_cons_zero, List.setIfInBounds_toArray, List.set_cons_zero, List.set_cons_succ]
              refine wpAnyH_take (i := 10) (oi := _) (v := ?_) rfl (by kernel_rfl) (by kernel_rfl) (by kernel_rfl) (fun _ _ _ h => h) (Or.inl ⟨by rfl, ?_⟩) (by assumption) ?_
              rotate_left
              · (intro w hSw; (try dsimp only at hSw); (first | (go_simp; done) | (go_simp; with_reducible rfl)))
              simp only [Act.put, List.getElem_toArray, List.getElem_cons_succ, List.getElem_cons_zero, List.setIfInBounds_toArray, List.set_cons_zero, List.set_cons_succ]
              refine wpAnyH_done (by kernel_rfl) ?_ _
              refine NoPanic.normal ?_
              have HZ9 := Lib.hid hHeld.1
              clear hHeld
              go_wp2_with fail
              go_ret2
              exact owns_R (zs := []) (b := false) HR.out (owns_out HZ9.out HO5.out)
            · go_wp2_with fail
              refine wp_region_noPanic ?_
              refine wp_region_held_drew (S := fun w' => Boxed w.heap.size n g w w' ∧ w'.cell? ⟨w.heap.size, 0, none⟩ = some (.int .i64 n) ∧ w'.cell? ⟨w.heap.size, 1, none⟩ = some (.bool g)) (by kernel_rfl) (keep2_new HZ.out) (fun hHeld => ?_)
              refine wpAnyH_take (i := 0) (oi := _) (v := ?_) rfl (by kernel_rfl) (by kernel_rfl) (by kernel_rfl) (fun _ _ _ h => h) (Or.inl ⟨by rfl, ?_⟩) (by assumption) ?_
              rotate_left
              · (intro w hSw; (try dsimp only at hSw); (first | (go_simp; done) | (go_simp; with_reducible rfl)))
              simp only [Act.put, List.getElem_toArray, List.getElem_cons_succ, List.getElem_cons_zero, List.setIfInBounds_toArray, List.set_cons_zero, List.set_cons_succ]
              refine wpAnyH_take (i := 1) (oi := _) (v := ?_) rfl (by kernel_rfl) (by kernel_rfl) (by kernel_rfl) (fun _ _ _ h => h) (Or.inl ⟨by rfl, ?_⟩) (by assumption) ?_
              rotate_left
              · (intro w hSw; (try dsimp only at hSw); (first | (go_simp; done) | (go_simp; with_reducible rfl)))
              simp only [Act.put, List.getElem_toArray, List.getElem_cons_succ, List.getElem_cons_zero, List.setIfInBounds_toArray, List.set_cons_zero, List.set_cons_succ]
              refine wpAnyH_take (i := 3) (oi := _) (v := ?_) rfl (by kernel_rfl) (by kernel_rfl) (by kernel_rfl) (fun _ _ _ h => h) (Or.inl ⟨by rfl, ?_⟩) (by assumption) ?_
              rotate_left
              · (intro w hSw; (try dsimp only at hSw); (first | (go_simp; done) | (go_simp; with_reducible rfl)))
              simp only [Act.put, List.getElem_toArray, List.getElem_cons_succ, List.getElem_cons_zero, List.setIfInBounds_toArray, List.set_cons_zero, List.set_cons_succ]
              refine wpAnyH_take (i := 4) (oi := _) (v := ?_) rfl (by kernel_rfl) (by kernel_rfl) (by kernel_rfl) (fun _ _ _ h => h) (Or.inl ⟨by rfl, ?_⟩) (by assumption) ?_
              rotate_left
              · (intro w hSw; (try dsimp only at hSw); (first | (go_simp; done) | (go_simp; with_reducible rfl)))
              simp only [Act.put, List.getElem_toArray, List.getElem_cons_succ, List.getElem_cons_zero, List.setIfInBounds_toArray, List.set_cons_zero, List.set_cons_succ]
              refine wpAnyH_ready (rs := [2]) (by kernel_rfl) (by simp) ?_
              refine AllReadyH.cons rfl (fun K hK => ?_) AllReadyH.nil
              go_simp
              have hW9 := hHeld.1.size
              refine (HOWN.out _ _ (HV.out.below hHeld.1.below) hl1 (by omega)).mono ?_
              rintro e w3 ⟨v3, rfl, ho, hb⟩
              have hS := keep2 hHeld hb
              have HO3 := Lib.hid (owns_lower ho (Nat.succ_le_of_lt hW9))
              clear hb hHeld ho hW9
              go_wp2_with fail
              refine hK.out _ _ (hS) (fun hHeld => ?_)
              clear hK K
              refine wpAnyH_ready (rs := [5]) (by kernel_rfl) (by simp) ?_
              refine AllReadyH.cons rfl (fun K hK => ?_) AllReadyH.nil
              have hW9 := hHeld.1.size
              refine step_append_any (by rfl) _ _ _ (by rfl) (w.heap.size + 1) 3 i0 (.int .i64 0) 1 8 Try.underlying26 hi hz0 hz1 hz2 rfl (by decide) _ _ _ (by rfl) HO3.out ⟨b2, o2 + 1, none⟩ (ys.length - 1) (c2 - 1) ((ys.drop 1).map iv) ?e2 ?c1 (cells_list (fun i z hz => by rw [List.getElem?_drop] at hz; obtain ⟨b9, o9, e9, hl9, hc9⟩ := HL2.out _ z hz; cases e9; rw [show o2 + 1 + i = o2 + (1 + i) by omega]; exact (hHeld.1.below.cell (p := ⟨b2, o2 + (1 + i), none⟩) hl9).trans hc9)) ?c2 ?c3 ?c4 ?c5 ?_
              case e2 => rfl
              case c1 => simp
              case c2 => intro u hu; simp only [List.mem_map] at hu; obtain ⟨z, _, rfl⟩ := hu; rfl
              case c3 => unfold maxLen; omega
              case c4 => omega
              case c5 => exact Nat.succ_le_of_lt hW9
              intro v4 w4 hown' hgrow
              have hS := keep2_grown hHeld hgrow (fun b hb => (owns_block HO3.out b hb).1)
              have HO4 := Lib.hid (show w4.ownsRow (w.heap.size + 1) 3 1 v4 (xs ++ ys.drop 1).length ((xs ++ ys.drop 1).map iv) from by rw [List.length_append, List.length_drop, List.map_append]; exact hown')
              clear hgrow hown' hHeld hW9
              refine hK.out _ _ (hS) (fun hHeld => ?_)
              clear hK K
              refine wpAnyH_ready (rs := [6]) (by kernel_rfl) (by simp) ?_
              refine AllReadyH.cons rfl (fun K hK => ?_) AllReadyH.nil
              go_simp
              have hW9 := hHeld.1.size
              refine (HKN.out _ _ (owns_reads HO4.out (by simp only [List.length_append, List.length_drop]; unfold maxLen; omega)) HWJ.out).mono ?_
              rintro e w5 ⟨v5, rfl, ho, hb⟩
              have hS := keep2 hHeld hb
              have HO5 := Lib.hid (owns_lower ho (Nat.succ_le_of_lt hW9))
              clear hb hHeld ho hW9
              go_wp2_with fail
              refine hK.out _ _ (hS) (fun hHeld => ?_)
              clear hK K
              refine wpAnyH_take (i := 7) (oi := _) (v := ?_) rfl (by kernel_rfl) (by kernel_rfl) (by kernel_rfl) (fun _ _ _ h => h) (Or.inl ⟨by rfl, ?_⟩) (by assumption) ?_
              rotate_left
              · (intro w hSw; (try dsimp only at hSw); (first | (go_simp; done) | (go_simp; with_reducible rfl)))
              simp only [Act.put, List.getElem_toArray, List.getElem_cons_succ, List.getElem_cons_zero, List.setIfInBounds_toArray, List.set_cons_zero, List.set_cons_succ]
              refine wpAnyH_take (i := 8) (oi := _) (v := ?_) rfl (by kernel_rfl) (by kernel_rfl) (by kernel_rfl) (fun _ _ _ h => h) (Or.inl ⟨by rfl, ?_⟩) (by assumption) ?_
              rotate_left
              · (intro w hSw; (try dsimp only at hSw); (first | (go_simp; done) | (go_simp; with_reducible rfl)))
              simp only [Act.put, List.getElem_toArray, List.getElem_cons_succ, List.getElem_cons_zero, List.setIfInBounds_toArray, List.set_cons_zero, List.set_cons_succ]
              refine wpAnyH_take (i := 9) (oi := _) (v := ?_) rfl (by kernel_rfl) (by kernel_rfl) (by kernel_rfl) (fun _ _ _ h => h) (Or.inl ⟨by rfl, ?_⟩) (by assumption) ?_
              rotate_left
              · (intro w hSw; (try dsimp only at hSw); (first | (go_simp; done) | (go_simp; with_reducible rfl)))
              simp only [Act.put, List.getElem_toArray, List.getElem_cons_succ, List.getElem_cons_zero, List.setIfInBounds_toArray, List.set_cons_zero, List.set_cons_succ]
              refine wpAnyH_take (i := 10) (oi := _) (v := ?_) rfl (by kernel_rfl) (by kernel_rfl) (by kernel_rfl) (fun _ _ _ h => h) (Or.inl ⟨by rfl, ?_⟩) (by assumption) ?_
              rotate_left
              · (intro w hSw; (try dsimp only at hSw); (first | (go_simp; done) | (go_simp; with_reducible rfl)))
              simp only [Act.put, List.getElem_toArray, List.getElem_cons_succ, List.getElem_cons_zero, List.setIfInBounds_toArray, List.set_cons_zero, List.set_cons_succ]
              refine wpAnyH_done (by kernel_rfl) ?_ _
              refine NoPanic.normal ?_
              have HZ9 := Lib.hid hHeld.1
              clear hHeld
              go_wp2_with fail
              go_ret2
              exact owns_R (zs := []) (b := false) HR.out (owns_out HZ9.out HO5.out)
      · have hqd : ¬ z = x := fun h => hq h.symm
        have HR := Lib.hid (joinR_no (n := n) (g := g) (xs := xs) (ys := ys) (fun h => by have h3 := h.2.2.1; rw [HXK.out, HZK.out] at h3; exact hq (Option.some.inj h3)))
        go_region_held3 (fun w' => Boxed w.heap.size n g w w' ∧ w'.cell? ⟨w.heap.size, 0, none⟩ = some (.int .i64 n) ∧ w'.cell? ⟨w.heap.size, 1, none⟩ = some (.bool g) ∧ w'.cell? ⟨b, o + (xs.length - 1), none⟩ = some (.int .i64 x) ∧ w'.cell? ⟨b2, o2, none⟩ = some (.int .i64 z)) (first | exact hS | exact keepJ_new HX.out hcx hcz) (first | (go_at_call 45; (first | (refine (HC1.out _ _ ?_).mono ?_; exact readsJ (by assumption) HV.out rfl) | (refine (HC2.out _ _ ?_).mono ?_; exact readsJ (by assumption) HU.out rfl)); rintro e w2 ⟨rfl, hb⟩; have hS : KeepJ w.heap.size n g b (o + (xs.length - 1)) (.int .i64 x) b2 o2 (.int .i64 z) w w2 := keepJ (by assumption) hbl hbl2 hb; clear hb))
        all_goals
          have HZ := Lib.hid hS.1
          clear hS hcx hcz
          have HO := Lib.hid (fun (w2 : World) (h : Boxed w.heap.size n g w w2) => made_at w2 (w.heap.size + 1) w2.heap.size rfl (Nat.succ_le_of_lt h.size))
          go_wp2_with fail
          go_ret2
          exact owns_R (zs := []) (b := false) HR.out (owns_out (HZ.out.next (below_new _ _)) (HO.out _ HZ.out))
end Go.Proofs.Ytiokgnabiidlbaa
