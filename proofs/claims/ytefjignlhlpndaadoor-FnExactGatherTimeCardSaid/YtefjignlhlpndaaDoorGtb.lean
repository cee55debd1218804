/-
  What is proved: the contracts of GatherTime, the model's and the program's. Conditions: a list that reads as walkers; the listed variable as it was laid.
-/
import Derived.Test.YtefjignlhlpndaaDoorGta
import Derived.Test.YtefjignlhlpndaaDoorNed
import Derived.Test.YtefjignlhlpndaaDoorMei
namespace Go.Proofs.YtefjignlhlpndaaDoor
open Go.RowKit
set_option linter.unusedVariables false
set_option linter.unusedSimpArgs false

/-- what GatherTime answers -/
def gtimeR (n : Int) (g : Bool) (ks : List Wk) : Int × Bool := if 2 ≤ ks.length ∧ ks.length ≤ 4 then ((gathR n g ks).1.1, (gathR n g ks).2) else (0, false)
theorem gtimeR_no {n : Int} {g : Bool} {ks : List Wk} (h : ¬ (2 ≤ ks.length ∧ ks.length ≤ 4)) : gtimeR n g ks = (0, false) := if_neg h
theorem gtimeR_bad {n : Int} {g : Bool} {ks : List Wk} (h : ¬ (wksB n g ks = true ∧ 0 ≤ meetT (walksL n g ks ks.length))) : gtimeR n g ks = (0, false) := by
  unfold gtimeR
  rw [gathR_no h]
  split <;> rfl
theorem gtimeR_yes {n : Int} {g : Bool} {ks : List Wk} (h2 : 2 ≤ ks.length ∧ ks.length ≤ 4) (h : wksB n g ks = true ∧ 0 ≤ meetT (walksL n g ks ks.length)) : gtimeR n g ks = (meetT (walksL n g ks ks.length), true) := by
  unfold gtimeR
  rw [if_pos h2, gathR_yes h]
theorem ret_RG {a : Int} {b : Bool} {R : Int × Bool} (h : R = (a, b)) : Ending.returned (.tuple #[.int .i64 a, .bool b]) = .returned (.tuple #[.int .i64 R.1, .bool R.2]) := by rw [h]
theorem one_newsG {x : Value} {t : TypeId} (wc : World) (k : Nat) (hk : wc.heap.size = k) :
    ∀ (j : Nat) u, [x][j]? = some u → (wc.alloc (.cells #[x] t)).cell? ((⟨k, 0, none⟩ : Addr).add j) = some u := by
  subst hk
  intro j u hj
  match j, hj with
  | 0, hj =>
    cases hj
    have e : (⟨wc.heap.size, 0, none⟩ : Addr).add 0 = ⟨wc.heap.size, 0, none⟩ := rfl
    rw [e, cell_new]
    rfl
def GtRel (n : Int) (g : Bool) (ks : List Wk) (base : Nat) (w : World) (r1 r2 v i : Value) (wr : World) : Prop :=
  r1 = .int .i64 0 ∧ r2 = .bool false ∧ Boxed base n g w wr ∧ ∃ j : Nat, j ≤ ks.length ∧ i = .int .i64 j ∧ (∃ us, OwnT (base + 1) wr.heap.size v us (walksL n g ks j) wr) ∧ ∀ (q : Nat) k, q < j → ks[q]? = some k → wkB n g k = true
set_option maxHeartbeats 3200000 in
set_option maxRecDepth 20000 in
theorem spec_GatherTime (n : Int) (g : Bool) (v : Value) (ks : List Wk) (w : World) (hv : ReadsW w v ks) :
    Calls Tryd.prog 16 #[rd n g, v] w fun e w' => e = .returned (.tuple #[.int .i64 (gtimeR n g ks).1, .bool (gtimeR n g ks).2]) ∧ Below w.heap.size w w' := by
  obtain ⟨i1, ji, jz0, jz1, jz2⟩ := info_parts infoTab
  have HIY := Lib.hid (fun w (h : 2 ≤ (ks.length : Int) ∧ (ks.length : Int) ≤ 4) => (show Calls Tryd.prog 30 #[.int .i64 (ks.length : Int), .int .i64 2, .int .i64 4] w fun e w' => e = .returned (.bool true) ∧ w = w' from (l1In_any _ 2 4 w).mono fun e w' ⟨he, hw⟩ => ⟨by rw [he, decide_eq_true h.1, decide_eq_true h.2]; rfl, hw⟩))
  have HIN := Lib.hid (fun w (h : ¬ (2 ≤ (ks.length : Int) ∧ (ks.length : Int) ≤ 4)) => (show Calls Tryd.prog 30 #[.int .i64 (ks.length : Int), .int .i64 2, .int .i64 4] w fun e w' => e = .returned (.bool false) ∧ w = w' from (l1In_any _ 2 4 w).mono fun e w' ⟨he, hw⟩ => ⟨by
    rw [he]
    congr 2
    by_cases h1 : 2 ≤ (ks.length : Int)
    · rw [decide_eq_true h1, decide_eq_false (fun h2 => h ⟨h1, h2⟩)]; rfl
    · rw [decide_eq_false h1]; rfl, hw⟩))
  have HWY := Lib.hid (fun k m w hv (h : wkB n g k = true) => show Calls Tryd.prog 31 #[rd n g, wkv k m] w fun e w' => e = .returned (.bool true) ∧ Below w.heap.size w w' from by have h2 := l4Walker_any n g k m w hv; rw [h] at h2; exact h2)
  have HWN := Lib.hid (fun k m w hv (h : wkB n g k = false) => show Calls Tryd.prog 31 #[rd n g, wkv k m] w fun e w' => e = .returned (.bool false) ∧ Below w.heap.size w w' from by have h2 := l4Walker_any n g k m w hv; rw [h] at h2; exact h2)
  have HWK := Lib.hid (fun k m w hv hk => l4Walk_nat n g k m 60 w hv hk (by omega))
  have HME := Lib.hid (fun v wss w hv hne hw => l4Meet_any v wss w hv hne hw)
  have HV := Lib.hid hv
  have HX := Lib.hid (Boxed.first w n g 31)
  have HT := Lib.hid (ownT_new (w.alloc (.cells #[.int .i64 n, .bool g] 31)) (w.heap.size + 1) (w.heap.size + 1) (by simp) (Nat.le_refl _))
  obtain ⟨va, vc, rfl, hvc, hvm, _⟩ := hv
  unfold maxLen at hvm
  obtain ⟨R, hRR⟩ : ∃ R, R = gtimeR n g ks := ⟨_, rfl⟩
  rw [← hRR]
  have HRR := Lib.hid hRR
  clear hRR
  unfold wkv rd at *
  by_cases hl : 2 ≤ ks.length ∧ ks.length ≤ 4
  · have HLI := Lib.hid (show 2 ≤ (ks.length : Int) ∧ (ks.length : Int) ≤ 4 by omega)
    have HL := Lib.hid hl
    have hl4 := hl.2
    clear hl
    go_enter Tryd.func16, Tryd.ntmps16
    go_wp2_with fail
    refine (HIY.out _ HLI.out).mono ?_
    rintro e w2 ⟨rfl, rfl⟩
    go_wp2_with fail
    go_loopw [4, 5, 6, 7] (fun r1 r2 z i wr => GtRel n g ks w.heap.size w r1 r2 z i wr) (fun _ _ _ i _ => ks.length - (intOf i).toNat)
    case atStart => exact ⟨rfl, rfl, HX.out.next (below_new _ _), 0, Nat.zero_le _, rfl, ⟨[], HT.out.lt⟩, fun q k hq => by omega⟩
    case round =>
      obtain ⟨rfl, rfl, hx, j, hj, rfl, ⟨us, ho⟩, hpre⟩ := hrel
      clear HX HT
      have HX := Lib.hid hx
      have HO := Lib.hid ho
      have HP := Lib.hid hpre
      clear hx ho hpre
      by_cases hlt : j < ks.length
      · obtain ⟨k, hxk⟩ := get_some hlt
        obtain ⟨b, o, ma, mc, rfl, hbl, g0, g1, g2, g3, hr⟩ := walkers_in HV.out hxk
        have HRX := Lib.hid hr
        have HXK := Lib.hid hxk
        have HLT := Lib.hid hlt
        have G0 := Lib.hid g0
        have G1 := Lib.hid g1
        have G2 := Lib.hid g2
        have G3 := Lib.hid g3
        have hi0 : 0 ≤ (j : Int) := by omega
        have hi1 : (j : Int) < ks.length := by omega
        have hx0 := HX.out.c0
        have hx1 := HX.out.c1
        clear hxk hr g0 g1 g2 g3
        cases hwk : wkB n g k
        · have HWB := Lib.hid hwk
          clear hwk
          go_wp2_with fail
          refine wp_region_noPanic ?_
          clear hx0 hx1
          have HX := Lib.hid (HX.out.next (below_drewN _ 1))
          have HO := Lib.hid (HO.out.below (below_drewN _ 1))
          refine wp_region_held_drew (S := fun w' => Boxed w.heap.size n g w w' ∧ w'.cell? ⟨w.heap.size, 0, none⟩ = some (.int .i64 n) ∧ w'.cell? ⟨w.heap.size, 1, none⟩ = some (.bool g) ∧ w'.cell? ⟨b, o + j * 4, none⟩ = some (.int .i64 k.s) ∧ w'.cell? ⟨b, o + j * 4 + 1, none⟩ = some (.int .i64 k.f) ∧ w'.cell? ⟨b, o + j * 4 + 2, none⟩ = some (.int .i64 k.d) ∧ w'.cell? ⟨b, o + j * 4 + 3, none⟩ = some (.slice ma k.ms.length mc)) (by kernel_rfl) (⟨HX.out, HX.out.c0, HX.out.c1, (HX.out.below.cell (p := ⟨b, o + j * 4, none⟩) hbl).trans G0.out, (HX.out.below.cell (p := ⟨b, o + j * 4 + 1, none⟩) hbl).trans G1.out, (HX.out.below.cell (p := ⟨b, o + j * 4 + 2, none⟩) hbl).trans G2.out, (HX.out.below.cell (p := ⟨b, o + j * 4 + 3, none⟩) hbl).trans G3.out⟩) (fun hHeld => ?_)
          refine wpAnyH_take (i := 0) (oi := _) (v := ?_) rfl (by kernel_rfl) (by kernel_rfl) (by kernel_rfl) (fun _ _ _ h => h) (Or.inl ⟨by rfl, ?_⟩) (by assumption) ?_
          rotate_left
          · (intro w hSw; (try dsimp only at hSw); (first | (go_simp; done) | (go_simp; with_reducible rfl)))
          simp only [Act.put, List.getElem_toArray, List.getElem_cons_succ, List.getElem_cons_zero, List.setIfInBounds_toArray, List.set_cons_zero, List.set_cons_succ]
          refine wpAnyH_take (i := 1) (oi := _) (v := ?_) rfl (by kernel_rfl) (by kernel_rfl) (by kernel_rfl) (fun _ _ _ h => h) (Or.inl ⟨by rfl, ?_⟩) (by assumption) ?_
          rotate_left
          · (intro w hSw; (try dsimp only at hSw); (first | (go_simp; done) | (go_simp; with_reducible rfl)))
          simp only [Act.put, List.getElem_toArray, List.getElem_cons_succ, List.getElem_cons_zero, List.setIfInBounds_toArray, List.set_cons_zero, List.set_cons_succ]
          refine wpAnyH_take (i := 2) (oi := _) (v := ?_) rfl (by kernel_rfl) (by kernel_rfl) (by kernel_rfl) (fun _ _ _ h => h) (Or.inl ⟨by rfl, ?_⟩) (by assumption) ?_
          rotate_left
          · (intro w hSw; (try dsimp only at hSw); (first | (go_simp; done) | (go_simp; with_reducible rfl)))
          simp only [Act.put, List.getElem_toArray, List.getElem_cons_succ, List.getElem_cons_zero, List.setIfInBounds_toArray, List.set_cons_zero, List.set_cons_succ]
          refine wpAnyH_take (i := 3) (oi := _) (v := ?_) rfl (by kernel_rfl) (by kernel_rfl) (by kernel_rfl) (fun _ _ _ h => h) (Or.inl ⟨by rfl, ?_⟩) (by assumption) ?_
          rotate_left
          · (intro w hSw; (try dsimp only at hSw); (first | (go_simp; done) | (go_simp; with_reducible rfl)))
          simp only [Act.put, List.getElem_toArray, List.getElem_cons_succ, List.getElem_cons_zero, List.setIfInBounds_toArray, List.set_cons_zero, List.set_cons_succ]
          refine wpAnyH_take (i := 4) (oi := _) (v := ?_) rfl (by kernel_rfl) (by kernel_rfl) (by kernel_rfl) (fun _ _ _ h => h) (Or.inl ⟨by rfl, ?_⟩) (by assumption) ?_
          rotate_left
          · (intro w hSw; (try dsimp only at hSw); (first | (go_simp; done) | (go_simp; with_reducible rfl)))
          simp only [Act.put, List.getElem_toArray, List.getElem_cons_succ, List.getElem_cons_zero, List.setIfInBounds_toArray, List.set_cons_zero, List.set_cons_succ]
          refine wpAnyH_ready (rs := [5]) (by kernel_rfl) (by simp) ?_
          refine AllReadyH.cons rfl (fun K hK => ?_) AllReadyH.nil
          go_simp
          refine (HWN.out k _ _ (HRX.out.below HX.out.below) HWB.out).mono ?_
          rintro e w21 ⟨rfl, hb⟩
          have HX := Lib.hid (HX.out.next hb)
          have HO := Lib.hid (HO.out.below hb)
          clear hb
          clear hHeld
          try go_wp2_with fail
          refine hK.out _ _ (⟨HX.out, HX.out.c0, HX.out.c1, (HX.out.below.cell (p := ⟨b, o + j * 4, none⟩) hbl).trans G0.out, (HX.out.below.cell (p := ⟨b, o + j * 4 + 1, none⟩) hbl).trans G1.out, (HX.out.below.cell (p := ⟨b, o + j * 4 + 2, none⟩) hbl).trans G2.out, (HX.out.below.cell (p := ⟨b, o + j * 4 + 3, none⟩) hbl).trans G3.out⟩) (fun hHeld => ?_)
          clear hK K
          refine wpAnyH_take (i := 6) (oi := _) (v := ?_) rfl (by kernel_rfl) (by kernel_rfl) (by kernel_rfl) (fun _ _ _ h => h) (Or.inl ⟨by rfl, ?_⟩) (by assumption) ?_
          rotate_left
          · (intro w hSw; (try dsimp only at hSw); (first | (go_simp; done) | (go_simp; with_reducible rfl)))
          simp only [Act.put, List.getElem_toArray, List.getElem_cons_succ, List.getElem_cons_zero, List.setIfInBounds_toArray, List.set_cons_zero, List.set_cons_succ]
          refine wpAnyH_done (by kernel_rfl) ?_ _
          refine NoPanic.normal ?_
          clear hHeld
          have HR := Lib.hid (gtimeR_bad (n := n) (g := g) (ks := ks) (fun h => by have h9 := ((wksB_iff n g ks).1 h.1).2 j k HXK.out; rw [HWB.out] at h9; cases h9))
          go_wp2_with fail
          go_ret2
          exact ⟨ret_RG (HRR.out.trans HR.out), HX.out.below⟩
        · have HWB := Lib.hid hwk
          have HOK := Lib.hid ((wkB_iff n g k).1 hwk)
          clear hwk
          go_wp2_with fail
          refine wp_region_noPanic ?_
          clear hx0 hx1
          have HX := Lib.hid (HX.out.next (below_drewN _ 1))
          have HO := Lib.hid (HO.out.below (below_drewN _ 1))
          refine wp_region_held_drew (S := fun w' => Boxed w.heap.size n g w w' ∧ w'.cell? ⟨w.heap.size, 0, none⟩ = some (.int .i64 n) ∧ w'.cell? ⟨w.heap.size, 1, none⟩ = some (.bool g) ∧ w'.cell? ⟨b, o + j * 4, none⟩ = some (.int .i64 k.s) ∧ w'.cell? ⟨b, o + j * 4 + 1, none⟩ = some (.int .i64 k.f) ∧ w'.cell? ⟨b, o + j * 4 + 2, none⟩ = some (.int .i64 k.d) ∧ w'.cell? ⟨b, o + j * 4 + 3, none⟩ = some (.slice ma k.ms.length mc)) (by kernel_rfl) (⟨HX.out, HX.out.c0, HX.out.c1, (HX.out.below.cell (p := ⟨b, o + j * 4, none⟩) hbl).trans G0.out, (HX.out.below.cell (p := ⟨b, o + j * 4 + 1, none⟩) hbl).trans G1.out, (HX.out.below.cell (p := ⟨b, o + j * 4 + 2, none⟩) hbl).trans G2.out, (HX.out.below.cell (p := ⟨b, o + j * 4 + 3, none⟩) hbl).trans G3.out⟩) (fun hHeld => ?_)
          refine wpAnyH_take (i := 0) (oi := _) (v := ?_) rfl (by kernel_rfl) (by kernel_rfl) (by kernel_rfl) (fun _ _ _ h => h) (Or.inl ⟨by rfl, ?_⟩) (by assumption) ?_
          rotate_left
          · (intro w hSw; (try dsimp only at hSw); (first | (go_simp; done) | (go_simp; with_reducible rfl)))
          simp only [Act.put, List.getElem_toArray, List.getElem_cons_succ, List.getElem_cons_zero, List.setIfInBounds_toArray, List.set_cons_zero, List.set_cons_succ]
          refine wpAnyH_take (i := 1) (oi := _) (v := ?_) rfl (by kernel_rfl) (by kernel_rfl) (by kernel_rfl) (fun _ _ _ h => h) (Or.inl ⟨by rfl, ?_⟩) (by assumption) ?_
          rotate_left
          · (intro w hSw; (try dsimp only at hSw); (first | (go_simp; done) | (go_simp; with_reducible rfl)))
          simp only [Act.put, List.getElem_toArray, List.getElem_cons_succ, List.getElem_cons_zero, List.setIfInBounds_toArray, List.set_cons_zero, List.set_cons_succ]
          refine wpAnyH_take (i := 2) (oi := _) (v := ?_) rfl (by kernel_rfl) (by kernel_rfl) (by kernel_rfl) (fun _ _ _ h => h) (Or.inl ⟨by rfl, ?_⟩) (by assumption) ?_
          rotate_left
          · (intro w hSw; (try dsimp only at hSw); (first | (go_simp; done) | (go_simp; with_reducible rfl)))
          simp only [Act.put, List.getElem_toArray, List.getElem_cons_succ, List.getElem_cons_zero, List.setIfInBounds_toArray, List.set_cons_zero, List.set_cons_succ]
          refine wpAnyH_take (i := 3) (oi := _) (v := ?_) rfl (by kernel_rfl) (by kernel_rfl) (by kernel_rfl) (fun _ _ _ h => h) (Or.inl ⟨by rfl, ?_⟩) (by assumption) ?_
          rotate_left
          · (intro w hSw; (try dsimp only at hSw); (first | (go_simp; done) | (go_simp; with_reducible rfl)))
          simp only [Act.put, List.getElem_toArray, List.getElem_cons_succ, List.getElem_cons_zero, List.setIfInBounds_toArray, List.set_cons_zero, List.set_cons_succ]
          refine wpAnyH_take (i := 4) (oi := _) (v := ?_) rfl (by kernel_rfl) (by kernel_rfl) (by kernel_rfl) (fun _ _ _ h => h) (Or.inl ⟨by rfl, ?_⟩) (by assumption) ?_
          rotate_left
          · (intro w hSw; (try dsimp only at hSw); (first | (go_simp; done) | (go_simp; with_reducible rfl)))
          simp only [Act.put, List.getElem_toArray, List.getElem_cons_succ, List.getElem_cons_zero, List.setIfInBounds_toArray, List.set_cons_zero, List.set_cons_succ]
          refine wpAnyH_ready (rs := [5]) (by kernel_rfl) (by simp) ?_
          refine AllReadyH.cons rfl (fun K hK => ?_) AllReadyH.nil
          go_simp
          refine (HWY.out k _ _ (HRX.out.below HX.out.below) HWB.out).mono ?_
          rintro e w21 ⟨rfl, hb⟩
          have HX := Lib.hid (HX.out.next hb)
          have HO := Lib.hid (HO.out.below hb)
          clear hb
          clear hHeld
          try go_wp2_with fail
          refine hK.out _ _ (⟨HX.out, HX.out.c0, HX.out.c1, (HX.out.below.cell (p := ⟨b, o + j * 4, none⟩) hbl).trans G0.out, (HX.out.below.cell (p := ⟨b, o + j * 4 + 1, none⟩) hbl).trans G1.out, (HX.out.below.cell (p := ⟨b, o + j * 4 + 2, none⟩) hbl).trans G2.out, (HX.out.below.cell (p := ⟨b, o + j * 4 + 3, none⟩) hbl).trans G3.out⟩) (fun hHeld => ?_)
          clear hK K
          refine wpAnyH_take (i := 6) (oi := _) (v := ?_) rfl (by kernel_rfl) (by kernel_rfl) (by kernel_rfl) (fun _ _ _ h => h) (Or.inl ⟨by rfl, ?_⟩) (by assumption) ?_
          rotate_left
          · (intro w hSw; (try dsimp only at hSw); (first | (go_simp; done) | (go_simp; with_reducible rfl)))
          simp only [Act.put, List.getElem_toArray, List.getElem_cons_succ, List.getElem_cons_zero, List.setIfInBounds_toArray, List.set_cons_zero, List.set_cons_succ]
          refine wpAnyH_done (by kernel_rfl) ?_ _
          refine NoPanic.normal ?_
          clear hHeld
          have hx0 := HX.out.c0
          have hx1 := HX.out.c1
          go_wp2_with fail
          clear hx0 hx1
          refine wp_region_noPanic ?_
          have HX := Lib.hid (HX.out.next (below_drewN _ 1))
          have HO := Lib.hid (HO.out.below (below_drewN _ 1))
          refine wp_region_held_drew (S := fun w' => Boxed w.heap.size n g w w' ∧ w'.cell? ⟨w.heap.size, 0, none⟩ = some (.int .i64 n) ∧ w'.cell? ⟨w.heap.size, 1, none⟩ = some (.bool g) ∧ w'.cell? ⟨b, o + j * 4, none⟩ = some (.int .i64 k.s) ∧ w'.cell? ⟨b, o + j * 4 + 1, none⟩ = some (.int .i64 k.f) ∧ w'.cell? ⟨b, o + j * 4 + 2, none⟩ = some (.int .i64 k.d) ∧ w'.cell? ⟨b, o + j * 4 + 3, none⟩ = some (.slice ma k.ms.length mc)) (by kernel_rfl) (⟨HX.out, HX.out.c0, HX.out.c1, (HX.out.below.cell (p := ⟨b, o + j * 4, none⟩) hbl).trans G0.out, (HX.out.below.cell (p := ⟨b, o + j * 4 + 1, none⟩) hbl).trans G1.out, (HX.out.below.cell (p := ⟨b, o + j * 4 + 2, none⟩) hbl).trans G2.out, (HX.out.below.cell (p := ⟨b, o + j * 4 + 3, none⟩) hbl).trans G3.out⟩) (fun hHeld => ?_)
          refine wpAnyH_take (i := 0) (oi := _) (v := ?_) rfl (by kernel_rfl) (by kernel_rfl) (by kernel_rfl) (fun _ _ _ h => h) (Or.inl ⟨by rfl, ?_⟩) (by assumption) ?_
          rotate_left
          · (intro w hSw; (try dsimp only at hSw); (first | (go_simp; done) | (go_simp; with_reducible rfl)))
          simp only [Act.put, List.getElem_toArray, List.getElem_cons_succ, List.getElem_cons_zero, List.setIfInBounds_toArray, List.set_cons_zero, List.set_cons_succ]
          refine wpAnyH_take (i := 1) (oi := _) (v := ?_) rfl (by kernel_rfl) (by kernel_rfl) (by kernel_rfl) (fun _ _ _ h => h) (Or.inl ⟨by rfl, ?_⟩) (by assumption) ?_
          rotate_left
          · (intro w hSw; (try dsimp only at hSw); (first | (go_simp; done) | (go_simp; with_reducible rfl)))
          simp only [Act.put, List.getElem_toArray, List.getElem_cons_succ, List.getElem_cons_zero, List.setIfInBounds_toArray, List.set_cons_zero, List.set_cons_succ]
          refine wpAnyH_take (i := 2) (oi := _) (v := ?_) rfl (by kernel_rfl) (by kernel_rfl) (by kernel_rfl) (fun _ _ _ h => h) (Or.inl ⟨by rfl, ?_⟩) (by assumption) ?_
          rotate_left
          · (intro w hSw; (try dsimp only at hSw); (first | (go_simp; done) | (go_simp; with_reducible rfl)))
          simp only [Act.put, List.getElem_toArray, List.getElem_cons_succ, List.getElem_cons_zero, List.setIfInBounds_toArray, List.set_cons_zero, List.set_cons_succ]
          refine wpAnyH_take (i := 3) (oi := _) (v := ?_) rfl (by kernel_rfl) (by kernel_rfl) (by kernel_rfl) (fun _ _ _ h => h) (Or.inl ⟨by rfl, ?_⟩) (by assumption) ?_
          rotate_left
          · (intro w hSw; (try dsimp only at hSw); (first | (go_simp; done) | (go_simp; with_reducible rfl)))
          simp only [Act.put, List.getElem_toArray, List.getElem_cons_succ, List.getElem_cons_zero, List.setIfInBounds_toArray, List.set_cons_zero, List.set_cons_succ]
          refine wpAnyH_take (i := 4) (oi := _) (v := ?_) rfl (by kernel_rfl) (by kernel_rfl) (by kernel_rfl) (fun _ _ _ h => h) (Or.inl ⟨by rfl, ?_⟩) (by assumption) ?_
          rotate_left
          · (intro w hSw; (try dsimp only at hSw); (first | (go_simp; done) | (go_simp; with_reducible rfl)))
          simp only [Act.put, List.getElem_toArray, List.getElem_cons_succ, List.getElem_cons_zero, List.setIfInBounds_toArray, List.set_cons_zero, List.set_cons_succ]
          refine wpAnyH_take (i := 5) (oi := _) (v := ?_) rfl (by kernel_rfl) (by kernel_rfl) (by kernel_rfl) (fun _ _ _ h => h) (Or.inl ⟨by rfl, ?_⟩) (by assumption) ?_
          rotate_left
          · (intro w hSw; (try dsimp only at hSw); (first | (go_simp; done) | (go_simp; with_reducible rfl)))
          simp only [Act.put, List.getElem_toArray, List.getElem_cons_succ, List.getElem_cons_zero, List.setIfInBounds_toArray, List.set_cons_zero, List.set_cons_succ]
          refine wpAnyH_ready (rs := [6]) (by kernel_rfl) (by simp) ?_
          refine AllReadyH.cons rfl (fun K hK => ?_) AllReadyH.nil
          go_simp
          have HSZ := Lib.hid (Nat.succ_le_of_lt HX.out.size)
          have HHI := Lib.hid HO.out.lt
          refine (HWK.out k _ _ (HRX.out.below HX.out.below) HOK.out).mono ?_
          rintro e w51 ⟨u, rfl, hou, hb⟩
          have HX := Lib.hid (HX.out.next hb)
          have HO := Lib.hid (HHI.out.below hb)
          have HXP := Lib.hid HX.out
          have HOR := Lib.hid hou
          have HLL := Lib.hid (walksL_len (n := n) (g := g) hj)
          have HTP := Lib.hid (show World.ownsRow w51 (w.heap.size + 1) 24 1 _ j us from by have h := HO.out.top; rw [HLL.out] at h; exact h)
          obtain ⟨ra, rc, hrs, _⟩ := row_shape HOR.out
          subst hrs
          clear hou hb
          clear hHeld
          try go_wp2_with fail
          refine hK.out _ _ (⟨HX.out, HX.out.c0, HX.out.c1, (HX.out.below.cell (p := ⟨b, o + j * 4, none⟩) hbl).trans G0.out, (HX.out.below.cell (p := ⟨b, o + j * 4 + 1, none⟩) hbl).trans G1.out, (HX.out.below.cell (p := ⟨b, o + j * 4 + 2, none⟩) hbl).trans G2.out, (HX.out.below.cell (p := ⟨b, o + j * 4 + 3, none⟩) hbl).trans G3.out⟩) (fun hHeld => ?_)
          clear hK K
          refine wpAnyH_ready (rs := [7]) (by kernel_rfl) (by simp) ?_
          refine AllReadyH.cons rfl (fun K hK => ?_) AllReadyH.nil
          go_simp
          have HNW := Lib.hid (one_newsG (x := .slice ra (walkW n g k 60).length rc) (t := 24) w51 w51.heap.size rfl)
          have HOA := Lib.hid (row_below HTP.out (below_new w51 (.cells #[.slice ra (walkW n g k 60).length rc] 24)))
          refine hK.out _ _ (⟨(hHeld.1.next (below_new _ _)), (hHeld.1.next (below_new _ _)).c0, (hHeld.1.next (below_new _ _)).c1, ((hHeld.1.next (below_new _ _)).below.cell (p := ⟨b, o + j * 4, none⟩) hbl).trans G0.out, ((hHeld.1.next (below_new _ _)).below.cell (p := ⟨b, o + j * 4 + 1, none⟩) hbl).trans G1.out, ((hHeld.1.next (below_new _ _)).below.cell (p := ⟨b, o + j * 4 + 2, none⟩) hbl).trans G2.out, ((hHeld.1.next (below_new _ _)).below.cell (p := ⟨b, o + j * 4 + 3, none⟩) hbl).trans G3.out⟩) (fun hHeld => ?_)
          clear hK K
          have HX := Lib.hid hHeld.1
          refine wpAnyH_ready (rs := [8]) (by kernel_rfl) (by simp) ?_
          refine AllReadyH.cons rfl (fun K hK => ?_) AllReadyH.nil
          refine step_append_any (by rfl) _ _ _ (by rfl) (w.heap.size + 1) 24 i1 (.slice none 0 0) 1 24 Tryd.underlying28 ji jz0 jz1 jz2 rfl (by decide) _ _ _ (by rfl) HOA.out ⟨w51.heap.size, 0, none⟩ 1 1 [.slice ra (walkW n g k 60).length rc] (by rfl) (by rfl) HNW.out ?c2 ?c3 ?c4 ?c5 ?_
          case c2 => intro u hu; simp at hu; subst hu; rfl
          case c3 => unfold maxLen; omega
          case c4 => omega
          case c5 => have := HXP.out.size; simp; omega
          intro v9 w53 hown9 hgrow9
          have HO9 := Lib.hid (ownT_append HO.out HOR.out (Nat.le_refl _) HSZ.out (by rw [HLL.out]; exact hown9) hgrow9)
          have HX := Lib.hid (HXP.out.nextAt (Nat.lt_succ_self _) (((Below.refl _ _).alloc (Nat.succ_le_of_lt HXP.out.size) _).trans (below_grown hgrow9 (fun b hb => (row_block HOA.out b hb).1) (by have := HXP.out.size; simp; omega))))
          clear hgrow9 hown9
          clear hHeld
          refine hK.out _ _ (⟨HX.out, HX.out.c0, HX.out.c1, (HX.out.below.cell (p := ⟨b, o + j * 4, none⟩) hbl).trans G0.out, (HX.out.below.cell (p := ⟨b, o + j * 4 + 1, none⟩) hbl).trans G1.out, (HX.out.below.cell (p := ⟨b, o + j * 4 + 2, none⟩) hbl).trans G2.out, (HX.out.below.cell (p := ⟨b, o + j * 4 + 3, none⟩) hbl).trans G3.out⟩) (fun hHeld => ?_)
          clear hK K
          refine wpAnyH_take (i := 9) (oi := _) (v := ?_) rfl (by kernel_rfl) (by kernel_rfl) (by kernel_rfl) (fun _ _ _ h => h) (Or.inl ⟨by rfl, ?_⟩) (by assumption) ?_
          rotate_left
          · (intro w hSw; (try dsimp only at hSw); (first | (go_simp; done) | (go_simp; with_reducible rfl)))
          simp only [Act.put, List.getElem_toArray, List.getElem_cons_succ, List.getElem_cons_zero, List.setIfInBounds_toArray, List.set_cons_zero, List.set_cons_succ]
          refine wpAnyH_done (by kernel_rfl) ?_ _
          refine NoPanic.normal ?_
          clear hHeld
          go_wp2_with fail
          go_roundw
          case rel => exact ⟨rfl, rfl, HX.out, j + 1, by have := HLT.out; omega, by go_num, ⟨_, by rw [walksL_next HXK.out]; exact HO9.out⟩, fun q kq hq hkq => by
            by_cases hqj : q < j
            · exact HP.out q kq hqj hkq
            · obtain rfl : q = j := by omega
              rw [HXK.out] at hkq
              cases hkq
              exact HWB.out⟩
          case measure => have := HLT.out; simp [intOf]; omega
      · have hje : j = ks.length := by omega
        subst hje
        have hrdw : wksB n g ks = true := by
          obtain ⟨k0, hk0⟩ := get_some (xs := ks) (k := 0) (by have := HL.out; omega)
          exact (wksB_iff n g ks).2 ⟨((wkB_iff n g k0).1 (HP.out 0 k0 (by have := HL.out; omega) hk0)).road, fun q k hq => HP.out q k (List.getElem?_eq_some_iff.1 hq).1 hq⟩
        have HWS := Lib.hid hrdw
        have HLW := Lib.hid (walksL_len (n := n) (g := g) (Nat.le_refl ks.length))
        clear hrdw
        go_wp2_with fail
        refine (HME.out _ (walksL n g ks ks.length) _ (HO.out.reads (by rw [HLW.out]; unfold maxLen; omega)) (by rw [HLW.out]; have := HL.out; omega) walksL_61).mono ?_
        rintro e w3 ⟨rfl, mm, hw3⟩
        have HX := Lib.hid (HX.out.next (hw3 ▸ below_drewN _ mm))
        clear hw3
        by_cases hmt : meetT (walksL n g ks ks.length) < 0
        · have HR := Lib.hid (gtimeR_bad (n := n) (g := g) (ks := ks) (fun h => by have := h.2; omega))
          generalize meetT (walksL n g ks ks.length) = mt at *
          go_wp2_with fail
          go_ret2
          exact ⟨ret_RG (HRR.out.trans HR.out), HX.out.below⟩
        · have HR := Lib.hid (gtimeR_yes HL.out ⟨HWS.out, by omega⟩)
          generalize meetT (walksL n g ks ks.length) = mt at *
          go_wp2_with fail
          go_ret2
          exact ⟨ret_RG (HRR.out.trans HR.out), HX.out.below⟩
  · have HR := Lib.hid (gtimeR_no (n := n) (g := g) hl)
    have HLI := Lib.hid (show ¬ (2 ≤ (ks.length : Int) ∧ (ks.length : Int) ≤ 4) by omega)
    clear hl
    go_enter Tryd.func16, Tryd.ntmps16
    go_wp2_with fail
    refine (HIN.out _ HLI.out).mono ?_
    rintro e w2 ⟨rfl, rfl⟩
    go_wp2_with fail
    go_ret2
    exact ⟨ret_RG (HRR.out.trans HR.out), HX.out.below⟩
set_option maxHeartbeats 1600000 in
theorem impl_GatherTime (n : Int) (g : Bool) (v : Value) (ks : List Wk) (w : World) (hv : ReadsW w v ks) (hN : NM w) :
    Calls Tryd.prog 18 #[rd n g, v] w fun e w' => e = .returned (.tuple #[.int .i64 (gtimeR n g ks).1, .bool (gtimeR n g ks).2]) ∧ Below w.heap.size w w' := by
  have HME := Lib.hid (fun w hv hne hlen hN => meet_any n g v ks w hv hne hlen hN)
  have HX := Lib.hid (Boxed.first w n g 31)
  have HV := Lib.hid hv
  have HN := Lib.hid hN
  obtain ⟨va, vc, rfl, hvc, hvm, _⟩ := hv
  unfold maxLen at hvm
  clear hN
  unfold rd at *
  by_cases h2 : 2 ≤ ks.length
  · by_cases h4 : ks.length ≤ 4
    · have HR := Lib.hid (show gtimeR n g ks = ((gathR n g ks).1.1, (gathR n g ks).2) from if_pos ⟨h2, h4⟩)
      have h2i : ¬ (ks.length : Int) < 2 := by omega
      have h4i : ¬ (4 : Int) < (ks.length : Int) := by omega
      have h2n : ¬ ks.length < 2 := by omega
      have h4n : ¬ 4 < ks.length := by omega
      have HH := Lib.hid (show 1 ≤ ks.length ∧ ks.length ≤ 1048576 by omega)
      generalize gtimeR n g ks = R at *
      generalize hp1 : (gathR n g ks).1.1 = p1 at *
      generalize hp2 : (gathR n g ks).1.2 = p2 at *
      generalize hp3 : (gathR n g ks).2 = p3 at *
      clear hp1 hp2 hp3
      go_enter Tryd.func18, Tryd.ntmps18
      go_wp2_with fail
      refine (HME.out _ (HV.out.below HX.out.below) HH.out.1 HH.out.2 (HN.out.below HX.out.below)).mono ?_
      rintro e w1 ⟨rfl, hb⟩
      have HX := Lib.hid (HX.out.next hb)
      clear hb
      go_wp2_with fail
      go_ret2
      exact ⟨ret_RG HR.out, (HX.out.next (below_new _ _)).below⟩
    · have HR := Lib.hid (gtimeR_no (n := n) (g := g) (ks := ks) (fun h => h4 h.2))
      have h2i : ¬ (ks.length : Int) < 2 := by omega
      have h4i : (4 : Int) < (ks.length : Int) := by omega
      have h2n : ¬ ks.length < 2 := by omega
      have h4n : 4 < ks.length := by omega
      generalize gtimeR n g ks = R at *
      clear h4
      go_enter Tryd.func18, Tryd.ntmps18
      go_wp2_with fail
      go_ret2
      exact ⟨ret_RG HR.out, HX.out.below⟩
  · have HR := Lib.hid (gtimeR_no (n := n) (g := g) (ks := ks) (fun h => h2 h.1))
    have h2i : (ks.length : Int) < 2 := by omega
    have h2n : ks.length < 2 := by omega
    generalize gtimeR n g ks = R at *
    clear h2
    go_enter Tryd.func18, Tryd.ntmps18
    go_wp2_with fail
    go_ret2
    exact ⟨ret_RG HR.out, HX.out.below⟩
end Go.Proofs.YtefjignlhlpndaaDoor
