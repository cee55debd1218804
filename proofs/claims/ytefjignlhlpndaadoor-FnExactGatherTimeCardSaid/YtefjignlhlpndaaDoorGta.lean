/-
  What is proved: the contracts of the laws' helpers on lists of walkers: szWalkerS, toWalkerS, eqWalkerS. Conditions: lists that read as walkers.
-/
import Derived.Test.YtefjignlhlpndaaDoorMef
import Derived.Test.YtefjignlhlpndaaDoorTbb
import Derived.Test.YtefjignlhlpndaaDoorBlk
namespace Go.Proofs.YtefjignlhlpndaaDoor
open Go.RowKit
set_option linter.unusedVariables false
set_option linter.unusedSimpArgs false

/-- the moves of walkers as a table -/
def mvT (ks : List Wk) : List (List Int) := ks.map fun k => k.ms
theorem mvT_len (ks : List Wk) : (mvT ks).length = ks.length := by simp [mvT]
theorem mvT_at {ks : List Wk} {j : Nat} {k : Wk} (h : ks[j]? = some k) : (mvT ks)[j]? = some k.ms := by unfold mvT; rw [List.getElem?_map, h]; rfl
theorem walkers_in {w : World} {a : Option Addr} {l c : Nat} {ks : List Wk} (h : ReadsW w (.slice a l c) ks) {j : Nat} {k : Wk} (hj : ks[j]? = some k) :
    ∃ b o ma mc, a = some ⟨b, o, none⟩ ∧ b < w.heap.size ∧ w.cell? ⟨b, o + j * 4, none⟩ = some (.int .i64 k.s) ∧ w.cell? ⟨b, o + j * 4 + 1, none⟩ = some (.int .i64 k.f) ∧ w.cell? ⟨b, o + j * 4 + 2, none⟩ = some (.int .i64 k.d) ∧ w.cell? ⟨b, o + j * 4 + 3, none⟩ = some (.slice ma k.ms.length mc) ∧ ReadsI w (.slice ma k.ms.length mc) k.ms := by
  obtain ⟨a', c', e, hc, hm, hx⟩ := h
  cases e
  obtain ⟨b, o, m, ha, hb, h0, h1, h2, h3, hr⟩ := hx j k hj
  have hr2 := hr
  obtain ⟨ma, mc, rfl, _⟩ := hr2
  exact ⟨b, o, ma, mc, ha, hb, h0, h1, h2, h3, hr⟩
def SzRelW (ks : List Wk) (l : Nat) (w : World) (r q i : Value) (wr : World) : Prop :=
  ∃ k m : Nat, k ≤ ks.length ∧ i = .int .i64 k ∧ ks.length + lenTo (mvT ks) k + m = l ∧ q = .int .i64 m ∧ Below w.heap.size w wr ∧ ∃ z : Int, r = .int .i64 z
set_option maxHeartbeats 800000 in
theorem szWS_any (v : Value) (ks : List Wk) (l : Nat) (w : World) (hv : ReadsW w v ks) (hl : l ≤ 1048576) :
    Calls Tryd.prog 15 #[v, .int .i64 l] w fun e w' => szP (mvT ks) l e ∧ Below w.heap.size w w' := by
  have HY := Lib.hid (fun k m l w hv hl h => szW_yes k m l w hv hl h)
  have HN := Lib.hid (fun k m l w hv hl h => szW_no k m l w hv hl h)
  have HV := Lib.hid hv
  obtain ⟨va, vc, rfl, hvc, hvm, _⟩ := hv
  unfold maxLen at hvm
  have HML := Lib.hid (mvT_len ks)
  unfold wkv at *
  by_cases h0 : ks.length ≤ l
  · obtain ⟨m0, hm0⟩ : ∃ m0 : Nat, (l : Int) - ks.length = m0 := ⟨l - ks.length, by omega⟩
    have h1 : 0 ≤ (l : Int) - ks.length := by omega
    have h2 : ¬ (l : Int) - ks.length < 0 := by omega
    have h3 : ¬ (l : Int) < ks.length := by omega
    have h4 : (ks.length : Int) ≤ l := by omega
    have HM0 := Lib.hid hm0
    have hm0b : m0 ≤ 1048576 := by omega
    clear hm0
    go_enter Tryd.func15, Tryd.ntmps15
    go_wp2
    rw [HM0.out]
    clear h1 h2 h3 h4
    go_loopw [1, 4, 5] (fun q r i wr => SzRelW ks l w r q i wr) (fun _ _ i _ => ks.length - (intOf i).toNat)
    case atStart => exact ⟨0, m0, Nat.zero_le _, rfl, by have := HM0.out; simp [lenTo]; omega, rfl, Below.refl _ _, _, rfl⟩
    case round =>
      obtain ⟨k, m, hk, rfl, hs, rfl, hb, z, rfl⟩ := hrel
      have HB := Lib.hid hb
      clear hb
      have hmb : m ≤ 1048576 := by omega
      by_cases hlt : k < ks.length
      · obtain ⟨kk, hxs⟩ := get_some hlt
        obtain ⟨b, o, ma, mc, rfl, hbl, g0, g1, g2, g3, hrx⟩ := walkers_in (HV.out.below HB.out) hxs
        have HLN := Lib.hid (lenTo_next (mvT_at hxs))
        have HFT := Lib.hid (row_fits (mvT_at hxs))
        have HS := Lib.hid hs
        have HRX := Lib.hid hrx
        clear hxs hs hrx
        by_cases hf : kk.ms.length ≤ m
        · go_wp2_with fail
          refine (HY.out kk _ m _ HRX.out hmb hf).mono ?_
          rintro e w2 ⟨rfl, hb2⟩
          have HB2 := Lib.hid (HB.out.trans (hb2.mono HB.out.size))
          have hm2 : ((m - kk.ms.length : Nat) : Int) ≥ 0 := by omega
          clear hb2 g0 g1 g2 g3
          generalize hmm : m - kk.ms.length = m2 at *
          have HMM := Lib.hid hmm
          clear hmm
          go_wp2_with fail
          go_roundw
          case rel => exact ⟨k + 1, m2, by omega, by go_num, by have := HLN.out; have := HS.out; have := HMM.out; omega, rfl, HB2.out, _, rfl⟩
          case measure => simp [intOf]; omega
        · have hf2 : m < kk.ms.length := by omega
          go_wp2_with fail
          refine (HN.out kk _ m _ HRX.out hmb hf2).mono ?_
          rintro e w2 ⟨rfl, hb2⟩
          have HB2 := Lib.hid (HB.out.trans (hb2.mono HB.out.size))
          clear hb2 g0 g1 g2 g3
          go_wp2_with fail
          go_ret
          refine ⟨?_, HB2.out⟩
          unfold szP
          rw [if_neg (by unfold sizeT; have := HFT.out; have := HS.out; have := HML.out; omega)]
          rfl
      · have hke : k = ks.length := by omega
        subst hke
        have HS := Lib.hid hs
        clear hs
        go_wp2_with fail
        go_ret
        refine ⟨?_, HB.out⟩
        unfold szP sizeT
        have h9 := HML.out
        rw [h9, if_pos (by have := HS.out; omega)]
        exact ret_int (by have := HS.out; omega)
  · have h1 : ¬ 0 ≤ (l : Int) - ks.length := by omega
    have h2 : (l : Int) - ks.length < 0 := by omega
    have h3 : (l : Int) < ks.length := by omega
    go_enter Tryd.func15, Tryd.ntmps15
    go_wp2
    go_ret
    refine ⟨?_, Below.refl _ _⟩
    unfold szP
    rw [if_neg (by unfold sizeT; have := HML.out; omega)]
    rfl
theorem szWS_yes (v : Value) (ks : List Wk) (l : Nat) (w : World) (hv : ReadsW w v ks) (hl : l ≤ 1048576) (h : sizeT (mvT ks) ≤ l) :
    Calls Tryd.prog 15 #[v, .int .i64 l] w fun e w' => e = .returned (.int .i64 ((l - sizeT (mvT ks) : Nat) : Int)) ∧ Below w.heap.size w w' :=
  (szWS_any v ks l w hv hl).mono fun e w' ⟨he, hw⟩ => ⟨by unfold szP at he; rw [if_pos h] at he; exact he, hw⟩
theorem szWS_no (v : Value) (ks : List Wk) (l : Nat) (w : World) (hv : ReadsW w v ks) (hl : l ≤ 1048576) (h : ¬ sizeT (mvT ks) ≤ l) :
    Calls Tryd.prog 15 #[v, .int .i64 l] w fun e w' => e = .returned (.int .i64 (-1)) ∧ Below w.heap.size w w' :=
  (szWS_any v ks l w hv hl).mono fun e w' ⟨he, hw⟩ => ⟨by unfold szP at he; rw [if_neg h] at he; exact he, hw⟩
def EqRelW (n : Nat) (w : World) (i : Value) (wr : World) : Prop := ∃ k : Nat, k ≤ n ∧ i = .int .i64 k ∧ Below w.heap.size w wr
set_option maxHeartbeats 800000 in
set_option maxRecDepth 20000 in
theorem eqWS_yes (v1 v2 : Value) (ks : List Wk) (w : World) (h1 : ReadsW w v1 ks) (h2 : ReadsW w v2 ks) :
    Calls Tryd.prog 19 #[v1, v2] w fun e w' => e = .returned (.bool true) ∧ Below w.heap.size w w' := by
  have HE := Lib.hid (fun k v1 v2 w h1 h2 => eqW_any k v1 v2 w h1 h2)
  have H1 := Lib.hid h1
  have H2 := Lib.hid h2
  obtain ⟨a1, c1, rfl, hc1, hm1, _⟩ := h1
  obtain ⟨a2, c2, rfl, hc2, _, _⟩ := h2
  unfold maxLen at hm1
  unfold wkv at *
  go_enter Tryd.func19, Tryd.ntmps19
  go_wp2
  go_loopw [4, 5] (fun r i wr => r = .bool false ∧ EqRelW ks.length w i wr) (fun _ i _ => ks.length - (intOf i).toNat)
  case atStart => exact ⟨rfl, 0, Nat.zero_le _, rfl, Below.refl _ _⟩
  case round =>
    obtain ⟨rfl, j, hj, rfl, hb⟩ := hrel
    have HB := Lib.hid hb
    clear hb
    by_cases hlt : j < ks.length
    · obtain ⟨k, hxk⟩ := get_some hlt
      obtain ⟨b1, o1, ma1, mc1, rfl, hbl1, g10, g11, g12, g13, hr1⟩ := walkers_in H1.out hxk
      obtain ⟨b2, o2, ma2, mc2, rfl, hbl2, g20, g21, g22, g23, hr2⟩ := walkers_in H2.out hxk
      have HR1 := Lib.hid hr1
      have HR2 := Lib.hid hr2
      have G10 := Lib.hid g10
      have G11 := Lib.hid g11
      have G12 := Lib.hid g12
      have G13 := Lib.hid g13
      have G20 := Lib.hid g20
      have G21 := Lib.hid g21
      have G22 := Lib.hid g22
      have G23 := Lib.hid g23
      have hi0 : 0 ≤ (j : Int) := by omega
      have hi1 : (j : Int) < ks.length := by omega
      clear hxk hr1 hr2 g10 g11 g12 g13 g20 g21 g22 g23
      go_wp2
      refine wp_region_noPanic ?_
      have HB := Lib.hid (HB.out.trans ((below_drewN _ 1).mono HB.out.size))
      refine wp_region_held_drew (S := fun w' => Below w.heap.size w w' ∧ w'.cell? ⟨b1, o1 + j * 4, none⟩ = some (.int .i64 k.s) ∧ w'.cell? ⟨b1, o1 + j * 4 + 1, none⟩ = some (.int .i64 k.f) ∧ w'.cell? ⟨b1, o1 + j * 4 + 2, none⟩ = some (.int .i64 k.d) ∧ w'.cell? ⟨b1, o1 + j * 4 + 3, none⟩ = some (.slice ma1 k.ms.length mc1) ∧ w'.cell? ⟨b2, o2 + j * 4, none⟩ = some (.int .i64 k.s) ∧ w'.cell? ⟨b2, o2 + j * 4 + 1, none⟩ = some (.int .i64 k.f) ∧ w'.cell? ⟨b2, o2 + j * 4 + 2, none⟩ = some (.int .i64 k.d) ∧ w'.cell? ⟨b2, o2 + j * 4 + 3, none⟩ = some (.slice ma2 k.ms.length mc2)) (by kernel_rfl) (⟨HB.out, (HB.out.cell (p := ⟨b1, o1 + j * 4, none⟩) hbl1).trans G10.out, (HB.out.cell (p := ⟨b1, o1 + j * 4 + 1, none⟩) hbl1).trans G11.out, (HB.out.cell (p := ⟨b1, o1 + j * 4 + 2, none⟩) hbl1).trans G12.out, (HB.out.cell (p := ⟨b1, o1 + j * 4 + 3, none⟩) hbl1).trans G13.out, (HB.out.cell (p := ⟨b2, o2 + j * 4, none⟩) hbl2).trans G20.out, (HB.out.cell (p := ⟨b2, o2 + j * 4 + 1, none⟩) hbl2).trans G21.out, (HB.out.cell (p := ⟨b2, o2 + j * 4 + 2, none⟩) hbl2).trans G22.out, (HB.out.cell (p := ⟨b2, o2 + j * 4 + 3, none⟩) hbl2).trans G23.out⟩) (fun hHeld => ?_)
      refine wpAnyH_take (i := 0) (oi := _) (v := ?_) rfl (by kernel_rfl) (by kernel_rfl) (by kernel_rfl) (fun _ _ _ h => h) (Or.inl ⟨by rfl, ?_⟩) (by assumption) ?_
      rotate_left
      · (intro w hSw; (try dsimp only at hSw); (first | (go_simp; done) | (go_simp; with_reducible rfl)))
      simp only [Act.put, List.getElem_toArray, List.getElem_cons_succ, List.getElem_cons_zero, List.setIfInBounds_toArray, List.set_cons_zero, List.set_cons_succ]
      refine wpAnyH_take (i := 1) (oi := _) (v := ?_) rfl (by kernel_rfl) (by kernel_rfl) (by kernel_rfl) (fun _ _ _ h => h) (Or.inl ⟨by rfl, ?_⟩) (by assumption) ?_
      rotate_left
      · (intro w hSw; (try dsimp only at hSw); (first | (go_simp; done) | (go_simp; with_reducible rfl)))
      simp only [Act.put, List.getElem_toArray, List.getElem_cons_succ, List.getElem_cons_zero, List.setIfInBounds_toArray, List.set_cons_zero, List.set_cons_succ]
      refine wpAnyH_take (i := 2) (oi := _) (v := ?_) rfl (by kernel_rfl) (by kernel_rfl) (by kernel_rfl) (fun _ _ _ h => h) (Or.inl ⟨by rfl, ?_⟩) (by assumption) ?_
      rotate_left
      · (intro w hSw; (try dsimp only at hSw); (first | (go_simp; done) | (go_simp; with_reducible rfl)))
      simp only [Act.put, List.getElem_toArray, List.getElem_cons_succ, List.getElem_cons_zero, List.setIfInBounds_toArray, List.set_cons_zero, List.set_cons_succ]
      refine wpAnyH_take (i := 3) (oi := _) (v := ?_) rfl (by kernel_rfl) (by kernel_rfl) (by kernel_rfl) (fun _ _ _ h => h) (Or.inl ⟨by rfl, ?_⟩) (by assumption) ?_
      rotate_left
      · (intro w hSw; (try dsimp only at hSw); (first | (go_simp; done) | (go_simp; with_reducible rfl)))
      simp only [Act.put, List.getElem_toArray, List.getElem_cons_succ, List.getElem_cons_zero, List.setIfInBounds_toArray, List.set_cons_zero, List.set_cons_succ]
      refine wpAnyH_take (i := 4) (oi := _) (v := ?_) rfl (by kernel_rfl) (by kernel_rfl) (by kernel_rfl) (fun _ _ _ h => h) (Or.inl ⟨by rfl, ?_⟩) (by assumption) ?_
      rotate_left
      · (intro w hSw; (try dsimp only at hSw); (first | (go_simp; done) | (go_simp; with_reducible rfl)))
      simp only [Act.put, List.getElem_toArray, List.getElem_cons_succ, List.getElem_cons_zero, List.setIfInBounds_toArray, List.set_cons_zero, List.set_cons_succ]
      refine wpAnyH_take (i := 5) (oi := _) (v := ?_) rfl (by kernel_rfl) (by kernel_rfl) (by kernel_rfl) (fun _ _ _ h => h) (Or.inl ⟨by rfl, ?_⟩) (by assumption) ?_
      rotate_left
      · (intro w hSw; (try dsimp only at hSw); (first | (go_simp; done) | (go_simp; with_reducible rfl)))
      simp only [Act.put, List.getElem_toArray, List.getElem_cons_succ, List.getElem_cons_zero, List.setIfInBounds_toArray, List.set_cons_zero, List.set_cons_succ]
      refine wpAnyH_take (i := 6) (oi := _) (v := ?_) rfl (by kernel_rfl) (by kernel_rfl) (by kernel_rfl) (fun _ _ _ h => h) (Or.inl ⟨by rfl, ?_⟩) (by assumption) ?_
      rotate_left
      · (intro w hSw; (try dsimp only at hSw); (first | (go_simp; done) | (go_simp; with_reducible rfl)))
      simp only [Act.put, List.getElem_toArray, List.getElem_cons_succ, List.getElem_cons_zero, List.setIfInBounds_toArray, List.set_cons_zero, List.set_cons_succ]
      refine wpAnyH_take (i := 7) (oi := _) (v := ?_) rfl (by kernel_rfl) (by kernel_rfl) (by kernel_rfl) (fun _ _ _ h => h) (Or.inl ⟨by rfl, ?_⟩) (by assumption) ?_
      rotate_left
      · (intro w hSw; (try dsimp only at hSw); (first | (go_simp; done) | (go_simp; with_reducible rfl)))
      simp only [Act.put, List.getElem_toArray, List.getElem_cons_succ, List.getElem_cons_zero, List.setIfInBounds_toArray, List.set_cons_zero, List.set_cons_succ]
      refine wpAnyH_ready (rs := [8]) (by kernel_rfl) (by simp) ?_
      refine AllReadyH.cons rfl (fun K hK => ?_) AllReadyH.nil
      go_simp
      refine (HE.out k _ _ _ (HR1.out.below HB.out) (HR2.out.below HB.out)).mono ?_
      rintro e w21 ⟨rfl, hb⟩
      have HB := Lib.hid (HB.out.trans (hb.mono HB.out.size))
      clear hb
      clear hHeld
      try go_wp2_with fail
      refine hK.out _ _ (⟨HB.out, (HB.out.cell (p := ⟨b1, o1 + j * 4, none⟩) hbl1).trans G10.out, (HB.out.cell (p := ⟨b1, o1 + j * 4 + 1, none⟩) hbl1).trans G11.out, (HB.out.cell (p := ⟨b1, o1 + j * 4 + 2, none⟩) hbl1).trans G12.out, (HB.out.cell (p := ⟨b1, o1 + j * 4 + 3, none⟩) hbl1).trans G13.out, (HB.out.cell (p := ⟨b2, o2 + j * 4, none⟩) hbl2).trans G20.out, (HB.out.cell (p := ⟨b2, o2 + j * 4 + 1, none⟩) hbl2).trans G21.out, (HB.out.cell (p := ⟨b2, o2 + j * 4 + 2, none⟩) hbl2).trans G22.out, (HB.out.cell (p := ⟨b2, o2 + j * 4 + 3, none⟩) hbl2).trans G23.out⟩) (fun hHeld => ?_)
      clear hK K
      refine wpAnyH_take (i := 9) (oi := _) (v := ?_) rfl (by kernel_rfl) (by kernel_rfl) (by kernel_rfl) (fun _ _ _ h => h) (Or.inl ⟨by rfl, ?_⟩) (by assumption) ?_
      rotate_left
      · (intro w hSw; (try dsimp only at hSw); (first | (go_simp; done) | (go_simp; with_reducible rfl)))
      simp only [Act.put, List.getElem_toArray, List.getElem_cons_succ, List.getElem_cons_zero, List.setIfInBounds_toArray, List.set_cons_zero, List.set_cons_succ]
      refine wpAnyH_done (by kernel_rfl) ?_ _
      refine NoPanic.normal ?_
      clear hHeld
      go_wp2_with fail
      go_roundw
      case rel => exact ⟨rfl, j + 1, by omega, by go_num, HB.out⟩
      case measure => simp [intOf]; omega
    · go_wp2
      go_ret
      exact ⟨rfl, HB.out⟩
theorem infoWk : (Tryd.prog.info? 33).map (fun i => (i.zero, i.size, i.bytes)) = some (some (.agg #[.int .i64 0, .int .i64 0, .int .i64 0, .slice none 0 0]), 4, 48) := by kernel_rfl
/-- the copy when j walkers stand -/
def TwRel (ks : List Wk) (base : Nat) (w : World) (i : Value) (wr : World) : Prop :=
  ∃ (j : Nat) (cs : Array Value), j ≤ ks.length ∧ i = .int .i64 j ∧ Blk wr base cs 33 ∧ cs.size = ks.length * 4 ∧ Below base w wr ∧
    ∀ (q : Nat) k, q < j → ks[q]? = some k → ∃ m, cs[q * 4]? = some (.int .i64 k.s) ∧ cs[q * 4 + 1]? = some (.int .i64 k.f) ∧ cs[q * 4 + 2]? = some (.int .i64 k.d) ∧ cs[q * 4 + 3]? = some m ∧ wr.ownsRow (base + 1) 3 1 m k.ms.length (k.ms.map iv)
theorem arr_some {cs : Array Value} {i : Nat} (h : i < cs.size) : ∃ u, cs[i]? = some u := ⟨cs[i], Array.getElem?_eq_getElem h⟩
def set4 (cs : Array Value) (p : Nat) (v0 v1 v2 v3 : Value) : Array Value := (((cs.setIfInBounds p v0).setIfInBounds (p + 1) v1).setIfInBounds (p + 2) v2).setIfInBounds (p + 3) v3
theorem set4_size (cs : Array Value) (p : Nat) (v0 v1 v2 v3 : Value) : (set4 cs p v0 v1 v2 v3).size = cs.size := by simp [set4]
theorem set4_off {cs : Array Value} {p i : Nat} {v0 v1 v2 v3 : Value} (h : i < p ∨ p + 4 ≤ i) : (set4 cs p v0 v1 v2 v3)[i]? = cs[i]? := by
  unfold set4
  rw [Array.getElem?_setIfInBounds_ne (by omega), Array.getElem?_setIfInBounds_ne (by omega), Array.getElem?_setIfInBounds_ne (by omega), Array.getElem?_setIfInBounds_ne (by omega)]
theorem set4_at {cs : Array Value} {p : Nat} {v0 v1 v2 v3 : Value} (h : p + 4 ≤ cs.size) : (set4 cs p v0 v1 v2 v3)[p]? = some v0 ∧ (set4 cs p v0 v1 v2 v3)[p + 1]? = some v1 ∧ (set4 cs p v0 v1 v2 v3)[p + 2]? = some v2 ∧ (set4 cs p v0 v1 v2 v3)[p + 3]? = some v3 := by
  unfold set4
  refine ⟨?_, ?_, ?_, ?_⟩
  · rw [Array.getElem?_setIfInBounds_ne (by omega), Array.getElem?_setIfInBounds_ne (by omega), Array.getElem?_setIfInBounds_ne (by omega), Array.getElem?_setIfInBounds_self_of_lt (by omega)]
  · rw [Array.getElem?_setIfInBounds_ne (by omega), Array.getElem?_setIfInBounds_ne (by omega), Array.getElem?_setIfInBounds_self_of_lt (by simp; omega)]
  · rw [Array.getElem?_setIfInBounds_ne (by omega), Array.getElem?_setIfInBounds_self_of_lt (by simp; omega)]
  · rw [Array.getElem?_setIfInBounds_self_of_lt (by simp; omega)]
/-- the world behind a store of four cells -/
def wset4 (w : World) (b p : Nat) (v0 v1 v2 v3 : Value) : World := (((w.setCell ⟨b, p, none⟩ v0).setCell ⟨b, p + 1, none⟩ v1).setCell ⟨b, p + 2, none⟩ v2).setCell ⟨b, p + 3, none⟩ v3
theorem wset4_blk {w : World} {b p : Nat} {cs : Array Value} {t : TypeId} {v0 v1 v2 v3 : Value} (h : Blk w b cs t) : Blk (wset4 w b p v0 v1 v2 v3) b (set4 cs p v0 v1 v2 v3) t := by
  have st : ∀ {w : World} {j : Nat} {cs : Array Value} (v : Value), Blk w b cs t → Blk (w.setCell ⟨b, j, none⟩ v) b (cs.setIfInBounds j v) t := fun {w j cs} v h => heap_setCell_same w b j _ t v h
  exact st _ (st _ (st _ (st _ h)))
theorem wset4_chg (w : World) (b p : Nat) (v0 v1 v2 v3 : Value) : ChgIn b (b + 1) w (wset4 w b p v0 v1 v2 v3) := by
  have st : ∀ {w' : World} {j : Nat} (v : Value), ChgIn b (b + 1) w w' → ChgIn b (b + 1) w (w'.setCell ⟨b, j, none⟩ v) := by
    intro w' j v h
    exact h.trans ⟨rfl, rfl, rfl, by simp [World.setCell], fun k hk ho => Below.heap_setCell w' ⟨b, j, none⟩ v k (fun e => by have e2 : k = b := e; omega)⟩
  exact st _ (st _ (st _ (st _ (ChgIn.refl _ _ _))))
set_option maxHeartbeats 1600000 in
set_option maxRecDepth 20000 in
theorem toWS_any (v : Value) (ks : List Wk) (w : World) (hv : ReadsW w v ks) (hn : sizeT (mvT ks) ≤ 1048576) :
    Calls Tryd.prog 17 #[v] w fun e w' => ∃ u, e = .returned u ∧ ReadsW w' u ks ∧ Below w.heap.size w w' := by
  have HT := Lib.hid (fun k m w hv hn => toW_any k m w hv hn)
  have HV := Lib.hid hv
  obtain ⟨a, c, rfl, hc, hm, _⟩ := hv
  have hl : ks.length ≤ 1048576 := by unfold sizeT at hn; rw [mvT_len] at hn; omega
  have HN := Lib.hid hn
  clear hm hn
  obtain ⟨i0, hi, hz0, hz1, hz2⟩ := info_parts infoWk
  unfold wkv at *
  go_enter Tryd.func17, Tryd.ntmps17
  go_wp2_with (at_make; refine wpList_make_full _ rfl _ _ 44 rfl w.heap.size 33 i0 (.agg #[.int .i64 0, .int .i64 0, .int .i64 0, .slice none 0 0]) 4 Tryd.underlying44 hi hz0 hz1 .i64 .i64 _ _ ks.length rfl rfl rfl rfl ?c1 ?c2 ?c3 ?_)
  case c1 => rw [hz2]; omega
  case c2 => unfold maxLen; omega
  case c3 => exact Nat.le_refl _
  intro w1 hown hgrow
  have hb1 : Below w.heap.size w w1 := (Below.refl _ _).grown hgrow (Nat.le_refl _) (fun k e => by cases e)
  obtain ⟨cs0, hcs0, hbk0⟩ : ∃ cs : Array Value, cs.size = ks.length * 4 ∧ Blk w1 w.heap.size cs 33 := by
    rcases hown.2 with ⟨h, _⟩ | ⟨g, cap, cur, h, _, hb, _, _, hcs, _⟩
    · cases h
    · cases h
      exact ⟨cur, hcs, hb⟩
  have HBK0 := Lib.hid hbk0
  have HB1 := Lib.hid hb1
  have HCS0 := Lib.hid hcs0
  clear hgrow hown hb1 hbk0 hcs0
  go_wp2
  go_loopw [4] (fun i wr => TwRel ks w.heap.size w i wr) (fun i _ => ks.length - (intOf i).toNat)
  case atStart => exact ⟨0, cs0, Nat.zero_le _, rfl, HBK0.out, HCS0.out, HB1.out, fun q k hq => by omega⟩
  case round =>
    obtain ⟨j, cs, hj, rfl, hbk, hsz, hb, hrows⟩ := hrel
    clear HBK0 HB1 HCS0
    have HBK := Lib.hid hbk
    have HB := Lib.hid hb
    have HR := Lib.hid hrows
    have HSZ := Lib.hid hsz
    clear hbk hb hrows hsz
    by_cases hlt : j < ks.length
    · obtain ⟨k, hxk⟩ := get_some hlt
      obtain ⟨b, o, ma, mc, rfl, hbl, g0, g1, g2, g3, hr⟩ := walkers_in HV.out hxk
      have hxl : k.ms.length ≤ 1048576 := by have := row_fits (mvT_at hxk); have := HN.out; unfold sizeT at this; omega
      have g0 := (HB.out.cell (p := ⟨b, o + j * 4, none⟩) hbl).trans g0
      have g1 := (HB.out.cell (p := ⟨b, o + j * 4 + 1, none⟩) hbl).trans g1
      have g2 := (HB.out.cell (p := ⟨b, o + j * 4 + 2, none⟩) hbl).trans g2
      have g3 := (HB.out.cell (p := ⟨b, o + j * 4 + 3, none⟩) hbl).trans g3
      have HRX := Lib.hid (hr.below HB.out)
      have HXK := Lib.hid hxk
      have HLT := Lib.hid hlt
      clear hxk hr
      go_wp2_with fail
      refine (HT.out k _ _ HRX.out hxl).mono ?_
      rintro e w2 ⟨m, rfl, hou, hb2⟩
      have HBL := Lib.hid HBK.out.lt
      have HBK2 := Lib.hid (HBK.out.below hb2)
      have HB2 := Lib.hid hb2
      have HOU := Lib.hid hou
      obtain ⟨ua, uc, hus, _⟩ := row_shape hou
      subst hus
      have hs4 : j * 4 + 4 ≤ cs.size := by rw [HSZ.out]; omega
      obtain ⟨y0, hy0⟩ := arr_some (show j * 4 < cs.size by omega)
      obtain ⟨y1, hy1⟩ := arr_some (show j * 4 + 1 < cs.size by omega)
      obtain ⟨y2, hy2⟩ := arr_some (show j * 4 + 2 < cs.size by omega)
      obtain ⟨y3, hy3⟩ := arr_some (show j * 4 + 3 < cs.size by omega)
      have a0 := (HBK2.out.cell (j * 4)).trans hy0
      have a1 := (HBK2.out.cell (j * 4 + 1)).trans hy1
      have a2 := (HBK2.out.cell (j * 4 + 2)).trans hy2
      have a3 := (HBK2.out.cell (j * 4 + 3)).trans hy3
      have f0 := HBK2.out.free (j * 4)
      have f1 := HBK2.out.free (j * 4 + 1)
      have f2 := HBK2.out.free (j * 4 + 2)
      have f3 := HBK2.out.free (j * 4 + 3)
      have HS4 := Lib.hid hs4
      have HWB := Lib.hid (wset4_blk (p := j * 4) (v0 := .int .i64 k.s) (v1 := .int .i64 k.f) (v2 := .int .i64 k.d) (v3 := .slice ua k.ms.length uc) HBK2.out)
      have HWC := Lib.hid (wset4_chg w2 w.heap.size (j * 4) (.int .i64 k.s) (.int .i64 k.f) (.int .i64 k.d) (.slice ua k.ms.length uc))
      unfold wset4 at HWB HWC
      clear hou hb2 hy0 hy1 hy2 hy3 hs4 g0 g1 g2 g3
      go_wp2_with fail
      go_roundw
      case rel =>
        refine ⟨j + 1, _, by omega, by go_num, HWB.out, by rw [set4_size]; exact HSZ.out, (HB.out.trans (HB2.out.mono (Nat.le_of_lt HBL.out))).trans (HWC.out.below (Nat.le_refl _) (Nat.le_of_lt HBK2.out.lt)), fun q kq hq hkq => ?_⟩
        by_cases hqj : q < j
        · obtain ⟨mq, e0, e1, e2, e3, ho⟩ := HR.out q kq hqj hkq
          refine ⟨mq, by rw [set4_off (by omega)]; exact e0, by rw [set4_off (by omega)]; exact e1, by rw [set4_off (by omega)]; exact e2, by rw [set4_off (by omega)]; exact e3, row_chg (row_below ho HB2.out) HWC.out (fun bb hbb => .inr (by have := (row_block ho bb hbb).1; omega))⟩
        · obtain rfl : q = j := by omega
          rw [HXK.out] at hkq
          cases hkq
          obtain ⟨e0, e1, e2, e3⟩ := set4_at (v0 := .int .i64 k.s) (v1 := .int .i64 k.f) (v2 := .int .i64 k.d) (v3 := .slice ua k.ms.length uc) HS4.out
          exact ⟨_, e0, e1, e2, e3, row_lower (row_chg HOU.out HWC.out (fun bb hbb => .inr (by have := (row_block HOU.out bb hbb).1; have := HBL.out; omega))) HBL.out⟩
      case measure => have := HLT.out; simp [intOf]; omega
    · have hje : j = ks.length := by omega
      subst hje
      go_wp2_with fail
      go_ret
      refine ⟨_, rfl, ⟨_, _, rfl, Nat.le_refl _, by unfold maxLen; omega, fun q k hq => ?_⟩, HB.out⟩
      obtain ⟨m, e0, e1, e2, e3, ho⟩ := HR.out q k (List.getElem?_eq_some_iff.1 hq).1 hq
      obtain ⟨_, cm, _, h1, h2, _⟩ := row_shape ho
      refine ⟨w.heap.size, 0, m, rfl, HBK.out.lt, ?_, ?_, ?_, ?_, owns_reads ho (Nat.le_trans h1 h2)⟩
      · rw [Nat.zero_add, HBK.out.cell]; exact e0
      · rw [Nat.zero_add, HBK.out.cell]; exact e1
      · rw [Nat.zero_add, HBK.out.cell]; exact e2
      · rw [Nat.zero_add, HBK.out.cell]; exact e3
end Go.Proofs.YtefjignlhlpndaaDoor
