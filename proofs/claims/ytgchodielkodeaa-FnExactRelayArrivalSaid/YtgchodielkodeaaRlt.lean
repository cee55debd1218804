/-
  What is proved: RelayPrice and RelayArrival of the program. Conditions: lists that read as carriers and as legs.
-/
import Derived.Test.YtgchodielkodeaaRls
import Derived.Test.YtgchodielkodeaaRlr
namespace Go.Proofs.Ytgchodielkodeaa
open Go.RowKit
set_option linter.unusedVariables false
set_option linter.unusedSimpArgs false

def Co_payee (e : Array Value) (cs : List Cr) (ls : List Lg) (base : Nat) (w : World) (s i : Value) (wr : World) : Prop :=
  Below base w wr ∧ Blk wr base e 80 ∧ ∃ j : Nat, j ≤ ls.length ∧ i = .int .i64 j ∧ s = .int .i64 (prcK cs ls j)
set_option maxHeartbeats 1600000 in
set_option maxRecDepth 20000 in
theorem countOf_payee (n : Int) (g : Bool) (v1 : Value) (cs : List Cr) (a b : Int) (v2 : Value) (ls : List Lg) (w : World) (h1 : ReadsC w v1 cs) (h2 : ReadsG w v2 ls) (hll : ls.length ≤ 1048576) :
    Calls Try.prog 89 #[erV n g v1 a b, v2, .func (.func 90) #[] #[]] w fun e w' => e = .returned (.tuple #[.int .i64 (rpriceR n g cs a b ls).1, .bool (rpriceR n g cs a b ls).2]) ∧ Below w.heap.size w w' := by
  have HAS := Lib.hid (fun c w => asPayee_any c w)
  have HBH := Lib.hid (fun c z x y w h hx hy hz hp => payee_any n c z x y w h hx hy hz hp)
  have HA := Lib.hid (fun w hv => isValidE_any n g v1 cs a b w hv)
  have HL := Lib.hid (fun w h1 h2 hc h3 h4 h5 => isRelayE_any n g v1 v2 cs ls a b w h1 h2 hc h3 h4 h5 hll)
  have H1 := Lib.hid h1
  have H2 := Lib.hid h2
  have HRD := Lib.hid (show relOK n g cs a b ls = (askB n g cs a b && relF cs b a [] ls) from rfl)
  have HNO := Lib.hid (fun h => rel_no (n := n) (g := g) (cs := cs) (a := a) (b := b) (ls := ls) h)
  have HYE := Lib.hid (fun h => rel_yes (n := n) (g := g) (cs := cs) (a := a) (b := b) (ls := ls) h)
  have HRA := Lib.hid (fun h => rel_all (n := n) (g := g) (cs := cs) (a := a) (b := b) (ls := ls) h)
  obtain ⟨y1, c1, hv1, _, hm1, _⟩ := h1
  subst hv1
  obtain ⟨y2, c2, hv2, _, hm2, _⟩ := h2
  subst hv2
  clear hm1 hm2
  have HW := Lib.hid (below_new w (.cells (erC n g (.slice y1 cs.length c1) a b) 80))
  have HB := Lib.hid (blk_new w (erC n g (.slice y1 cs.length c1) a b) 80)
  unfold erV erC crv at *
  go_enter Try.func89, Try.ntmps89
  go_wp2_with fail
  refine (HA.out _ (H1.out.below HW.out)).mono ?_
  rintro e w1 ⟨rfl, hb⟩
  replace HW := Lib.hid (HW.out.trans (hb.mono HW.out.size))
  replace HB := Lib.hid (HB.out.below hb)
  clear hb
  have e0 := HB.out.cell 0
  have e1 := HB.out.cell 1
  have e2 := HB.out.cell 2
  have e3 := HB.out.cell 3
  have e4 := HB.out.cell 4
  cases hk : askB n g cs a b
  · have HE := Lib.hid (HNO.out (by rw [HRD.out, hk]; rfl))
    clear hk
    go_wp2_with fail
    go_ret2
    exact ⟨ret_int_bool (by rw [HE.out.1]) (by rw [HE.out.1]), HW.out⟩
  · have HK := Lib.hid hk
    have HOK := Lib.hid (ask_ok hk)
    have hn24 := HOK.out.2.1.1.2
    clear hk
    go_wp2_with fail
    refine (HL.out _ (H1.out.below HW.out) (H2.out.below HW.out) HOK.out.2.1 HOK.out.2.2.1 HOK.out.2.2.2.1 HOK.out.2.2.2.2).mono ?_
    generalize hrel9 : relF cs b a [] ls = rl
    have HR9 := Lib.hid hrel9
    clear hrel9
    rintro e w2 ⟨rfl, hb⟩
    replace HW := Lib.hid (HW.out.trans (hb.mono HW.out.size))
    replace HB := Lib.hid (HB.out.below hb)
    clear hb e0 e1 e2 e3 e4
    cases rl
    · have HE := Lib.hid (HNO.out (by rw [HRD.out, HK.out, HR9.out]; rfl))
      go_wp2_with fail
      go_ret2
      exact ⟨ret_int_bool (by rw [HE.out.1]) (by rw [HE.out.1]), HW.out⟩
    have HE := Lib.hid (HYE.out (by rw [HRD.out, HK.out, HR9.out]; rfl))
    have HAL := Lib.hid (HRA.out (by rw [HRD.out, HK.out, HR9.out]; rfl))
    go_wp2_with fail
    go_loopw [8, 22] (fun s i wr => Co_payee #[.int .i64 n, .bool g, .slice y1 cs.length c1, .int .i64 a, .int .i64 b] cs ls w.heap.size w s i wr) (fun _ i _ => ls.length - (intOf i).toNat)
    case atStart => exact ⟨HW.out, HB.out, 0, Nat.zero_le _, rfl, rfl⟩
    case round =>
      obtain ⟨hw, hbk, j, hj, rfl, rfl⟩ := hrel
      clear HW HB
      have HW := Lib.hid hw
      have HB := Lib.hid hbk
      clear hw hbk
      by_cases hlt : j < ls.length
      · obtain ⟨⟨lk, la, lb⟩, hlj⟩ := get_lg hlt
        obtain ⟨b2, o2, rfl, hbl2, g0, g1, g2⟩ := legs_in H2.out hlj
        have HRG := Lib.hid (prc_range HAL.out.1 HAL.out.2 j (by omega))
        have HNX := Lib.hid (prcK_next3 (cs := cs) hlj)
        have HLC := Lib.hid (leg_cost3 HAL.out.1 (HAL.out.2 j _ hlj))
        have hlo := HAL.out.2 j _ hlj
        have hk0 : 0 ≤ lk := hlo.k0
        have hkn : lk < (cs.length : Int) := hlo.kn
        have ha0 : 0 ≤ la := hlo.a0
        have hab0 : la < lb := hlo.ab
        have hbn0 : lb < n := hlo.bn
        obtain ⟨q, rfl⟩ := int_nat hk0
        obtain ⟨kc, hkc⟩ := get_cr (cs := cs) (k := q) (by omega)
        obtain ⟨b1, o1, rfl, _, _, hbl1, k0, k1, k2⟩ := carriers_at H1.out hkc
        have HCA := Lib.hid (crAt_some hkc)
        have HCW := Lib.hid (HOK.out.2.1.2.2 q kc hkc)
        rw [HCA.out] at HNX HLC
        have hlc := HLC.out.2
        have g0 : wr.cell? ⟨b2, o2 + j * 3, none⟩ = some (.int .i64 (q : Int)) := (HW.out.cell (p := ⟨b2, o2 + j * 3, none⟩) hbl2).trans g0
        have g1 : wr.cell? ⟨b2, o2 + j * 3 + 1, none⟩ = some (.int .i64 la) := (HW.out.cell (p := ⟨b2, o2 + j * 3 + 1, none⟩) hbl2).trans g1
        have g2 : wr.cell? ⟨b2, o2 + j * 3 + 2, none⟩ = some (.int .i64 lb) := (HW.out.cell (p := ⟨b2, o2 + j * 3 + 2, none⟩) hbl2).trans g2
        have K0 := Lib.hid k0
        have K1 := Lib.hid k1
        have K2 := Lib.hid k2
        have hi0 : 0 ≤ (j : Int) := by omega
        have hi1 : (j : Int) < ls.length := by omega
        have hq0 : 0 ≤ (q : Int) := by omega
        have hpr := HRG.out
        generalize hpk : prcK cs ls j = pk at *
        have hpz : 0 ≤ pk ∧ pk ≤ 2000000000 := by omega
        clear hpk hlj hkc hlo k0 k1 k2
        have HW := Lib.hid (HW.out.trans ((below_new wr (.cells #[.int .i64 (q : Int), .int .i64 la, .int .i64 lb] 91)).mono HW.out.size))
        have HB := Lib.hid (HB.out.below (below_new wr (.cells #[.int .i64 (q : Int), .int .i64 la, .int .i64 lb] 91)))
        have HLG := Lib.hid (blk_new wr #[.int .i64 (q : Int), .int .i64 la, .int .i64 lb] 91)
        go_wp2_with fail
        refine wp_region_noPanic ?_
        have HW := Lib.hid (HW.out.trans ((below_drewN _ 1).mono HW.out.size))
        have HB := Lib.hid (HB.out.below (below_drewN _ 1))
        have HLG := Lib.hid (HLG.out.below (below_drewN _ 1))
        refine wp_region_held_drew (S := fun w' => (Below w.heap.size w w' ∧ Blk w' w.heap.size #[.int .i64 n, .bool g, .slice (some ⟨b1, o1, none⟩) cs.length c1, .int .i64 a, .int .i64 b] 80 ∧ Blk w' wr.heap.size #[.int .i64 (q : Int), .int .i64 la, .int .i64 lb] 91) ∧ w'.cell? ⟨w.heap.size, 2, none⟩ = some (.slice (some ⟨b1, o1, none⟩) cs.length c1) ∧ w'.cell? ⟨wr.heap.size, 0, none⟩ = some (.int .i64 (q : Int)) ∧ w'.cell? ⟨wr.heap.size, 1, none⟩ = some (.int .i64 la) ∧ w'.cell? ⟨wr.heap.size, 2, none⟩ = some (.int .i64 lb) ∧ w'.cell? ⟨b1, o1 + q * 3, none⟩ = some (.int .i64 kc.s) ∧ w'.cell? ⟨b1, o1 + q * 3 + 1, none⟩ = some (.int .i64 kc.r) ∧ w'.cell? ⟨b1, o1 + q * 3 + 2, none⟩ = some (.int .i64 kc.f)) (by kernel_rfl) (⟨⟨HW.out, HB.out, HLG.out⟩, HB.out.cell 2, HLG.out.cell 0, HLG.out.cell 1, HLG.out.cell 2, (HW.out.cell (p := ⟨b1, o1 + q * 3, none⟩) hbl1).trans K0.out, (HW.out.cell (p := ⟨b1, o1 + q * 3 + 1, none⟩) hbl1).trans K1.out, (HW.out.cell (p := ⟨b1, o1 + q * 3 + 2, none⟩) hbl1).trans K2.out⟩) (fun hHeld => ?_)
        refine wpAnyH_take (i := 0) (oi := _) (v := ?_) rfl (by kernel_rfl) (by kernel_rfl) (by kernel_rfl) (fun _ _ _ h => h) (Or.inl ⟨by rfl, ?_⟩) (by assumption) ?_
        rotate_left
        · (intro w hSw; (try dsimp only at hSw); (first | (go_simp; done) | (go_simp; with_reducible rfl)))
        simp only [Act.put, List.getElem_toArray, List.getElem_cons_succ, List.getElem_cons_zero, List.setIfInBounds_toArray, List.set_cons_zero, List.set_cons_succ]
        refine wpAnyH_take (i := 1) (oi := _) (v := ?_) rfl (by kernel_rfl) (by kernel_rfl) (by kernel_rfl) (fun _ _ _ h => h) (Or.inl ⟨by rfl, ?_⟩) (by assumption) ?_
        rotate_left
        · (intro w hSw; (try dsimp only at hSw); (first | (go_simp; done) | (go_simp; with_reducible rfl)))
        simp only [Act.put, List.getElem_toArray, List.getElem_cons_succ, List.getElem_cons_zero, List.setIfInBounds_toArray, List.set_cons_zero, List.set_cons_succ]
        refine wpAnyH_take (i := 2) (oi := _) (v := ?_) rfl (by kernel_rfl) (by kernel_rfl) (by kernel_rfl) (fun _ _ _ h => h) (Or.inl ⟨by rfl, ?_⟩) (by assumption) ?_
        rotate_left
        · (intro w hSw; (try dsimp only at hSw); (first | (go_simp; done) | (go_simp; with_reducible rfl)))
        simp only [Act.put, List.getElem_toArray, List.getElem_cons_succ, List.getElem_cons_zero, List.setIfInBounds_toArray, List.set_cons_zero, List.set_cons_succ]
        refine wpAnyH_take (i := 3) (oi := _) (v := ?_) rfl (by kernel_rfl) (by kernel_rfl) (by kernel_rfl) (fun _ _ _ h => h) (Or.inl ⟨by rfl, ?_⟩) (by assumption) ?_
        rotate_left
        · (intro w hSw; (try dsimp only at hSw); (first | (go_simp; done) | (go_simp; with_reducible rfl)))
        simp only [Act.put, List.getElem_toArray, List.getElem_cons_succ, List.getElem_cons_zero, List.setIfInBounds_toArray, List.set_cons_zero, List.set_cons_succ]
        refine wpAnyH_take (i := 4) (oi := _) (v := ?_) rfl (by kernel_rfl) (by kernel_rfl) (by kernel_rfl) (fun _ _ _ h => h) (Or.inl ⟨by rfl, ?_⟩) (by assumption) ?_
        rotate_left
        · (intro w hSw; (try dsimp only at hSw); (first | (go_simp; done) | (go_simp; with_reducible rfl)))
        simp only [Act.put, List.getElem_toArray, List.getElem_cons_succ, List.getElem_cons_zero, List.setIfInBounds_toArray, List.set_cons_zero, List.set_cons_succ]
        refine wpAnyH_take (i := 5) (oi := _) (v := ?_) rfl (by kernel_rfl) (by kernel_rfl) (by kernel_rfl) (fun _ _ _ h => h) (Or.inl ⟨by rfl, ?_⟩) (by assumption) ?_
        rotate_left
        · (intro w hSw; (try dsimp only at hSw); (first | (go_simp; done) | (go_simp; with_reducible rfl)))
        simp only [Act.put, List.getElem_toArray, List.getElem_cons_succ, List.getElem_cons_zero, List.setIfInBounds_toArray, List.set_cons_zero, List.set_cons_succ]
        refine wpAnyH_take (i := 6) (oi := _) (v := ?_) rfl (by kernel_rfl) (by kernel_rfl) (by kernel_rfl) (fun _ _ _ h => h) (Or.inl ⟨by rfl, ?_⟩) (by assumption) ?_
        rotate_left
        · (intro w hSw; (try dsimp only at hSw); (first | (go_simp; done) | (go_simp; with_reducible rfl)))
        simp only [Act.put, List.getElem_toArray, List.getElem_cons_succ, List.getElem_cons_zero, List.setIfInBounds_toArray, List.set_cons_zero, List.set_cons_succ]
        refine wpAnyH_take (i := 8) (oi := _) (v := ?_) rfl (by kernel_rfl) (by kernel_rfl) (by kernel_rfl) (fun _ _ _ h => h) (Or.inl ⟨by rfl, ?_⟩) (by assumption) ?_
        rotate_left
        · (intro w hSw; (try dsimp only at hSw); (first | (go_simp; done) | (go_simp; with_reducible rfl)))
        simp only [Act.put, List.getElem_toArray, List.getElem_cons_succ, List.getElem_cons_zero, List.setIfInBounds_toArray, List.set_cons_zero, List.set_cons_succ]
        refine wpAnyH_take (i := 9) (oi := _) (v := ?_) rfl (by kernel_rfl) (by kernel_rfl) (by kernel_rfl) (fun _ _ _ h => h) (Or.inl ⟨by rfl, ?_⟩) (by assumption) ?_
        rotate_left
        · (intro w hSw; (try dsimp only at hSw); (first | (go_simp; done) | (go_simp; with_reducible rfl)))
        simp only [Act.put, List.getElem_toArray, List.getElem_cons_succ, List.getElem_cons_zero, List.setIfInBounds_toArray, List.set_cons_zero, List.set_cons_succ]
        refine wpAnyH_take (i := 10) (oi := _) (v := ?_) rfl (by kernel_rfl) (by kernel_rfl) (by kernel_rfl) (fun _ _ _ h => h) (Or.inl ⟨by rfl, ?_⟩) (by assumption) ?_
        rotate_left
        · (intro w hSw; (try dsimp only at hSw); (first | (go_simp; done) | (go_simp; with_reducible rfl)))
        simp only [Act.put, List.getElem_toArray, List.getElem_cons_succ, List.getElem_cons_zero, List.setIfInBounds_toArray, List.set_cons_zero, List.set_cons_succ]
        refine wpAnyH_take (i := 11) (oi := _) (v := ?_) rfl (by kernel_rfl) (by kernel_rfl) (by kernel_rfl) (fun _ _ _ h => h) (Or.inl ⟨by rfl, ?_⟩) (by assumption) ?_
        rotate_left
        · (intro w hSw; (try dsimp only at hSw); (first | (go_simp; done) | (go_simp; with_reducible rfl)))
        simp only [Act.put, List.getElem_toArray, List.getElem_cons_succ, List.getElem_cons_zero, List.setIfInBounds_toArray, List.set_cons_zero, List.set_cons_succ]
        refine wpAnyH_take (i := 12) (oi := _) (v := ?_) rfl (by kernel_rfl) (by kernel_rfl) (by kernel_rfl) (fun _ _ _ h => h) (Or.inl ⟨by rfl, ?_⟩) (by assumption) ?_
        rotate_left
        · (intro w hSw; (try dsimp only at hSw); (first | (go_simp; done) | (go_simp; with_reducible rfl)))
        simp only [Act.put, List.getElem_toArray, List.getElem_cons_succ, List.getElem_cons_zero, List.setIfInBounds_toArray, List.set_cons_zero, List.set_cons_succ]
        refine wpAnyH_ready (rs := [7]) (by kernel_rfl) (by simp) ?_
        refine AllReadyH.cons rfl (fun K hK => ?_) AllReadyH.nil
        go_simp
        refine (HAS.out kc _).mono ?_
        rintro e w21 ⟨rfl, hb⟩
        have HW := Lib.hid (HW.out.trans (hb.mono HW.out.size))
        have HB := Lib.hid (HB.out.below hb)
        have HLG := Lib.hid (HLG.out.below hb)
        clear hb
        clear hHeld
        try go_wp2_with fail
        refine hK.out _ _ (⟨⟨HW.out, HB.out, HLG.out⟩, HB.out.cell 2, HLG.out.cell 0, HLG.out.cell 1, HLG.out.cell 2, (HW.out.cell (p := ⟨b1, o1 + q * 3, none⟩) hbl1).trans K0.out, (HW.out.cell (p := ⟨b1, o1 + q * 3 + 1, none⟩) hbl1).trans K1.out, (HW.out.cell (p := ⟨b1, o1 + q * 3 + 2, none⟩) hbl1).trans K2.out⟩) (fun hHeld => ?_)
        clear hK K
        refine wpAnyH_ready (rs := [13]) (by kernel_rfl) (by simp) ?_
        refine AllReadyH.cons rfl (fun K hK => ?_) AllReadyH.nil
        go_simp
        refine (HBH.out kc pk la lb _ HCW.out (by omega) (by omega) (by omega) ⟨hlc.2.1, hlc.2.2⟩).mono ?_
        rintro e w22 ⟨rfl, hb⟩
        have HW := Lib.hid (HW.out.trans (hb.mono HW.out.size))
        have HB := Lib.hid (HB.out.below hb)
        have HLG := Lib.hid (HLG.out.below hb)
        clear hb
        clear hHeld
        try go_wp2_with fail
        refine hK.out _ _ (⟨⟨HW.out, HB.out, HLG.out⟩, HB.out.cell 2, HLG.out.cell 0, HLG.out.cell 1, HLG.out.cell 2, (HW.out.cell (p := ⟨b1, o1 + q * 3, none⟩) hbl1).trans K0.out, (HW.out.cell (p := ⟨b1, o1 + q * 3 + 1, none⟩) hbl1).trans K1.out, (HW.out.cell (p := ⟨b1, o1 + q * 3 + 2, none⟩) hbl1).trans K2.out⟩) (fun hHeld => ?_)
        clear hK K
        refine wpAnyH_take (i := 14) (oi := _) (v := ?_) rfl (by kernel_rfl) (by kernel_rfl) (by kernel_rfl) (fun _ _ _ h => h) (Or.inl ⟨by rfl, ?_⟩) (by assumption) ?_
        rotate_left
        · (intro w hSw; (try dsimp only at hSw); (first | (go_simp; done) | (go_simp; with_reducible rfl)))
        simp only [Act.put, List.getElem_toArray, List.getElem_cons_succ, List.getElem_cons_zero, List.setIfInBounds_toArray, List.set_cons_zero, List.set_cons_succ]
        refine wpAnyH_done (by kernel_rfl) ?_ _
        refine NoPanic.normal ?_
        clear hHeld
        go_wp2_with fail
        go_roundw
        case rel => exact ⟨HW.out, HB.out, j + 1, by omega, by go_num, by rw [HNX.out]⟩
        case measure => simp [intOf]; omega
      · have hje : j = ls.length := by omega
        subst hje
        go_wp2_with fail
        go_ret2
        exact ⟨ret_int_bool (by rw [HE.out.1]) (by rw [HE.out.1]), HW.out⟩
set_option maxHeartbeats 800000 in
theorem impl_RelayPrice (n : Int) (g : Bool) (v1 : Value) (cs : List Cr) (a b : Int) (v2 : Value) (ls : List Lg) (w : World) (h1 : ReadsC w v1 cs) (h2 : ReadsG w v2 ls) (hll : ls.length ≤ 1048576) :
    Calls Try.prog 45 #[rd n g, v1, .int .i64 a, .int .i64 b, v2] w fun e w' => e = .returned (.tuple #[.int .i64 (rpriceR n g cs a b ls).1, .bool (rpriceR n g cs a b ls).2]) ∧ Below w.heap.size w w' := by
  have HC := Lib.hid (fun w h1 h2 => countOf_payee n g v1 cs a b v2 ls w h1 h2 hll)
  have HX := Lib.hid (Boxed.first w n g 28)
  have H1 := Lib.hid h1
  have H2 := Lib.hid h2
  obtain ⟨y1, c1, hv1, _⟩ := h1
  subst hv1
  generalize cs.length = m at *
  clear h2
  unfold rd erV at *
  go_enter Try.func45, Try.ntmps45
  go_wp2_with fail
  refine (HC.out _ (H1.out.below HX.out.below) (H2.out.below HX.out.below)).mono ?_
  rintro e w1 ⟨rfl, hb⟩
  replace HX := Lib.hid (HX.out.next hb)
  clear hb
  go_wp2_with fail
  go_ret2
  exact ⟨ret_int_bool rfl rfl, HX.out.below⟩
def Co_runner (e : Array Value) (cs : List Cr) (ls : List Lg) (base : Nat) (w : World) (s i : Value) (wr : World) : Prop :=
  Below base w wr ∧ Blk wr base e 80 ∧ ∃ j : Nat, j ≤ ls.length ∧ i = .int .i64 j ∧ s = .int .i64 (arrK cs ls j)
set_option maxHeartbeats 1600000 in
set_option maxRecDepth 20000 in
theorem countOf_runner (n : Int) (g : Bool) (v1 : Value) (cs : List Cr) (a b : Int) (v2 : Value) (ls : List Lg) (w : World) (h1 : ReadsC w v1 cs) (h2 : ReadsG w v2 ls) (hll : ls.length ≤ 1048576) :
    Calls Try.prog 89 #[erV n g v1 a b, v2, .func (.func 92) #[] #[]] w fun e w' => e = .returned (.tuple #[.int .i64 (rarriveR n g cs a b ls).1, .bool (rarriveR n g cs a b ls).2]) ∧ Below w.heap.size w w' := by
  have HAS := Lib.hid (fun c w => asRunner_any c w)
  have HBH := Lib.hid (fun c z x y w h hx hy hz => runner_any n c z x y w h hx hy hz)
  have HA := Lib.hid (fun w hv => isValidE_any n g v1 cs a b w hv)
  have HL := Lib.hid (fun w h1 h2 hc h3 h4 h5 => isRelayE_any n g v1 v2 cs ls a b w h1 h2 hc h3 h4 h5 hll)
  have H1 := Lib.hid h1
  have H2 := Lib.hid h2
  have HRD := Lib.hid (show relOK n g cs a b ls = (askB n g cs a b && relF cs b a [] ls) from rfl)
  have HNO := Lib.hid (fun h => rel_no (n := n) (g := g) (cs := cs) (a := a) (b := b) (ls := ls) h)
  have HYE := Lib.hid (fun h => rel_yes (n := n) (g := g) (cs := cs) (a := a) (b := b) (ls := ls) h)
  have HRA := Lib.hid (fun h => rel_all (n := n) (g := g) (cs := cs) (a := a) (b := b) (ls := ls) h)
  obtain ⟨y1, c1, hv1, _, hm1, _⟩ := h1
  subst hv1
  obtain ⟨y2, c2, hv2, _, hm2, _⟩ := h2
  subst hv2
  clear hm1 hm2
  have HW := Lib.hid (below_new w (.cells (erC n g (.slice y1 cs.length c1) a b) 80))
  have HB := Lib.hid (blk_new w (erC n g (.slice y1 cs.length c1) a b) 80)
  unfold erV erC crv at *
  go_enter Try.func89, Try.ntmps89
  go_wp2_with fail
  refine (HA.out _ (H1.out.below HW.out)).mono ?_
  rintro e w1 ⟨rfl, hb⟩
  replace HW := Lib.hid (HW.out.trans (hb.mono HW.out.size))
  replace HB := Lib.hid (HB.out.below hb)
  clear hb
  have e0 := HB.out.cell 0
  have e1 := HB.out.cell 1
  have e2 := HB.out.cell 2
  have e3 := HB.out.cell 3
  have e4 := HB.out.cell 4
  cases hk : askB n g cs a b
  · have HE := Lib.hid (HNO.out (by rw [HRD.out, hk]; rfl))
    clear hk
    go_wp2_with fail
    go_ret2
    exact ⟨ret_int_bool (by rw [HE.out.2]) (by rw [HE.out.2]), HW.out⟩
  · have HK := Lib.hid hk
    have HOK := Lib.hid (ask_ok hk)
    have hn24 := HOK.out.2.1.1.2
    clear hk
    go_wp2_with fail
    refine (HL.out _ (H1.out.below HW.out) (H2.out.below HW.out) HOK.out.2.1 HOK.out.2.2.1 HOK.out.2.2.2.1 HOK.out.2.2.2.2).mono ?_
    generalize hrel9 : relF cs b a [] ls = rl
    have HR9 := Lib.hid hrel9
    clear hrel9
    rintro e w2 ⟨rfl, hb⟩
    replace HW := Lib.hid (HW.out.trans (hb.mono HW.out.size))
    replace HB := Lib.hid (HB.out.below hb)
    clear hb e0 e1 e2 e3 e4
    cases rl
    · have HE := Lib.hid (HNO.out (by rw [HRD.out, HK.out, HR9.out]; rfl))
      go_wp2_with fail
      go_ret2
      exact ⟨ret_int_bool (by rw [HE.out.2]) (by rw [HE.out.2]), HW.out⟩
    have HE := Lib.hid (HYE.out (by rw [HRD.out, HK.out, HR9.out]; rfl))
    have HAL := Lib.hid (HRA.out (by rw [HRD.out, HK.out, HR9.out]; rfl))
    go_wp2_with fail
    go_loopw [8, 22] (fun s i wr => Co_runner #[.int .i64 n, .bool g, .slice y1 cs.length c1, .int .i64 a, .int .i64 b] cs ls w.heap.size w s i wr) (fun _ i _ => ls.length - (intOf i).toNat)
    case atStart => exact ⟨HW.out, HB.out, 0, Nat.zero_le _, rfl, rfl⟩
    case round =>
      obtain ⟨hw, hbk, j, hj, rfl, rfl⟩ := hrel
      clear HW HB
      have HW := Lib.hid hw
      have HB := Lib.hid hbk
      clear hw hbk
      by_cases hlt : j < ls.length
      · obtain ⟨⟨lk, la, lb⟩, hlj⟩ := get_lg hlt
        obtain ⟨b2, o2, rfl, hbl2, g0, g1, g2⟩ := legs_in H2.out hlj
        have HRG := Lib.hid (arr_range HAL.out.1 HAL.out.2 j (by omega))
        have HNX := Lib.hid (arrK_next3 (cs := cs) hlj)
        have HLC := Lib.hid (leg_cost3 HAL.out.1 (HAL.out.2 j _ hlj))
        have hlo := HAL.out.2 j _ hlj
        have hk0 : 0 ≤ lk := hlo.k0
        have hkn : lk < (cs.length : Int) := hlo.kn
        have ha0 : 0 ≤ la := hlo.a0
        have hab0 : la < lb := hlo.ab
        have hbn0 : lb < n := hlo.bn
        obtain ⟨q, rfl⟩ := int_nat hk0
        obtain ⟨kc, hkc⟩ := get_cr (cs := cs) (k := q) (by omega)
        obtain ⟨b1, o1, rfl, _, _, hbl1, k0, k1, k2⟩ := carriers_at H1.out hkc
        have HCA := Lib.hid (crAt_some hkc)
        have HCW := Lib.hid (HOK.out.2.1.2.2 q kc hkc)
        rw [HCA.out] at HNX HLC
        have hlc := HLC.out.2
        have g0 : wr.cell? ⟨b2, o2 + j * 3, none⟩ = some (.int .i64 (q : Int)) := (HW.out.cell (p := ⟨b2, o2 + j * 3, none⟩) hbl2).trans g0
        have g1 : wr.cell? ⟨b2, o2 + j * 3 + 1, none⟩ = some (.int .i64 la) := (HW.out.cell (p := ⟨b2, o2 + j * 3 + 1, none⟩) hbl2).trans g1
        have g2 : wr.cell? ⟨b2, o2 + j * 3 + 2, none⟩ = some (.int .i64 lb) := (HW.out.cell (p := ⟨b2, o2 + j * 3 + 2, none⟩) hbl2).trans g2
        have K0 := Lib.hid k0
        have K1 := Lib.hid k1
        have K2 := Lib.hid k2
        have hi0 : 0 ≤ (j : Int) := by omega
        have hi1 : (j : Int) < ls.length := by omega
        have hq0 : 0 ≤ (q : Int) := by omega
        have hpr := HRG.out
        generalize hpk : arrK cs ls j = pk at *
        have hpz : 0 ≤ pk ∧ pk ≤ 2000000000 := by omega
        clear hpk hlj hkc hlo k0 k1 k2
        have HW := Lib.hid (HW.out.trans ((below_new wr (.cells #[.int .i64 (q : Int), .int .i64 la, .int .i64 lb] 91)).mono HW.out.size))
        have HB := Lib.hid (HB.out.below (below_new wr (.cells #[.int .i64 (q : Int), .int .i64 la, .int .i64 lb] 91)))
        have HLG := Lib.hid (blk_new wr #[.int .i64 (q : Int), .int .i64 la, .int .i64 lb] 91)
        go_wp2_with fail
        refine wp_region_noPanic ?_
        have HW := Lib.hid (HW.out.trans ((below_drewN _ 1).mono HW.out.size))
        have HB := Lib.hid (HB.out.below (below_drewN _ 1))
        have HLG := Lib.hid (HLG.out.below (below_drewN _ 1))
        refine wp_region_held_drew (S := fun w' => (Below w.heap.size w w' ∧ Blk w' w.heap.size #[.int .i64 n, .bool g, .slice (some ⟨b1, o1, none⟩) cs.length c1, .int .i64 a, .int .i64 b] 80 ∧ Blk w' wr.heap.size #[.int .i64 (q : Int), .int .i64 la, .int .i64 lb] 91) ∧ w'.cell? ⟨w.heap.size, 2, none⟩ = some (.slice (some ⟨b1, o1, none⟩) cs.length c1) ∧ w'.cell? ⟨wr.heap.size, 0, none⟩ = some (.int .i64 (q : Int)) ∧ w'.cell? ⟨wr.heap.size, 1, none⟩ = some (.int .i64 la) ∧ w'.cell? ⟨wr.heap.size, 2, none⟩ = some (.int .i64 lb) ∧ w'.cell? ⟨b1, o1 + q * 3, none⟩ = some (.int .i64 kc.s) ∧ w'.cell? ⟨b1, o1 + q * 3 + 1, none⟩ = some (.int .i64 kc.r) ∧ w'.cell? ⟨b1, o1 + q * 3 + 2, none⟩ = some (.int .i64 kc.f)) (by kernel_rfl) (⟨⟨HW.out, HB.out, HLG.out⟩, HB.out.cell 2, HLG.out.cell 0, HLG.out.cell 1, HLG.out.cell 2, (HW.out.cell (p := ⟨b1, o1 + q * 3, none⟩) hbl1).trans K0.out, (HW.out.cell (p := ⟨b1, o1 + q * 3 + 1, none⟩) hbl1).trans K1.out, (HW.out.cell (p := ⟨b1, o1 + q * 3 + 2, none⟩) hbl1).trans K2.out⟩) (fun hHeld => ?_)
        refine wpAnyH_take (i := 0) (oi := _) (v := ?_) rfl (by kernel_rfl) (by kernel_rfl) (by kernel_rfl) (fun _ _ _ h => h) (Or.inl ⟨by rfl, ?_⟩) (by assumption) ?_
        rotate_left
        · (intro w hSw; (try dsimp only at hSw); (first | (go_simp; done) | (go_simp; with_reducible rfl)))
        simp only [Act.put, List.getElem_toArray, List.getElem_cons_succ, List.getElem_cons_zero, List.setIfInBounds_toArray, List.set_cons_zero, List.set_cons_succ]
        refine wpAnyH_take (i := 1) (oi := _) (v := ?_) rfl (by kernel_rfl) (by kernel_rfl) (by kernel_rfl) (fun _ _ _ h => h) (Or.inl ⟨by rfl, ?_⟩) (by assumption) ?_
        rotate_left
        · (intro w hSw; (try dsimp only at hSw); (first | (go_simp; done) | (go_simp; with_reducible rfl)))
        simp only [Act.put, List.getElem_toArray, List.getElem_cons_succ, List.getElem_cons_zero, List.setIfInBounds_toArray, List.set_cons_zero, List.set_cons_succ]
        refine wpAnyH_take (i := 2) (oi := _) (v := ?_) rfl (by kernel_rfl) (by kernel_rfl) (by kernel_rfl) (fun _ _ _ h => h) (Or.inl ⟨by rfl, ?_⟩) (by assumption) ?_
        rotate_left
        · (intro w hSw; (try dsimp only at hSw); (first | (go_simp; done) | (go_simp; with_reducible rfl)))
        simp only [Act.put, List.getElem_toArray, List.getElem_cons_succ, List.getElem_cons_zero, List.setIfInBounds_toArray, List.set_cons_zero, List.set_cons_succ]
        refine wpAnyH_take (i := 3) (oi := _) (v := ?_) rfl (by kernel_rfl) (by kernel_rfl) (by kernel_rfl) (fun _ _ _ h => h) (Or.inl ⟨by rfl, ?_⟩) (by assumption) ?_
        rotate_left
        · (intro w hSw; (try dsimp only at hSw); (first | (go_simp; done) | (go_simp; with_reducible rfl)))
        simp only [Act.put, List.getElem_toArray, List.getElem_cons_succ, List.getElem_cons_zero, List.setIfInBounds_toArray, List.set_cons_zero, List.set_cons_succ]
        refine wpAnyH_take (i := 4) (oi := _) (v := ?_) rfl (by kernel_rfl) (by kernel_rfl) (by kernel_rfl) (fun _ _ _ h => h) (Or.inl ⟨by rfl, ?_⟩) (by assumption) ?_
        rotate_left
        · (intro w hSw; (try dsimp only at hSw); (first | (go_simp; done) | (go_simp; with_reducible rfl)))
        simp only [Act.put, List.getElem_toArray, List.getElem_cons_succ, List.getElem_cons_zero, List.setIfInBounds_toArray, List.set_cons_zero, List.set_cons_succ]
        refine wpAnyH_take (i := 5) (oi := _) (v := ?_) rfl (by kernel_rfl) (by kernel_rfl) (by kernel_rfl) (fun _ _ _ h => h) (Or.inl ⟨by rfl, ?_⟩) (by assumption) ?_
        rotate_left
        · (intro w hSw; (try dsimp only at hSw); (first | (go_simp; done) | (go_simp; with_reducible rfl)))
        simp only [Act.put, List.getElem_toArray, List.getElem_cons_succ, List.getElem_cons_zero, List.setIfInBounds_toArray, List.set_cons_zero, List.set_cons_succ]
        refine wpAnyH_take (i := 6) (oi := _) (v := ?_) rfl (by kernel_rfl) (by kernel_rfl) (by kernel_rfl) (fun _ _ _ h => h) (Or.inl ⟨by rfl, ?_⟩) (by assumption) ?_
        rotate_left
        · (intro w hSw; (try dsimp only at hSw); (first | (go_simp; done) | (go_simp; with_reducible rfl)))
        simp only [Act.put, List.getElem_toArray, List.getElem_cons_succ, List.getElem_cons_zero, List.setIfInBounds_toArray, List.set_cons_zero, List.set_cons_succ]
        refine wpAnyH_take (i := 8) (oi := _) (v := ?_) rfl (by kernel_rfl) (by kernel_rfl) (by kernel_rfl) (fun _ _ _ h => h) (Or.inl ⟨by rfl, ?_⟩) (by assumption) ?_
        rotate_left
        · (intro w hSw; (try dsimp only at hSw); (first | (go_simp; done) | (go_simp; with_reducible rfl)))
        simp only [Act.put, List.getElem_toArray, List.getElem_cons_succ, List.getElem_cons_zero, List.setIfInBounds_toArray, List.set_cons_zero, List.set_cons_succ]
        refine wpAnyH_take (i := 9) (oi := _) (v := ?_) rfl (by kernel_rfl) (by kernel_rfl) (by kernel_rfl) (fun _ _ _ h => h) (Or.inl ⟨by rfl, ?_⟩) (by assumption) ?_
        rotate_left
        · (intro w hSw; (try dsimp only at hSw); (first | (go_simp; done) | (go_simp; with_reducible rfl)))
        simp only [Act.put, List.getElem_toArray, List.getElem_cons_succ, List.getElem_cons_zero, List.setIfInBounds_toArray, List.set_cons_zero, List.set_cons_succ]
        refine wpAnyH_take (i := 10) (oi := _) (v := ?_) rfl (by kernel_rfl) (by kernel_rfl) (by kernel_rfl) (fun _ _ _ h => h) (Or.inl ⟨by rfl, ?_⟩) (by assumption) ?_
        rotate_left
        · (intro w hSw; (try dsimp only at hSw); (first | (go_simp; done) | (go_simp; with_reducible rfl)))
        simp only [Act.put, List.getElem_toArray, List.getElem_cons_succ, List.getElem_cons_zero, List.setIfInBounds_toArray, List.set_cons_zero, List.set_cons_succ]
        refine wpAnyH_take (i := 11) (oi := _) (v := ?_) rfl (by kernel_rfl) (by kernel_rfl) (by kernel_rfl) (fun _ _ _ h => h) (Or.inl ⟨by rfl, ?_⟩) (by assumption) ?_
        rotate_left
        · (intro w hSw; (try dsimp only at hSw); (first | (go_simp; done) | (go_simp; with_reducible rfl)))
        simp only [Act.put, List.getElem_toArray, List.getElem_cons_succ, List.getElem_cons_zero, List.setIfInBounds_toArray, List.set_cons_zero, List.set_cons_succ]
        refine wpAnyH_take (i := 12) (oi := _) (v := ?_) rfl (by kernel_rfl) (by kernel_rfl) (by kernel_rfl) (fun _ _ _ h => h) (Or.inl ⟨by rfl, ?_⟩) (by assumption) ?_
        rotate_left
        · (intro w hSw; (try dsimp only at hSw); (first | (go_simp; done) | (go_simp; with_reducible rfl)))
        simp only [Act.put, List.getElem_toArray, List.getElem_cons_succ, List.getElem_cons_zero, List.setIfInBounds_toArray, List.set_cons_zero, List.set_cons_succ]
        refine wpAnyH_ready (rs := [7]) (by kernel_rfl) (by simp) ?_
        refine AllReadyH.cons rfl (fun K hK => ?_) AllReadyH.nil
        go_simp
        refine (HAS.out kc _).mono ?_
        rintro e w21 ⟨rfl, hb⟩
        have HW := Lib.hid (HW.out.trans (hb.mono HW.out.size))
        have HB := Lib.hid (HB.out.below hb)
        have HLG := Lib.hid (HLG.out.below hb)
        clear hb
        clear hHeld
        try go_wp2_with fail
        refine hK.out _ _ (⟨⟨HW.out, HB.out, HLG.out⟩, HB.out.cell 2, HLG.out.cell 0, HLG.out.cell 1, HLG.out.cell 2, (HW.out.cell (p := ⟨b1, o1 + q * 3, none⟩) hbl1).trans K0.out, (HW.out.cell (p := ⟨b1, o1 + q * 3 + 1, none⟩) hbl1).trans K1.out, (HW.out.cell (p := ⟨b1, o1 + q * 3 + 2, none⟩) hbl1).trans K2.out⟩) (fun hHeld => ?_)
        clear hK K
        refine wpAnyH_ready (rs := [13]) (by kernel_rfl) (by simp) ?_
        refine AllReadyH.cons rfl (fun K hK => ?_) AllReadyH.nil
        go_simp
        refine (HBH.out kc pk la lb _ HCW.out (by omega) (by omega) (by omega)).mono ?_
        rintro e w22 ⟨rfl, hb⟩
        have HW := Lib.hid (HW.out.trans (hb.mono HW.out.size))
        have HB := Lib.hid (HB.out.below hb)
        have HLG := Lib.hid (HLG.out.below hb)
        clear hb
        clear hHeld
        try go_wp2_with fail
        refine hK.out _ _ (⟨⟨HW.out, HB.out, HLG.out⟩, HB.out.cell 2, HLG.out.cell 0, HLG.out.cell 1, HLG.out.cell 2, (HW.out.cell (p := ⟨b1, o1 + q * 3, none⟩) hbl1).trans K0.out, (HW.out.cell (p := ⟨b1, o1 + q * 3 + 1, none⟩) hbl1).trans K1.out, (HW.out.cell (p := ⟨b1, o1 + q * 3 + 2, none⟩) hbl1).trans K2.out⟩) (fun hHeld => ?_)
        clear hK K
        refine wpAnyH_take (i := 14) (oi := _) (v := ?_) rfl (by kernel_rfl) (by kernel_rfl) (by kernel_rfl) (fun _ _ _ h => h) (Or.inl ⟨by rfl, ?_⟩) (by assumption) ?_
        rotate_left
        · (intro w hSw; (try dsimp only at hSw); (first | (go_simp; done) | (go_simp; with_reducible rfl)))
        simp only [Act.put, List.getElem_toArray, List.getElem_cons_succ, List.getElem_cons_zero, List.setIfInBounds_toArray, List.set_cons_zero, List.set_cons_succ]
        refine wpAnyH_done (by kernel_rfl) ?_ _
        refine NoPanic.normal ?_
        clear hHeld
        go_wp2_with fail
        go_roundw
        case rel => exact ⟨HW.out, HB.out, j + 1, by omega, by go_num, by rw [HNX.out]⟩
        case measure => simp [intOf]; omega
      · have hje : j = ls.length := by omega
        subst hje
        go_wp2_with fail
        go_ret2
        exact ⟨ret_int_bool (by rw [HE.out.2]) (by rw [HE.out.2]), HW.out⟩
set_option maxHeartbeats 800000 in
theorem impl_RelayArrival (n : Int) (g : Bool) (v1 : Value) (cs : List Cr) (a b : Int) (v2 : Value) (ls : List Lg) (w : World) (h1 : ReadsC w v1 cs) (h2 : ReadsG w v2 ls) (hll : ls.length ≤ 1048576) :
    Calls Try.prog 47 #[rd n g, v1, .int .i64 a, .int .i64 b, v2] w fun e w' => e = .returned (.tuple #[.int .i64 (rarriveR n g cs a b ls).1, .bool (rarriveR n g cs a b ls).2]) ∧ Below w.heap.size w w' := by
  have HC := Lib.hid (fun w h1 h2 => countOf_runner n g v1 cs a b v2 ls w h1 h2 hll)
  have HX := Lib.hid (Boxed.first w n g 28)
  have H1 := Lib.hid h1
  have H2 := Lib.hid h2
  obtain ⟨y1, c1, hv1, _⟩ := h1
  subst hv1
  generalize cs.length = m at *
  clear h2
  unfold rd erV at *
  go_enter Try.func47, Try.ntmps47
  go_wp2_with fail
  refine (HC.out _ (H1.out.below HX.out.below) (H2.out.below HX.out.below)).mono ?_
  rintro e w1 ⟨rfl, hb⟩
  replace HX := Lib.hid (HX.out.next hb)
  clear hb
  go_wp2_with fail
  go_ret2
  exact ⟨ret_int_bool rfl rfl, HX.out.below⟩
end Go.Proofs.Ytgchodielkodeaa
