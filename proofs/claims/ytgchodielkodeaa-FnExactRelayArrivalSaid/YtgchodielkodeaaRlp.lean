/-
  What is proved: the price and the arrival of a relay, of the model. Conditions: lists that read as carriers and as legs.
-/
import Derived.Test.YtgchodielkodeaaRlq
namespace Go.Proofs.Ytgchodielkodeaa
open Go.RowKit
set_option linter.unusedVariables false
set_option linter.unusedSimpArgs false

theorem leg_cost {n : Int} {g : Bool} {cs : List Cr} {l : Lg} (hc : csB n g cs = true) (h : LgOK n cs l) : CrOK n (crAt cs l.k) ∧ (0 ≤ stpI (crAt cs l.k) l.a l.b ∧ stpI (crAt cs l.k) l.a l.b ≤ 48) ∧ 0 ≤ stpI (crAt cs l.k) l.a l.b * (crAt cs l.k).f ∧ stpI (crAt cs l.k) l.a l.b * (crAt cs l.k).f ≤ 960 := by
  obtain ⟨q, hq⟩ := int_nat h.k0
  obtain ⟨c, hc1, hc2⟩ := cr_some (cs := cs) (i := q) (by have := h.kn; omega)
  have hok := csB_ok hc hc1
  have e : crAt cs l.k = c := by rw [hq]; exact hc2
  rw [e]
  have hap := appI_range (c := c) (n := n) (x := l.a) ⟨hok.s0, hok.sn⟩ ⟨h.a0, by have := h.ab; have := h.bn; omega⟩
  have hst : 0 ≤ stpI c l.a l.b := by unfold stpI; have := h.ab; omega
  have hs48 : stpI c l.a l.b ≤ 48 := by have := h.fit; rw [e] at this; have := hok.r48; omega
  have hf0 := hok.f0
  have hf1 := hok.f20
  have h1 : 0 ≤ stpI c l.a l.b * c.f := Int.mul_nonneg hst hf0
  have h2 : stpI c l.a l.b * c.f ≤ 48 * 20 := Int.mul_le_mul hs48 hf1 hf0 (by omega)
  exact ⟨hok, ⟨hst, hs48⟩, h1, by omega⟩
theorem prc_range {n : Int} {g : Bool} {cs : List Cr} {ls : List Lg} (hc : csB n g cs = true) (h : ∀ (j : Nat) l, ls[j]? = some l → LgOK n cs l) : ∀ j, j ≤ ls.length → 0 ≤ prcK cs ls j ∧ prcK cs ls j ≤ 960 * j
  | 0, _ => by simp [prcK]
  | j + 1, hj => by
    obtain ⟨l, hl⟩ := get_lg (ls := ls) (k := j) (by omega)
    have ih := prc_range hc h j (by omega)
    have hl2 := leg_cost hc (h j l hl)
    rw [prcK_next hl]
    omega
theorem arr_range {n : Int} {g : Bool} {cs : List Cr} {ls : List Lg} (hc : csB n g cs = true) (h : ∀ (j : Nat) l, ls[j]? = some l → LgOK n cs l) : ∀ j, j ≤ ls.length → 0 ≤ arrK cs ls j ∧ arrK cs ls j ≤ 24 * j + 24
  | 0, _ => by simp [arrK]
  | j + 1, hj => by
    obtain ⟨l, hl⟩ := get_lg (ls := ls) (k := j) (by omega)
    have ih := arr_range hc h j (by omega)
    have hok := h j l hl
    have hl2 := leg_cost hc hok
    have hap := appI_range (c := crAt cs l.k) (n := n) (x := l.a) ⟨hl2.1.s0, hl2.1.sn⟩ ⟨hok.a0, by have := hok.ab; have := hok.bn; omega⟩
    have h24 := hl2.1.n24
    have := hok.a0
    have := hok.ab
    have := hok.bn
    rw [arrK_next hl]
    omega
theorem rel_no {n : Int} {g : Bool} {cs : List Cr} {a b : Int} {ls : List Lg} (h : relOK n g cs a b ls = false) : rpriceR n g cs a b ls = (0, false) ∧ rarriveR n g cs a b ls = (0, false) := by
  unfold rpriceR rarriveR
  rw [h]
  exact ⟨rfl, rfl⟩
theorem rel_yes {n : Int} {g : Bool} {cs : List Cr} {a b : Int} {ls : List Lg} (h : relOK n g cs a b ls = true) : rpriceR n g cs a b ls = (prcK cs ls ls.length, true) ∧ rarriveR n g cs a b ls = (arrK cs ls ls.length, true) := by
  unfold rpriceR rarriveR
  rw [h]
  exact ⟨rfl, rfl⟩
theorem rel_all {n : Int} {g : Bool} {cs : List Cr} {a b : Int} {ls : List Lg} (h : relOK n g cs a b ls = true) : csB n g cs = true ∧ ∀ (j : Nat) l, ls[j]? = some l → LgOK n cs l := by
  unfold relOK at h
  rw [Bool.and_eq_true] at h
  have hk := (askB_iff n g cs a b).1 h.1
  exact ⟨hk.1, relF_legs hk.2.2.2 ls a [] hk.2.1 h.2⟩
theorem prcK_next3 {cs : List Cr} {ls : List Lg} {j : Nat} {lk la lb : Int} (hj : ls[j]? = some ⟨lk, la, lb⟩) : prcK cs ls (j + 1) = prcK cs ls j + stpI (crAt cs lk) la lb * (crAt cs lk).f := by rw [prcK_next hj]
theorem arrK_next3 {cs : List Cr} {ls : List Lg} {j : Nat} {lk la lb : Int} (hj : ls[j]? = some ⟨lk, la, lb⟩) : arrK cs ls (j + 1) = max (arrK cs ls j) (appI (crAt cs lk) la) + lb - la := by rw [arrK_next hj]
theorem leg_cost3 {n : Int} {g : Bool} {cs : List Cr} {lk la lb : Int} (hc : csB n g cs = true) (h : LgOK n cs ⟨lk, la, lb⟩) : CrOK n (crAt cs lk) ∧ (0 ≤ stpI (crAt cs lk) la lb ∧ stpI (crAt cs lk) la lb ≤ 48) ∧ 0 ≤ stpI (crAt cs lk) la lb * (crAt cs lk).f ∧ stpI (crAt cs lk) la lb * (crAt cs lk).f ≤ 960 := leg_cost hc h
def PrRel (n : Int) (cs : List Cr) (ls : List Lg) (base : Nat) (w : World) (s i : Value) (wr : World) : Prop :=
  Boxed base n false w wr ∧ ∃ j : Nat, j ≤ ls.length ∧ i = .int .i64 j ∧ s = .int .i64 (prcK cs ls j)
set_option maxHeartbeats 1600000 in
set_option maxRecDepth 20000 in
theorem spec_RelayPrice (n : Int) (g : Bool) (v1 : Value) (cs : List Cr) (a b : Int) (v2 : Value) (ls : List Lg) (w : World) (h1 : ReadsC w v1 cs) (h2 : ReadsG w v2 ls) (hll : ls.length ≤ 1048576) :
    Calls Try.prog 44 #[rd n g, v1, .int .i64 a, .int .i64 b, v2] w fun e w' => e = .returned (.tuple #[.int .i64 (rpriceR n g cs a b ls).1, .bool (rpriceR n g cs a b ls).2]) ∧ Below w.heap.size w w' := by
  have HST := Lib.hid (fun c x y w h hx hy => l7Steps_any n c x y w h hx hy)
  have HA := Lib.hid (fun w hv => l7Asks_any n g v1 cs a b w hv)
  have HL := Lib.hid (fun w h1 h2 hc h3 h4 h5 => l7Relay_any n v1 v2 cs ls a b w h1 h2 hc h3 h4 h5 hll)
  have H1 := Lib.hid h1
  have H2 := Lib.hid h2
  have HX := Lib.hid (Boxed.first w n g 28)
  have HRD := Lib.hid (show relOK n g cs a b ls = (askB n g cs a b && relF cs b a [] ls) from rfl)
  have HNO := Lib.hid (fun h => rel_no (n := n) (g := g) (cs := cs) (a := a) (b := b) (ls := ls) h)
  have HYE := Lib.hid (fun h => rel_yes (n := n) (g := g) (cs := cs) (a := a) (b := b) (ls := ls) h)
  have HRA := Lib.hid (fun h => rel_all (n := n) (g := g) (cs := cs) (a := a) (b := b) (ls := ls) h)
  obtain ⟨y1, c1, hv1, _, hm1, _⟩ := h1
  subst hv1
  obtain ⟨y2, c2, hv2, _, hm2, _⟩ := h2
  subst hv2
  unfold maxLen at hm1 hm2
  clear hm1 hm2
  unfold rd at *
  go_enter Try.func44, Try.ntmps44
  go_wp2_with fail
  refine (HA.out _ (H1.out.below HX.out.below)).mono ?_
  rintro e w1 ⟨rfl, hb⟩
  replace HX := Lib.hid (HX.out.next hb)
  clear hb
  have h0 := HX.out.c0
  have h1 := HX.out.c1
  cases hk : askB n g cs a b
  · have HE := Lib.hid (HNO.out (by rw [HRD.out, hk]; rfl))
    clear hk
    go_wp2_with fail
    go_ret2
    exact ⟨ret_int_bool (by rw [HE.out.1]) (by rw [HE.out.1]), HX.out.below⟩
  · have HK := Lib.hid hk
    have HOK := Lib.hid (ask_ok hk)
    have hg := (ask_ok hk).1
    subst hg
    have hn24 := HOK.out.2.1.1.2
    clear hk
    go_wp2_with fail
    refine (HL.out _ (H1.out.below HX.out.below) (H2.out.below HX.out.below) HOK.out.2.1 HOK.out.2.2.1 HOK.out.2.2.2.1 HOK.out.2.2.2.2).mono ?_
    generalize hrel9 : relF cs b a [] ls = rl
    have HR9 := Lib.hid hrel9
    clear hrel9
    rintro e w2 ⟨rfl, hb⟩
    replace HX := Lib.hid (HX.out.next hb)
    clear hb h0 h1
    cases rl
    · have HE := Lib.hid (HNO.out (by rw [HRD.out, HK.out, HR9.out]; rfl))
      go_wp2_with fail
      go_ret2
      exact ⟨ret_int_bool (by rw [HE.out.1]) (by rw [HE.out.1]), HX.out.below⟩
    have HE := Lib.hid (HYE.out (by rw [HRD.out, HK.out, HR9.out]; rfl))
    have HAL := Lib.hid (HRA.out (by rw [HRD.out, HK.out, HR9.out]; rfl))
    go_wp2_with fail
    go_loopw [12, 13] (fun s i wr => PrRel n cs ls w.heap.size w s i wr) (fun _ i _ => ls.length - (intOf i).toNat)
    case atStart => exact ⟨HX.out, 0, Nat.zero_le _, rfl, rfl⟩
    case round =>
      obtain ⟨hx, j, hj, rfl, rfl⟩ := hrel
      clear HX
      have HX := Lib.hid hx
      clear hx
      by_cases hlt : j < ls.length
      · obtain ⟨⟨lk, la, lb⟩, hlj⟩ := get_lg hlt
        obtain ⟨b2, o2, rfl, hbl2, g0, g1, g2⟩ := legs_in H2.out hlj
        have HRG := Lib.hid (prc_range HAL.out.1 HAL.out.2 j (by omega))
        have HNX := Lib.hid (prcK_next3 (cs := cs) hlj)
        have HLC := Lib.hid (leg_cost3 HAL.out.1 (HAL.out.2 j _ hlj))
        have hlo := HAL.out.2 j _ hlj
        have HLO := Lib.hid hlo
        have hk0 : 0 ≤ lk := hlo.k0
        have hkn : lk < (cs.length : Int) := hlo.kn
        have ha0 : 0 ≤ la := hlo.a0
        have hab0 : la < lb := hlo.ab
        have hbn0 : lb < n := hlo.bn
        obtain ⟨q, rfl⟩ := int_nat hk0
        obtain ⟨kc, hkc⟩ := get_cr (cs := cs) (k := q) (by omega)
        obtain ⟨b1, o1, rfl, _, _, hbl1, k0, k1, k2⟩ := carriers_at H1.out hkc
        have HCA := Lib.hid (crAt_some hkc)
        have HCW := Lib.hid (HOK.out.2.1.2.2 q kc hkc)
        rw [HCA.out] at HNX HLC
        have hlc := HLC.out.2
        have hmc : stpI kc la lb * kc.f = kc.f * stpI kc la lb := Int.mul_comm _ _
        have hap9 := appI_range (c := kc) (n := n) (x := la) ⟨HCW.out.s0, HCW.out.sn⟩ ⟨ha0, by omega⟩
        have G0 := Lib.hid (show w.cell? ⟨b2, o2 + j * 3, none⟩ = some (.int .i64 (q : Int)) from g0)
        have G1 := Lib.hid (show w.cell? ⟨b2, o2 + j * 3 + 1, none⟩ = some (.int .i64 la) from g1)
        have G2 := Lib.hid (show w.cell? ⟨b2, o2 + j * 3 + 2, none⟩ = some (.int .i64 lb) from g2)
        have K0 := Lib.hid k0
        have K1 := Lib.hid k1
        have K2 := Lib.hid k2
        have hi0 : 0 ≤ (j : Int) := by omega
        have hi1 : (j : Int) < ls.length := by omega
        have hq0 : 0 ≤ (q : Int) := by omega
        have g0 := (HX.out.below.cell (p := ⟨b2, o2 + j * 3, none⟩) hbl2).trans G0.out
        have k0 := (HX.out.below.cell (p := ⟨b1, o1 + q * 3, none⟩) hbl1).trans K0.out
        have k1 := (HX.out.below.cell (p := ⟨b1, o1 + q * 3 + 1, none⟩) hbl1).trans K1.out
        have k2 := (HX.out.below.cell (p := ⟨b1, o1 + q * 3 + 2, none⟩) hbl1).trans K2.out
        clear hlj g1 g2 hkc hlo
        generalize hst : stpI kc la lb = st at *
        have hpr := HRG.out
        generalize hpk : prcK cs ls j = pk at *
        have w1 : IntKind.i64.wrap (kc.f * st) = kc.f * st := IntWalk.i64_in _ (by omega)
        have w2 : IntKind.i64.wrap (pk + kc.f * st) = pk + kc.f * st := IntWalk.i64_in _ (by omega)
        have HX := Lib.hid (HX.out.next (below_new wr (.cells #[.int .i64 kc.s, .int .i64 kc.r, .int .i64 kc.f] 38)))
        have HKB := Lib.hid (blk_new wr #[.int .i64 kc.s, .int .i64 kc.r, .int .i64 kc.f] 38)
        have HS2 := Lib.hid (by have := HST.out kc la lb; rwa [hst] at this : ∀ w, CrWk n kc → (0 ≤ la ∧ la < n) → (0 ≤ lb ∧ lb < n) → Calls Try.prog 88 #[rd n false, crv kc, .int .i64 la, .int .i64 lb] w fun e w' => e = .returned (.int .i64 st) ∧ Below w.heap.size w w')
        unfold rd crv at HS2
        have HPK := Lib.hid hpk
        clear hst hpk
        go_wp2_with fail
        refine wp_region_noPanic ?_
        have HX := Lib.hid (HX.out.next (below_drewN _ 1))
        have HKB := Lib.hid (HKB.out.below (below_drewN _ 1))
        refine wp_region_held_drew (S := fun w' => (Boxed w.heap.size n false w w' ∧ Blk w' wr.heap.size #[.int .i64 kc.s, .int .i64 kc.r, .int .i64 kc.f] 38) ∧ w'.cell? ⟨w.heap.size, 0, none⟩ = some (.int .i64 n) ∧ w'.cell? ⟨w.heap.size, 1, none⟩ = some (.bool false) ∧ w'.cell? ⟨wr.heap.size, 0, none⟩ = some (.int .i64 kc.s) ∧ w'.cell? ⟨wr.heap.size, 1, none⟩ = some (.int .i64 kc.r) ∧ w'.cell? ⟨wr.heap.size, 2, none⟩ = some (.int .i64 kc.f) ∧ w'.cell? ⟨b2, o2 + j * 3 + 1, none⟩ = some (.int .i64 la) ∧ w'.cell? ⟨b2, o2 + j * 3 + 2, none⟩ = some (.int .i64 lb)) (by kernel_rfl) (⟨⟨HX.out, HKB.out⟩, HX.out.c0, HX.out.c1, HKB.out.cell 0, HKB.out.cell 1, HKB.out.cell 2, (HX.out.below.cell (p := ⟨b2, o2 + j * 3 + 1, none⟩) hbl2).trans G1.out, (HX.out.below.cell (p := ⟨b2, o2 + j * 3 + 2, none⟩) hbl2).trans G2.out⟩) (fun hHeld => ?_)
        refine wpAnyH_take (i := 0) (oi := _) (v := ?_) rfl (by kernel_rfl) (by kernel_rfl) (by kernel_rfl) (fun _ _ _ h => h) (Or.inl ⟨by rfl, ?_⟩) (by assumption) ?_
        rotate_left
        · (intro w hSw; (try dsimp only at hSw); (first | (go_simp; done) | (go_simp; with_reducible rfl)))
        simp only [Act.put, List.getElem_toArray, List.getElem_cons_succ, List.getElem_cons_zero, List.setIfInBounds_toArray, List.set_cons_zero, List.set_cons_succ]
        refine wpAnyH_take (i := 1) (oi := _) (v := ?_) rfl (by kernel_rfl) (by kernel_rfl) (by kernel_rfl) (fun _ _ _ h => h) (Or.inl ⟨by rfl, ?_⟩) (by assumption) ?_
        rotate_left
        · (intro w hSw; (try dsimp only at hSw); (first | (go_simp; done) | (go_simp; with_reducible rfl)))
        simp only [Act.put, List.getElem_toArray, List.getElem_cons_succ, List.getElem_cons_zero, List.setIfInBounds_toArray, List.set_cons_zero, List.set_cons_succ]
        refine wpAnyH_take (i := 2) (oi := _) (v := ?_) rfl (by kernel_rfl) (by kernel_rfl) (by kernel_rfl) (fun _ _ _ h => h) (Or.inl ⟨by rfl, ?_⟩) (by assumption) ?_
        rotate_left
        · (intro w hSw; (try dsimp only at hSw); (first | (go_simp; done) | (go_simp; with_reducible rfl)))
        simp only [Act.put, List.getElem_toArray, List.getElem_cons_succ, List.getElem_cons_zero, List.setIfInBounds_toArray, List.set_cons_zero, List.set_cons_succ]
        refine wpAnyH_take (i := 3) (oi := _) (v := ?_) rfl (by kernel_rfl) (by kernel_rfl) (by kernel_rfl) (fun _ _ _ h => h) (Or.inl ⟨by rfl, ?_⟩) (by assumption) ?_
        rotate_left
        · (intro w hSw; (try dsimp only at hSw); (first | (go_simp; done) | (go_simp; with_reducible rfl)))
        simp only [Act.put, List.getElem_toArray, List.getElem_cons_succ, List.getElem_cons_zero, List.setIfInBounds_toArray, List.set_cons_zero, List.set_cons_succ]
        refine wpAnyH_take (i := 4) (oi := _) (v := ?_) rfl (by kernel_rfl) (by kernel_rfl) (by kernel_rfl) (fun _ _ _ h => h) (Or.inl ⟨by rfl, ?_⟩) (by assumption) ?_
        rotate_left
        · (intro w hSw; (try dsimp only at hSw); (first | (go_simp; done) | (go_simp; with_reducible rfl)))
        simp only [Act.put, List.getElem_toArray, List.getElem_cons_succ, List.getElem_cons_zero, List.setIfInBounds_toArray, List.set_cons_zero, List.set_cons_succ]
        refine wpAnyH_take (i := 5) (oi := _) (v := ?_) rfl (by kernel_rfl) (by kernel_rfl) (by kernel_rfl) (fun _ _ _ h => h) (Or.inl ⟨by rfl, ?_⟩) (by assumption) ?_
        rotate_left
        · (intro w hSw; (try dsimp only at hSw); (first | (go_simp; done) | (go_simp; with_reducible rfl)))
        simp only [Act.put, List.getElem_toArray, List.getElem_cons_succ, List.getElem_cons_zero, List.setIfInBounds_toArray, List.set_cons_zero, List.set_cons_succ]
        refine wpAnyH_take (i := 6) (oi := _) (v := ?_) rfl (by kernel_rfl) (by kernel_rfl) (by kernel_rfl) (fun _ _ _ h => h) (Or.inl ⟨by rfl, ?_⟩) (by assumption) ?_
        rotate_left
        · (intro w hSw; (try dsimp only at hSw); (first | (go_simp; done) | (go_simp; with_reducible rfl)))
        simp only [Act.put, List.getElem_toArray, List.getElem_cons_succ, List.getElem_cons_zero, List.setIfInBounds_toArray, List.set_cons_zero, List.set_cons_succ]
        refine wpAnyH_take (i := 7) (oi := _) (v := ?_) rfl (by kernel_rfl) (by kernel_rfl) (by kernel_rfl) (fun _ _ _ h => h) (Or.inl ⟨by rfl, ?_⟩) (by assumption) ?_
        rotate_left
        · (intro w hSw; (try dsimp only at hSw); (first | (go_simp; done) | (go_simp; with_reducible rfl)))
        simp only [Act.put, List.getElem_toArray, List.getElem_cons_succ, List.getElem_cons_zero, List.setIfInBounds_toArray, List.set_cons_zero, List.set_cons_succ]
        refine wpAnyH_take (i := 8) (oi := _) (v := ?_) rfl (by kernel_rfl) (by kernel_rfl) (by kernel_rfl) (fun _ _ _ h => h) (Or.inl ⟨by rfl, ?_⟩) (by assumption) ?_
        rotate_left
        · (intro w hSw; (try dsimp only at hSw); (first | (go_simp; done) | (go_simp; with_reducible rfl)))
        simp only [Act.put, List.getElem_toArray, List.getElem_cons_succ, List.getElem_cons_zero, List.setIfInBounds_toArray, List.set_cons_zero, List.set_cons_succ]
        refine wpAnyH_take (i := 9) (oi := _) (v := ?_) rfl (by kernel_rfl) (by kernel_rfl) (by kernel_rfl) (fun _ _ _ h => h) (Or.inl ⟨by rfl, ?_⟩) (by assumption) ?_
        rotate_left
        · (intro w hSw; (try dsimp only at hSw); (first | (go_simp; done) | (go_simp; with_reducible rfl)))
        simp only [Act.put, List.getElem_toArray, List.getElem_cons_succ, List.getElem_cons_zero, List.setIfInBounds_toArray, List.set_cons_zero, List.set_cons_succ]
        refine wpAnyH_take (i := 10) (oi := _) (v := ?_) rfl (by kernel_rfl) (by kernel_rfl) (by kernel_rfl) (fun _ _ _ h => h) (Or.inl ⟨by rfl, ?_⟩) (by assumption) ?_
        rotate_left
        · (intro w hSw; (try dsimp only at hSw); (first | (go_simp; done) | (go_simp; with_reducible rfl)))
        simp only [Act.put, List.getElem_toArray, List.getElem_cons_succ, List.getElem_cons_zero, List.setIfInBounds_toArray, List.set_cons_zero, List.set_cons_succ]
        refine wpAnyH_take (i := 11) (oi := _) (v := ?_) rfl (by kernel_rfl) (by kernel_rfl) (by kernel_rfl) (fun _ _ _ h => h) (Or.inl ⟨by rfl, ?_⟩) (by assumption) ?_
        rotate_left
        · (intro w hSw; (try dsimp only at hSw); (first | (go_simp; done) | (go_simp; with_reducible rfl)))
        simp only [Act.put, List.getElem_toArray, List.getElem_cons_succ, List.getElem_cons_zero, List.setIfInBounds_toArray, List.set_cons_zero, List.set_cons_succ]
        refine wpAnyH_take (i := 12) (oi := _) (v := ?_) rfl (by kernel_rfl) (by kernel_rfl) (by kernel_rfl) (fun _ _ _ h => h) (Or.inl ⟨by rfl, ?_⟩) (by assumption) ?_
        rotate_left
        · (intro w hSw; (try dsimp only at hSw); (first | (go_simp; done) | (go_simp; with_reducible rfl)))
        simp only [Act.put, List.getElem_toArray, List.getElem_cons_succ, List.getElem_cons_zero, List.setIfInBounds_toArray, List.set_cons_zero, List.set_cons_succ]
        refine wpAnyH_take (i := 13) (oi := _) (v := ?_) rfl (by kernel_rfl) (by kernel_rfl) (by kernel_rfl) (fun _ _ _ h => h) (Or.inl ⟨by rfl, ?_⟩) (by assumption) ?_
        rotate_left
        · (intro w hSw; (try dsimp only at hSw); (first | (go_simp; done) | (go_simp; with_reducible rfl)))
        simp only [Act.put, List.getElem_toArray, List.getElem_cons_succ, List.getElem_cons_zero, List.setIfInBounds_toArray, List.set_cons_zero, List.set_cons_succ]
        refine wpAnyH_take (i := 14) (oi := _) (v := ?_) rfl (by kernel_rfl) (by kernel_rfl) (by kernel_rfl) (fun _ _ _ h => h) (Or.inl ⟨by rfl, ?_⟩) (by assumption) ?_
        rotate_left
        · (intro w hSw; (try dsimp only at hSw); (first | (go_simp; done) | (go_simp; with_reducible rfl)))
        simp only [Act.put, List.getElem_toArray, List.getElem_cons_succ, List.getElem_cons_zero, List.setIfInBounds_toArray, List.set_cons_zero, List.set_cons_succ]
        refine wpAnyH_ready (rs := [15]) (by kernel_rfl) (by simp) ?_
        refine AllReadyH.cons rfl (fun K hK => ?_) AllReadyH.nil
        go_simp
        refine (HS2.out _ HCW.out (by omega) (by omega)).mono ?_
        rintro e w21 ⟨rfl, hb⟩
        have HX := Lib.hid (HX.out.next hb)
        have HKB := Lib.hid (HKB.out.below hb)
        clear hb
        clear hHeld
        try go_wp2_with fail
        refine hK.out _ _ (⟨⟨HX.out, HKB.out⟩, HX.out.c0, HX.out.c1, HKB.out.cell 0, HKB.out.cell 1, HKB.out.cell 2, (HX.out.below.cell (p := ⟨b2, o2 + j * 3 + 1, none⟩) hbl2).trans G1.out, (HX.out.below.cell (p := ⟨b2, o2 + j * 3 + 2, none⟩) hbl2).trans G2.out⟩) (fun hHeld => ?_)
        clear hK K
        refine wpAnyH_take (i := 16) (oi := _) (v := ?_) rfl (by kernel_rfl) (by kernel_rfl) (by kernel_rfl) (fun _ _ _ h => h) (Or.inl ⟨by rfl, ?_⟩) (by assumption) ?_
        rotate_left
        · (intro w hSw; (try dsimp only at hSw); (first | (go_simp; done) | (go_simp; with_reducible rfl)))
        simp only [Act.put, List.getElem_toArray, List.getElem_cons_succ, List.getElem_cons_zero, List.setIfInBounds_toArray, List.set_cons_zero, List.set_cons_succ]
        refine wpAnyH_take (i := 17) (oi := _) (v := ?_) rfl (by kernel_rfl) (by kernel_rfl) (by kernel_rfl) (fun _ _ _ h => h) (Or.inl ⟨by rfl, ?_⟩) (by assumption) ?_
        rotate_left
        · (intro w hSw; (try dsimp only at hSw); (first | (go_simp; done) | (go_simp; with_reducible rfl)))
        simp only [Act.put, List.getElem_toArray, List.getElem_cons_succ, List.getElem_cons_zero, List.setIfInBounds_toArray, List.set_cons_zero, List.set_cons_succ]
        refine wpAnyH_take (i := 18) (oi := _) (v := ?_) rfl (by kernel_rfl) (by kernel_rfl) (by kernel_rfl) (fun _ _ _ h => h) (Or.inl ⟨by rfl, ?_⟩) (by assumption) ?_
        rotate_left
        · (intro w hSw; (try dsimp only at hSw); (first | (go_simp; done) | (go_simp; with_reducible rfl)))
        simp only [Act.put, List.getElem_toArray, List.getElem_cons_succ, List.getElem_cons_zero, List.setIfInBounds_toArray, List.set_cons_zero, List.set_cons_succ]
        refine wpAnyH_done (by kernel_rfl) ?_ _
        refine NoPanic.normal ?_
        clear hHeld
        go_wp2_with fail
        go_roundw
        case rel => exact ⟨HX.out, j + 1, by omega, by go_num, by rw [HNX.out, hmc]⟩
        case measure => simp [intOf]; omega
      · have hje : j = ls.length := by omega
        subst hje
        go_wp2_with fail
        go_ret2
        exact ⟨ret_int_bool (by rw [HE.out.1]) (by rw [HE.out.1]), HX.out.below⟩
end Go.Proofs.Ytgchodielkodeaa
