/-
  What is proved: the arrival of a relay, of the model. Conditions: lists that read as carriers and as legs.
-/
import Derived.Test.YtgchodielkodeaaRlp
namespace Go.Proofs.Ytgchodielkodeaa
open Go.RowKit
set_option linter.unusedVariables false
set_option linter.unusedSimpArgs false

set_option maxHeartbeats 800000 in
theorem l7Arrive_any (n : Int) (c : Cr) (z x y : Int) (w : World) (h : CrWk n c) (hx : 0 ≤ x ∧ x < n) (hy : 0 ≤ y ∧ y < n) (hz : 0 ≤ z ∧ z ≤ 1000000000) :
    Calls Try.prog 91 #[rd n false, crv c, .int .i64 z, .int .i64 x, .int .i64 y] w fun e w' => e = .returned (.int .i64 (max z (appI c x) + y - x)) ∧ Below w.heap.size w w' := by
  have HG := Lib.hid (fun w => (by have := l2Gap_any n false c.s x w ⟨by have := h.n2; omega, h.n24⟩ ⟨h.s0, by have := h.sn; omega⟩ ⟨hx.1, by omega⟩; rwa [gap_app] at this : Calls Try.prog 111 #[rd n false, .int .i64 c.s, .int .i64 x] w fun e w' => e = .returned (.int .i64 (appI c x)) ∧ Below w.heap.size w w'))
  have HM := Lib.hid (fun a b w => l1Most_any a b w)
  have hap := appI_range (c := c) ⟨h.s0, h.sn⟩ hx
  have HX := Lib.hid ((Boxed.first w n false 28).next (below_new _ (.cells (crc c) 38)))
  have hn := h.n24
  have HB := Lib.hid (blk_at (w.alloc (.cells #[.int .i64 n, .bool false] 28)) (crc c) 38 (w.heap.size + 1) (by simp))
  unfold crv crc rd at *
  generalize appI c x = ap at *
  have hmx : 0 ≤ max z ap ∧ max z ap ≤ 1000000000 := by omega
  have w1 : IntKind.i64.wrap (max z ap + y) = max z ap + y := IntWalk.i64_in _ (by omega)
  have w2 : IntKind.i64.wrap (max z ap + y - x) = max z ap + y - x := IntWalk.i64_in _ (by omega)
  go_enter Try.func91, Try.ntmps91
  go_wp2_with fail
  refine (HG.out _).mono ?_
  rintro e w3 ⟨rfl, hb⟩
  replace HX := Lib.hid (HX.out.next hb)
  clear hb
  go_wp2_with fail
  refine (HM.out _ _ _).mono ?_
  rintro e w4 ⟨rfl, rfl⟩
  go_wp2_with fail
  go_ret
  exact ⟨ret_int (by omega), HX.out.below⟩
def ArvRel (n : Int) (cs : List Cr) (ls : List Lg) (base : Nat) (w : World) (s i : Value) (wr : World) : Prop :=
  Boxed base n false w wr ∧ ∃ j : Nat, j ≤ ls.length ∧ i = .int .i64 j ∧ s = .int .i64 (arrK cs ls j)
set_option maxHeartbeats 1600000 in
set_option maxRecDepth 20000 in
theorem spec_RelayArrival (n : Int) (g : Bool) (v1 : Value) (cs : List Cr) (a b : Int) (v2 : Value) (ls : List Lg) (w : World) (h1 : ReadsC w v1 cs) (h2 : ReadsG w v2 ls) (hll : ls.length ≤ 1048576) :
    Calls Try.prog 46 #[rd n g, v1, .int .i64 a, .int .i64 b, v2] w fun e w' => e = .returned (.tuple #[.int .i64 (rarriveR n g cs a b ls).1, .bool (rarriveR n g cs a b ls).2]) ∧ Below w.heap.size w w' := by
  have HAV := Lib.hid (fun c z x y w h hx hy hz => l7Arrive_any n c z x y w h hx hy hz)
  have HA := Lib.hid (fun w hv => l7Asks_any n g v1 cs a b w hv)
  have HL := Lib.hid (fun w h1 h2 hc h3 h4 h5 => l7Relay_any n v1 v2 cs ls a b w h1 h2 hc h3 h4 h5 hll)
  have H1 := Lib.hid h1
  have H2 := Lib.hid h2
  have HX := Lib.hid (Boxed.first w n g 28)
  have HRD := Lib.hid (show relOK n g cs a b ls = (askB n g cs a b && relF cs b a [] ls) from rfl)
  have HNO := Lib.hid (fun h => rel_no (n := n) (g := g) (cs := cs) (a := a) (b := b) (ls := ls) h)
  have HYE := Lib.hid (fun h => rel_yes (n := n) (g := g) (cs := cs) (a := a) (b := b) (ls := ls) h)
  have HRA := Lib.hid (fun h => rel_all (n := n) (g := g) (cs := cs) (a := a) (b := b) (ls := ls) h)
  obtain ⟨y1, c1, hv1, _, hm1, _⟩ := h1
  subst hv1
  obtain ⟨y2, c2, hv2, _, hm2, _⟩ := h2
  subst hv2
  unfold maxLen at hm1 hm2
  clear hm1 hm2
  unfold rd at *
  go_enter Try.func46, Try.ntmps46
  go_wp2_with fail
  refine (HA.out _ (H1.out.below HX.out.below)).mono ?_
  rintro e w1 ⟨rfl, hb⟩
  replace HX := Lib.hid (HX.out.next hb)
  clear hb
  have h0 := HX.out.c0
  have h1 := HX.out.c1
  cases hk : askB n g cs a b
  · have HE := Lib.hid (HNO.out (by rw [HRD.out, hk]; rfl))
    clear hk
    go_wp2_with fail
    go_ret2
    exact ⟨ret_int_bool (by rw [HE.out.2]) (by rw [HE.out.2]), HX.out.below⟩
  · have HK := Lib.hid hk
    have HOK := Lib.hid (ask_ok hk)
    have hg := (ask_ok hk).1
    subst hg
    have hn24 := HOK.out.2.1.1.2
    clear hk
    go_wp2_with fail
    refine (HL.out _ (H1.out.below HX.out.below) (H2.out.below HX.out.below) HOK.out.2.1 HOK.out.2.2.1 HOK.out.2.2.2.1 HOK.out.2.2.2.2).mono ?_
    generalize hrel9 : relF cs b a [] ls = rl
    have HR9 := Lib.hid hrel9
    clear hrel9
    rintro e w2 ⟨rfl, hb⟩
    replace HX := Lib.hid (HX.out.next hb)
    clear hb h0 h1
    cases rl
    · have HE := Lib.hid (HNO.out (by rw [HRD.out, HK.out, HR9.out]; rfl))
      go_wp2_with fail
      go_ret2
      exact ⟨ret_int_bool (by rw [HE.out.2]) (by rw [HE.out.2]), HX.out.below⟩
    have HE := Lib.hid (HYE.out (by rw [HRD.out, HK.out, HR9.out]; rfl))
    have HAL := Lib.hid (HRA.out (by rw [HRD.out, HK.out, HR9.out]; rfl))
    go_wp2_with fail
    go_loopw [12, 13] (fun s i wr => ArvRel n cs ls w.heap.size w s i wr) (fun _ i _ => ls.length - (intOf i).toNat)
    case atStart => exact ⟨HX.out, 0, Nat.zero_le _, rfl, rfl⟩
    case round =>
      obtain ⟨hx, j, hj, rfl, rfl⟩ := hrel
      clear HX
      have HX := Lib.hid hx
      clear hx
      by_cases hlt : j < ls.length
      · obtain ⟨⟨lk, la, lb⟩, hlj⟩ := get_lg hlt
        obtain ⟨b2, o2, rfl, hbl2, g0, g1, g2⟩ := legs_in H2.out hlj
        have HRG := Lib.hid (arr_range HAL.out.1 HAL.out.2 j (by omega))
        have HNX := Lib.hid (arrK_next3 (cs := cs) hlj)
        have HLC := Lib.hid (leg_cost3 HAL.out.1 (HAL.out.2 j _ hlj))
        have hlo := HAL.out.2 j _ hlj
        have HLO := Lib.hid hlo
        have hk0 : 0 ≤ lk := hlo.k0
        have hkn : lk < (cs.length : Int) := hlo.kn
        have ha0 : 0 ≤ la := hlo.a0
        have hab0 : la < lb := hlo.ab
        have hbn0 : lb < n := hlo.bn
        obtain ⟨q, rfl⟩ := int_nat hk0
        obtain ⟨kc, hkc⟩ := get_cr (cs := cs) (k := q) (by omega)
        obtain ⟨b1, o1, rfl, _, _, hbl1, k0, k1, k2⟩ := carriers_at H1.out hkc
        have HCA := Lib.hid (crAt_some hkc)
        have HCW := Lib.hid (HOK.out.2.1.2.2 q kc hkc)
        rw [HCA.out] at HNX HLC
        have hlc := HLC.out.2
        have hmc : stpI kc la lb * kc.f = kc.f * stpI kc la lb := Int.mul_comm _ _
        have hap9 := appI_range (c := kc) (n := n) (x := la) ⟨HCW.out.s0, HCW.out.sn⟩ ⟨ha0, by omega⟩
        have G0 := Lib.hid (show w.cell? ⟨b2, o2 + j * 3, none⟩ = some (.int .i64 (q : Int)) from g0)
        have G1 := Lib.hid (show w.cell? ⟨b2, o2 + j * 3 + 1, none⟩ = some (.int .i64 la) from g1)
        have G2 := Lib.hid (show w.cell? ⟨b2, o2 + j * 3 + 2, none⟩ = some (.int .i64 lb) from g2)
        have K0 := Lib.hid k0
        have K1 := Lib.hid k1
        have K2 := Lib.hid k2
        have hi0 : 0 ≤ (j : Int) := by omega
        have hi1 : (j : Int) < ls.length := by omega
        have hq0 : 0 ≤ (q : Int) := by omega
        have g0 := (HX.out.below.cell (p := ⟨b2, o2 + j * 3, none⟩) hbl2).trans G0.out
        have k0 := (HX.out.below.cell (p := ⟨b1, o1 + q * 3, none⟩) hbl1).trans K0.out
        have k1 := (HX.out.below.cell (p := ⟨b1, o1 + q * 3 + 1, none⟩) hbl1).trans K1.out
        have k2 := (HX.out.below.cell (p := ⟨b1, o1 + q * 3 + 2, none⟩) hbl1).trans K2.out
        clear hlj g1 g2 hkc hlo
        have hpr := HRG.out
        have HAV2 := Lib.hid (HAV.out kc)
        unfold rd crv at HAV2
        have HZB := Lib.hid (show 0 ≤ arrK cs ls j ∧ arrK cs ls j ≤ 1000000000 by omega)
        generalize arrK cs ls j = pk at *
        clear g0 k0 k1 k2
        go_wp2_with fail
        refine wp_region_noPanic ?_
        have HX := Lib.hid (HX.out.next (below_drewN _ 1))
        refine wp_region_held_drew (S := fun w' => Boxed w.heap.size n false w w' ∧ w'.cell? ⟨w.heap.size, 0, none⟩ = some (.int .i64 n) ∧ w'.cell? ⟨w.heap.size, 1, none⟩ = some (.bool false) ∧ w'.cell? ⟨b1, o1 + q * 3, none⟩ = some (.int .i64 kc.s) ∧ w'.cell? ⟨b1, o1 + q * 3 + 1, none⟩ = some (.int .i64 kc.r) ∧ w'.cell? ⟨b1, o1 + q * 3 + 2, none⟩ = some (.int .i64 kc.f) ∧ w'.cell? ⟨b2, o2 + j * 3, none⟩ = some (.int .i64 (q : Int)) ∧ w'.cell? ⟨b2, o2 + j * 3 + 1, none⟩ = some (.int .i64 la) ∧ w'.cell? ⟨b2, o2 + j * 3 + 2, none⟩ = some (.int .i64 lb)) (by kernel_rfl) (⟨HX.out, HX.out.c0, HX.out.c1, (HX.out.below.cell (p := ⟨b1, o1 + q * 3, none⟩) hbl1).trans K0.out, (HX.out.below.cell (p := ⟨b1, o1 + q * 3 + 1, none⟩) hbl1).trans K1.out, (HX.out.below.cell (p := ⟨b1, o1 + q * 3 + 2, none⟩) hbl1).trans K2.out, (HX.out.below.cell (p := ⟨b2, o2 + j * 3, none⟩) hbl2).trans G0.out, (HX.out.below.cell (p := ⟨b2, o2 + j * 3 + 1, none⟩) hbl2).trans G1.out, (HX.out.below.cell (p := ⟨b2, o2 + j * 3 + 2, none⟩) hbl2).trans G2.out⟩) (fun hHeld => ?_)
        refine wpAnyH_take (i := 0) (oi := _) (v := ?_) rfl (by kernel_rfl) (by kernel_rfl) (by kernel_rfl) (fun _ _ _ h => h) (Or.inl ⟨by rfl, ?_⟩) (by assumption) ?_
        rotate_left
        · (intro w hSw; (try dsimp only at hSw); (first | (go_simp; done) | (go_simp; with_reducible rfl)))
        simp only [Act.put, List.getElem_toArray, List.getElem_cons_succ, List.getElem_cons_zero, List.setIfInBounds_toArray, List.set_cons_zero, List.set_cons_succ]
        refine wpAnyH_take (i := 1) (oi := _) (v := ?_) rfl (by kernel_rfl) (by kernel_rfl) (by kernel_rfl) (fun _ _ _ h => h) (Or.inl ⟨by rfl, ?_⟩) (by assumption) ?_
        rotate_left
        · (intro w hSw; (try dsimp only at hSw); (first | (go_simp; done) | (go_simp; with_reducible rfl)))
        simp only [Act.put, List.getElem_toArray, List.getElem_cons_succ, List.getElem_cons_zero, List.setIfInBounds_toArray, List.set_cons_zero, List.set_cons_succ]
        refine wpAnyH_take (i := 2) (oi := _) (v := ?_) rfl (by kernel_rfl) (by kernel_rfl) (by kernel_rfl) (fun _ _ _ h => h) (Or.inl ⟨by rfl, ?_⟩) (by assumption) ?_
        rotate_left
        · (intro w hSw; (try dsimp only at hSw); (first | (go_simp; done) | (go_simp; with_reducible rfl)))
        simp only [Act.put, List.getElem_toArray, List.getElem_cons_succ, List.getElem_cons_zero, List.setIfInBounds_toArray, List.set_cons_zero, List.set_cons_succ]
        refine wpAnyH_take (i := 3) (oi := _) (v := ?_) rfl (by kernel_rfl) (by kernel_rfl) (by kernel_rfl) (fun _ _ _ h => h) (Or.inl ⟨by rfl, ?_⟩) (by assumption) ?_
        rotate_left
        · (intro w hSw; (try dsimp only at hSw); (first | (go_simp; done) | (go_simp; with_reducible rfl)))
        simp only [Act.put, List.getElem_toArray, List.getElem_cons_succ, List.getElem_cons_zero, List.setIfInBounds_toArray, List.set_cons_zero, List.set_cons_succ]
        refine wpAnyH_take (i := 4) (oi := _) (v := ?_) rfl (by kernel_rfl) (by kernel_rfl) (by kernel_rfl) (fun _ _ _ h => h) (Or.inl ⟨by rfl, ?_⟩) (by assumption) ?_
        rotate_left
        · (intro w hSw; (try dsimp only at hSw); (first | (go_simp; done) | (go_simp; with_reducible rfl)))
        simp only [Act.put, List.getElem_toArray, List.getElem_cons_succ, List.getElem_cons_zero, List.setIfInBounds_toArray, List.set_cons_zero, List.set_cons_succ]
        refine wpAnyH_take (i := 5) (oi := _) (v := ?_) rfl (by kernel_rfl) (by kernel_rfl) (by kernel_rfl) (fun _ _ _ h => h) (Or.inl ⟨by rfl, ?_⟩) (by assumption) ?_
        rotate_left
        · (intro w hSw; (try dsimp only at hSw); (first | (go_simp; done) | (go_simp; with_reducible rfl)))
        simp only [Act.put, List.getElem_toArray, List.getElem_cons_succ, List.getElem_cons_zero, List.setIfInBounds_toArray, List.set_cons_zero, List.set_cons_succ]
        refine wpAnyH_take (i := 6) (oi := _) (v := ?_) rfl (by kernel_rfl) (by kernel_rfl) (by kernel_rfl) (fun _ _ _ h => h) (Or.inl ⟨by rfl, ?_⟩) (by assumption) ?_
        rotate_left
        · (intro w hSw; (try dsimp only at hSw); (first | (go_simp; done) | (go_simp; with_reducible rfl)))
        simp only [Act.put, List.getElem_toArray, List.getElem_cons_succ, List.getElem_cons_zero, List.setIfInBounds_toArray, List.set_cons_zero, List.set_cons_succ]
        refine wpAnyH_take (i := 7) (oi := _) (v := ?_) rfl (by kernel_rfl) (by kernel_rfl) (by kernel_rfl) (fun _ _ _ h => h) (Or.inl ⟨by rfl, ?_⟩) (by assumption) ?_
        rotate_left
        · (intro w hSw; (try dsimp only at hSw); (first | (go_simp; done) | (go_simp; with_reducible rfl)))
        simp only [Act.put, List.getElem_toArray, List.getElem_cons_succ, List.getElem_cons_zero, List.setIfInBounds_toArray, List.set_cons_zero, List.set_cons_succ]
        refine wpAnyH_take (i := 8) (oi := _) (v := ?_) rfl (by kernel_rfl) (by kernel_rfl) (by kernel_rfl) (fun _ _ _ h => h) (Or.inl ⟨by rfl, ?_⟩) (by assumption) ?_
        rotate_left
        · (intro w hSw; (try dsimp only at hSw); (first | (go_simp; done) | (go_simp; with_reducible rfl)))
        simp only [Act.put, List.getElem_toArray, List.getElem_cons_succ, List.getElem_cons_zero, List.setIfInBounds_toArray, List.set_cons_zero, List.set_cons_succ]
        refine wpAnyH_take (i := 9) (oi := _) (v := ?_) rfl (by kernel_rfl) (by kernel_rfl) (by kernel_rfl) (fun _ _ _ h => h) (Or.inl ⟨by rfl, ?_⟩) (by assumption) ?_
        rotate_left
        · (intro w hSw; (try dsimp only at hSw); (first | (go_simp; done) | (go_simp; with_reducible rfl)))
        simp only [Act.put, List.getElem_toArray, List.getElem_cons_succ, List.getElem_cons_zero, List.setIfInBounds_toArray, List.set_cons_zero, List.set_cons_succ]
        refine wpAnyH_take (i := 10) (oi := _) (v := ?_) rfl (by kernel_rfl) (by kernel_rfl) (by kernel_rfl) (fun _ _ _ h => h) (Or.inl ⟨by rfl, ?_⟩) (by assumption) ?_
        rotate_left
        · (intro w hSw; (try dsimp only at hSw); (first | (go_simp; done) | (go_simp; with_reducible rfl)))
        simp only [Act.put, List.getElem_toArray, List.getElem_cons_succ, List.getElem_cons_zero, List.setIfInBounds_toArray, List.set_cons_zero, List.set_cons_succ]
        refine wpAnyH_take (i := 11) (oi := _) (v := ?_) rfl (by kernel_rfl) (by kernel_rfl) (by kernel_rfl) (fun _ _ _ h => h) (Or.inl ⟨by rfl, ?_⟩) (by assumption) ?_
        rotate_left
        · (intro w hSw; (try dsimp only at hSw); (first | (go_simp; done) | (go_simp; with_reducible rfl)))
        simp only [Act.put, List.getElem_toArray, List.getElem_cons_succ, List.getElem_cons_zero, List.setIfInBounds_toArray, List.set_cons_zero, List.set_cons_succ]
        refine wpAnyH_take (i := 12) (oi := _) (v := ?_) rfl (by kernel_rfl) (by kernel_rfl) (by kernel_rfl) (fun _ _ _ h => h) (Or.inl ⟨by rfl, ?_⟩) (by assumption) ?_
        rotate_left
        · (intro w hSw; (try dsimp only at hSw); (first | (go_simp; done) | (go_simp; with_reducible rfl)))
        simp only [Act.put, List.getElem_toArray, List.getElem_cons_succ, List.getElem_cons_zero, List.setIfInBounds_toArray, List.set_cons_zero, List.set_cons_succ]
        refine wpAnyH_take (i := 13) (oi := _) (v := ?_) rfl (by kernel_rfl) (by kernel_rfl) (by kernel_rfl) (fun _ _ _ h => h) (Or.inl ⟨by rfl, ?_⟩) (by assumption) ?_
        rotate_left
        · (intro w hSw; (try dsimp only at hSw); (first | (go_simp; done) | (go_simp; with_reducible rfl)))
        simp only [Act.put, List.getElem_toArray, List.getElem_cons_succ, List.getElem_cons_zero, List.setIfInBounds_toArray, List.set_cons_zero, List.set_cons_succ]
        refine wpAnyH_take (i := 14) (oi := _) (v := ?_) rfl (by kernel_rfl) (by kernel_rfl) (by kernel_rfl) (fun _ _ _ h => h) (Or.inl ⟨by rfl, ?_⟩) (by assumption) ?_
        rotate_left
        · (intro w hSw; (try dsimp only at hSw); (first | (go_simp; done) | (go_simp; with_reducible rfl)))
        simp only [Act.put, List.getElem_toArray, List.getElem_cons_succ, List.getElem_cons_zero, List.setIfInBounds_toArray, List.set_cons_zero, List.set_cons_succ]
        refine wpAnyH_take (i := 15) (oi := _) (v := ?_) rfl (by kernel_rfl) (by kernel_rfl) (by kernel_rfl) (fun _ _ _ h => h) (Or.inl ⟨by rfl, ?_⟩) (by assumption) ?_
        rotate_left
        · (intro w hSw; (try dsimp only at hSw); (first | (go_simp; done) | (go_simp; with_reducible rfl)))
        simp only [Act.put, List.getElem_toArray, List.getElem_cons_succ, List.getElem_cons_zero, List.setIfInBounds_toArray, List.set_cons_zero, List.set_cons_succ]
        refine wpAnyH_take (i := 16) (oi := _) (v := ?_) rfl (by kernel_rfl) (by kernel_rfl) (by kernel_rfl) (fun _ _ _ h => h) (Or.inl ⟨by rfl, ?_⟩) (by assumption) ?_
        rotate_left
        · (intro w hSw; (try dsimp only at hSw); (first | (go_simp; done) | (go_simp; with_reducible rfl)))
        simp only [Act.put, List.getElem_toArray, List.getElem_cons_succ, List.getElem_cons_zero, List.setIfInBounds_toArray, List.set_cons_zero, List.set_cons_succ]
        refine wpAnyH_take (i := 17) (oi := _) (v := ?_) rfl (by kernel_rfl) (by kernel_rfl) (by kernel_rfl) (fun _ _ _ h => h) (Or.inl ⟨by rfl, ?_⟩) (by assumption) ?_
        rotate_left
        · (intro w hSw; (try dsimp only at hSw); (first | (go_simp; done) | (go_simp; with_reducible rfl)))
        simp only [Act.put, List.getElem_toArray, List.getElem_cons_succ, List.getElem_cons_zero, List.setIfInBounds_toArray, List.set_cons_zero, List.set_cons_succ]
        refine wpAnyH_take (i := 18) (oi := _) (v := ?_) rfl (by kernel_rfl) (by kernel_rfl) (by kernel_rfl) (fun _ _ _ h => h) (Or.inl ⟨by rfl, ?_⟩) (by assumption) ?_
        rotate_left
        · (intro w hSw; (try dsimp only at hSw); (first | (go_simp; done) | (go_simp; with_reducible rfl)))
        simp only [Act.put, List.getElem_toArray, List.getElem_cons_succ, List.getElem_cons_zero, List.setIfInBounds_toArray, List.set_cons_zero, List.set_cons_succ]
        refine wpAnyH_take (i := 19) (oi := _) (v := ?_) rfl (by kernel_rfl) (by kernel_rfl) (by kernel_rfl) (fun _ _ _ h => h) (Or.inl ⟨by rfl, ?_⟩) (by assumption) ?_
        rotate_left
        · (intro w hSw; (try dsimp only at hSw); (first | (go_simp; done) | (go_simp; with_reducible rfl)))
        simp only [Act.put, List.getElem_toArray, List.getElem_cons_succ, List.getElem_cons_zero, List.setIfInBounds_toArray, List.set_cons_zero, List.set_cons_succ]
        refine wpAnyH_ready (rs := [20]) (by kernel_rfl) (by simp) ?_
        refine AllReadyH.cons rfl (fun K hK => ?_) AllReadyH.nil
        go_simp
        refine (HAV2.out pk la lb _ HCW.out (by omega) (by omega) HZB.out).mono ?_
        rintro e w21 ⟨rfl, hb⟩
        have HX := Lib.hid (HX.out.next hb)
        clear hb
        clear hHeld
        try go_wp2_with fail
        refine hK.out _ _ (⟨HX.out, HX.out.c0, HX.out.c1, (HX.out.below.cell (p := ⟨b1, o1 + q * 3, none⟩) hbl1).trans K0.out, (HX.out.below.cell (p := ⟨b1, o1 + q * 3 + 1, none⟩) hbl1).trans K1.out, (HX.out.below.cell (p := ⟨b1, o1 + q * 3 + 2, none⟩) hbl1).trans K2.out, (HX.out.below.cell (p := ⟨b2, o2 + j * 3, none⟩) hbl2).trans G0.out, (HX.out.below.cell (p := ⟨b2, o2 + j * 3 + 1, none⟩) hbl2).trans G1.out, (HX.out.below.cell (p := ⟨b2, o2 + j * 3 + 2, none⟩) hbl2).trans G2.out⟩) (fun hHeld => ?_)
        clear hK K
        refine wpAnyH_take (i := 21) (oi := _) (v := ?_) rfl (by kernel_rfl) (by kernel_rfl) (by kernel_rfl) (fun _ _ _ h => h) (Or.inl ⟨by rfl, ?_⟩) (by assumption) ?_
        rotate_left
        · (intro w hSw; (try dsimp only at hSw); (first | (go_simp; done) | (go_simp; with_reducible rfl)))
        simp only [Act.put, List.getElem_toArray, List.getElem_cons_succ, List.getElem_cons_zero, List.setIfInBounds_toArray, List.set_cons_zero, List.set_cons_succ]
        refine wpAnyH_done (by kernel_rfl) ?_ _
        refine NoPanic.normal ?_
        clear hHeld
        go_wp2_with fail
        go_roundw
        case rel => exact ⟨HX.out, j + 1, by omega, by go_num, by rw [HNX.out]⟩
        case measure => simp [intOf]; omega
      · have hje : j = ls.length := by omega
        subst hje
        go_wp2_with fail
        go_ret2
        exact ⟨ret_int_bool (by rw [HE.out.2]) (by rw [HE.out.2]), HX.out.below⟩
end Go.Proofs.Ytgchodielkodeaa
