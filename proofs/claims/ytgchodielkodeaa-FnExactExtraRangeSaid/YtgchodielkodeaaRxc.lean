/-
  What is proved: an errand with greater ranges, the test of ExtraRange, and ExtraRange of the program. Conditions: lists that read as carriers.
-/
import Derived.Test.YtgchodielkodeaaRxb
import Derived.Test.YtgchodielkodeaaRxa
import Derived.Test.YtgchodielkodeaaRly
namespace Go.Proofs.Ytgchodielkodeaa
open Go.RowKit
set_option linter.unusedVariables false
set_option linter.unusedSimpArgs false

theorem own3_shape {w : World} {base n : Nat} {t : TypeId} {v : Value} {xs : List Value} (h : w.ownsRow base t 3 v n xs) : ∃ a c, v = .slice a n c ∧ (0 < n → ∃ g, a = some ⟨g, 0, none⟩ ∧ base ≤ g) := by
  rcases h.2 with ⟨rfl, rfl⟩ | ⟨g, cap, cur, rfl, hg, _⟩
  · exact ⟨none, 0, rfl, fun h => by omega⟩
  · exact ⟨_, cap, rfl, fun _ => ⟨g, rfl, hg⟩⟩
def StRel (n : Int) (g : Bool) (u : Value) (cs : List Cr) (a b e : Int) (base : Nat) (w : World) (i : Value) (wr : World) : Prop :=
  Below base w wr ∧ Blk wr base #[.int .i64 n, .bool g, u, .int .i64 a, .int .i64 b] 80 ∧ Blk wr (base + 1) #[.int .i64 0, .bool false, .slice none 0 0, .int .i64 0, .int .i64 0] 80 ∧
    ∃ j : Nat, j ≤ cs.length ∧ i = .int .i64 j ∧ wr.ownsRow (base + 2) 38 3 u cs.length (crCells (moreTo cs e j))
theorem st_done {w W : World} {base n2 : Nat} {t : TypeId} (x0 x1 x2 x3 x4 : Value) {y0 y1 y2 y3 y4 : Value} {v : Value} {xs : List Value} {t2 : TypeId} (hl : Below base w W) (h : Blk W (base + 1) #[y0, y1, y2, y3, y4] t) (ho : W.ownsRow (base + 2) t2 3 v n2 xs) :
    Blk (((((W.setCell ⟨base + 1, 0, none⟩ x0).setCell ⟨base + 1, 1, none⟩ x1).setCell ⟨base + 1, 2, none⟩ x2).setCell ⟨base + 1, 3, none⟩ x3).setCell ⟨base + 1, 4, none⟩ x4) (base + 1) #[x0, x1, x2, x3, x4] t ∧
    Below base w (((((W.setCell ⟨base + 1, 0, none⟩ x0).setCell ⟨base + 1, 1, none⟩ x1).setCell ⟨base + 1, 2, none⟩ x2).setCell ⟨base + 1, 3, none⟩ x3).setCell ⟨base + 1, 4, none⟩ x4) ∧
    (((((W.setCell ⟨base + 1, 0, none⟩ x0).setCell ⟨base + 1, 1, none⟩ x1).setCell ⟨base + 1, 2, none⟩ x2).setCell ⟨base + 1, 3, none⟩ x3).setCell ⟨base + 1, 4, none⟩ x4).ownsRow (base + 2) t2 3 v n2 xs := by
  refine ⟨?_, ((((hl.setCell (p := ⟨base + 1, 0, none⟩) (by simp) _).setCell (p := ⟨base + 1, 1, none⟩) (by simp) _).setCell (p := ⟨base + 1, 2, none⟩) (by simp) _).setCell (p := ⟨base + 1, 3, none⟩) (by simp) _).setCell (p := ⟨base + 1, 4, none⟩) (by simp) _, ?_⟩
  · have h0 : Blk (W.setCell ⟨base + 1, 0, none⟩ x0) (base + 1) #[x0, y1, y2, y3, y4] t := blk_setS (j := 0) x0 h
    have h1 : Blk ((W.setCell ⟨base + 1, 0, none⟩ x0).setCell ⟨base + 1, 1, none⟩ x1) (base + 1) #[x0, x1, y2, y3, y4] t := blk_setS (j := 1) x1 h0
    have h2 : Blk (((W.setCell ⟨base + 1, 0, none⟩ x0).setCell ⟨base + 1, 1, none⟩ x1).setCell ⟨base + 1, 2, none⟩ x2) (base + 1) #[x0, x1, x2, y3, y4] t := blk_setS (j := 2) x2 h1
    have h3 : Blk ((((W.setCell ⟨base + 1, 0, none⟩ x0).setCell ⟨base + 1, 1, none⟩ x1).setCell ⟨base + 1, 2, none⟩ x2).setCell ⟨base + 1, 3, none⟩ x3) (base + 1) #[x0, x1, x2, x3, y4] t := blk_setS (j := 3) x3 h2
    exact blk_setS (j := 4) x4 h3
  · have hne : v.ownBlock = none ∨ v.ownBlock ≠ some (base + 1) := by
      cases hv : v.ownBlock with
      | none => exact .inl rfl
      | some b =>
        right
        have := row3_block ho b hv
        intro e
        cases e
        omega
    exact ((((ho.kept (grown_set _ _ 0 x0) hne).kept (grown_set _ _ 1 x1) hne).kept (grown_set _ _ 2 x2) hne).kept (grown_set _ _ 3 x3) hne).kept (grown_set _ _ 4 x4) hne
set_option maxHeartbeats 1600000 in
set_option maxRecDepth 20000 in
theorem strengthened_any (n : Int) (g : Bool) (v : Value) (cs : List Cr) (a b : Int) (e : Nat) (w : World) (hv : ReadsC w v cs) (hl : cs.length ≤ 6) (hr : ∀ (j : Nat) c, cs[j]? = some c → 0 ≤ c.r ∧ c.r ≤ 1000) (he : e ≤ 1000) :
    Calls Try.prog 99 #[erV n g v a b, .int .i64 e] w fun en w' => ∃ u, en = .returned (erV n g u a b) ∧ ReadsC w' u (moreL cs e) ∧ Below w.heap.size w w' := by
  have HCL := Lib.hid (fun w hv => cloneC_any v cs w hv hl)
  have H1 := Lib.hid hv
  have HR := Lib.hid hr
  obtain ⟨y1, c1, hv1, _, hm1, _⟩ := hv
  subst hv1
  have HW := Lib.hid ((below_new w (.cells (erC n g (.slice y1 cs.length c1) a b) 80)).trans ((below_new _ (.cells #[.int .i64 0, .bool false, .slice none 0 0, .int .i64 0, .int .i64 0] 80)).mono (by simp)))
  have HB := Lib.hid ((blk_new w (erC n g (.slice y1 cs.length c1) a b) 80).below (below_new _ (.cells #[.int .i64 0, .bool false, .slice none 0 0, .int .i64 0, .int .i64 0] 80)))
  have HZ := Lib.hid (blk_at (w.alloc (.cells (erC n g (.slice y1 cs.length c1) a b) 80)) #[.int .i64 0, .bool false, .slice none 0 0, .int .i64 0, .int .i64 0] 80 (w.heap.size + 1) (by simp))
  clear hm1 hr
  unfold erV erC at *
  go_enter Try.func99, Try.ntmps99
  go_wp2_with fail
  refine (HCL.out _ (H1.out.below HW.out)).mono ?_
  rintro en w1 ⟨u, rfl, ho, hb⟩
  have HW1 := Lib.hid (HW.out.trans (hb.mono HW.out.size))
  have HB1 := Lib.hid (HB.out.below hb)
  have HZ1 := Lib.hid (HZ.out.below hb)
  have ho2 : w1.ownsRow (w.heap.size + 2) 38 3 u cs.length (crCells cs) := by
    have h := ho
    simp at h
    exact h
  obtain ⟨ua, uc, hus, hug⟩ := own3_shape ho2
  subst hus
  have HUG := Lib.hid hug
  have HO := Lib.hid ho2
  clear ho ho2 hb hug
  have e2 := HB1.out.cell 2
  have f2 := HB1.out.free 2
  have HST : Hid (StRel n g (.slice ua cs.length uc) cs a b e w.heap.size w (.int .i64 (0 : Nat)) (w1.setCell ⟨w.heap.size, 2, none⟩ (.slice ua cs.length uc))) := Lib.hid
    ⟨HW1.out.setCell (p := ⟨w.heap.size, 2, none⟩) (Nat.le_refl _) _, by have h := blk_setS (j := 2) (.slice ua cs.length uc) HB1.out; exact h, blk_setO _ HZ1.out (by omega), 0, Nat.zero_le _, rfl, by
      rw [moreTo_zero]
      exact HO.out.kept (grown_set _ _ 2 _) (by
        cases hq : (Value.slice ua cs.length uc).ownBlock with
        | none => exact .inl rfl
        | some bq =>
          right
          have := row3_block HO.out bq hq
          intro e
          cases e
          omega)⟩
  have s2 := HST.out.2.1.cell 2
  go_wp2_with fail
  go_loopw [13] (fun i wr => StRel n g (.slice ua cs.length uc) cs a b e w.heap.size w i wr) (fun i _ => cs.length - (intOf i).toNat)
  case atStart => exact HST.out
  case round =>
    obtain ⟨hw, hbk, hz, j, hj, rfl, ho⟩ := hrel
    clear HW HB HZ HW1 HB1 HZ1 HO HST
    have HW := Lib.hid hw
    have HB := Lib.hid hbk
    have HZ := Lib.hid hz
    have HO := Lib.hid ho
    clear hw hbk hz ho
    have b2 := HB.out.cell 2
    by_cases hlt : j < cs.length
    · obtain ⟨kc, hkc⟩ := get_cr hlt
      obtain ⟨gu, rfl, hgu⟩ := HUG.out (by omega)
      have hrg := HR.out j kc hkc
      have c9 := (HO.out.cellAt (j * 3 + 1) (by omega)).trans (moreTo_cell (e := (e : Int)) hkc)
      have f9 := HO.out.frozenAt (j * 3 + 1)
      have HSE := Lib.hid (show _ from by have h := (HO.out.stored (j * 3 + 1) (.int .i64 (kc.r + (e : Int)))).1; rw [moreTo_set hkc] at h; exact h)
      have hwr : IntKind.i64.wrap (kc.r + (e : Int)) = kc.r + (e : Int) := IntWalk.i64_in _ (by omega)
      have hi0 : 0 ≤ (j : Int) := by omega
      have hi1 : (j : Int) < cs.length := by omega
      have HGU := Lib.hid hgu
      clear hkc
      go_wp2_with fail
      go_roundw
      case rel => exact ⟨HW.out.setCell (p := ⟨gu, j * 3 + 1, none⟩) (by show w.heap.size ≤ gu; have := HGU.out; omega) _, blk_setO _ HB.out (by have := HGU.out; omega), blk_setO _ HZ.out (by have := HGU.out; omega), j + 1, by omega, by go_num, HSE.out⟩
      case measure => simp [intOf]; omega
    · have hje : j = cs.length := by omega
      subst hje
      have HOE := Lib.hid (show wr.ownsRow (w.heap.size + 2) 38 3 _ cs.length (crCells (moreL cs e)) from by have h := HO.out; rw [moreTo_all] at h; exact h)
      have HD := Lib.hid (st_done (.int .i64 n) (.bool g) (.slice ua cs.length uc) (.int .i64 a) (.int .i64 b) HW.out HZ.out HOE.out)
      have b0 := HB.out.cell 0
      have b1 := HB.out.cell 1
      have b3 := HB.out.cell 3
      have b4 := HB.out.cell 4
      have z0 := HZ.out.cell 0
      have z1 := HZ.out.cell 1
      have z2 := HZ.out.cell 2
      have z3 := HZ.out.cell 3
      have z4 := HZ.out.cell 4
      have q0 := HZ.out.free 0
      have q1 := HZ.out.free 1
      have q2 := HZ.out.free 2
      have q3 := HZ.out.free 3
      have q4 := HZ.out.free 4
      go_wp2_with fail
      have s0 := HD.out.1.cell 0
      have s1 := HD.out.1.cell 1
      have s2 := HD.out.1.cell 2
      have s3 := HD.out.1.cell 3
      have s4 := HD.out.1.cell 4
      exact bodyPost_ret (v := .agg #[.int .i64 n, .bool g, .slice ua cs.length uc, .int .i64 a, .int .i64 b]) (by simp [results, Try.results99, go_sem, s0, s1, s2, s3, s4]) rfl ⟨.slice ua cs.length uc, rfl, row3_reads (cs := moreL cs e) (by rw [moreL_len]; exact HD.out.2.2) (by rw [moreL_len]; unfold maxLen; omega), HD.out.2.1⟩
set_option maxHeartbeats 1600000 in
set_option maxRecDepth 20000 in
theorem extest_any (n : Int) (g : Bool) (v : Value) (cs : List Cr) (a b : Int) (e bb b2 : Nat) (w : World) (hv : ReadsC w v cs) (hc : csB n g cs = true) (ha : 0 ≤ a ∧ a < n) (he : e ≤ 48) (hbk : Blk w bb (erC n g v a b) 80) (hb2 : w.cell? ⟨b2, 0, none⟩ = some (.int .i64 b)) (hl2 : b2 < w.heap.size) :
    Calls Try.prog 98 #[.int .i64 e, .pointer (some ⟨bb, 0, none⟩), .pointer (some ⟨b2, 0, none⟩)] w fun en w' => en = .returned (.bool (extP n cs a b e)) ∧ Below w.heap.size w w' := by
  have HS := Lib.hid (fun w hv hl hr => strengthened_any n g v cs a b e w hv hl hr (by omega))
  have HG := Lib.hid (fun u w hv hcw => greatestE_any n g u (moreL cs e) a b w hv hcw ha)
  have H1 := Lib.hid hv
  have HWM := Lib.hid (moreL_wk hc he)
  have HRG := Lib.hid (fun (j : Nat) c (hj : cs[j]? = some c) => show 0 ≤ c.r ∧ c.r ≤ 1000 from by have := csB_ok hc hj; exact ⟨this.r0, by have := this.r48; omega⟩)
  have hl6 := (csB_wk hc).2.1
  have HP := Lib.hid (show extP n cs a b e = decide (b ≤ grF n (moreL cs e) a) from rfl)
  have HBK := Lib.hid hbk
  have HB2 := Lib.hid hb2
  have HL2 := Lib.hid hl2
  have HW := Lib.hid (Below.refl w.heap.size w)
  clear hv hc ha hbk hb2 hl2
  unfold erV erC at *
  go_enter Try.func98, Try.ntmps98
  go_wp2_with fail
  refine wp_region_noPanic ?_
  have HW := Lib.hid (HW.out.trans ((below_drewN _ 1).mono HW.out.size))
  have HBK := Lib.hid (HBK.out.below (below_drewN _ 1))
  refine wp_region_held_drew (S := fun w' => (Below w.heap.size w w' ∧ Blk w' bb #[.int .i64 n, .bool g, v, .int .i64 a, .int .i64 b] 80) ∧ w'.cell? ⟨bb, 0, none⟩ = some (.int .i64 n) ∧ w'.cell? ⟨bb, 1, none⟩ = some (.bool g) ∧ w'.cell? ⟨bb, 2, none⟩ = some v ∧ w'.cell? ⟨bb, 3, none⟩ = some (.int .i64 a) ∧ w'.cell? ⟨bb, 4, none⟩ = some (.int .i64 b) ∧ w'.cell? ⟨b2, 0, none⟩ = some (.int .i64 b)) (by kernel_rfl) (⟨⟨HW.out, HBK.out⟩, HBK.out.cell 0, HBK.out.cell 1, HBK.out.cell 2, HBK.out.cell 3, HBK.out.cell 4, (HW.out.cell (p := ⟨b2, 0, none⟩) HL2.out).trans HB2.out⟩) (fun hHeld => ?_)
  refine wpAnyH_take (i := 0) (oi := _) (v := ?_) rfl (by kernel_rfl) (by kernel_rfl) (by kernel_rfl) (fun _ _ _ h => h) (Or.inl ⟨by rfl, ?_⟩) (by assumption) ?_
  rotate_left
  · (intro w hSw; (try dsimp only at hSw); (first | (go_simp; done) | (go_simp; with_reducible rfl)))
  simp only [Act.put, List.getElem_toArray, List.getElem_cons_succ, List.getElem_cons_zero, List.setIfInBounds_toArray, List.set_cons_zero, List.set_cons_succ]
  refine wpAnyH_take (i := 1) (oi := _) (v := ?_) rfl (by kernel_rfl) (by kernel_rfl) (by kernel_rfl) (fun _ _ _ h => h) (Or.inl ⟨by rfl, ?_⟩) (by assumption) ?_
  rotate_left
  · (intro w hSw; (try dsimp only at hSw); (first | (go_simp; done) | (go_simp; with_reducible rfl)))
  simp only [Act.put, List.getElem_toArray, List.getElem_cons_succ, List.getElem_cons_zero, List.setIfInBounds_toArray, List.set_cons_zero, List.set_cons_succ]
  refine wpAnyH_take (i := 4) (oi := _) (v := ?_) rfl (by kernel_rfl) (by kernel_rfl) (by kernel_rfl) (fun _ _ _ h => h) (Or.inl ⟨by rfl, ?_⟩) (by assumption) ?_
  rotate_left
  · (intro w hSw; (try dsimp only at hSw); (first | (go_simp; done) | (go_simp; with_reducible rfl)))
  simp only [Act.put, List.getElem_toArray, List.getElem_cons_succ, List.getElem_cons_zero, List.setIfInBounds_toArray, List.set_cons_zero, List.set_cons_succ]
  refine wpAnyH_ready (rs := [2]) (by kernel_rfl) (by simp) ?_
  refine AllReadyH.cons rfl (fun K hK => ?_) AllReadyH.nil
  go_simp
  refine (HS.out _ (H1.out.below HW.out) hl6 HRG.out).mono ?_
  rintro en w21 ⟨u, rfl, hru, hb⟩
  have HW := Lib.hid (HW.out.trans (hb.mono HW.out.size))
  have HBK := Lib.hid (HBK.out.below hb)
  have HRU := Lib.hid hru
  clear hru hb
  clear hHeld
  try go_wp2_with fail
  refine hK.out _ _ (⟨⟨HW.out, HBK.out⟩, HBK.out.cell 0, HBK.out.cell 1, HBK.out.cell 2, HBK.out.cell 3, HBK.out.cell 4, (HW.out.cell (p := ⟨b2, 0, none⟩) HL2.out).trans HB2.out⟩) (fun hHeld => ?_)
  clear hK K
  refine wpAnyH_ready (rs := [3]) (by kernel_rfl) (by simp) ?_
  refine AllReadyH.cons rfl (fun K hK => ?_) AllReadyH.nil
  go_simp
  refine (HG.out u _ HRU.out HWM.out).mono ?_
  rintro en w22 ⟨rfl, hb⟩
  have HW := Lib.hid (HW.out.trans (hb.mono HW.out.size))
  have HBK := Lib.hid (HBK.out.below hb)
  clear hb
  clear hHeld
  try go_wp2_with fail
  refine hK.out _ _ (⟨⟨HW.out, HBK.out⟩, HBK.out.cell 0, HBK.out.cell 1, HBK.out.cell 2, HBK.out.cell 3, HBK.out.cell 4, (HW.out.cell (p := ⟨b2, 0, none⟩) HL2.out).trans HB2.out⟩) (fun hHeld => ?_)
  clear hK K
  refine wpAnyH_take (i := 5) (oi := _) (v := ?_) rfl (by kernel_rfl) (by kernel_rfl) (by kernel_rfl) (fun _ _ _ h => h) (Or.inl ⟨by rfl, ?_⟩) (by assumption) ?_
  rotate_left
  · (intro w hSw; (try dsimp only at hSw); (first | (go_simp; done) | (go_simp; with_reducible rfl)))
  simp only [Act.put, List.getElem_toArray, List.getElem_cons_succ, List.getElem_cons_zero, List.setIfInBounds_toArray, List.set_cons_zero, List.set_cons_succ]
  refine wpAnyH_take (i := 6) (oi := _) (v := ?_) rfl (by kernel_rfl) (by kernel_rfl) (by kernel_rfl) (fun _ _ _ h => h) (Or.inl ⟨by rfl, ?_⟩) (by assumption) ?_
  rotate_left
  · (intro w hSw; (try dsimp only at hSw); (first | (go_simp; done) | (go_simp; with_reducible rfl)))
  simp only [Act.put, List.getElem_toArray, List.getElem_cons_succ, List.getElem_cons_zero, List.setIfInBounds_toArray, List.set_cons_zero, List.set_cons_succ]
  refine wpAnyH_done (by kernel_rfl) ?_ _
  refine NoPanic.normal ?_
  clear hHeld
  go_wp2_with fail
  go_ret
  exact ⟨ret_bool HP.out.symm, HW.out⟩
theorem search_extM (p : Nat → Bool) (N m : Nat) (u v : Value) (w : World) (hN : N ≤ 1000000)
    (hf : ∀ (W : World) (i : Nat), Below w.heap.size w W → i < N → Calls Try.prog 98 #[.int .i64 i, u, v] W fun e W' => e = .returned (.bool (p i)) ∧ Below W.heap.size W W')
    (hmono : ∀ a b, a ≤ b → p a = true → p b = true) (hm : lst p N = m) :
    Calls Try.prog 97 #[.int .i64 N, .func (.func 98) #[] #[u, v]] w fun e w' => e = .returned (.int .i64 m) ∧ Below w.heap.size w w' := by
  subst hm
  exact search_ext p N u v w hN hf hmono
theorem ext_some (n : Int) (g : Bool) (cs : List Cr) (a b : Int) (N : Nat) (hN : N = 49) (hk : askB n g cs a b = true) : ∃ m : Nat, m ≤ 49 ∧ lst (extP n cs a b) N = m ∧ (m ≤ 48 → extraR n g cs a b = ((m : Int), true)) ∧ (¬ m ≤ 48 → extraR n g cs a b = (0, false)) := by
  obtain ⟨m, hm⟩ : ∃ m : Nat, lst (extP n cs a b) N = m := ⟨_, rfl⟩
  have hR : extraR n g cs a b = if askB n g cs a b && decide (lst (extP n cs a b) N ≤ 48) then (((lst (extP n cs a b) N : Nat) : Int), true) else (0, false) := by
    subst hN
    rfl
  have hle := lst_le (extP n cs a b) N
  rw [hm] at hR hle
  refine ⟨m, by omega, hm, fun h => ?_, fun h => ?_⟩
  · rw [hR, hk, decide_eq_true h]
    rfl
  · rw [hR, decide_eq_false h, Bool.and_false]
    rfl
set_option maxHeartbeats 1600000 in
set_option maxRecDepth 20000 in
theorem impl_ExtraRange (n : Int) (g : Bool) (v1 : Value) (cs : List Cr) (a b : Int) (w : World) (h1 : ReadsC w v1 cs) :
    Calls Try.prog 53 #[rd n g, v1, .int .i64 a, .int .i64 b] w fun e w' => e = .returned (.tuple #[.int .i64 (extraR n g cs a b).1, .bool (extraR n g cs a b).2]) ∧ Below w.heap.size w w' := by
  have HA := Lib.hid (fun w hv => isValidE_any n g v1 cs a b w hv)
  have HT := Lib.hid (fun e bb b2 w hv hc ha he hbk hb2 hl2 => extest_any n g v1 cs a b e bb b2 w hv hc ha he hbk hb2 hl2)
  have H1 := Lib.hid h1
  have HNO := Lib.hid (fun h => extraR_no (n := n) (g := g) (cs := cs) (a := a) (b := b) h)
  obtain ⟨y1, c1, hv1, _, hm1, _⟩ := h1
  subst hv1
  clear hm1
  have HW := Lib.hid (((below_new w (.cells #[.int .i64 n, .bool g] 28)).trans ((below_new _ (.cells #[.int .i64 b] 3)).mono (by simp))).trans ((below_new _ (.cells (erC n g (.slice y1 cs.length c1) a b) 80)).mono (by simp; omega)))
  have HP := Lib.hid ((blk_at (w.alloc (.cells #[.int .i64 n, .bool g] 28)) #[.int .i64 b] 3 (w.heap.size + 1) (by simp)).below (below_new _ (.cells (erC n g (.slice y1 cs.length c1) a b) 80)))
  have HB := Lib.hid (blk_at ((w.alloc (.cells #[.int .i64 n, .bool g] 28)).alloc (.cells #[.int .i64 b] 3)) (erC n g (.slice y1 cs.length c1) a b) 80 (w.heap.size + 1 + 1) (by simp))
  unfold rd erV erC at *
  go_enter Try.func53, Try.ntmps53
  go_wp2_with fail
  refine (HA.out _ (H1.out.below HW.out)).mono ?_
  rintro e w1 ⟨rfl, hb⟩
  replace HW := Lib.hid (HW.out.trans (hb.mono HW.out.size))
  replace HP := Lib.hid (HP.out.below hb)
  replace HB := Lib.hid (HB.out.below hb)
  clear hb
  cases hk : askB n g cs a b
  · have HE := Lib.hid (HNO.out (by rw [hk]; rfl))
    clear hk
    go_wp2_with fail
    go_ret2
    exact ⟨ret_int_bool (by rw [HE.out]) (by rw [HE.out]), HW.out⟩
  · have HK := Lib.hid hk
    have HOK := Lib.hid (ask_ok hk)
    have HCB := Lib.hid ((askB_iff n g cs a b).1 hk).1
    obtain ⟨m, hm49, hm, hyes, hnon⟩ := ext_some n g cs a b 49 rfl hk
    have HYE := Lib.hid hyes
    have HNE := Lib.hid hnon
    have HSS := Lib.hid (fun u v w hf => search_extM (extP n cs a b) 49 m u v w (by omega) hf (fun x y h hp => extP_mono n cs a b h hp) hm)
    clear hk hm hyes hnon
    go_wp2_with fail
    refine (HSS.out _ _ _ (fun W i hbW hi => HT.out i _ _ W ((H1.out.below HW.out).below hbW) HCB.out ⟨HOK.out.2.2.1, by have h9 := HOK.out.2.2.2.1; have h8 := HOK.out.2.2.2.2; omega⟩ (by omega) (HB.out.below hbW) ((HP.out.below hbW).cell 0) (HP.out.below hbW).lt)).mono ?_
    rintro e w2 ⟨rfl, hb⟩
    replace HW := Lib.hid (HW.out.trans (hb.mono HW.out.size))
    clear hb
    by_cases h48 : m ≤ 48
    · have HE := Lib.hid (HYE.out h48)
      have hgt : ¬ (48 : Int) < (m : Int) := by omega
      go_wp2_with fail
      go_ret2
      exact ⟨ret_int_bool (by rw [HE.out]) (by rw [HE.out]), HW.out⟩
    · have HE := Lib.hid (HNE.out h48)
      have hgt : (48 : Int) < (m : Int) := by omega
      go_wp2_with fail
      go_ret2
      exact ⟨ret_int_bool (by rw [HE.out]) (by rw [HE.out]), HW.out⟩
end Go.Proofs.Ytgchodielkodeaa
