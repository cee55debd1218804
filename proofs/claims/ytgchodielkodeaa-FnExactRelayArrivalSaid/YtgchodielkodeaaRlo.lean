/-
  What is proved: whether legs are a relay, as the program asks. Conditions: lists that read as carriers and as legs.
-/
import Derived.Test.YtgchodielkodeaaRll
import Derived.Test.YtgchodielkodeaaRlk
namespace Go.Proofs.Ytgchodielkodeaa
open Go.RowKit
set_option linter.unusedVariables false
set_option linter.unusedSimpArgs false

theorem used_next2 {ls : List Lg} {j : Nat} {l : Lg} (h : ls[j]? = some l) : (usedK ls j).map iv ++ [Value.int .i64 l.k] = (usedK ls (j + 1)).map iv := by
  rw [usedK_next h, List.map_append]
  rfl
theorem legB_g1 {cs : List Cr} {to x : Int} {used : List Int} {l : Lg} (h : ¬ ((0 ≤ l.k ∧ l.k < cs.length) ∧ used.contains l.k = false)) : legB cs to x used l = false := legB_no (fun h2 => h ⟨h2.1, h2.2.1⟩)
theorem legB_g3 {cs : List Cr} {to x : Int} {used : List Int} {l : Lg} (h : ¬ l.a = x) : legB cs to x used l = false := legB_no (fun h2 => h h2.2.2.1)
theorem legB_g4 {cs : List Cr} {to x : Int} {used : List Int} {l : Lg} (h : ¬ (l.a < l.b ∧ l.b ≤ to)) : legB cs to x used l = false := legB_no (fun h2 => h h2.2.2.2.1)
theorem legB_g5 {cs : List Cr} {to x : Int} {used : List Int} {l : Lg} (h : ¬ stpI (crAt cs l.k) l.a l.b ≤ (crAt cs l.k).r) : legB cs to x used l = false := legB_no (fun h2 => h h2.2.2.2.2)
theorem ordC_snoc {m : Nat} {us : List Int} {k : Int} (h : ordC m us = true) : ordC m (us ++ [k]) = true ↔ ((0 ≤ k ∧ k < m) ∧ us.contains k = false) := by
  rw [ordC_iff] at h ⊢
  constructor
  · intro h2
    have hk := h2.1 us.length k (by simp)
    refine ⟨hk, ?_⟩
    have hn := h2.2
    rw [List.nodup_append] at hn
    cases hc : us.contains k
    · rfl
    · have hm : k ∈ us := by simpa using hc
      exact absurd rfl (hn.2.2 k hm k (by simp))
  · intro h2
    constructor
    · intro j i hj
      by_cases hl : j < us.length
      · rw [List.getElem?_append_left hl] at hj
        exact h.1 j i hj
      · rw [List.getElem?_append_right (by omega)] at hj
        match hq : j - us.length, hj with
        | 0, hj => cases hj; exact h2.1
    · rw [List.nodup_append]
      refine ⟨h.2, by simp, fun a ha b hb e => ?_⟩
      simp at hb
      subst hb e
      have : us.contains a = true := by simpa using ha
      rw [h2.2] at this
      cases this
/-- the check when j legs are looked at -/
def RoRel (n : Int) (g : Bool) (v1 : Value) (cs : List Cr) (to a : Int) (ls : List Lg) (base : Nat) (w : World) (r x u i : Value) (wr : World) : Prop :=
  r = .bool false ∧ Below base w wr ∧ Blk wr base #[.int .i64 n, .bool g, v1, .int .i64 a, .int .i64 to] 80 ∧ ∃ (j : Nat) (y : Int), j ≤ ls.length ∧ i = .int .i64 j ∧ x = .int .i64 y ∧ 0 ≤ y ∧ y ≤ to ∧
    wr.ownsRow (base + 1) 3 1 u j ((usedK ls j).map iv) ∧ ordC cs.length (usedK ls j) = true ∧ relF cs to a [] ls = relF cs to y (usedK ls j) (ls.drop j)
set_option maxHeartbeats 6400000 in
set_option maxRecDepth 20000 in
theorem isRelayE_any (n : Int) (g : Bool) (v1 v2 : Value) (cs : List Cr) (ls : List Lg) (a b : Int) (w : World) (h1 : ReadsC w v1 cs) (h2 : ReadsG w v2 ls) (hc : WkL n cs) (ha : 0 ≤ a) (hab : a ≤ b) (hbn : b < n) (hll : ls.length ≤ 1048576) :
    Calls Try.prog 86 #[erV n g v1 a b, v2] w fun e w' => e = .returned (.bool (relF cs b a [] ls)) ∧ Below w.heap.size w w' := by
  obtain ⟨i0, ji, jz0, jz1, jz2⟩ := info_parts infoInt
  have HIO := Lib.hid (fun y1 c1 v os w hv => isOrderE_any n g y1 cs.length c1 a b v os w hv)
  have HBR := Lib.hid (fun c x y w h hx hy => brings_any n c x y w h hx hy)
  have HC := Lib.hid hc
  have H1 := Lib.hid h1
  have H2 := Lib.hid h2
  have hl6 := hc.2.1
  have hn24 := hc.1.2
  obtain ⟨y1, c1, hv1, _, hm1, _⟩ := h1
  subst hv1
  obtain ⟨y2, c2, hv2, _, hm2, _⟩ := h2
  subst hv2
  unfold maxLen at hm1 hm2
  clear hc hm1 hm2
  have HW := Lib.hid ((below_new w (.cells (erC n g (.slice y1 cs.length c1) a b) 80)).trans ((below_new _ (.cells #[] 3)).mono (by simp)))
  have HB := Lib.hid ((blk_new w (erC n g (.slice y1 cs.length c1) a b) 80).below (below_new _ (.cells #[] 3)))
  have HO := Lib.hid (made_at (w.alloc (.cells (erC n g (.slice y1 cs.length c1) a b) 80)) (w.heap.size + 1) (w.heap.size + 1) (by simp) (Nat.le_refl _))
  unfold erV erC crv at *
  go_enter Try.func86, Try.ntmps86
  go_wp2_with fail
  go_loopw [4, 5, 6, 17] (fun r x u i wr => RoRel n g (.slice y1 cs.length c1) cs b a ls w.heap.size w r x u i wr) (fun _ _ _ i _ => ls.length - (intOf i).toNat)
  case atStart => exact ⟨rfl, HW.out, HB.out, 0, a, Nat.zero_le _, rfl, rfl, ha, hab, HO.out, (ordC_iff _ []).2 ⟨fun j i h => by simp at h, List.nodup_nil⟩, rfl⟩
  case round =>
    obtain ⟨rfl, hw, hbk, j, x, hj, rfl, rfl, hx0, hxb, ho, hor, heq⟩ := hrel
    clear HW HB HO
    have HW := Lib.hid hw
    have HB := Lib.hid hbk
    have HO := Lib.hid ho
    have HOR := Lib.hid hor
    have HEQ := Lib.hid heq
    clear hw hbk ho hor heq
    by_cases hlt : j < ls.length
    · obtain ⟨⟨lk, la, lb⟩, hlj⟩ := get_lg hlt
      obtain ⟨b2, o2, rfl, hbl2, g0, g1, g2⟩ := legs_in H2.out hlj
      have g0 := (HW.out.cell (p := ⟨b2, o2 + j * 3, none⟩) hbl2).trans g0
      have g1 := (HW.out.cell (p := ⟨b2, o2 + j * 3 + 1, none⟩) hbl2).trans g1
      have g2 := (HW.out.cell (p := ⟨b2, o2 + j * 3 + 2, none⟩) hbl2).trans g2
      simp only at g0 g1 g2
      have HFL := Lib.hid (HEQ.out.trans (relF_step hlj))
      have HUN := Lib.hid (used_next2 hlj)
      have HUK := Lib.hid (usedK_next hlj)
      have hi0 : 0 ≤ (j : Int) := by omega
      have hi1 : (j : Int) < ls.length := by omega
      have HRU := Lib.hid (fun (W : World) u (h : W.ownsRow (w.heap.size + 1) 3 1 u (j + 1) ((usedK ls (j + 1)).map iv)) => owns_reads (xs := usedK ls (j + 1)) (by rw [usedK_len hlt]; exact h) (by rw [usedK_len hlt]; unfold maxLen; omega))
      have HORD := Lib.hid (fun k => ordC_snoc (k := k) HOR.out)
      obtain ⟨ua, uc, hus, _⟩ := owns_shape HO.out
      subst hus
      clear hlj
      have HFA := Lib.hid (fun (h : legB cs b x (usedK ls j) ⟨lk, la, lb⟩ = false) => HFL.out.trans (by rw [h, Bool.false_and]))
      have HLG := Lib.hid (blk_new wr #[.int .i64 lk, .int .i64 la, .int .i64 lb] 91)
      have HW := Lib.hid (HW.out.trans ((below_new wr (.cells #[.int .i64 lk, .int .i64 la, .int .i64 lb] 91)).mono HW.out.size))
      have HB := Lib.hid (HB.out.below (below_new wr (.cells #[.int .i64 lk, .int .i64 la, .int .i64 lb] 91)))
      have HO := Lib.hid (owns_below HO.out (below_new wr (.cells #[.int .i64 lk, .int .i64 la, .int .i64 lb] 91)))
      generalize hu2 : usedK ls (j + 1) = used2 at *
      have HU2 := Lib.hid hu2
      clear hu2
      generalize usedK ls j = used at *
      go_wp2_with fail
      refine wp_region_noPanic ?_
      have HW := Lib.hid (HW.out.trans ((below_drewN _ 1).mono HW.out.size))
      have HB := Lib.hid (HB.out.below (below_drewN _ 1))
      have HO := Lib.hid (owns_below HO.out (below_drewN _ 1))
      have HLG := Lib.hid (HLG.out.below (below_drewN _ 1))
      refine wp_region_held_drew (S := fun w' => (Below w.heap.size w w' ∧ Blk w' w.heap.size #[.int .i64 n, .bool g, .slice y1 cs.length c1, .int .i64 a, .int .i64 b] 80 ∧ w'.ownsRow (w.heap.size + 1) 3 1 (.slice ua j uc) j (used.map iv) ∧ Blk w' wr.heap.size #[.int .i64 lk, .int .i64 la, .int .i64 lb] 91) ∧ w'.cell? ⟨wr.heap.size, 0, none⟩ = some (.int .i64 lk) ∧ w'.cell? ⟨wr.heap.size, 1, none⟩ = some (.int .i64 la) ∧ w'.cell? ⟨wr.heap.size, 2, none⟩ = some (.int .i64 lb)) (by kernel_rfl) (⟨⟨HW.out, HB.out, HO.out, HLG.out⟩, HLG.out.cell 0, HLG.out.cell 1, HLG.out.cell 2⟩) (fun hHeld => ?_)
      refine wpAnyH_take (i := 0) (oi := _) (v := ?_) rfl (by kernel_rfl) (by kernel_rfl) (by kernel_rfl) (fun _ _ _ h => h) (Or.inl ⟨by rfl, ?_⟩) (by assumption) ?_
      rotate_left
      · (intro w hSw; (try dsimp only at hSw); (first | (go_simp; done) | (go_simp; with_reducible rfl)))
      simp only [Act.put, List.getElem_toArray, List.getElem_cons_succ, List.getElem_cons_zero, List.setIfInBounds_toArray, List.set_cons_zero, List.set_cons_succ]
      refine wpAnyH_take (i := 1) (oi := _) (v := ?_) rfl (by kernel_rfl) (by kernel_rfl) (by kernel_rfl) (fun _ _ _ h => h) (Or.inl ⟨by rfl, ?_⟩) (by assumption) ?_
      rotate_left
      · (intro w hSw; (try dsimp only at hSw); (first | (go_simp; done) | (go_simp; with_reducible rfl)))
      simp only [Act.put, List.getElem_toArray, List.getElem_cons_succ, List.getElem_cons_zero, List.setIfInBounds_toArray, List.set_cons_zero, List.set_cons_succ]
      refine wpAnyH_take (i := 2) (oi := _) (v := ?_) rfl (by kernel_rfl) (by kernel_rfl) (by kernel_rfl) (fun _ _ _ h => h) (Or.inl ⟨by rfl, ?_⟩) (by assumption) ?_
      rotate_left
      · (intro w hSw; (try dsimp only at hSw); (first | (go_simp; done) | (go_simp; with_reducible rfl)))
      simp only [Act.put, List.getElem_toArray, List.getElem_cons_succ, List.getElem_cons_zero, List.setIfInBounds_toArray, List.set_cons_zero, List.set_cons_succ]
      refine wpAnyH_take (i := 3) (oi := _) (v := ?_) rfl (by kernel_rfl) (by kernel_rfl) (by kernel_rfl) (fun _ _ _ h => h) (Or.inl ⟨by rfl, ?_⟩) (by assumption) ?_
      rotate_left
      · (intro w hSw; (try dsimp only at hSw); (first | (go_simp; done) | (go_simp; with_reducible rfl)))
      simp only [Act.put, List.getElem_toArray, List.getElem_cons_succ, List.getElem_cons_zero, List.setIfInBounds_toArray, List.set_cons_zero, List.set_cons_succ]
      refine wpAnyH_take (i := 4) (oi := _) (v := ?_) rfl (by kernel_rfl) (by kernel_rfl) (by kernel_rfl) (fun _ _ _ h => h) (Or.inl ⟨by rfl, ?_⟩) (by assumption) ?_
      rotate_left
      · (intro w hSw; (try dsimp only at hSw); (first | (go_simp; done) | (go_simp; with_reducible rfl)))
      simp only [Act.put, List.getElem_toArray, List.getElem_cons_succ, List.getElem_cons_zero, List.setIfInBounds_toArray, List.set_cons_zero, List.set_cons_succ]
      refine wpAnyH_take (i := 5) (oi := _) (v := ?_) rfl (by kernel_rfl) (by kernel_rfl) (by kernel_rfl) (fun _ _ _ h => h) (Or.inl ⟨by rfl, ?_⟩) (by assumption) ?_
      rotate_left
      · (intro w hSw; (try dsimp only at hSw); (first | (go_simp; done) | (go_simp; with_reducible rfl)))
      simp only [Act.put, List.getElem_toArray, List.getElem_cons_succ, List.getElem_cons_zero, List.setIfInBounds_toArray, List.set_cons_zero, List.set_cons_succ]
      refine wpAnyH_take (i := 6) (oi := _) (v := ?_) rfl (by kernel_rfl) (by kernel_rfl) (by kernel_rfl) (fun _ _ _ h => h) (Or.inl ⟨by rfl, ?_⟩) (by assumption) ?_
      rotate_left
      · (intro w hSw; (try dsimp only at hSw); (first | (go_simp; done) | (go_simp; with_reducible rfl)))
      simp only [Act.put, List.getElem_toArray, List.getElem_cons_succ, List.getElem_cons_zero, List.setIfInBounds_toArray, List.set_cons_zero, List.set_cons_succ]
      refine wpAnyH_take (i := 7) (oi := _) (v := ?_) rfl (by kernel_rfl) (by kernel_rfl) (by kernel_rfl) (fun _ _ _ h => h) (Or.inl ⟨by rfl, ?_⟩) (by assumption) ?_
      rotate_left
      · (intro w hSw; (try dsimp only at hSw); (first | (go_simp; done) | (go_simp; with_reducible rfl)))
      simp only [Act.put, List.getElem_toArray, List.getElem_cons_succ, List.getElem_cons_zero, List.setIfInBounds_toArray, List.set_cons_zero, List.set_cons_succ]
      refine wpAnyH_take (i := 8) (oi := _) (v := ?_) rfl (by kernel_rfl) (by kernel_rfl) (by kernel_rfl) (fun _ _ _ h => h) (Or.inl ⟨by rfl, ?_⟩) (by assumption) ?_
      rotate_left
      · (intro w hSw; (try dsimp only at hSw); (first | (go_simp; done) | (go_simp; with_reducible rfl)))
      simp only [Act.put, List.getElem_toArray, List.getElem_cons_succ, List.getElem_cons_zero, List.setIfInBounds_toArray, List.set_cons_zero, List.set_cons_succ]
      refine wpAnyH_done (by kernel_rfl) ?_ _
      refine NoPanic.normal ?_
      clear hHeld
      have e9 : (wr.alloc (.cells #[.int .i64 lk, .int .i64 la, .int .i64 lb] 91)).drew = (wr.alloc (.cells #[.int .i64 lk, .int .i64 la, .int .i64 lb] 91)).drewN 1 := rfl
      try rw [e9]
      clear e9
      generalize (wr.alloc (.cells #[.int .i64 lk, .int .i64 la, .int .i64 lb] 91)).drewN 1 = w8 at *
      go_wp2_with (at_builtin; refine wpList_append_own _ rfl _ _ 41 rfl (w.heap.size + 1) 3 i0 (.int .i64 0) 1 8 Try.underlying41 ji jz0 jz1 jz2 rfl (by decide) _ _ _ rfl (HO.out.alloc _) ⟨_, 0, none⟩ 1 1 [.int .i64 lk] rfl rfl (cell_one_new _ _ _) ?c2 ?c3 ?c4 ?c5 ?_)
      case c2 => first | rfl | (intro u hu; simp at hu; subst hu; rfl)
      case c3 => unfold maxLen; omega
      case c4 => omega
      case c5 => have := HB.out.lt; simp at this ⊢; omega
      intro v9 w9 hown9 hgrow9 _
      have hsz9 := HB.out.lt
      have HW9 := Lib.hid ((HW.out.trans ((below_new _ _).mono HW.out.size)).trans (below_grown (m := w.heap.size) hgrow9 (fun b hb => by have := (owns_block HO.out b hb).1; omega) (by simp at hsz9 ⊢; omega)))
      have HB9 := Lib.hid ((HB.out.below (below_new _ _)).belowAt (m := w.heap.size + 1) (by omega) (below_grown hgrow9 (fun b hb => (owns_block HO.out b hb).1) (by simp at hsz9 ⊢; omega)))
      have HO9 := Lib.hid (show w9.ownsRow (w.heap.size + 1) 3 1 v9 (j + 1) (used2.map iv) from by rw [← HUN.out]; exact hown9)
      clear hown9 hgrow9 hsz9
      have e0 := HB9.out.cell 0
      have e1 := HB9.out.cell 1
      have e2 := HB9.out.cell 2
      have e3 := HB9.out.cell 3
      have e4 := HB9.out.cell 4
      by_cases hla : la = x
      · subst hla
        by_cases hl1 : la < lb
        · have hl1' : ¬ lb ≤ la := by omega
          by_cases hl2 : lb ≤ b
          · have hl2' : ¬ b < lb := by omega
            by_cases hor : (0 ≤ lk ∧ lk < cs.length) ∧ used.contains lk = false
            · have HOT := Lib.hid ((HORD.out lk).2 hor)
              have HOQ := Lib.hid hor
              obtain ⟨q, rfl⟩ := int_nat hor.1.1
              clear hor
              obtain ⟨kc, hkc⟩ := get_cr (cs := cs) (k := q) (by have := HOQ.out.1.2; omega)
              obtain ⟨b1, o1, rfl, _, _, hbl1, k0, k1, k2⟩ := carriers_at H1.out hkc
              have K0 := Lib.hid k0
              have K1 := Lib.hid k1
              have K2 := Lib.hid k2
              have HCW := Lib.hid (HC.out.2.2 q kc hkc)
              have HCA := Lib.hid (crAt_some hkc)
              have hq0 : 0 ≤ (q : Int) := by omega
              have hq1 : (q : Int) < cs.length := by have := HOQ.out.1.2; omega
              clear hkc k0 k1 k2
              go_wp2_with fail
              refine (HIO.out _ _ _ used2 _ (HRU.out _ _ HO9.out)).mono ?_
              rw [HUK.out, HOT.out]
              rintro e w10 ⟨rfl, hb⟩
              have HW10 := Lib.hid (HW9.out.trans (hb.mono HW9.out.size))
              have HB10 := Lib.hid (HB9.out.below hb)
              have HO10 := Lib.hid (owns_below HO9.out hb)
              clear hb e0 e1 e2 e3 e4
              have e1 := HB10.out.cell 2
              have k0 := (HW10.out.cell (p := ⟨b1, o1 + q * 3, none⟩) hbl1).trans K0.out
              have k1 := (HW10.out.cell (p := ⟨b1, o1 + q * 3 + 1, none⟩) hbl1).trans K1.out
              have k2 := (HW10.out.cell (p := ⟨b1, o1 + q * 3 + 2, none⟩) hbl1).trans K2.out
              go_wp2_with fail
              refine (HBR.out kc la lb _ HCW.out (by omega) (by omega)).mono ?_
              rintro e w11 ⟨rfl, hb⟩
              have HW11 := Lib.hid (HW10.out.trans (hb.mono HW10.out.size))
              have HB11 := Lib.hid (HB10.out.below hb)
              have HO11 := Lib.hid (owns_below HO10.out hb)
              clear hb e1 k0 k1 k2
              by_cases hle : stpI kc la lb ≤ kc.r
              · have HLB := Lib.hid ((legB_iff cs b la used ⟨(q : Int), la, lb⟩).2 ⟨HOQ.out.1, HOQ.out.2, rfl, ⟨hl1, hl2⟩, by rw [HCA.out]; exact hle⟩)
                have hled : decide (stpI kc la lb ≤ kc.r) = true := decide_eq_true hle
                rw [hled]
                clear hle hled
                go_wp2_with fail
                go_roundw
                case rel =>
                  refine ⟨rfl, HW11.out, HB11.out, j + 1, lb, by omega, by go_num, rfl, by omega, hl2, by rw [HU2.out]; exact HO11.out, ?_, ?_⟩
                  · rw [HU2.out, HUK.out]
                    exact HOT.out
                  · rw [HFL.out, HLB.out, HU2.out, HUK.out]
                    rfl
                case measure => simp [intOf]; omega
              · have HLB := Lib.hid (legB_g5 (cs := cs) (to := b) (x := la) (used := used) (l := ⟨(q : Int), la, lb⟩) (by rw [HCA.out]; exact hle))
                have hled : decide (stpI kc la lb ≤ kc.r) = false := decide_eq_false hle
                rw [hled]
                clear hle hled
                go_wp2_with fail
                go_ret
                exact ⟨ret_bool (HFA.out HLB.out).symm, HW11.out⟩
            · have HLB := Lib.hid (legB_g1 (cs := cs) (to := b) (x := la) (used := used) (l := ⟨lk, la, lb⟩) hor)
              have HOT := Lib.hid (show ordC cs.length (used ++ [lk]) = false from by
                cases h : ordC cs.length (used ++ [lk])
                · rfl
                · exact absurd ((HORD.out lk).1 h) hor)
              clear hor
              go_wp2_with fail
              refine (HIO.out _ _ _ used2 _ (HRU.out _ _ HO9.out)).mono ?_
              rw [HUK.out, HOT.out]
              rintro e w10 ⟨rfl, hb⟩
              have HW10 := Lib.hid (HW9.out.trans (hb.mono HW9.out.size))
              clear hb e0 e1 e2 e3 e4
              go_wp2_with fail
              go_ret
              exact ⟨ret_bool (HFA.out HLB.out).symm, HW10.out⟩
          · have HLB := Lib.hid (legB_g4 (cs := cs) (to := b) (x := la) (used := used) (l := ⟨lk, la, lb⟩) (by show ¬ (la < lb ∧ lb ≤ b); omega))
            have hl2' : b < lb := by omega
            go_wp2_with fail
            go_ret
            exact ⟨ret_bool (HFA.out HLB.out).symm, HW9.out⟩
        · have HLB := Lib.hid (legB_g4 (cs := cs) (to := b) (x := la) (used := used) (l := ⟨lk, la, lb⟩) (by show ¬ (la < lb ∧ lb ≤ b); omega))
          have hl1' : lb ≤ la := by omega
          go_wp2_with fail
          go_ret
          exact ⟨ret_bool (HFA.out HLB.out).symm, HW9.out⟩
      · have HLB := Lib.hid (legB_g3 (cs := cs) (to := b) (x := x) (used := used) (l := ⟨lk, la, lb⟩) hla)
        have hnb : (la == x) = false := by rw [beq_eq_false_iff_ne]; exact hla
        go_wp2_with fail
        go_ret
        exact ⟨ret_bool (HFA.out HLB.out).symm, HW9.out⟩
    · have hje : j = ls.length := by omega
      have HFE := Lib.hid (show decide (x = b) = relF cs b a [] ls by rw [HEQ.out, hje, relF_end])
      have e4 := HB.out.cell 4
      clear hje
      by_cases hxe : x = b
      · have hbe : (x == b) = true := by rw [hxe]; simp
        have HF2 := Lib.hid (HFE.out.symm.trans (decide_eq_true hxe))
        clear hxe
        go_wp2_with fail
        go_ret
        exact ⟨ret_bool (by rw [HF2.out] <;> first | rfl | exact hbe), HW.out⟩
      · have hbe : (x == b) = false := by rw [beq_eq_false_iff_ne]; exact hxe
        have HF2 := Lib.hid (HFE.out.symm.trans (decide_eq_false hxe))
        go_wp2_with fail
        go_ret
        exact ⟨ret_bool (by rw [HF2.out] <;> first | rfl | exact hbe), HW.out⟩
end Go.Proofs.Ytgchodielkodeaa
