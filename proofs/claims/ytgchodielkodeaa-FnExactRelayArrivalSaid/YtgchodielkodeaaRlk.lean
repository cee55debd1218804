/-
  What is proved: the contracts of the laws' helpers on legs: szIntA3S, toIntA3, toIntA3S, eqIntA3, eqIntA3S. Conditions: lists that read as legs.
-/
import Derived.Test.YtgchodielkodeaaRlb
import Derived.Test.YtgchodielkodeaaRlc
import Derived.Deep.QuietTactic
import Derived.BigQuiet
import Derived.Deep.RegionHeld3
namespace Go.Proofs.Ytgchodielkodeaa
open Go.RowKit
set_option linter.unusedVariables false
set_option linter.unusedSimpArgs false

/-- a leg as a value -/
abbrev lgv (l : Lg) : Value := .agg #[.int .i64 l.k, .int .i64 l.a, .int .i64 l.b]
theorem get_lg {ls : List Lg} {k : Nat} (h : k < ls.length) : ∃ c, ls[k]? = some c := ⟨ls[k], List.getElem?_eq_getElem h⟩
theorem blk_setS {w : World} {b j : Nat} {cs : Array Value} {t : TypeId} (v : Value) (h : Blk w b cs t) : Blk (w.setCell ⟨b, j, none⟩ v) b (cs.setIfInBounds j v) t := heap_setCell_same w b j _ t v h
theorem blk_setO {w : World} {b b' j : Nat} {cs : Array Value} {t : TypeId} (v : Value) (h : Blk w b cs t) (hne : b ≠ b') : Blk (w.setCell ⟨b', j, none⟩ v) b cs t := (heap_setCell_other w ⟨b', j, none⟩ b v (fun e => hne e)).trans h
theorem szGS_yes (v : Value) (cs : List Lg) (l : Nat) (w : World) (hv : ReadsG w v cs) (hl : l ≤ 1048576) (h : cs.length ≤ l) :
    Calls Try.prog 39 #[v, .int .i64 l] w fun e w' => e = .returned (.int .i64 ((l - cs.length : Nat) : Int)) ∧ w = w' := by
  obtain ⟨y, c, rfl, hc, hm, hx⟩ := hv
  unfold maxLen at hm
  clear hx
  have e : ((l - cs.length : Nat) : Int) = (l : Int) - cs.length := by omega
  rw [e]
  have h1 : 0 ≤ (l : Int) - cs.length := by omega
  have h2 : ¬ (l : Int) - cs.length < 0 := by omega
  have h3 : ¬ (l : Int) < cs.length := by omega
  have h4 : (cs.length : Int) ≤ l := by omega
  clear e
  go_enter Try.func39, Try.ntmps39
  go_wp2
  go_ret
  exact ⟨rfl, rfl⟩
theorem szGS_no (v : Value) (cs : List Lg) (l : Nat) (w : World) (hv : ReadsG w v cs) (hl : l ≤ 1048576) (h : l < cs.length) :
    Calls Try.prog 39 #[v, .int .i64 l] w fun e w' => e = .returned (.int .i64 (-1)) ∧ w = w' := by
  obtain ⟨y, c, rfl, hc, hm, hx⟩ := hv
  unfold maxLen at hm
  clear hx
  have h1 : ¬ 0 ≤ (l : Int) - cs.length := by omega
  have h2 : (l : Int) - cs.length < 0 := by omega
  have h3 : (l : Int) < cs.length := by omega
  go_enter Try.func39, Try.ntmps39
  go_wp2
  go_ret
  exact ⟨rfl, rfl⟩
def TaRel (l : Lg) (base : Nat) (w : World) (i : Value) (wr : World) : Prop :=
  Below base w wr ∧ Blk wr base #[.int .i64 l.k, .int .i64 l.a, .int .i64 l.b] 91 ∧ Blk wr (base + 1) #[.int .i64 0, .int .i64 0, .int .i64 0] 91 ∧
    ((i = .int .i64 0 ∧ Blk wr (base + 2) #[.int .i64 0, .int .i64 0, .int .i64 0] 91) ∨ (i = .int .i64 1 ∧ Blk wr (base + 2) #[.int .i64 l.k, .int .i64 0, .int .i64 0] 91) ∨
     (i = .int .i64 2 ∧ Blk wr (base + 2) #[.int .i64 l.k, .int .i64 l.a, .int .i64 0] 91) ∨ (i = .int .i64 3 ∧ Blk wr (base + 2) #[.int .i64 l.k, .int .i64 l.a, .int .i64 l.b] 91))
theorem ta_done {w W : World} {base : Nat} {t : TypeId} (x y z : Value) {cs : Array Value} (hl : Below base w W) (h : Blk W (base + 1) cs t) (hs : cs.size = 3) :
    Blk (((W.setCell ⟨base + 1, 0, none⟩ x).setCell ⟨base + 1, 1, none⟩ y).setCell ⟨base + 1, 2, none⟩ z) (base + 1) #[x, y, z] t ∧ Below base w (((W.setCell ⟨base + 1, 0, none⟩ x).setCell ⟨base + 1, 1, none⟩ y).setCell ⟨base + 1, 2, none⟩ z) := by
  refine ⟨?_, ((hl.setCell (p := ⟨base + 1, 0, none⟩) (by simp) _).setCell (p := ⟨base + 1, 1, none⟩) (by simp) _).setCell (p := ⟨base + 1, 2, none⟩) (by simp) _⟩
  have h3 := blk_setS (j := 2) z (blk_setS (j := 1) y (blk_setS (j := 0) x h))
  have e : ((cs.setIfInBounds 0 x).setIfInBounds 1 y).setIfInBounds 2 z = #[x, y, z] := by
    obtain ⟨l⟩ := cs
    match l, hs with
    | [_, _, _], _ => rfl
  rwa [e] at h3
set_option maxHeartbeats 800000 in
theorem toG_any (l : Lg) (w : World) :
    Calls Try.prog 85 #[lgv l] w fun e w' => e = .returned (lgv l) ∧ Below w.heap.size w w' := by
  have HS : Hid (TaRel l w.heap.size w (.int .i64 0) (((w.alloc (.cells #[.int .i64 l.k, .int .i64 l.a, .int .i64 l.b] 91)).alloc (.cells #[.int .i64 0, .int .i64 0, .int .i64 0] 91)).alloc (.cells #[.int .i64 0, .int .i64 0, .int .i64 0] 91))) := Lib.hid
    ⟨(((Below.refl _ w).alloc (Nat.le_refl _) _).alloc (by simp) _).alloc (by simp; omega) _, ((blk_new w _ _).below (below_new _ _)).below (below_new _ _), (blk_at _ _ _ _ (by simp)).below (below_new _ _), .inl ⟨rfl, blk_at _ _ _ _ (by simp)⟩⟩
  unfold lgv
  go_enter Try.func85, Try.ntmps85
  go_wp2_with fail
  go_loopw [4] (fun i wr => TaRel l w.heap.size w i wr) (fun i _ => 3 - (intOf i).toNat)
  case atStart => exact HS.out
  case round =>
    obtain ⟨hb, h1, h2, h3⟩ := hrel
    clear HS
    have HB := Lib.hid hb
    have H1 := Lib.hid h1
    have H2 := Lib.hid h2
    clear hb h1 h2
    rcases h3 with ⟨rfl, h3⟩ | ⟨rfl, h3⟩ | ⟨rfl, h3⟩ | ⟨rfl, h3⟩
    · have H3 := Lib.hid h3
      clear h3
      have a0 := H1.out.cell 0
      have c0 := H3.out.cell 0
      have f0 := H3.out.free 0
      go_wp2_with fail
      go_roundw
      case rel => exact ⟨HB.out.setCell (p := ⟨w.heap.size + 2, 0, none⟩) (by simp) _, blk_setO _ H1.out (by omega), blk_setO _ H2.out (by omega), .inr (.inl ⟨by go_num, blk_setS _ H3.out⟩)⟩
      case measure => simp [intOf]
    · have H3 := Lib.hid h3
      clear h3
      have a0 := H1.out.cell 1
      have c0 := H3.out.cell 1
      have f0 := H3.out.free 1
      go_wp2_with fail
      go_roundw
      case rel => exact ⟨HB.out.setCell (p := ⟨w.heap.size + 2, 1, none⟩) (by simp) _, blk_setO _ H1.out (by omega), blk_setO _ H2.out (by omega), .inr (.inr (.inl ⟨by go_num, blk_setS _ H3.out⟩))⟩
      case measure => simp [intOf]
    · have H3 := Lib.hid h3
      clear h3
      have a0 := H1.out.cell 2
      have c0 := H3.out.cell 2
      have f0 := H3.out.free 2
      go_wp2_with fail
      go_roundw
      case rel => exact ⟨HB.out.setCell (p := ⟨w.heap.size + 2, 2, none⟩) (by simp) _, blk_setO _ H1.out (by omega), blk_setO _ H2.out (by omega), .inr (.inr (.inr ⟨by go_num, blk_setS _ H3.out⟩))⟩
      case measure => simp [intOf]
    · have H3 := Lib.hid h3
      clear h3
      have c0 := H3.out.cell 0
      have c1 := H3.out.cell 1
      have c2 := H3.out.cell 2
      have d0 := H2.out.cell 0
      have d1 := H2.out.cell 1
      have d2 := H2.out.cell 2
      have f0 := H2.out.free 0
      have f1 := H2.out.free 1
      have f2 := H2.out.free 2
      have HD := Lib.hid (ta_done (.int .i64 l.k) (.int .i64 l.a) (.int .i64 l.b) HB.out H2.out rfl)
      go_wp2_with fail
      have s0 := HD.out.1.cell 0
      have s1 := HD.out.1.cell 1
      have s2 := HD.out.1.cell 2
      exact bodyPost_ret (v := .agg #[.int .i64 l.k, .int .i64 l.a, .int .i64 l.b]) (by simp [results, Try.results85, go_sem, s0, s1, s2]) rfl ⟨rfl, HD.out.2⟩
def EaRel (l : Lg) (base : Nat) (w : World) (r i : Value) (wr : World) : Prop :=
  r = .bool false ∧ Below base w wr ∧ Blk wr base #[.int .i64 l.k, .int .i64 l.a, .int .i64 l.b] 91 ∧ Blk wr (base + 1) #[.int .i64 l.k, .int .i64 l.a, .int .i64 l.b] 91 ∧
    (i = .int .i64 0 ∨ i = .int .i64 1 ∨ i = .int .i64 2 ∨ i = .int .i64 3)
theorem EaRel.step {l : Lg} {base : Nat} {w wr wr' : World} {r i j : Value} (h : EaRel l base w r i wr) (hb : Below wr.heap.size wr wr') (hj : j = .int .i64 0 ∨ j = .int .i64 1 ∨ j = .int .i64 2 ∨ j = .int .i64 3) : EaRel l base w r j wr' :=
  ⟨h.1, h.2.1.trans (hb.mono (by have := h.2.2.1.lt; omega)), h.2.2.1.below hb, h.2.2.2.1.below hb, hj⟩
set_option maxHeartbeats 800000 in
theorem eqG_any (l : Lg) (w : World) :
    Calls Try.prog 87 #[lgv l, lgv l] w fun e w' => e = .returned (.bool true) ∧ Below w.heap.size w w' := by
  have HS : Hid (EaRel l w.heap.size w (.bool false) (.int .i64 0) ((w.alloc (.cells #[.int .i64 l.k, .int .i64 l.a, .int .i64 l.b] 91)).alloc (.cells #[.int .i64 l.k, .int .i64 l.a, .int .i64 l.b] 91))) := Lib.hid
    ⟨rfl, ((Below.refl _ w).alloc (Nat.le_refl _) _).alloc (by simp) _, (blk_new w _ _).below (below_new _ _), blk_at _ _ _ _ (by simp), .inl rfl⟩
  unfold lgv
  go_enter Try.func87, Try.ntmps87
  go_wp2_with fail
  go_loopw [4, 5] (fun r i wr => EaRel l w.heap.size w r i wr) (fun _ i _ => 3 - (intOf i).toNat)
  case atStart => exact HS.out
  case round =>
    have hall := hrel
    obtain ⟨rfl, hb, h1, h2, h3⟩ := hrel
    have HR := Lib.hid hall
    clear hall hb HS
    have HA := Lib.hid h1
    have HC := Lib.hid h2
    clear h1 h2
    rcases h3 with rfl | rfl | rfl | rfl
    · have a0 := HA.out.cell 0
      have b0 := HC.out.cell 0
      go_wp2
      go_quiet (fail)
      go_wp2
      go_roundw
      case rel => exact HR.out.step (below_drewN wr nq) (.inr (.inl (by go_num)))
      case measure => simp [intOf]
    · have a0 := HA.out.cell 1
      have b0 := HC.out.cell 1
      go_wp2
      go_quiet (fail)
      go_wp2
      go_roundw
      case rel => exact HR.out.step (below_drewN wr nq) (.inr (.inr (.inl (by go_num))))
      case measure => simp [intOf]
    · have a0 := HA.out.cell 2
      have b0 := HC.out.cell 2
      go_wp2
      go_quiet (fail)
      go_wp2
      go_roundw
      case rel => exact HR.out.step (below_drewN wr nq) (.inr (.inr (.inr (by go_num))))
      case measure => simp [intOf]
    · go_wp2
      go_ret
      exact ⟨rfl, HR.out.2.1⟩
theorem infoLg : (Try.prog.info? 91).map (fun i => (i.zero, i.size, i.bytes)) = some (some (.agg #[.int .i64 0, .int .i64 0, .int .i64 0]), 3, 24) := by kernel_rfl
/-- the copy when j legs stand -/
def TgRel (ks : List Lg) (base : Nat) (w : World) (i : Value) (wr : World) : Prop :=
  ∃ (j : Nat) (cs : Array Value), j ≤ ks.length ∧ i = .int .i64 j ∧ Blk wr base cs 91 ∧ cs.size = ks.length * 3 ∧ Below base w wr ∧
    ∀ (q : Nat) k, q < j → ks[q]? = some k → cs[q * 3]? = some (.int .i64 k.k) ∧ cs[q * 3 + 1]? = some (.int .i64 k.a) ∧ cs[q * 3 + 2]? = some (.int .i64 k.b)
set_option maxHeartbeats 1600000 in
set_option maxRecDepth 20000 in
theorem toGS_any (v : Value) (ks : List Lg) (w : World) (hv : ReadsG w v ks) (hn : ks.length ≤ 1048576) :
    Calls Try.prog 41 #[v] w fun e w' => ∃ u, e = .returned u ∧ ReadsG w' u ks ∧ Below w.heap.size w w' := by
  have HT := Lib.hid (fun k w => toG_any k w)
  have HV := Lib.hid hv
  obtain ⟨a, c, rfl, hc, hm, _⟩ := hv
  have HN := Lib.hid hn
  clear hm
  obtain ⟨i0, hi, hz0, hz1, hz2⟩ := info_parts infoLg
  unfold lgv at *
  go_enter Try.func41, Try.ntmps41
  go_wp2_with (at_make; refine wpList_make_full _ rfl _ _ 53 rfl w.heap.size 91 i0 (.agg #[.int .i64 0, .int .i64 0, .int .i64 0]) 3 Try.underlying53 hi hz0 hz1 .i64 .i64 _ _ ks.length rfl rfl rfl rfl ?c1 ?c2 ?c3 ?_)
  case c1 => rw [hz2]; omega
  case c2 => unfold maxLen; omega
  case c3 => exact Nat.le_refl _
  intro w1 hown hgrow
  have hb1 : Below w.heap.size w w1 := (Below.refl _ _).grown hgrow (Nat.le_refl _) (fun k e => by cases e)
  obtain ⟨cs0, hcs0, hbk0⟩ : ∃ cs : Array Value, cs.size = ks.length * 3 ∧ Blk w1 w.heap.size cs 91 := by
    rcases hown.2 with ⟨h, _⟩ | ⟨g, cap, cur, h, _, hb, _, _, hcs, _⟩
    · cases h
    · cases h
      exact ⟨cur, hcs, hb⟩
  have HBK0 := Lib.hid hbk0
  have HB1 := Lib.hid hb1
  have HCS0 := Lib.hid hcs0
  clear hgrow hown hb1 hbk0 hcs0
  go_wp2
  go_loopw [4] (fun i wr => TgRel ks w.heap.size w i wr) (fun i _ => ks.length - (intOf i).toNat)
  case atStart => exact ⟨0, cs0, Nat.zero_le _, rfl, HBK0.out, HCS0.out, HB1.out, fun q k hq => by omega⟩
  case round =>
    obtain ⟨j, cs, hj, rfl, hbk, hsz, hb, hrows⟩ := hrel
    clear HBK0 HB1 HCS0
    have HBK := Lib.hid hbk
    have HB := Lib.hid hb
    have HR := Lib.hid hrows
    have HSZ := Lib.hid hsz
    clear hbk hb hrows hsz
    by_cases hlt : j < ks.length
    · obtain ⟨k, hxk⟩ := get_lg hlt
      obtain ⟨b, o, rfl, hbl, g0, g1, g2⟩ := legs_in HV.out hxk
      have g0 := (HB.out.cell (p := ⟨b, o + j * 3, none⟩) hbl).trans g0
      have g1 := (HB.out.cell (p := ⟨b, o + j * 3 + 1, none⟩) hbl).trans g1
      have g2 := (HB.out.cell (p := ⟨b, o + j * 3 + 2, none⟩) hbl).trans g2
      have HXK := Lib.hid hxk
      have HLT := Lib.hid hlt
      clear hxk
      go_wp2_with fail
      refine (HT.out k _).mono ?_
      rintro e w2 ⟨rfl, hb2⟩
      have HBL := Lib.hid HBK.out.lt
      have HBK2 := Lib.hid (HBK.out.below hb2)
      have HB2 := Lib.hid hb2
      have hs3 : j * 3 + 3 ≤ cs.size := by rw [HSZ.out]; omega
      obtain ⟨y0, hy0⟩ := arr_at (show j * 3 < cs.size by omega)
      obtain ⟨y1, hy1⟩ := arr_at (show j * 3 + 1 < cs.size by omega)
      obtain ⟨y2, hy2⟩ := arr_at (show j * 3 + 2 < cs.size by omega)
      have a0 := (HBK2.out.cell (j * 3)).trans hy0
      have a1 := (HBK2.out.cell (j * 3 + 1)).trans hy1
      have a2 := (HBK2.out.cell (j * 3 + 2)).trans hy2
      have f0 := HBK2.out.free (j * 3)
      have f1 := HBK2.out.free (j * 3 + 1)
      have f2 := HBK2.out.free (j * 3 + 2)
      have HS3 := Lib.hid hs3
      have HWB := Lib.hid (wset3_blk (p := j * 3) (v0 := .int .i64 k.k) (v1 := .int .i64 k.a) (v2 := .int .i64 k.b) HBK2.out)
      have HWC := Lib.hid (wset3_chg w2 w.heap.size (j * 3) (.int .i64 k.k) (.int .i64 k.a) (.int .i64 k.b))
      unfold wset3 at HWB HWC
      clear hb2 hy0 hy1 hy2 hs3 g0 g1 g2
      go_wp2_with fail
      go_roundw
      case rel =>
        refine ⟨j + 1, _, by omega, by go_num, HWB.out, by rw [set3_size]; exact HSZ.out, (HB.out.trans (HB2.out.mono (Nat.le_of_lt HBL.out))).trans (HWC.out.below (Nat.le_refl _) (Nat.le_of_lt HBK2.out.lt)), fun q kq hq hkq => ?_⟩
        by_cases hqj : q < j
        · obtain ⟨e0, e1, e2⟩ := HR.out q kq hqj hkq
          exact ⟨by rw [set3_off (by omega)]; exact e0, by rw [set3_off (by omega)]; exact e1, by rw [set3_off (by omega)]; exact e2⟩
        · obtain rfl : q = j := by omega
          rw [HXK.out] at hkq
          cases hkq
          exact set3_at (v0 := .int .i64 k.k) (v1 := .int .i64 k.a) (v2 := .int .i64 k.b) HS3.out
      case measure => have := HLT.out; simp [intOf]; omega
    · have hje : j = ks.length := by omega
      subst hje
      go_wp2_with fail
      go_ret
      refine ⟨_, rfl, ⟨_, _, rfl, Nat.le_refl _, by have := HN.out; unfold maxLen; omega, fun q k hq => ?_⟩, HB.out⟩
      obtain ⟨e0, e1, e2⟩ := HR.out q k (List.getElem?_eq_some_iff.1 hq).1 hq
      refine ⟨w.heap.size, 0, rfl, HBK.out.lt, ?_, ?_, ?_⟩
      · rw [Nat.zero_add, HBK.out.cell]; exact e0
      · rw [Nat.zero_add, HBK.out.cell]; exact e1
      · rw [Nat.zero_add, HBK.out.cell]; exact e2
def EqRelG (n : Nat) (w : World) (i : Value) (wr : World) : Prop := ∃ k : Nat, k ≤ n ∧ i = .int .i64 k ∧ Below w.heap.size w wr
set_option maxHeartbeats 800000 in
set_option maxRecDepth 20000 in
theorem eqGS_yes (v1 v2 : Value) (ks : List Lg) (w : World) (h1 : ReadsG w v1 ks) (h2 : ReadsG w v2 ks) :
    Calls Try.prog 43 #[v1, v2] w fun e w' => e = .returned (.bool true) ∧ Below w.heap.size w w' := by
  have HE := Lib.hid (fun k w => eqG_any k w)
  have H1 := Lib.hid h1
  have H2 := Lib.hid h2
  obtain ⟨a1, c1, rfl, hc1, hm1, _⟩ := h1
  obtain ⟨a2, c2, rfl, hc2, _, _⟩ := h2
  unfold maxLen at hm1
  unfold lgv at *
  go_enter Try.func43, Try.ntmps43
  go_wp2
  go_loopw [4, 5] (fun r i wr => r = .bool false ∧ EqRelG ks.length w i wr) (fun _ i _ => ks.length - (intOf i).toNat)
  case atStart => exact ⟨rfl, 0, Nat.zero_le _, rfl, Below.refl _ _⟩
  case round =>
    obtain ⟨rfl, j, hj, rfl, hb⟩ := hrel
    have HB := Lib.hid hb
    clear hb
    by_cases hlt : j < ks.length
    · obtain ⟨k, hxk⟩ := get_lg hlt
      obtain ⟨b1, o1, rfl, hbl1, g10, g11, g12⟩ := legs_in H1.out hxk
      obtain ⟨b2, o2, rfl, hbl2, g20, g21, g22⟩ := legs_in H2.out hxk
      have G10 := Lib.hid g10
      have G11 := Lib.hid g11
      have G12 := Lib.hid g12
      have G20 := Lib.hid g20
      have G21 := Lib.hid g21
      have G22 := Lib.hid g22
      have hi0 : 0 ≤ (j : Int) := by omega
      have hi1 : (j : Int) < ks.length := by omega
      clear hxk g10 g11 g12 g20 g21 g22
      go_wp2
      refine wp_region_noPanic ?_
      have HB := Lib.hid (HB.out.trans ((below_drewN _ 1).mono HB.out.size))
      refine wp_region_held_drew (S := fun w' => Below w.heap.size w w' ∧ w'.cell? ⟨b1, o1 + j * 3, none⟩ = some (.int .i64 k.k) ∧ w'.cell? ⟨b1, o1 + j * 3 + 1, none⟩ = some (.int .i64 k.a) ∧ w'.cell? ⟨b1, o1 + j * 3 + 2, none⟩ = some (.int .i64 k.b) ∧ w'.cell? ⟨b2, o2 + j * 3, none⟩ = some (.int .i64 k.k) ∧ w'.cell? ⟨b2, o2 + j * 3 + 1, none⟩ = some (.int .i64 k.a) ∧ w'.cell? ⟨b2, o2 + j * 3 + 2, none⟩ = some (.int .i64 k.b)) (by kernel_rfl) (⟨HB.out, (HB.out.cell (p := ⟨b1, o1 + j * 3, none⟩) hbl1).trans G10.out, (HB.out.cell (p := ⟨b1, o1 + j * 3 + 1, none⟩) hbl1).trans G11.out, (HB.out.cell (p := ⟨b1, o1 + j * 3 + 2, none⟩) hbl1).trans G12.out, (HB.out.cell (p := ⟨b2, o2 + j * 3, none⟩) hbl2).trans G20.out, (HB.out.cell (p := ⟨b2, o2 + j * 3 + 1, none⟩) hbl2).trans G21.out, (HB.out.cell (p := ⟨b2, o2 + j * 3 + 2, none⟩) hbl2).trans G22.out⟩) (fun hHeld => ?_)
      refine wpAnyH_take (i := 0) (oi := _) (v := ?_) rfl (by kernel_rfl) (by kernel_rfl) (by kernel_rfl) (fun _ _ _ h => h) (Or.inl ⟨by rfl, ?_⟩) (by assumption) ?_
      rotate_left
      · (intro w hSw; (try dsimp only at hSw); (first | (go_simp; done) | (go_simp; with_reducible rfl)))
      simp only [Act.put, List.getElem_toArray, List.getElem_cons_succ, List.getElem_cons_zero, List.setIfInBounds_toArray, List.set_cons_zero, List.set_cons_succ]
      refine wpAnyH_take (i := 1) (oi := _) (v := ?_) rfl (by kernel_rfl) (by kernel_rfl) (by kernel_rfl) (fun _ _ _ h => h) (Or.inl ⟨by rfl, ?_⟩) (by assumption) ?_
      rotate_left
      · (intro w hSw; (try dsimp only at hSw); (first | (go_simp; done) | (go_simp; with_reducible rfl)))
      simp only [Act.put, List.getElem_toArray, List.getElem_cons_succ, List.getElem_cons_zero, List.setIfInBounds_toArray, List.set_cons_zero, List.set_cons_succ]
      refine wpAnyH_take (i := 2) (oi := _) (v := ?_) rfl (by kernel_rfl) (by kernel_rfl) (by kernel_rfl) (fun _ _ _ h => h) (Or.inl ⟨by rfl, ?_⟩) (by assumption) ?_
      rotate_left
      · (intro w hSw; (try dsimp only at hSw); (first | (go_simp; done) | (go_simp; with_reducible rfl)))
      simp only [Act.put, List.getElem_toArray, List.getElem_cons_succ, List.getElem_cons_zero, List.setIfInBounds_toArray, List.set_cons_zero, List.set_cons_succ]
      refine wpAnyH_take (i := 3) (oi := _) (v := ?_) rfl (by kernel_rfl) (by kernel_rfl) (by kernel_rfl) (fun _ _ _ h => h) (Or.inl ⟨by rfl, ?_⟩) (by assumption) ?_
      rotate_left
      · (intro w hSw; (try dsimp only at hSw); (first | (go_simp; done) | (go_simp; with_reducible rfl)))
      simp only [Act.put, List.getElem_toArray, List.getElem_cons_succ, List.getElem_cons_zero, List.setIfInBounds_toArray, List.set_cons_zero, List.set_cons_succ]
      refine wpAnyH_take (i := 4) (oi := _) (v := ?_) rfl (by kernel_rfl) (by kernel_rfl) (by kernel_rfl) (fun _ _ _ h => h) (Or.inl ⟨by rfl, ?_⟩) (by assumption) ?_
      rotate_left
      · (intro w hSw; (try dsimp only at hSw); (first | (go_simp; done) | (go_simp; with_reducible rfl)))
      simp only [Act.put, List.getElem_toArray, List.getElem_cons_succ, List.getElem_cons_zero, List.setIfInBounds_toArray, List.set_cons_zero, List.set_cons_succ]
      refine wpAnyH_take (i := 5) (oi := _) (v := ?_) rfl (by kernel_rfl) (by kernel_rfl) (by kernel_rfl) (fun _ _ _ h => h) (Or.inl ⟨by rfl, ?_⟩) (by assumption) ?_
      rotate_left
      · (intro w hSw; (try dsimp only at hSw); (first | (go_simp; done) | (go_simp; with_reducible rfl)))
      simp only [Act.put, List.getElem_toArray, List.getElem_cons_succ, List.getElem_cons_zero, List.setIfInBounds_toArray, List.set_cons_zero, List.set_cons_succ]
      refine wpAnyH_take (i := 6) (oi := _) (v := ?_) rfl (by kernel_rfl) (by kernel_rfl) (by kernel_rfl) (fun _ _ _ h => h) (Or.inl ⟨by rfl, ?_⟩) (by assumption) ?_
      rotate_left
      · (intro w hSw; (try dsimp only at hSw); (first | (go_simp; done) | (go_simp; with_reducible rfl)))
      simp only [Act.put, List.getElem_toArray, List.getElem_cons_succ, List.getElem_cons_zero, List.setIfInBounds_toArray, List.set_cons_zero, List.set_cons_succ]
      refine wpAnyH_take (i := 7) (oi := _) (v := ?_) rfl (by kernel_rfl) (by kernel_rfl) (by kernel_rfl) (fun _ _ _ h => h) (Or.inl ⟨by rfl, ?_⟩) (by assumption) ?_
      rotate_left
      · (intro w hSw; (try dsimp only at hSw); (first | (go_simp; done) | (go_simp; with_reducible rfl)))
      simp only [Act.put, List.getElem_toArray, List.getElem_cons_succ, List.getElem_cons_zero, List.setIfInBounds_toArray, List.set_cons_zero, List.set_cons_succ]
      refine wpAnyH_ready (rs := [8]) (by kernel_rfl) (by simp) ?_
      refine AllReadyH.cons rfl (fun K hK => ?_) AllReadyH.nil
      go_simp
      refine (HE.out k _).mono ?_
      rintro e w21 ⟨rfl, hb⟩
      have HB := Lib.hid (HB.out.trans (hb.mono HB.out.size))
      clear hb
      clear hHeld
      try go_wp2_with fail
      refine hK.out _ _ (⟨HB.out, (HB.out.cell (p := ⟨b1, o1 + j * 3, none⟩) hbl1).trans G10.out, (HB.out.cell (p := ⟨b1, o1 + j * 3 + 1, none⟩) hbl1).trans G11.out, (HB.out.cell (p := ⟨b1, o1 + j * 3 + 2, none⟩) hbl1).trans G12.out, (HB.out.cell (p := ⟨b2, o2 + j * 3, none⟩) hbl2).trans G20.out, (HB.out.cell (p := ⟨b2, o2 + j * 3 + 1, none⟩) hbl2).trans G21.out, (HB.out.cell (p := ⟨b2, o2 + j * 3 + 2, none⟩) hbl2).trans G22.out⟩) (fun hHeld => ?_)
      clear hK K
      refine wpAnyH_take (i := 9) (oi := _) (v := ?_) rfl (by kernel_rfl) (by kernel_rfl) (by kernel_rfl) (fun _ _ _ h => h) (Or.inl ⟨by rfl, ?_⟩) (by assumption) ?_
      rotate_left
      · (intro w hSw; (try dsimp only at hSw); (first | (go_simp; done) | (go_simp; with_reducible rfl)))
      simp only [Act.put, List.getElem_toArray, List.getElem_cons_succ, List.getElem_cons_zero, List.setIfInBounds_toArray, List.set_cons_zero, List.set_cons_succ]
      refine wpAnyH_done (by kernel_rfl) ?_ _
      refine NoPanic.normal ?_
      clear hHeld
      go_wp2_with fail
      go_roundw
      case rel => exact ⟨rfl, j + 1, by omega, by go_num, HB.out⟩
      case measure => simp [intOf]; omega
    · go_wp2
      go_ret
      exact ⟨rfl, HB.out⟩
end Go.Proofs.Ytgchodielkodeaa
