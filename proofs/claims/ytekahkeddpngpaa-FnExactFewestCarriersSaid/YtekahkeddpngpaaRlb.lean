/-
  What is proved: the contracts of the laws' helpers on carriers: szCarrierS, toCarrier, toCarrierS, eqCarrier. Conditions: lists that read as carriers.
-/
import Derived.Test.YtekahkeddpngpaaRla
import Derived.Test.YtekahkeddpngpaaMk3
import Derived.Test.YtekahkeddpngpaaTbb
namespace Go.Proofs.Ytekahkeddpngpaa
open Go.RowKit
set_option linter.unusedVariables false
set_option linter.unusedSimpArgs false

theorem szCS_yes (v : Value) (cs : List Cr) (l : Nat) (w : World) (hv : ReadsC w v cs) (hl : l ≤ 1048576) (h : cs.length ≤ l) :
    Calls Try.prog 23 #[v, .int .i64 l] w fun e w' => e = .returned (.int .i64 ((l - cs.length : Nat) : Int)) ∧ w = w' := by
  obtain ⟨y, c, rfl, hc, hm, hx⟩ := hv
  unfold maxLen at hm
  clear hx
  have e : ((l - cs.length : Nat) : Int) = (l : Int) - cs.length := by omega
  rw [e]
  have h1 : 0 ≤ (l : Int) - cs.length := by omega
  have h2 : ¬ (l : Int) - cs.length < 0 := by omega
  have h3 : ¬ (l : Int) < cs.length := by omega
  have h4 : (cs.length : Int) ≤ l := by omega
  clear e
  go_enter Try.func23, Try.ntmps23
  go_wp2
  go_ret
  exact ⟨rfl, rfl⟩
theorem szCS_no (v : Value) (cs : List Cr) (l : Nat) (w : World) (hv : ReadsC w v cs) (hl : l ≤ 1048576) (h : l < cs.length) :
    Calls Try.prog 23 #[v, .int .i64 l] w fun e w' => e = .returned (.int .i64 (-1)) ∧ w = w' := by
  obtain ⟨y, c, rfl, hc, hm, hx⟩ := hv
  unfold maxLen at hm
  clear hx
  have h1 : ¬ 0 ≤ (l : Int) - cs.length := by omega
  have h2 : (l : Int) - cs.length < 0 := by omega
  have h3 : (l : Int) < cs.length := by omega
  go_enter Try.func23, Try.ntmps23
  go_wp2
  go_ret
  exact ⟨rfl, rfl⟩
theorem toC_any (c : Cr) (w : World) :
    Calls Try.prog 42 #[crv c] w fun e w' => e = .returned (crv c) ∧ Below w.heap.size w w' := by
  unfold crv
  go_enter Try.func42, Try.ntmps42
  go_wp2
  refine bodyPost_ret (v := .agg #[.int .i64 c.s, .int .i64 c.r, .int .i64 c.f]) (by simp [results, Try.results42, go_sem]) rfl ⟨rfl, ?_⟩
  exact ((((Below.refl _ _).alloc (Nat.le_refl _) _).alloc (by simp) _).alloc (by simp; omega) _)
theorem infoCr : (Try.prog.info? 60).map (fun i => (i.zero, i.size, i.bytes)) = some (some (.agg #[.int .i64 0, .int .i64 0, .int .i64 0]), 3, 24) := by kernel_rfl
theorem carriers_in {w : World} {a : Option Addr} {l c : Nat} {cs : List Cr} (h : ReadsC w (.slice a l c) cs) {j : Nat} {k : Cr} (hj : cs[j]? = some k) :
    ∃ b o, a = some ⟨b, o, none⟩ ∧ b < w.heap.size ∧ w.cell? ⟨b, o + j * 3, none⟩ = some (.int .i64 k.s) ∧ w.cell? ⟨b, o + j * 3 + 1, none⟩ = some (.int .i64 k.r) ∧ w.cell? ⟨b, o + j * 3 + 2, none⟩ = some (.int .i64 k.f) := by
  obtain ⟨a', c', e, hc, hm, hx⟩ := h
  cases e
  exact hx j k hj
theorem arr_at {cs : Array Value} {i : Nat} (h : i < cs.size) : ∃ u, cs[i]? = some u := ⟨cs[i], Array.getElem?_eq_getElem h⟩
theorem blk_setS {w : World} {b j : Nat} {cs : Array Value} {t : TypeId} (v : Value) (h : Blk w b cs t) : Blk (w.setCell ⟨b, j, none⟩ v) b (cs.setIfInBounds j v) t := heap_setCell_same w b j _ t v h
theorem blk_setO {w : World} {b b' j : Nat} {cs : Array Value} {t : TypeId} (v : Value) (h : Blk w b cs t) (hne : b ≠ b') : Blk (w.setCell ⟨b', j, none⟩ v) b cs t := (heap_setCell_other w ⟨b', j, none⟩ b v (fun e => hne e)).trans h
def set3 (cs : Array Value) (p : Nat) (v0 v1 v2 : Value) : Array Value := ((cs.setIfInBounds p v0).setIfInBounds (p + 1) v1).setIfInBounds (p + 2) v2
theorem set3_size (cs : Array Value) (p : Nat) (v0 v1 v2 : Value) : (set3 cs p v0 v1 v2).size = cs.size := by simp [set3]
theorem set3_off {cs : Array Value} {p i : Nat} {v0 v1 v2 : Value} (h : i < p ∨ p + 3 ≤ i) : (set3 cs p v0 v1 v2)[i]? = cs[i]? := by
  unfold set3
  rw [Array.getElem?_setIfInBounds_ne (by omega), Array.getElem?_setIfInBounds_ne (by omega), Array.getElem?_setIfInBounds_ne (by omega)]
theorem set3_at {cs : Array Value} {p : Nat} {v0 v1 v2 : Value} (h : p + 3 ≤ cs.size) : (set3 cs p v0 v1 v2)[p]? = some v0 ∧ (set3 cs p v0 v1 v2)[p + 1]? = some v1 ∧ (set3 cs p v0 v1 v2)[p + 2]? = some v2 := by
  unfold set3
  refine ⟨?_, ?_, ?_⟩
  · rw [Array.getElem?_setIfInBounds_ne (by omega), Array.getElem?_setIfInBounds_ne (by omega), Array.getElem?_setIfInBounds_self_of_lt (by omega)]
  · rw [Array.getElem?_setIfInBounds_ne (by omega), Array.getElem?_setIfInBounds_self_of_lt (by simp; omega)]
  · rw [Array.getElem?_setIfInBounds_self_of_lt (by simp; omega)]
/-- the world behind a store of three cells -/
def wset3 (w : World) (b p : Nat) (v0 v1 v2 : Value) : World := ((w.setCell ⟨b, p, none⟩ v0).setCell ⟨b, p + 1, none⟩ v1).setCell ⟨b, p + 2, none⟩ v2
theorem wset3_blk {w : World} {b p : Nat} {cs : Array Value} {t : TypeId} {v0 v1 v2 : Value} (h : Blk w b cs t) : Blk (wset3 w b p v0 v1 v2) b (set3 cs p v0 v1 v2) t := by
  have st : ∀ {w : World} {j : Nat} {cs : Array Value} (v : Value), Blk w b cs t → Blk (w.setCell ⟨b, j, none⟩ v) b (cs.setIfInBounds j v) t := fun {w j cs} v h => heap_setCell_same w b j _ t v h
  exact st _ (st _ (st _ h))
theorem wset3_chg (w : World) (b p : Nat) (v0 v1 v2 : Value) : ChgIn b (b + 1) w (wset3 w b p v0 v1 v2) := by
  have st : ∀ {w' : World} {j : Nat} (v : Value), ChgIn b (b + 1) w w' → ChgIn b (b + 1) w (w'.setCell ⟨b, j, none⟩ v) := by
    intro w' j v h
    exact h.trans ⟨rfl, rfl, rfl, by simp [World.setCell], fun k hk ho => Below.heap_setCell w' ⟨b, j, none⟩ v k (fun e => by have e2 : k = b := e; omega)⟩
  exact st _ (st _ (st _ (ChgIn.refl _ _ _)))
/-- the copy when j carriers stand -/
def TcRel (ks : List Cr) (base : Nat) (w : World) (i : Value) (wr : World) : Prop :=
  ∃ (j : Nat) (cs : Array Value), j ≤ ks.length ∧ i = .int .i64 j ∧ Blk wr base cs 60 ∧ cs.size = ks.length * 3 ∧ Below base w wr ∧
    ∀ (q : Nat) k, q < j → ks[q]? = some k → cs[q * 3]? = some (.int .i64 k.s) ∧ cs[q * 3 + 1]? = some (.int .i64 k.r) ∧ cs[q * 3 + 2]? = some (.int .i64 k.f)
set_option maxHeartbeats 1600000 in
set_option maxRecDepth 20000 in
theorem toCS_any (v : Value) (ks : List Cr) (w : World) (hv : ReadsC w v ks) (hn : ks.length ≤ 1048576) :
    Calls Try.prog 25 #[v] w fun e w' => ∃ u, e = .returned u ∧ ReadsC w' u ks ∧ Below w.heap.size w w' := by
  have HT := Lib.hid (fun k w => toC_any k w)
  have HV := Lib.hid hv
  obtain ⟨a, c, rfl, hc, hm, _⟩ := hv
  have HN := Lib.hid hn
  clear hm
  obtain ⟨i0, hi, hz0, hz1, hz2⟩ := info_parts infoCr
  unfold crv at *
  go_enter Try.func25, Try.ntmps25
  go_wp2_with (at_make; refine wpList_make_full _ rfl _ _ 42 rfl w.heap.size 60 i0 (.agg #[.int .i64 0, .int .i64 0, .int .i64 0]) 3 Try.underlying42 hi hz0 hz1 .i64 .i64 _ _ ks.length rfl rfl rfl rfl ?c1 ?c2 ?c3 ?_)
  case c1 => rw [hz2]; omega
  case c2 => unfold maxLen; omega
  case c3 => exact Nat.le_refl _
  intro w1 hown hgrow
  have hb1 : Below w.heap.size w w1 := (Below.refl _ _).grown hgrow (Nat.le_refl _) (fun k e => by cases e)
  obtain ⟨cs0, hcs0, hbk0⟩ : ∃ cs : Array Value, cs.size = ks.length * 3 ∧ Blk w1 w.heap.size cs 60 := by
    rcases hown.2 with ⟨h, _⟩ | ⟨g, cap, cur, h, _, hb, _, _, hcs, _⟩
    · cases h
    · cases h
      exact ⟨cur, hcs, hb⟩
  have HBK0 := Lib.hid hbk0
  have HB1 := Lib.hid hb1
  have HCS0 := Lib.hid hcs0
  clear hgrow hown hb1 hbk0 hcs0
  go_wp2
  go_loopw [4] (fun i wr => TcRel ks w.heap.size w i wr) (fun i _ => ks.length - (intOf i).toNat)
  case atStart => exact ⟨0, cs0, Nat.zero_le _, rfl, HBK0.out, HCS0.out, HB1.out, fun q k hq => by omega⟩
  case round =>
    obtain ⟨j, cs, hj, rfl, hbk, hsz, hb, hrows⟩ := hrel
    clear HBK0 HB1 HCS0
    have HBK := Lib.hid hbk
    have HB := Lib.hid hb
    have HR := Lib.hid hrows
    have HSZ := Lib.hid hsz
    clear hbk hb hrows hsz
    by_cases hlt : j < ks.length
    · obtain ⟨k, hxk⟩ := get_some hlt
      obtain ⟨b, o, rfl, hbl, g0, g1, g2⟩ := carriers_in HV.out hxk
      have g0 := (HB.out.cell (p := ⟨b, o + j * 3, none⟩) hbl).trans g0
      have g1 := (HB.out.cell (p := ⟨b, o + j * 3 + 1, none⟩) hbl).trans g1
      have g2 := (HB.out.cell (p := ⟨b, o + j * 3 + 2, none⟩) hbl).trans g2
      have HXK := Lib.hid hxk
      have HLT := Lib.hid hlt
      clear hxk
      go_wp2_with fail
      refine (HT.out k _).mono ?_
      rintro e w2 ⟨rfl, hb2⟩
      have HBL := Lib.hid HBK.out.lt
      have HBK2 := Lib.hid (HBK.out.below hb2)
      have HB2 := Lib.hid hb2
      have hs3 : j * 3 + 3 ≤ cs.size := by rw [HSZ.out]; omega
      obtain ⟨y0, hy0⟩ := arr_at (show j * 3 < cs.size by omega)
      obtain ⟨y1, hy1⟩ := arr_at (show j * 3 + 1 < cs.size by omega)
      obtain ⟨y2, hy2⟩ := arr_at (show j * 3 + 2 < cs.size by omega)
      have a0 := (HBK2.out.cell (j * 3)).trans hy0
      have a1 := (HBK2.out.cell (j * 3 + 1)).trans hy1
      have a2 := (HBK2.out.cell (j * 3 + 2)).trans hy2
      have f0 := HBK2.out.free (j * 3)
      have f1 := HBK2.out.free (j * 3 + 1)
      have f2 := HBK2.out.free (j * 3 + 2)
      have HS3 := Lib.hid hs3
      have HWB := Lib.hid (wset3_blk (p := j * 3) (v0 := .int .i64 k.s) (v1 := .int .i64 k.r) (v2 := .int .i64 k.f) HBK2.out)
      have HWC := Lib.hid (wset3_chg w2 w.heap.size (j * 3) (.int .i64 k.s) (.int .i64 k.r) (.int .i64 k.f))
      unfold wset3 at HWB HWC
      clear hb2 hy0 hy1 hy2 hs3 g0 g1 g2
      go_wp2_with fail
      go_roundw
      case rel =>
        refine ⟨j + 1, _, by omega, by go_num, HWB.out, by rw [set3_size]; exact HSZ.out, (HB.out.trans (HB2.out.mono (Nat.le_of_lt HBL.out))).trans (HWC.out.below (Nat.le_refl _) (Nat.le_of_lt HBK2.out.lt)), fun q kq hq hkq => ?_⟩
        by_cases hqj : q < j
        · obtain ⟨e0, e1, e2⟩ := HR.out q kq hqj hkq
          exact ⟨by rw [set3_off (by omega)]; exact e0, by rw [set3_off (by omega)]; exact e1, by rw [set3_off (by omega)]; exact e2⟩
        · obtain rfl : q = j := by omega
          rw [HXK.out] at hkq
          cases hkq
          exact set3_at (v0 := .int .i64 k.s) (v1 := .int .i64 k.r) (v2 := .int .i64 k.f) HS3.out
      case measure => have := HLT.out; simp [intOf]; omega
    · have hje : j = ks.length := by omega
      subst hje
      go_wp2_with fail
      go_ret
      refine ⟨_, rfl, ⟨_, _, rfl, Nat.le_refl _, by have := HN.out; unfold maxLen; omega, fun q k hq => ?_⟩, HB.out⟩
      obtain ⟨e0, e1, e2⟩ := HR.out q k (List.getElem?_eq_some_iff.1 hq).1 hq
      refine ⟨w.heap.size, 0, rfl, HBK.out.lt, ?_, ?_, ?_⟩
      · rw [Nat.zero_add, HBK.out.cell]; exact e0
      · rw [Nat.zero_add, HBK.out.cell]; exact e1
      · rw [Nat.zero_add, HBK.out.cell]; exact e2
theorem eqC_any (c : Cr) (w : World) :
    Calls Try.prog 45 #[crv c, crv c] w fun e w' => e = .returned (.bool true) ∧ Below w.heap.size w w' := by
  have HB := Lib.hid ((below_new w (.cells #[.int .i64 c.s, .int .i64 c.r, .int .i64 c.f] 60)).trans ((below_new _ (.cells #[.int .i64 c.s, .int .i64 c.r, .int .i64 c.f] 60)).mono (by simp)))
  unfold crv
  go_enter Try.func45, Try.ntmps45
  go_wp2_with fail
  go_ret
  exact ⟨rfl, HB.out⟩
end Go.Proofs.Ytekahkeddpngpaa
