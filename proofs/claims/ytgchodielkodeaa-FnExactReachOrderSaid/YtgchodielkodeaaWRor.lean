/-
  What is proved: the walk of the law FnExactReachOrder: for every input impl.ReachOrder answers as the model does, its arguments read as before, and its answer is memory of its own. Conditions: none beyond the row's own.
-/
import Derived.Test.YtgchodielkodeaaRye
namespace Go.Proofs.Ytgchodielkodeaa
open Go.RowKit
set_option linter.unusedVariables false
set_option linter.unusedSimpArgs false
def CmRel (B n K : Nat) (w : World) (kk i : Value) (wr : World) : Prop :=
  ∃ (q j : Nat) (cs : Array Value), q ≤ n ∧ j = K + 3 * q ∧ i = .int .i64 q ∧ kk = .int .i64 j ∧ Blk wr B cs 38 ∧ cs.size = n * 3 ∧ ChgIn B (B + 1) w wr
set_option maxHeartbeats 1600000 in
set_option maxRecDepth 20000 in
theorem markCS_any (B n K c : Nat) (cs : Array Value) (w : World) (hb : Blk w B cs 38) (hs : cs.size = n * 3) (hn : n ≤ 1048576) (hK : K ≤ 1048586) :
    Calls Try.prog 36 #[.slice (some ⟨B, 0, none⟩) n c, .int .i64 K] w fun e w' => e = .returned (.int .i64 ((K + 3 * n : Nat) : Int)) ∧ ChgIn B (B + 1) w w' := by
  have HB0 := Lib.hid hb
  have HS0 := Lib.hid hs
  clear hb hs
  go_enter Try.func36, Try.ntmps36
  go_wp2
  go_loopw [1, 5] (fun kk i wr => CmRel B n K w kk i wr) (fun _ i _ => n - (intOf i).toNat)
  case atStart => exact ⟨0, K, cs, Nat.zero_le _, rfl, rfl, rfl, HB0.out, HS0.out, ChgIn.refl _ _ _⟩
  case round =>
    obtain ⟨q, j, ds, hq, hj, rfl, rfl, hbk, hsz, hch⟩ := hrel
    clear HB0 HS0
    have hjn : j ≤ 4194400 := by omega
    have Hj := Lib.hid hj
    have HBK := Lib.hid hbk
    have HSZ := Lib.hid hsz
    have HCH := Lib.hid hch
    clear hj hbk hsz hch
    by_cases hlt : q < n
    · have hs3 : q * 3 + 3 ≤ ds.size := by rw [HSZ.out]; omega
      obtain ⟨y0, hy0⟩ := arr_at (show q * 3 < ds.size by omega)
      obtain ⟨y1, hy1⟩ := arr_at (show q * 3 + 1 < ds.size by omega)
      obtain ⟨y2, hy2⟩ := arr_at (show q * 3 + 2 < ds.size by omega)
      have a0 := (HBK.out.cell (q * 3)).trans hy0
      have a1 := (HBK.out.cell (q * 3 + 1)).trans hy1
      have a2 := (HBK.out.cell (q * 3 + 2)).trans hy2
      have f0 := HBK.out.free (q * 3)
      have f1 := HBK.out.free (q * 3 + 1)
      have f2 := HBK.out.free (q * 3 + 2)
      have HWB := Lib.hid (wset3_blk (p := q * 3) (v0 := .int .i64 j) (v1 := .int .i64 ((j : Int) + 1)) (v2 := .int .i64 ((j : Int) + 1 + 1)) HBK.out)
      have HWC := Lib.hid (wset3_chg wr B (q * 3) (.int .i64 j) (.int .i64 ((j : Int) + 1)) (.int .i64 ((j : Int) + 1 + 1)))
      unfold wset3 at HWB HWC
      clear hy0 hy1 hy2 hs3
      go_wp2_with fail
      go_roundw
      case rel => exact ⟨q + 1, j + 3, _, by omega, by have := Hj.out; omega, by go_num, by go_num, HWB.out, by rw [set3_size]; exact HSZ.out, HCH.out.trans HWC.out⟩
      case measure => simp [intOf] <;> omega
    · have hqn : q = n := by omega
      subst hqn
      go_wp2_with fail
      go_ret
      exact ⟨ret_int (by rw [Hj.out]), HCH.out⟩
/-- a copied list of carriers and its block -/
structure CsOwn (base : Nat) (u : Value) (ks : List Cr) (w : World) : Prop where
  blk : ∃ cs, u = .slice (some ⟨base, 0, none⟩) ks.length ks.length ∧ Blk w base cs 38 ∧ cs.size = ks.length * 3
  reads : ReadsC w u ks
theorem CsOwn.lt {base : Nat} {u : Value} {ks : List Cr} {w : World} (h : CsOwn base u ks w) : base < w.heap.size := by
  obtain ⟨⟨cs, _, hb, _⟩, _⟩ := h
  exact hb.lt
theorem CsOwn.below {base : Nat} {u : Value} {ks : List Cr} {w w' : World} (h : CsOwn base u ks w) (hb : Below w.heap.size w w') : CsOwn base u ks w' := by
  obtain ⟨⟨cs, hu, hk, hs⟩, hr⟩ := h
  exact ⟨⟨cs, hu, hk.below hb, hs⟩, hr.below hb⟩
theorem CsOwn.mark {base K : Nat} {u : Value} {ks : List Cr} {w : World} (h : CsOwn base u ks w) (hn : ks.length ≤ 1048576) (hK : K ≤ 1048586) :
    Calls Try.prog 36 #[u, .int .i64 K] w fun e w' => e = .returned (.int .i64 ((K + 3 * ks.length : Nat) : Int)) ∧ ChgIn base (base + 1) w w' := by
  obtain ⟨⟨cs, rfl, hb, hs⟩, _⟩ := h
  exact markCS_any base ks.length K ks.length cs w hb hs hn hK
set_option maxHeartbeats 1600000 in
set_option maxRecDepth 20000 in
theorem toCSo_any (v : Value) (ks : List Cr) (w : World) (hv : ReadsC w v ks) (hn : ks.length ≤ 1048576) :
    Calls Try.prog 22 #[v] w fun e w' => ∃ u, e = .returned u ∧ CsOwn w.heap.size u ks w' ∧ Below w.heap.size w w' := by
  have HT := Lib.hid (fun k w => toC_any k w)
  have HV := Lib.hid hv
  obtain ⟨a, c, rfl, hc, hm, _⟩ := hv
  have HN := Lib.hid hn
  clear hm
  obtain ⟨i0, hi, hz0, hz1, hz2⟩ := info_parts infoCr
  unfold crv at *
  go_enter Try.func22, Try.ntmps22
  go_wp2_with (at_make; refine wpList_make_full _ rfl _ _ 30 rfl w.heap.size 38 i0 (.agg #[.int .i64 0, .int .i64 0, .int .i64 0]) 3 Try.underlying30 hi hz0 hz1 .i64 .i64 _ _ ks.length rfl rfl rfl rfl ?c1 ?c2 ?c3 ?_)
  case c1 => rw [hz2]; omega
  case c2 => unfold maxLen; omega
  case c3 => exact Nat.le_refl _
  intro w1 hown hgrow
  have hb1 : Below w.heap.size w w1 := (Below.refl _ _).grown hgrow (Nat.le_refl _) (fun k e => by cases e)
  obtain ⟨cs0, hcs0, hbk0⟩ : ∃ cs : Array Value, cs.size = ks.length * 3 ∧ Blk w1 w.heap.size cs 38 := by
    rcases hown.2 with ⟨h, _⟩ | ⟨g, cap, cur, h, _, hb, _, _, hcs, _⟩
    · cases h
    · cases h
      exact ⟨cur, hcs, hb⟩
  have HBK0 := Lib.hid hbk0
  have HB1 := Lib.hid hb1
  have HCS0 := Lib.hid hcs0
  clear hgrow hown hb1 hbk0 hcs0
  go_wp2
  go_loopw [4] (fun i wr => TcRel ks w.heap.size w i wr) (fun i _ => ks.length - (intOf i).toNat)
  case atStart => exact ⟨0, cs0, Nat.zero_le _, rfl, HBK0.out, HCS0.out, HB1.out, fun q k hq => by omega⟩
  case round =>
    obtain ⟨j, cs, hj, rfl, hbk, hsz, hb, hrows⟩ := hrel
    clear HBK0 HB1 HCS0
    have HBK := Lib.hid hbk
    have HB := Lib.hid hb
    have HR := Lib.hid hrows
    have HSZ := Lib.hid hsz
    clear hbk hb hrows hsz
    by_cases hlt : j < ks.length
    · obtain ⟨k, hxk⟩ := get_some hlt
      obtain ⟨b, o, rfl, hbl, g0, g1, g2⟩ := carriers_in HV.out hxk
      have g0 := (HB.out.cell (p := ⟨b, o + j * 3, none⟩) hbl).trans g0
      have g1 := (HB.out.cell (p := ⟨b, o + j * 3 + 1, none⟩) hbl).trans g1
      have g2 := (HB.out.cell (p := ⟨b, o + j * 3 + 2, none⟩) hbl).trans g2
      have HXK := Lib.hid hxk
      have HLT := Lib.hid hlt
      clear hxk
      go_wp2_with fail
      refine (HT.out k _).mono ?_
      rintro e w2 ⟨rfl, hb2⟩
      have HBL := Lib.hid HBK.out.lt
      have HBK2 := Lib.hid (HBK.out.below hb2)
      have HB2 := Lib.hid hb2
      have hs3 : j * 3 + 3 ≤ cs.size := by rw [HSZ.out]; omega
      obtain ⟨y0, hy0⟩ := arr_at (show j * 3 < cs.size by omega)
      obtain ⟨y1, hy1⟩ := arr_at (show j * 3 + 1 < cs.size by omega)
      obtain ⟨y2, hy2⟩ := arr_at (show j * 3 + 2 < cs.size by omega)
      have a0 := (HBK2.out.cell (j * 3)).trans hy0
      have a1 := (HBK2.out.cell (j * 3 + 1)).trans hy1
      have a2 := (HBK2.out.cell (j * 3 + 2)).trans hy2
      have f0 := HBK2.out.free (j * 3)
      have f1 := HBK2.out.free (j * 3 + 1)
      have f2 := HBK2.out.free (j * 3 + 2)
      have HS3 := Lib.hid hs3
      have HWB := Lib.hid (wset3_blk (p := j * 3) (v0 := .int .i64 k.s) (v1 := .int .i64 k.r) (v2 := .int .i64 k.f) HBK2.out)
      have HWC := Lib.hid (wset3_chg w2 w.heap.size (j * 3) (.int .i64 k.s) (.int .i64 k.r) (.int .i64 k.f))
      unfold wset3 at HWB HWC
      clear hb2 hy0 hy1 hy2 hs3 g0 g1 g2
      go_wp2_with fail
      go_roundw
      case rel =>
        refine ⟨j + 1, _, by omega, by go_num, HWB.out, by rw [set3_size]; exact HSZ.out, (HB.out.trans (HB2.out.mono (Nat.le_of_lt HBL.out))).trans (HWC.out.below (Nat.le_refl _) (Nat.le_of_lt HBK2.out.lt)), fun q kq hq hkq => ?_⟩
        by_cases hqj : q < j
        · obtain ⟨e0, e1, e2⟩ := HR.out q kq hqj hkq
          exact ⟨by rw [set3_off (by omega)]; exact e0, by rw [set3_off (by omega)]; exact e1, by rw [set3_off (by omega)]; exact e2⟩
        · obtain rfl : q = j := by omega
          rw [HXK.out] at hkq
          cases hkq
          exact set3_at (v0 := .int .i64 k.s) (v1 := .int .i64 k.r) (v2 := .int .i64 k.f) HS3.out
      case measure => have := HLT.out; simp [intOf]; omega
    · have hje : j = ks.length := by omega
      subst hje
      go_wp2_with fail
      go_ret
      refine ⟨_, rfl, ⟨⟨cs, rfl, HBK.out, HSZ.out⟩, _, _, rfl, Nat.le_refl _, by have := HN.out; unfold maxLen; omega, fun q k hq => ?_⟩, HB.out⟩
      obtain ⟨e0, e1, e2⟩ := HR.out q k (List.getElem?_eq_some_iff.1 hq).1 hq
      refine ⟨w.heap.size, 0, rfl, HBK.out.lt, ?_, ?_, ?_⟩
      · rw [Nat.zero_add, HBK.out.cell]; exact e0
      · rw [Nat.zero_add, HBK.out.cell]; exact e1
      · rw [Nat.zero_add, HBK.out.cell]; exact e2
end Go.Proofs.Ytgchodielkodeaa
namespace Go.Proofs.Ytgchodielkodeaa
open Go.RowKit
set_option linter.unusedVariables false
theorem roR_len (n : Int) (g : Bool) (cs : List Cr) (a b : Int) : (roR n g cs a b).1.length ≤ 6 := by
  cases hk : askB n g cs a b
  · rw [roR_no hk]
    simp
  · have h6 : cs.length ≤ 6 := ((csB_iff n g cs).1 ((askB_iff n g cs a b).1 hk).1).2.1
    cases hr : roF n cs a b with
    | none => rw [roR_none hk hr]; simp
    | some o =>
      rw [roR_some hk hr]
      rw [roF_all] at hr
      have ho := allO_ord (List.mem_of_find?_eq_some hr)
      have h5 := (ordC_iff cs.length o).1 ho
      have h7 := few_below cs.length o h5.2 (fun x hx => by
        obtain ⟨j, hj⟩ := List.getElem?_of_mem hx
        exact h5.1 j x hj)
      show o.length ≤ 6
      omega
end Go.Proofs.Ytgchodielkodeaa
namespace Go.Proofs.Ytgchodielkodeaa.fnExactReachOrder
open Go.RowKit
set_option linter.unusedVariables false
set_option linter.unusedSimpArgs false

set_option maxHeartbeats 3200000 in
set_option maxRecDepth 20000 in
theorem law_two (n : Int) (g : Bool) (v1 : Value) (cs1 : List Cr) (a2 : Int) (a3 : Int) (zs : List Int) (b : Bool) (hz : zs.length ≤ 1048576) (w : World) (hv1 : ReadsC w v1 cs1) (hn1 : cs1.length ≤ 1048576)
    (hm : ∀ (u1 : Value) (w : World), ReadsC w u1 cs1 → Calls Try.prog 34 #[rd n g, u1, .int .i64 a2, .int .i64 a3] w fun e w' => ∃ v, e = .returned (.tuple #[v, .bool b]) ∧ ReadsI w' v zs ∧ Below w.heap.size w w')
    (hi : ∀ (u1 : Value) (w : World), ReadsC w u1 cs1 → Calls Try.prog 35 #[rd n g, u1, .int .i64 a2, .int .i64 a3] w (OwnsB w.heap.size zs b w)) :
    Calls Try.prog 7 #[rd n g, v1, .int .i64 a2, .int .i64 a3] w fun e w' => e = .returned (.bool true) ∧ Below w.heap.size w w' := by
  have HM := Lib.hid hm
  have HI := Lib.hid hi
  have HT := Lib.hid (fun w => toRoad_any n g w)
  have hnm : zs.length ≤ maxLen := by unfold maxLen; omega
  have Hnzs := Lib.hid hnm
  have Hbzs := Lib.hid hz
  clear hnm
  have HV1 := Lib.hid hv1
  clear hv1
  clear hm hi
  have HX := Lib.hid (Boxed.first w n g 23)
  unfold rd at *
  go_enter Try.func7, Try.ntmps7
  go_wp2_with fail
  have HZw1 : Hid (w.heap.size + 1 ≤ (w.alloc (.cells #[.int .i64 n, .bool g] 23)).heap.size) := Lib.hid (by simp)
  generalize (w.alloc (.cells #[.int .i64 n, .bool g] 23)) = w1 at *
  have hb0 := HX.out.c0
  have hb1 := HX.out.c1
  refine (szCS_yes v1 cs1 (1048576) _ (HV1.out.below HX.out.below) (by omega) (by omega)).mono ?_
  rintro e w2 ⟨rfl, rfl⟩
  go_wp2_with fail
  refine (HT.out _).mono ?_
  rintro e w2 ⟨rfl, hb⟩
  clear hb0 hb1
  have HX := Lib.hid (HX.out.next hb)
  have HZw2 : Hid (w1.heap.size ≤ w2.heap.size) := Lib.hid (hb.size)
  clear hb
  have hb0 := HX.out.c0
  have hb1 := HX.out.c1
  go_wp2_with fail
  refine (toCSo_any v1 cs1 _ (HV1.out.below HX.out.below) hn1).mono ?_
  rintro e w3 ⟨x1, rfl, ho, hb⟩
  clear hb0 hb1
  have HX := Lib.hid (HX.out.next hb)
  have HZw3 : Hid (w2.heap.size ≤ w3.heap.size) := Lib.hid (hb.size)
  have HLx1 : Hid (w2.heap.size < w3.heap.size) := Lib.hid ho.lt
  have HOx1 := Lib.hid ho
  clear ho
  clear hb
  have hb0 := HX.out.c0
  have hb1 := HX.out.c1
  go_wp2_with fail
  refine (HM.out x1 _ HOx1.out.reads).mono ?_
  rintro e w4 ⟨r2, rfl, hro, hb⟩
  clear hb0 hb1
  have HX := Lib.hid (HX.out.next hb)
  have HOx1 := Lib.hid (HOx1.out.below hb)
  have HZw4 : Hid (w3.heap.size ≤ w4.heap.size) := Lib.hid (hb.size)
  have HQr2 := Lib.hid hro
  clear hro
  clear hb
  have HMid : Hid (Below w4.heap.size w4 w4) := Lib.hid (Below.refl _ _)
  have HXm := Lib.hid HX.out.size
  clear HOx1
  have hb0 := HX.out.c0
  have hb1 := HX.out.c1
  go_wp2_with fail
  refine (toCSo_any v1 cs1 _ (HV1.out.below HX.out.below) hn1).mono ?_
  rintro e w5 ⟨x3, rfl, ho, hb⟩
  clear hb0 hb1
  have HX := Lib.hid (HX.out.next hb)
  have HMid := Lib.hid (HMid.out.trans (hb.mono HMid.out.size))
  have HZw5 : Hid (w4.heap.size ≤ w5.heap.size) := Lib.hid (hb.size)
  have HLx3 : Hid (w4.heap.size < w5.heap.size) := Lib.hid ho.lt
  have HOx3 := Lib.hid ho
  clear ho
  clear hb
  have hb0 := HX.out.c0
  have hb1 := HX.out.c1
  go_wp2_with fail
  refine (HT.out _).mono ?_
  rintro e w6 ⟨rfl, hb⟩
  clear hb0 hb1
  have HX := Lib.hid (HX.out.next hb)
  have HOx3 := Lib.hid (HOx3.out.below hb)
  have HMid := Lib.hid (HMid.out.trans (hb.mono HMid.out.size))
  have HZw6 : Hid (w5.heap.size ≤ w6.heap.size) := Lib.hid (hb.size)
  clear hb
  have hb0 := HX.out.c0
  have hb1 := HX.out.c1
  go_wp2_with fail
  refine (HI.out x3 _ HOx3.out.reads).mono ?_
  rintro e w7 ⟨g4, rfl, ho, hb⟩
  clear hb0 hb1
  have HX := Lib.hid (HX.out.next hb)
  have HOx3 := Lib.hid (HOx3.out.below hb)
  have HMid := Lib.hid (HMid.out.trans (hb.mono HMid.out.size))
  have HZw7 : Hid (w6.heap.size ≤ w7.heap.size) := Lib.hid (hb.size)
  have HRg4 : Hid (∀ b, g4.ownBlock = some b → w6.heap.size ≤ b ∧ b < w7.heap.size) := Lib.hid (fun b hb => owns_block ho b hb)
  have HOg4 := Lib.hid ho
  clear ho
  clear hb
  cases b
  all_goals
    have hb0 := HX.out.c0
    have hb1 := HX.out.c1
    go_wp2_with fail
    refine (eqI_below g4 r2 zs _ (owns_reads HOg4.out Hnzs.out) (HQr2.out.below HMid.out)).mono ?_
    rintro e w8 ⟨rfl, hb⟩
    clear hb0 hb1
    have HX := Lib.hid (HX.out.next hb)
    have HOx3 := Lib.hid (HOx3.out.below hb)
    have HOg4 := Lib.hid (owns_below HOg4.out hb)
    have HMid := Lib.hid (HMid.out.trans (hb.mono HMid.out.size))
    have HZw8 : Hid (w7.heap.size ≤ w8.heap.size) := Lib.hid (hb.size)
    clear hb
    have hb0 := HX.out.c0
    have hb1 := HX.out.c1
    go_wp2_with fail
    refine (toCSo_any v1 cs1 _ (HV1.out.below HX.out.below) hn1).mono ?_
    rintro e w9 ⟨x5, rfl, ho, hb⟩
    clear hb0 hb1
    have HX := Lib.hid (HX.out.next hb)
    have HOx3 := Lib.hid (HOx3.out.below hb)
    have HOg4 := Lib.hid (owns_below HOg4.out hb)
    have HMid := Lib.hid (HMid.out.trans (hb.mono HMid.out.size))
    have HZw9 : Hid (w8.heap.size ≤ w9.heap.size) := Lib.hid (hb.size)
    have HLx5 : Hid (w8.heap.size < w9.heap.size) := Lib.hid ho.lt
    have HOx5 := Lib.hid ho
    clear ho
    clear hb
    have hb0 := HX.out.c0
    have hb1 := HX.out.c1
    go_wp2_with fail
    refine (eqCS_yes x3 x5 cs1 _ HOx3.out.reads HOx5.out.reads).mono ?_
    rintro e w10 ⟨rfl, hb⟩
    clear hb0 hb1
    have HX := Lib.hid (HX.out.next hb)
    have HOx3 := Lib.hid (HOx3.out.below hb)
    have HOg4 := Lib.hid (owns_below HOg4.out hb)
    have HOx5 := Lib.hid (HOx5.out.below hb)
    have HMid := Lib.hid (HMid.out.trans (hb.mono HMid.out.size))
    have HZw10 : Hid (w9.heap.size ≤ w10.heap.size) := Lib.hid (hb.size)
    clear hb
    clear HOx5
    have hb0 := HX.out.c0
    have hb1 := HX.out.c1
    go_wp2_with fail
    refine (HOx3.out.mark hn1 (K := 1) (by omega)).mono ?_
    rintro e w11 ⟨rfl, hch⟩
    clear hb0 hb1
    have hbM : Below w4.heap.size w10 w11 := hch.below (by have z0 := HZw1.out; have z1 := HZw2.out; have z2 := HZw3.out; have z3 := HLx1.out; have z4 := HZw4.out; have z5 := HZw5.out; have z6 := HLx3.out; have z7 := HZw6.out; have z8 := HZw7.out; have z9 := HZw8.out; have z10 := HZw9.out; have z11 := HLx5.out; have z12 := HZw10.out; omega) HMid.out.size
    have HX := Lib.hid (HX.out.nextAt HXm.out hbM)
    have HMid := Lib.hid (HMid.out.trans hbM)
    have HOg4 := Lib.hid (row_chg HOg4.out hch (fun b h => by have l := HRg4.out b h; have z0 := HZw1.out; have z1 := HZw2.out; have z2 := HZw3.out; have z3 := HLx1.out; have z4 := HZw4.out; have z5 := HZw5.out; have z6 := HLx3.out; have z7 := HZw6.out; have z8 := HZw7.out; have z9 := HZw8.out; have z10 := HZw9.out; have z11 := HLx5.out; have z12 := HZw10.out; omega))
    have HZw11 : Hid (w10.heap.size ≤ w11.heap.size) := Lib.hid hch.size
    clear hch hbM
    clear HOx3
    have hb0 := HX.out.c0
    have hb1 := HX.out.c1
    go_wp2_with fail
    refine (eqI_below g4 r2 zs _ (owns_reads HOg4.out Hnzs.out) (HQr2.out.below HMid.out)).mono ?_
    rintro e w12 ⟨rfl, hb⟩
    clear hb0 hb1
    have HX := Lib.hid (HX.out.next hb)
    have HOg4 := Lib.hid (owns_below HOg4.out hb)
    have HMid := Lib.hid (HMid.out.trans (hb.mono HMid.out.size))
    have HZw12 : Hid (w11.heap.size ≤ w12.heap.size) := Lib.hid (hb.size)
    clear hb
    have hb0 := HX.out.c0
    have hb1 := HX.out.c1
    go_wp2_with fail
    refine (mark_list g4 zs _ (1) _ HOg4.out (Hbzs.out) (by omega)).mono ?_
    rintro e w13 ⟨rfl, hg, ho⟩
    clear hb0 hb1
    have hch : ChgIn (w6.heap.size) (w7.heap.size) w12 w13 := ChgIn.of_grown hg HRg4.out
    have hbM : Below w4.heap.size w12 w13 := hch.below (by have z0 := HZw1.out; have z1 := HZw2.out; have z2 := HZw3.out; have z3 := HLx1.out; have z4 := HZw4.out; have z5 := HZw5.out; have z6 := HLx3.out; have z7 := HZw6.out; have z8 := HZw7.out; have z9 := HZw8.out; have z10 := HZw9.out; have z11 := HLx5.out; have z12 := HZw10.out; have z13 := HZw11.out; have z14 := HZw12.out; omega) HMid.out.size
    have HX := Lib.hid (HX.out.nextAt HXm.out hbM)
    have HMid := Lib.hid (HMid.out.trans hbM)
    have HOg4 := Lib.hid ho
    have HZw13 : Hid (w12.heap.size ≤ w13.heap.size) := Lib.hid hch.size
    clear hch ho hbM hg
    have hb0 := HX.out.c0
    have hb1 := HX.out.c1
    go_wp2_with fail
    refine (held_any g4 zs.length (1) _ (owns_reads (by rw [mts_len]; exact HOg4.out) (by rw [mts_len]; exact Hnzs.out)) (Hbzs.out) (by omega)).mono ?_
    rintro e w14 ⟨rfl, rfl⟩
    go_wp2_with fail
    refine (HT.out _).mono ?_
    rintro e w14 ⟨rfl, hb⟩
    clear hb0 hb1
    have HX := Lib.hid (HX.out.next hb)
    have HOg4 := Lib.hid (owns_below HOg4.out hb)
    have HMid := Lib.hid (HMid.out.trans (hb.mono HMid.out.size))
    have HZw14 : Hid (w13.heap.size ≤ w14.heap.size) := Lib.hid (hb.size)
    clear hb
    have hb0 := HX.out.c0
    have hb1 := HX.out.c1
    go_wp2_with fail
    refine (toCSo_any v1 cs1 _ (HV1.out.below HX.out.below) hn1).mono ?_
    rintro e w15 ⟨x6, rfl, ho, hb⟩
    clear hb0 hb1
    have HX := Lib.hid (HX.out.next hb)
    have HOg4 := Lib.hid (owns_below HOg4.out hb)
    have HMid := Lib.hid (HMid.out.trans (hb.mono HMid.out.size))
    have HZw15 : Hid (w14.heap.size ≤ w15.heap.size) := Lib.hid (hb.size)
    have HLx6 : Hid (w14.heap.size < w15.heap.size) := Lib.hid ho.lt
    have HOx6 := Lib.hid ho
    clear ho
    clear hb
    have hb0 := HX.out.c0
    have hb1 := HX.out.c1
    go_wp2_with fail
    refine (HI.out x6 _ HOx6.out.reads).mono ?_
    rintro e w16 ⟨g7, rfl, ho, hb⟩
    clear hb0 hb1
    have HX := Lib.hid (HX.out.next hb)
    have HOg4 := Lib.hid (owns_below HOg4.out hb)
    have HOx6 := Lib.hid (HOx6.out.below hb)
    have HMid := Lib.hid (HMid.out.trans (hb.mono HMid.out.size))
    have HZw16 : Hid (w15.heap.size ≤ w16.heap.size) := Lib.hid (hb.size)
    have HRg7 : Hid (∀ b, g7.ownBlock = some b → w15.heap.size ≤ b ∧ b < w16.heap.size) := Lib.hid (fun b hb => owns_block ho b hb)
    have HOg7 := Lib.hid ho
    clear ho
    clear hb
    clear HOx6
    have hb0 := HX.out.c0
    have hb1 := HX.out.c1
    go_wp2_with fail
    refine (eqI_below g7 r2 zs _ (owns_reads HOg7.out Hnzs.out) (HQr2.out.below HMid.out)).mono ?_
    rintro e w17 ⟨rfl, hb⟩
    clear hb0 hb1
    have HX := Lib.hid (HX.out.next hb)
    have HOg4 := Lib.hid (owns_below HOg4.out hb)
    have HOg7 := Lib.hid (owns_below HOg7.out hb)
    have HMid := Lib.hid (HMid.out.trans (hb.mono HMid.out.size))
    have HZw17 : Hid (w16.heap.size ≤ w17.heap.size) := Lib.hid (hb.size)
    clear hb
    have hb0 := HX.out.c0
    have hb1 := HX.out.c1
    go_wp2_with fail
    refine (held_any g4 zs.length (1) _ (owns_reads (by rw [mts_len]; exact HOg4.out) (by rw [mts_len]; exact Hnzs.out)) (Hbzs.out) (by omega)).mono ?_
    rintro e w18 ⟨rfl, rfl⟩
    go_wp2_with fail
    go_ret
    exact ⟨rfl, HX.out.below⟩
set_option maxHeartbeats 800000 in
theorem law_long (n : Int) (g : Bool) (v1 : Value) (cs1 : List Cr) (a2 : Int) (a3 : Int) (w : World) (hv1 : ReadsC w v1 cs1) (hlong : 1048576 < cs1.length) :
    Calls Try.prog 7 #[rd n g, v1, .int .i64 a2, .int .i64 a3] w fun e w' => e = .returned (.bool true) ∧ Below w.heap.size w w' := by
  have HX := Lib.hid (below_new w (.cells #[.int .i64 n, .bool g] 23))
  have HS1 := Lib.hid (fun l w hv (hl : l ≤ 1048576) (h : cs1.length ≤ l) => szCS_yes v1 cs1 l w hv hl h)
  have HN1 := Lib.hid (fun l w hv (hl : l ≤ 1048576) (h : l < cs1.length) => szCS_no v1 cs1 l w hv hl h)
  have HV1 := Lib.hid (hv1.below HX.out)
  clear hv1
  unfold rd at *
  have hlg : 1048576 < cs1.length := hlong
  go_enter Try.func7, Try.ntmps7
  go_wp2_with fail
  refine (HN1.out (1048576) _ HV1.out (by omega) (by omega)).mono ?_
  rintro e w2 ⟨rfl, rfl⟩
  go_wp2_with fail
  go_ret
  exact ⟨rfl, HX.out⟩

theorem walk (n : Int) (g : Bool) (v1 : Value) (cs1 : List Cr) (a2 : Int) (a3 : Int) (w : World) (hv1 : ReadsC w v1 cs1) (ha2 : -9223372036854775808 ≤ a2 ∧ a2 ≤ 9223372036854775807) (ha3 : -9223372036854775808 ≤ a3 ∧ a3 ≤ 9223372036854775807) :
    Calls Try.prog 7 #[rd n g, v1, .int .i64 a2, .int .i64 a3] w fun e w' => e = .returned (.bool true) ∧ Below w.heap.size w w' := by
  by_cases h : 1048576 < cs1.length
  · exact law_long n g v1 cs1 a2 a3 w hv1 h
  · skip
    have hlen : ((roR n g cs1 a2 a3)).1.length ≤ 1048576 := Nat.le_trans (roR_len n g cs1 a2 a3) (by omega)
    exact law_two n g v1 cs1 a2 a3 ((roR n g cs1 a2 a3)).1 ((roR n g cs1 a2 a3)).2 hlen w hv1 (by omega) (fun u1 w h1 => spec_ReachOrder n g u1 cs1 a2 a3 w h1) (fun u1 w h1 => impl_ReachOrder n g u1 cs1 a2 a3 w h1)
end Go.Proofs.Ytgchodielkodeaa.fnExactReachOrder
