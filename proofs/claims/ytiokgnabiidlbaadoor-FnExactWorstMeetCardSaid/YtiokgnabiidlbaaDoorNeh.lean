/-
  What is proved: the contract of the program's table of meetings. Conditions: lists of walks of 61 places; the variable noMeeting is as it was laid.
-/
import Derived.Test.YtiokgnabiidlbaaDoorNeg
import Derived.Test.YtiokgnabiidlbaaDoorMeg
namespace Go.Proofs.YtiokgnabiidlbaaDoor
open Go.RowKit
set_option linter.unusedVariables false
set_option linter.unusedSimpArgs false

/-- the times at which a walk meets the first j of others -/
def rowL (xs : List Int) (wss : List (List Int)) (j : Nat) : List Int := (wss.take j).map fun ys => meetT [xs, ys]
theorem rowL_next {xs : List Int} {wss : List (List Int)} {j : Nat} {ys : List Int} (h : wss[j]? = some ys) : rowL xs wss (j + 1) = rowL xs wss j ++ [meetT [xs, ys]] := by
  obtain ⟨hj, rfl⟩ := List.getElem?_eq_some_iff.1 h
  unfold rowL
  rw [List.take_succ_eq_append_getElem hj, List.map_append]
  rfl
theorem rowL_len {xs : List Int} {wss : List (List Int)} {j : Nat} (h : j ≤ wss.length) : (rowL xs wss j).length = j := by
  simp [rowL]
  omega
theorem rowL_snoc {xs : List Int} {wss : List (List Int)} {j : Nat} {ys : List Int} (h : wss[j]? = some ys) : (rowL xs wss j).map iv ++ [Value.int .i64 (meetT [xs, ys])] = (rowL xs wss (j + 1)).map iv := by
  rw [rowL_next h, List.map_append]
  rfl
/-- the table of the first i of ones -/
def tabL (uss wss : List (List Int)) (i : Nat) : List (List Int) := (uss.take i).map fun xs => rowL xs wss wss.length
theorem tabL_next {uss wss : List (List Int)} {i : Nat} {xs : List Int} (h : uss[i]? = some xs) : tabL uss wss (i + 1) = tabL uss wss i ++ [rowL xs wss wss.length] := by
  obtain ⟨hi, rfl⟩ := List.getElem?_eq_some_iff.1 h
  unfold tabL
  rw [List.take_succ_eq_append_getElem hi, List.map_append]
  rfl
theorem tabL_len {uss wss : List (List Int)} {i : Nat} (h : i ≤ uss.length) : (tabL uss wss i).length = i := by
  simp [tabL]
  omega
theorem two_61 {xs ys : List Int} (h : xs.length = 61) (h2 : ys.length = 61) : ∀ (j : Nat) zs, [xs, ys][j]? = some zs → zs.length = 61 := by
  intro j zs hj
  match j, hj with
  | 0, hj => cases hj; exact h
  | 1, hj => cases hj; exact h2
theorem lists_at {w : World} {a : Option Addr} {l c : Nat} {wss : List (List Int)} (h : ReadsL w (.slice a l c) wss) {i : Nat} {xs : List Int} (hi : wss[i]? = some xs) :
    ∃ b o a2 c2, a = some ⟨b, o, none⟩ ∧ b < w.heap.size ∧ w.cell? ⟨b, o + i, none⟩ = some (.slice a2 xs.length c2) ∧ ReadsI w (.slice a2 xs.length c2) xs := by
  obtain ⟨a', c', e, hc, hm, hx⟩ := h
  cases e
  obtain ⟨b, o, u, ha, hb, hu, hr⟩ := hx i xs hi
  have hr2 := hr
  obtain ⟨a2, c2, rfl, _⟩ := hr2
  exact ⟨b, o, a2, c2, ha, hb, hu, hr⟩
theorem idxM (u v : Value) (w : World) : (Instr.index 64 (.agg #[u, v]) (.int .i64 0)).run Tryd.prog w = .ok u w := by
  simp [Instr.index, run_underlying Tryd.underlying64, asIntOf, go_sem]
def ToRelO (uss wss : List (List Int)) (base : Nat) (w : World) (v i : Value) (wr : World) : Prop :=
  Below base w wr ∧ base ≤ wr.heap.size ∧ ∃ k : Nat, k ≤ uss.length ∧ i = .int .i64 k ∧ OwnL base v (tabL uss wss k) wr
def ToRelI (xs : List Int) (wss : List (List Int)) (base : Nat) (w0 : World) (v i : Value) (wr : World) : Prop :=
  Below base w0 wr ∧ base ≤ wr.heap.size ∧ ∃ k : Nat, k ≤ wss.length ∧ i = .int .i64 k ∧ wr.ownsRow base 3 1 v k ((rowL xs wss k).map iv)
set_option maxHeartbeats 3200000 in
set_option maxRecDepth 20000 in
theorem tableOf_any (v : Value) (uss : List (List Int)) (u : Value) (wss : List (List Int)) (w : World) (hv : ReadsL w v uss) (hu : ReadsL w u wss) (hN : NM w) (h1 : ∀ (j : Nat) xs, uss[j]? = some xs → xs.length = 61) (h2 : ∀ (j : Nat) xs, wss[j]? = some xs → xs.length = 61) (hl1 : uss.length ≤ 1048576) (hl2 : wss.length ≤ 1048576) :
    Calls Tryd.prog 25 #[v, u] w fun e w' => ∃ z, e = .returned z ∧ OwnL w.heap.size z (tabL uss wss uss.length) w' ∧ Below w.heap.size w w' := by
  obtain ⟨i0, ji, jz0, jz1, jz2⟩ := info_parts infoInt
  obtain ⟨i1, hi, hz0, hz1, hz2⟩ := info_parts infoInts
  have HFM := Lib.hid (fun v xs ys w hv hw hN => firstMeeting_any v [xs, ys] w hv (by simp) hw hN)
  have HIX := Lib.hid (fun u v w => idxM u v w)
  have H1 := Lib.hid h1
  have H2 := Lib.hid h2
  have HN := Lib.hid hN
  have HV := Lib.hid hv
  have HU := Lib.hid hu
  obtain ⟨va, vc, rfl, hvc, hvm, _⟩ := hv
  obtain ⟨ua, uc, rfl, huc, hum, _⟩ := hu
  unfold maxLen at hvm hum
  have HO := Lib.hid (ownL_new w w.heap.size w.heap.size rfl (Nat.le_refl _))
  have HB := Lib.hid (below_new w (.cells #[] 24))
  clear h1 h2 hN
  go_enter Tryd.func25, Tryd.ntmps25
  go_wp2_with fail
  go_loopw [5, 14] (fun z i wr => ToRelO uss wss w.heap.size w z i wr) (fun _ i _ => uss.length - (intOf i).toNat)
  case atStart => exact ⟨HB.out, by simp, 0, Nat.zero_le _, rfl, HO.out⟩
  case round =>
    obtain ⟨hb, hbs, k, hk, rfl, hown⟩ := hrel
    clear HB HO
    have HB := Lib.hid hb
    have HBS := Lib.hid hbs
    have HO := Lib.hid hown
    clear hb hbs hown
    by_cases hlt : k < uss.length
    · obtain ⟨xs, hxs⟩ := get_some hlt
      obtain ⟨b, o, a2, c2, hva, hbl, hcx0, hrx⟩ := lists_at HV.out hxs
      subst hva
      have hx61 := H1.out k xs hxs
      rw [hx61] at hcx0 hrx
      have HXK := Lib.hid hxs
      have HX61 := Lib.hid hx61
      have HRX := Lib.hid hrx
      have hcx : wr.cell? ⟨b, o + k, none⟩ = some (.slice a2 61 c2) := (HB.out.cell (p := ⟨b, o + k, none⟩) hbl).trans hcx0
      have HB0 := Lib.hid (below_new wr (.cells #[] 3))
      have HO0 := Lib.hid (made_0 wr)
      clear hxs hx61 hrx
      go_wp2_with fail
      generalize hw0 : wr = w0 at *
      go_loopw [8, 21] (fun z i wr => ToRelI xs wss w0.heap.size w0 z i wr) (fun _ i _ => wss.length - (intOf i).toNat)
      case atStart => exact ⟨HB0.out, by simp, 0, Nat.zero_le _, rfl, HO0.out⟩
      case round =>
        obtain ⟨hb, hbs, j, hj, rfl, hown⟩ := hrel
        clear HB0 HO0
        have HBI := Lib.hid hb
        have HBSI := Lib.hid hbs
        have HOI := Lib.hid hown
        clear hb hbs hown
        have HBW := Lib.hid (HB.out.trans (HBI.out.mono HBS.out))
        by_cases hlt2 : j < wss.length
        · obtain ⟨ys, hys⟩ := get_some hlt2
          obtain ⟨b2, o2, a3, c3, hua, hbl2, hcy0, hry⟩ := lists_at HU.out hys
          subst hua
          have hy61 := H2.out j ys hys
          rw [hy61] at hcy0 hry
          have HYK := Lib.hid hys
          have HSN := Lib.hid (rowL_snoc (xs := xs) hys)
          have HL2 := Lib.hid (two_list_at (t := 24) (HRX.out.below HBW.out) (hry.below HBW.out) wr.heap.size rfl)
          have H61 := Lib.hid (two_61 HX61.out hy61)
          have hcy : wr.cell? ⟨b2, o2 + j, none⟩ = some (.slice a3 61 c3) := (HBW.out.cell (p := ⟨b2, o2 + j, none⟩) hbl2).trans hcy0
          have HNW := Lib.hid (NM.below (HN.out.below HBW.out) (below_new wr (.cells #[.slice a2 61 c2, .slice a3 61 c3] 24)))
          clear hys hy61 hry
          go_wp2_with fail
          refine (HFM.out _ xs ys _ HL2.out H61.out HNW.out).mono ?_
          rintro e w2 ⟨rfl, hb⟩
          have HB2 := Lib.hid (HBI.out.trans (((below_new _ _).trans (hb.mono (by simp))).mono HBSI.out))
          have HBS2 := Lib.hid (Nat.le_trans HBSI.out (Nat.le_trans (by simp : wr.heap.size ≤ (wr.alloc (.cells #[.slice a2 61 c2, .slice a3 61 c3] 24)).heap.size) hb.size))
          have HOI2 := Lib.hid (owns_below (HOI.out.alloc _) hb)
          generalize hys2 : (rowL xs wss j).map iv = ysv at *
          clear hb hcy hys2
          generalize meetT [xs, ys] = mt at *
          generalize meetP [xs, ys] = mp at *
          have hix : ∀ w, (Instr.index 64 (.agg #[.int .i64 mt, .int .i64 mp]) (.int .i64 0)).run Tryd.prog w = .ok (.int .i64 mt) w := fun w => HIX.out _ _ w
          go_wp2_with (at_builtin; refine wpList_append_own _ rfl _ _ 24 rfl w0.heap.size 3 i0 (.int .i64 0) 1 8 Tryd.underlying24 ji jz0 jz1 jz2 rfl (by decide) _ _ _ rfl (HOI2.out.alloc _) ⟨w2.heap.size, 0, none⟩ 1 1 [.int .i64 mt] rfl rfl (cell_one_new _ _ _) ?c2 ?c3 ?c4 ?c5 ?_)
          case c2 => intro u hu; simp at hu; subst hu; rfl
          case c3 => unfold maxLen; omega
          case c4 => omega
          case c5 => have := HBS2.out; simp; omega
          intro v9 w9 hown9 hgrow9 _
          have HB9 := Lib.hid ((HB2.out.trans ((below_new _ _).mono HBS2.out)).trans (below_grown hgrow9 (fun b hb => (HOI2.out.lt b hb).1) (by have := HBS2.out; simp; omega)))
          have HBS9 := Lib.hid (Nat.le_trans (by have := HBS2.out; simp; omega : w0.heap.size ≤ (w2.alloc (.cells #[.int .i64 mt] 3)).heap.size) hgrow9.size)
          have HO9 := Lib.hid hown9
          clear hown9 hgrow9
          go_wp2_with fail
          go_roundw
          case rel => exact ⟨HB9.out, HBS9.out, j + 1, by omega, by go_num, by rw [← HSN.out]; exact HO9.out⟩
          case measure => simp [intOf]; omega
        · have hje : j = wss.length := by omega
          subst hje
          have HU9 := Lib.hid (RdT.lower (rdT_of (xs := rowL xs wss wss.length) (by rw [rowL_len (Nat.le_refl _)]; exact HOI.out) (by rw [rowL_len (Nat.le_refl _)]; unfold maxLen; omega)) HBS.out)
          obtain ⟨za, zc, hzz, _⟩ := owns_shape HOI.out
          subst hzz
          have HOL := Lib.hid (ownL_below HO.out HBI.out)
          obtain ⟨us, how, hus⟩ := HOL.out
          have HUS := Lib.hid hus
          have HOW := Lib.hid how
          have hll := tabL_len (uss := uss) (wss := wss) hk
          have hul : us.length = (tabL uss wss k).length := by have := how.1; omega
          have HUL := Lib.hid hul
          have HLB := Lib.hid (fun b hb => (ownL_block HOL.out b hb).1)
          rw [hll] at HOW
          clear how hus hul hcx
          have hbs1 := HBS.out
          have hbs2 := HBSI.out
          go_wp2_with (at_builtin; refine wpList_append_own _ rfl _ _ 39 rfl w.heap.size 24 i1 (.slice none 0 0) 1 24 Tryd.underlying39 hi hz0 hz1 hz2 rfl (by decide) _ _ _ rfl (HOW.out.alloc _) ⟨wr.heap.size, 0, none⟩ 1 1 [.slice za wss.length zc] rfl rfl (cell_one_new _ _ _) ?c2 ?c3 ?c4 ?c5 ?_)
          case c2 => intro u hu; simp at hu; subst hu; rfl
          case c3 => unfold maxLen; omega
          case c4 => omega
          case c5 => simp; omega
          intro v' w9 hown' hgrow _
          have HB9 := Lib.hid ((HBW.out.trans ((below_new _ _).mono (by omega))).trans (below_grown hgrow HLB.out (by simp; omega)))
          have HBS9 := Lib.hid (Nat.le_trans (by simp; omega : w.heap.size ≤ (wr.alloc (.cells #[.slice za wss.length zc] 24)).heap.size) hgrow.size)
          have HN9 := Lib.hid (ownL_append HOL.out HUS.out HUL.out HU9.out (by rw [hll]; exact hown') hgrow)
          clear hgrow hown'
          go_wp2_with fail
          go_roundw
          case rel =>
            refine ⟨HB9.out, HBS9.out, k + 1, by omega, by go_num, ?_⟩
            rw [tabL_next HXK.out]
            exact HN9.out
          case measure => simp [intOf]; omega
    · have hke : k = uss.length := by omega
      subst hke
      go_wp2_with fail
      go_ret
      exact ⟨_, rfl, HO.out, HB.out⟩
end Go.Proofs.YtiokgnabiidlbaaDoor
