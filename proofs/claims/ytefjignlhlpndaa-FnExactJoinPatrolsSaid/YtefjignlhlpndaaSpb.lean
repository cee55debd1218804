/-
  What is proved: the contract of spec.BackPatrol. Conditions: a table that reads as a list of lists of numbers.
-/
import Derived.Test.YtefjignlhlpndaaSpa
namespace Go.Proofs.Ytefjignlhlpndaa
open Go.RowKit
set_option linter.unusedVariables false
set_option linter.unusedSimpArgs false

set_option maxHeartbeats 3200000 in
set_option maxRecDepth 20000 in
theorem spec_BackPatrol (n : Int) (g : Bool) (v : Value) (xss : List (List Int)) (w : World) (hv : ReadsL w v xss) :
    Calls Try.prog 33 #[rd n g, v] w (OwnsTB w.heap.size (chgR n g (List.reverse) true xss).1 (chgR n g (List.reverse) true xss).2 w) := by
  obtain ⟨i0, hi, hz0, hz1, hz2⟩ := info_parts infoInt
  obtain ⟨i1, ji, jz0, jz1, jz2⟩ := info_parts infoTab
  have HGO := Lib.hid (fun v w hv => l5Good_any n g v xss w hv)

  have HV := Lib.hid hv
  obtain ⟨va, vc, rfl, hvc, hvm, _⟩ := hv
  have HX0 := Lib.hid (Boxed.first w n g 28)
  have HT0 := Lib.hid (ownT_new (w.alloc (.cells #[.int .i64 n, .bool g] 28)) (w.heap.size + 1) (w.heap.size + 1) (by simp) (Nat.le_refl _))
  have HX := Lib.hid (HX0.out.next (below_new _ (.cells #[] 43)))
  have HV9 := Lib.hid (HV.out.below HX.out.below)
  clear HX0
  unfold rd at *
  cases hp : patD n g xss
  · have HR := Lib.hid (chgR_no (n := n) (g := g) (T := List.reverse) (c := true) (xss := xss) (fun h => by rw [hp] at h; cases h.1))
    have HP := Lib.hid hp
    clear hp hvm hvc
    go_enter Try.func33, Try.ntmps33
    go_wp2_with fail
    refine (HGO.out _ _ HV9.out).mono ?_
    rintro e w1 ⟨rfl, hb⟩
    have HX := Lib.hid (HX.out.next hb)
    have HT := Lib.hid (HT0.out.below hb)
    clear hb HT0
    rw [HP.out]
    go_wp2_with fail
    go_ret2
    exact ownsTB_R HR.out (HT.out.widen (Nat.le_succ _) (Nat.le_refl _)) HX.out.below
  · have HR := Lib.hid (chgR_yes (T := List.reverse) (c := true) hp rfl)
    have HP := Lib.hid hp
    have hpp := (patD_iff n g xss).1 hp
    obtain ⟨L, hL1, hL60, hL0, hrows⟩ := pat_rows hpp
    have hrd := (roadB_iff n g).1 hpp.2.2.2
    have hn2 := hrd.1
    have hn24 := hrd.2.1
    have hx6 := hpp.2.1
    have HRW := Lib.hid hrows
    clear hp hvm hvc hpp hL0 hrows hrd
    go_enter Try.func33, Try.ntmps33
    go_wp2_with fail
    refine (HGO.out _ _ HV9.out).mono ?_
    rintro e w1 ⟨rfl, hb⟩
    have HX := Lib.hid (HX.out.next hb)
    have HT := Lib.hid (HT0.out.below hb)
    have hx0 := HX.out.c0
    have hx1 := HX.out.c1
    clear hb HT0
    rw [HP.out]
    go_wp2_with fail
    clear hx0 hx1
    go_loopw [6, 7] (fun z i wr => TabRel n g (chgT (List.reverse) xss) xss.length w.heap.size w z i wr) (fun _ i _ => xss.length - (intOf i).toNat)
    case atStart => exact ⟨HX.out, 0, Nat.zero_le _, rfl, [], HT.out.lt⟩
    case round =>
      obtain ⟨hx, q, hq, rfl, us, ho⟩ := hrel
      clear HX HT
      have HX := Lib.hid hx
      have HO := Lib.hid ho
      clear hx ho
      by_cases hlt : q < xss.length
      · obtain ⟨xs, hxs⟩ := get_some hlt
        obtain ⟨hxl, hxw, _⟩ := HRW.out q xs hxs
        obtain ⟨b, o, a2, c2, rfl, hbl, hcx0, hrx⟩ := lists_in HV.out hxs
        obtain ⟨y0, hy0⟩ := get_some (xs := xs) (k := 0) (by omega)
        obtain ⟨ar, cr, er, hcr, hmr, hxr⟩ := hrx
        cases er
        obtain ⟨b3, o3, rfl, hbl3, _⟩ := hxr 0 y0 hy0
        rw [hxl] at hcx0
        have HCX := Lib.hid hcx0
        have HXR := Lib.hid hxr
        have HXS := Lib.hid hxs
        have HXL := Lib.hid hxl
        have HIN := Lib.hid hxw.2.2.2.1
        have hqi0 : 0 ≤ (q : Int) := by omega
        have hqi1 : (q : Int) < xss.length := by omega
        have hcl : L ≤ c2 := by omega
        have hb2 : b < w.heap.size := hbl
        have HBN := Lib.hid (below_new wr (.cells #[] 3))
        have HMN := Lib.hid (made_at wr wr.heap.size wr.heap.size rfl (Nat.le_refl _))
        have HLQ := Lib.hid hlt
        clear hcx0 hxr hxs hxl hxw hy0 hcr hmr
        have hcq : wr.cell? ⟨b, o + q, none⟩ = some (.slice (some ⟨b3, o3, none⟩) L c2) := (HX.out.below.cell (p := ⟨b, o + q, none⟩) hb2).trans HCX.out
        have hcqn : (wr.alloc (.cells #[] 3)).cell? ⟨b, o + q, none⟩ = some (.slice (some ⟨b3, o3, none⟩) L c2) := ((HX.out.next HBN.out).below.cell (p := ⟨b, o + q, none⟩) hb2).trans HCX.out
        go_wp2_with fail
        clear hcq hcqn
        generalize hw0 : wr = w0 at *
        go_loopw [8, 9] (fun z i wr => RowRelI (bckF xs) L w0.heap.size w0 z i wr) (fun _ i _ => (intOf i + 1).toNat)
        case atStart => exact ⟨HBN.out, by simp, 0, Nat.zero_le _, by simp, HMN.out⟩
        case round =>
          obtain ⟨hb, hbs, t, ht, rfl, hown⟩ := hrel
          clear HBN HMN
          have HBI := Lib.hid hb
          have HBS := Lib.hid hbs
          have HOI := Lib.hid hown
          clear hb hbs hown
          have HXI := Lib.hid (HX.out.nextAt HX.out.size HBI.out)
          have HX0 := Lib.hid HX.out
          have hx0 := HXI.out.c0
          have hx1 := HXI.out.c1
          have hcq : wr.cell? ⟨b, o + q, none⟩ = some (.slice (some ⟨b3, o3, none⟩) L c2) := (HXI.out.below.cell (p := ⟨b, o + q, none⟩) hb2).trans HCX.out
          by_cases hlt2 : t < L
          · obtain ⟨p, hpe⟩ : ∃ p : Nat, p = L - 1 - t := ⟨_, rfl⟩
            have hpl : p < L := by rw [hpe]; omega
            have hfe : bckF xs t = xs.getD p 0 := by unfold bckF; rw [HXL.out, hpe]
            have hpv : (L : Int) - 1 - (t : Int) = (p : Int) := by omega
            obtain ⟨x, hxk⟩ := get_some (xs := xs) (k := p) (by rw [HXL.out]; exact hpl)
            obtain ⟨b4, o4, e4, _, hcx1⟩ := HXR.out p x hxk
            cases e4
            have HCY := Lib.hid hcx1
            have hxin := HIN.out p x hxk
            have hpi0 : 0 ≤ (p : Int) := by omega
            have hpi1 : (p : Int) < (L : Int) := by omega
            have HXE := Lib.hid (show bckF xs t = x by rw [show xs.getD p 0 = x from by simp [List.getD, hxk]] at hfe; exact hfe)
            clear hxk hcx1 hfe hpe
            generalize hys : (rowF (bckF xs) t).map iv = ys at *
            have HYS := Lib.hid hys
            clear hys
            have hcy : wr.cell? ⟨b3, o3 + p, none⟩ = some (.int .i64 x) := (HXI.out.below.cell (p := ⟨b3, o3 + p, none⟩) hbl3).trans HCY.out
            rw [hpv]
            have HPV := Lib.hid hpv
            clear hpv
            go_wp2_with (at_builtin; refine wpList_append_own _ rfl _ _ 43 rfl w0.heap.size 3 i0 (.int .i64 0) 1 8 Try.underlying43 hi hz0 hz1 hz2 rfl (by decide) _ _ _ rfl (HOI.out.alloc _) ⟨wr.heap.size, 0, none⟩ 1 1 [.int .i64 x] rfl rfl (cell_one_new _ _ _) ?c2 ?c3 ?c4 ?c5 ?_)
            case c2 => first | rfl | (intro u hu; simp at hu; subst hu; rfl)
            case c3 => unfold maxLen; omega
            case c4 => omega
            case c5 => have := HBS.out; first | omega | (simp; omega)
            intro v9 w9 hown9 hgrow9 _
            have hbl := fun b hb => (row_block HOI.out b hb).1
            have HB9 := Lib.hid ((HBI.out.trans ((below_new wr (.cells #[.int .i64 x] 3)).mono HBS.out)).trans (below_grown hgrow9 hbl (by have := HBS.out; simp; omega)))
            have HBS9 := Lib.hid (Nat.le_trans (by have := HBS.out; simp; omega : w0.heap.size ≤ (wr.alloc (.cells #[.int .i64 x] 3)).heap.size) hgrow9.size)
            have HO9 := Lib.hid hown9
            clear hbl hgrow9 hown9
            go_wp2_with fail
            go_roundw
            case rel => exact ⟨HB9.out, HBS9.out, t + 1, by omega, by have := HPV.out; (first | (congr 1; omega) | congr 1), by rw [← rowF_snoc, HXE.out, HYS.out]; exact HO9.out⟩
            case measure => have := HPV.out; simp [intOf] <;> omega
          · have hte : t = L := by omega
            subst hte
            have hneg : ((t : Int) - 1 - (t : Int)) = -1 := by omega
            rw [hneg]
            have HFE := Lib.hid (show rowF (bckF xs) t = chgT (List.reverse) xss q from by rw [chgT_at HXS.out, ← HXL.out]; exact bckT_row xs)
            have HFL := Lib.hid (show (chgT (List.reverse) xss q).length = t from by rw [← HFE.out, rowF_len])
            have HOR := Lib.hid (show wr.ownsRow w0.heap.size 3 1 _ (chgT (List.reverse) xss q).length ((chgT (List.reverse) xss q).map iv) from by rw [HFL.out, ← HFE.out]; exact HOI.out)
            have HOO := Lib.hid (HO.out.below HBI.out)
            have HTP := Lib.hid (show wr.ownsRow (w.heap.size + 1) 43 1 _ q us from by have h := HOO.out.top; rw [tabF_len] at h; exact h)
            have hsz1 := HX0.out.size
            have hsz2 := HXI.out.size
            obtain ⟨ra, rc, hrs, _⟩ := row_shape HOR.out
            subst hrs
            go_wp2_with (at_builtin; refine wpList_append_own _ rfl _ _ 24 rfl (w.heap.size + 1) 43 i1 (.slice none 0 0) 1 24 Try.underlying24 ji jz0 jz1 jz2 rfl (by decide) _ _ _ rfl (HTP.out.alloc _) ⟨wr.heap.size, 0, none⟩ 1 1 [.slice ra _ rc] rfl rfl (cell_one_new _ _ _) ?c2 ?c3 ?c4 ?c5 ?_)
            case c2 => first | rfl | (intro u hu; simp at hu; subst hu; rfl)
            case c3 => unfold maxLen; omega
            case c4 => omega
            case c5 => first | omega | (simp; omega)
            intro v' w9 hown' hgrow _
            have HN9 := Lib.hid (tab_next (t := 43) (m := xss.length) (i := .int .i64 ((q + 1 : Nat) : Int)) HXI.out HOO.out (Nat.le_refl _) hsz1 HOR.out HLQ.out rfl hown' hgrow)
            clear hgrow hown'
            go_wp2_with fail
            go_roundw
            case rel => exact HN9.out
            case measure => have := HLQ.out; simp [intOf]; omega
      · have hke : q = xss.length := by omega
        subst hke
        go_wp2_with fail
        go_ret2
        exact ownsTB_R HR.out (HO.out.widen (Nat.le_succ _) (Nat.le_refl _)) HX.out.below
end Go.Proofs.Ytefjignlhlpndaa
