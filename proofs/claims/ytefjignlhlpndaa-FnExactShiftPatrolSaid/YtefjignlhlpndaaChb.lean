/-
  What is proved: the contracts of impl.changeRounds with each of its functions, and of MirrorPatrol, BackPatrol, ShiftPatrol of the program. Conditions: tables that read as lists of lists of numbers, of the row's size.
-/
import Derived.Test.YtefjignlhlpndaaCha
import Derived.Test.YtefjignlhlpndaaPte
import Derived.Test.YtefjignlhlpndaaFn4
import Derived.Test.YtefjignlhlpndaaFn8
namespace Go.Proofs.Ytefjignlhlpndaa
open Go.RowKit
set_option linter.unusedVariables false
set_option linter.unusedSimpArgs false

set_option maxHeartbeats 1600000 in
set_option maxRecDepth 20000 in
theorem changed_mirror (n : Int) (g : Bool) (v : Value) (xss : List (List Int)) (w : World) (hv : ReadsL w v xss) (hl : sizeT xss ≤ 1048576) :
    Calls Try.prog 63 #[rd n g, v, .func (.func 66) #[] #[]] w (OwnsTB w.heap.size (chgR n g (mirT n) true xss).1 (chgR n g (mirT n) true xss).2 w) := by
  obtain ⟨i1, ji, jz0, jz1, jz2⟩ := info_parts infoTab
  have HAP := Lib.hid (fun v w hv => arePatrols_one n g v xss w hv hl)
  have HV := Lib.hid hv
  obtain ⟨va, vc, rfl, hvc, hvm, _⟩ := hv
  unfold maxLen at hvm
  have HX0 := Lib.hid (Boxed.first w n g 28)
  have HT0 := Lib.hid (ownT_new (w.alloc (.cells #[.int .i64 n, .bool g] 28)) (w.heap.size + 1) (w.heap.size + 1) (by simp) (Nat.le_refl _))
  have HX := Lib.hid (HX0.out.next (below_new _ (.cells #[] 43)))
  have HV9 := Lib.hid (one_table (t := 24) (HV.out.below HX.out.below) (w.heap.size + 1 + 1) (by simp))
  clear HX0
  unfold rd at *
  go_enter Try.func63, Try.ntmps63
  go_wp2_with fail
  refine (HAP.out _ _ HV9.out).mono ?_
  rintro e w1 ⟨rfl, hb⟩
  have HX := Lib.hid ((HX.out.next (below_new _ _)).next hb)
  have HT := Lib.hid ((HT0.out.below (below_new _ _)).below hb)
  clear hb HT0 HV9
  cases hp : patD n g xss
  · have HR := Lib.hid (chgR_no (n := n) (g := g) (T := mirT n) (c := true) (xss := xss) (fun h => by rw [hp] at h; cases h.1))
    go_wp2_with fail
    go_ret2
    exact ownsTB_R HR.out (HT.out.widen (Nat.le_succ _) (Nat.le_refl _)) HX.out.below
  · have HR := Lib.hid (chgR_yes (T := mirT n) (c := true) hp rfl)
    have hpp := (patD_iff n g xss).1 hp
    obtain ⟨L, hL1, hL60, hL0, hrows⟩ := pat_rows hpp
    have hx6 := hpp.2.1
    have HRW := Lib.hid hrows
    clear hp hvc hvm hpp hL0 hrows
    go_wp2_with fail
    go_loopw [8, 22] (fun z i wr => TabRel n g (chgT (mirT n) xss) xss.length w.heap.size w z i wr) (fun _ i _ => xss.length - (intOf i).toNat)
    case atStart => exact ⟨HX.out, 0, Nat.zero_le _, rfl, [], HT.out.lt⟩
    case round =>
      obtain ⟨hx, q, hq, rfl, us, ho⟩ := hrel
      clear HX HT
      have HX := Lib.hid hx
      have HO := Lib.hid ho
      clear hx ho
      by_cases hlt : q < xss.length
      · obtain ⟨xs, hxs⟩ := get_some hlt
        obtain ⟨hxl, hxw, _⟩ := HRW.out q xs hxs
        obtain ⟨b, o, a2, c2, rfl, hbl, hcx0, hrx⟩ := lists_in HV.out hxs
        have hcx : wr.cell? ⟨b, o + q, none⟩ = some (.slice a2 xs.length c2) := (HX.out.below.cell (p := ⟨b, o + q, none⟩) hbl).trans hcx0
        have hx0 := HX.out.c0
        have hx1 := HX.out.c1
        have HRX := Lib.hid (hrx.below HX.out.below)
        have HCT := Lib.hid (chgT_at (T := mirT n) hxs)
        have HLQ := Lib.hid hlt
        have hwd := (walkD_iff n g xs).2 hxw
        have HFN := Lib.hid (show mirrorR n g xs = (mirT n xs, true) by unfold mirrorR; rw [if_pos hwd]; rfl)
        have HCA := Lib.hid (fun w hv => show Calls Try.prog 66 #[rd n g, .slice a2 xs.length c2] w (OwnsB w.heap.size (mirT n xs) true w) from by have h := impl_MirrorWalk n g (.slice a2 xs.length c2) xs w hv; rw [HFN.out] at h; exact h)
        unfold rd at HCA
        clear hwd
        have HSZ := Lib.hid (Nat.succ_le_of_lt HX.out.size)
        clear hxs hcx0 hrx hxw hxl
        go_wp2_with fail
        refine (HCA.out _ HRX.out).mono ?_
        rintro e w2 ⟨u, rfl, hou, hb⟩
        have HOR := Lib.hid (show w2.ownsRow wr.heap.size 3 1 u (chgT (mirT n) xss q).length ((chgT (mirT n) xss q).map iv) from by rw [HCT.out]; exact hou)
        have HX := Lib.hid (HX.out.next hb)
        have HO := Lib.hid (HO.out.below hb)
        have HTP := Lib.hid (show w2.ownsRow (w.heap.size + 1) 43 1 _ q us from by have h := HO.out.top; rw [tabF_len] at h; exact h)
        have hsz1 := HX.out.size
        clear hou hb hcx hx0 hx1
        obtain ⟨ra, rc, hrs, _⟩ := row_shape HOR.out
        subst hrs
        go_wp2_with (at_builtin; refine wpList_append_own _ rfl _ _ 24 rfl (w.heap.size + 1) 43 i1 (.slice none 0 0) 1 24 Try.underlying24 ji jz0 jz1 jz2 rfl (by decide) _ _ _ rfl (HTP.out.alloc _) ⟨w2.heap.size, 0, none⟩ 1 1 [.slice ra _ rc] rfl rfl (cell_one_new _ _ _) ?c2 ?c3 ?c4 ?c5 ?_)
        case c2 => first | rfl | (intro u hu; simp at hu; subst hu; rfl)
        case c3 => unfold maxLen; omega
        case c4 => omega
        case c5 => first | omega | (simp; omega)
        intro v' w9 hown' hgrow _
        have HN9 := Lib.hid (tab_next (t := 43) (m := xss.length) (i := .int .i64 ((q + 1 : Nat) : Int)) HX.out HO.out (Nat.le_refl _) HSZ.out HOR.out HLQ.out rfl hown' hgrow)
        clear hgrow hown'
        go_wp2_with fail
        go_roundw
        case rel => exact HN9.out
        case measure => have := HLQ.out; simp [intOf]; omega
      · have hke : q = xss.length := by omega
        subst hke
        go_wp2_with fail
        go_ret2
        exact ownsTB_R HR.out (HO.out.widen (Nat.le_succ _) (Nat.le_refl _)) HX.out.below
set_option maxHeartbeats 1600000 in
set_option maxRecDepth 20000 in
theorem changed_back (n : Int) (g : Bool) (v : Value) (xss : List (List Int)) (w : World) (hv : ReadsL w v xss) (hl : sizeT xss ≤ 1048576) :
    Calls Try.prog 63 #[rd n g, v, .func (.func 67) #[] #[]] w (OwnsTB w.heap.size (chgR n g (List.reverse) true xss).1 (chgR n g (List.reverse) true xss).2 w) := by
  obtain ⟨i1, ji, jz0, jz1, jz2⟩ := info_parts infoTab
  have HAP := Lib.hid (fun v w hv => arePatrols_one n g v xss w hv hl)
  have HV := Lib.hid hv
  obtain ⟨va, vc, rfl, hvc, hvm, _⟩ := hv
  unfold maxLen at hvm
  have HX0 := Lib.hid (Boxed.first w n g 28)
  have HT0 := Lib.hid (ownT_new (w.alloc (.cells #[.int .i64 n, .bool g] 28)) (w.heap.size + 1) (w.heap.size + 1) (by simp) (Nat.le_refl _))
  have HX := Lib.hid (HX0.out.next (below_new _ (.cells #[] 43)))
  have HV9 := Lib.hid (one_table (t := 24) (HV.out.below HX.out.below) (w.heap.size + 1 + 1) (by simp))
  clear HX0
  unfold rd at *
  go_enter Try.func63, Try.ntmps63
  go_wp2_with fail
  refine (HAP.out _ _ HV9.out).mono ?_
  rintro e w1 ⟨rfl, hb⟩
  have HX := Lib.hid ((HX.out.next (below_new _ _)).next hb)
  have HT := Lib.hid ((HT0.out.below (below_new _ _)).below hb)
  clear hb HT0 HV9
  cases hp : patD n g xss
  · have HR := Lib.hid (chgR_no (n := n) (g := g) (T := List.reverse) (c := true) (xss := xss) (fun h => by rw [hp] at h; cases h.1))
    go_wp2_with fail
    go_ret2
    exact ownsTB_R HR.out (HT.out.widen (Nat.le_succ _) (Nat.le_refl _)) HX.out.below
  · have HR := Lib.hid (chgR_yes (T := List.reverse) (c := true) hp rfl)
    have hpp := (patD_iff n g xss).1 hp
    obtain ⟨L, hL1, hL60, hL0, hrows⟩ := pat_rows hpp
    have hx6 := hpp.2.1
    have HRW := Lib.hid hrows
    clear hp hvc hvm hpp hL0 hrows
    go_wp2_with fail
    go_loopw [8, 22] (fun z i wr => TabRel n g (chgT (List.reverse) xss) xss.length w.heap.size w z i wr) (fun _ i _ => xss.length - (intOf i).toNat)
    case atStart => exact ⟨HX.out, 0, Nat.zero_le _, rfl, [], HT.out.lt⟩
    case round =>
      obtain ⟨hx, q, hq, rfl, us, ho⟩ := hrel
      clear HX HT
      have HX := Lib.hid hx
      have HO := Lib.hid ho
      clear hx ho
      by_cases hlt : q < xss.length
      · obtain ⟨xs, hxs⟩ := get_some hlt
        obtain ⟨hxl, hxw, _⟩ := HRW.out q xs hxs
        obtain ⟨b, o, a2, c2, rfl, hbl, hcx0, hrx⟩ := lists_in HV.out hxs
        have hcx : wr.cell? ⟨b, o + q, none⟩ = some (.slice a2 xs.length c2) := (HX.out.below.cell (p := ⟨b, o + q, none⟩) hbl).trans hcx0
        have hx0 := HX.out.c0
        have hx1 := HX.out.c1
        have HRX := Lib.hid (hrx.below HX.out.below)
        have HCT := Lib.hid (chgT_at (T := List.reverse) hxs)
        have HLQ := Lib.hid hlt
        have hwd := (walkD_iff n g xs).2 hxw
        have HFN := Lib.hid (show backR n g xs = (xs.reverse, true) by unfold backR; rw [if_pos hwd])
        have HCA := Lib.hid (fun w hv => show Calls Try.prog 67 #[rd n g, .slice a2 xs.length c2] w (OwnsB w.heap.size (xs.reverse) true w) from by have h := impl_BackWalk n g (.slice a2 xs.length c2) xs w hv; rw [HFN.out] at h; exact h)
        unfold rd at HCA
        clear hwd
        have HSZ := Lib.hid (Nat.succ_le_of_lt HX.out.size)
        clear hxs hcx0 hrx hxw hxl
        go_wp2_with fail
        refine (HCA.out _ HRX.out).mono ?_
        rintro e w2 ⟨u, rfl, hou, hb⟩
        have HOR := Lib.hid (show w2.ownsRow wr.heap.size 3 1 u (chgT (List.reverse) xss q).length ((chgT (List.reverse) xss q).map iv) from by rw [HCT.out]; exact hou)
        have HX := Lib.hid (HX.out.next hb)
        have HO := Lib.hid (HO.out.below hb)
        have HTP := Lib.hid (show w2.ownsRow (w.heap.size + 1) 43 1 _ q us from by have h := HO.out.top; rw [tabF_len] at h; exact h)
        have hsz1 := HX.out.size
        clear hou hb hcx hx0 hx1
        obtain ⟨ra, rc, hrs, _⟩ := row_shape HOR.out
        subst hrs
        go_wp2_with (at_builtin; refine wpList_append_own _ rfl _ _ 24 rfl (w.heap.size + 1) 43 i1 (.slice none 0 0) 1 24 Try.underlying24 ji jz0 jz1 jz2 rfl (by decide) _ _ _ rfl (HTP.out.alloc _) ⟨w2.heap.size, 0, none⟩ 1 1 [.slice ra _ rc] rfl rfl (cell_one_new _ _ _) ?c2 ?c3 ?c4 ?c5 ?_)
        case c2 => first | rfl | (intro u hu; simp at hu; subst hu; rfl)
        case c3 => unfold maxLen; omega
        case c4 => omega
        case c5 => first | omega | (simp; omega)
        intro v' w9 hown' hgrow _
        have HN9 := Lib.hid (tab_next (t := 43) (m := xss.length) (i := .int .i64 ((q + 1 : Nat) : Int)) HX.out HO.out (Nat.le_refl _) HSZ.out HOR.out HLQ.out rfl hown' hgrow)
        clear hgrow hown'
        go_wp2_with fail
        go_roundw
        case rel => exact HN9.out
        case measure => have := HLQ.out; simp [intOf]; omega
      · have hke : q = xss.length := by omega
        subst hke
        go_wp2_with fail
        go_ret2
        exact ownsTB_R HR.out (HO.out.widen (Nat.le_succ _) (Nat.le_refl _)) HX.out.below
set_option maxHeartbeats 1600000 in
set_option maxRecDepth 20000 in
theorem changed_shift (n : Int) (g : Bool) (v : Value) (xss : List (List Int)) (by_ bb : Nat) (w : World) (hv : ReadsL w v xss) (hl : sizeT xss ≤ 1048576) (hby : by_ ≤ 60) (hbb : bb < w.heap.size) (hcb : w.cell? ⟨bb, 0, none⟩ = some (.int .i64 by_)) :
    Calls Try.prog 63 #[rd n g, v, .func (.func 64) #[] #[.pointer (some ⟨bb, 0, none⟩)]] w (OwnsTB w.heap.size (chgR n g (shfT by_) true xss).1 (chgR n g (shfT by_) true xss).2 w) := by
  obtain ⟨i1, ji, jz0, jz1, jz2⟩ := info_parts infoTab
  have HAP := Lib.hid (fun v w hv => arePatrols_one n g v xss w hv hl)
  have HV := Lib.hid hv
  obtain ⟨va, vc, rfl, hvc, hvm, _⟩ := hv
  unfold maxLen at hvm
  have HX0 := Lib.hid (Boxed.first w n g 28)
  have HT0 := Lib.hid (ownT_new (w.alloc (.cells #[.int .i64 n, .bool g] 28)) (w.heap.size + 1) (w.heap.size + 1) (by simp) (Nat.le_refl _))
  have HX := Lib.hid (HX0.out.next (below_new _ (.cells #[] 43)))
  have HV9 := Lib.hid (one_table (t := 24) (HV.out.below HX.out.below) (w.heap.size + 1 + 1) (by simp))
  clear HX0
  unfold rd at *
  go_enter Try.func63, Try.ntmps63
  go_wp2_with fail
  refine (HAP.out _ _ HV9.out).mono ?_
  rintro e w1 ⟨rfl, hb⟩
  have HX := Lib.hid ((HX.out.next (below_new _ _)).next hb)
  have HT := Lib.hid ((HT0.out.below (below_new _ _)).below hb)
  clear hb HT0 HV9
  cases hp : patD n g xss
  · have HR := Lib.hid (chgR_no (n := n) (g := g) (T := shfT by_) (c := true) (xss := xss) (fun h => by rw [hp] at h; cases h.1))
    go_wp2_with fail
    go_ret2
    exact ownsTB_R HR.out (HT.out.widen (Nat.le_succ _) (Nat.le_refl _)) HX.out.below
  · have HR := Lib.hid (chgR_yes (T := shfT by_) (c := true) hp rfl)
    have hpp := (patD_iff n g xss).1 hp
    obtain ⟨L, hL1, hL60, hL0, hrows⟩ := pat_rows hpp
    have hx6 := hpp.2.1
    have HRW := Lib.hid hrows
    clear hp hvc hvm hpp hL0 hrows
    go_wp2_with fail
    go_loopw [8, 22] (fun z i wr => TabRel n g (chgT (shfT by_) xss) xss.length w.heap.size w z i wr) (fun _ i _ => xss.length - (intOf i).toNat)
    case atStart => exact ⟨HX.out, 0, Nat.zero_le _, rfl, [], HT.out.lt⟩
    case round =>
      obtain ⟨hx, q, hq, rfl, us, ho⟩ := hrel
      clear HX HT
      have HX := Lib.hid hx
      have HO := Lib.hid ho
      clear hx ho
      by_cases hlt : q < xss.length
      · obtain ⟨xs, hxs⟩ := get_some hlt
        obtain ⟨hxl, hxw, _⟩ := HRW.out q xs hxs
        obtain ⟨b, o, a2, c2, rfl, hbl, hcx0, hrx⟩ := lists_in HV.out hxs
        have hcx : wr.cell? ⟨b, o + q, none⟩ = some (.slice a2 xs.length c2) := (HX.out.below.cell (p := ⟨b, o + q, none⟩) hbl).trans hcx0
        have hx0 := HX.out.c0
        have hx1 := HX.out.c1
        have HRX := Lib.hid (hrx.below HX.out.below)
        have HCT := Lib.hid (chgT_at (T := shfT by_) hxs)
        have HLQ := Lib.hid hlt
        have HCA := Lib.hid (fun w hv hb hc => shift1P_any n g (.slice a2 xs.length c2) xs by_ bb w hv (by omega) hby hb hc)
        unfold rd at HCA
        have HB1 := Lib.hid (Nat.lt_of_lt_of_le hbb HX.out.below.size)
        have HB2 := Lib.hid ((HX.out.below.cell (p := ⟨bb, 0, none⟩) hbb).trans hcb)
        have HSZ := Lib.hid (Nat.succ_le_of_lt HX.out.size)
        clear hxs hcx0 hrx hxw hxl
        go_wp2_with fail
        refine (HCA.out _ HRX.out HB1.out HB2.out).mono ?_
        rintro e w2 ⟨u, rfl, hou, hb⟩
        have HOR := Lib.hid (show w2.ownsRow wr.heap.size 3 1 u (chgT (shfT by_) xss q).length ((chgT (shfT by_) xss q).map iv) from by rw [HCT.out]; exact hou)
        have HX := Lib.hid (HX.out.next hb)
        have HO := Lib.hid (HO.out.below hb)
        have HTP := Lib.hid (show w2.ownsRow (w.heap.size + 1) 43 1 _ q us from by have h := HO.out.top; rw [tabF_len] at h; exact h)
        have hsz1 := HX.out.size
        clear hou hb hcx hx0 hx1
        obtain ⟨ra, rc, hrs, _⟩ := row_shape HOR.out
        subst hrs
        go_wp2_with (at_builtin; refine wpList_append_own _ rfl _ _ 24 rfl (w.heap.size + 1) 43 i1 (.slice none 0 0) 1 24 Try.underlying24 ji jz0 jz1 jz2 rfl (by decide) _ _ _ rfl (HTP.out.alloc _) ⟨w2.heap.size, 0, none⟩ 1 1 [.slice ra _ rc] rfl rfl (cell_one_new _ _ _) ?c2 ?c3 ?c4 ?c5 ?_)
        case c2 => first | rfl | (intro u hu; simp at hu; subst hu; rfl)
        case c3 => unfold maxLen; omega
        case c4 => omega
        case c5 => first | omega | (simp; omega)
        intro v' w9 hown' hgrow _
        have HN9 := Lib.hid (tab_next (t := 43) (m := xss.length) (i := .int .i64 ((q + 1 : Nat) : Int)) HX.out HO.out (Nat.le_refl _) HSZ.out HOR.out HLQ.out rfl hown' hgrow)
        clear hgrow hown'
        go_wp2_with fail
        go_roundw
        case rel => exact HN9.out
        case measure => have := HLQ.out; simp [intOf]; omega
      · have hke : q = xss.length := by omega
        subst hke
        go_wp2_with fail
        go_ret2
        exact ownsTB_R HR.out (HO.out.widen (Nat.le_succ _) (Nat.le_refl _)) HX.out.below
end Go.Proofs.Ytefjignlhlpndaa
