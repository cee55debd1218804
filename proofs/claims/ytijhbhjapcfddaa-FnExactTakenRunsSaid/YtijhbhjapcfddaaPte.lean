/-
  What is proved: the contracts of impl.isGuardCount and impl.arePatrols. Conditions: tables that read as lists of lists of numbers, with rows of a length in bounds.
-/
import Derived.Test.YtijhbhjapcfddaaPtd
namespace Go.Proofs.Ytijhbhjapcfddaa
open Go.RowKit
set_option linter.unusedVariables false
set_option linter.unusedSimpArgs false

theorem guards_yes (k : Int) (w : World) (h : 1 ≤ k ∧ k ≤ 6) : Calls Try.prog 135 #[.int .i64 k] w fun e w' => e = .returned (.bool true) ∧ w = w' := by
  obtain ⟨h1, h2⟩ := h
  go_enter Try.func135, Try.ntmps135
  go_wp2
  go_ret
  exact ⟨ret_bool (by simp [h2]), rfl⟩
theorem guards_no (k : Int) (w : World) (h : ¬ (1 ≤ k ∧ k ≤ 6)) : Calls Try.prog 135 #[.int .i64 k] w fun e w' => e = .returned (.bool false) ∧ w = w' := by
  by_cases h1 : 1 ≤ k
  · have h2 : ¬ k ≤ 6 := fun h2 => h ⟨h1, h2⟩
    go_enter Try.func135, Try.ntmps135
    go_wp2
    go_ret
    exact ⟨ret_bool (by simp [h2]), rfl⟩
  · go_enter Try.func135, Try.ntmps135
    go_wp2
    go_ret
    exact ⟨rfl, rfl⟩
/-- v reads as a list of tables -/
def ReadsT (w : World) (v : Value) (xsss : List (List (List Int))) : Prop :=
  ∃ a c, v = .slice a xsss.length c ∧ xsss.length ≤ c ∧ xsss.length ≤ maxLen ∧ ∀ (j : Nat) xss, xsss[j]? = some xss → ∃ b o u, a = some ⟨b, o, none⟩ ∧ b < w.heap.size ∧ w.cell? ⟨b, o + j, none⟩ = some u ∧ ReadsL w u xss
theorem ReadsT.below {w w' : World} {v : Value} {xsss : List (List (List Int))} (h : ReadsT w v xsss) (hb : Below w.heap.size w w') : ReadsT w' v xsss := by
  obtain ⟨a, c, hv, hc, hm, hx⟩ := h
  refine ⟨a, c, hv, hc, hm, fun j x hj => ?_⟩
  obtain ⟨b, o, u, ha, hlt, hcell, hr⟩ := hx j x hj
  exact ⟨b, o, u, ha, Nat.lt_of_lt_of_le hlt hb.size, (hb.cell (p := ⟨b, o + j, none⟩) hlt).trans hcell, hr.below hb⟩
theorem one_table {w : World} {v : Value} {xss : List (List Int)} {t : TypeId} (h : ReadsL w v xss) (k : Nat) (hk : w.heap.size = k) : ReadsT (w.alloc (.cells #[v] t)) (.slice (some ⟨k, 0, none⟩) 1 1) [xss] := by
  subst hk
  refine ⟨_, 1, rfl, Nat.le_refl _, by simp [maxLen], fun j xs hj => ?_⟩
  match j, hj with
  | 0, hj =>
    cases hj
    exact ⟨_, 0, v, rfl, by simp, by rw [cell_new]; rfl, h.below (below_new w _)⟩
theorem two_tables {w : World} {v u : Value} {xss yss : List (List Int)} {t : TypeId} (h : ReadsL w v xss) (h2 : ReadsL w u yss) (k : Nat) (hk : w.heap.size = k) : ReadsT (w.alloc (.cells #[v, u] t)) (.slice (some ⟨k, 0, none⟩) 2 2) [xss, yss] := by
  subst hk
  refine ⟨_, 2, rfl, Nat.le_refl _, by simp [maxLen], fun j xs hj => ?_⟩
  match j, hj with
  | 0, hj =>
    cases hj
    exact ⟨_, 0, v, rfl, by simp, by rw [cell_new]; rfl, h.below (below_new w _)⟩
  | 1, hj =>
    cases hj
    exact ⟨_, 0, u, rfl, by simp, by rw [cell_new]; rfl, h2.below (below_new w _)⟩
theorem tables_in {w : World} {a : Option Addr} {l c : Nat} {wsss : List (List (List Int))} (h : ReadsT w (.slice a l c) wsss) {i : Nat} {xss : List (List Int)} (hi : wsss[i]? = some xss) :
    ∃ b o a2 c2, a = some ⟨b, o, none⟩ ∧ b < w.heap.size ∧ w.cell? ⟨b, o + i, none⟩ = some (.slice a2 xss.length c2) ∧ ReadsL w (.slice a2 xss.length c2) xss := by
  obtain ⟨a', c', e, hc, hm, hx⟩ := h
  cases e
  obtain ⟨b, o, u, ha, hb, hu, hr⟩ := hx i xss hi
  have hr2 := hr
  obtain ⟨a2, c2, rfl, _⟩ := hr2
  exact ⟨b, o, a2, c2, ha, hb, hu, hr⟩
/-- all are patrols on a valid road -/
def ArP (n : Int) (g : Bool) (xsss : List (List (List Int))) : Prop := roadB n g = true ∧ ∀ (j : Nat) xss, xsss[j]? = some xss → PatP n g xss
def ApRel (n : Int) (g : Bool) (xsss : List (List (List Int))) (base : Nat) (w : World) (r i : Value) (wr : World) : Prop :=
  r = .bool false ∧ Boxed base n g w wr ∧ ∃ k : Nat, k ≤ xsss.length ∧ i = .int .i64 k ∧ ∀ (j : Nat) xss, j < k → xsss[j]? = some xss → PatP n g xss
def ApRelI (n : Int) (g : Bool) (xss : List (List Int)) (p base : Nat) (w : World) (r i : Value) (wr : World) : Prop :=
  r = .bool false ∧ Boxed base n g w wr ∧ ∃ k : Nat, k ≤ xss.length ∧ i = .int .i64 k ∧ ∀ (j : Nat) xs, j < k → xss[j]? = some xs → RoundP n g xs ∧ xs.length = p
set_option maxHeartbeats 1600000 in
set_option maxRecDepth 20000 in
theorem arePatrols_any (n : Int) (g : Bool) (v : Value) (xsss : List (List (List Int))) (w : World) (hv : ReadsT w v xsss) (hl : ∀ (j : Nat) xss, xsss[j]? = some xss → sizeT xss ≤ 1048576) :
    Calls Try.prog 103 #[rd n g, v] w (Says (ArP n g xsss) w) := by
  have HGY := Lib.hid (fun k w h => guards_yes k w h)
  have HGN := Lib.hid (fun k w h => guards_no k w h)
  have HRY := Lib.hid (fun v xs w hv hl (h : RoundP n g xs) => show Calls Try.prog 136 #[rd n g, v] w fun e w' => e = .returned (.bool true) ∧ Below w.heap.size w w' from by have h2 := isRound_any n g v xs w hv hl; rw [(roundD_iff n g xs).2 h] at h2; exact h2)
  have HRN := Lib.hid (fun v xs w hv hl (h : ¬ RoundP n g xs) => show Calls Try.prog 136 #[rd n g, v] w fun e w' => e = .returned (.bool false) ∧ Below w.heap.size w w' from by
    have h2 := isRound_any n g v xs w hv hl
    have e : roundD n g xs = false := by
      cases hb : roundD n g xs
      · rfl
      · exact absurd ((roundD_iff n g xs).1 hb) h
    rw [e] at h2
    exact h2)
  have HRO := Lib.hid (fun w => isRoad_any n g w)
  have HL := Lib.hid hl
  have HX := Lib.hid (Boxed.first w n g 27)
  have HV := Lib.hid hv
  obtain ⟨va, vc, rfl, hvc, hvm, _⟩ := hv
  unfold maxLen at hvm
  clear hl
  unfold rd at *
  go_enter Try.func103, Try.ntmps103
  go_wp2_with fail
  go_loopw [4, 11] (fun r i wr => ApRel n g xsss w.heap.size w r i wr) (fun _ i _ => xsss.length - (intOf i).toNat)
  case atStart => exact ⟨rfl, HX.out, 0, Nat.zero_le _, rfl, fun j x hj => by omega⟩
  case round =>
    obtain ⟨rfl, hx, k, hk, rfl, hpre⟩ := hrel
    have HP := Lib.hid hpre
    clear HX hpre
    have HX := Lib.hid hx
    have hx0 := hx.c0
    have hx1 := hx.c1
    clear hx
    by_cases hlt : k < xsss.length
    · obtain ⟨xss, hxs⟩ := get_some hlt
      obtain ⟨b, o, a2, c2, rfl, hbl, hcx0, hrx⟩ := tables_in HV.out hxs
      have hcx : wr.cell? ⟨b, o + k, none⟩ = some (.slice a2 xss.length c2) := (HX.out.below.cell (p := ⟨b, o + k, none⟩) hbl).trans hcx0
      have hsz := HL.out k xss hxs
      have HSZ := Lib.hid hsz
      have HXS := Lib.hid hxs
      have HRX := Lib.hid hrx
      have hxm : xss.length ≤ 1048576 := by unfold sizeT at hsz; omega
      clear hxs hcx0 hrx hsz
      by_cases h6 : 1 ≤ xss.length ∧ xss.length ≤ 6
      · obtain ⟨h1, h6⟩ := h6
        obtain ⟨ys, hys⟩ := get_some (xs := xss) (k := 0) (by omega)
        obtain ⟨b2, o2, a3, c3, rfl, hbl2, hcy0, hry⟩ := lists_in HRX.out hys
        have hcy0 : w.cell? ⟨b2, o2, none⟩ = some (.slice a3 ys.length c3) := hcy0
        have HYS := Lib.hid (show (xss.getD 0 []).length = ys.length by simp [List.getD, hys])
        have hyb := row_fits hys
        have hym : ys.length ≤ 1048575 := by have := HSZ.out; unfold sizeT at this; omega
        generalize hyl : ys.length = yl at *
        have HCY := Lib.hid hcy0
        have h1i : (1 : Int) ≤ (xss.length : Int) := by omega
        have h0i : (0 : Int) < (xss.length : Int) := by omega
        have h0n : 0 < xss.length := h1
        have hne : xss ≠ [] := by intro h; rw [h] at h1; simp at h1
        clear hys hyl hcy0 hry hyb
        go_wp2_with fail
        refine (HGY.out _ _ (by omega)).mono ?_
        rintro e w2 ⟨rfl, rfl⟩
        go_wp2_with fail
        clear hcx
        have HX9 := Lib.hid HX.out
        go_loopw [4, 21] (fun r i wr => ApRelI n g xss yl w.heap.size w r i wr) (fun _ i _ => xss.length - (intOf i).toNat)
        case atStart => exact ⟨rfl, HX9.out, 0, Nat.zero_le _, rfl, fun j x hj => by omega⟩
        case round =>
          obtain ⟨rfl, hx, q, hq, rfl, hpre⟩ := hrel
          have HQ := Lib.hid hpre
          clear HX HX9 hpre hx0 hx1
          have HX := Lib.hid hx
          have hx0 := hx.c0
          have hx1 := hx.c1
          clear hx
          by_cases hlq : q < xss.length
          · obtain ⟨xs, hxs⟩ := get_some hlq
            obtain ⟨b', o', a4, c4, he, _, hcz0, hrz⟩ := lists_in HRX.out hxs
            cases he
            have hcz : wr.cell? ⟨b2, o2 + q, none⟩ = some (.slice a4 xs.length c4) := (HX.out.below.cell (p := ⟨b2, o2 + q, none⟩) hbl2).trans hcz0
            have HRZ := Lib.hid (hrz.below HX.out.below)
            have hxb := row_fits hxs
            have hxl : xs.length ≤ 1048575 := by have := HSZ.out; unfold sizeT at this; omega
            have HZS := Lib.hid hxs
            clear hxs hcz0 hrz hxb
            by_cases hr : RoundP n g xs
            · have HR := Lib.hid hr
              clear hr
              go_wp2_with fail
              refine (HRY.out _ xs _ HRZ.out hxl HR.out).mono ?_
              rintro e w2 ⟨rfl, hb⟩
              have HX := Lib.hid (HX.out.next hb)
              have hx0 := HX.out.c0
              have hx1 := HX.out.c1
              have hcy : w2.cell? ⟨b2, o2, none⟩ = some (.slice a3 yl c3) := (HX.out.below.cell (p := ⟨b2, o2, none⟩) hbl2).trans HCY.out
              clear hb hcz
              by_cases hyx : xs.length = yl
              · have hb1 : ((xs.length : Int) == (yl : Int)) = true := by rw [hyx]; simp
                have hb2 : ((xs.length : Int) != (yl : Int)) = false := by rw [hyx]; simp
                have hb3 : (xs.length : Int) = (yl : Int) := by rw [hyx]
                have HYX := Lib.hid hyx
                clear hyx
                go_wp2_with fail
                go_roundw
                case rel => exact ⟨rfl, HX.out, q + 1, by omega, by go_num, fun j zs hj hz => by
                  by_cases hjt : j < q
                  · exact HQ.out j zs hjt hz
                  · obtain rfl : j = q := by omega
                    rw [HZS.out] at hz
                    cases hz
                    exact ⟨HR.out, HYX.out⟩⟩
                case measure => simp [intOf]; omega
              · have hb1 : ((xs.length : Int) == (yl : Int)) = false := by rw [beq_eq_false_iff_ne]; omega
                have hb2 : ((xs.length : Int) != (yl : Int)) = true := by simp [bne, hb1]
                have hb3 : ¬ (xs.length : Int) = (yl : Int) := by omega
                go_wp2_with fail
                go_ret
                exact says_no (fun h => by have h3 := (((h.2 k xss HXS.out).2.2.1) q xs HZS.out).2; rw [HYS.out] at h3; exact hyx h3) HX.out.below
            · have HR := Lib.hid hr
              clear hr
              go_wp2_with fail
              refine (HRN.out _ xs _ HRZ.out hxl HR.out).mono ?_
              rintro e w2 ⟨rfl, hb⟩
              have HX := Lib.hid (HX.out.next hb)
              clear hb hcz
              go_wp2_with fail
              go_ret
              exact says_no (fun h => HR.out ((((h.2 k xss HXS.out).2.2.1) q xs HZS.out).1)) HX.out.below
          · have hqe : q = xss.length := by omega
            subst hqe
            go_wp2_with fail
            go_roundw
            case rel => exact ⟨rfl, HX.out, k + 1, by omega, by go_num, fun j zss hj hz => by
              by_cases hjt : j < k
              · exact HP.out j zss hjt hz
              · obtain rfl : j = k := by omega
                rw [HXS.out] at hz
                cases hz
                have hall : ∀ (j : Nat) xs, xss[j]? = some xs → RoundP n g xs ∧ xs.length = (xss.getD 0 []).length := fun j xs hx => by rw [HYS.out]; exact HQ.out j xs (List.getElem?_eq_some_iff.1 hx).1 hx
                obtain ⟨ys, hys⟩ := get_some (xs := xss) (k := 0) (by omega)
                exact ⟨h1, h6, hall, (hall 0 ys hys).1.2.1⟩⟩
            case measure => simp [intOf]; omega
      · have h6n : ¬ ((1 : Int) ≤ (xss.length : Int) ∧ (xss.length : Int) ≤ 6) := by omega
        go_wp2_with fail
        refine (HGN.out _ _ h6n).mono ?_
        rintro e w2 ⟨rfl, rfl⟩
        go_wp2_with fail
        go_ret
        exact says_no (fun h => h6 ⟨(h.2 k xss HXS.out).1, (h.2 k xss HXS.out).2.1⟩) HX.out.below
    · have hke : k = xsss.length := by omega
      subst hke
      go_wp2_with fail
      refine (HRO.out _).mono ?_
      rintro e w2 ⟨rfl, hb⟩
      have HX := Lib.hid (HX.out.next hb)
      clear hb
      go_wp2_with fail
      go_ret
      exact ⟨roadB n g, rfl, ⟨fun h => ⟨h, fun j xss hx => HP.out j xss (List.getElem?_eq_some_iff.1 hx).1 hx⟩, fun h => h.1⟩, HX.out.below⟩
theorem arP_one (n : Int) (g : Bool) (xss : List (List Int)) : ArP n g [xss] ↔ PatP n g xss := by
  refine ⟨fun h => h.2 0 xss rfl, fun h => ⟨h.2.2.2, fun j yss hj => ?_⟩⟩
  match j, hj with
  | 0, hj => cases hj; exact h
theorem arP_two (n : Int) (g : Bool) (xss yss : List (List Int)) : ArP n g [xss, yss] ↔ PatP n g xss ∧ PatP n g yss := by
  refine ⟨fun h => ⟨h.2 0 xss rfl, h.2 1 yss rfl⟩, fun h => ⟨h.1.2.2.2, fun j zss hj => ?_⟩⟩
  match j, hj with
  | 0, hj => cases hj; exact h.1
  | 1, hj => cases hj; exact h.2
theorem arePatrols_one (n : Int) (g : Bool) (v : Value) (xss : List (List Int)) (w : World) (hv : ReadsT w v [xss]) (hl : sizeT xss ≤ 1048576) :
    Calls Try.prog 103 #[rd n g, v] w fun e w' => e = .returned (.bool (patD n g xss)) ∧ Below w.heap.size w w' :=
  (arePatrols_any n g v [xss] w hv (fun j yss hj => by
    match j, hj with
    | 0, hj => cases hj; exact hl)).mono fun _ _ ⟨_, he, hi, hb⟩ => ⟨by rw [he, bool_of_iff (hi.trans (arP_one n g xss)) (patD_iff n g xss)], hb⟩
theorem arePatrols_two (n : Int) (g : Bool) (v : Value) (xss yss : List (List Int)) (w : World) (hv : ReadsT w v [xss, yss]) (hl : sizeT xss ≤ 1048576) (hl2 : sizeT yss ≤ 1048576) :
    Calls Try.prog 103 #[rd n g, v] w fun e w' => e = .returned (.bool (patD n g xss && patD n g yss)) ∧ Below w.heap.size w w' :=
  (arePatrols_any n g v [xss, yss] w hv (fun j zss hj => by
    match j, hj with
    | 0, hj => cases hj; exact hl
    | 1, hj => cases hj; exact hl2)).mono fun _ _ ⟨_, he, hi, hb⟩ => ⟨by rw [he, bool_of_iff (hi.trans (arP_two n g xss yss)) (and_iff (patD_iff n g xss) (patD_iff n g yss))], hb⟩
end Go.Proofs.Ytijhbhjapcfddaa
