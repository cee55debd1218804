/-
  What is proved: when and where beads fall off, of the model and of the program. Conditions: those of each contract.
-/
import Derived.Test.YthbmiigndhoopaaLvc
namespace Go.Proofs.Ythbmiigndhoopaa
open Go.RowKit
set_option linter.unusedVariables false
set_option linter.unusedSimpArgs false

noncomputable def fallsR (L : Int) (ps ds : List Int) : List Int × List Int × Bool := if wireB L ps ds = true then (falT L ps ds, falE ds, true) else ([], [], false)
theorem fallsR_len (L : Int) (ps ds : List Int) : (fallsR L ps ds).1.length + (fallsR L ps ds).2.1.length ≤ 1048576 := by
  unfold fallsR
  split
  · rename_i h
    have h1 := (wire_ok h).n8
    have h2 := (wire_ok h).same
    have h3 := sel_both ds (shd L ps ds) (shd L ps ds) ds.length
    have h4 := sel_both ds (endF (-1)) (endF 1) ds.length
    show (falT L ps ds).length + (falE ds).length ≤ _
    unfold falT falE
    omega
  · simp
/-- the answer is two lists of their own, apart from each other, and a truth -/
def OwnsLL (base : Nat) (xs ys : List Int) (b : Bool) (w : World) (e : Ending) (w' : World) : Prop :=
  ∃ v u, e = .returned (.tuple #[v, u, .bool b]) ∧ OwnWr base w'.heap.size v u xs ys w' ∧ Below base w w'
theorem ll_R {base : Nat} {R : List Int × List Int × Bool} {zs ys : List Int} {b : Bool} {w w' : World} {e : Ending} (hR : R = (zs, ys, b)) (h : OwnsLL base zs ys b w e w') : OwnsLL base R.1 R.2.1 R.2.2 w e w' := by
  rw [hR]
  exact h
/-- no block in common -/
def ApW (v u : Value) : Prop := ∀ b, v.ownBlock = some b → u.ownBlock = some b → False
theorem ob_eqW {g n c b : Nat} (h : (Value.slice (some ⟨g, 0, none⟩) n c).ownBlock = some b) : g = b := by
  cases h
  rfl
theorem ap_left {v5 v6 : Value} {g n c H : Nat} (hap : ApW v5 v6) (hl : v5.ownBlock = some g ∨ g = H) (h6 : ∀ b, v6.ownBlock = some b → b < H) : ApW (.slice (some ⟨g, 0, none⟩) n c) v6 := by
  intro b e e2
  have := ob_eqW e
  subst this
  rcases hl with h | h
  · exact hap g h e2
  · have := h6 g e2
    omega
theorem ap_right {v5 v6 : Value} {g n c H : Nat} (hap : ApW v5 v6) (hl : v6.ownBlock = some g ∨ g = H) (h5 : ∀ b, v5.ownBlock = some b → b < H) : ApW v5 (.slice (some ⟨g, 0, none⟩) n c) := by
  intro b e e2
  have := ob_eqW e2
  subst this
  rcases hl with h | h
  · exact hap g e h
  · have := h5 g e
    omega
def FoRel (L : Int) (v u : Value) (ps ds : List Int) (e : Int) (p1 p2 : List Int) (bx base : Nat) (w : World) (v5 v6 vi : Value) (wr : World) : Prop :=
  ∃ k : Nat, k ≤ ds.length ∧ vi = .int .i64 k ∧ wr.ownsRow base 3 1 v5 (p1 ++ selTo (toB ds e) (shd L ps ds) k).length ((p1 ++ selTo (toB ds e) (shd L ps ds) k).map iv) ∧ wr.ownsRow base 3 1 v6 (p2 ++ selTo (toB ds e) (endF e) k).length ((p2 ++ selTo (toB ds e) (endF e) k).map iv) ∧ ApW v5 v6 ∧ Blk wr bx (wrC L v u) 39 ∧ Below base w wr
theorem fo_yes {L : Int} {v u : Value} {ps ds : List Int} {e d x : Int} {p1 p2 : List Int} {bx base k m5 m6 : Nat} {w wr : World} {v5 v6 vi : Value} {y5 y6 : List Value} (h5 : (p1 ++ selTo (toB ds e) (shd L ps ds) k).map iv = y5) (l5 : (p1 ++ selTo (toB ds e) (shd L ps ds) k).length = m5) (h6 : (p2 ++ selTo (toB ds e) (endF e) k).map iv = y6) (l6 : (p2 ++ selTo (toB ds e) (endF e) k).length = m6)
    (hd : ds[k]? = some d) (hde : d = e) (hx : shd L ps ds k = x) (hi : vi = .int .i64 ((k + 1 : Nat) : Int)) (o5 : wr.ownsRow base 3 1 v5 (m5 + 1) (y5 ++ [.int .i64 x])) (o6 : wr.ownsRow base 3 1 v6 (m6 + 1) (y6 ++ [.int .i64 e])) (hap : ApW v5 v6) (hbx : Blk wr bx (wrC L v u) 39) (hb : Below base w wr) : FoRel L v u ps ds e p1 p2 bx base w v5 v6 vi wr := by
  subst h5 l5 h6 l6 hx
  have ht := toB_yes hd hde
  refine ⟨k + 1, (List.getElem?_eq_some_iff.1 hd).1, hi, ?_, ?_, hap, hbx, hb⟩
  · rw [selTo_yes ht, ← List.append_assoc, List.length_append, List.map_append]
    exact o5
  · rw [selTo_yes ht, ← List.append_assoc, List.length_append, List.map_append]
    exact o6
theorem fo_no {L : Int} {v u : Value} {ps ds : List Int} {e d : Int} {p1 p2 : List Int} {bx base k : Nat} {w wr : World} {v5 v6 vi : Value} (hd : ds[k]? = some d) (hde : d ≠ e) (hi : vi = .int .i64 ((k + 1 : Nat) : Int))
    (o5 : wr.ownsRow base 3 1 v5 (p1 ++ selTo (toB ds e) (shd L ps ds) k).length ((p1 ++ selTo (toB ds e) (shd L ps ds) k).map iv)) (o6 : wr.ownsRow base 3 1 v6 (p2 ++ selTo (toB ds e) (endF e) k).length ((p2 ++ selTo (toB ds e) (endF e) k).map iv)) (hap : ApW v5 v6) (hbx : Blk wr bx (wrC L v u) 39) (hb : Below base w wr) : FoRel L v u ps ds e p1 p2 bx base w v5 v6 vi wr := by
  have ht := toB_no hd hde
  refine ⟨k + 1, (List.getElem?_eq_some_iff.1 hd).1, hi, ?_, ?_, hap, hbx, hb⟩
  · rw [selTo_no ht]; exact o5
  · rw [selTo_no ht]; exact o6
theorem fo_len (p : List Int) (P : Nat → Bool) (F : Nat → Int) (k : Nat) : (p ++ selTo P F k).length ≤ p.length + k := by
  have := selTo_len P F k
  rw [List.length_append]
  omega
theorem sel_len (P : Nat → Bool) (F : Nat → Int) (k : Nat) : (selTo P F k).length ≤ k := selTo_len P F k
set_option maxHeartbeats 3200000 in
set_option maxRecDepth 20000 in
theorem spec_FallsOf (L : Int) (v u : Value) (ps ds : List Int) (w : World) (hv : ReadsI w v ps) (hu : ReadsI w u ds) :
    Calls Try.prog 51 #[wrV L v u] w (OwnsLL w.heap.size (fallsR L ps ds).1 (fallsR L ps ds).2.1 (fallsR L ps ds).2.2 w) := by
  obtain ⟨i0, hi, hz0, hz1, hz2⟩ := info_parts infoInt
  have HW := Lib.hid (fun w hv hu => l8Wire_any L v u ps ds w hv hu)
  have hb0 : Below w.heap.size w (((w.alloc (.cells (wrC L v u) 39)).alloc (.cells #[] 3)).alloc (.cells #[] 3)) := (((Below.refl _ w).alloc (Nat.le_refl _) _).alloc (by simp) _).alloc (by simp; omega) _
  have HB := Lib.hid hb0
  have HBX := Lib.hid (((blk_new w (wrC L v u) 39).below (below_new _ (.cells #[] 3))).below (below_new _ (.cells #[] 3)))
  have HM5 := Lib.hid (owns_below (made_at (w.alloc (.cells (wrC L v u) 39)) w.heap.size (w.heap.size + 1) (by simp) (by omega)) (below_new _ (.cells #[] 3)))
  have HM6 := Lib.hid (made_at ((w.alloc (.cells (wrC L v u) 39)).alloc (.cells #[] 3)) w.heap.size (w.heap.size + 1 + 1) (by simp) (by omega))
  have HV := Lib.hid (hv.below HB.out)
  have HU := Lib.hid (hu.below HB.out)
  obtain ⟨y, c, rfl, hc, hm, hx⟩ := hv
  obtain ⟨z, e, rfl, he, hem, hy⟩ := hu
  have HL := Lib.hid hx
  have HD := Lib.hid hy
  unfold maxLen at hm hem
  clear hx hy hb0
  unfold wrV wrC at *
  have c0 := HBX.out.cell 0
  have c1 := HBX.out.cell 1
  have c2 := HBX.out.cell 2
  go_enter Try.func51, Try.ntmps51
  go_wp2_with fail
  refine (HW.out _ HV.out HU.out).mono ?_
  rintro e2 w1 ⟨rfl, hb⟩
  replace HBX := Lib.hid (HBX.out.below hb)
  replace HM5 := Lib.hid (owns_below HM5.out hb)
  replace HM6 := Lib.hid (owns_below HM6.out hb)
  replace HB := Lib.hid (HB.out.trans (hb.mono HB.out.size))
  have HAP := Lib.hid (show ApW (.slice (some ⟨w.heap.size + 1, 0, none⟩) 0 0) (.slice (some ⟨w.heap.size + 1 + 1, 0, none⟩) 0 0) from fun b e e2 => by have := ob_eqW e; have := ob_eqW e2; omega)
  clear hb c0 c1 c2
  cases hl : wireB L ps ds
  · have HR := Lib.hid (show fallsR L ps ds = ([], [], false) from if_neg (by rw [hl]; simp))
    clear hl
    go_wp2_with fail
    go_ret3
    exact ll_R HR.out ⟨_, _, rfl, ⟨HM5.out, HM6.out, HAP.out, fun b hb => (owns_block HM5.out b hb).2, fun b hb => (owns_block HM6.out b hb).2⟩, HB.out⟩
  · have HR := Lib.hid (show fallsR L ps ds = (falT L ps ds, falE ds, true) from if_pos hl)
    have HWO := Lib.hid (wire_ok hl)
    have hL1 := (wire_ok hl).l1
    have hL30 := (wire_ok hl).l30
    have h8 : ds.length ≤ 8 := by have := (wire_ok hl).same; have := (wire_ok hl).n8; omega
    have HS := Lib.hid (show FoRel L (.slice y ps.length c) (.slice z ds.length e) ps ds (-1) [] [] w.heap.size w.heap.size w (.slice (some ⟨w.heap.size + 1, 0, none⟩) 0 0) (.slice (some ⟨w.heap.size + 1 + 1, 0, none⟩) 0 0) (.int .i64 0) w1 from ⟨0, Nat.zero_le _, rfl, HM5.out, HM6.out, HAP.out, HBX.out, HB.out⟩)
    clear hl HM5 HM6 HAP HBX HB
    go_wp2_with fail
    go_loopw [5, 6, 7] (fun v5 v6 vi wr => FoRel L (.slice y ps.length c) (.slice z ds.length e) ps ds (-1) [] [] w.heap.size w.heap.size w v5 v6 vi wr) (fun _ _ i _ => ds.length - (intOf i).toNat)
    case atStart => exact HS.out
    case round =>
      clear HS
      obtain ⟨k, hk, rfl, h5, h6, hap, hbx, hb⟩ := hrel
      have c0 := hbx.cell 0
      have c1 := hbx.cell 1
      have c2 := hbx.cell 2
      have HOW := Lib.hid h5
      have HO6 := Lib.hid h6
      have HAP := Lib.hid hap
      have HBX := Lib.hid hbx
      have HB := Lib.hid hb
      have hl5 : ([] ++ selTo (toB ds (-1)) (shd L ps ds) k).length ≤ 0 + k := fo_len [] (toB ds (-1)) (shd L ps ds) k
      have hl6 : ([] ++ selTo (toB ds (-1)) (endF (-1)) k).length ≤ 0 + k := fo_len [] (toB ds (-1)) (endF (-1)) k
      clear h5 h6 hap hbx hb
      by_cases hlt : k < ds.length
      · skip
        obtain ⟨d, hdk⟩ := get_some hlt
        obtain ⟨p, hpk⟩ := get_some (xs := ps) (k := k) (by have := HWO.out.same; omega)
        obtain ⟨bp, op, e7, hbp, hcp⟩ := HL.out k p hpk
        obtain ⟨bd, od, e8, hbd, hcd⟩ := HD.out k d hdk
        have hdw := HWO.out.way k d hdk
        have hpw := HWO.out.place k p hpk
        have HSH := Lib.hid (shd_at (L := L) hpk hdk)
        have hcp1 : wr.cell? ⟨bp, op + k, none⟩ = some (.int .i64 p) := (HB.out.cell (p := ⟨bp, op + k, none⟩) hbp).trans hcp
        have hcd1 : wr.cell? ⟨bd, od + k, none⟩ = some (.int .i64 d) := (HB.out.cell (p := ⟨bd, od + k, none⟩) hbd).trans hcd
        have HCP := Lib.hid hcp
        have HDK := Lib.hid hdk
        have hi0 : 0 ≤ (k : Int) := by omega
        have hi1 : (k : Int) < ps.length := by have := HWO.out.same; omega
        have hi2 : (k : Int) < ds.length := by omega
        subst e7 e8
        clear hpk hdk hcp hcd
        rcases hdw with hd1 | hd1
        · have HNE := Lib.hid (show d ≠ (-1 : Int) by omega)
          have hd2 : ¬ d < 0 := by omega
          go_wp2_with fail
          go_roundw
          case rel => exact fo_no HDK.out HNE.out (by go_num) HOW.out HO6.out HAP.out HBX.out HB.out
          case measure => simp [intOf] <;> omega
        · have HDE := Lib.hid hd1
          have hd2 : d < 0 := by omega
          have HX5 := Lib.hid (show shd L ps ds k = p by rw [HSH.out, if_pos hd2])
          have HSZ := Lib.hid HB.out.size
          generalize hy5 : ([] ++ selTo (toB ds (-1)) (shd L ps ds) k).map iv = y5 at *
          generalize hm5 : ([] ++ selTo (toB ds (-1)) (shd L ps ds) k).length = m5 at *
          generalize hy6 : ([] ++ selTo (toB ds (-1)) (endF (-1)) k).map iv = y6 at *
          generalize hm6 : ([] ++ selTo (toB ds (-1)) (endF (-1)) k).length = m6 at *
          have HYS5 := Lib.hid hy5
          have HZL5 := Lib.hid hm5
          have HYS6 := Lib.hid hy6
          have HZL6 := Lib.hid hm6
          have HOW := Lib.hid HOW.out
          have HO6 := Lib.hid HO6.out
          clear hy5 hm5 hy6 hm6
          go_wp2_with (at_builtin; refine wpList_append_lies _ rfl _ _ 22 rfl (w.heap.size) 3 i0 (.int .i64 0) 1 8 Try.underlying22 hi hz0 hz1 hz2 rfl (by decide) _ _ _ rfl (HOW.out.alloc _) ⟨wr.heap.size, 0, none⟩ 1 1 [.int .i64 (p)] rfl rfl (cell_one_new _ _ _) ?c2 (by decide) ?c3 ?c4 ?c5 _ rfl ?_)
          case c2 => first | (intro u hu; simp at hu; subst hu; rfl) | rfl
          case c3 => unfold maxLen; omega
          case c4 => omega
          case c5 => have z0 := HSZ.out; simp; omega
          intro g9 c9 w9 hown' hgrow hlies hlt9
          have HBA := Lib.hid (below_new wr (.cells #[.int .i64 (p)] 3))
          have H6B := Lib.hid (fun b hb => (owns_block HO6.out b hb).2)
          have HO6 := Lib.hid (rkept (owns_below HO6.out HBA.out) hgrow (fun b e e2 => HAP.out b e2 e))
          have HBX := Lib.hid (bkept (HBX.out.below HBA.out) hgrow (fun e => row_type (owns_below HOW.out HBA.out) (HBX.out.below HBA.out) (by decide) _ e rfl))
          have HB := Lib.hid ((HB.out.trans (HBA.out.mono HB.out.size)).trans (below_grown hgrow (fun b hb => (owns_block HOW.out b hb).1) (by have := HSZ.out; simp; omega)))
          have HAP := Lib.hid (ap_left (n := m5 + 1) (c := c9) HAP.out hlies (fun b e => by have := H6B.out b e; omega))
          have HOW := Lib.hid hown'
          have HSZ := Lib.hid HB.out.size
          clear hgrow hown' hlies hlt9 HBA H6B
          go_wp2_with (at_builtin; refine wpList_append_lies _ rfl _ _ 22 rfl (w.heap.size) 3 i0 (.int .i64 0) 1 8 Try.underlying22 hi hz0 hz1 hz2 rfl (by decide) _ _ _ rfl (HO6.out.alloc _) ⟨w9.heap.size, 0, none⟩ 1 1 [.int .i64 (-1)] rfl rfl (cell_one_new _ _ _) ?c2 (by decide) ?c3 ?c4 ?c5 _ rfl ?_)
          case c2 => first | (intro u hu; simp at hu; subst hu; rfl) | rfl
          case c3 => unfold maxLen; omega
          case c4 => omega
          case c5 => have z0 := HSZ.out; simp; omega
          intro g9b c9b w9b hown'b hgrowb hliesb hlt9b
          have HBA := Lib.hid (below_new w9 (.cells #[.int .i64 (-1)] 3))
          have H5B := Lib.hid (fun b hb => (owns_block HOW.out b hb).2)
          have HOW := Lib.hid (rkept (owns_below HOW.out HBA.out) hgrowb HAP.out)
          have HBX := Lib.hid (bkept (HBX.out.below HBA.out) hgrowb (fun e => row_type (owns_below HO6.out HBA.out) (HBX.out.below HBA.out) (by decide) _ e rfl))
          have HB := Lib.hid ((HB.out.trans (HBA.out.mono HB.out.size)).trans (below_grown hgrowb (fun b hb => (owns_block HO6.out b hb).1) (by have := HSZ.out; simp; omega)))
          have HAP := Lib.hid (ap_right (n := m6 + 1) (c := c9b) HAP.out hliesb (fun b e => by have := H5B.out b e; omega))
          have HO6 := Lib.hid hown'b
          clear hgrowb hown'b hliesb hlt9b HBA H5B
          go_wp2_with fail
          go_roundw
          case rel => exact fo_yes HYS5.out HZL5.out HYS6.out HZL6.out HDK.out HDE.out HX5.out (by go_num) HOW.out HO6.out HAP.out HBX.out HB.out
          case measure => simp [intOf] <;> omega
      · have hi1 : ¬ (k : Int) < ps.length := by have := HWO.out.same; omega
        have hke : k = ds.length := by omega
        have HS2 := Lib.hid (show FoRel L (.slice y ps.length c) (.slice z ds.length e) ps ds 1 (selTo (toB ds (-1)) (shd L ps ds) ds.length) (selTo (toB ds (-1)) (endF (-1)) ds.length) w.heap.size w.heap.size w u5 u6 (.int .i64 0) wr from ⟨0, Nat.zero_le _, rfl, by rw [show selTo (toB ds 1) (shd L ps ds) 0 = [] from rfl, List.append_nil, ← hke]; exact HOW.out, by rw [show selTo (toB ds 1) (endF 1) 0 = [] from rfl, List.append_nil, ← hke]; exact HO6.out, HAP.out, HBX.out, HB.out⟩)
        clear HOW HO6 HAP HBX HB hke
        go_wp2_with fail
        go_loopw [5, 6, 8] (fun v5 v6 vi wr => FoRel L (.slice y ps.length c) (.slice z ds.length e) ps ds 1 (selTo (toB ds (-1)) (shd L ps ds) ds.length) (selTo (toB ds (-1)) (endF (-1)) ds.length) w.heap.size w.heap.size w v5 v6 vi wr) (fun _ _ i _ => ds.length - (intOf i).toNat)
        case atStart => exact HS2.out
        case round =>
          clear HS2 hlt hi1 hk c0 c1 c2
          obtain ⟨k, hk, rfl, h5, h6, hap, hbx, hb⟩ := hrel
          have c0 := hbx.cell 0
          have c1 := hbx.cell 1
          have c2 := hbx.cell 2
          have HOW := Lib.hid h5
          have HO6 := Lib.hid h6
          have HAP := Lib.hid hap
          have HBX := Lib.hid hbx
          have HB := Lib.hid hb
          have hl5 := fo_len (selTo (toB ds (-1)) (shd L ps ds) ds.length) (toB ds 1) (shd L ps ds) k
          have hl6 := fo_len (selTo (toB ds (-1)) (endF (-1)) ds.length) (toB ds 1) (endF 1) k
          have hs5 := sel_len (toB ds (-1)) (shd L ps ds) ds.length
          have hs6 := sel_len (toB ds (-1)) (endF (-1)) ds.length
          clear h5 h6 hap hbx hb
          by_cases hlt : k < ds.length
          · skip
            obtain ⟨d, hdk⟩ := get_some hlt
            obtain ⟨p, hpk⟩ := get_some (xs := ps) (k := k) (by have := HWO.out.same; omega)
            obtain ⟨bp, op, e7, hbp, hcp⟩ := HL.out k p hpk
            obtain ⟨bd, od, e8, hbd, hcd⟩ := HD.out k d hdk
            have hdw := HWO.out.way k d hdk
            have hpw := HWO.out.place k p hpk
            have HSH := Lib.hid (shd_at (L := L) hpk hdk)
            have hcp1 : wr.cell? ⟨bp, op + k, none⟩ = some (.int .i64 p) := (HB.out.cell (p := ⟨bp, op + k, none⟩) hbp).trans hcp
            have hcd1 : wr.cell? ⟨bd, od + k, none⟩ = some (.int .i64 d) := (HB.out.cell (p := ⟨bd, od + k, none⟩) hbd).trans hcd
            have HCP := Lib.hid hcp
            have HDK := Lib.hid hdk
            have hi0 : 0 ≤ (k : Int) := by omega
            have hi1 : (k : Int) < ps.length := by have := HWO.out.same; omega
            have hi2 : (k : Int) < ds.length := by omega
            cases e7
            cases e8
            clear hpk hdk hcp hcd
            rcases hdw with hd1 | hd1
            · have HDE := Lib.hid hd1
              have hd2 : 0 < d := by omega
              have HX5 := Lib.hid (show shd L ps ds k = L - p by rw [HSH.out, if_neg (by omega)])
              have hlp : IntKind.i64.wrap (L - p) = L - p := IntWalk.i64_in _ (by omega)
              have HSZ := Lib.hid HB.out.size
              generalize hy5 : ((selTo (toB ds (-1)) (shd L ps ds) ds.length) ++ selTo (toB ds (1)) (shd L ps ds) k).map iv = y5 at *
              generalize hm5 : ((selTo (toB ds (-1)) (shd L ps ds) ds.length) ++ selTo (toB ds (1)) (shd L ps ds) k).length = m5 at *
              generalize hy6 : ((selTo (toB ds (-1)) (endF (-1)) ds.length) ++ selTo (toB ds (1)) (endF (1)) k).map iv = y6 at *
              generalize hm6 : ((selTo (toB ds (-1)) (endF (-1)) ds.length) ++ selTo (toB ds (1)) (endF (1)) k).length = m6 at *
              have HYS5 := Lib.hid hy5
              have HZL5 := Lib.hid hm5
              have HYS6 := Lib.hid hy6
              have HZL6 := Lib.hid hm6
              have HOW := Lib.hid HOW.out
              have HO6 := Lib.hid HO6.out
              clear hy5 hm5 hy6 hm6
              go_wp2_with fail
              refine wp_region_noPanic ?_
              have HBX := Lib.hid (HBX.out.below (below_drewN _ 1))
              have HOW := Lib.hid (owns_below HOW.out (below_drewN _ 1))
              have HO6 := Lib.hid (owns_below HO6.out (below_drewN _ 1))
              have HB := Lib.hid (HB.out.trans ((below_drewN _ 1).mono HB.out.size))
              refine wp_region_held_drew (S := fun w' => w'.cell? ⟨w.heap.size, 0, none⟩ = some (.int .i64 L) ∧ w'.cell? ⟨w.heap.size, 1, none⟩ = some (.slice (some ⟨bp, op, none⟩) ps.length c) ∧ w'.cell? ⟨bp, op + k, none⟩ = some (.int .i64 p)) (by kernel_rfl) (⟨HBX.out.cell 0, HBX.out.cell 1, (HB.out.cell (p := ⟨bp, op + k, none⟩) hbp).trans HCP.out⟩) (fun hHeld => ?_)
              refine wpAnyH_take (i := 0) (oi := _) (v := ?_) rfl (by kernel_rfl) (by kernel_rfl) (by kernel_rfl) (fun _ _ _ h => h) (Or.inl ⟨by rfl, ?_⟩) (by assumption) ?_
              rotate_left
              · (intro w hSw; (try dsimp only at hSw); (first | (go_simp; done) | (go_simp; with_reducible rfl)))
              simp only [Act.put, List.getElem_toArray, List.getElem_cons_succ, List.getElem_cons_zero, List.setIfInBounds_toArray, List.set_cons_zero, List.set_cons_succ]
              refine wpAnyH_take (i := 1) (oi := _) (v := ?_) rfl (by kernel_rfl) (by kernel_rfl) (by kernel_rfl) (fun _ _ _ h => h) (Or.inl ⟨by rfl, ?_⟩) (by assumption) ?_
              rotate_left
              · (intro w hSw; (try dsimp only at hSw); (first | (go_simp; done) | (go_simp; with_reducible rfl)))
              simp only [Act.put, List.getElem_toArray, List.getElem_cons_succ, List.getElem_cons_zero, List.setIfInBounds_toArray, List.set_cons_zero, List.set_cons_succ]
              refine wpAnyH_take (i := 2) (oi := _) (v := ?_) rfl (by kernel_rfl) (by kernel_rfl) (by kernel_rfl) (fun _ _ _ h => h) (Or.inl ⟨by rfl, ?_⟩) (by assumption) ?_
              rotate_left
              · (intro w hSw; (try dsimp only at hSw); (first | (go_simp; done) | (go_simp; with_reducible rfl)))
              simp only [Act.put, List.getElem_toArray, List.getElem_cons_succ, List.getElem_cons_zero, List.setIfInBounds_toArray, List.set_cons_zero, List.set_cons_succ]
              refine wpAnyH_take (i := 3) (oi := _) (v := ?_) rfl (by kernel_rfl) (by kernel_rfl) (by kernel_rfl) (fun _ _ _ h => h) (Or.inl ⟨by rfl, ?_⟩) (by assumption) ?_
              rotate_left
              · (intro w hSw; (try dsimp only at hSw); (first | (go_simp; done) | (go_simp; with_reducible rfl)))
              simp only [Act.put, List.getElem_toArray, List.getElem_cons_succ, List.getElem_cons_zero, List.setIfInBounds_toArray, List.set_cons_zero, List.set_cons_succ]
              refine wpAnyH_take (i := 4) (oi := _) (v := ?_) rfl (by kernel_rfl) (by kernel_rfl) (by kernel_rfl) (fun _ _ _ h => h) (Or.inl ⟨by rfl, ?_⟩) (by assumption) ?_
              rotate_left
              · (intro w hSw; (try dsimp only at hSw); (first | (go_simp; done) | (go_simp; with_reducible rfl)))
              simp only [Act.put, List.getElem_toArray, List.getElem_cons_succ, List.getElem_cons_zero, List.setIfInBounds_toArray, List.set_cons_zero, List.set_cons_succ]
              refine wpAnyH_take (i := 5) (oi := _) (v := ?_) rfl (by kernel_rfl) (by kernel_rfl) (by kernel_rfl) (fun _ _ _ h => h) (Or.inl ⟨by rfl, ?_⟩) (by assumption) ?_
              rotate_left
              · (intro w hSw; (try dsimp only at hSw); (first | (go_simp; done) | (go_simp; with_reducible rfl)))
              simp only [Act.put, List.getElem_toArray, List.getElem_cons_succ, List.getElem_cons_zero, List.setIfInBounds_toArray, List.set_cons_zero, List.set_cons_succ]
              refine wpAnyH_take (i := 6) (oi := _) (v := .pointer (some ⟨bp, op + k, none⟩)) rfl (by kernel_rfl) (by kernel_rfl) (by kernel_rfl) (fun _ _ _ h => h) (Or.inl ⟨by rfl, ?_⟩) (by assumption) ?_
              · (intro w hSw; (try dsimp only at hSw); go_simp; first | done | (simp [hi0, hi1]; done) | omega | (simp <;> omega) | trace_state)
              simp only [Act.put, List.getElem_toArray, List.getElem_cons_succ, List.getElem_cons_zero, List.setIfInBounds_toArray, List.set_cons_zero, List.set_cons_succ]
              refine wpAnyH_take (i := 7) (oi := _) (v := ?_) rfl (by kernel_rfl) (by kernel_rfl) (by kernel_rfl) (fun _ _ _ h => h) (Or.inl ⟨by rfl, ?_⟩) (by assumption) ?_
              rotate_left
              · (intro w hSw; (try dsimp only at hSw); (first | (go_simp; done) | (go_simp; with_reducible rfl)))
              simp only [Act.put, List.getElem_toArray, List.getElem_cons_succ, List.getElem_cons_zero, List.setIfInBounds_toArray, List.set_cons_zero, List.set_cons_succ]
              refine wpAnyH_take (i := 8) (oi := _) (v := .int .i64 (L - p)) rfl (by kernel_rfl) (by kernel_rfl) (by kernel_rfl) (fun _ _ _ h => h) (Or.inl ⟨by rfl, ?_⟩) (by assumption) ?_
              · (intro w hSw; (try dsimp only at hSw); go_simp; first | done | (simp [hlp]; done) | omega | (simp <;> omega) | trace_state)
              simp only [Act.put, List.getElem_toArray, List.getElem_cons_succ, List.getElem_cons_zero, List.setIfInBounds_toArray, List.set_cons_zero, List.set_cons_succ]
              refine wpAnyH_ready (rs := [9]) (by kernel_rfl) (by simp) ?_
              refine AllReadyH.cons rfl (fun K hK => ?_) AllReadyH.nil
              go_simp
              have HNW := Lib.hid (one_nw (x := .int .i64 (L - p)) (t := 3) (wr.drewN 1) wr.heap.size rfl)
              have H6B := Lib.hid (fun b hb => (owns_block HO6.out b hb).2)
              have HBX := Lib.hid (HBX.out.below (below_new _ (.cells #[.int .i64 (L - p)] 3)))
              have HOW := Lib.hid (owns_below HOW.out (below_new _ (.cells #[.int .i64 (L - p)] 3)))
              have HO6 := Lib.hid (owns_below HO6.out (below_new _ (.cells #[.int .i64 (L - p)] 3)))
              have HB := Lib.hid (HB.out.trans ((below_new _ (.cells #[.int .i64 (L - p)] 3)).mono HB.out.size))
              refine hK.out _ _ (⟨HBX.out.cell 0, HBX.out.cell 1, (HB.out.cell (p := ⟨bp, op + k, none⟩) hbp).trans HCP.out⟩) (fun hHeld => ?_)
              clear hK K
              have HX := Lib.hid hHeld.1
              refine wpAnyH_ready (rs := [10]) (by kernel_rfl) (by simp) ?_
              refine AllReadyH.cons rfl (fun K hK => ?_) AllReadyH.nil
              refine step_append_lies _ (by rfl) _ _ _ (by rfl) (w.heap.size) 3 i0 (.int .i64 0) 1 8 Try.underlying22 hi hz0 hz1 hz2 rfl (by decide) _ _ _ (by rfl) HOW.out ⟨wr.heap.size, 0, none⟩ 1 1 [.int .i64 (L - p)] (by rfl) (by rfl) HNW.out ?c2 (by decide) ?c3 ?c4 ?c5 (wr.heap.size + 1) (by simp) ?_
              case c2 => first | (intro u hu; simp at hu; subst hu; rfl) | rfl
              case c3 => unfold maxLen; omega
              case c4 => omega
              case c5 => exact HB.out.size
              intro g9 c9 w9 hown' hgrow hlies hlt9
              have HO6 := Lib.hid (rkept HO6.out hgrow (fun b e e2 => HAP.out b e2 e))
              have HBX := Lib.hid (bkept HBX.out hgrow (fun e => row_type HOW.out HBX.out (by decide) _ e rfl))
              have HB := Lib.hid (HB.out.trans (below_grown hgrow (fun b hb => (owns_block HOW.out b hb).1) HB.out.size))
              have HAP := Lib.hid (ap_left (n := m5 + 1) (c := c9) HAP.out hlies (fun b e => by have h := H6B.out b e; have h2 : (wr.drewN 1).heap.size = wr.heap.size := rfl; omega))
              have HOW := Lib.hid hown'
              clear hown' hgrow hlies hlt9 HNW H6B
              clear hHeld
              refine hK.out _ _ (⟨HBX.out.cell 0, HBX.out.cell 1, (HB.out.cell (p := ⟨bp, op + k, none⟩) hbp).trans HCP.out⟩) (fun hHeld => ?_)
              clear hK K
              refine wpAnyH_take (i := 11) (oi := _) (v := ?_) rfl (by kernel_rfl) (by kernel_rfl) (by kernel_rfl) (fun _ _ _ h => h) (Or.inl ⟨by rfl, ?_⟩) (by assumption) ?_
              rotate_left
              · (intro w hSw; (try dsimp only at hSw); (first | (go_simp; done) | (go_simp; with_reducible rfl)))
              simp only [Act.put, List.getElem_toArray, List.getElem_cons_succ, List.getElem_cons_zero, List.setIfInBounds_toArray, List.set_cons_zero, List.set_cons_succ]
              refine wpAnyH_done (by kernel_rfl) ?_ _
              refine NoPanic.normal ?_
              clear hHeld
              have HSZ := Lib.hid HB.out.size
              go_wp2_with (at_builtin; refine wpList_append_lies _ rfl _ _ 22 rfl (w.heap.size) 3 i0 (.int .i64 0) 1 8 Try.underlying22 hi hz0 hz1 hz2 rfl (by decide) _ _ _ rfl (HO6.out.alloc _) ⟨w9.heap.size, 0, none⟩ 1 1 [.int .i64 (1)] rfl rfl (cell_one_new _ _ _) ?c2 (by decide) ?c3 ?c4 ?c5 _ rfl ?_)
              case c2 => first | (intro u hu; simp at hu; subst hu; rfl) | rfl
              case c3 => unfold maxLen; omega
              case c4 => omega
              case c5 => have z0 := HSZ.out; simp; omega
              intro g9b c9b w9b hown'b hgrowb hliesb hlt9b
              have HBA := Lib.hid (below_new w9 (.cells #[.int .i64 (1)] 3))
              have H5B := Lib.hid (fun b hb => (owns_block HOW.out b hb).2)
              have HOW := Lib.hid (rkept (owns_below HOW.out HBA.out) hgrowb HAP.out)
              have HBX := Lib.hid (bkept (HBX.out.below HBA.out) hgrowb (fun e => row_type (owns_below HO6.out HBA.out) (HBX.out.below HBA.out) (by decide) _ e rfl))
              have HB := Lib.hid ((HB.out.trans (HBA.out.mono HB.out.size)).trans (below_grown hgrowb (fun b hb => (owns_block HO6.out b hb).1) (by have := HSZ.out; simp; omega)))
              have HAP := Lib.hid (ap_right (n := m6 + 1) (c := c9b) HAP.out hliesb (fun b e => by have := H5B.out b e; omega))
              have HO6 := Lib.hid hown'b
              clear hgrowb hown'b hliesb hlt9b HBA H5B
              go_wp2_with fail
              go_roundw
              case rel => exact fo_yes HYS5.out HZL5.out HYS6.out HZL6.out HDK.out HDE.out HX5.out (by go_num) HOW.out HO6.out HAP.out HBX.out HB.out
              case measure => simp [intOf] <;> omega

            · have HNE := Lib.hid (show d ≠ (1 : Int) by omega)
              have hd2 : ¬ 0 < d := by omega
              go_wp2_with fail
              go_roundw
              case rel => exact fo_no HDK.out HNE.out (by go_num) HOW.out HO6.out HAP.out HBX.out HB.out
              case measure => simp [intOf] <;> omega
          · have hi1 : ¬ (k : Int) < ps.length := by have := HWO.out.same; omega
            have HKE := Lib.hid (show k = ds.length by omega)
            go_wp2_with fail
            go_ret3
            refine ll_R HR.out ⟨_, _, rfl, ⟨?_, ?_, HAP.out, fun b hb => (owns_block HOW.out b hb).2, fun b hb => (owns_block HO6.out b hb).2⟩, HB.out⟩
            · show World.ownsRow _ _ _ _ _ (falT L ps ds).length ((falT L ps ds).map iv)
              unfold falT
              have h := HOW.out
              rw [HKE.out] at h
              exact h
            · show World.ownsRow _ _ _ _ _ (falE ds).length ((falE ds).map iv)
              unfold falE
              have h := HO6.out
              rw [HKE.out] at h
              exact h

end Go.Proofs.Ythbmiigndhoopaa
