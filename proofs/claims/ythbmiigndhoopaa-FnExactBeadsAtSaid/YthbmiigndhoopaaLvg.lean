/-
  What is proved: FallsOf of the program. Conditions: those of each contract.
-/
import Derived.Test.YthbmiigndhoopaaLvd
namespace Go.Proofs.Ythbmiigndhoopaa
open Go.RowKit
set_option linter.unusedVariables false
set_option linter.unusedSimpArgs false

/-- one end after the other -/
def endE (q : Nat) : Int := if q = 0 then -1 else 1
def pre1 (L : Int) (ps ds : List Int) (q : Nat) : List Int := if q = 0 then [] else if q = 1 then selTo (toB ds (-1)) (shd L ps ds) ds.length else falT L ps ds
def pre2 (ds : List Int) (q : Nat) : List Int := if q = 0 then [] else if q = 1 then selTo (toB ds (-1)) (endF (-1)) ds.length else falE ds
theorem pre_next (L : Int) (ps ds : List Int) {q : Nat} (hq : q < 2) : pre1 L ps ds q ++ selTo (toB ds (endE q)) (shd L ps ds) ds.length = pre1 L ps ds (q + 1) ∧ pre2 ds q ++ selTo (toB ds (endE q)) (endF (endE q)) ds.length = pre2 ds (q + 1) := by
  rcases (show q = 0 ∨ q = 1 by omega) with h | h <;> subst h <;> exact ⟨rfl, rfl⟩
theorem pre_len (L : Int) (ps ds : List Int) (q : Nat) : (pre1 L ps ds q).length ≤ ds.length ∧ (pre2 ds q).length ≤ ds.length := by
  have h1 := selTo_len (toB ds (-1)) (shd L ps ds) ds.length
  have h2 := selTo_len (toB ds (-1)) (endF (-1)) ds.length
  have h3 := sel_both ds (shd L ps ds) (shd L ps ds) ds.length
  have h4 := sel_both ds (endF (-1)) (endF 1) ds.length
  unfold pre1 pre2 falT falE
  constructor <;> split <;> first | simp; done | (split <;> assumption)
def FoOut (L : Int) (v u : Value) (ps ds : List Int) (bx base : Nat) (ve : Nat) (w : World) (v5 v6 vi : Value) (wr : World) : Prop :=
  ∃ q : Nat, q ≤ 2 ∧ vi = .int .i64 q ∧ wr.ownsRow base 3 1 v5 (pre1 L ps ds q).length ((pre1 L ps ds q).map iv) ∧ wr.ownsRow base 3 1 v6 (pre2 ds q).length ((pre2 ds q).map iv) ∧ ApW v5 v6 ∧ (∀ b, v5.ownBlock = some b → b ≠ ve) ∧ (∀ b, v6.ownBlock = some b → b ≠ ve) ∧ Blk wr bx (wrC L v u) 39 ∧ Blk wr ve #[.int .i64 (-1), .int .i64 1] 3 ∧ Below base w wr
theorem ne_new {v : Value} {ve g n c H : Nat} (hne : ∀ b, v.ownBlock = some b → b ≠ ve) (hl : v.ownBlock = some g ∨ g = H) (hv : ve < H) : ∀ b, (Value.slice (some ⟨g, 0, none⟩) n c).ownBlock = some b → b ≠ ve := by
  intro b e
  have := ob_eqW e
  subst this
  rcases hl with h | h
  · exact hne g h
  · omega
set_option maxHeartbeats 3200000 in
set_option maxRecDepth 20000 in
theorem impl_FallsOf (L : Int) (v u : Value) (ps ds : List Int) (w : World) (hv : ReadsI w v ps) (hu : ReadsI w u ds) :
    Calls Try.prog 52 #[wrV L v u] w (OwnsLL w.heap.size (fallsR L ps ds).1 (fallsR L ps ds).2.1 (fallsR L ps ds).2.2 w) := by
  obtain ⟨i0, hi, hz0, hz1, hz2⟩ := info_parts infoInt
  have HW := Lib.hid (fun w hv hu => impl_IsWire L v u ps ds w hv hu)
  have HST := Lib.hid (fun k w hv hu h hk => shadeTime_any L v u ps ds k w hv hu h hk)
  have hb0 : Below w.heap.size w (((w.alloc (.cells (wrC L v u) 39)).alloc (.cells #[] 3)).alloc (.cells #[] 3)) := (((Below.refl _ w).alloc (Nat.le_refl _) _).alloc (by simp) _).alloc (by simp; omega) _
  have HB := Lib.hid hb0
  have HBX := Lib.hid (((blk_new w (wrC L v u) 39).below (below_new _ (.cells #[] 3))).below (below_new _ (.cells #[] 3)))
  have HM5 := Lib.hid (owns_below (made_at (w.alloc (.cells (wrC L v u) 39)) w.heap.size (w.heap.size + 1) (by simp) (by omega)) (below_new _ (.cells #[] 3)))
  have HM6 := Lib.hid (made_at ((w.alloc (.cells (wrC L v u) 39)).alloc (.cells #[] 3)) w.heap.size (w.heap.size + 1 + 1) (by simp) (by omega))
  have HV := Lib.hid (hv.below HB.out)
  have HU := Lib.hid (hu.below HB.out)
  have HVW := Lib.hid hv
  have HUW := Lib.hid hu
  obtain ⟨y, c, rfl, hc, hm, hx⟩ := hv
  obtain ⟨z, e0, rfl, he, hem, hy⟩ := hu
  have HD := Lib.hid hy
  unfold maxLen at hm hem
  clear hx hy hb0
  unfold wrV wrC at *
  have c0 := HBX.out.cell 0
  have c1 := HBX.out.cell 1
  have c2 := HBX.out.cell 2
  go_enter Try.func52, Try.ntmps52
  go_wp2_with fail
  refine (HW.out _ HV.out HU.out).mono ?_
  rintro e2 w1 ⟨rfl, hb⟩
  replace HBX := Lib.hid (HBX.out.below hb)
  replace HM5 := Lib.hid (owns_below HM5.out hb)
  replace HM6 := Lib.hid (owns_below HM6.out hb)
  replace HB := Lib.hid (HB.out.trans (hb.mono HB.out.size))
  have HAP := Lib.hid (show ApW (.slice (some ⟨w.heap.size + 1, 0, none⟩) 0 0) (.slice (some ⟨w.heap.size + 1 + 1, 0, none⟩) 0 0) from fun b e e2 => by have := ob_eqW e; have := ob_eqW e2; omega)
  clear hb c0 c1 c2
  cases hl : wireB L ps ds
  · have HR := Lib.hid (show fallsR L ps ds = ([], [], false) from if_neg (by rw [hl]; simp))
    clear hl
    go_wp2_with fail
    go_ret3
    exact ll_R HR.out ⟨_, _, rfl, ⟨HM5.out, HM6.out, HAP.out, fun b hb => (owns_block HM5.out b hb).2, fun b hb => (owns_block HM6.out b hb).2⟩, HB.out⟩
  · have HR := Lib.hid (show fallsR L ps ds = (falT L ps ds, falE ds, true) from if_pos hl)
    have HWB := Lib.hid hl
    have HWO := Lib.hid (wire_ok hl)
    have h8 : ds.length ≤ 8 := by have := (wire_ok hl).same; have := (wire_ok hl).n8; omega
    have hbe := below_new w1 (.cells #[.int .i64 (-1), .int .i64 1] 3)
    have HS := Lib.hid (show FoOut L (.slice y ps.length c) (.slice z ds.length e0) ps ds w.heap.size w.heap.size w1.heap.size w (.slice (some ⟨w.heap.size + 1, 0, none⟩) 0 0) (.slice (some ⟨w.heap.size + 1 + 1, 0, none⟩) 0 0) (.int .i64 0) (w1.alloc (.cells #[.int .i64 (-1), .int .i64 1] 3)) from
      ⟨0, by omega, rfl, owns_below HM5.out hbe, owns_below HM6.out hbe, HAP.out, fun b h => by have := (owns_block HM5.out b h).2; omega, fun b h => by have := (owns_block HM6.out b h).2; omega, HBX.out.below hbe, blk_new w1 _ _, HB.out.trans (hbe.mono HB.out.size)⟩)
    clear hl HM5 HM6 HAP HBX HB hbe
    go_wp2_with fail
    generalize hve : w1.heap.size = ve at *
    clear hve
    go_loopw [5, 6, 20] (fun v5 v6 vi wr => FoOut L (.slice y ps.length c) (.slice z ds.length e0) ps ds w.heap.size w.heap.size ve w v5 v6 vi wr) (fun _ _ i _ => 2 - (intOf i).toNat)
    case atStart => exact HS.out
    case round =>
      clear HS
      obtain ⟨q, hq, rfl, h5, h6, hap, hn5, hn6, hbx, hve, hb⟩ := hrel
      have c2 := hbx.cell 2
      have HOW := Lib.hid h5
      have HO6 := Lib.hid h6
      have HAP := Lib.hid hap
      have HN5 := Lib.hid hn5
      have HN6 := Lib.hid hn6
      have HBX := Lib.hid hbx
      have HB := Lib.hid hb
      have HVE := Lib.hid hve
      clear h5 h6 hap hn5 hn6 hbx hb
      by_cases hq2 : q < 2
      · have HPN := Lib.hid (pre_next L ps ds hq2)
        have HPL := Lib.hid (pre_len L ps ds q)
        obtain ⟨e, hee⟩ : ∃ e, endE q = e := ⟨_, rfl⟩
        have hce : wr.cell? ⟨ve, q, none⟩ = some (.int .i64 e) := by
          rw [hve.cell, ← hee]
          rcases (show q = 0 ∨ q = 1 by omega) with h | h <;> subst h <;> rfl
        rw [hee] at HPN
        have HS2 := Lib.hid (show FoRel L (.slice y ps.length c) (.slice z ds.length e0) ps ds e (pre1 L ps ds q) (pre2 ds q) w.heap.size w.heap.size w u5 u6 (.int .i64 0) wr ∧ (∀ b, u5.ownBlock = some b → b ≠ ve) ∧ (∀ b, u6.ownBlock = some b → b ≠ ve) ∧ Blk wr ve #[.int .i64 (-1), .int .i64 1] 3 from
          ⟨⟨0, Nat.zero_le _, rfl, by rw [show selTo (toB ds e) (shd L ps ds) 0 = [] from rfl, List.append_nil]; exact HOW.out, by rw [show selTo (toB ds e) (endF e) 0 = [] from rfl, List.append_nil]; exact HO6.out, HAP.out, HBX.out, HB.out⟩, HN5.out, HN6.out, HVE.out⟩)
        have hq0 : 0 ≤ (q : Int) := by omega
        have hq3 : (q : Int) < 2 := by omega
        clear HOW HO6 HAP HN5 HN6 HBX HB HVE hee hve
        go_wp2_with fail
        go_loopw [5, 6, 27] (fun v5 v6 vi wr2 => FoRel L (.slice y ps.length c) (.slice z ds.length e0) ps ds e (pre1 L ps ds q) (pre2 ds q) w.heap.size w.heap.size w v5 v6 vi wr2 ∧ (∀ b, v5.ownBlock = some b → b ≠ ve) ∧ (∀ b, v6.ownBlock = some b → b ≠ ve) ∧ Blk wr2 ve #[.int .i64 (-1), .int .i64 1] 3) (fun _ _ i _ => ds.length - (intOf i).toNat)
        case atStart => exact HS2.out
        case round =>
          clear HS2 c2 hce
          obtain ⟨⟨k, hk, rfl, h5, h6, hap, hbx, hb⟩, hn5, hn6, hve⟩ := hrel
          have c0 := hbx.cell 0
          have c1 := hbx.cell 1
          have c2 := hbx.cell 2
          have HOW := Lib.hid h5
          have HO6 := Lib.hid h6
          have HAP := Lib.hid hap
          have HN5 := Lib.hid hn5
          have HN6 := Lib.hid hn6
          have HBX := Lib.hid hbx
          have HB := Lib.hid hb
          have HVE := Lib.hid hve
          have hl5 := fo_len (pre1 L ps ds q) (toB ds e) (shd L ps ds) k
          have hl6 := fo_len (pre2 ds q) (toB ds e) (endF e) k
          have hp5 := HPL.out.1
          have hp6 := HPL.out.2
          clear h5 h6 hap hn5 hn6 hbx hb hve
          by_cases hlt : k < ds.length
          · obtain ⟨d, hdk⟩ := get_some hlt
            obtain ⟨bd, od, e8, hbd, hcd⟩ := HD.out k d hdk
            cases e8
            have hcd1 := (HB.out.cell (p := ⟨bd, od + k, none⟩) hbd).trans hcd
            have HDK := Lib.hid hdk
            have hi0 : 0 ≤ (k : Int) := by omega
            have hi2 : (k : Int) < ds.length := by omega
            have hkp : k < ps.length := by have := HWO.out.same; omega
            clear hdk hcd
            by_cases hde : d = e
            · have HDE := Lib.hid hde
              have hd1 : (d == e) = true := by simp [hde]
              subst hde
              generalize hy5 : (pre1 L ps ds q ++ selTo (toB ds d) (shd L ps ds) k).map iv = y5 at *
              generalize hm5 : (pre1 L ps ds q ++ selTo (toB ds d) (shd L ps ds) k).length = m5 at *
              generalize hy6 : (pre2 ds q ++ selTo (toB ds d) (endF d) k).map iv = y6 at *
              generalize hm6 : (pre2 ds q ++ selTo (toB ds d) (endF d) k).length = m6 at *
              have HYS5 := Lib.hid hy5
              have HZL5 := Lib.hid hm5
              have HYS6 := Lib.hid hy6
              have HZL6 := Lib.hid hm6
              clear hy5 hm5 hy6 hm6
              go_wp2_with fail
              refine (HST.out k _ (HVW.out.below HB.out) (HUW.out.below HB.out) HWB.out hkp).mono ?_
              rintro e9 w3 ⟨rfl, hb3⟩
              replace HBX := Lib.hid (HBX.out.below hb3)
              replace HVE := Lib.hid (HVE.out.below hb3)
              replace HOW := Lib.hid (owns_below HOW.out hb3)
              replace HO6 := Lib.hid (owns_below HO6.out hb3)
              replace HB := Lib.hid (HB.out.trans (hb3.mono HB.out.size))
              have HSZ := Lib.hid HB.out.size
              have HVL := Lib.hid HVE.out.lt
              obtain ⟨sx, hsx⟩ : ∃ sx, shd L ps ds k = sx := ⟨_, rfl⟩
              have HX5 := Lib.hid hsx
              rw [hsx]
              clear hsx hb3 c0 c1 c2 hcd1
              go_wp2_with (at_builtin; refine wpList_append_lies _ rfl _ _ 22 rfl (w.heap.size) 3 i0 (.int .i64 0) 1 8 Try.underlying22 hi hz0 hz1 hz2 rfl (by decide) _ _ _ rfl (HOW.out.alloc _) ⟨w3.heap.size, 0, none⟩ 1 1 [.int .i64 (sx)] rfl rfl (cell_one_new _ _ _) ?c2 (by decide) ?c3 ?c4 ?c5 _ rfl ?_)
              case c2 => first | (intro u hu; simp at hu; subst hu; rfl) | rfl
              case c3 => unfold maxLen; omega
              case c4 => omega
              case c5 => have z0 := HSZ.out; simp; omega
              intro g9 c9 w9 hown' hgrow hlies hlt9
              have HBA := Lib.hid (below_new w3 (.cells #[.int .i64 (sx)] 3))
              have H6B := Lib.hid (fun b hb => (owns_block HO6.out b hb).2)
              have HO6 := Lib.hid (rkept (owns_below HO6.out HBA.out) hgrow (fun b e e2 => HAP.out b e2 e))
              have HBX := Lib.hid (bkept (HBX.out.below HBA.out) hgrow (fun e => row_type (owns_below HOW.out HBA.out) (HBX.out.below HBA.out) (by decide) _ e rfl))
              have HVE := Lib.hid (bkept (HVE.out.below HBA.out) hgrow (fun e => HN5.out _ e rfl))
              have HB := Lib.hid ((HB.out.trans (HBA.out.mono HB.out.size)).trans (below_grown hgrow (fun b hb => (owns_block HOW.out b hb).1) (by have := HSZ.out; simp; omega)))
              have HAP := Lib.hid (ap_left (n := m5 + 1) (c := c9) HAP.out hlies (fun b e => by have := H6B.out b e; omega))
              have HN5 := Lib.hid (ne_new (n := m5 + 1) (c := c9) HN5.out hlies (by have := HVL.out; omega))
              have HOW := Lib.hid hown'
              have HSZ := Lib.hid HB.out.size
              have HVL := Lib.hid HVE.out.lt
              clear hgrow hown' hlies hlt9 HBA H6B
              go_wp2_with (at_builtin; refine wpList_append_lies _ rfl _ _ 22 rfl (w.heap.size) 3 i0 (.int .i64 0) 1 8 Try.underlying22 hi hz0 hz1 hz2 rfl (by decide) _ _ _ rfl (HO6.out.alloc _) ⟨w9.heap.size, 0, none⟩ 1 1 [.int .i64 (d)] rfl rfl (cell_one_new _ _ _) ?c2 (by decide) ?c3 ?c4 ?c5 _ rfl ?_)
              case c2 => first | (intro u hu; simp at hu; subst hu; rfl) | rfl
              case c3 => unfold maxLen; omega
              case c4 => omega
              case c5 => have z0 := HSZ.out; simp; omega
              intro g9b c9b w9b hown'b hgrowb hliesb hlt9b
              have HBA := Lib.hid (below_new w9 (.cells #[.int .i64 (d)] 3))
              have H5B := Lib.hid (fun b hb => (owns_block HOW.out b hb).2)
              have HOW := Lib.hid (rkept (owns_below HOW.out HBA.out) hgrowb HAP.out)
              have HBX := Lib.hid (bkept (HBX.out.below HBA.out) hgrowb (fun e => row_type (owns_below HO6.out HBA.out) (HBX.out.below HBA.out) (by decide) _ e rfl))
              have HVE := Lib.hid (bkept (HVE.out.below HBA.out) hgrowb (fun e => HN6.out _ e rfl))
              have HB := Lib.hid ((HB.out.trans (HBA.out.mono HB.out.size)).trans (below_grown hgrowb (fun b hb => (owns_block HO6.out b hb).1) (by have := HSZ.out; simp; omega)))
              have HAP := Lib.hid (ap_right (n := m6 + 1) (c := c9b) HAP.out hliesb (fun b e => by have := H5B.out b e; omega))
              have HN6 := Lib.hid (ne_new (n := m6 + 1) (c := c9b) HN6.out hliesb (by have := HVL.out; omega))
              have HO6 := Lib.hid hown'b
              clear hgrowb hown'b hliesb hlt9b HBA H5B
              go_wp2_with fail
              go_roundw
              case rel => exact ⟨fo_yes HYS5.out HZL5.out HYS6.out HZL6.out HDK.out rfl HX5.out (by go_num) HOW.out HO6.out HAP.out HBX.out HB.out, HN5.out, HN6.out, HVE.out⟩
              case measure => simp [intOf] <;> omega
            · have HDE := Lib.hid hde
              have hd1 : (d == e) = false := by simp [hde]
              go_wp2_with fail
              go_roundw
              case rel => exact ⟨fo_no HDK.out HDE.out (by go_num) HOW.out HO6.out HAP.out HBX.out HB.out, HN5.out, HN6.out, HVE.out⟩
              case measure => simp [intOf] <;> omega
          · have hi2 : ¬ (k : Int) < ds.length := by omega
            have HKE := Lib.hid (show k = ds.length by omega)
            go_wp2_with fail
            go_roundw
            case rel =>
              have h5 := HOW.out
              have h6 := HO6.out
              rw [HKE.out, HPN.out.1] at h5
              rw [HKE.out, HPN.out.2] at h6
              exact ⟨q + 1, hq2, by go_num, h5, h6, HAP.out, HN5.out, HN6.out, HBX.out, HVE.out, HB.out⟩
            case measure => simp [intOf] <;> omega
      · have hq3 : ¬ (q : Int) < 2 := by omega
        have hqe : q = 2 := by omega
        have HQE := Lib.hid hqe
        clear hqe
        go_wp2_with fail
        go_ret3
        refine ll_R HR.out ⟨_, _, rfl, ⟨?_, ?_, HAP.out, fun b hb => (owns_block HOW.out b hb).2, fun b hb => (owns_block HO6.out b hb).2⟩, HB.out⟩
        · have h := HOW.out
          rw [HQE.out] at h
          exact h
        · have h := HO6.out
          rw [HQE.out] at h
          exact h
end Go.Proofs.Ythbmiigndhoopaa
