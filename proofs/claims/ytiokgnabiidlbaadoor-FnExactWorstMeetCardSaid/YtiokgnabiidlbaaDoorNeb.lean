/-
  What is proved: the contract of the program's search for the first meeting of walks. Conditions: walks of 61 places; the variable noMeeting is as it was laid.
-/
import Derived.Test.YtiokgnabiidlbaaDoorNea
import Derived.Test.YtiokgnabiidlbaaDoorBlk
import Derived.Deep.LoopGhost
namespace Go.Proofs.YtiokgnabiidlbaaDoor
open Go.RowKit
set_option linter.unusedVariables false
set_option linter.unusedSimpArgs false

/-- the variable noMeeting is as it was laid -/
def NM (w : World) : Prop := w.cell? ⟨0, 0, none⟩ = some (.int .i64 (-1)) ∧ w.cell? ⟨0, 1, none⟩ = some (.int .i64 (-1))
theorem NM.below {w w' : World} (h : NM w) (hb : Below w.heap.size w w') : NM w' :=
  ⟨(hb.cell (p := ⟨0, 0, none⟩) (World.block_lt_of_cell? _ _ h.1)).trans h.1, (hb.cell (p := ⟨0, 1, none⟩) (World.block_lt_of_cell? _ _ h.2)).trans h.2⟩
theorem NM.belowAt {w w' wr : World} (h : NM w) (hb : Below w.heap.size wr w') (hw : NM wr) : NM w' :=
  ⟨(hb.cell (p := ⟨0, 0, none⟩) (World.block_lt_of_cell? _ _ h.1)).trans hw.1, (hb.cell (p := ⟨0, 1, none⟩) (World.block_lt_of_cell? _ _ h.2)).trans hw.2⟩
theorem NM.lt {w : World} (h : NM w) : 0 < w.heap.size := World.block_lt_of_cell? w ⟨0, 0, none⟩ h.1
/-- the place of the meeting, or -1 -/
def meetP (wss : List (List Int)) : Int := if 0 ≤ meetT wss then (wss.getD 0 []).getD (meetT wss).toNat 0 else -1
theorem meetP_hit {wss : List (List Int)} {t : Nat} {ys : List Int} {y : Int} (h : meetT wss = t) (h0 : wss[0]? = some ys) (hy : ys[t]? = some y) : meetP wss = y := by
  unfold meetP
  rw [h, if_pos (by omega)]
  simp [List.getD, h0, hy]
theorem meetP_none {wss : List (List Int)} (h : meetT wss = -1) : meetP wss = -1 := by
  unfold meetP
  rw [h, if_neg (by omega)]
def FmRel (wss : List (List Int)) (q : Nat) (i : Value) : Prop := ∃ t : Nat, t + q = 61 ∧ i = .int .i64 t ∧ ∀ j, j < t → sameB wss j = false
def FmiRel (wss : List (List Int)) (t q : Nat) (i : Value) : Prop := ∃ k : Nat, k + q + 1 = wss.length ∧ i = .int .i64 k ∧ sameTo wss t (k + 1) = true
theorem no_next {wss : List (List Int)} {t : Nat} (h : sameB wss t = false) (hp : ∀ j, j < t → sameB wss j = false) : ∀ j, j < t + 1 → sameB wss j = false := fun j hj => by
  by_cases e : j = t
  · subst e
    exact h
  · exact hp j (by omega)
set_option maxHeartbeats 1600000 in
set_option maxRecDepth 20000 in
theorem firstMeeting_any (v : Value) (wss : List (List Int)) (w : World) (hv : ReadsL w v wss) (hne : 1 ≤ wss.length) (hw : ∀ (j : Nat) xs, wss[j]? = some xs → xs.length = 61) (hN : NM w) :
    Calls Tryd.prog 36 #[v] w fun e w' => e = .returned (.agg #[.int .i64 (meetT wss), .int .i64 (meetP wss)]) ∧ Below w.heap.size w w' := by
  have HV := Lib.hid (hv.below (below_new w (.cells #[.int .i64 0, .int .i64 0] 64)))
  have HW := Lib.hid hw
  have HN := Lib.hid (hN.below (below_new w (.cells #[.int .i64 0, .int .i64 0] 64)))
  have HB := Lib.hid (below_new w (.cells #[.int .i64 0, .int .i64 0] 64))
  have HBX := Lib.hid (blk_new w #[.int .i64 0, .int .i64 0] 64)
  obtain ⟨va, vc, rfl, hvc, hvm, _⟩ := hv
  unfold maxLen at hvm
  obtain ⟨ys, hys⟩ := get_some (xs := wss) (k := 0) (by omega)
  have HYS := Lib.hid hys
  have hyl := hw 0 ys hys
  have HYL := Lib.hid hyl
  obtain ⟨y0, hy0⟩ := get_some (xs := ys) (k := 0) (by omega)
  obtain ⟨b, o, b0, o0, c0, hva, hcb, hcl, _⟩ := walks_cell HV.out hys hy0
  subst hva
  rw [hyl] at hcb hcl
  clear hw hys hyl hN hy0
  have hi4 : (0 : Int) < (wss.length : Int) := by omega
  have hi5 : 0 < wss.length := by omega
  have hi6 : wss ≠ [] := fun h => by rw [h] at hi5; simp at hi5
  have hi7 : (1 : Int) ≤ (wss.length : Int) := by omega
  have hcb : (w.alloc (.cells #[.int .i64 0, .int .i64 0] 64)).cell? ⟨b, o, none⟩ = some (.slice (some ⟨b0, o0, none⟩) 61 c0) := hcb
  go_enter Tryd.func36, Tryd.ntmps36
  go_wp2_with fail
  go_step3
  go_wp2_with fail
  go_step3
  go_wp2_with fail
  have HCB := Lib.hid hcb
  clear hcb
  generalize hww : w.alloc (.cells #[.int .i64 0, .int .i64 0] 64) = w1 at *
  have HWW := Lib.hid hww
  clear hww
  go_loopg [11] 61 (fun q i wr => wr = w1 ∧ FmRel wss q i)
  case atStart => exact ⟨rfl, 0, rfl, rfl, fun j hj => by omega⟩
  case round =>
    obtain ⟨rfl, t, ht, rfl, hpre⟩ := hrel
    have HP := Lib.hid hpre
    clear hpre
    by_cases hlt : t < 61
    · obtain ⟨y, hy⟩ := get_some (xs := ys) (k := t) (by rw [HYL.out]; exact hlt)
      obtain ⟨b', o', b0', o0', c0', hva, hcb', _, hcy⟩ := walks_cell HV.out HYS.out hy
      cases hva
      have e1 := HCB.out.symm.trans hcb'
      simp only [Option.some.injEq, Value.slice.injEq, Addr.mk.injEq, and_true] at e1
      obtain ⟨⟨rfl, rfl⟩, hq61, rfl⟩ := e1
      clear hq61
      have HY := Lib.hid hy
      have ht0 : 0 ≤ (t : Int) := by omega
      have ht61 : (t : Int) < 61 := by omega
      clear hy hcb'
      by_cases hc1 : vc = 1
      · have hl1 : wss.length = 1 := by omega
        have HS := Lib.hid (show meetT wss = t from firstT_hit HP.out (by unfold sameB; rw [hl1]; exact sameTo_one HYS.out HY.out) hlt)
        have HZ := Lib.hid (meetP_hit HS.out HYS.out HY.out)
        subst hc1
        have HL1 := Lib.hid hl1
        clear hl1
        go_wp2_with fail
        go_loopg [19] 0 (fun q2 i wr2 => wr2 = wr ∧ FmiRel wss t q2 i)
        case atStart => exact ⟨rfl, 0, by rw [HL1.out], rfl, sameTo_one HYS.out HY.out⟩
        case round =>
          obtain ⟨hwr, k, hk, rfl, hsame⟩ := hrel
          rw [HL1.out] at hk
          obtain rfl : k = 0 := by omega
          subst hwr
          clear hsame hk
          have c0 := HBX.out.cell 0
          have c1 := HBX.out.cell 1
          have f0 := HBX.out.free 0
          have f1 := HBX.out.free 1
          go_wp2_with fail
          try rw [Exit.noGoto_ret]
          refine bodyPost_ret (v := .agg #[.int .i64 ((t : Int)), .int .i64 (y)]) (by simp [results, Tryd.results36, go_sem, c0, c1]) rfl ⟨by rw [HS.out, HZ.out], ?_⟩
          exact (HB.out.setCell (p := ⟨w.heap.size, 0, none⟩) (Nat.le_refl _) _).setCell (p := ⟨w.heap.size, 1, none⟩) (Nat.le_refl _) _
      · have hl9 : 0 ≤ (wss.length : Int) - 1 := by omega
        have HSV := Lib.hid (show sameTo wss t (0 + 1) = true from sameTo_one HYS.out HY.out)
        go_wp2_with fail
        go_loopg [19] (wss.length - 1) (fun q2 i wr2 => wr2 = wr ∧ FmiRel wss t q2 i)
        case atStart => exact ⟨rfl, 0, by omega, rfl, HSV.out⟩
        case round =>
          obtain ⟨hwr, k, hk, rfl, hsame⟩ := hrel
          subst hwr
          have HSM := Lib.hid hsame
          clear hsame
          by_cases hlt2 : k + 1 < wss.length
          · obtain ⟨xs, hxs⟩ := get_some hlt2
            have hxl := HW.out (k + 1) xs hxs
            obtain ⟨x, hx⟩ := get_some (xs := xs) (k := t) (by rw [hxl]; exact hlt)
            obtain ⟨b', o', b1, o1, c1', hva, hci, hcl1, hcx⟩ := walks_cell HV.out hxs hx
            cases hva
            rw [hxl] at hci hcl1
            rw [show o + (k + 1) = o + 1 + k by omega] at hci
            have HN2 := Lib.hid (sameTo_next hxs HYS.out hx HY.out)
            have hi8 : k < wss.length - 1 := by omega
            clear hxs hxl hx
            by_cases hxy : x = y
            · have HQ := Lib.hid (show sameTo wss t (k + 1 + 1) = true by rw [HN2.out, HSM.out, hxy]; simp)
              subst hxy
              go_wp2_with fail
              go_roundg (wss.length - 1 - (k + 1))
              case measure => omega
              case rel => exact ⟨rfl, k + 1, by omega, by go_num, HQ.out⟩
            · have HQ := Lib.hid (show sameB wss t = false from sameTo_all (by rw [HN2.out]; simp [hxy]) hlt2)
              have hb1 : (x == y) = false := by simp [hxy]
              have hb2 : (x != y) = true := by simp [hxy]
              go_wp2_with fail
              go_roundg (60 - t)
              case measure => omega
              case rel => exact ⟨rfl, t + 1, by omega, by go_num, no_next HQ.out HP.out⟩
          · have hl1 : wss.length = k + 1 := by omega
            have HS := Lib.hid (show meetT wss = t from firstT_hit HP.out (by unfold sameB; rw [hl1]; exact HSM.out) hlt)
            have HZ := Lib.hid (meetP_hit HS.out HYS.out HY.out)
            have hi8 : ¬ k < wss.length - 1 := by omega
            have c0 := HBX.out.cell 0
            have c1 := HBX.out.cell 1
            have f0 := HBX.out.free 0
            have f1 := HBX.out.free 1
            go_wp2_with fail
            try rw [Exit.noGoto_ret]
            refine bodyPost_ret (v := .agg #[.int .i64 ((t : Int)), .int .i64 (y)]) (by simp [results, Tryd.results36, go_sem, c0, c1]) rfl ⟨by rw [HS.out, HZ.out], ?_⟩
            exact (HB.out.setCell (p := ⟨w.heap.size, 0, none⟩) (Nat.le_refl _) _).setCell (p := ⟨w.heap.size, 1, none⟩) (Nat.le_refl _) _
    · have hte : t = 61 := by omega
      subst hte
      have HS := Lib.hid (show meetT wss = -1 from firstT_none HP.out)
      have HZ := Lib.hid (meetP_none HS.out)
      have hn0 := HN.out.1
      have hn1 := HN.out.2
      have c0 := HBX.out.cell 0
      have c1 := HBX.out.cell 1
      have f0 := HBX.out.free 0
      have f1 := HBX.out.free 1
      go_wp2_with fail
      try rw [Exit.noGoto_ret]
      refine bodyPost_ret (v := .agg #[.int .i64 (-1), .int .i64 (-1)]) (by simp [results, Tryd.results36, go_sem, c0, c1]) rfl ⟨by rw [HS.out, HZ.out], ?_⟩
      exact (HB.out.setCell (p := ⟨w.heap.size, 0, none⟩) (Nat.le_refl _) _).setCell (p := ⟨w.heap.size, 1, none⟩) (Nat.le_refl _) _
end Go.Proofs.YtiokgnabiidlbaaDoor
