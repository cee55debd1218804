/-
  What is proved: CarPlaces of the model. Conditions: those of each contract.
-/
import Derived.Test.YthbmiigndhoopaaLnx
namespace Go.Proofs.Ythbmiigndhoopaa
open Go.RowKit
set_option linter.unusedVariables false
set_option linter.unusedSimpArgs false

def CpA (xs : List Int) (base : Nat) (w : World) (vo vi : Value) (wr : World) : Prop :=
  ∃ k : Nat, k ≤ xs.length ∧ vi = .int .i64 k ∧ wr.ownsRow base 3 1 vo (carsTo xs k).length ((cas (carsTo xs k)).map iv) ∧ Below base w wr
def CpB (n : Nat) (S0 : List Nat) (T base : Nat) (w : World) (vo v vi : Value) (wr : World) : Prop :=
  ∃ (k : Nat) (S : List Nat), k ≤ T ∧ vi = .int .i64 k ∧ S = stpN n S0 k ∧ wr.ownsRow base 3 1 vo S.length ((cas S).map iv) ∧ wr.ownsRow base 3 1 v n ((lan n S).map iv) ∧ (∀ b, vo.ownBlock = some b → v.ownBlock = some b → False) ∧ Below base w wr
/-- the cars in the middle of a turn -/
def CpC (n : Nat) (S : List Nat) (base : Nat) (w : World) (vo v vi : Value) (wr : World) : Prop :=
  ∃ j : Nat, j ≤ S.length ∧ vi = .int .i64 j ∧ wr.ownsRow base 3 1 vo S.length ((cas (thenTo n S j)).map iv) ∧ wr.ownsRow base 3 1 v n ((lan n S).map iv) ∧ Below base w wr
theorem cpC_yes {n : Nat} {S : List Nat} {base g j q c : Nat} {w wr : World} {v vi : Value} (hj : S[j]? = some q) (hq : nx n q ∉ S) (hi : vi = .int .i64 ((j + 1 : Nat) : Int)) (ho : wr.ownsRow base 3 1 (.slice (some ⟨g, 0, none⟩) S.length c) S.length ((cas (thenTo n S j)).map iv)) (hl : wr.ownsRow base 3 1 v n ((lan n S).map iv)) (hne : ∀ b, v.ownBlock = some b → b ≠ g) (hb : Below base w wr) (hg : base ≤ g) :
    CpC n S base w (.slice (some ⟨g, 0, none⟩) S.length c) v vi (wr.setCell ⟨g, j, none⟩ (.int .i64 ((nx n q : Nat) : Int))) := by
  refine ⟨j + 1, (List.getElem?_eq_some_iff.1 hj).1, hi, ?_, roth hl _ hne, hb.setCell hg _⟩
  rw [thenTo_yes hj hq, cas_set]
  exact (ho.stored j _).1
theorem thenTo_at {n : Nat} {S : List Nat} {j q : Nat} (hj : S[j]? = some q) : (thenTo n S j)[j]? = some q := by
  obtain ⟨hl, e⟩ := List.getElem?_eq_some_iff.1 hj
  unfold thenTo
  have h : ((S.take j).map (mvC n S)).length = j := by rw [List.length_map, List.length_take]; omega
  rw [List.getElem?_append_right (by omega), h, Nat.sub_self, List.getElem?_drop, Nat.add_zero]
  exact hj
set_option maxHeartbeats 3200000 in
set_option maxRecDepth 20000 in
theorem spec_CarPlaces (v : Value) (xs : List Int) (t : Int) (w : World) (hv : ReadsI w v xs) :
    Calls Try.prog 35 #[v, .int .i64 t] w (OwnsB w.heap.size (placesR xs t).1 (placesR xs t).2 w) := by
  obtain ⟨i0, hi, hz0, hz1, hz2⟩ := info_parts infoInt
  have HW := Lib.hid (fun w hv => l8Turns_any v xs t w hv)
  have HT := Lib.hid (fun v l w hv h1 h2 => l8Turn_any v l w hv h1 h2)
  have HO := Lib.hid (fun w hv h1 h2 => own_any v xs w hv h1 h2)
  have HV := Lib.hid (hv.below (below_new w (.cells #[] 3)))
  have HV0 := Lib.hid hv
  obtain ⟨y, c, rfl, hc, hm, hx⟩ := hv
  have HL := Lib.hid hx
  unfold maxLen at hm
  clear hx
  have HM := Lib.hid (made_at w w.heap.size w.heap.size rfl (Nat.le_refl _))
  have HB := Lib.hid (below_new w (.cells #[] 3))
  go_enter Try.func35, Try.ntmps35
  go_wp2_with fail
  refine (HW.out _ HV.out).mono ?_
  rintro e w1 ⟨rfl, rfl⟩
  generalize hww : w.alloc (.cells #[] 3) = w1 at *
  clear hww
  cases hl : turnsB xs t
  · have HR := Lib.hid (show placesR xs t = ([], false) by unfold placesR drivenS; rw [hl]; rfl)
    clear hl
    go_wp2_with fail
    go_ret2
    exact owns_R HR.out ⟨_, rfl, HM.out, HB.out⟩
  · obtain ⟨hlb, h0, h6⟩ := (turnsB_iff xs t).1 hl
    obtain ⟨T, rfl⟩ : ∃ T : Nat, t = (T : Int) := ⟨t.toNat, by omega⟩
    obtain ⟨h3, h24, _⟩ := (laneB_iff xs).1 hlb
    have HR := Lib.hid (show placesR xs (T : Int) = (cas (stpN xs.length (carsOf xs) T), true) by unfold placesR drivenS; rw [hl]; rfl)
    have HC := Lib.hid (stpN_cars (n := xs.length) (by omega) (cars_of xs))
    have HE := Lib.hid (lan_cars hlb)
    have HS := Lib.hid (show CpA xs w.heap.size w (.slice (some ⟨w.heap.size, 0, none⟩) 0 0) (.int .i64 0) w1 from ⟨0, Nat.zero_le _, rfl, HM.out, HB.out⟩)
    clear hl hlb HM HB
    go_wp2_with fail
    go_loopw [6, 7] (fun vo vi wr => CpA xs w.heap.size w vo vi wr) (fun _ i _ => xs.length - (intOf i).toNat)
    case atStart => exact HS.out
    case round =>
      clear HS
      obtain ⟨k, hk, rfl, ho, hb⟩ := hrel
      have HOW := Lib.hid ho
      have HB := Lib.hid hb
      have hlen := carsTo_len xs k
      clear ho hb
      by_cases hlt : k < xs.length
      · obtain ⟨x, hxk⟩ := get_some hlt
        obtain ⟨b, o, rfl, hbl, hcell⟩ := HL.out k x hxk
        have hcr : wr.cell? ⟨b, o + k, none⟩ = some (.int .i64 x) := (HB.out.cell (p := ⟨b, o + k, none⟩) hbl).trans hcell
        have HXK := Lib.hid hxk
        have hi0 : 0 ≤ (k : Int) := by omega
        have hi1 : (k : Int) < xs.length := by omega
        clear hxk hcell
        by_cases hx1 : x = 1
        · have hx2 : (x == 1) = true := by simp [hx1]
          have HSZ := Lib.hid HB.out.size
          generalize hys : (cas (carsTo xs k)).map iv = ys at *
          generalize hzl : (carsTo xs k).length = m at *
          have HYS := Lib.hid hys
          have HZL := Lib.hid hzl
          have HOW := Lib.hid HOW.out
          clear hys hzl
          go_wp2_with (at_builtin; refine wpList_append_own _ rfl _ _ 22 rfl (w.heap.size) 3 i0 (.int .i64 0) 1 8 Try.underlying22 hi hz0 hz1 hz2 rfl (by decide) _ _ _ rfl (HOW.out.alloc _) ⟨wr.heap.size, 0, none⟩ 1 1 [.int .i64 (k)] rfl rfl (cell_one_new _ _ _) ?c2 ?c3 ?c4 ?c5 ?_)
          case c2 => intro u hu; simp at hu; subst hu; rfl
          case c3 => unfold maxLen; omega
          case c4 => omega
          case c5 => have z0 := HSZ.out; simp; omega
          intro v' w9 hown' hgrow _
          have HB := Lib.hid ((HB.out.trans ((below_new wr (.cells #[.int .i64 k] 3)).mono HB.out.size)).trans (below_grown hgrow (fun b hb => (owns_block HOW.out b hb).1) (by have := HSZ.out; simp; omega)))
          have HOW := Lib.hid hown'
          clear hgrow hown'
          go_wp2_with fail
          go_roundw
          case rel => exact ⟨k + 1, hlt, by go_num, by rw [carsTo_yes HXK.out hx1, cas_snoc, List.length_append, HYS.out, HZL.out]; exact HOW.out, HB.out⟩
          case measure => simp [intOf] <;> omega
        · have hx2 : (x == 1) = false := by simp [hx1]
          go_wp2_with fail
          go_roundw
          case rel => exact ⟨k + 1, hlt, by go_num, by rw [carsTo_no HXK.out hx1]; exact HOW.out, HB.out⟩
          case measure => simp [intOf] <;> omega
      · have hi1 : ¬ (k : Int) < xs.length := by omega
        have hke : k = xs.length := by omega
        have HO1 := Lib.hid (show wr.ownsRow w.heap.size 3 1 _ (carsOf xs).length ((cas (carsOf xs)).map iv) by unfold carsOf; rw [← hke]; exact HOW.out)
        clear HOW hke hlen
        go_wp2_with fail
        refine (HO.out _ (HV0.out.below HB.out) (by omega) (by omega)).mono ?_
        rintro e w2 ⟨v8, rfl, ho, hb⟩
        have HFHI := Lib.hid (fun b hb => owns_block HO1.out b hb)
        have H2LO := Lib.hid (fun b hb => owns_block ho b hb)
        have HS := Lib.hid (show CpB xs.length (carsOf xs) T w.heap.size w u6 v8 (.int .i64 0) w2 from ⟨0, _, Nat.zero_le _, rfl, rfl, owns_below HO1.out hb, by rw [show stpN xs.length (carsOf xs) 0 = carsOf xs from rfl, HE.out]; exact owns_lower ho HB.out.size, fun b e e2 => by have := HFHI.out b e; have := H2LO.out b e2; omega, HB.out.trans (hb.mono HB.out.size)⟩)
        clear ho hb HE HB HO1 HFHI H2LO HV HV0 HL
        go_wp2_with fail
        generalize hn : xs.length = n at *
        have HNN := Lib.hid hn
        clear hn
        go_loopw [8, 10] (fun v vi wr => CpB n (carsOf xs) T w.heap.size w u6 v vi wr) (fun _ i _ => T - (intOf i).toNat)
        case atStart => exact HS.out
        case round =>
          clear HS
          obtain ⟨k, S, hk, rfl, hS, ho, hl, hne, hb⟩ := hrel
          have HS := Lib.hid hS
          have HCS := Lib.hid (show Cars n S by rw [hS]; exact HC.out k)
          have HOW := Lib.hid ho
          have HLN := Lib.hid hl
          have HNE := Lib.hid hne
          have HB := Lib.hid hb
          have hSl := HCS.out.len
          clear hS ho hl hne hb
          by_cases hlt : k < T
          · have hi1 : (k : Int) < T := by omega
            obtain ⟨a6, c6, h6, ha6⟩ := owns_shape HOW.out
            have HA6 := Lib.hid ha6
            obtain ⟨a8, c8, h8, ha8⟩ := owns_shape HLN.out
            obtain ⟨g8, rfl, hg8, _⟩ := ha8 (by omega)
            clear ha6
            subst h6 h8
            have HST := Lib.hid (show CpC n S w.heap.size w (.slice a6 S.length c6) (.slice (some ⟨g8, 0, none⟩) n c8) (.int .i64 0) wr from ⟨0, Nat.zero_le _, rfl, by rw [show thenTo n S 0 = S by unfold thenTo; simp]; exact HOW.out, HLN.out, HB.out⟩)
            clear HOW HLN HB
            go_wp2_with fail
            go_loopw [11, 12] (fun vj _ wr2 => CpC n S w.heap.size w (.slice a6 S.length c6) (.slice (some ⟨g8, 0, none⟩) n c8) vj wr2) (fun i _ _ => S.length - (intOf i).toNat)
            case atStart => exact HST.out
            case round =>
              clear HST
              obtain ⟨j, hj, rfl, ho, hl, hb⟩ := hrel
              have HOW := Lib.hid ho
              have HLN := Lib.hid hl
              have HB := Lib.hid hb
              clear ho hl hb
              by_cases hlt2 : j < S.length
              · obtain ⟨q, hqj⟩ := get_some hlt2
                have hqn := HCS.out.2 q (List.mem_of_getElem? hqj)
                obtain ⟨g6, rfl, hg6, _⟩ := HA6.out (by omega)
                obtain ⟨_, e1, _, _, hcq, hfq⟩ := cellI HOW.out (cas_at (thenTo_at (n := n) hqj)) hlt2
                cases e1
                have hnq : nx n q < n := nx_lt (by omega)
                obtain ⟨_, e1, _, _, hcl, _⟩ := cellI HLN.out (lan_at hnq) hnq
                cases e1
                have hj0 : 0 ≤ (j : Int) := by omega
                have hj1 : (j : Int) < S.length := by omega
                have hj2 : ((nx n q : Nat) : Int) < n := by omega
                have htm := nx_tmod hqn
                have hnz : (n : Int) ≠ 0 := by omega
                have HQJ := Lib.hid hqj
                have HNG := Lib.hid (fun b (e : Value.ownBlock (.slice (some ⟨g8, 0, none⟩) n c8) = some b) => (show b ≠ g6 from fun e2 => by subst e2; exact HNE.out b rfl e))
                clear hqj
                generalize hnx : nx n q = nq at *
                have HNX := Lib.hid hnx
                clear hnx
                by_cases hin : nq ∈ S
                · rw [if_pos hin] at hcl
                  have HIN := Lib.hid hin
                  clear hin
                  go_wp2_with fail
                  go_roundw
                  case rel => exact ⟨j + 1, by omega, by go_num, by rw [thenTo_no HQJ.out (by rw [HNX.out]; exact HIN.out)]; exact HOW.out, HLN.out, HB.out⟩
                  case measure => simp [intOf] <;> omega
                · rw [if_neg hin] at hcl
                  have HIN := Lib.hid hin
                  clear hin
                  go_wp2_with fail
                  go_roundw
                  case rel =>
                    have h := cpC_yes (w := w) (vi := .int .i64 ((j : Int) + 1)) HQJ.out (by rw [HNX.out]; exact HIN.out) (by go_num) HOW.out HLN.out HNG.out HB.out hg6
                    rw [HNX.out] at h
                    exact h
                  case measure => simp [intOf] <;> omega
              · have hj1 : ¬ (j : Int) < S.length := by omega
                have hje : j = S.length := by omega
                have HO2 := Lib.hid (show wr.ownsRow w.heap.size 3 1 (.slice a6 S.length c6) S.length ((cas (stp n S)).map iv) by have h := HOW.out; rw [hje, thenTo_all] at h; exact h)
                clear HOW
                go_wp2_with fail
                refine (HT.out _ (lan n S) _ (owns_reads (by rw [lan_len]; exact HLN.out) (by rw [lan_len]; unfold maxLen; omega)) (by rw [lan_len]; omega) (by rw [lan_len]; omega)).mono ?_
                rw [(model_turn (show 2 ≤ n by omega) HCS.out).1, (model_turn (show 2 ≤ n by omega) HCS.out).2]
                rintro e w4 ⟨v9, rfl, ho, hb⟩
                rw [lan_len] at ho
                have HFHI := Lib.hid (fun b hb => owns_block HO2.out b hb)
                have H2LO := Lib.hid (fun b hb => owns_block ho b hb)
                have HO2 := Lib.hid (owns_below HO2.out hb)
                have HL2 := Lib.hid (owns_lower ho HB.out.size)
                have HB := Lib.hid (HB.out.trans (hb.mono HB.out.size))
                clear ho hb HLN
                go_wp2_with fail
                go_roundw
                case rel => exact ⟨k + 1, stp n S, hlt, by go_num, by rw [HS.out]; rfl, by rw [stp_len]; exact HO2.out, HL2.out, fun b e e2 => by have := HFHI.out b e; have := H2LO.out b e2; omega, HB.out⟩
                case measure => simp [intOf] <;> omega
          · have hi1 : ¬ (k : Int) < T := by omega
            have HKE := Lib.hid (show k = T by omega)
            go_wp2_with fail
            go_ret2
            refine owns_R HR.out ⟨_, rfl, ?_, HB.out⟩
            rw [← HKE.out, ← HS.out, cas_len]
            exact HOW.out
end Go.Proofs.Ythbmiigndhoopaa
