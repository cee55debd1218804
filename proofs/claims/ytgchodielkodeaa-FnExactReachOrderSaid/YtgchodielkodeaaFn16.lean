/-
  What is proved: impl.TourTime and the model's answer alike. Conditions: a slice that reads as a list of numbers.
-/
import Derived.Test.YtgchodielkodeaaFn15
namespace Go.Proofs.Ytgchodielkodeaa
open Go.RowKit
set_option linter.unusedVariables false
set_option linter.unusedSimpArgs false

theorem tour_ok_iff (n : Int) (g : Bool) (a : Int) (ps : List Int) : tourOk n g a ps ↔ placeB n g a = true ∧ (roadB n g = true ∧ Inside n ps) := by
  rw [placeB_iff]
  unfold tourOk
  constructor
  · intro h; exact ⟨⟨h.1, h.2.1⟩, h.1, h.2.2⟩
  · intro h; exact ⟨h.1.1, h.1.2, h.2.2⟩
theorem l2Tour_any (l r : Int) (w : World) (hl : 0 ≤ l ∧ l ≤ 100) (hr : 0 ≤ r ∧ r ≤ 100) :
    Calls Try.prog 160 #[.int .i64 l, .int .i64 r] w fun e w' => e = .returned (.int .i64 (tourI l r)) ∧ w = w' := by
  have hle := fun w => l1Least_any l r w
  go_enter Try.func160, Try.ntmps160
  go_wp2_with (go_at_call 112; refine (hle _).mono ?_; rintro e w' ⟨rfl, rfl⟩)
  go_ret
  exact ⟨rfl, rfl⟩
theorem l2Far_any (n : Int) (g : Bool) (a p : Int) (w : World) (hn : 2 ≤ n ∧ n ≤ 24) (ha : 0 ≤ a ∧ a < n) (hp : 0 ≤ p ∧ p < n) :
    Calls Try.prog 159 #[rd n g, .int .i64 a, .int .i64 p] w fun e w' => e = .returned (.int .i64 (riseI n true a p)) ∧ Below w.heap.size w w' := by
  have hnz : n ≠ 0 := by omega
  have hsum : 0 ≤ p - a + n := by omega
  unfold rd at *
  go_enter Try.func159, Try.ntmps159
  go_wp2
  go_ret
  exact ⟨ret_int (by simp [riseI]), below_new w _⟩
set_option maxHeartbeats 3200000 in
set_option maxRecDepth 20000 in
theorem spec_TourTime (n : Int) (g : Bool) (a : Int) (v : Value) (ps : List Int) (w : World) (hv : ReadsI w v ps) :
    Calls Try.prog 156 #[rd n g, .int .i64 a, v] w fun e w' => e = .returned (.tuple #[.int .i64 (tourR n g a ps).1, .bool (tourR n g a ps).2]) ∧ Below w.heap.size w w' := by
  have HP := Lib.hid (fun p w => l2Place_any n g p w)
  have HTO := Lib.hid (fun l r w hl hr => l2Tour_any l r w hl hr)
  have HFA := Lib.hid (fun g p w hn ha hp => l2Far_any n g a p w hn ha hp)
  have HMO := Lib.hid (fun a b w => l1Most_any a b w)
  have HLE := Lib.hid (fun a b w => l1Least_any a b w)
  have HX0 := Lib.hid (Boxed.first w n g 28)
  have HV := Lib.hid hv
  obtain ⟨y, c, hvv, hc, hm, hx⟩ := hv
  subst hvv
  unfold maxLen at hm
  have HL := Lib.hid hx
  clear hx
  unfold rd at *
  go_enter Try.func156, Try.ntmps156
  go_wp2_with fail
  refine (HP.out a _).mono ?_
  rintro e w1 ⟨rfl, hb⟩
  have HX := Lib.hid (HX0.out.next hb)
  have h0 := HX.out.c0
  have h1 := HX.out.c1
  clear hb HX0
  cases hpa : placeB n g a
  · have HR := Lib.hid (tourR_no (ps := ps) (fun h => absurd (((tour_ok_iff n g a ps).1 h).1.symm.trans hpa) (by simp)))
    clear hpa
    go_wp2_with fail
    go_ret2
    exact ⟨ret_R HR.out, HX.out.below⟩
  · have HPA := Lib.hid hpa
    have hp2 := (placeB_iff n g a).1 hpa
    have hrr := (roadB_iff n g).1 hp2.1
    have hn1 := hrr.1
    have hn2 := hrr.2.1
    have ha := hp2.2
    have HRO := Lib.hid hp2.1
    clear hpa hp2 hrr
    go_wp2_with fail
    go_loopw [6, 7, 8] (fun r s i wr => r = .int .i64 0 ∧ s = .bool false ∧ ∃ k : Nat, k ≤ ps.length ∧ i = .int .i64 k ∧ Boxed w.heap.size n g w wr ∧ ∀ (j : Nat) p, j < k → ps[j]? = some p → 0 ≤ p ∧ p < n) (fun _ _ i _ => ps.length - (intOf i).toNat)
    case atStart => exact ⟨rfl, rfl, 0, Nat.zero_le _, rfl, HX.out, fun j p hj => by omega⟩
    case round =>
      obtain ⟨rfl, rfl, k, hk, rfl, hx, hpre⟩ := hrel
      clear HX h0 h1
      have HX := Lib.hid hx
      have HPR := Lib.hid hpre
      clear hx hpre
      by_cases hlt : k < ps.length
      · obtain ⟨p, hpk⟩ := get_some hlt
        obtain ⟨b, o, rfl, hbl, hcx0⟩ := HL.out k p hpk
        have hcx : wr.cell? ⟨b, o + k, none⟩ = some (.int .i64 p) := (HX.out.below.cell (p := ⟨b, o + k, none⟩) hbl).trans hcx0
        have HPK := Lib.hid hpk
        have hi0 : 0 ≤ (k : Int) := by omega
        have hi1 : (k : Int) < ps.length := by omega
        clear hcx0 hpk
        have HPP := Lib.hid (HP.out p)
        go_wp2_with fail
        go_region_held3 (fun w' => Boxed w.heap.size n g w w' ∧ w'.cell? ⟨w.heap.size, 0, none⟩ = some (.int .i64 n) ∧ w'.cell? ⟨w.heap.size, 1, none⟩ = some (.bool g) ∧ w'.cell? ⟨b, o + k, none⟩ = some (.int .i64 p) ∧ w'.cell? ⟨b, o + k, none⟩ = some (.int .i64 p)) (first | exact hS | exact keep4_new HX.out hcx hcx) (first | (go_at_call 70; refine (HPP.out _).mono ?_; rintro e w2 ⟨rfl, hb⟩; have hS : Keep4 w.heap.size n g b (o + k) (o + k) (.int .i64 p) (.int .i64 p) w w2 := keep4 (by assumption) hbl hb; clear hb))
        have HX2 := Lib.hid hS.1
        clear hS hcx HX
        cases hpb : placeB n g p
        · have HR := Lib.hid (tourR_no (a := a) (ps := ps) (fun h => absurd (((placeB_iff n g p).2 ⟨h.1, h.2.2 k p HPK.out⟩).symm.trans hpb) (by simp)))
          clear hpb
          go_wp2_with fail
          go_ret2
          exact ⟨ret_R HR.out, HX2.out.below⟩
        · have HPB := Lib.hid ((placeB_iff n g p).1 hpb).2
          clear hpb
          go_wp2_with fail
          go_roundw
          case rel =>
            refine ⟨rfl, rfl, k + 1, hlt, by go_num, HX2.out, fun j q hj hq => ?_⟩
            rcases Nat.lt_succ_iff_lt_or_eq.1 hj with hj | rfl
            · exact HPR.out j q hj hq
            · have e := HPK.out.symm.trans hq
              cases e
              exact HPB.out
          case measure => simp [intOf] <;> omega
      · have HIN : Hid (Inside n ps) := Lib.hid (fun j p hj => HPR.out j p (by have := (List.getElem?_eq_some_iff.1 hj).1; omega) hj)
        have HOK : Hid (tourOk n g a ps) := Lib.hid ⟨HRO.out, ha, HIN.out⟩
        have h0 := HX.out.c0
        have h1 := HX.out.c1
        cases g
        · have HR := Lib.hid (tourR_line HOK.out)
          have HLR := Lib.hid (fun k hk => line_range HOK.out.2.1 HOK.out.2.2 k hk)
          clear h0 HPR
          go_wp2_with fail
          go_loop [9, 10, 11] (fun l r i => ∃ k : Nat, k ≤ ps.length ∧ i = .int .i64 k ∧ l = .int .i64 (topF (fun p => a - p) ps k) ∧ r = .int .i64 (topF (fun p => p - a) ps k)) (fun _ _ i => ps.length - (intOf i).toNat)
          case atStart => exact ⟨0, Nat.zero_le _, rfl, rfl, rfl⟩
          case round =>
            obtain ⟨k, hk, rfl, rfl, rfl⟩ := hrel
            have hlr := HLR.out k hk
            by_cases hlt : k < ps.length
            · obtain ⟨p, hpk⟩ := get_some hlt
              obtain ⟨b, o, rfl, hbl, hcx0⟩ := HL.out k p hpk
              have hpin := HOK.out.2.2 k p hpk
              have hcx : wr.cell? ⟨b, o + k, none⟩ = some (.int .i64 p) := (HX.out.below.cell (p := ⟨b, o + k, none⟩) hbl).trans hcx0
              have HN1 := Lib.hid (topF_next (f := fun p => a - p) hpk)
              have HN2 := Lib.hid (topF_next (f := fun p => p - a) hpk)
              clear hcx0 hpk
              generalize topF (fun p => a - p) ps k = l at *
              generalize topF (fun p => p - a) ps k = r at *
              go_wp2_with fail
              refine (HMO.out _ _ _).mono ?_
              rintro e w3 ⟨rfl, rfl⟩
              go_wp2_with fail
              refine (HMO.out _ _ _).mono ?_
              rintro e w3 ⟨rfl, rfl⟩
              go_wp2_with fail
              go_round
              case rel => exact ⟨k + 1, hlt, by go_num, by rw [HN1.out], by rw [HN2.out]⟩
              case measure => simp [intOf] <;> omega
            · have HE := Lib.hid (show k = ps.length by omega)
              go_wp2_with fail
              refine (HTO.out _ _ _ (by omega) (by omega)).mono ?_
              rintro e w3 ⟨rfl, rfl⟩
              go_wp2_with fail
              go_ret2
              exact ⟨ret_R (HR.out.trans (by rw [HE.out])), HX.out.below⟩
        · have HR := Lib.hid (tourR_ring HOK.out)
          have HBR := Lib.hid (fun k => best_range (z := n) (by omega) HOK.out.2.1 HOK.out.2.2 k)
          clear HPR
          go_wp2_with fail
          go_loopw [12, 13] (fun m i wr => ∃ k : Nat, (k : Int) ≤ n ∧ i = .int .i64 k ∧ m = .int .i64 (bestTo n n a ps k) ∧ Boxed w.heap.size n true w wr) (fun _ i _ => n.toNat - (intOf i).toNat)
          case atStart => exact ⟨0, by omega, rfl, rfl, HX.out⟩
          case round =>
            obtain ⟨u, hu, rfl, rfl, hx⟩ := hrel
            clear HX h0 h1
            have HX := Lib.hid hx
            have hbr := HBR.out u
            have h0 := HX.out.c0
            clear hx
            by_cases hlt : (u : Int) < n
            · have HNX := Lib.hid (show bestTo n n a ps (u + 1) = min (bestTo n n a ps u) (tourI (beyond n a ps u ps.length) u) from rfl)
              have hby := beyond_range (up := (u : Int)) ha HOK.out.2.2 ps.length (Nat.le_refl _)
              generalize bestTo n n a ps u = m at *
              go_wp2_with fail
              go_loopw [14, 15] (fun d i wr => ∃ k : Nat, k ≤ ps.length ∧ i = .int .i64 k ∧ d = .int .i64 (beyond n a ps u k) ∧ Boxed w.heap.size n true w wr) (fun _ i _ => ps.length - (intOf i).toNat)
              case atStart => exact ⟨0, Nat.zero_le _, rfl, rfl, HX.out⟩
              case round =>
                obtain ⟨k, hk, rfl, rfl, hx⟩ := hrel
                clear HX h0
                have HX := Lib.hid hx
                have hbk := beyond_range (up := (u : Int)) ha HOK.out.2.2 k hk
                clear hx
                by_cases hlt2 : k < ps.length
                · obtain ⟨p, hpk⟩ := get_some hlt2
                  obtain ⟨b, o, rfl, hbl, hcx0⟩ := HL.out k p hpk
                  have hpin := HOK.out.2.2 k p hpk
                  have hcx : wr.cell? ⟨b, o + k, none⟩ = some (.int .i64 p) := (HX.out.below.cell (p := ⟨b, o + k, none⟩) hbl).trans hcx0
                  have hnx : beyond n a ps u (k + 1) = max (beyond n a ps u k) (farF n a u p) := topF_next hpk
                  have HNK := Lib.hid hnx
                  have hr1 := rise_range ha hpin
                  have HC1 := Lib.hid (HFA.out true p · ⟨hn1, hn2⟩ ha hpin)
                  have HFF := Lib.hid (show farF n a u p = if (u : Int) < riseI n true a p then riseI n true p a else 0 from rfl)
                  have HBK := Lib.hid (fun h => rise_back ha hpin h)
                  have hi0 : 0 ≤ (k : Int) := by omega
                  have hi1 : (k : Int) < ps.length := by omega
                  clear hcx0 hpk hnx
                  generalize beyond n a ps u k = d at *
                  go_wp2_with fail
                  go_region_held3 (fun w' => Boxed w.heap.size n true w w' ∧ w'.cell? ⟨w.heap.size, 0, none⟩ = some (.int .i64 n) ∧ w'.cell? ⟨w.heap.size, 1, none⟩ = some (.bool true) ∧ w'.cell? ⟨b, o + k, none⟩ = some (.int .i64 p) ∧ w'.cell? ⟨b, o + k, none⟩ = some (.int .i64 p)) (first | exact hS | exact keep4_new HX.out hcx hcx) (first | (go_at_call 159; refine (HC1.out _).mono ?_; rintro e w2 ⟨rfl, hb⟩; have hS : Keep4 w.heap.size n true b (o + k) (o + k) (.int .i64 p) (.int .i64 p) w w2 := keep4 (by assumption) hbl hb; clear hb))
                  have HX2 := Lib.hid hS.1
                  have h0 := HX2.out.c0
                  clear hS hcx HX
                  generalize riseI n true a p = f at *
                  generalize riseI n true p a = q at *
                  by_cases hf : (u : Int) < f
                  · have HF2 : Hid (farF n a u p = n - f) := Lib.hid ((HFF.out.trans (if_pos hf)).trans (HBK.out (by omega)))
                    go_wp2_with fail
                    refine (HMO.out _ _ _).mono ?_
                    rintro e w3 ⟨rfl, rfl⟩
                    go_wp2_with fail
                    go_roundw
                    case rel => exact ⟨k + 1, hlt2, by go_num, by rw [HNK.out, HF2.out], HX2.out⟩
                    case measure => simp [intOf] <;> omega
                  · have HF2 : Hid (farF n a u p = 0) := Lib.hid (HFF.out.trans (if_neg hf))
                    go_wp2_with fail
                    go_roundw
                    case rel => exact ⟨k + 1, hlt2, by go_num, by rw [HNK.out, HF2.out]; congr 1; omega, HX2.out⟩
                    case measure => simp [intOf] <;> omega
                · have hE : k = ps.length := by omega
                  subst hE
                  go_wp2_with fail
                  refine (HTO.out _ _ _ (by omega) (by omega)).mono ?_
                  rintro e w3 ⟨rfl, rfl⟩
                  go_wp2_with fail
                  refine (HLE.out _ _ _).mono ?_
                  rintro e w3 ⟨rfl, rfl⟩
                  go_wp2_with fail
                  go_roundw
                  case rel => exact ⟨u + 1, by omega, by go_num, by rw [HNX.out], HX.out⟩
                  case measure => simp [intOf] <;> omega
            · have HE := Lib.hid (show u = n.toNat by omega)
              go_wp2_with fail
              go_ret2
              exact ⟨ret_R (HR.out.trans (by rw [HE.out, best_eq (N := n.toNat) (by omega) hn1 ha HOK.out.2.2])), HX.out.below⟩
end Go.Proofs.Ytgchodielkodeaa
