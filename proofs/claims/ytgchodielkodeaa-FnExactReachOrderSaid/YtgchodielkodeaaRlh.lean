/-
  What is proved: orders of carriers and their reach, and OrderReach, of the model and of the program. Conditions: lists that read as carriers and as numbers.
-/
import Derived.Test.YtgchodielkodeaaRlf
import Derived.Test.YtgchodielkodeaaRlg
import Derived.Test.YtgchodielkodeaaRlc
import Derived.Test.YtgchodielkodeaaHas
import Derived.Test.YtgchodielkodeaaBlk
import Derived.Test.YtgchodielkodeaaFn1
import Derived.Test.YtgchodielkodeaaFn9
namespace Go.Proofs.Ytgchodielkodeaa
open Go.RowKit
set_option linter.unusedVariables false
set_option linter.unusedSimpArgs false

/-- the value of an errand -/
abbrev erV (n : Int) (g : Bool) (v : Value) (a b : Int) : Value := .agg #[.int .i64 n, .bool g, v, .int .i64 a, .int .i64 b]
abbrev erC (n : Int) (g : Bool) (v : Value) (a b : Int) : Array Value := #[.int .i64 n, .bool g, v, .int .i64 a, .int .i64 b]
theorem reads_take {w : World} {a : Option Addr} {l c : Nat} {xs : List Int} (h : ReadsI w (.slice a l c) xs) {k : Nat} (hk : k ≤ xs.length) : ReadsI w (.slice a k c) (xs.take k) := by
  obtain ⟨a', c', e, hc, hm, hx⟩ := h
  cases e
  have hl : (xs.take k).length = k := by rw [List.length_take]; omega
  refine ⟨_, _, by rw [hl], by omega, by omega, fun j x hj => ?_⟩
  have hjk : j < k := by have := (List.getElem?_eq_some_iff.1 hj).1; omega
  exact hx j x (by rw [List.getElem?_take, if_pos hjk] at hj; exact hj)
theorem int_nat {x : Int} (h : 0 ≤ x) : ∃ j : Nat, x = (j : Int) := ⟨x.toNat, by omega⟩
def OrdRel (m : Nat) (os : List Int) (w : World) (r i : Value) (wr : World) : Prop := r = .bool false ∧ Below w.heap.size w wr ∧ ∃ k : Nat, k ≤ os.length ∧ i = .int .i64 k ∧ ordK m os k
set_option maxHeartbeats 1600000 in
set_option maxRecDepth 20000 in
theorem l7Order_any (m : Nat) (v : Value) (os : List Int) (w : World) (hv : ReadsI w v os) (hm6 : m ≤ 1048576) :
    Calls Try.prog 74 #[.int .i64 m, v] w fun e w' => e = .returned (.bool (ordC m os)) ∧ Below w.heap.size w w' := by
  have HI := Lib.hid (fun x w => inB_any x 0 ((m : Int) - 1) w)
  have HV := Lib.hid hv
  have HH := Lib.hid (fun v xs p w hv => l1Has_any v xs p w hv)
  obtain ⟨y, c, hvv, hc, hmm, hx⟩ := hv
  subst hvv
  unfold maxLen at hmm
  have HL := Lib.hid hx
  have hwm : IntKind.i64.wrap ((m : Int) - 1) = (m : Int) - 1 := IntWalk.i64_in _ (by omega)
  clear hx
  go_enter Try.func74, Try.ntmps74
  go_wp2_with fail
  go_loopw [4, 5] (fun r i wr => OrdRel m os w r i wr) (fun _ i _ => os.length - (intOf i).toNat)
  case atStart => exact ⟨rfl, Below.refl _ _, 0, Nat.zero_le _, rfl, ordK_zero m os⟩
  case round =>
    obtain ⟨rfl, hb, k, hk, rfl, hok⟩ := hrel
    have HB := Lib.hid hb
    have HOK := Lib.hid hok
    clear hb hok
    by_cases hlt : k < os.length
    · obtain ⟨x, hxk⟩ := get_some hlt
      obtain ⟨b, o, rfl, hbl, hcell⟩ := HL.out k x hxk
      have HK := Lib.hid hxk
      have HC := Lib.hid hcell
      have HT := Lib.hid (reads_take HV.out hk)
      have hi0 : 0 ≤ (k : Int) := by omega
      have hi1 : (k : Int) < os.length := by omega
      have hkc : (k : Int) ≤ c := by omega
      clear hxk hcell
      by_cases hin : 0 ≤ x ∧ x ≤ (m : Int) - 1
      · have HBI := Lib.hid ((inB_iff 0 ((m : Int) - 1) x).2 hin)
        have HIN := Lib.hid hin
        clear hin
        go_wp2_with fail
        refine wp_region_noPanic ?_
        have HB := Lib.hid (HB.out.trans ((below_drewN _ 1).mono HB.out.size))
        refine wp_region_held_drew (S := fun w' => Below w.heap.size w w' ∧ w'.cell? ⟨b, o + k, none⟩ = some (.int .i64 x)) (by kernel_rfl) (⟨HB.out, (HB.out.cell (p := ⟨b, o + k, none⟩) hbl).trans HC.out⟩) (fun hHeld => ?_)
        refine wpAnyH_take (i := 0) (oi := _) (v := ?_) rfl (by kernel_rfl) (by kernel_rfl) (by kernel_rfl) (fun _ _ _ h => h) (Or.inl ⟨by rfl, ?_⟩) (by assumption) ?_
        rotate_left
        · (intro w hSw; (try dsimp only at hSw); (first | (go_simp; done) | (go_simp; with_reducible rfl)))
        simp only [Act.put, List.getElem_toArray, List.getElem_cons_succ, List.getElem_cons_zero, List.setIfInBounds_toArray, List.set_cons_zero, List.set_cons_succ]
        refine wpAnyH_take (i := 1) (oi := _) (v := ?_) rfl (by kernel_rfl) (by kernel_rfl) (by kernel_rfl) (fun _ _ _ h => h) (Or.inl ⟨by rfl, ?_⟩) (by assumption) ?_
        rotate_left
        · (intro w hSw; (try dsimp only at hSw); (first | (go_simp; done) | (go_simp; with_reducible rfl)))
        simp only [Act.put, List.getElem_toArray, List.getElem_cons_succ, List.getElem_cons_zero, List.setIfInBounds_toArray, List.set_cons_zero, List.set_cons_succ]
        refine wpAnyH_take (i := 2) (oi := _) (v := ?_) rfl (by kernel_rfl) (by kernel_rfl) (by kernel_rfl) (fun _ _ _ h => h) (Or.inl ⟨by rfl, ?_⟩) (by assumption) ?_
        rotate_left
        · (intro w hSw; (try dsimp only at hSw); (first | (go_simp; done) | (go_simp; with_reducible rfl)))
        simp only [Act.put, List.getElem_toArray, List.getElem_cons_succ, List.getElem_cons_zero, List.setIfInBounds_toArray, List.set_cons_zero, List.set_cons_succ]
        refine wpAnyH_take (i := 3) (oi := _) (v := ?_) rfl (by kernel_rfl) (by kernel_rfl) (by kernel_rfl) (fun _ _ _ h => h) (Or.inl ⟨by rfl, ?_⟩) (by assumption) ?_
        rotate_left
        · (intro w hSw; (try dsimp only at hSw); (first | (go_simp; done) | (go_simp; with_reducible rfl)))
        simp only [Act.put, List.getElem_toArray, List.getElem_cons_succ, List.getElem_cons_zero, List.setIfInBounds_toArray, List.set_cons_zero, List.set_cons_succ]
        refine wpAnyH_take (i := 4) (oi := _) (v := ?_) rfl (by kernel_rfl) (by kernel_rfl) (by kernel_rfl) (fun _ _ _ h => h) (Or.inl ⟨by rfl, ?_⟩) (by assumption) ?_
        rotate_left
        · (intro w hSw; (try dsimp only at hSw); (first | (go_simp; done) | (go_simp; with_reducible rfl)))
        simp only [Act.put, List.getElem_toArray, List.getElem_cons_succ, List.getElem_cons_zero, List.setIfInBounds_toArray, List.set_cons_zero, List.set_cons_succ]
        refine wpAnyH_take (i := 5) (oi := _) (v := ?_) rfl (by kernel_rfl) (by kernel_rfl) (by kernel_rfl) (fun _ _ _ h => h) (Or.inl ⟨by rfl, ?_⟩) (by assumption) ?_
        rotate_left
        · (intro w hSw; (try dsimp only at hSw); (first | (go_simp; done) | (go_simp; with_reducible rfl)))
        simp only [Act.put, List.getElem_toArray, List.getElem_cons_succ, List.getElem_cons_zero, List.setIfInBounds_toArray, List.set_cons_zero, List.set_cons_succ]
        refine wpAnyH_ready (rs := [6]) (by kernel_rfl) (by simp) ?_
        refine AllReadyH.cons rfl (fun K hK => ?_) AllReadyH.nil
        go_simp
        refine (HI.out _ _).mono ?_
        rw [HBI.out]
        rintro e w21 ⟨rfl, rfl⟩
        clear hHeld
        try go_wp2_with fail
        refine hK.out _ _ (⟨HB.out, (HB.out.cell (p := ⟨b, o + k, none⟩) hbl).trans HC.out⟩) (fun hHeld => ?_)
        clear hK K
        refine wpAnyH_take (i := 7) (oi := _) (v := ?_) rfl (by kernel_rfl) (by kernel_rfl) (by kernel_rfl) (fun _ _ _ h => h) (Or.inl ⟨by rfl, ?_⟩) (by assumption) ?_
        rotate_left
        · (intro w hSw; (try dsimp only at hSw); (first | (go_simp; done) | (go_simp; with_reducible rfl)))
        simp only [Act.put, List.getElem_toArray, List.getElem_cons_succ, List.getElem_cons_zero, List.setIfInBounds_toArray, List.set_cons_zero, List.set_cons_succ]
        refine wpAnyH_take (i := 8) (oi := _) (v := ?_) rfl (by kernel_rfl) (by kernel_rfl) (by kernel_rfl) (fun _ _ _ h => h) (Or.inl ⟨by rfl, ?_⟩) (by assumption) ?_
        rotate_left
        · (intro w hSw; (try dsimp only at hSw); (first | (go_simp; done) | (go_simp; with_reducible rfl)))
        simp only [Act.put, List.getElem_toArray, List.getElem_cons_succ, List.getElem_cons_zero, List.setIfInBounds_toArray, List.set_cons_zero, List.set_cons_succ]
        refine wpAnyH_take (i := 9) (oi := _) (v := ?_) rfl (by kernel_rfl) (by kernel_rfl) (by kernel_rfl) (fun _ _ _ h => h) (Or.inl ⟨by rfl, ?_⟩) (by assumption) ?_
        rotate_left
        · (intro w hSw; (try dsimp only at hSw); (first | (go_simp; done) | (go_simp; with_reducible rfl)))
        simp only [Act.put, List.getElem_toArray, List.getElem_cons_succ, List.getElem_cons_zero, List.setIfInBounds_toArray, List.set_cons_zero, List.set_cons_succ]
        refine wpAnyH_take (i := 10) (oi := _) (v := ?_) rfl (by kernel_rfl) (by kernel_rfl) (by kernel_rfl) (fun _ _ _ h => h) (Or.inl ⟨by rfl, ?_⟩) (by assumption) ?_
        rotate_left
        · (intro w hSw; (try dsimp only at hSw); (first | (go_simp; done) | (go_simp; with_reducible rfl)))
        simp only [Act.put, List.getElem_toArray, List.getElem_cons_succ, List.getElem_cons_zero, List.setIfInBounds_toArray, List.set_cons_zero, List.set_cons_succ]
        refine wpAnyH_take (i := 11) (oi := _) (v := ?_) rfl (by kernel_rfl) (by kernel_rfl) (by kernel_rfl) (fun _ _ _ h => h) (Or.inl ⟨by rfl, ?_⟩) (by assumption) ?_
        rotate_left
        · (intro w hSw; (try dsimp only at hSw); (first | (go_simp; done) | (go_simp; with_reducible rfl)))
        simp only [Act.put, List.getElem_toArray, List.getElem_cons_succ, List.getElem_cons_zero, List.setIfInBounds_toArray, List.set_cons_zero, List.set_cons_succ]
        refine wpAnyH_take (i := 12) (oi := _) (v := ?_) rfl (by kernel_rfl) (by kernel_rfl) (by kernel_rfl) (fun _ _ _ h => h) (Or.inl ⟨by rfl, ?_⟩) (by assumption) ?_
        rotate_left
        · (intro w hSw; (try dsimp only at hSw); (first | (go_simp; done) | (go_simp; with_reducible rfl)))
        simp only [Act.put, List.getElem_toArray, List.getElem_cons_succ, List.getElem_cons_zero, List.setIfInBounds_toArray, List.set_cons_zero, List.set_cons_succ]
        refine wpAnyH_take (i := 13) (oi := _) (v := ?_) rfl (by kernel_rfl) (by kernel_rfl) (by kernel_rfl) (fun _ _ _ h => h) (Or.inl ⟨by rfl, ?_⟩) (by assumption) ?_
        rotate_left
        · (intro w hSw; (try dsimp only at hSw); (first | (go_simp; done) | (go_simp; with_reducible rfl)))
        simp only [Act.put, List.getElem_toArray, List.getElem_cons_succ, List.getElem_cons_zero, List.setIfInBounds_toArray, List.set_cons_zero, List.set_cons_succ]
        refine wpAnyH_take (i := 14) (oi := _) (v := ?_) rfl (by kernel_rfl) (by kernel_rfl) (by kernel_rfl) (fun _ _ _ h => h) (Or.inl ⟨by rfl, ?_⟩) (by assumption) ?_
        rotate_left
        · (intro w hSw; (try dsimp only at hSw); (first | (go_simp; done) | (go_simp; with_reducible rfl)))
        simp only [Act.put, List.getElem_toArray, List.getElem_cons_succ, List.getElem_cons_zero, List.setIfInBounds_toArray, List.set_cons_zero, List.set_cons_succ]
        refine wpAnyH_take (i := 15) (oi := _) (v := ?_) rfl (by kernel_rfl) (by kernel_rfl) (by kernel_rfl) (fun _ _ _ h => h) (Or.inl ⟨by rfl, ?_⟩) (by assumption) ?_
        rotate_left
        · (intro w hSw; (try dsimp only at hSw); (first | (go_simp; done) | (go_simp; with_reducible rfl)))
        simp only [Act.put, List.getElem_toArray, List.getElem_cons_succ, List.getElem_cons_zero, List.setIfInBounds_toArray, List.set_cons_zero, List.set_cons_succ]
        refine wpAnyH_ready (rs := [16]) (by kernel_rfl) (by simp) ?_
        refine AllReadyH.cons rfl (fun K hK => ?_) AllReadyH.nil
        go_simp
        refine (HH.out _ (os.take k) x _ (HT.out.below HB.out)).mono ?_
        generalize hct : (os.take k).contains x = ct
        have HCT := Lib.hid hct
        clear hct
        rintro e w22 ⟨rfl, rfl⟩
        clear hHeld
        try go_wp2_with fail
        refine hK.out _ _ (⟨HB.out, (HB.out.cell (p := ⟨b, o + k, none⟩) hbl).trans HC.out⟩) (fun hHeld => ?_)
        clear hK K
        refine wpAnyH_take (i := 17) (oi := _) (v := ?_) rfl (by kernel_rfl) (by kernel_rfl) (by kernel_rfl) (fun _ _ _ h => h) (Or.inl ⟨by rfl, ?_⟩) (by assumption) ?_
        rotate_left
        · (intro w hSw; (try dsimp only at hSw); (first | (go_simp; done) | (go_simp; with_reducible rfl)))
        simp only [Act.put, List.getElem_toArray, List.getElem_cons_succ, List.getElem_cons_zero, List.setIfInBounds_toArray, List.set_cons_zero, List.set_cons_succ]
        refine wpAnyH_done (by kernel_rfl) ?_ _
        refine NoPanic.normal ?_
        clear hHeld
        cases ct
        · skip
          go_wp2_with fail
          go_roundw
          case rel => exact ⟨rfl, HB.out, k + 1, by omega, by go_num, ordK_next HOK.out HK.out HIN.out.1 (by have := HIN.out.2; omega) HCT.out⟩
          case measure => simp [intOf]; omega
        · have HF := Lib.hid (ordC_twice (m := m) HK.out HCT.out)
          go_wp2_with fail
          go_ret
          exact ⟨ret_bool HF.out.symm, HB.out⟩
      · have HBI := Lib.hid (inB_no hin)
        have HF := Lib.hid (ordC_range (m := m) HK.out (by omega))
        clear hin
        go_wp2_with fail
        refine wp_region_noPanic ?_
        have HB := Lib.hid (HB.out.trans ((below_drewN _ 1).mono HB.out.size))
        refine wp_region_held_drew (S := fun w' => Below w.heap.size w w' ∧ w'.cell? ⟨b, o + k, none⟩ = some (.int .i64 x)) (by kernel_rfl) (⟨HB.out, (HB.out.cell (p := ⟨b, o + k, none⟩) hbl).trans HC.out⟩) (fun hHeld => ?_)
        refine wpAnyH_take (i := 0) (oi := _) (v := ?_) rfl (by kernel_rfl) (by kernel_rfl) (by kernel_rfl) (fun _ _ _ h => h) (Or.inl ⟨by rfl, ?_⟩) (by assumption) ?_
        rotate_left
        · (intro w hSw; (try dsimp only at hSw); (first | (go_simp; done) | (go_simp; with_reducible rfl)))
        simp only [Act.put, List.getElem_toArray, List.getElem_cons_succ, List.getElem_cons_zero, List.setIfInBounds_toArray, List.set_cons_zero, List.set_cons_succ]
        refine wpAnyH_take (i := 1) (oi := _) (v := ?_) rfl (by kernel_rfl) (by kernel_rfl) (by kernel_rfl) (fun _ _ _ h => h) (Or.inl ⟨by rfl, ?_⟩) (by assumption) ?_
        rotate_left
        · (intro w hSw; (try dsimp only at hSw); (first | (go_simp; done) | (go_simp; with_reducible rfl)))
        simp only [Act.put, List.getElem_toArray, List.getElem_cons_succ, List.getElem_cons_zero, List.setIfInBounds_toArray, List.set_cons_zero, List.set_cons_succ]
        refine wpAnyH_take (i := 2) (oi := _) (v := ?_) rfl (by kernel_rfl) (by kernel_rfl) (by kernel_rfl) (fun _ _ _ h => h) (Or.inl ⟨by rfl, ?_⟩) (by assumption) ?_
        rotate_left
        · (intro w hSw; (try dsimp only at hSw); (first | (go_simp; done) | (go_simp; with_reducible rfl)))
        simp only [Act.put, List.getElem_toArray, List.getElem_cons_succ, List.getElem_cons_zero, List.setIfInBounds_toArray, List.set_cons_zero, List.set_cons_succ]
        refine wpAnyH_take (i := 3) (oi := _) (v := ?_) rfl (by kernel_rfl) (by kernel_rfl) (by kernel_rfl) (fun _ _ _ h => h) (Or.inl ⟨by rfl, ?_⟩) (by assumption) ?_
        rotate_left
        · (intro w hSw; (try dsimp only at hSw); (first | (go_simp; done) | (go_simp; with_reducible rfl)))
        simp only [Act.put, List.getElem_toArray, List.getElem_cons_succ, List.getElem_cons_zero, List.setIfInBounds_toArray, List.set_cons_zero, List.set_cons_succ]
        refine wpAnyH_take (i := 4) (oi := _) (v := ?_) rfl (by kernel_rfl) (by kernel_rfl) (by kernel_rfl) (fun _ _ _ h => h) (Or.inl ⟨by rfl, ?_⟩) (by assumption) ?_
        rotate_left
        · (intro w hSw; (try dsimp only at hSw); (first | (go_simp; done) | (go_simp; with_reducible rfl)))
        simp only [Act.put, List.getElem_toArray, List.getElem_cons_succ, List.getElem_cons_zero, List.setIfInBounds_toArray, List.set_cons_zero, List.set_cons_succ]
        refine wpAnyH_take (i := 5) (oi := _) (v := ?_) rfl (by kernel_rfl) (by kernel_rfl) (by kernel_rfl) (fun _ _ _ h => h) (Or.inl ⟨by rfl, ?_⟩) (by assumption) ?_
        rotate_left
        · (intro w hSw; (try dsimp only at hSw); (first | (go_simp; done) | (go_simp; with_reducible rfl)))
        simp only [Act.put, List.getElem_toArray, List.getElem_cons_succ, List.getElem_cons_zero, List.setIfInBounds_toArray, List.set_cons_zero, List.set_cons_succ]
        refine wpAnyH_ready (rs := [6]) (by kernel_rfl) (by simp) ?_
        refine AllReadyH.cons rfl (fun K hK => ?_) AllReadyH.nil
        go_simp
        refine (HI.out _ _).mono ?_
        rw [HBI.out]
        rintro e w21 ⟨rfl, rfl⟩
        clear hHeld
        try go_wp2_with fail
        refine hK.out _ _ (⟨HB.out, (HB.out.cell (p := ⟨b, o + k, none⟩) hbl).trans HC.out⟩) (fun hHeld => ?_)
        clear hK K
        refine wpAnyH_take (i := 7) (oi := _) (v := ?_) rfl (by kernel_rfl) (by kernel_rfl) (by kernel_rfl) (fun _ _ _ h => h) (Or.inl ⟨by rfl, ?_⟩) (by assumption) ?_
        rotate_left
        · (intro w hSw; (try dsimp only at hSw); (first | (go_simp; done) | (go_simp; with_reducible rfl)))
        simp only [Act.put, List.getElem_toArray, List.getElem_cons_succ, List.getElem_cons_zero, List.setIfInBounds_toArray, List.set_cons_zero, List.set_cons_succ]
        refine wpAnyH_take (i := 8) (oi := _) (v := ?_) rfl (by kernel_rfl) (by kernel_rfl) (by kernel_rfl) (fun _ _ _ h => h) (Or.inl ⟨by rfl, ?_⟩) (by assumption) ?_
        rotate_left
        · (intro w hSw; (try dsimp only at hSw); (first | (go_simp; done) | (go_simp; with_reducible rfl)))
        simp only [Act.put, List.getElem_toArray, List.getElem_cons_succ, List.getElem_cons_zero, List.setIfInBounds_toArray, List.set_cons_zero, List.set_cons_succ]
        refine wpAnyH_take (i := 9) (oi := _) (v := undef) rfl (by kernel_rfl) (by kernel_rfl) (by kernel_rfl) (fun _ _ _ h => h) (Or.inr ⟨by rfl, rfl⟩) (by assumption) ?_
        simp only [Act.put, List.getElem_toArray, List.getElem_cons_succ, List.getElem_cons_zero, List.setIfInBounds_toArray, List.set_cons_zero, List.set_cons_succ]
        refine wpAnyH_take (i := 10) (oi := _) (v := undef) rfl (by kernel_rfl) (by kernel_rfl) (by kernel_rfl) (fun _ _ _ h => h) (Or.inr ⟨by rfl, rfl⟩) (by assumption) ?_
        simp only [Act.put, List.getElem_toArray, List.getElem_cons_succ, List.getElem_cons_zero, List.setIfInBounds_toArray, List.set_cons_zero, List.set_cons_succ]
        refine wpAnyH_take (i := 11) (oi := _) (v := undef) rfl (by kernel_rfl) (by kernel_rfl) (by kernel_rfl) (fun _ _ _ h => h) (Or.inr ⟨by rfl, rfl⟩) (by assumption) ?_
        simp only [Act.put, List.getElem_toArray, List.getElem_cons_succ, List.getElem_cons_zero, List.setIfInBounds_toArray, List.set_cons_zero, List.set_cons_succ]
        refine wpAnyH_take (i := 12) (oi := _) (v := undef) rfl (by kernel_rfl) (by kernel_rfl) (by kernel_rfl) (fun _ _ _ h => h) (Or.inr ⟨by rfl, rfl⟩) (by assumption) ?_
        simp only [Act.put, List.getElem_toArray, List.getElem_cons_succ, List.getElem_cons_zero, List.setIfInBounds_toArray, List.set_cons_zero, List.set_cons_succ]
        refine wpAnyH_take (i := 13) (oi := _) (v := undef) rfl (by kernel_rfl) (by kernel_rfl) (by kernel_rfl) (fun _ _ _ h => h) (Or.inr ⟨by rfl, rfl⟩) (by assumption) ?_
        simp only [Act.put, List.getElem_toArray, List.getElem_cons_succ, List.getElem_cons_zero, List.setIfInBounds_toArray, List.set_cons_zero, List.set_cons_succ]
        refine wpAnyH_take (i := 14) (oi := _) (v := undef) rfl (by kernel_rfl) (by kernel_rfl) (by kernel_rfl) (fun _ _ _ h => h) (Or.inr ⟨by rfl, rfl⟩) (by assumption) ?_
        simp only [Act.put, List.getElem_toArray, List.getElem_cons_succ, List.getElem_cons_zero, List.setIfInBounds_toArray, List.set_cons_zero, List.set_cons_succ]
        refine wpAnyH_take (i := 15) (oi := _) (v := undef) rfl (by kernel_rfl) (by kernel_rfl) (by kernel_rfl) (fun _ _ _ h => h) (Or.inr ⟨by rfl, rfl⟩) (by assumption) ?_
        simp only [Act.put, List.getElem_toArray, List.getElem_cons_succ, List.getElem_cons_zero, List.setIfInBounds_toArray, List.set_cons_zero, List.set_cons_succ]
        refine wpAnyH_take (i := 16) (oi := _) (v := undef) rfl (by kernel_rfl) (by kernel_rfl) (by kernel_rfl) (fun _ _ _ h => h) (Or.inr ⟨by rfl, rfl⟩) (by assumption) ?_
        simp only [Act.put, List.getElem_toArray, List.getElem_cons_succ, List.getElem_cons_zero, List.setIfInBounds_toArray, List.set_cons_zero, List.set_cons_succ]
        refine wpAnyH_take (i := 17) (oi := _) (v := ?_) rfl (by kernel_rfl) (by kernel_rfl) (by kernel_rfl) (fun _ _ _ h => h) (Or.inl ⟨by rfl, ?_⟩) (by assumption) ?_
        rotate_left
        · (intro w hSw; (try dsimp only at hSw); (first | (go_simp; done) | (go_simp; with_reducible rfl)))
        simp only [Act.put, List.getElem_toArray, List.getElem_cons_succ, List.getElem_cons_zero, List.setIfInBounds_toArray, List.set_cons_zero, List.set_cons_succ]
        refine wpAnyH_done (by kernel_rfl) ?_ _
        refine NoPanic.normal ?_
        clear hHeld
        go_wp2_with fail
        go_ret
        exact ⟨ret_bool HF.out.symm, HB.out⟩
    · have hke : k = os.length := by omega
      subst hke
      have HF := Lib.hid (ordK_all HOK.out)
      go_wp2_with fail
      go_ret
      exact ⟨ret_bool HF.out.symm, HB.out⟩
set_option maxHeartbeats 800000 in
theorem isOrderE_any (n : Int) (g : Bool) (y1 : Option Addr) (m c1 : Nat) (a b : Int) (v : Value) (os : List Int) (w : World) (hv : ReadsI w v os) :
    Calls Try.prog 77 #[erV n g (.slice y1 m c1) a b, v] w fun e w' => e = .returned (.bool (ordC m os)) ∧ Below w.heap.size w w' := by
  have HC := Lib.hid (fun v xs (p : Int) w hv => contains_any v xs p w hv)
  have HV := Lib.hid hv
  have HB := Lib.hid (below_new w (.cells (erC n g (.slice y1 m c1) a b) 80))
  obtain ⟨y, c, hvv, hc, hmm, hx⟩ := hv
  subst hvv
  unfold maxLen at hmm
  have HL := Lib.hid hx
  clear hx
  unfold erV erC at *
  go_enter Try.func77, Try.ntmps77
  go_wp2_with fail
  go_loop [4, 9] (fun r i => r = .bool false ∧ ∃ k : Nat, k ≤ os.length ∧ i = .int .i64 k ∧ ordK m os k) (fun _ i => os.length - (intOf i).toNat)
  case atStart => exact ⟨rfl, 0, Nat.zero_le _, rfl, ordK_zero m os⟩
  case round =>
    obtain ⟨rfl, k, hk, rfl, hok⟩ := hrel
    have HOK := Lib.hid hok
    clear hok
    by_cases hlt : k < os.length
    · obtain ⟨x, hxk⟩ := get_some hlt
      obtain ⟨bb, o, rfl, hbl, hcell0⟩ := HL.out k x hxk
      have hcell : (w.alloc (.cells #[.int .i64 n, .bool g, .slice y1 m c1, .int .i64 a, .int .i64 b] 80)).cell? ⟨bb, o + k, none⟩ = some (.int .i64 x) := (HB.out.cell (p := ⟨bb, o + k, none⟩) hbl).trans hcell0
      have HK := Lib.hid hxk
      have HT := Lib.hid ((reads_take HV.out hk).below HB.out)
      have hi0 : 0 ≤ (k : Int) := by omega
      have hi1 : (k : Int) < os.length := by omega
      have hkc : (k : Int) ≤ c := by omega
      clear hxk hcell0
      by_cases h0 : x < 0
      · have HF := Lib.hid (ordC_range (m := m) HK.out (by omega))
        go_wp2_with fail
        go_ret
        exact ⟨ret_bool HF.out.symm, HB.out⟩
      · by_cases h1 : (m : Int) ≤ x
        · have HF := Lib.hid (ordC_range (m := m) HK.out (by omega))
          go_wp2_with fail
          go_ret
          exact ⟨ret_bool HF.out.symm, HB.out⟩
        · have HIN := Lib.hid (show 0 ≤ x ∧ x < (m : Int) by omega)
          go_wp2_with fail
          refine (HC.out _ (os.take k) x _ HT.out).mono ?_
          rintro e w1 ⟨rfl, rfl⟩
          have hfc := has_firstX (xs := os.take k) (p := x)
          rw [hfc]
          cases hct : (os.take k).contains x
          · have HCT := Lib.hid hct
            clear hct hfc
            go_wp2_with fail
            go_round
            case rel => exact ⟨rfl, k + 1, by omega, by go_num, ordK_next HOK.out HK.out HIN.out.1 HIN.out.2 HCT.out⟩
            case measure => simp [intOf]; omega
          · have HF := Lib.hid (ordC_twice (m := m) HK.out hct)
            clear hct hfc
            go_wp2_with fail
            go_ret
            exact ⟨ret_bool HF.out.symm, HB.out⟩
    · have hke : k = os.length := by omega
      subst hke
      have HF := Lib.hid (ordK_all HOK.out)
      go_wp2_with fail
      go_ret
      exact ⟨ret_bool HF.out.symm, HB.out⟩
set_option maxHeartbeats 800000 in
theorem isValidE_any (n : Int) (g : Bool) (v : Value) (cs : List Cr) (a b : Int) (w : World) (hv : ReadsC w v cs) :
    Calls Try.prog 76 #[erV n g v a b] w fun e w' => e = .returned (.bool (askB n g cs a b)) ∧ Below w.heap.size w w' := by
  have HA := Lib.hid (fun w hv => areCarriers_any n g v cs w hv)
  have HP := Lib.hid (fun v w hv => arePlaces_two n g a b v w hv)
  have HV := Lib.hid hv
  obtain ⟨y, c, hvv, _⟩ := hv
  subst hvv
  generalize cs.length = l at *
  have HW := Lib.hid (below_new w (.cells (erC n g (.slice y l c) a b) 80))
  have HE := Lib.hid (blk_new w (erC n g (.slice y l c) a b) 80)
  have HQ := Lib.hid (askB_iff n g cs a b)
  unfold erV erC at *
  go_enter Try.func76, Try.ntmps76
  go_wp2_with fail
  refine (HA.out _ (HV.out.below HW.out)).mono ?_
  rintro e w1 ⟨rfl, hb⟩
  replace HW := Lib.hid (HW.out.trans (hb.mono HW.out.size))
  replace HE := Lib.hid (HE.out.below hb)
  clear hb
  have e0 := HE.out.cell 0
  have e1 := HE.out.cell 1
  have e3 := HE.out.cell 3
  have e4 := HE.out.cell 4
  cases hc : csB n g cs
  · have HR := Lib.hid (askB_no (a := a) (b := b) (fun h => by rw [hc] at h; cases h.1))
    go_wp2_with fail
    go_ret
    exact ⟨ret_bool HR.out.symm, HW.out⟩
  · have HCS := Lib.hid hc
    have hst := (straightB_iff n g).1 ((csB_iff n g cs).1 hc).1
    have HST := Lib.hid hst
    have HRO := Lib.hid (show roadB n g = true from by have := ((csB_iff n g cs).1 hc).1; unfold straightB at this; cases hr : roadB n g <;> simp_all)
    clear hc hst
    go_wp2_with fail
    refine (HP.out _ _ (ints_two_at w1.heap.size rfl)).mono ?_
    rintro e w2 ⟨rfl, hb⟩
    replace HW := Lib.hid (HW.out.trans (((below_new _ _).trans (hb.mono (by simp))).mono HW.out.size))
    replace HE := Lib.hid ((HE.out.below (below_new _ _)).below hb)
    clear hb e0 e1 e3 e4
    have e3 := HE.out.cell 3
    have e4 := HE.out.cell 4
    cases hp : (placeB n g a && placeB n g b)
    · have HR := Lib.hid (askB_no (n := n) (g := g) (cs := cs) (a := a) (b := b) (fun h => by
        have h1 := (placeB_iff n g a).2 ⟨HRO.out, by omega⟩
        have h2 := (placeB_iff n g b).2 ⟨HRO.out, by omega⟩
        rw [h1, h2] at hp
        cases hp))
      clear hp
      go_wp2_with fail
      go_ret
      exact ⟨ret_bool HR.out.symm, HW.out⟩
    · rw [Bool.and_eq_true, placeB_iff, placeB_iff] at hp
      have HPL := Lib.hid hp
      clear hp
      by_cases hab : a ≤ b
      · have HR := Lib.hid (HQ.out.2 ⟨HCS.out, HPL.out.1.2.1, hab, HPL.out.2.2.2⟩)
        go_wp2_with fail
        go_ret
        exact ⟨ret_bool HR.out.symm, HW.out⟩
      · have HR := Lib.hid (askB_no (n := n) (g := g) (cs := cs) (a := a) (b := b) (fun h => by omega))
        go_wp2_with fail
        go_ret
        exact ⟨ret_bool (by rw [HR.out] <;> first | rfl | (simp; omega)), HW.out⟩
end Go.Proofs.Ytgchodielkodeaa
