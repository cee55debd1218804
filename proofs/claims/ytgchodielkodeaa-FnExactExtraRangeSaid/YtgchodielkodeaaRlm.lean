/-
  What is proved: the program's greatest reach of all orders, and GreatestReach. Conditions: lists that read as carriers.
-/
import Derived.Test.YtgchodielkodeaaRlv
import Derived.Test.YtgchodielkodeaaFn24
namespace Go.Proofs.Ytgchodielkodeaa
open Go.RowKit
set_option linter.unusedVariables false
set_option linter.unusedSimpArgs false

theorem one_at9 {w : World} {u : Value} {t : TypeId} : (w.alloc (.cells #[u] t)).cell? ⟨w.heap.size, 0, none⟩ = some u := by rw [cell_new]; rfl
set_option maxHeartbeats 800000 in
set_option maxRecDepth 20000 in
theorem newBySet_any (m PP : Nat) (a : Int) (w : World) (hm : m ≤ 6) (hPP : 2 ^ m = PP) :
    Calls Try.prog 118 #[.int .i64 m, .int .i64 a] w fun e w' => ∃ g, e = .returned (.slice (some ⟨g, 0, none⟩) PP PP) ∧ w'.ownsRow w.heap.size 3 1 (.slice (some ⟨g, 0, none⟩) PP PP) PP ((List.replicate PP a).map iv) ∧ Below w.heap.size w w' := by
  have hp6 := pow_le hm
  have hsh := pow_wrap3 hm hPP
  rw [hPP] at hp6
  have HR := Lib.hid (fun (w : World) => repeat_owns w.heap.size 0 a PP (w.alloc (.cells #[.int .i64 a] 3)) (by simp) one_at9 hp6)
  have hm0 : 0 ≤ (m : Int) := by omega
  clear hPP
  go_enter Try.func118, Try.ntmps118
  go_wp2_with fail
  rw [hsh]
  refine (HR.out _).mono ?_
  rintro e w1 ⟨g, rfl, ho, hb⟩
  have HO := Lib.hid ho
  have HB := Lib.hid ((below_new w (.cells #[.int .i64 a] 3)).trans (hb.mono (by simp)))
  clear ho hb hsh
  go_wp2_with fail
  go_ret
  exact ⟨g, rfl, owns_lower HO.out (by simp), HB.out⟩
theorem ofAll_any (g P : Nat) (z : Int) (w : World) (hP : 1 ≤ P) (hP2 : P ≤ 64) (hc : w.cell? ⟨g, P - 1, none⟩ = some (.int .i64 z)) :
    Calls Try.prog 121 #[.slice (some ⟨g, 0, none⟩) P P] w fun e w' => e = .returned (.int .i64 z) ∧ w = w' := by
  have hi0 : 0 ≤ (P : Int) - 1 := by omega
  have hi1 : (P : Int) - 1 < P := by omega
  have hi2 : ((P : Int) - 1).toNat = P - 1 := by omega
  go_enter Try.func121, Try.ntmps121
  go_wp2_with fail
  go_ret
  exact ⟨rfl, rfl⟩
set_option maxHeartbeats 800000 in
theorem grc_any (n : Int) (g : Bool) (v : Value) (cs : List Cr) (a b z x : Int) (i : Nat) (k : Cr) (bb : Nat) (w : World) (hv : ReadsC w v cs) (hi : cs[i]? = some k) (hk : CrWk n k) (hx : 0 ≤ x ∧ x < n) (hb : Blk w bb (erC n g v a b) 80) :
    Calls Try.prog 120 #[.int .i64 z, .int .i64 x, .int .i64 i, .pointer (some ⟨bb, 0, none⟩)] w fun e w' => e = .returned (.int .i64 (max z (onw n k x))) ∧ Below w.heap.size w w' := by
  have HO := Lib.hid (fun w hv => onwardE_any n g v cs a b x i k w hv hi hk hx)
  have HV := Lib.hid hv
  have e0 := hb.cell 0
  have e1 := hb.cell 1
  have e2 := hb.cell 2
  have e3 := hb.cell 3
  have e4 := hb.cell 4
  clear hv hb
  unfold erV at HO
  unfold erC at e0 e1 e2 e3 e4
  go_enter Try.func120, Try.ntmps120
  go_wp2_with fail
  refine (HO.out _ HV.out).mono ?_
  rintro e w1 ⟨rfl, hb⟩
  have HB := Lib.hid hb
  clear hb e0 e1 e2 e3 e4
  rcases Int.lt_trichotomy z (onw n k x) with h | h | h
  all_goals
    go_wp2_with fail
    go_ret
    exact ⟨ret_int (by omega), HB.out⟩
/-- numbers, one more, and r times a -/
def rowS (T : List Int) (z : Int) (r : Nat) (a : Int) : List Int := T ++ z :: List.replicate r a
theorem rowS_len (T : List Int) (z : Int) (r : Nat) (a : Int) : (rowS T z r a).length = T.length + r + 1 := by simp [rowS]; omega
theorem rowS_mid {T : List Int} {z : Int} {r : Nat} {a : Int} {k : Nat} (h : T.length = k) : ((rowS T z r a).map iv)[k]? = some (.int .i64 z) := by
  subst h
  unfold rowS
  simp
theorem rowS_low {T : List Int} {z : Int} {r : Nat} {a : Int} {j : Nat} {x : Int} (h : T[j]? = some x) : ((rowS T z r a).map iv)[j]? = some (.int .i64 x) := by
  unfold rowS
  have hl := (List.getElem?_eq_some_iff.1 h).1
  rw [List.getElem?_map, List.getElem?_append_left hl, h]
  rfl
theorem rowS_set {T : List Int} {z y : Int} {r : Nat} {a : Int} {k : Nat} (h : T.length = k) : ((rowS T z r a).map iv).set k (.int .i64 y) = (rowS T y r a).map iv := by
  subst h
  unfold rowS
  rw [List.map_append, List.set_append_right _ _ (by simp)]
  simp
theorem rowS_first {T : List Int} {r : Nat} {a : Int} : T ++ List.replicate (r + 1) a = rowS T a r a := by
  unfold rowS
  rw [List.replicate_succ]
theorem rowS_next {T : List Int} {z : Int} {r : Nat} {a : Int} : rowS T z r a = (T ++ [z]) ++ List.replicate r a := by simp [rowS]
theorem bit_prog : ∀ k : Fin 64, ∀ q : Fin 6, (bits .and .i64 ((k.val : Nat) : Int) ((2 ^ q.val : Nat) : Int) == 0) = !k.val.testBit q.val := by decide +kernel
theorem bit_pyes {k q P : Nat} (hk : k < 64) (hq : q < 6) (hP : 2 ^ q = P) (h : k.testBit q = true) : (bits .and .i64 (k : Int) (P : Int) == 0) = false := by
  rw [← hP]
  exact (bit_prog ⟨k, hk⟩ ⟨q, hq⟩).trans (by show (!k.testBit q) = false; rw [h]; rfl)
theorem bit_pno {k q P : Nat} (hk : k < 64) (hq : q < 6) (hP : 2 ^ q = P) (h : k.testBit q = false) : (bits .and .i64 (k : Int) (P : Int) == 0) = true := by
  rw [← hP]
  exact (bit_prog ⟨k, hk⟩ ⟨q, hq⟩).trans (by show (!k.testBit q) = true; rw [h]; rfl)
def SpR1 (n : Int) (cs : List Cr) (a : Int) (base g P : Nat) (w : World) (i : Value) (wr : World) : Prop :=
  Below g w wr ∧ ∃ k : Nat, k ≤ P ∧ i = .int .i64 k ∧ wr.ownsRow base 3 1 (.slice (some ⟨g, 0, none⟩) P P) P ((tabF n cs a k ++ List.replicate (P - k) a).map iv)
def SpR2 (n : Int) (cs : List Cr) (a : Int) (T : List Int) (k r base g P : Nat) (w : World) (i : Value) (wr : World) : Prop :=
  Below g w wr ∧ ∃ q : Nat, q ≤ 6 ∧ i = .int .i64 q ∧ wr.ownsRow base 3 1 (.slice (some ⟨g, 0, none⟩) P P) P ((rowS T (bestF n cs a T k q) r a).map iv)
set_option maxHeartbeats 3200000 in
set_option maxRecDepth 20000 in
theorem spread_any (n : Int) (gg : Bool) (v : Value) (cs : List Cr) (a b : Int) (base g bb P : Nat) (w0 w : World) (hP : 2 ^ cs.length = P) (hv : ReadsC w0 v cs) (hb0 : Below w0.heap.size w0 w) (hbb : Blk w bb (erC n gg v a b) 80) (hl1 : w0.heap.size ≤ bb) (hl2 : bb < g)
    (ho : w.ownsRow base 3 1 (.slice (some ⟨g, 0, none⟩) P P) P ((List.replicate P a).map iv)) (hc : WkL n cs) (ha : 0 ≤ a ∧ a < n) :
    Calls Try.prog 119 #[.slice (some ⟨g, 0, none⟩) P P, .func (.func 120) #[] #[.pointer (some ⟨bb, 0, none⟩)]] w fun e w' => (∃ u, e = .returned u) ∧ w'.ownsRow base 3 1 (.slice (some ⟨g, 0, none⟩) P P) P ((tabF n cs a P).map iv) ∧ Below g w w' := by
  have HG := Lib.hid (fun z x i k w hv hi hk hx hb => grc_any n gg v cs a b z x i k bb w hv hi hk hx hb)
  have HV := Lib.hid (fun (W : World) (h : Below g w W) => show ReadsC W v cs from hv.below (hb0.trans (h.mono (by omega))))
  have HBB := Lib.hid (fun (W : World) (h : Below g w W) => show Blk W bb (erC n gg v a b) 80 from hbb.belowAt hl2 h)
  have HO := Lib.hid ho
  have HC := Lib.hid hc
  have HA := Lib.hid ha
  have hl6 := hc.2.1
  have hp6 := pow_le hc.2.1
  rw [hP] at hp6
  have HPP := Lib.hid hP
  have hgz : g < w.heap.size := by
    rcases ho.2 with ⟨h, _⟩ | ⟨g', cap, cur, h, _, hg, _⟩
    · cases h
    · cases h
      exact (Array.getElem?_eq_some_iff.1 hg).1
  have HGZ := Lib.hid hgz
  clear hv hb0 hbb ho hc ha hP hgz
  go_enter Try.func119, Try.ntmps119
  go_wp2_with fail
  go_loopw [8] (fun i wr => SpR1 n cs a base g P w i wr) (fun i _ => P - (intOf i).toNat)
  case atStart => exact ⟨Below.refl _ _ |>.mono (Nat.le_of_lt HGZ.out), 0, Nat.zero_le _, rfl, HO.out⟩
  case round =>
    obtain ⟨hw, k, hk, rfl, ho⟩ := hrel
    clear HO
    have HW := Lib.hid hw
    clear hw
    by_cases hlt : (k : Int) < P
    · have hkp : k < P := by omega
      have HTL := Lib.hid (tabF_len n cs a k)
      have HTR := Lib.hid (tabF_range HC.out HA.out k (by rw [HPP.out]; exact hk))
      have HTN := Lib.hid (show tabF n cs a (k + 1) = tabF n cs a k ++ [bestF n cs a (tabF n cs a k) k cs.length] from rfl)
      obtain ⟨r, hr⟩ : ∃ r, P - k = r + 1 := ⟨P - k - 1, by omega⟩
      have hr2 : P - (k + 1) = r := by omega
      have HRR := Lib.hid hr2
      rw [hr, rowS_first] at ho
      obtain ⟨T1, hT1⟩ : ∃ T1, tabF n cs a (k + 1) = T1 := ⟨_, rfl⟩
      obtain ⟨T, hT⟩ : ∃ T, tabF n cs a k = T := ⟨_, rfl⟩
      rw [hT1] at HTN
      rw [hT] at HTN HTL HTR ho
      have HT1 := Lib.hid hT1
      have HO := Lib.hid ho
      clear hT hT1 hr hr2 ho
      go_wp2_with fail
      go_loopw [5] (fun i wr => SpR2 n cs a T k r base g P w i wr) (fun i _ => 7 - (intOf i).toNat)
      case atStart => exact ⟨HW.out, 0, by omega, rfl, HO.out⟩
      case round =>
        obtain ⟨hw, q, hq, rfl, ho⟩ := hrel
        clear HW HO
        have HW := Lib.hid hw
        have HO := Lib.hid ho
        clear hw ho
        obtain ⟨PQ, hPQ⟩ : ∃ P : Nat, 2 ^ q = P := ⟨_, rfl⟩
        have hsq := pow_wrap3 hq hPQ
        have hsq2 := pow_wrap4 hq hPQ
        have HPQ := Lib.hid hPQ
        have hps : 0 < PQ := by have := Nat.two_pow_pos q; omega
        clear hPQ
        by_cases hle : (PQ : Int) ≤ k
        · have HQL := Lib.hid (show q < cs.length from by
            by_cases h : q < cs.length
            · exact h
            · have h2 : 2 ^ cs.length ≤ 2 ^ q := Nat.pow_le_pow_right (by omega) (by omega)
              rw [HPP.out, HPQ.out] at h2
              omega)
          have hql := HQL.out
          cases hbt : k.testBit q
          · have hb1 := bit_pno (by omega) (by omega) HPQ.out hbt
            have HNX := Lib.hid (bestF_no (n := n) (cs := cs) (a := a) (T := T) hbt)
            clear hbt
            go_wp2_with fail
            go_roundw
            case rel => exact ⟨HW.out, q + 1, by omega, by go_num, by rw [HNX.out]; exact HO.out⟩
            case measure => simp [intOf]; omega
          · have hb1 := bit_pyes (by omega) (by omega) HPQ.out hbt
            have HNX := Lib.hid (bestF_yes (n := n) (cs := cs) (a := a) (T := T) hbt)
            rw [HPQ.out] at HNX
            obtain ⟨kc, hkc⟩ := get_cr hql
            have HKC := Lib.hid hkc
            have HCA := Lib.hid (crAt_some hkc)
            obtain ⟨x, hx⟩ := get_some (xs := T) (k := k - PQ) (by rw [HTL.out]; omega)
            have HGX := Lib.hid (show T.getD (k - PQ) 0 = x by simp [List.getD, hx])
            have HXR := Lib.hid (HTR.out _ x hx)
            have HXX := Lib.hid hx
            obtain ⟨z, hz⟩ : ∃ z : Int, bestF n cs a T k q = z := ⟨_, rfl⟩
            rw [hz] at HNX HO
            have hi0 : 0 ≤ (k : Int) - PQ := by omega
            have hi1 : (k : Int) - PQ < P := by omega
            have hi2 : ((k : Int) - PQ).toNat = k - PQ := by omega
            have hk0 : 0 ≤ (k : Int) := by omega
            have hwr : IntKind.i64.wrap ((k : Int) - PQ) = (k : Int) - PQ := IntWalk.i64_in _ (by omega)
            clear hbt hkc hx hz
            go_wp2_with fail
            refine wp_region_noPanic ?_
            have c6 := (HO.out.cellAt k (by omega)).trans (rowS_mid (z := z) (r := r) (a := a) HTL.out)
            have c13 := (HO.out.cellAt (k - PQ) (by omega)).trans (rowS_low (z := z) (r := r) (a := a) HXX.out)
            have HW := Lib.hid (HW.out.trans ((below_drewN wr 1).mono (by have := HW.out.size; have := HGZ.out; omega)))
            have HO := Lib.hid (owns_below HO.out (below_drewN wr 1))
            refine wp_region_held_drew (S := fun w' => Below g w w') (by kernel_rfl) (HW.out) (fun hHeld => ?_)
            refine wpAnyH_take (i := 0) (oi := _) (v := ?_) rfl (by kernel_rfl) (by kernel_rfl) (by kernel_rfl) (fun _ _ _ h => h) (Or.inl ⟨by rfl, ?_⟩) (by assumption) ?_
            rotate_left
            · (intro w hSw; (try dsimp only at hSw); (first | (go_simp; done) | (go_simp; with_reducible rfl)))
            simp only [Act.put, List.getElem_toArray, List.getElem_cons_succ, List.getElem_cons_zero, List.setIfInBounds_toArray, List.set_cons_zero, List.set_cons_succ]
            refine wpAnyH_take (i := 1) (oi := _) (v := ?_) rfl (by kernel_rfl) (by kernel_rfl) (by kernel_rfl) (fun _ _ _ h => h) (Or.inl ⟨by rfl, ?_⟩) (by assumption) ?_
            rotate_left
            · (intro w hSw; (try dsimp only at hSw); (first | (go_simp; done) | (go_simp; with_reducible rfl)))
            simp only [Act.put, List.getElem_toArray, List.getElem_cons_succ, List.getElem_cons_zero, List.setIfInBounds_toArray, List.set_cons_zero, List.set_cons_succ]
            refine wpAnyH_take (i := 2) (oi := _) (v := ?_) rfl (by kernel_rfl) (by kernel_rfl) (by kernel_rfl) (fun _ _ _ h => h) (Or.inl ⟨by rfl, ?_⟩) (by assumption) ?_
            rotate_left
            · (intro w hSw; (try dsimp only at hSw); (first | (go_simp; done) | (go_simp; with_reducible rfl)))
            simp only [Act.put, List.getElem_toArray, List.getElem_cons_succ, List.getElem_cons_zero, List.setIfInBounds_toArray, List.set_cons_zero, List.set_cons_succ]
            refine wpAnyH_take (i := 3) (oi := _) (v := ?_) rfl (by kernel_rfl) (by kernel_rfl) (by kernel_rfl) (fun _ _ _ h => h) (Or.inl ⟨by rfl, ?_⟩) (by assumption) ?_
            rotate_left
            · (intro w hSw; (try dsimp only at hSw); (first | (go_simp; done) | (go_simp; with_reducible rfl)))
            simp only [Act.put, List.getElem_toArray, List.getElem_cons_succ, List.getElem_cons_zero, List.setIfInBounds_toArray, List.set_cons_zero, List.set_cons_succ]
            refine wpAnyH_take (i := 4) (oi := _) (v := ?_) rfl (by kernel_rfl) (by kernel_rfl) (by kernel_rfl) (fun _ _ _ h => h) (Or.inl ⟨by rfl, ?_⟩) (by assumption) ?_
            rotate_left
            · (intro w hSw; (try dsimp only at hSw); (first | (go_simp; done) | (go_simp; with_reducible rfl)))
            simp only [Act.put, List.getElem_toArray, List.getElem_cons_succ, List.getElem_cons_zero, List.setIfInBounds_toArray, List.set_cons_zero, List.set_cons_succ]
            refine wpAnyH_take (i := 5) (oi := _) (v := ?_) rfl (by kernel_rfl) (by kernel_rfl) (by kernel_rfl) (fun _ _ _ h => h) (Or.inl ⟨by rfl, ?_⟩) (by assumption) ?_
            rotate_left
            · (intro w hSw; (try dsimp only at hSw); (first | (go_simp; done) | (go_simp; with_reducible rfl)))
            simp only [Act.put, List.getElem_toArray, List.getElem_cons_succ, List.getElem_cons_zero, List.setIfInBounds_toArray, List.set_cons_zero, List.set_cons_succ]
            refine wpAnyH_take (i := 7) (oi := _) (v := ?_) rfl (by kernel_rfl) (by kernel_rfl) (by kernel_rfl) (fun _ _ _ h => h) (Or.inl ⟨by rfl, ?_⟩) (by assumption) ?_
            rotate_left
            · (intro w hSw; (try dsimp only at hSw); (first | (go_simp; done) | (go_simp; with_reducible rfl)))
            simp only [Act.put, List.getElem_toArray, List.getElem_cons_succ, List.getElem_cons_zero, List.setIfInBounds_toArray, List.set_cons_zero, List.set_cons_succ]
            refine wpAnyH_take (i := 8) (oi := _) (v := ?_) rfl (by kernel_rfl) (by kernel_rfl) (by kernel_rfl) (fun _ _ _ h => h) (Or.inl ⟨by rfl, ?_⟩) (by assumption) ?_
            rotate_left
            · (intro w hSw; (try dsimp only at hSw); (first | (go_simp; done) | (go_simp; with_reducible rfl)))
            simp only [Act.put, List.getElem_toArray, List.getElem_cons_succ, List.getElem_cons_zero, List.setIfInBounds_toArray, List.set_cons_zero, List.set_cons_succ]
            refine wpAnyH_take (i := 9) (oi := _) (v := ?_) rfl (by kernel_rfl) (by kernel_rfl) (by kernel_rfl) (fun _ _ _ h => h) (Or.inl ⟨by rfl, ?_⟩) (by assumption) ?_
            rotate_left
            · (intro w hSw; (try dsimp only at hSw); (first | (go_simp; done) | (go_simp; with_reducible rfl)))
            simp only [Act.put, List.getElem_toArray, List.getElem_cons_succ, List.getElem_cons_zero, List.setIfInBounds_toArray, List.set_cons_zero, List.set_cons_succ]
            refine wpAnyH_take (i := 10) (oi := _) (v := .int .i64 (PQ : Int)) rfl (by kernel_rfl) (by kernel_rfl) (by kernel_rfl) (fun _ _ _ h => h) (Or.inl ⟨by rfl, ?_⟩) (by assumption) ?_
            · (intro w hSw; (try dsimp only at hSw); go_simp; first | done | exact hsq2 | simp [hsq2])
            simp only [Act.put, List.getElem_toArray, List.getElem_cons_succ, List.getElem_cons_zero, List.setIfInBounds_toArray, List.set_cons_zero, List.set_cons_succ]
            refine wpAnyH_take (i := 11) (oi := _) (v := .int .i64 ((k : Int) - PQ)) rfl (by kernel_rfl) (by kernel_rfl) (by kernel_rfl) (fun _ _ _ h => h) (Or.inl ⟨by rfl, ?_⟩) (by assumption) ?_
            · (intro w hSw; (try dsimp only at hSw); go_simp; first | done | exact hwr | simp [hwr])
            simp only [Act.put, List.getElem_toArray, List.getElem_cons_succ, List.getElem_cons_zero, List.setIfInBounds_toArray, List.set_cons_zero, List.set_cons_succ]
            refine wpAnyH_take (i := 12) (oi := _) (v := .pointer (some ⟨g, k - PQ, none⟩)) rfl (by kernel_rfl) (by kernel_rfl) (by kernel_rfl) (fun _ _ _ h => h) (Or.inl ⟨by rfl, ?_⟩) (by assumption) ?_
            · (intro w hSw; (try dsimp only at hSw); go_simp; first | done | simp [hi0, hi1, hi2])
            simp only [Act.put, List.getElem_toArray, List.getElem_cons_succ, List.getElem_cons_zero, List.setIfInBounds_toArray, List.set_cons_zero, List.set_cons_succ]
            refine wpAnyH_take (i := 14) (oi := _) (v := ?_) rfl (by kernel_rfl) (by kernel_rfl) (by kernel_rfl) (fun _ _ _ h => h) (Or.inl ⟨by rfl, ?_⟩) (by assumption) ?_
            rotate_left
            · (intro w hSw; (try dsimp only at hSw); (first | (go_simp; done) | (go_simp; with_reducible rfl)))
            simp only [Act.put, List.getElem_toArray, List.getElem_cons_succ, List.getElem_cons_zero, List.setIfInBounds_toArray, List.set_cons_zero, List.set_cons_succ]
            refine wpAnyH_ready (rs := [6, 13]) (by kernel_rfl) (by simp) ?_
            refine AllReadyH.cons rfl (fun K hK => ?_) (AllReadyH.cons rfl (fun K hK => ?_) AllReadyH.nil)
            · skip
              go_simp
              clear hHeld
              refine hK.out _ _ (HW.out) (fun hHeld => ?_)
              clear hK K
              refine wpAnyH_ready (rs := [13]) (by kernel_rfl) (by simp) ?_
              refine AllReadyH.cons rfl (fun K hK => ?_) AllReadyH.nil
              go_simp
              clear hHeld
              refine hK.out _ _ (HW.out) (fun hHeld => ?_)
              clear hK K
              refine wpAnyH_ready (rs := [15]) (by kernel_rfl) (by simp) ?_
              refine AllReadyH.cons rfl (fun K hK => ?_) AllReadyH.nil
              go_simp
              refine (HG.out z x q kc _ (HV.out _ HW.out) HKC.out (HC.out.2.2 q kc HKC.out) HXR.out (HBB.out _ HW.out)).mono ?_
              rintro e w23 ⟨rfl, hb⟩
              have HW := Lib.hid (HW.out.trans (hb.mono (by have := HW.out.size; have := HGZ.out; omega)))
              have HO := Lib.hid (owns_below HO.out hb)
              clear hb c6 c13
              clear hHeld
              try go_wp2_with fail
              refine hK.out _ _ (HW.out) (fun hHeld => ?_)
              clear hK K
              refine wpAnyH_take (i := 16) (oi := _) (v := ?_) rfl (by kernel_rfl) (by kernel_rfl) (by kernel_rfl) (fun _ _ _ h => h) (Or.inl ⟨by rfl, ?_⟩) (by assumption) ?_
              rotate_left
              · (intro w hSw; (try dsimp only at hSw); (first | (go_simp; done) | (go_simp; with_reducible rfl)))
              simp only [Act.put, List.getElem_toArray, List.getElem_cons_succ, List.getElem_cons_zero, List.setIfInBounds_toArray, List.set_cons_zero, List.set_cons_succ]
              refine wpAnyH_ready (rs := [17]) (by kernel_rfl) (by simp) ?_
              refine AllReadyH.cons rfl (fun K hK => ?_) AllReadyH.nil
              have c9 := (HO.out.cellAt k (by omega)).trans (rowS_mid (z := z) (r := r) (a := a) HTL.out)
              have f9 := HO.out.frozenAt k
              have HON := Lib.hid (show _ from by have h := (HO.out.stored k (.int .i64 (max z (onw n kc x)))).1; rw [rowS_set HTL.out] at h; exact h)
              have HW := Lib.hid (HW.out.setCell (p := ⟨g, k, none⟩) (Nat.le_refl _) (.int .i64 (max z (onw n kc x))))
              go_simp
              clear hHeld
              refine hK.out _ _ (HW.out) (fun hHeld => ?_)
              clear hK K
              refine wpAnyH_done (by kernel_rfl) ?_ _
              refine NoPanic.normal ?_
              clear hHeld
              go_wp2_with fail
              go_roundw
              case rel => exact ⟨HW.out, q + 1, by omega, by go_num, by rw [HNX.out, HGX.out, HCA.out]; exact HON.out⟩
              case measure => simp [intOf]; omega
            · skip
              go_simp
              clear hHeld
              refine hK.out _ _ (HW.out) (fun hHeld => ?_)
              clear hK K
              refine wpAnyH_ready (rs := [6]) (by kernel_rfl) (by simp) ?_
              refine AllReadyH.cons rfl (fun K hK => ?_) AllReadyH.nil
              go_simp
              clear hHeld
              refine hK.out _ _ (HW.out) (fun hHeld => ?_)
              clear hK K
              refine wpAnyH_ready (rs := [15]) (by kernel_rfl) (by simp) ?_
              refine AllReadyH.cons rfl (fun K hK => ?_) AllReadyH.nil
              go_simp
              refine (HG.out z x q kc _ (HV.out _ HW.out) HKC.out (HC.out.2.2 q kc HKC.out) HXR.out (HBB.out _ HW.out)).mono ?_
              rintro e w27 ⟨rfl, hb⟩
              have HW := Lib.hid (HW.out.trans (hb.mono (by have := HW.out.size; have := HGZ.out; omega)))
              have HO := Lib.hid (owns_below HO.out hb)
              clear hb c6 c13
              clear hHeld
              try go_wp2_with fail
              refine hK.out _ _ (HW.out) (fun hHeld => ?_)
              clear hK K
              refine wpAnyH_take (i := 16) (oi := _) (v := ?_) rfl (by kernel_rfl) (by kernel_rfl) (by kernel_rfl) (fun _ _ _ h => h) (Or.inl ⟨by rfl, ?_⟩) (by assumption) ?_
              rotate_left
              · (intro w hSw; (try dsimp only at hSw); (first | (go_simp; done) | (go_simp; with_reducible rfl)))
              simp only [Act.put, List.getElem_toArray, List.getElem_cons_succ, List.getElem_cons_zero, List.setIfInBounds_toArray, List.set_cons_zero, List.set_cons_succ]
              refine wpAnyH_ready (rs := [17]) (by kernel_rfl) (by simp) ?_
              refine AllReadyH.cons rfl (fun K hK => ?_) AllReadyH.nil
              have c9 := (HO.out.cellAt k (by omega)).trans (rowS_mid (z := z) (r := r) (a := a) HTL.out)
              have f9 := HO.out.frozenAt k
              have HON := Lib.hid (show _ from by have h := (HO.out.stored k (.int .i64 (max z (onw n kc x)))).1; rw [rowS_set HTL.out] at h; exact h)
              have HW := Lib.hid (HW.out.setCell (p := ⟨g, k, none⟩) (Nat.le_refl _) (.int .i64 (max z (onw n kc x))))
              go_simp
              clear hHeld
              refine hK.out _ _ (HW.out) (fun hHeld => ?_)
              clear hK K
              refine wpAnyH_done (by kernel_rfl) ?_ _
              refine NoPanic.normal ?_
              clear hHeld
              go_wp2_with fail
              go_roundw
              case rel => exact ⟨HW.out, q + 1, by omega, by go_num, by rw [HNX.out, HGX.out, HCA.out]; exact HON.out⟩
              case measure => simp [intOf]; omega
        · have HBH := Lib.hid (fun d => bestF_high (n := n) (cs := cs) (a := a) (T := T) (code := k) (i := q) (by rw [HPQ.out]; omega) d)
          have HQL := Lib.hid (show q ≤ cs.length ∨ cs.length < q by omega)
          have HEE := Lib.hid (show bestF n cs a T k q = bestF n cs a T k cs.length from by
            rcases HQL.out with h | h
            · have := HBH.out (cs.length - q)
              rw [show q + (cs.length - q) = cs.length by omega] at this
              exact this.symm
            · have h3 := bestF_high (n := n) (cs := cs) (a := a) (T := T) (code := k) (i := cs.length) (by rw [HPP.out]; exact hkp) (q - cs.length)
              rw [show cs.length + (q - cs.length) = q by omega] at h3
              exact h3)
          go_wp2_with fail
          go_roundw
          case rel =>
            refine ⟨HW.out, k + 1, by omega, by go_num, ?_⟩
            rw [HT1.out, HRR.out, HTN.out, ← HEE.out, ← rowS_next]
            exact HO.out
          case measure => simp [intOf]; omega
    · have hke : k = P := by omega
      subst hke
      rw [Nat.sub_self, List.replicate_zero, List.append_nil] at ho
      have HO := Lib.hid ho
      clear ho
      go_wp2_with fail
      refine bodyPost_end (v := .tuple #[]) ?_ rfl ⟨⟨_, rfl⟩, HO.out, HW.out⟩
      simp [results, Try.results119, go_sem]
end Go.Proofs.Ytgchodielkodeaa
