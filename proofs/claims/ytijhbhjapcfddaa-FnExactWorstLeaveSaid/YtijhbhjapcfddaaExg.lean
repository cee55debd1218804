/-
  What is proved: the contracts of spec.l6Bound, impl.leastGap and ExploreBound, the model's and the program's. Conditions: those of each contract.
-/
import Derived.Test.YtijhbhjapcfddaaExa
import Derived.Test.YtijhbhjapcfddaaFn9
import Derived.Test.YtijhbhjapcfddaaPtg
import Derived.BigQuiet
import Derived.Deep.RegionHeld3
import Derived.IntWalk
namespace Go.Proofs.Ytijhbhjapcfddaa
open Go.RowKit
set_option linter.unusedVariables false
set_option linter.unusedSimpArgs false

/-- the least gap from p to the first k places, and n -/
def nearF (n : Int) (g : Bool) (p : Int) (xs : List Int) : Nat → Int
  | 0 => n
  | k + 1 => min (nearF n g p xs k) (gapI n g p (xs.getD k 0))
theorem nearF_next {n : Int} {g : Bool} {p : Int} {xs : List Int} {k : Nat} {x : Int} (h : xs[k]? = some x) : nearF n g p xs (k + 1) = min (nearF n g p xs k) (gapI n g p x) := by
  show min (nearF n g p xs k) (gapI n g p (xs.getD k 0)) = _
  simp [List.getD, h]
theorem gapI_range {n : Int} {g : Bool} {a b : Int} (ha : 0 ≤ a ∧ a < n) (hb : 0 ≤ b ∧ b < n) : 0 ≤ gapI n g a b ∧ gapI n g a b ≤ n := by
  unfold gapI
  cases g
  · simp only [Bool.false_eq_true, if_false]; omega
  · simp only [if_true]; omega
def Inside1 (n : Int) (xs : List Int) : Prop := ∀ (j : Nat) x, xs[j]? = some x → 0 ≤ x ∧ x < n
theorem nearF_range {n : Int} {g : Bool} {p : Int} {xs : List Int} (hp : 0 ≤ p ∧ p < n) (hin : Inside1 n xs) : ∀ k, k ≤ xs.length → 0 ≤ nearF n g p xs k ∧ nearF n g p xs k ≤ n
  | 0, _ => by show 0 ≤ n ∧ n ≤ n; omega
  | k + 1, hk => by
    obtain ⟨x, hx⟩ := get_some (xs := xs) (k := k) (by omega)
    have h1 := nearF_range hp hin (g := g) k (by omega)
    have h2 := gapI_range (g := g) hp (hin k x hx)
    rw [nearF_next hx]
    omega
def farN (n : Int) (g : Bool) (xs : List Int) : Nat → Int
  | 0 => 0
  | p + 1 => max (farN n g xs p) (nearF n g p xs xs.length)
def freeN (n : Int) (g : Bool) (xs : List Int) : Nat → Int
  | 0 => 0
  | p + 1 => freeN n g xs p + if 0 < nearF n g p xs xs.length then 1 else 0
theorem freeN_range {n : Int} {g : Bool} {xs : List Int} : ∀ p : Nat, 0 ≤ freeN n g xs p ∧ freeN n g xs p ≤ p
  | 0 => by show (0 : Int) ≤ 0 ∧ (0 : Int) ≤ ((0 : Nat) : Int); omega
  | p + 1 => by
    have h := freeN_range (n := n) (g := g) (xs := xs) p
    show 0 ≤ freeN n g xs p + (if 0 < nearF n g p xs xs.length then 1 else 0) ∧ freeN n g xs p + (if 0 < nearF n g p xs xs.length then 1 else 0) ≤ ((p + 1 : Nat) : Int)
    split <;> omega
def boundV (n : Int) (g : Bool) (xs : List Int) : Int := max (farN n g xs n.toNat) ((freeN n g xs n.toNat + xs.length - 1) / xs.length)
def eboundR (n : Int) (g : Bool) (xs : List Int) : Int × Bool := if startsB n g xs then (boundV n g xs, true) else (0, false)
theorem starts_inside {n : Int} {g : Bool} {xs : List Int} (h : startsB n g xs = true) : Inside1 n xs := fun j x hx => by
  have := ((startsB_iff n g xs).1 h).2.2.2 j x hx
  omega
set_option maxHeartbeats 1600000 in
set_option maxRecDepth 20000 in
theorem l6Bound_any (n : Int) (g : Bool) (v : Value) (xs : List Int) (w : World) (hv : ReadsI w v xs) (hs : startsB n g xs = true) :
    Calls Try.prog 84 #[rd n g, v] w fun e w' => e = .returned (.int .i64 (boundV n g xs)) ∧ Below w.heap.size w w' := by
  have hss := (startsB_iff n g xs).1 hs
  have hrr := (roadB_iff n g).1 hss.1
  have hn1 := hrr.1
  have hn2 := hrr.2.1
  have hl1 := hss.2.1
  have hl4 := hss.2.2.1
  have HIN := Lib.hid (starts_inside hs)
  have HGA := Lib.hid (fun a b w hn ha hb => l2Gap_any n g a b w hn ha hb)
  have HMO := Lib.hid (fun a b w => l1Most_any a b w)
  have HLE := Lib.hid (fun a b w => l1Least_any a b w)
  have HX := Lib.hid (Boxed.first w n g 27)
  have HRF := Lib.hid (show boundV n g xs = max (farN n g xs n.toNat) ((freeN n g xs n.toNat + xs.length - 1) / xs.length) from rfl)
  obtain ⟨y, c, hvv, hc, hm, hx⟩ := hv
  subst hvv
  unfold maxLen at hm
  have HL := Lib.hid hx
  clear hx hss hrr hs
  unfold rd at *
  go_enter Try.func84, Try.ntmps84
  go_wp2_with fail
  go_loopw [5, 6, 7] (fun f q i wr => ∃ p : Nat, (p : Int) ≤ n ∧ i = .int .i64 p ∧ f = .int .i64 (farN n g xs p) ∧ q = .int .i64 (freeN n g xs p) ∧ Boxed w.heap.size n g w wr) (fun _ _ i _ => n.toNat - (intOf i).toNat)
  case atStart => exact ⟨0, by omega, rfl, rfl, rfl, HX.out⟩
  case round =>
    obtain ⟨p, hp, rfl, rfl, rfl, hx⟩ := hrel
    clear HX
    have HX := Lib.hid hx
    have h0 := HX.out.c0
    have hfr := freeN_range (n := n) (g := g) (xs := xs) p
    clear hx
    by_cases hlt : (p : Int) < n
    · have HN1 := Lib.hid (show farN n g xs (p + 1) = max (farN n g xs p) (nearF n g p xs xs.length) from rfl)
      have HN2 := Lib.hid (show freeN n g xs (p + 1) = freeN n g xs p + if 0 < nearF n g p xs xs.length then 1 else 0 from rfl)
      generalize farN n g xs p = fa at *
      generalize freeN n g xs p = fr at *
      go_wp2_with fail
      go_loopw [8, 9] (fun m i wr => ∃ k : Nat, k ≤ xs.length ∧ i = .int .i64 k ∧ m = .int .i64 (nearF n g p xs k) ∧ Boxed w.heap.size n g w wr) (fun _ i _ => xs.length - (intOf i).toNat)
      case atStart => exact ⟨0, Nat.zero_le _, rfl, rfl, HX.out⟩
      case round =>
        obtain ⟨k, hk, rfl, rfl, hx⟩ := hrel
        clear HX h0
        have HX := Lib.hid hx
        clear hx
        by_cases hlt2 : k < xs.length
        · obtain ⟨x, hxk⟩ := get_some hlt2
          obtain ⟨b, o, rfl, hbl, hcx0⟩ := HL.out k x hxk
          have HBL := Lib.hid hbl
          have HCX := Lib.hid hcx0
          have hxin := HIN.out k x hxk
          have HNK := Lib.hid (nearF_next (n := n) (g := g) (p := p) hxk)
          have HC1 := Lib.hid (HGA.out p x · (by omega) (by omega) (by omega))
          have hi0 : 0 ≤ (k : Int) := by omega
          have hi1 : (k : Int) < xs.length := by omega
          clear hcx0 hxk hbl
          generalize nearF n g p xs k = m at *
          go_wp2_with fail
          refine wp_region_noPanic ?_
          have HX := Lib.hid (HX.out.next (below_drewN _ 1))
          refine wp_region_held_drew (S := fun w' => Boxed w.heap.size n g w w' ∧ w'.cell? ⟨w.heap.size, 0, none⟩ = some (.int .i64 n) ∧ w'.cell? ⟨w.heap.size, 1, none⟩ = some (.bool g) ∧ w'.cell? ⟨b, o + k, none⟩ = some (.int .i64 x)) (by kernel_rfl) (⟨HX.out, HX.out.c0, HX.out.c1, (HX.out.below.cell (p := ⟨b, o + k, none⟩) HBL.out).trans HCX.out⟩) (fun hHeld => ?_)
          refine wpAnyH_take (i := 0) (oi := _) (v := ?_) rfl (by kernel_rfl) (by kernel_rfl) (by kernel_rfl) (fun _ _ _ h => h) (Or.inl ⟨by rfl, ?_⟩) (by assumption) ?_
          rotate_left
          · (intro w hSw; (try dsimp only at hSw); (first | (go_simp; done) | (go_simp; with_reducible rfl)))
          simp only [Act.put, List.getElem_toArray, List.getElem_cons_succ, List.getElem_cons_zero, List.setIfInBounds_toArray, List.set_cons_zero, List.set_cons_succ]
          refine wpAnyH_take (i := 1) (oi := _) (v := ?_) rfl (by kernel_rfl) (by kernel_rfl) (by kernel_rfl) (fun _ _ _ h => h) (Or.inl ⟨by rfl, ?_⟩) (by assumption) ?_
          rotate_left
          · (intro w hSw; (try dsimp only at hSw); (first | (go_simp; done) | (go_simp; with_reducible rfl)))
          simp only [Act.put, List.getElem_toArray, List.getElem_cons_succ, List.getElem_cons_zero, List.setIfInBounds_toArray, List.set_cons_zero, List.set_cons_succ]
          refine wpAnyH_take (i := 2) (oi := _) (v := ?_) rfl (by kernel_rfl) (by kernel_rfl) (by kernel_rfl) (fun _ _ _ h => h) (Or.inl ⟨by rfl, ?_⟩) (by assumption) ?_
          rotate_left
          · (intro w hSw; (try dsimp only at hSw); (first | (go_simp; done) | (go_simp; with_reducible rfl)))
          simp only [Act.put, List.getElem_toArray, List.getElem_cons_succ, List.getElem_cons_zero, List.setIfInBounds_toArray, List.set_cons_zero, List.set_cons_succ]
          refine wpAnyH_take (i := 3) (oi := _) (v := ?_) rfl (by kernel_rfl) (by kernel_rfl) (by kernel_rfl) (fun _ _ _ h => h) (Or.inl ⟨by rfl, ?_⟩) (by assumption) ?_
          rotate_left
          · (intro w hSw; (try dsimp only at hSw); (first | (go_simp; done) | (go_simp; with_reducible rfl)))
          simp only [Act.put, List.getElem_toArray, List.getElem_cons_succ, List.getElem_cons_zero, List.setIfInBounds_toArray, List.set_cons_zero, List.set_cons_succ]
          refine wpAnyH_take (i := 4) (oi := _) (v := ?_) rfl (by kernel_rfl) (by kernel_rfl) (by kernel_rfl) (fun _ _ _ h => h) (Or.inl ⟨by rfl, ?_⟩) (by assumption) ?_
          rotate_left
          · (intro w hSw; (try dsimp only at hSw); (first | (go_simp; done) | (go_simp; with_reducible rfl)))
          simp only [Act.put, List.getElem_toArray, List.getElem_cons_succ, List.getElem_cons_zero, List.setIfInBounds_toArray, List.set_cons_zero, List.set_cons_succ]
          refine wpAnyH_take (i := 5) (oi := _) (v := ?_) rfl (by kernel_rfl) (by kernel_rfl) (by kernel_rfl) (fun _ _ _ h => h) (Or.inl ⟨by rfl, ?_⟩) (by assumption) ?_
          rotate_left
          · (intro w hSw; (try dsimp only at hSw); (first | (go_simp; done) | (go_simp; with_reducible rfl)))
          simp only [Act.put, List.getElem_toArray, List.getElem_cons_succ, List.getElem_cons_zero, List.setIfInBounds_toArray, List.set_cons_zero, List.set_cons_succ]
          refine wpAnyH_take (i := 6) (oi := _) (v := ?_) rfl (by kernel_rfl) (by kernel_rfl) (by kernel_rfl) (fun _ _ _ h => h) (Or.inl ⟨by rfl, ?_⟩) (by assumption) ?_
          rotate_left
          · (intro w hSw; (try dsimp only at hSw); (first | (go_simp; done) | (go_simp; with_reducible rfl)))
          simp only [Act.put, List.getElem_toArray, List.getElem_cons_succ, List.getElem_cons_zero, List.setIfInBounds_toArray, List.set_cons_zero, List.set_cons_succ]
          refine wpAnyH_ready (rs := [7]) (by kernel_rfl) (by simp) ?_
          refine AllReadyH.cons rfl (fun K hK => ?_) AllReadyH.nil
          go_simp
          refine (HC1.out _).mono ?_
          rintro e w21 ⟨rfl, hb⟩
          have HX := Lib.hid (HX.out.next hb)
          clear hb
          clear hHeld
          try go_wp2_with fail
          refine hK.out _ _ (⟨HX.out, HX.out.c0, HX.out.c1, (HX.out.below.cell (p := ⟨b, o + k, none⟩) HBL.out).trans HCX.out⟩) (fun hHeld => ?_)
          clear hK K
          refine wpAnyH_ready (rs := [8]) (by kernel_rfl) (by simp) ?_
          refine AllReadyH.cons rfl (fun K hK => ?_) AllReadyH.nil
          go_simp
          refine (HLE.out _ _ _).mono ?_
          rintro e w22 ⟨rfl, rfl⟩
          clear hHeld
          try go_wp2_with fail
          refine hK.out _ _ (⟨HX.out, HX.out.c0, HX.out.c1, (HX.out.below.cell (p := ⟨b, o + k, none⟩) HBL.out).trans HCX.out⟩) (fun hHeld => ?_)
          clear hK K
          refine wpAnyH_take (i := 9) (oi := _) (v := ?_) rfl (by kernel_rfl) (by kernel_rfl) (by kernel_rfl) (fun _ _ _ h => h) (Or.inl ⟨by rfl, ?_⟩) (by assumption) ?_
          rotate_left
          · (intro w hSw; (try dsimp only at hSw); (first | (go_simp; done) | (go_simp; with_reducible rfl)))
          simp only [Act.put, List.getElem_toArray, List.getElem_cons_succ, List.getElem_cons_zero, List.setIfInBounds_toArray, List.set_cons_zero, List.set_cons_succ]
          refine wpAnyH_done (by kernel_rfl) ?_ _
          refine NoPanic.normal ?_
          clear hHeld
          go_wp2_with fail
          go_roundw
          case rel => exact ⟨k + 1, hlt2, by go_num, by rw [HNK.out], HX.out⟩
          case measure => simp [intOf] <;> omega
        · have hE : k = xs.length := by omega
          subst hE
          have h0 := HX.out.c0
          have hnr := nearF_range (g := g) (p := (p : Int)) (by omega) HIN.out xs.length (Nat.le_refl _)
          generalize nearF n g p xs xs.length = m at *
          go_wp2_with fail
          refine (HMO.out _ _ _).mono ?_
          rintro e w4 ⟨rfl, rfl⟩
          by_cases hm0 : 0 < m
          · have HI := Lib.hid (show (if 0 < m then (1 : Int) else 0) = 1 from if_pos hm0)
            go_wp2_with fail
            go_roundw
            case rel => exact ⟨p + 1, by omega, by go_num, by rw [HN1.out], by rw [HN2.out, HI.out], HX.out⟩
            case measure => simp [intOf] <;> omega
          · have HI := Lib.hid (show (if 0 < m then (1 : Int) else 0) = 0 from if_neg hm0)
            go_wp2_with fail
            go_roundw
            case rel => exact ⟨p + 1, by omega, by go_num, by rw [HN1.out], by rw [HN2.out, HI.out] <;> congr 1 <;> omega, HX.out⟩
            case measure => simp [intOf] <;> omega
    · have HE := Lib.hid (show p = n.toNat by omega)
      have h3 : ¬ (xs.length : Int) = 0 := by omega
      have h4 : 0 ≤ freeN n g xs p + (xs.length : Int) - 1 := by omega
      go_wp2_with fail
      refine (HMO.out _ _ _).mono ?_
      rintro e w4 ⟨rfl, rfl⟩
      go_wp2_with fail
      go_ret
      exact ⟨ret_int (by rw [HRF.out, HE.out]), HX.out.below⟩
set_option maxHeartbeats 800000 in
theorem spec_ExploreBound (n : Int) (g : Bool) (v : Value) (xs : List Int) (w : World) (hv : ReadsI w v xs) :
    Calls Try.prog 40 #[rd n g, v] w fun e w' => e = .returned (.tuple #[.int .i64 (eboundR n g xs).1, .bool (eboundR n g xs).2]) ∧ Below w.heap.size w w' := by
  have HS := Lib.hid (fun w hv => l6Starts_any n g v xs w hv)
  have HB := Lib.hid (fun w hv hs => l6Bound_any n g v xs w hv hs)
  have HX := Lib.hid (Boxed.first w n g 27)
  have HV := Lib.hid hv
  clear hv
  unfold rd at *
  go_enter Try.func40, Try.ntmps40
  go_wp2_with fail
  refine (HS.out _ (HV.out.below HX.out.below)).mono ?_
  rintro e w1 ⟨rfl, hb⟩
  have HX := Lib.hid (HX.out.next hb)
  have h0 := HX.out.c0
  have h1 := HX.out.c1
  clear hb
  cases hs : startsB n g xs
  · have HR := Lib.hid (show eboundR n g xs = (0, false) by unfold eboundR; rw [hs]; rfl)
    clear hs
    go_wp2_with fail
    go_ret2
    exact ⟨ret_R HR.out, HX.out.below⟩
  · have HR := Lib.hid (show eboundR n g xs = (boundV n g xs, true) by unfold eboundR; rw [hs]; rfl)
    have HSS := Lib.hid hs
    clear hs
    go_wp2_with fail
    refine (HB.out _ (HV.out.below HX.out.below) HSS.out).mono ?_
    rintro e w2 ⟨rfl, hb⟩
    have HX := Lib.hid (HX.out.next hb)
    clear hb h0 h1
    go_wp2_with fail
    go_ret2
    exact ⟨ret_R HR.out, HX.out.below⟩
set_option maxHeartbeats 800000 in
theorem leastGap_any (n : Int) (g : Bool) (p : Int) (v : Value) (xs : List Int) (w : World) (hv : ReadsI w v xs) (hr : roadB n g = true) (hp : 0 ≤ p ∧ p < n) (hin : Inside1 n xs) :
    Calls Try.prog 85 #[rd n g, .int .i64 p, v] w fun e w' => e = .returned (.int .i64 (nearF n g p xs xs.length)) ∧ Below w.heap.size w w' := by
  have HGA := Lib.hid (fun b w => impl_GapOf n g p b w)
  have HX := Lib.hid (Boxed.first w n g 27)
  have HIN := Lib.hid hin
  have HPL := Lib.hid (fun q (hq : 0 ≤ q ∧ q < n) => (placeB_iff n g q).2 ⟨hr, hq⟩)
  have HP := Lib.hid hp
  obtain ⟨y, c, hvv, hc, hm, hx⟩ := hv
  subst hvv
  unfold maxLen at hm
  have HL := Lib.hid hx
  clear hx hin hr hp
  unfold rd at *
  go_enter Try.func85, Try.ntmps85
  go_wp2_with fail
  go_loopw [7, 16] (fun m i wr => ∃ k : Nat, k ≤ xs.length ∧ i = .int .i64 k ∧ m = .int .i64 (nearF n g p xs k) ∧ Boxed w.heap.size n g w wr) (fun _ i _ => xs.length - (intOf i).toNat)
  case atStart => exact ⟨0, Nat.zero_le _, rfl, rfl, HX.out⟩
  case round =>
    obtain ⟨k, hk, rfl, rfl, hx⟩ := hrel
    clear HX
    have HX := Lib.hid hx
    clear hx
    by_cases hlt : k < xs.length
    · obtain ⟨x, hxk⟩ := get_some hlt
      obtain ⟨b, o, rfl, hbl, hcx0⟩ := HL.out k x hxk
      have hcx : wr.cell? ⟨b, o + k, none⟩ = some (.int .i64 x) := (HX.out.below.cell (p := ⟨b, o + k, none⟩) hbl).trans hcx0
      have HNK := Lib.hid (nearF_next (n := n) (g := g) (p := p) hxk)
      have HG := Lib.hid (gapR_yes (n := n) (g := g) (a := p) (b := x) (by rw [HPL.out p HP.out, HPL.out x (HIN.out k x hxk)]; rfl))
      have h0 := HX.out.c0
      have h1 := HX.out.c1
      clear hcx0 hxk
      generalize nearF n g p xs k = m at *
      go_wp2_with fail
      refine (HGA.out x _).mono ?_
      rw [HG.out]
      rintro e w2 ⟨rfl, hb⟩
      have HX := Lib.hid (HX.out.next hb)
      clear hb h0 h1 hcx
      generalize gapI n g p x = q at *
      rcases Int.lt_trichotomy m q with h | h | h
      all_goals
        go_wp2_with fail
        go_roundw
        case rel => exact ⟨k + 1, by omega, by go_num, by rw [HNK.out] <;> congr 1 <;> omega, HX.out⟩
        case measure => simp [intOf] <;> omega
    · have HE := Lib.hid (show k = xs.length by omega)
      go_wp2_with fail
      go_ret
      exact ⟨ret_int (by rw [HE.out]), HX.out.below⟩
set_option maxHeartbeats 1600000 in
theorem impl_ExploreBound (n : Int) (g : Bool) (v : Value) (xs : List Int) (w : World) (hv : ReadsI w v xs) :
    Calls Try.prog 41 #[rd n g, v] w fun e w' => e = .returned (.tuple #[.int .i64 (eboundR n g xs).1, .bool (eboundR n g xs).2]) ∧ Below w.heap.size w w' := by
  have HS := Lib.hid (fun w hv => areExplorers_any n g v xs w hv)
  have HLG := Lib.hid (fun p w hv hr hp hin => leastGap_any n g p v xs w hv hr hp hin)
  have HDU := Lib.hid (fun a w ha hk => dividedUp_any a xs.length w ha hk)
  have HX := Lib.hid (Boxed.first w n g 27)
  have HV := Lib.hid hv
  obtain ⟨y, c, hvv, hc, hm, hx⟩ := hv
  subst hvv
  unfold maxLen at hm
  clear hx
  unfold rd at *
  go_enter Try.func41, Try.ntmps41
  go_wp2_with fail
  refine (HS.out _ (HV.out.below HX.out.below)).mono ?_
  rintro e w1 ⟨rfl, hb⟩
  have HX := Lib.hid (HX.out.next hb)
  have h0 := HX.out.c0
  clear hb
  cases hs : startsB n g xs
  · have HR := Lib.hid (show eboundR n g xs = (0, false) by unfold eboundR; rw [hs]; rfl)
    clear hs
    go_wp2_with fail
    go_ret2
    exact ⟨ret_R HR.out, HX.out.below⟩
  · have HR := Lib.hid (show eboundR n g xs = (max (farN n g xs n.toNat) ((freeN n g xs n.toNat + xs.length - 1) / xs.length), true) by unfold eboundR; rw [hs]; rfl)
    have hss := (startsB_iff n g xs).1 hs
    have hrr := (roadB_iff n g).1 hss.1
    have hn1 := hrr.1
    have hn2 := hrr.2.1
    have hl1 := hss.2.1
    have hl4 := hss.2.2.1
    have HIN := Lib.hid (starts_inside hs)
    have HRO := Lib.hid hss.1
    clear hss hrr hs
    go_wp2_with fail
    go_loopw [6, 7, 16] (fun f q i wr => ∃ p : Nat, (p : Int) ≤ n ∧ i = .int .i64 p ∧ f = .int .i64 (farN n g xs p) ∧ q = .int .i64 (freeN n g xs p) ∧ Boxed w.heap.size n g w wr) (fun _ _ i _ => n.toNat - (intOf i).toNat)
    case atStart => exact ⟨0, by omega, rfl, rfl, rfl, HX.out⟩
    case round =>
      obtain ⟨p, hp, rfl, rfl, rfl, hx⟩ := hrel
      clear HX h0
      have HX := Lib.hid hx
      have hfr := freeN_range (n := n) (g := g) (xs := xs) p
      clear hx
      by_cases hlt : (p : Int) < n
      · have HN1 := Lib.hid (show farN n g xs (p + 1) = max (farN n g xs p) (nearF n g p xs xs.length) from rfl)
        have HN2 := Lib.hid (show freeN n g xs (p + 1) = freeN n g xs p + if 0 < nearF n g p xs xs.length then 1 else 0 from rfl)
        have h0 := HX.out.c0
        have h1 := HX.out.c1
        generalize farN n g xs p = fa at *
        generalize freeN n g xs p = fr at *
        go_wp2_with fail
        refine (HLG.out p _ (HV.out.below HX.out.below) HRO.out (by omega) HIN.out).mono ?_
        rintro e w4 ⟨rfl, hb⟩
        have HX := Lib.hid (HX.out.next hb)
        clear hb h0 h1
        have hnr := nearF_range (g := g) (p := (p : Int)) (by omega) HIN.out xs.length (Nat.le_refl _)
        generalize nearF n g p xs xs.length = m at *
        by_cases hm0 : 0 < m
        · have HI := Lib.hid (show (if 0 < m then (1 : Int) else 0) = 1 from if_pos hm0)
          rcases Int.lt_trichotomy fa m with h | h | h
          all_goals
            go_wp2_with fail
            go_roundw
            case rel => exact ⟨p + 1, by omega, by go_num, by rw [HN1.out] <;> congr 1 <;> omega, by rw [HN2.out, HI.out], HX.out⟩
            case measure => simp [intOf] <;> omega
        · have HI := Lib.hid (show (if 0 < m then (1 : Int) else 0) = 0 from if_neg hm0)
          rcases Int.lt_trichotomy fa m with h | h | h
          all_goals
            go_wp2_with fail
            go_roundw
            case rel => exact ⟨p + 1, by omega, by go_num, by rw [HN1.out] <;> congr 1 <;> omega, by rw [HN2.out, HI.out] <;> congr 1 <;> omega, HX.out⟩
            case measure => simp [intOf] <;> omega
      · have HE := Lib.hid (show p = n.toNat by omega)
        go_wp2_with fail
        refine (HDU.out _ _ (by omega) (by omega)).mono ?_
        rintro e w4 ⟨rfl, rfl⟩
        generalize hfa : farN n g xs p = fa at *
        generalize hdv : (freeN n g xs p + (xs.length : Int) - 1) / (xs.length : Int) = dv at *
        have HFA := Lib.hid hfa
        have HDV := Lib.hid hdv
        clear hfa hdv
        rcases Int.lt_trichotomy fa dv with h | h | h
        all_goals
          go_wp2_with fail
          go_ret2
          refine ⟨ret_R ?_, HX.out.below⟩
          rw [HR.out, ← HE.out, HFA.out, HDV.out] <;> congr 1 <;> omega
end Go.Proofs.Ytijhbhjapcfddaa
