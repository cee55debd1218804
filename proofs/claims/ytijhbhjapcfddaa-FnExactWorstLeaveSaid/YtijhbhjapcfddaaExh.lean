/-
  What is proved: plain facts on leavers, and the contracts of spec.l6Leavers and spec.l6Leave. Conditions: tables that read as lists of lists of numbers.
-/
import Derived.Test.YtijhbhjapcfddaaExg
import Derived.Test.YtijhbhjapcfddaaFn5
import Derived.Test.YtijhbhjapcfddaaFn2
import Derived.Test.YtijhbhjapcfddaaTba
namespace Go.Proofs.Ytijhbhjapcfddaa
open Go.RowKit
set_option linter.unusedVariables false
set_option linter.unusedSimpArgs false

/-- a valid road and leavers on it -/
def LeavP (n : Int) (g : Bool) (xss : List (List Int)) : Prop := (1 ≤ xss.length ∧ xss.length ≤ 4) ∧ roadB n g = true ∧ ∀ (j : Nat) xs, xss[j]? = some xs → Walk n g xs
open Classical in
noncomputable def leavB (n : Int) (g : Bool) (xss : List (List Int)) : Bool := decide (LeavP n g xss)
theorem leavB_iff (n : Int) (g : Bool) (xss : List (List Int)) : leavB n g xss = true ↔ LeavP n g xss := by
  unfold leavB
  simp
theorem leavB_no {n : Int} {g : Bool} {xss : List (List Int)} (h : ¬ LeavP n g xss) : leavB n g xss = false := by
  cases hb : leavB n g xss
  · rfl
  · exact absurd ((leavB_iff n g xss).1 hb) h
/-- the first time at which one of the first k walks visits p, or -1 -/
def fndF (p : Int) (xss : List (List Int)) : Nat → Int
  | 0 => -1
  | k + 1 => if 0 ≤ firstI (xss.getD k []) p ∧ (fndF p xss k < 0 ∨ firstI (xss.getD k []) p < fndF p xss k) then firstI (xss.getD k []) p else fndF p xss k
theorem fndF_next {p : Int} {xss : List (List Int)} {k : Nat} {xs : List Int} (h : xss[k]? = some xs) : fndF p xss (k + 1) = if 0 ≤ firstI xs p ∧ (fndF p xss k < 0 ∨ firstI xs p < fndF p xss k) then firstI xs p else fndF p xss k := by
  have e : xss.getD k [] = xs := by simp [List.getD, h]
  show (if 0 ≤ firstI (xss.getD k []) p ∧ (fndF p xss k < 0 ∨ firstI (xss.getD k []) p < fndF p xss k) then firstI (xss.getD k []) p else fndF p xss k) = _
  rw [e]
theorem fndF_range {p : Int} {xss : List (List Int)} (hl : ∀ (j : Nat) xs, xss[j]? = some xs → xs.length ≤ 61) : ∀ k, k ≤ xss.length → -1 ≤ fndF p xss k ∧ fndF p xss k ≤ 61
  | 0, _ => by show -1 ≤ (-1 : Int) ∧ (-1 : Int) ≤ 61; omega
  | k + 1, hk => by
    obtain ⟨xs, hx⟩ := get_some (xs := xss) (k := k) (by omega)
    have h1 := fndF_range hl (p := p) k (by omega)
    have h2 := firstI_range xs p
    have h3 := hl k xs hx
    rw [fndF_next hx]
    split <;> omega
/-- the greatest gap to p of the places of the first k walks at time t, and 0 -/
def lngF (n : Int) (g : Bool) (p t : Int) (xss : List (List Int)) : Nat → Int
  | 0 => 0
  | k + 1 => max (lngF n g p t xss k) (gapI n g (atI (xss.getD k []) t) p)
theorem lngF_next {n : Int} {g : Bool} {p t : Int} {xss : List (List Int)} {k : Nat} {xs : List Int} (h : xss[k]? = some xs) : lngF n g p t xss (k + 1) = max (lngF n g p t xss k) (gapI n g (atI xs t) p) := by
  have e : xss.getD k [] = xs := by simp [List.getD, h]
  show max (lngF n g p t xss k) (gapI n g (atI (xss.getD k []) t) p) = _
  rw [e]
theorem atI_inside {n : Int} {xs : List Int} {t : Int} (hin : Inside n xs) (hl : 1 ≤ xs.length) (ht : 0 ≤ t) : 0 ≤ atI xs t ∧ atI xs t < n := by
  obtain ⟨x, hx⟩ := get_some (xs := xs) (k := (min t ((xs.length : Int) - 1)).toNat) (by omega)
  have e : atI xs t = x := by unfold atI; simp [List.getD, hx]
  rw [e]
  exact hin _ x hx
theorem lngF_range {n : Int} {g : Bool} {p t : Int} {xss : List (List Int)} (hw : ∀ (j : Nat) xs, xss[j]? = some xs → Walk n g xs) (hp : 0 ≤ p ∧ p < n) (ht : 0 ≤ t) : ∀ k, k ≤ xss.length → 0 ≤ lngF n g p t xss k ∧ lngF n g p t xss k ≤ n
  | 0, _ => by show (0 : Int) ≤ 0 ∧ (0 : Int) ≤ n; omega
  | k + 1, hk => by
    obtain ⟨xs, hx⟩ := get_some (xs := xss) (k := k) (by omega)
    have h1 := lngF_range hw hp ht k (by omega)
    have h2 := hw k xs hx
    have h3 := gapI_range (g := g) (atI_inside h2.2.2.2.1 h2.2.1 ht) hp
    rw [lngF_next hx]
    omega
/-- the leave time of the exit p, or -1 -/
def leaveV (n : Int) (g : Bool) (xss : List (List Int)) (p : Int) : Int := if fndF p xss xss.length < 0 then -1 else fndF p xss xss.length + lngF n g p (fndF p xss xss.length) xss xss.length
theorem leaveV_ge {n : Int} {g : Bool} {xss : List (List Int)} {p : Int} (h : LeavP n g xss) (hp : 0 ≤ p ∧ p < n) : -1 ≤ leaveV n g xss p := by
  unfold leaveV
  by_cases hf : fndF p xss xss.length < 0
  · rw [if_pos hf]
    omega
  · rw [if_neg hf]
    have := lngF_range (t := fndF p xss xss.length) h.2.2 hp (by omega) xss.length (Nat.le_refl _)
    omega
def l6LRel (n : Int) (g : Bool) (xss : List (List Int)) (base : Nat) (w : World) (r i : Value) (wr : World) : Prop :=
  r = .bool false ∧ Boxed base n g w wr ∧ ∃ k : Nat, k ≤ xss.length ∧ k ≤ 5 ∧ i = .int .i64 k ∧ ∀ (j : Nat) xs, j < k → xss[j]? = some xs → Walk n g xs
set_option maxHeartbeats 800000 in
set_option maxRecDepth 20000 in
theorem l6Leavers_any (n : Int) (g : Bool) (v : Value) (xss : List (List Int)) (w : World) (hv : ReadsL w v xss) :
    Calls Try.prog 88 #[rd n g, v] w fun e w' => e = .returned (.bool (leavB n g xss)) ∧ Below w.heap.size w w' := by
  have HLW := Lib.hid (fun v xs w hv => l2Walk_is n g v xs w hv)
  have HRO := Lib.hid (fun w => l2Road_any n g w)
  have HIN := Lib.hid (fun w => inB_any xss.length 1 4 w)
  have HX := Lib.hid (Boxed.first w n g 27)
  have HV := Lib.hid hv
  obtain ⟨y, c, hvv, hc, hm, hx⟩ := hv
  subst hvv
  unfold maxLen at hm
  clear hx
  unfold rd at *
  go_enter Try.func88, Try.ntmps88
  go_wp2_with fail
  go_loopw [4, 5] (fun r i wr => l6LRel n g xss w.heap.size w r i wr) (fun _ i _ => xss.length - (intOf i).toNat)
  case atStart => exact ⟨rfl, HX.out, 0, Nat.zero_le _, Nat.zero_le _, rfl, fun j x hj => by omega⟩
  case round =>
    obtain ⟨rfl, hx, k, hk, hk2, rfl, hpre⟩ := hrel
    clear HX
    have HX := Lib.hid hx
    have HPR := Lib.hid hpre
    have h0 := HX.out.c0
    have h1 := HX.out.c1
    clear hx hpre
    by_cases hlt : k < xss.length
    · obtain ⟨xs, hxk⟩ := get_some hlt
      obtain ⟨b, o, a3, c3, he, hbl, hcx0, hrx⟩ := lists_in HV.out hxk
      subst he
      have HBL := Lib.hid hbl
      have HCX := Lib.hid hcx0
      have HRX := Lib.hid hrx
      have HK := Lib.hid hxk
      have hi0 : 0 ≤ (k : Int) := by omega
      have hi1 : (k : Int) < xss.length := by omega
      clear hcx0 hxk hrx hbl
      by_cases h6 : k ≤ 4
      · have hi6 : (k : Int) ≤ 4 := by omega
        clear h0 h1
        go_wp2_with fail
        refine wp_region_noPanic ?_
        have HX := Lib.hid (HX.out.next (below_drewN _ 1))
        refine wp_region_held_drew (S := fun w' => Boxed w.heap.size n g w w' ∧ w'.cell? ⟨w.heap.size, 0, none⟩ = some (.int .i64 n) ∧ w'.cell? ⟨w.heap.size, 1, none⟩ = some (.bool g) ∧ w'.cell? ⟨b, o + k, none⟩ = some (.slice a3 xs.length c3)) (by kernel_rfl) (⟨HX.out, HX.out.c0, HX.out.c1, (HX.out.below.cell (p := ⟨b, o + k, none⟩) HBL.out).trans HCX.out⟩) (fun hHeld => ?_)
        refine wpAnyH_take (i := 0) (oi := _) (v := ?_) rfl (by kernel_rfl) (by kernel_rfl) (by kernel_rfl) (fun _ _ _ h => h) (Or.inl ⟨by rfl, ?_⟩) (by assumption) ?_
        rotate_left
        · (intro w hSw; (try dsimp only at hSw); (first | (go_simp; done) | (go_simp; with_reducible rfl)))
        simp only [Act.put, List.getElem_toArray, List.getElem_cons_succ, List.getElem_cons_zero, List.setIfInBounds_toArray, List.set_cons_zero, List.set_cons_succ]
        refine wpAnyH_take (i := 1) (oi := _) (v := ?_) rfl (by kernel_rfl) (by kernel_rfl) (by kernel_rfl) (fun _ _ _ h => h) (Or.inl ⟨by rfl, ?_⟩) (by assumption) ?_
        rotate_left
        · (intro w hSw; (try dsimp only at hSw); (first | (go_simp; done) | (go_simp; with_reducible rfl)))
        simp only [Act.put, List.getElem_toArray, List.getElem_cons_succ, List.getElem_cons_zero, List.setIfInBounds_toArray, List.set_cons_zero, List.set_cons_succ]
        refine wpAnyH_take (i := 2) (oi := _) (v := ?_) rfl (by kernel_rfl) (by kernel_rfl) (by kernel_rfl) (fun _ _ _ h => h) (Or.inl ⟨by rfl, ?_⟩) (by assumption) ?_
        rotate_left
        · (intro w hSw; (try dsimp only at hSw); (first | (go_simp; done) | (go_simp; with_reducible rfl)))
        simp only [Act.put, List.getElem_toArray, List.getElem_cons_succ, List.getElem_cons_zero, List.setIfInBounds_toArray, List.set_cons_zero, List.set_cons_succ]
        refine wpAnyH_take (i := 3) (oi := _) (v := ?_) rfl (by kernel_rfl) (by kernel_rfl) (by kernel_rfl) (fun _ _ _ h => h) (Or.inl ⟨by rfl, ?_⟩) (by assumption) ?_
        rotate_left
        · (intro w hSw; (try dsimp only at hSw); (first | (go_simp; done) | (go_simp; with_reducible rfl)))
        simp only [Act.put, List.getElem_toArray, List.getElem_cons_succ, List.getElem_cons_zero, List.setIfInBounds_toArray, List.set_cons_zero, List.set_cons_succ]
        refine wpAnyH_take (i := 4) (oi := _) (v := ?_) rfl (by kernel_rfl) (by kernel_rfl) (by kernel_rfl) (fun _ _ _ h => h) (Or.inl ⟨by rfl, ?_⟩) (by assumption) ?_
        rotate_left
        · (intro w hSw; (try dsimp only at hSw); (first | (go_simp; done) | (go_simp; with_reducible rfl)))
        simp only [Act.put, List.getElem_toArray, List.getElem_cons_succ, List.getElem_cons_zero, List.setIfInBounds_toArray, List.set_cons_zero, List.set_cons_succ]
        refine wpAnyH_ready (rs := [5]) (by kernel_rfl) (by simp) ?_
        refine AllReadyH.cons rfl (fun K hK => ?_) AllReadyH.nil
        go_simp
        refine (HLW.out _ xs _ (HRX.out.below HX.out.below)).mono ?_
        rintro e w21 ⟨rfl, hb⟩
        have HX := Lib.hid (HX.out.next hb)
        clear hb
        clear hHeld
        try go_wp2_with fail
        refine hK.out _ _ (⟨HX.out, HX.out.c0, HX.out.c1, (HX.out.below.cell (p := ⟨b, o + k, none⟩) HBL.out).trans HCX.out⟩) (fun hHeld => ?_)
        clear hK K
        refine wpAnyH_take (i := 6) (oi := _) (v := ?_) rfl (by kernel_rfl) (by kernel_rfl) (by kernel_rfl) (fun _ _ _ h => h) (Or.inl ⟨by rfl, ?_⟩) (by assumption) ?_
        rotate_left
        · (intro w hSw; (try dsimp only at hSw); (first | (go_simp; done) | (go_simp; with_reducible rfl)))
        simp only [Act.put, List.getElem_toArray, List.getElem_cons_succ, List.getElem_cons_zero, List.setIfInBounds_toArray, List.set_cons_zero, List.set_cons_succ]
        refine wpAnyH_done (by kernel_rfl) ?_ _
        refine NoPanic.normal ?_
        clear hHeld
        cases hw : walkD n g xs
        · have HR := Lib.hid (leavB_no (n := n) (g := g) (xss := xss) (fun h => by rw [(walkD_iff n g xs).2 (h.2.2 k xs HK.out)] at hw; cases hw))
          clear hw
          go_wp2_with fail
          go_ret
          exact ⟨ret_bool HR.out.symm, HX.out.below⟩
        · have HWK := Lib.hid ((walkD_iff n g xs).1 hw)
          clear hw
          go_wp2_with fail
          go_roundw
          case rel =>
            refine ⟨rfl, HX.out, k + 1, by omega, by omega, by go_num, fun j q hj hq => ?_⟩
            rcases Nat.lt_succ_iff_lt_or_eq.1 hj with hj | rfl
            · exact HPR.out j q hj hq
            · have e := HK.out.symm.trans hq
              cases e
              exact HWK.out
          case measure => simp [intOf] <;> omega
      · have hi6 : ¬ (k : Int) ≤ 4 := by omega
        have HR := Lib.hid (leavB_no (n := n) (g := g) (xss := xss) (fun h => by have := h.1; omega))
        have HB := Lib.hid (inB_no (lo := 1) (hi := 4) (x := xss.length) (by omega))
        go_wp2_with fail
        refine (HRO.out _).mono ?_
        rintro e w1 ⟨rfl, hb⟩
        have HX := Lib.hid (HX.out.next hb)
        clear hb h0 h1
        cases hr : roadB n g
        · go_wp2_with fail
          go_ret
          exact ⟨ret_bool HR.out.symm, HX.out.below⟩
        · go_wp2_with fail
          refine (HIN.out _).mono ?_
          rw [HB.out]
          rintro e w1 ⟨rfl, rfl⟩
          go_wp2_with fail
          go_ret
          exact ⟨ret_bool HR.out.symm, HX.out.below⟩
    · have hke : k = xss.length := by omega
      have HE := Lib.hid hke
      have HB := Lib.hid (fun (hr : roadB n g = true) => show inB 1 4 xss.length = leavB n g xss by
        rw [Bool.eq_iff_iff, inB_iff, leavB_iff]
        constructor
        · intro h
          exact ⟨by omega, hr, fun j x hx => HPR.out j x (by have := (List.getElem?_eq_some_iff.1 hx).1; omega) hx⟩
        · intro h
          have := h.1
          omega)
      clear hke
      go_wp2_with fail
      refine (HRO.out _).mono ?_
      rintro e w1 ⟨rfl, hb⟩
      have HX := Lib.hid (HX.out.next hb)
      clear hb h0 h1
      cases hr : roadB n g
      · have HR := Lib.hid (leavB_no (n := n) (g := g) (xss := xss) (fun h => by have := h.2.1; rw [hr] at this; cases this))
        go_wp2_with fail
        go_ret
        exact ⟨ret_bool HR.out.symm, HX.out.below⟩
      · have HR := Lib.hid (HB.out hr)
        go_wp2_with fail
        refine (HIN.out _).mono ?_
        rintro e w1 ⟨rfl, rfl⟩
        go_wp2_with fail
        go_ret
        exact ⟨ret_bool HR.out, HX.out.below⟩
set_option maxHeartbeats 1600000 in
set_option maxRecDepth 20000 in
theorem l6Leave_any (n : Int) (g : Bool) (v : Value) (xss : List (List Int)) (p : Int) (w : World) (hv : ReadsL w v xss) (hl : LeavP n g xss) (hp : 0 ≤ p ∧ p < n) :
    Calls Try.prog 89 #[rd n g, v, .int .i64 p] w fun e w' => e = .returned (.int .i64 (leaveV n g xss p)) ∧ Below w.heap.size w w' := by
  have hrr := (roadB_iff n g).1 hl.2.1
  have hn1 := hrr.1
  have hn2 := hrr.2.1
  have HFI := Lib.hid (fun v xs w hv => l2First_any v xs p w hv)
  have HAT := Lib.hid (fun v xs t w hv hl ht => l2At_any v xs t w hv hl ht)
  have HGA := Lib.hid (fun a w ha => l2Gap_any n g a p w ⟨by omega, hn2⟩ ha (by omega))
  have HMO := Lib.hid (fun a b w => l1Most_any a b w)
  have HX := Lib.hid (Boxed.first w n g 27)
  have HV := Lib.hid hv
  have HW := Lib.hid hl.2.2
  have HFR := Lib.hid (fun k hk => fndF_range (p := p) (xss := xss) (fun j xs hx => (hl.2.2 j xs hx).2.2.1) k hk)
  have HLR := Lib.hid (fun t (ht : 0 ≤ t) k hk => lngF_range (n := n) (g := g) (p := p) (t := t) hl.2.2 hp ht k hk)
  have HLV := Lib.hid (show leaveV n g xss p = if fndF p xss xss.length < 0 then -1 else fndF p xss xss.length + lngF n g p (fndF p xss xss.length) xss xss.length from rfl)
  obtain ⟨y, c, hvv, hc, hm, hx⟩ := hv
  subst hvv
  unfold maxLen at hm
  clear hx hrr hl
  unfold rd at *
  go_enter Try.func89, Try.ntmps89
  go_wp2_with fail
  go_loopw [7, 8] (fun f i wr => ∃ k : Nat, k ≤ xss.length ∧ i = .int .i64 k ∧ f = .int .i64 (fndF p xss k) ∧ Boxed w.heap.size n g w wr) (fun _ i _ => xss.length - (intOf i).toNat)
  case atStart => exact ⟨0, Nat.zero_le _, rfl, rfl, HX.out⟩
  case round =>
    obtain ⟨k, hk, rfl, rfl, hx⟩ := hrel
    clear HX
    have HX := Lib.hid hx
    have hfr := HFR.out k hk
    clear hx
    by_cases hlt : k < xss.length
    · obtain ⟨xs, hxk⟩ := get_some hlt
      obtain ⟨b, o, a3, c3, he, hbl, hcx0, hrx⟩ := lists_in HV.out hxk
      subst he
      have hcx : wr.cell? ⟨b, o + k, none⟩ = some (.slice a3 xs.length c3) := (HX.out.below.cell (p := ⟨b, o + k, none⟩) hbl).trans hcx0
      have HRX := Lib.hid hrx
      have HNK := Lib.hid (fndF_next (p := p) hxk)
      have hi0 : 0 ≤ (k : Int) := by omega
      have hi1 : (k : Int) < xss.length := by omega
      clear hcx0 hxk hrx hbl
      generalize fndF p xss k = f at *
      go_wp2_with fail
      refine (HFI.out _ xs _ (HRX.out.below HX.out.below)).mono ?_
      rintro e w2 ⟨rfl, rfl⟩
      clear hcx
      generalize firstI xs p = t at *
      by_cases ht : 0 ≤ t
      · by_cases hf : f < 0
        · have HC := Lib.hid (show (if 0 ≤ t ∧ (f < 0 ∨ t < f) then t else f) = t from if_pos ⟨ht, Or.inl hf⟩)
          go_wp2_with fail
          go_roundw
          case rel => exact ⟨k + 1, by omega, by go_num, by rw [HNK.out, HC.out], HX.out⟩
          case measure => simp [intOf] <;> omega
        · by_cases htf : t < f
          · have HC := Lib.hid (show (if 0 ≤ t ∧ (f < 0 ∨ t < f) then t else f) = t from if_pos ⟨ht, Or.inr htf⟩)
            go_wp2_with fail
            go_roundw
            case rel => exact ⟨k + 1, by omega, by go_num, by rw [HNK.out, HC.out], HX.out⟩
            case measure => simp [intOf] <;> omega
          · have HC := Lib.hid (show (if 0 ≤ t ∧ (f < 0 ∨ t < f) then t else f) = f from if_neg (fun h => by omega))
            go_wp2_with fail
            go_roundw
            case rel => exact ⟨k + 1, by omega, by go_num, by rw [HNK.out, HC.out], HX.out⟩
            case measure => simp [intOf] <;> omega
      · have HC := Lib.hid (show (if 0 ≤ t ∧ (f < 0 ∨ t < f) then t else f) = f from if_neg (fun h => by omega))
        go_wp2_with fail
        go_roundw
        case rel => exact ⟨k + 1, by omega, by go_num, by rw [HNK.out, HC.out], HX.out⟩
        case measure => simp [intOf] <;> omega
    · have hE : k = xss.length := by omega
      subst hE
      by_cases hf : fndF p xss xss.length < 0
      · have HR := Lib.hid (HLV.out.trans (if_pos hf))
        go_wp2_with fail
        go_ret
        exact ⟨ret_int HR.out.symm, HX.out.below⟩
      · have HR := Lib.hid (HLV.out.trans (if_neg hf))
        have HLF := Lib.hid (fun k hk => HLR.out (fndF p xss xss.length) (by omega) k hk)
        have hfb := HFR.out xss.length (Nat.le_refl _)
        generalize hfd : fndF p xss xss.length = f at *
        clear HLV HLR HFR hfd
        go_wp2_with fail
        go_loopw [10, 11] (fun l i wr => ∃ k : Nat, k ≤ xss.length ∧ i = .int .i64 k ∧ l = .int .i64 (f + lngF n g p f xss k) ∧ Boxed w.heap.size n g w wr) (fun _ i _ => xss.length - (intOf i).toNat)
        case atStart => exact ⟨0, Nat.zero_le _, rfl, by show Value.int .i64 f = .int .i64 (f + 0); rw [Int.add_zero], HX.out⟩
        case round =>
          obtain ⟨k, hk2, rfl, rfl, hx⟩ := hrel
          clear HX
          have HX := Lib.hid hx
          have hlr := HLF.out k hk2
          clear hx
          by_cases hlt : k < xss.length
          · obtain ⟨xs, hxk⟩ := get_some hlt
            obtain ⟨b, o, a3, c3, he, hbl, hcx0, hrx⟩ := lists_in HV.out hxk
            subst he
            have HBL := Lib.hid hbl
            have HCX := Lib.hid hcx0
            have HRX := Lib.hid hrx
            have HWK := Lib.hid (HW.out k xs hxk)
            have hat := atI_inside (t := f) HWK.out.2.2.2.1 HWK.out.2.1 (by omega)
            have hga := gapI_range (g := g) hat hp
            have HNK := Lib.hid (lngF_next (n := n) (g := g) (p := p) (t := f) hxk)
            have HC1 := Lib.hid (HGA.out (atI xs f) · (by omega))
            have hi0 : 0 ≤ (k : Int) := by omega
            have hi1 : (k : Int) < xss.length := by omega
            have hf0 : 0 ≤ f := by omega
            clear hcx0 hxk hrx hbl
            generalize lngF n g p f xss k = l at *
            generalize hgg : gapI n g (atI xs f) p = gg at *
            have HGG := Lib.hid hgg
            clear hgg
            have hwr : IntKind.i64.wrap (f + gg) = f + gg := IntWalk.i64_in _ (by omega)
            go_wp2_with fail
            refine wp_region_noPanic ?_
            have HX := Lib.hid (HX.out.next (below_drewN _ 1))
            refine wp_region_held_drew (S := fun w' => Boxed w.heap.size n g w w' ∧ w'.cell? ⟨w.heap.size, 0, none⟩ = some (.int .i64 n) ∧ w'.cell? ⟨w.heap.size, 1, none⟩ = some (.bool g) ∧ w'.cell? ⟨b, o + k, none⟩ = some (.slice a3 xs.length c3)) (by kernel_rfl) (⟨HX.out, HX.out.c0, HX.out.c1, (HX.out.below.cell (p := ⟨b, o + k, none⟩) HBL.out).trans HCX.out⟩) (fun hHeld => ?_)
            refine wpAnyH_take (i := 0) (oi := _) (v := ?_) rfl (by kernel_rfl) (by kernel_rfl) (by kernel_rfl) (fun _ _ _ h => h) (Or.inl ⟨by rfl, ?_⟩) (by assumption) ?_
            rotate_left
            · (intro w hSw; (try dsimp only at hSw); (first | (go_simp; done) | (go_simp; with_reducible rfl)))
            simp only [Act.put, List.getElem_toArray, List.getElem_cons_succ, List.getElem_cons_zero, List.setIfInBounds_toArray, List.set_cons_zero, List.set_cons_succ]
            refine wpAnyH_take (i := 1) (oi := _) (v := ?_) rfl (by kernel_rfl) (by kernel_rfl) (by kernel_rfl) (fun _ _ _ h => h) (Or.inl ⟨by rfl, ?_⟩) (by assumption) ?_
            rotate_left
            · (intro w hSw; (try dsimp only at hSw); (first | (go_simp; done) | (go_simp; with_reducible rfl)))
            simp only [Act.put, List.getElem_toArray, List.getElem_cons_succ, List.getElem_cons_zero, List.setIfInBounds_toArray, List.set_cons_zero, List.set_cons_succ]
            refine wpAnyH_take (i := 2) (oi := _) (v := ?_) rfl (by kernel_rfl) (by kernel_rfl) (by kernel_rfl) (fun _ _ _ h => h) (Or.inl ⟨by rfl, ?_⟩) (by assumption) ?_
            rotate_left
            · (intro w hSw; (try dsimp only at hSw); (first | (go_simp; done) | (go_simp; with_reducible rfl)))
            simp only [Act.put, List.getElem_toArray, List.getElem_cons_succ, List.getElem_cons_zero, List.setIfInBounds_toArray, List.set_cons_zero, List.set_cons_succ]
            refine wpAnyH_take (i := 3) (oi := _) (v := ?_) rfl (by kernel_rfl) (by kernel_rfl) (by kernel_rfl) (fun _ _ _ h => h) (Or.inl ⟨by rfl, ?_⟩) (by assumption) ?_
            rotate_left
            · (intro w hSw; (try dsimp only at hSw); (first | (go_simp; done) | (go_simp; with_reducible rfl)))
            simp only [Act.put, List.getElem_toArray, List.getElem_cons_succ, List.getElem_cons_zero, List.setIfInBounds_toArray, List.set_cons_zero, List.set_cons_succ]
            refine wpAnyH_take (i := 4) (oi := _) (v := ?_) rfl (by kernel_rfl) (by kernel_rfl) (by kernel_rfl) (fun _ _ _ h => h) (Or.inl ⟨by rfl, ?_⟩) (by assumption) ?_
            rotate_left
            · (intro w hSw; (try dsimp only at hSw); (first | (go_simp; done) | (go_simp; with_reducible rfl)))
            simp only [Act.put, List.getElem_toArray, List.getElem_cons_succ, List.getElem_cons_zero, List.setIfInBounds_toArray, List.set_cons_zero, List.set_cons_succ]
            refine wpAnyH_take (i := 5) (oi := _) (v := ?_) rfl (by kernel_rfl) (by kernel_rfl) (by kernel_rfl) (fun _ _ _ h => h) (Or.inl ⟨by rfl, ?_⟩) (by assumption) ?_
            rotate_left
            · (intro w hSw; (try dsimp only at hSw); (first | (go_simp; done) | (go_simp; with_reducible rfl)))
            simp only [Act.put, List.getElem_toArray, List.getElem_cons_succ, List.getElem_cons_zero, List.setIfInBounds_toArray, List.set_cons_zero, List.set_cons_succ]
            refine wpAnyH_take (i := 6) (oi := _) (v := ?_) rfl (by kernel_rfl) (by kernel_rfl) (by kernel_rfl) (fun _ _ _ h => h) (Or.inl ⟨by rfl, ?_⟩) (by assumption) ?_
            rotate_left
            · (intro w hSw; (try dsimp only at hSw); (first | (go_simp; done) | (go_simp; with_reducible rfl)))
            simp only [Act.put, List.getElem_toArray, List.getElem_cons_succ, List.getElem_cons_zero, List.setIfInBounds_toArray, List.set_cons_zero, List.set_cons_succ]
            refine wpAnyH_take (i := 7) (oi := _) (v := ?_) rfl (by kernel_rfl) (by kernel_rfl) (by kernel_rfl) (fun _ _ _ h => h) (Or.inl ⟨by rfl, ?_⟩) (by assumption) ?_
            rotate_left
            · (intro w hSw; (try dsimp only at hSw); (first | (go_simp; done) | (go_simp; with_reducible rfl)))
            simp only [Act.put, List.getElem_toArray, List.getElem_cons_succ, List.getElem_cons_zero, List.setIfInBounds_toArray, List.set_cons_zero, List.set_cons_succ]
            refine wpAnyH_take (i := 9) (oi := _) (v := ?_) rfl (by kernel_rfl) (by kernel_rfl) (by kernel_rfl) (fun _ _ _ h => h) (Or.inl ⟨by rfl, ?_⟩) (by assumption) ?_
            rotate_left
            · (intro w hSw; (try dsimp only at hSw); (first | (go_simp; done) | (go_simp; with_reducible rfl)))
            simp only [Act.put, List.getElem_toArray, List.getElem_cons_succ, List.getElem_cons_zero, List.setIfInBounds_toArray, List.set_cons_zero, List.set_cons_succ]
            refine wpAnyH_ready (rs := [8]) (by kernel_rfl) (by simp) ?_
            refine AllReadyH.cons rfl (fun K hK => ?_) AllReadyH.nil
            go_simp
            refine (HAT.out _ xs f _ (HRX.out.below HX.out.below) HWK.out.2.1 hf0).mono ?_
            rintro e w21 ⟨rfl, rfl⟩
            clear hHeld
            try go_wp2_with fail
            refine hK.out _ _ (⟨HX.out, HX.out.c0, HX.out.c1, (HX.out.below.cell (p := ⟨b, o + k, none⟩) HBL.out).trans HCX.out⟩) (fun hHeld => ?_)
            clear hK K
            refine wpAnyH_ready (rs := [10]) (by kernel_rfl) (by simp) ?_
            refine AllReadyH.cons rfl (fun K hK => ?_) AllReadyH.nil
            go_simp
            refine (HC1.out _).mono ?_
            rintro e w22 ⟨rfl, hb⟩
            have HX := Lib.hid (HX.out.next hb)
            clear hb
            clear hHeld
            try go_wp2_with fail
            refine hK.out _ _ (⟨HX.out, HX.out.c0, HX.out.c1, (HX.out.below.cell (p := ⟨b, o + k, none⟩) HBL.out).trans HCX.out⟩) (fun hHeld => ?_)
            clear hK K
            refine wpAnyH_take (i := 11) (oi := _) (v := ?_) rfl (by kernel_rfl) (by kernel_rfl) (by kernel_rfl) (fun _ _ _ h => h) (Or.inl ⟨by rfl, ?_⟩) (by assumption) ?_
            rotate_left
            · (intro w hSw; (try dsimp only at hSw); (first | (go_simp; done) | (go_simp; with_reducible rfl)))
            simp only [Act.put, List.getElem_toArray, List.getElem_cons_succ, List.getElem_cons_zero, List.setIfInBounds_toArray, List.set_cons_zero, List.set_cons_succ]
            refine wpAnyH_ready (rs := [12]) (by kernel_rfl) (by simp) ?_
            refine AllReadyH.cons rfl (fun K hK => ?_) AllReadyH.nil
            go_simp
            refine (HMO.out _ _ _).mono ?_
            rintro e w23 ⟨rfl, rfl⟩
            clear hHeld
            try go_wp2_with fail
            refine hK.out _ _ (⟨HX.out, HX.out.c0, HX.out.c1, (HX.out.below.cell (p := ⟨b, o + k, none⟩) HBL.out).trans HCX.out⟩) (fun hHeld => ?_)
            clear hK K
            refine wpAnyH_take (i := 13) (oi := _) (v := ?_) rfl (by kernel_rfl) (by kernel_rfl) (by kernel_rfl) (fun _ _ _ h => h) (Or.inl ⟨by rfl, ?_⟩) (by assumption) ?_
            rotate_left
            · (intro w hSw; (try dsimp only at hSw); (first | (go_simp; done) | (go_simp; with_reducible rfl)))
            simp only [Act.put, List.getElem_toArray, List.getElem_cons_succ, List.getElem_cons_zero, List.setIfInBounds_toArray, List.set_cons_zero, List.set_cons_succ]
            refine wpAnyH_done (by kernel_rfl) ?_ _
            refine NoPanic.normal ?_
            clear hHeld
            go_wp2_with fail
            go_roundw
            case rel => exact ⟨k + 1, by omega, by go_num, by rw [HNK.out] <;> congr 1 <;> omega, HX.out⟩
            case measure => simp [intOf] <;> omega
          · have hE : k = xss.length := by omega
            subst hE
            go_wp2_with fail
            go_ret
            exact ⟨ret_int HR.out.symm, HX.out.below⟩
end Go.Proofs.Ytijhbhjapcfddaa
