/-
  What is proved: the contracts of spec.IdleTimes, spec.l5Pause and spec.PauseOf. Conditions: slices that read as tables.
-/
import Derived.Test.YtijhbhjapcfddaaVtb
import Derived.Test.YtijhbhjapcfddaaVtd
namespace Go.Proofs.Ytijhbhjapcfddaa
open Go.RowKit
set_option linter.unusedVariables false
set_option linter.unusedSimpArgs false

/-- the greatest of the first k numbers, at least 0 -/
def mostV (f : Nat → Int) : Nat → Int
  | 0 => 0
  | k + 1 => max (mostV f k) (f k)
/-- none of the first k numbers is negative -/
def allV (f : Nat → Int) : Nat → Bool
  | 0 => true
  | k + 1 => allV f k && decide (0 ≤ f k)
def pseV (f : Nat → Int) (N : Nat) : Int := if allV f N = true then mostV f N else -1
theorem mostV_low (f : Nat → Int) : ∀ k, 0 ≤ mostV f k
  | 0 => Int.le_refl _
  | k + 1 => Int.le_trans (mostV_low f k) (Int.le_max_left _ _)
theorem mostV_high {f : Nat → Int} {B : Int} (hB : 0 ≤ B) : ∀ k, (∀ j, j < k → f j ≤ B) → mostV f k ≤ B
  | 0, _ => hB
  | k + 1, h => Int.max_le.2 ⟨mostV_high hB k (fun j hj => h j (by omega)), h k (by omega)⟩
theorem allV_iff (f : Nat → Int) : ∀ k, allV f k = true ↔ ∀ j, j < k → 0 ≤ f j
  | 0 => by simp [allV]
  | k + 1 => by
    show (allV f k && decide (0 ≤ f k)) = true ↔ _
    rw [Bool.and_eq_true, allV_iff f k, decide_eq_true_eq]
    constructor
    · rintro ⟨h1, h2⟩ j hj
      by_cases h : j < k
      · exact h1 j h
      · obtain rfl : j = k := by omega
        exact h2
    · intro h
      exact ⟨fun j hj => h j (by omega), h k (by omega)⟩
theorem pseV_neg {f : Nat → Int} {N k : Nat} (hk : k < N) (h : f k < 0) : pseV f N = -1 := by
  unfold pseV
  rw [if_neg]
  intro h2
  have := (allV_iff f N).1 h2 k hk
  omega
theorem pseV_all {f : Nat → Int} {N : Nat} (h : allV f N = true) : pseV f N = mostV f N := by unfold pseV; rw [if_pos h]
/-- what IdleTimes answers -/
noncomputable def idleR (n : Int) (g : Bool) (xss : List (List Int)) : List Int × Bool := if patD n g xss = true then (rowF (idlF xss (xss.getD 0 []).length) n.toNat, true) else ([], false)
theorem idleR_no {n : Int} {g : Bool} {xss : List (List Int)} (h : patD n g xss = false) : idleR n g xss = ([], false) := by unfold idleR; rw [if_neg (by rw [h]; exact Bool.false_ne_true)]
theorem idleR_yes {N : Nat} {g : Bool} {xss : List (List Int)} {L : Nat} (h : patD N g xss = true) (hL : (xss.getD 0 []).length = L) : idleR N g xss = (rowF (idlF xss L) N, true) := by unfold idleR; rw [if_pos h, hL]; rfl
theorem idleR_len (n : Int) (g : Bool) (xss : List (List Int)) : (idleR n g xss).1.length ≤ 24 := by
  unfold idleR
  split
  · rename_i h
    have := (roadB_iff n g).1 ((patD_iff n g xss).1 h).2.2.2
    rw [rowF_len]
    omega
  · simp
/-- what PauseOf answers -/
noncomputable def pauR (n : Int) (g : Bool) (xss : List (List Int)) : Int × Bool := if patD n g xss = true ∧ allV (idlF xss (xss.getD 0 []).length) n.toNat = true then (mostV (idlF xss (xss.getD 0 []).length) n.toNat, true) else (0, false)
theorem pauR_no {n : Int} {g : Bool} {xss : List (List Int)} (h : patD n g xss = false) : pauR n g xss = (0, false) := by unfold pauR; rw [if_neg (fun h2 => by rw [h] at h2; cases h2.1)]
theorem pauR_neg {N : Nat} {g : Bool} {xss : List (List Int)} {L : Nat} (hL : (xss.getD 0 []).length = L) (h : allV (idlF xss L) N = false) : pauR N g xss = (0, false) := by unfold pauR; rw [hL, if_neg (fun h2 => by have h3 := h2.2; rw [show ((N : Int)).toNat = N from rfl, h] at h3; cases h3)]
theorem pauR_yes {N : Nat} {g : Bool} {xss : List (List Int)} {L : Nat} (h : patD N g xss = true) (hL : (xss.getD 0 []).length = L) (h2 : allV (idlF xss L) N = true) : pauR N g xss = (mostV (idlF xss L) N, true) := by unfold pauR; rw [hL, if_pos ⟨h, h2⟩]; rfl
set_option maxHeartbeats 800000 in
theorem spec_IdleTimes (n : Int) (g : Bool) (v : Value) (xss : List (List Int)) (w : World) (hv : ReadsL w v xss) :
    Calls Try.prog 57 #[rd n g, v] w (OwnsB w.heap.size (idleR n g xss).1 (idleR n g xss).2 w) := by
  have HGO := Lib.hid (fun v xss w hv => l5Good_any n g v xss w hv)
  have HV := Lib.hid hv
  cases hp : patD n g xss
  · have HR := Lib.hid (idleR_no hp)
    have HX := Lib.hid (Boxed.first w n g 27)
    have HP := Lib.hid hp
    clear hp
    generalize idleR n g xss = R at *
    unfold rd at *
    go_enter Try.func57, Try.ntmps57
    go_wp2_with fail
    refine (HGO.out _ _ _ (HV.out.below HX.out.below)).mono ?_
    rintro e w1 ⟨rfl, hb⟩
    have HX := Lib.hid (HX.out.next hb)
    have hx0 := HX.out.c0
    have hx1 := HX.out.c1
    clear hb
    rw [HP.out]
    have HO := Lib.hid (made_at w1 w.heap.size w1.heap.size rfl (Nat.le_of_lt HX.out.size))
    have HX2 := Lib.hid (HX.out.next (below_new w1 (.cells #[] 3)))
    go_wp2_with fail
    go_ret2
    exact owns_VB HR.out HO.out HX2.out.below
  · have hpx := (patD_iff n g xss).1 hp
    have hrd := (roadB_iff n g).1 hpx.2.2.2
    obtain ⟨N, hN⟩ : ∃ N : Nat, n = N := ⟨n.toNat, by omega⟩
    subst hN
    obtain ⟨L, hL1, hL60, hL0, hrx⟩ := pat_rows hpx
    have HR := Lib.hid (idleR_yes hp hL0)
    have HT := Lib.hid (fun v w hv => l5Idle_any N g v xss L w hv (fun j xs h => (hrx j xs h).1) ⟨hL1, hL60⟩ ⟨hpx.1, hpx.2.1⟩ (by omega))
    have HX := Lib.hid (Boxed.first w N g 27)
    have HP := Lib.hid hp
    clear hp hpx hrx hL0 hrd
    generalize idleR N g xss = R at *
    unfold rd at *
    go_enter Try.func57, Try.ntmps57
    go_wp2_with fail
    refine (HGO.out _ _ _ (HV.out.below HX.out.below)).mono ?_
    rintro e w1 ⟨rfl, hb⟩
    have HX := Lib.hid (HX.out.next hb)
    have hx0 := HX.out.c0
    have hx1 := HX.out.c1
    clear hb
    rw [HP.out]
    go_wp2_with fail
    refine (HT.out _ _ (HV.out.below HX.out.below)).mono ?_
    rintro e w3 ⟨z, rfl, ho, hb⟩
    have HO := Lib.hid (row_lower ho (Nat.le_of_lt HX.out.size))
    have HX := Lib.hid (HX.out.next hb)
    clear ho hb hx0 hx1
    go_wp2_with fail
    go_ret2
    exact owns_VB HR.out HO.out HX.out.below
def PsRel (f : Nat → Int) (N : Nat) (w0 : World) (r q i : Value) (wr : World) : Prop :=
  wr = w0 ∧ r = .int .i64 0 ∧ ∃ k : Nat, k ≤ N ∧ i = .int .i64 k ∧ q = .int .i64 (mostV f k) ∧ allV f k = true
set_option maxHeartbeats 1600000 in
set_option maxRecDepth 20000 in
theorem l5Pause_any (N : Nat) (g : Bool) (v : Value) (xss : List (List Int)) (L : Nat) (w : World) (hv : ReadsL w v xss) (hrows : ∀ (j : Nat) xs, xss[j]? = some xs → xs.length = L) (hL : 1 ≤ L ∧ L ≤ 60) (hk : 1 ≤ xss.length ∧ xss.length ≤ 6) (hN : N ≤ 24) :
    Calls Try.prog 108 #[rd N g, v] w fun e w' => e = .returned (.int .i64 (pseV (idlF xss L) N)) ∧ Below w.heap.size w w' := by
  have HT := Lib.hid (fun v w hv => l5Idle_any N g v xss L w hv hrows hL hk hN)
  have HV := Lib.hid hv
  have HX := Lib.hid (Boxed.first w N g 27)
  clear hrows hL hk hv
  obtain ⟨f, hf⟩ : ∃ f, f = idlF xss L := ⟨_, rfl⟩
  rw [← hf] at HT ⊢
  clear hf
  unfold rd at *
  go_enter Try.func108, Try.ntmps108
  go_wp2_with fail
  refine (HT.out _ _ (HV.out.below HX.out.below)).mono ?_
  rintro e w1 ⟨z, rfl, ho, hb⟩
  have HX := Lib.hid (HX.out.next hb)
  rw [rowF_len] at ho
  have hrl := rowF_len f N
  have HRD := Lib.hid (owns_reads (xs := rowF f N) (by rw [rowF_len]; exact ho) (by rw [rowF_len]; unfold maxLen; omega))
  obtain ⟨za, zc, rfl, hzc, _, _⟩ := row_shape ho
  clear ho hb hrl
  go_wp2_with fail
  go_loopw [4, 6, 7] (fun r q i wr => PsRel f N w1 r q i wr) (fun _ _ i _ => N - (intOf i).toNat)
  case atStart => exact ⟨rfl, rfl, 0, Nat.zero_le _, rfl, rfl, rfl⟩
  case round =>
    obtain ⟨rfl, rfl, k, hk, rfl, rfl, hall⟩ := hrel
    have HALL := Lib.hid hall
    clear hall
    by_cases hlt : k < N
    · have hfk : (rowF f N)[k]? = some (f k) := rowF_at _ _ _ hlt
      obtain ⟨ar, cr, er, _, _, hxr⟩ := HRD.out
      injection er with e1 e2 e3
      subst e1
      clear e2 e3
      obtain ⟨b3, o3, rfl, _, hcx⟩ := hxr k _ hfk
      have HLT := Lib.hid hlt
      have HST := Lib.hid (show mostV f (k + 1) = max (mostV f k) (f k) from rfl)
      have HAL := Lib.hid (show allV f (k + 1) = (allV f k && decide (0 ≤ f k)) from rfl)
      have HNG := Lib.hid (fun (h : f k < 0) => pseV_neg hlt h)
      obtain ⟨x, hx⟩ : ∃ x, x = f k := ⟨_, rfl⟩
      rw [← hx] at hcx HST HAL HNG
      obtain ⟨q, hq⟩ : ∃ q, q = mostV f k := ⟨_, rfl⟩
      rw [← hq] at HST ⊢
      clear hxr hfk hx hq
      by_cases hneg : x < 0
      · go_wp2_with fail
        go_ret
        exact ⟨by rw [HNG.out hneg]; rfl, HX.out.below⟩
      · have hx0 : 0 ≤ x := by omega
        go_wp2_with fail
        refine (l1Most_any q x _).mono ?_
        rintro e9 w9 ⟨rfl, rfl⟩
        go_wp2_with fail
        go_roundw
        case rel => exact ⟨rfl, rfl, k + 1, HLT.out, by go_num, by rw [HST.out], by rw [HAL.out, HALL.out]; simp; omega⟩
        case measure => have := HLT.out; simp [intOf]; omega
    · have hke : k = N := by omega
      subst hke
      go_wp2_with fail
      go_ret
      exact ⟨by rw [pseV_all HALL.out]; rfl, HX.out.below⟩
set_option maxHeartbeats 800000 in
set_option maxRecDepth 20000 in
theorem spec_PauseOf (n : Int) (g : Bool) (v : Value) (xss : List (List Int)) (w : World) (hv : ReadsL w v xss) :
    Calls Try.prog 59 #[rd n g, v] w fun e w' => e = .returned (.tuple #[.int .i64 (pauR n g xss).1, .bool (pauR n g xss).2]) ∧ Below w.heap.size w w' := by
  have HGO := Lib.hid (fun v xss w hv => l5Good_any n g v xss w hv)
  have HV := Lib.hid hv
  cases hp : patD n g xss
  · have HR := Lib.hid (pauR_no hp)
    have HX := Lib.hid (Boxed.first w n g 27)
    have HP := Lib.hid hp
    clear hp
    generalize pauR n g xss = R at *
    unfold rd at *
    go_enter Try.func59, Try.ntmps59
    go_wp2_with fail
    refine (HGO.out _ _ _ (HV.out.below HX.out.below)).mono ?_
    rintro e w1 ⟨rfl, hb⟩
    have HX := Lib.hid (HX.out.next hb)
    have hx0 := HX.out.c0
    have hx1 := HX.out.c1
    clear hb
    rw [HP.out]
    go_wp2_with fail
    go_ret2
    exact ⟨by rw [HR.out]; rfl, HX.out.below⟩
  · have hpx := (patD_iff n g xss).1 hp
    have hrd := (roadB_iff n g).1 hpx.2.2.2
    obtain ⟨N, hN⟩ : ∃ N : Nat, n = N := ⟨n.toNat, by omega⟩
    subst hN
    obtain ⟨L, hL1, hL60, hL0, hrx⟩ := pat_rows hpx
    have HT := Lib.hid (fun v w hv => l5Pause_any N g v xss L w hv (fun j xs h => (hrx j xs h).1) ⟨hL1, hL60⟩ ⟨hpx.1, hpx.2.1⟩ (by omega))
    have HX := Lib.hid (Boxed.first w N g 27)
    have HP := Lib.hid hp
    have HIN := Lib.hid (fun j => idleV_in (ts := timV xss (j : Nat) L) timV_in hL60)
    cases ha : allV (idlF xss L) N
    · have HR := Lib.hid (pauR_neg (g := g) hL0 ha)
      have HE := Lib.hid (show pseV (idlF xss L) N = -1 by unfold pseV; rw [if_neg (by rw [ha]; exact Bool.false_ne_true)])
      clear hp hpx hrx hL0 hrd ha
      generalize pauR N g xss = R at *
      generalize pseV (idlF xss L) N = q at *
      unfold rd at *
      go_enter Try.func59, Try.ntmps59
      go_wp2_with fail
      refine (HGO.out _ _ _ (HV.out.below HX.out.below)).mono ?_
      rintro e w1 ⟨rfl, hb⟩
      have HX := Lib.hid (HX.out.next hb)
      have hx0 := HX.out.c0
      have hx1 := HX.out.c1
      clear hb
      rw [HP.out]
      go_wp2_with fail
      refine (HT.out _ _ (HV.out.below HX.out.below)).mono ?_
      rintro e w2 ⟨rfl, hb⟩
      have HX := Lib.hid (HX.out.next hb)
      clear hb hx0 hx1
      rw [HE.out]
      go_wp2_with fail
      go_ret2
      exact ⟨by rw [HR.out]; rfl, HX.out.below⟩
    · have HR := Lib.hid (pauR_yes hp hL0 ha)
      have HE := Lib.hid (pseV_all ha)
      have HLO := Lib.hid (mostV_low (idlF xss L) N)
      clear hp hpx hrx hL0 hrd ha
      generalize pauR N g xss = R at *
      generalize pseV (idlF xss L) N = q at *
      generalize mostV (idlF xss L) N = m at *
      have hq0 : ¬ m < 0 := by have := HLO.out; omega
      unfold rd at *
      go_enter Try.func59, Try.ntmps59
      go_wp2_with fail
      refine (HGO.out _ _ _ (HV.out.below HX.out.below)).mono ?_
      rintro e w1 ⟨rfl, hb⟩
      have HX := Lib.hid (HX.out.next hb)
      have hx0 := HX.out.c0
      have hx1 := HX.out.c1
      clear hb
      rw [HP.out]
      go_wp2_with fail
      refine (HT.out _ _ (HV.out.below HX.out.below)).mono ?_
      rintro e w2 ⟨rfl, hb⟩
      have HX := Lib.hid (HX.out.next hb)
      have hx0 := HX.out.c0
      have hx1 := HX.out.c1
      clear hb
      rw [HE.out]
      go_wp2_with fail
      refine (HT.out _ _ (HV.out.below HX.out.below)).mono ?_
      rintro e w3 ⟨rfl, hb⟩
      have HX := Lib.hid (HX.out.next hb)
      clear hb hx0 hx1
      rw [HE.out]
      go_wp2_with fail
      go_ret2
      exact ⟨by rw [HR.out]; rfl, HX.out.below⟩
end Go.Proofs.Ytijhbhjapcfddaa
