/-
  What is proved: the contract of impl.postAt: where all guards are at a time. Conditions: tables of 1 to 6 rows, longer than the time.
-/
import Derived.Test.YtijhbhjapcfddaaVte
import Derived.Test.YtijhbhjapcfddaaGcd
namespace Go.Proofs.Ytijhbhjapcfddaa
open Go.RowKit
set_option linter.unusedVariables false
set_option linter.unusedSimpArgs false

/-- where the i-th guard is at the time t; -1 if there is none -/
def pstF (xss : List (List Int)) (t : Nat) (i : Nat) : Int := if i < xss.length then (xss.getD i []).getD t 0 else -1
theorem pstF_in {xss : List (List Int)} {t i : Nat} {xs : List Int} {x : Int} (h : xss[i]? = some xs) (h2 : xs[t]? = some x) : pstF xss t i = x := by
  have := (List.getElem?_eq_some_iff.1 h).1
  unfold pstF
  rw [if_pos this]
  simp [List.getD, h, h2]
theorem pstF_out {xss : List (List Int)} {t i : Nat} (h : ¬ i < xss.length) : pstF xss t i = -1 := by unfold pstF; rw [if_neg h]
/-- six cells of which the first k are laid -/
def cl6 (P : Nat → Int) (k i : Nat) : Value := iv (if i < k then P i else 0)
def cells6 (P : Nat → Int) (k : Nat) : Array Value := #[cl6 P k 0, cl6 P k 1, cl6 P k 2, cl6 P k 3, cl6 P k 4, cl6 P k 5]
theorem cells6_at (P : Nat → Int) (k i : Nat) (h : i < 6) : (cells6 P k)[i]? = some (cl6 P k i) := by
  match i, h with
  | 0, _ => rfl
  | 1, _ => rfl
  | 2, _ => rfl
  | 3, _ => rfl
  | 4, _ => rfl
  | 5, _ => rfl
theorem cells6_set (P : Nat → Int) (k : Nat) (h : k < 6) : (cells6 P k).setIfInBounds k (iv (P k)) = cells6 P (k + 1) := by
  match k, h with
  | 0, _ => simp [cells6, cl6]
  | 1, _ => simp [cells6, cl6]
  | 2, _ => simp [cells6, cl6]
  | 3, _ => simp [cells6, cl6]
  | 4, _ => simp [cells6, cl6]
  | 5, _ => simp [cells6, cl6]
theorem cells6_set2 (P : Nat → Int) (k : Nat) (y : Int) (h : k < 6) : ((cells6 P k).setIfInBounds k (iv y)).setIfInBounds k (iv (P k)) = cells6 P (k + 1) := by
  rw [← cells6_set P k h]
  match k, h with
  | 0, _ => simp [cells6, cl6]
  | 1, _ => simp [cells6, cl6]
  | 2, _ => simp [cells6, cl6]
  | 3, _ => simp [cells6, cl6]
  | 4, _ => simp [cells6, cl6]
  | 5, _ => simp [cells6, cl6]
theorem cl6_not (P : Nat → Int) (k : Nat) : cl6 P k k = iv 0 := by unfold cl6; rw [if_neg (Nat.lt_irrefl _)]
/-- a post: where all guards are -/
def post6 (xss : List (List Int)) (t : Nat) : Value := .agg #[iv (pstF xss t 0), iv (pstF xss t 1), iv (pstF xss t 2), iv (pstF xss t 3), iv (pstF xss t 4), iv (pstF xss t 5)]
theorem set6_same {W : World} {b : Nat} {x0 x1 x2 x3 x4 x5 : Value} {t : TypeId} (v0 v1 v2 v3 v4 v5 : Value) (h : Blk W b #[x0, x1, x2, x3, x4, x5] t) : Blk ((((((W.setCell ⟨b, 0, none⟩ v0).setCell ⟨b, 1, none⟩ v1).setCell ⟨b, 2, none⟩ v2).setCell ⟨b, 3, none⟩ v3).setCell ⟨b, 4, none⟩ v4).setCell ⟨b, 5, none⟩ v5) b #[v0, v1, v2, v3, v4, v5] t :=
  set1_same _ b 5 _ t v5 (set1_same _ b 4 _ t v4 (set1_same _ b 3 _ t v3 (set1_same _ b 2 _ t v2 (set1_same _ b 1 _ t v1 (set1_same _ b 0 _ t v0 (h))))))
theorem set6_below {base : Nat} {w W : World} {b : Nat} (v0 v1 v2 v3 v4 v5 : Value) (h : Below base w W) (hb : base ≤ b) : Below base w ((((((W.setCell ⟨b, 0, none⟩ v0).setCell ⟨b, 1, none⟩ v1).setCell ⟨b, 2, none⟩ v2).setCell ⟨b, 3, none⟩ v3).setCell ⟨b, 4, none⟩ v4).setCell ⟨b, 5, none⟩ v5) :=
  ((((((h).setCell (p := ⟨b, 0, none⟩) hb _).setCell (p := ⟨b, 1, none⟩) hb _).setCell (p := ⟨b, 2, none⟩) hb _).setCell (p := ⟨b, 3, none⟩) hb _).setCell (p := ⟨b, 4, none⟩) hb _).setCell (p := ⟨b, 5, none⟩) hb _
def PaRel (P : Nat → Int) (w : World) (i : Value) (wr : World) : Prop :=
  Below w.heap.size w wr ∧ Blk wr w.heap.size #[.int .i64 0, .int .i64 0, .int .i64 0, .int .i64 0, .int .i64 0, .int .i64 0] 119 ∧ ∃ k : Nat, k ≤ 6 ∧ i = .int .i64 k ∧ Blk wr (w.heap.size + 1) (cells6 P k) 119
set_option maxHeartbeats 3200000 in
set_option maxRecDepth 20000 in
theorem postAt_any (v : Value) (xss : List (List Int)) (L t : Nat) (w : World) (hv : ReadsL w v xss) (hrows : ∀ (j : Nat) xs, xss[j]? = some xs → xs.length = L) (ht : t < L) (hL : L ≤ 60) (hk : xss.length ≤ 6) :
    Calls Try.prog 150 #[v, .int .i64 t] w fun e w' => e = .returned (post6 xss t) ∧ Below w.heap.size w w' := by
  have HRW := Lib.hid hrows
  have HV := Lib.hid hv
  obtain ⟨va, vc, rfl, hvc, hvm, _⟩ := hv
  unfold maxLen at hvm
  have HBL := Lib.hid ((below_new w (.cells #[.int .i64 0, .int .i64 0, .int .i64 0, .int .i64 0, .int .i64 0, .int .i64 0] 119)).trans ((below_new (w.alloc (.cells #[.int .i64 0, .int .i64 0, .int .i64 0, .int .i64 0, .int .i64 0, .int .i64 0] 119)) (.cells #[.int .i64 0, .int .i64 0, .int .i64 0, .int .i64 0, .int .i64 0, .int .i64 0] 119)).mono (by simp)))
  have HA := Lib.hid ((blk_new w #[.int .i64 0, .int .i64 0, .int .i64 0, .int .i64 0, .int .i64 0, .int .i64 0] 119).below (below_new _ (.cells #[.int .i64 0, .int .i64 0, .int .i64 0, .int .i64 0, .int .i64 0, .int .i64 0] 119)))
  have HB := Lib.hid (blk_at (w.alloc (.cells #[.int .i64 0, .int .i64 0, .int .i64 0, .int .i64 0, .int .i64 0, .int .i64 0] 119)) #[.int .i64 0, .int .i64 0, .int .i64 0, .int .i64 0, .int .i64 0, .int .i64 0] 119 (w.heap.size + 1) (by simp))
  obtain ⟨P, hP⟩ : ∃ P, P = pstF xss t := ⟨_, rfl⟩
  have HPI := Lib.hid (fun i xs x (h : xss[i]? = some xs) (h2 : xs[t]? = some x) => show P i = x from by rw [hP]; exact pstF_in h h2)
  have HPO := Lib.hid (fun i (h : ¬ i < xss.length) => show P i = -1 from by rw [hP]; exact pstF_out h)
  have HPE := Lib.hid (show post6 xss t = .agg #[iv (P 0), iv (P 1), iv (P 2), iv (P 3), iv (P 4), iv (P 5)] from by rw [hP]; rfl)
  clear hP hrows
  go_enter Try.func150, Try.ntmps150
  go_wp2_with fail
  go_loopw [7] (fun i wr => PaRel P w i wr) (fun i _ => 6 - (intOf i).toNat)
  case atStart => exact ⟨HBL.out, HA.out, 0, by decide, rfl, HB.out⟩
  case round =>
    obtain ⟨hb, ha, k, hk6, rfl, hbk⟩ := hrel
    clear HBL HA HB
    have HBL := Lib.hid hb
    have HA := Lib.hid ha
    have HB := Lib.hid hbk
    by_cases hlt : k < 6
    · have hc := hbk.cell k
      rw [cells6_at P k k hlt, cl6_not] at hc
      have hf := hbk.free k
      have HLT := Lib.hid hlt
      have h6 : (k : Int) < 6 := by omega
      have HS := Lib.hid (fun y => set1_same wr (w.heap.size + 1) k (cells6 P k) 119 (iv y) hbk)
      by_cases hkl : k < xss.length
      · obtain ⟨xs, hxs⟩ := get_some hkl
        have hxl := HRW.out k xs hxs
        obtain ⟨b, o, a2, c2, rfl, hbl, hcx0, hrx⟩ := lists_in HV.out hxs
        obtain ⟨x, hx⟩ := get_some (xs := xs) (k := t) (by omega)
        obtain ⟨ar, cr, er, _, _, hxr⟩ := hrx
        cases er
        obtain ⟨b3, o3, rfl, hbl3, hcy0⟩ := hxr t x hx
        have hcx : wr.cell? ⟨b, o + k, none⟩ = some (.slice (some ⟨b3, o3, none⟩) L c2) := by rw [← hxl]; exact (hb.cell (p := ⟨b, o + k, none⟩) hbl).trans hcx0
        have hcy : wr.cell? ⟨b3, o3 + t, none⟩ = some (.int .i64 x) := (hb.cell (p := ⟨b3, o3 + t, none⟩) hbl3).trans hcy0
        have HPX := Lib.hid (HPI.out k xs x hxs hx)
        have hne : b ≠ w.heap.size + 1 := by omega
        have hne3 : b3 ≠ w.heap.size + 1 := by omega
        clear hxr hcx0 hcy0 hxs hx hxl hb ha hbk hlt
        go_wp2_with fail
        go_roundw
        case rel =>
          refine ⟨(HBL.out.setCell (p := ⟨w.heap.size + 1, k, none⟩) (by simp) _).setCell (p := ⟨w.heap.size + 1, k, none⟩) (by simp) _, set1_other (set1_other HA.out (by omega)) (by omega), k + 1, HLT.out, by go_num, ?_⟩
          have h := set1_same _ (w.heap.size + 1) k _ 119 (iv x) (HS.out (-1))
          rw [← HPX.out, cells6_set2 P k _ HLT.out] at h
          rw [HPX.out] at h
          exact h
        case measure => have := HLT.out; simp [intOf]; omega
      · have HPX := Lib.hid (HPO.out k hkl)
        clear hb ha hbk hlt
        go_wp2_with fail
        go_roundw
        case rel => exact ⟨HBL.out.setCell (p := ⟨w.heap.size + 1, k, none⟩) (by simp) _, set1_other HA.out (by omega), k + 1, HLT.out, by go_num, by have h := HS.out (-1); rw [← HPX.out, cells6_set P k HLT.out] at h; rw [HPX.out] at h; exact h⟩
        case measure => have := HLT.out; simp [intOf]; omega
    · have hke : k = 6 := by omega
      subst hke
      have h6 : ¬ (6 : Int) < 6 := by omega
      have HB6 := Lib.hid (show Blk wr (w.heap.size + 1) #[iv (P 0), iv (P 1), iv (P 2), iv (P 3), iv (P 4), iv (P 5)] 119 from hbk)
      have HS6 := Lib.hid (set6_same (.int .i64 (P 0)) (.int .i64 (P 1)) (.int .i64 (P 2)) (.int .i64 (P 3)) (.int .i64 (P 4)) (.int .i64 (P 5)) HA.out)
      have HBE := Lib.hid (set6_below (b := w.heap.size) (.int .i64 (P 0)) (.int .i64 (P 1)) (.int .i64 (P 2)) (.int .i64 (P 3)) (.int .i64 (P 4)) (.int .i64 (P 5)) HBL.out (Nat.le_refl _))
      clear hbk
      have c0 : wr.cell? ⟨w.heap.size + 1, 0, none⟩ = some (.int .i64 (P 0)) := HB6.out.cell 0
      have d0 : wr.cell? ⟨w.heap.size, 0, none⟩ = some (.int .i64 0) := HA.out.cell 0
      have f0 := HA.out.free 0
      have c1 : wr.cell? ⟨w.heap.size + 1, 1, none⟩ = some (.int .i64 (P 1)) := HB6.out.cell 1
      have d1 : wr.cell? ⟨w.heap.size, 1, none⟩ = some (.int .i64 0) := HA.out.cell 1
      have f1 := HA.out.free 1
      have c2 : wr.cell? ⟨w.heap.size + 1, 2, none⟩ = some (.int .i64 (P 2)) := HB6.out.cell 2
      have d2 : wr.cell? ⟨w.heap.size, 2, none⟩ = some (.int .i64 0) := HA.out.cell 2
      have f2 := HA.out.free 2
      have c3 : wr.cell? ⟨w.heap.size + 1, 3, none⟩ = some (.int .i64 (P 3)) := HB6.out.cell 3
      have d3 : wr.cell? ⟨w.heap.size, 3, none⟩ = some (.int .i64 0) := HA.out.cell 3
      have f3 := HA.out.free 3
      have c4 : wr.cell? ⟨w.heap.size + 1, 4, none⟩ = some (.int .i64 (P 4)) := HB6.out.cell 4
      have d4 : wr.cell? ⟨w.heap.size, 4, none⟩ = some (.int .i64 0) := HA.out.cell 4
      have f4 := HA.out.free 4
      have c5 : wr.cell? ⟨w.heap.size + 1, 5, none⟩ = some (.int .i64 (P 5)) := HB6.out.cell 5
      have d5 : wr.cell? ⟨w.heap.size, 5, none⟩ = some (.int .i64 0) := HA.out.cell 5
      have f5 := HA.out.free 5
      generalize P 0 = p0 at *
      generalize P 1 = p1 at *
      generalize P 2 = p2 at *
      generalize P 3 = p3 at *
      generalize P 4 = p4 at *
      generalize P 5 = p5 at *
      go_wp2_with fail
      have s0 := HS6.out.cell 0
      have s1 := HS6.out.cell 1
      have s2 := HS6.out.cell 2
      have s3 := HS6.out.cell 3
      have s4 := HS6.out.cell 4
      have s5 := HS6.out.cell 5
      clear ha hb
      refine bodyPost_ret (v := .agg #[.int .i64 p0, .int .i64 p1, .int .i64 p2, .int .i64 p3, .int .i64 p4, .int .i64 p5]) (by simp [results, Try.results150, go_sem, s0, s1, s2, s3, s4, s5]) rfl ⟨?_, HBE.out⟩
      rw [HPE.out]
end Go.Proofs.Ytijhbhjapcfddaa
