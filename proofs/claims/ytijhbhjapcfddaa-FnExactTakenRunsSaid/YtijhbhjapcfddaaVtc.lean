/-
  What is proved: plain facts on idle times, and the contract of impl.idleTime. Conditions: a list of numbers 0..60, a period up to 60.
-/
import Derived.Test.YtijhbhjapcfddaaVta
import Derived.Deep.QuietTactic
import Derived.BigQuiet
import Derived.RegionTactic
namespace Go.Proofs.Ytijhbhjapcfddaa
open Go.RowKit
set_option linter.unusedVariables false
set_option linter.unusedSimpArgs false

/-- from the i-th visit to the next one, in a period L -/
def gapV (ts : List Int) (L : Int) (i : Nat) : Int := (if i + 1 < ts.length then ts.getD (i + 1) 0 else ts.getD 0 0 + L) - ts.getD i 0
/-- the greatest of the first k numbers, at least -1 -/
def topV (f : Nat → Int) : Nat → Int
  | 0 => -1
  | k + 1 => max (topV f k) (f k)
def idleV (ts : List Int) (L : Int) : Int := topV (gapV ts L) ts.length
theorem topV_low (f : Nat → Int) : ∀ k, -1 ≤ topV f k
  | 0 => Int.le_refl _
  | k + 1 => Int.le_trans (topV_low f k) (Int.le_max_left _ _)
theorem topV_high {f : Nat → Int} {B : Int} (hB : -1 ≤ B) : ∀ k, (∀ j, j < k → f j ≤ B) → topV f k ≤ B
  | 0, _ => hB
  | k + 1, h => Int.max_le.2 ⟨topV_high hB k (fun j hj => h j (by omega)), h k (by omega)⟩
theorem gapV_in {ts : List Int} {L : Nat} {i : Nat} (hts : ∀ (j : Nat) x, ts[j]? = some x → 0 ≤ x ∧ x ≤ 60) (hL : L ≤ 60) (hi : i < ts.length) : -60 ≤ gapV ts L i ∧ gapV ts L i ≤ 120 := by
  have val : ∀ j, j < ts.length → 0 ≤ ts.getD j 0 ∧ ts.getD j 0 ≤ 60 := by
    intro j hj
    obtain ⟨x, hx⟩ := get_some hj
    have := hts j x hx
    simpa [List.getD, hx] using this
  have h0 := val 0 (by omega)
  have h1 := val i hi
  unfold gapV
  split
  · have h2 := val (i + 1) (by omega)
    omega
  · omega
theorem gapV_mid {ts : List Int} {L : Int} {i : Nat} {x y : Int} (h : ts[i]? = some x) (h2 : ts[i + 1]? = some y) : gapV ts L i = y - x := by
  have := (List.getElem?_eq_some_iff.1 h2).1
  unfold gapV
  rw [if_pos this]
  simp [List.getD, h, h2]
theorem gapV_last {ts : List Int} {L : Int} {i : Nat} {x z : Int} (h : ts[i]? = some x) (h0 : ts[0]? = some z) (hi : i + 1 = ts.length) : gapV ts L i = z + L - x := by
  unfold gapV
  rw [if_neg (by omega)]
  simp [List.getD, h, h0]
theorem max_gt {a b : Int} (h : a < b) : max a b = b := Int.max_eq_right (Int.le_of_lt h)
def IdRel (f : Nat → Int) (c : Int) (m : Nat) (w : World) (e i : Value) (wr : World) : Prop :=
  Below w.heap.size w wr ∧ ∃ k : Nat, k ≤ m ∧ i = .int .i64 k ∧ e = .int .i64 (max c (topV f k))
set_option maxHeartbeats 1600000 in
set_option maxRecDepth 20000 in
theorem idleTime_any (v : Value) (ts : List Int) (L : Nat) (w : World) (hv : ReadsI w v ts) (hts0 : ∀ (j : Nat) x, ts[j]? = some x → 0 ≤ x ∧ x < L) (hL : L ≤ 60) (hlen : ts.length ≤ 60) :
    Calls Try.prog 107 #[v, .int .i64 L] w fun e w' => e = .returned (.int .i64 (idleV ts L)) ∧ Below w.heap.size w w' := by
  have hts : ∀ (j : Nat) x, ts[j]? = some x → 0 ≤ x ∧ x ≤ 60 := fun j x h => by have := hts0 j x h; omega
  have HTS := Lib.hid hts
  have HGI := Lib.hid (fun i hi => gapV_in (L := L) (i := i) hts hL hi)
  obtain ⟨va, vc, rfl, hvc, hvm, hx⟩ := hv
  unfold maxLen at hvm
  by_cases h0 : ts.length = 0
  · have HE := Lib.hid (show idleV ts L = -1 by unfold idleV; rw [h0]; rfl)
    go_enter Try.func107, Try.ntmps107
    go_wp2_with fail
    go_ret
    exact ⟨by rw [HE.out]; rfl, Below.refl _ _⟩
  · obtain ⟨m, hm⟩ : ∃ m, ts.length = m + 1 := ⟨ts.length - 1, by omega⟩
    have HM := Lib.hid hm
    obtain ⟨z, hz⟩ := get_some (xs := ts) (k := 0) (by omega)
    obtain ⟨x, hxm⟩ := get_some (xs := ts) (k := m) (by omega)
    obtain ⟨b, o, rfl, hbl, hc0⟩ := hx 0 z hz
    have HC := Lib.hid (fun (j : Nat) y (hj : ts[j]? = some y) => show w.cell? ⟨b, o + j, none⟩ = some (.int .i64 y) from by obtain ⟨b', o', e, _, h⟩ := hx j y hj; cases e; exact h)
    have hc0 : w.cell? ⟨b, o, none⟩ = some (.int .i64 z) := hc0
    have hcm := HC.out m x hxm
    have hz2 := hts 0 z hz
    have hx2 := hts m x hxm
    have hx3 := hts0 m x hxm
    have HG := Lib.hid (gapV_last (L := L) hxm hz hm.symm)
    have HGM := HGI.out m (by omega)
    have hw1 : IntKind.i64.wrap (z + (L : Int)) = z + (L : Int) := IntWalk.i64_in _ (by omega)
    have hw2 : IntKind.i64.wrap (z + (L : Int) - x) = z + (L : Int) - x := IntWalk.i64_in _ (by omega)
    rw [hm] at hvc hvm hlen
    rw [hm]
    obtain ⟨c, hc⟩ : ∃ c, c = gapV ts L m := ⟨_, rfl⟩
    have HCE := Lib.hid (show z + (L : Int) - x = c from by rw [hc]; exact HG.out.symm)
    have HTOP := Lib.hid (show idleV ts L = max c (topV (gapV ts L) m) from by unfold idleV; rw [hm, hc]; show max _ _ = _; exact Int.max_comm _ _)
    rw [← hc] at HGM
    have HC1 := Lib.hid (show -1 ≤ c from by have := HCE.out; omega)
    have HTB := Lib.hid (fun k (hk : k ≤ m) => show topV (gapV ts L) k ≤ 120 from topV_high (by omega) k (fun j hj => (HGI.out j (by omega)).2))
    clear hx hts hts0 hz hxm h0 hc HG hx3
    have hm1 : IntKind.i64.wrap (((m + 1 : Nat) : Int) - 1) = (m : Int) := by rw [show ((m + 1 : Nat) : Int) - 1 = (m : Int) by omega]; exact IntWalk.i64_in _ (by omega)
    have hmv : (m : Int) ≤ vc := by omega
    clear hm
    go_enter Try.func107, Try.ntmps107
    go_wp2_with fail
    go_quiet (fail)
    have HB := Lib.hid (below_drewN w nq)
    clear hc0 hcm hw1
    rw [HCE.out]
    clear hw2
    go_wp2_with fail
    go_loopw [6, 25] (fun e i wr => IdRel (gapV ts L) c m w e i wr) (fun _ i _ => m - (intOf i).toNat)
    case atStart => exact ⟨HB.out, 0, Nat.zero_le _, rfl, by rw [show max c (topV (gapV ts L) 0) = c from Int.max_eq_left HC1.out]⟩
    case round =>
      obtain ⟨hb, k, hk, rfl, rfl⟩ := hrel
      clear HB
      have HB := Lib.hid hb
      by_cases hlt : k < m
      · obtain ⟨x1, hx1⟩ := get_some (xs := ts) (k := k) (by have := HM.out; omega)
        obtain ⟨x2, hx2⟩ := get_some (xs := ts) (k := k + 1) (by have := HM.out; omega)
        have hc1 : wr.cell? ⟨b, o + k, none⟩ = some (.int .i64 x1) := (hb.cell (p := ⟨b, o + k, none⟩) hbl).trans (HC.out k x1 hx1)
        have hc2 : wr.cell? ⟨b, o + (k + 1), none⟩ = some (.int .i64 x2) := (hb.cell (p := ⟨b, o + (k + 1), none⟩) hbl).trans (HC.out (k + 1) x2 hx2)
        have h1 := HTS.out k x1 hx1
        have h2 := HTS.out (k + 1) x2 hx2
        have hwd : IntKind.i64.wrap (x2 - x1) = x2 - x1 := IntWalk.i64_in _ (by omega)
        have hwk : IntKind.i64.wrap ((k : Int) + 1) = (k : Int) + 1 := IntWalk.i64_in _ (by omega)
        have hg : gapV ts L k = x2 - x1 := gapV_mid hx1 hx2
        have hstep : max c (topV (gapV ts L) (k + 1)) = max (max c (topV (gapV ts L) k)) (x2 - x1) := by show max c (max _ (gapV ts L k)) = _; rw [hg, ← Int.max_assoc]
        have HST := Lib.hid hstep
        have HLT := Lib.hid hlt
        have hk1 : ((k : Int) + 1) < ((m + 1 : Nat) : Int) := by omega
        have hk2 : (k : Int) < ((m + 1 : Nat) : Int) := by omega
        have hk3 : k < m + 1 := by omega
        have hk4 : k + 1 < m + 1 := by omega
        have hk5 : 0 ≤ (k : Int) + 1 := by omega
        clear hstep hg hx1 hx2 hb
        obtain ⟨e, he⟩ : ∃ e, e = max c (topV (gapV ts L) k) := ⟨_, rfl⟩
        rw [← he] at HST ⊢
        have HEE := Lib.hid he
        clear he
        go_wp2_with fail
        go_region
        go_wp2_with fail
        go_roundw
        case rel => exact ⟨HB.out.trans ((below_drewN _ 1).mono HB.out.size), k + 1, HLT.out, by go_num, by rw [HST.out]⟩
        case measure => have := HLT.out; simp [intOf]; omega
      · have hke : k = m := by omega
        subst hke
        go_wp2_with fail
        go_ret
        exact ⟨by rw [HTOP.out]; rfl, HB.out⟩
end Go.Proofs.Ytijhbhjapcfddaa
