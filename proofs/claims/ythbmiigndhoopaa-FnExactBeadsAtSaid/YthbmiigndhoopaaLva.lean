/-
  What is proved: what is a wire, of the program; IsWire of the model and of the program. Conditions: slices that read as lists of numbers.
-/
import Derived.Test.YthbmiigndhoopaaLvb
namespace Go.Proofs.Ythbmiigndhoopaa
open Go.RowKit
set_option linter.unusedVariables false
set_option linter.unusedSimpArgs false

theorem spec_IsWire (L : Int) (v u : Value) (ps ds : List Int) (w : World) (hv : ReadsI w v ps) (hu : ReadsI w u ds) :
    Calls Try.prog 42 #[wrV L v u] w fun e w' => e = .returned (.bool (wireB L ps ds)) ∧ Below w.heap.size w w' := by
  have HW := Lib.hid (fun w hv hu => l8Wire_any L v u ps ds w hv hu)
  have HB := Lib.hid (below_new w (.cells (wrC L v u) 39))
  have HV := Lib.hid (hv.below HB.out)
  have HU := Lib.hid (hu.below HB.out)
  obtain ⟨y, c, rfl, _⟩ := hv
  obtain ⟨z, e, rfl, _⟩ := hu
  generalize hpl : ps.length = pl at *
  generalize hdl : ds.length = dl at *
  clear hpl hdl
  unfold wrV wrC at *
  go_enter Try.func42, Try.ntmps42
  go_wp2_with fail
  refine (HW.out _ HV.out HU.out).mono ?_
  rintro e w1 ⟨rfl, hb⟩
  have HB := Lib.hid (HB.out.trans (hb.mono HB.out.size))
  clear hb
  go_wp2_with fail
  go_ret
  exact ⟨rfl, HB.out⟩
theorem ascB_bad {L : Int} {ps : List Int} {k : Nat} {p : Int} (hp : ps[k]? = some p) (h : ¬ (0 ≤ p ∧ p ≤ L)) : ascB L ps = false :=
  ascB_no (List.getElem?_eq_some_iff.1 hp).1 (fun hh => by
    simp only [List.getD, hp, Option.getD_some] at hh
    exact h ⟨hh.1, hh.2.1⟩)
theorem ascB_bad2 {L : Int} {ps : List Int} {j k : Nat} {p q : Int} (hp : ps[k]? = some p) (hq : ps[j]? = some q) (hj : k = j + 1) (h : p ≤ q) : ascB L ps = false :=
  ascB_no (List.getElem?_eq_some_iff.1 hp).1 (fun hh => by
    subst hj
    simp only [List.getD, hp, hq, Option.getD_some, Nat.add_sub_cancel] at hh
    omega)
def AscRel (L : Int) (ps : List Int) (r vi : Value) : Prop := r = .bool false ∧ ∃ k : Nat, k ≤ ps.length ∧ vi = .int .i64 k ∧ ∀ i, i < k → 0 ≤ ps.getD i 0 ∧ ps.getD i 0 ≤ L ∧ (i = 0 ∨ ps.getD (i - 1) 0 < ps.getD i 0)
set_option maxHeartbeats 800000 in
theorem areAsc_any (L : Int) (v : Value) (ps : List Int) (w : World) (hv : ReadsI w v ps) :
    Calls Try.prog 74 #[v, .int .i64 L] w fun e w' => e = .returned (.bool (ascB L ps)) ∧ w' = w := by
  obtain ⟨y, c, rfl, hc, hm, hx⟩ := hv
  have HL := Lib.hid hx
  unfold maxLen at hm
  clear hx
  go_enter Try.func74, Try.ntmps74
  go_wp2_with fail
  go_loopw [4, 9] (fun r vi wr => AscRel L ps r vi ∧ wr = w) (fun _ i _ => ps.length - (intOf i).toNat)
  case atStart => exact ⟨⟨rfl, 0, Nat.zero_le _, rfl, fun i hi => by omega⟩, rfl⟩
  case round =>
    obtain ⟨⟨rfl, k, hk, rfl, hok⟩, rfl⟩ := hrel
    have HOK := Lib.hid hok
    clear hok
    by_cases hlt : k < ps.length
    · obtain ⟨p, hpk⟩ := get_some hlt
      obtain ⟨bp, op, rfl, hbp, hcp⟩ := HL.out k p hpk
      have HPK := Lib.hid hpk
      have hi0 : 0 ≤ (k : Int) := by omega
      have hi1 : (k : Int) < ps.length := by omega
      clear hpk
      have go : (0 ≤ p ∧ p ≤ L) → (k = 0 ∨ ps.getD (k - 1) 0 < p) → ∀ i, i < k + 1 → 0 ≤ ps.getD i 0 ∧ ps.getD i 0 ≤ L ∧ (i = 0 ∨ ps.getD (i - 1) 0 < ps.getD i 0) := by
        intro h1 h2 i hi
        by_cases e : i = k
        · subst e
          rw [show ps.getD i 0 = p by simp [List.getD, HPK.out]]
          exact ⟨h1.1, h1.2, h2⟩
        · exact HOK.out i (by omega)
      have GO := Lib.hid go
      clear go
      by_cases h0 : p < 0
      · have HR := Lib.hid (ascB_bad (L := L) HPK.out (fun h => by omega))
        go_wp2_with fail
        go_ret
        exact ⟨ret_bool HR.out.symm, rfl⟩
      by_cases hl : L < p
      · have HR := Lib.hid (ascB_bad (L := L) HPK.out (fun h => by omega))
        go_wp2_with fail
        go_ret
        exact ⟨ret_bool HR.out.symm, rfl⟩
      have HIN := Lib.hid (show 0 ≤ p ∧ p ≤ L by omega)
      rcases Nat.eq_zero_or_pos k with hk0 | hk0
      · have HK0 := Lib.hid hk0
        have hkz : ¬ 0 < (k : Int) := by omega
        subst hk0
        rw [Nat.add_zero] at hcp
        go_wp2_with fail
        go_roundw
        case rel => exact ⟨⟨rfl, 1, by omega, by go_num, GO.out HIN.out (Or.inl rfl)⟩, by trivial⟩
        case measure => simp [intOf] <;> omega
      · obtain ⟨j, hj⟩ : ∃ j, k = j + 1 := ⟨k - 1, by omega⟩
        obtain ⟨q, hqj⟩ := get_some (xs := ps) (k := j) (by omega)
        obtain ⟨b9, o9, e9, hbq, hcq⟩ := HL.out j q hqj
        cases e9
        have HQJ := Lib.hid hqj
        have HJ := Lib.hid hj
        have hkp : 0 < (k : Int) := by omega
        have hjw : (k : Int) - 1 = (j : Int) := by omega
        have hj0 : 0 ≤ (j : Int) := by omega
        have hj1 : (j : Int) < ps.length := by omega
        clear hk0 hj hqj
        by_cases hpq : p ≤ q
        · have HR := Lib.hid (ascB_bad2 (L := L) HPK.out HQJ.out HJ.out hpq)
          go_wp2_with fail
          go_ret
          exact ⟨ret_bool HR.out.symm, rfl⟩
        · have HLESS := Lib.hid (show ps.getD (k - 1) 0 < p by rw [HJ.out, Nat.add_sub_cancel, show ps.getD j 0 = q by simp [List.getD, HQJ.out]]; omega)
          go_wp2_with fail
          go_roundw
          case rel => exact ⟨⟨rfl, k + 1, hlt, by go_num, GO.out HIN.out (Or.inr HLESS.out)⟩, by trivial⟩
          case measure => simp [intOf] <;> omega
    · have hi1 : ¬ (k : Int) < ps.length := by omega
      have HR := Lib.hid ((ascB_iff L ps).2 (by have h := HOK.out; rw [show k = ps.length by omega] at h; exact h))
      go_wp2_with fail
      go_ret
      exact ⟨ret_bool HR.out.symm, rfl⟩
def WyRel (ds : List Int) (r vi : Value) : Prop := r = .bool false ∧ ∃ k : Nat, k ≤ ds.length ∧ vi = .int .i64 k ∧ ∀ i, i < k → ds.getD i 0 = 1 ∨ ds.getD i 0 = -1
set_option maxHeartbeats 1600000 in
set_option maxRecDepth 20000 in
theorem impl_IsWire (L : Int) (v u : Value) (ps ds : List Int) (w : World) (hv : ReadsI w v ps) (hu : ReadsI w u ds) :
    Calls Try.prog 44 #[wrV L v u] w fun e w' => e = .returned (.bool (wireB L ps ds)) ∧ Below w.heap.size w w' := by
  have HA := Lib.hid (fun w hv => areAsc_any L v ps w hv)
  have HB := Lib.hid (below_new w (.cells (wrC L v u) 39))
  have HBX := Lib.hid (blk_new w (wrC L v u) 39)
  have HV := Lib.hid (hv.below HB.out)
  have HU := Lib.hid (hu.below HB.out)
  obtain ⟨y, c, rfl, hc, hm, _⟩ := hv
  obtain ⟨z, e, rfl, he, hem, _⟩ := hu
  unfold maxLen at hm hem
  unfold wrV wrC at *
  have c0 := HBX.out.cell 0
  have c1 := HBX.out.cell 1
  have c2 := HBX.out.cell 2
  go_enter Try.func44, Try.ntmps44
  have no : ∀ {w1 : World}, ¬ ((1 ≤ L ∧ L ≤ 30) ∧ ps.length ≤ 8 ∧ ds.length = ps.length) → wireB L ps ds = false := fun h => wireB_no (fun hh => h ⟨hh.1, hh.2.1, hh.2.2.1⟩)
  by_cases hl1 : L < 1
  · have HR := Lib.hid (no (w1 := w) (fun h => by omega))
    clear no
    go_wp2_with fail
    go_ret
    exact ⟨ret_bool HR.out.symm, HB.out⟩
  by_cases hl2 : 30 < L
  · have HR := Lib.hid (no (w1 := w) (fun h => by omega))
    clear no
    go_wp2_with fail
    go_ret
    exact ⟨ret_bool HR.out.symm, HB.out⟩
  by_cases h8 : 8 < ps.length
  · have HR := Lib.hid (no (w1 := w) (fun h => by omega))
    have h8i : (8 : Int) < ps.length := by omega
    clear no
    go_wp2_with fail
    go_ret
    exact ⟨ret_bool HR.out.symm, HB.out⟩
  have h8i : ¬ (8 : Int) < ps.length := by omega
  by_cases hs : ds.length = ps.length
  · have HSS := Lib.hid hs
    have hs1 : ((ds.length : Int) == (ps.length : Int)) = true := by simp [hs]
    have hs2 : ((ds.length : Int) != (ps.length : Int)) = false := by simp [hs]
    have HLL := Lib.hid (show 1 ≤ L ∧ L ≤ 30 by omega)
    clear hs no
    go_wp2_with fail
    go_loopw [2, 31] (fun r vi wr => WyRel ds r vi ∧ wr = w.alloc (.cells #[.int .i64 L, .slice y ps.length c, .slice z ds.length e] 39)) (fun _ i _ => ds.length - (intOf i).toNat)
    case atStart => exact ⟨⟨rfl, 0, Nat.zero_le _, rfl, fun i hi => by omega⟩, rfl⟩
    case round =>
      obtain ⟨⟨rfl, k, hk, rfl, hok⟩, rfl⟩ := hrel
      have HOK := Lib.hid hok
      clear hok
      by_cases hlt : k < ds.length
      · obtain ⟨d, hdk⟩ := get_some hlt
        obtain ⟨_, _, e0, _, _, hy⟩ := HU.out
        cases e0
        obtain ⟨bd, od, rfl, hbd, hcd⟩ := hy k d hdk
        have HDK := Lib.hid hdk
        have hi0 : 0 ≤ (k : Int) := by omega
        have hi1 : (k : Int) < ds.length := by omega
        clear hdk hy
        have go : (d = 1 ∨ d = -1) → ∀ i, i < k + 1 → ds.getD i 0 = 1 ∨ ds.getD i 0 = -1 := by
          intro h1 i hi
          by_cases e : i = k
          · subst e
            rw [show ds.getD i 0 = d by simp [List.getD, HDK.out]]
            exact h1
          · exact HOK.out i (by omega)
        have GO := Lib.hid go
        clear go
        by_cases hd1 : d = 1
        · have GO2 := Lib.hid (GO.out (Or.inl hd1))
          subst hd1
          go_wp2_with fail
          go_roundw
          case rel => exact ⟨⟨rfl, k + 1, hlt, by go_num, GO2.out⟩, by trivial⟩
          case measure => simp [intOf] <;> omega
        by_cases hd2 : d = -1
        · have GO2 := Lib.hid (GO.out (Or.inr hd2))
          subst hd2
          go_wp2_with fail
          go_roundw
          case rel => exact ⟨⟨rfl, k + 1, hlt, by go_num, GO2.out⟩, by trivial⟩
          case measure => simp [intOf] <;> omega
        have HR := Lib.hid (wire_bad3 (L := L) (ps := ps) HDK.out hd1 hd2)
        have e1 : (d == 1) = false := by simp [hd1]
        have e2 : (d == -1) = false := by simp [hd2]
        have e3 : (d != 1) = true := by simp [hd1]
        have e4 : (d != -1) = true := by simp [hd2]
        go_wp2_with fail
        go_ret
        exact ⟨ret_bool HR.out.symm, HB.out⟩
      · have hi1 : ¬ (k : Int) < ds.length := by omega
        have HWY := Lib.hid ((wayB_iff ds).2 (by have h := HOK.out; rw [show k = ds.length by omega] at h; exact h))
        have HR := Lib.hid (show wireB L ps ds = ascB L ps by
          unfold wireB
          rw [HWY.out, decide_eq_true HLL.out.1, decide_eq_true HLL.out.2, decide_eq_true (show ps.length ≤ 8 by omega), decide_eq_true HSS.out]
          simp)
        go_wp2_with fail
        refine (HA.out _ HV.out).mono ?_
        rintro e2 w1 ⟨rfl, rfl⟩
        go_wp2_with fail
        go_ret
        exact ⟨ret_bool HR.out.symm, HB.out⟩
  · have HR := Lib.hid (no (w1 := w) (fun h => hs h.2.2))
    have hs1 : ((ds.length : Int) == (ps.length : Int)) = false := by simp; omega
    have hs2 : ((ds.length : Int) != (ps.length : Int)) = true := by simp; omega
    have hs3 : ¬ (ds.length : Int) = (ps.length : Int) := by omega
    clear no hs
    go_wp2_with fail
    go_ret
    exact ⟨ret_bool HR.out.symm, HB.out⟩

end Go.Proofs.Ythbmiigndhoopaa
