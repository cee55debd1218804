/-
  What is proved: how often beads meet, of the model and of the program. Conditions: those of each contract.
-/
import Derived.Test.YthbmiigndhoopaaLva
namespace Go.Proofs.Ythbmiigndhoopaa
open Go.RowKit
set_option linter.unusedVariables false
set_option linter.unusedSimpArgs false

noncomputable def meetsR (L : Int) (ps ds : List Int) : Int × Bool := if wireB L ps ds = true then (metTo ds ds.length, true) else (0, false)
theorem ret_ibM {R : Int × Bool} {z : Int} {b : Bool} (h : R = (z, b)) : Ending.returned (.tuple #[.int .i64 z, .bool b]) = .returned (.tuple #[.int .i64 R.1, .bool R.2]) := by rw [h]
theorem mul_64 {a b : Nat} (h1 : a ≤ 8) (h2 : b ≤ 8) : (a : Int) * (b : Int) ≤ 64 := by
  have h : a * b ≤ 8 * 8 := Nat.mul_le_mul h1 h2
  have e : ((a * b : Nat) : Int) = (a : Int) * (b : Int) := by simp
  omega
theorem allTo_64 (ds : List Int) {n i : Nat} (hn : n ≤ 8) (hi : i ≤ 8) : 0 ≤ allTo ds n i ∧ allTo ds n i ≤ 64 := by
  have h1 := allTo_le ds n i
  have h2 := mul_64 hi hn
  omega
theorem metTo_64 (ds : List Int) {k : Nat} (hk : k ≤ 8) : 0 ≤ metTo ds k ∧ metTo ds k ≤ 64 := by
  have h1 := metTo_le ds k
  have h2 := mul_64 hk hk
  omega
theorem rowTo_next {ds : List Int} {i m : Nat} {d e : Int} (hd : ds[i]? = some d) (he : ds[i + 1 + m]? = some e) : rowTo ds i (m + 1) = if d = 1 ∧ e = -1 then rowTo ds i m + 1 else rowTo ds i m := by
  show (if ds.getD i 0 = 1 ∧ ds.getD (i + 1 + m) 0 = -1 then rowTo ds i m + 1 else rowTo ds i m) = _
  rw [show ds.getD i 0 = d by simp [List.getD, hd], show ds.getD (i + 1 + m) 0 = e by simp [List.getD, he]]
theorem met_next {ds : List Int} {k : Nat} {d : Int} (hd : ds[k]? = some d) : metTo ds (k + 1) = (if d = 1 then metTo ds k else metTo ds k + comTo ds k) ∧ comTo ds (k + 1) = (if d = 1 then comTo ds k + 1 else comTo ds k) := by
  have e : ds.getD k 0 = d := by simp [List.getD, hd]
  constructor
  · show (if ds.getD k 0 = 1 then metTo ds k else metTo ds k + comTo ds k) = _
    rw [e]
  · show (if ds.getD k 0 = 1 then comTo ds k + 1 else comTo ds k) = _
    rw [e]
def CmA (ds : List Int) (vc vi : Value) : Prop := ∃ i : Nat, i ≤ ds.length ∧ vi = .int .i64 i ∧ vc = .int .i64 (allTo ds ds.length i)
def CmB (ds : List Int) (i : Nat) (vc vk : Value) : Prop := ∃ m : Nat, i + 1 + m ≤ ds.length ∧ vk = .int .i64 ((i : Int) + 1 + m) ∧ vc = .int .i64 (allTo ds ds.length i + rowTo ds i m)
set_option maxHeartbeats 1600000 in
set_option maxRecDepth 20000 in
theorem spec_CountMeets (L : Int) (v u : Value) (ps ds : List Int) (w : World) (hv : ReadsI w v ps) (hu : ReadsI w u ds) :
    Calls Try.prog 53 #[wrV L v u] w fun e w' => e = .returned (.tuple #[.int .i64 (meetsR L ps ds).1, .bool (meetsR L ps ds).2]) ∧ Below w.heap.size w w' := by
  have HW := Lib.hid (fun w hv hu => l8Wire_any L v u ps ds w hv hu)
  have HB := Lib.hid (below_new w (.cells (wrC L v u) 39))
  have HBX := Lib.hid (blk_new w (wrC L v u) 39)
  have HV := Lib.hid (hv.below HB.out)
  have HU := Lib.hid (hu.below HB.out)
  obtain ⟨y, c, rfl, _⟩ := hv
  obtain ⟨z, e, rfl, he, hem, hy⟩ := hu
  have HD := Lib.hid hy
  unfold maxLen at hem
  clear hy
  unfold wrV wrC at *
  go_enter Try.func53, Try.ntmps53
  go_wp2_with fail
  refine (HW.out _ HV.out HU.out).mono ?_
  rintro e2 w1 ⟨rfl, hb⟩
  have hbx := HBX.out.below hb
  have c2 := hbx.cell 2
  replace HB := Lib.hid (HB.out.trans (hb.mono HB.out.size))
  clear hb hbx HBX
  cases hl : wireB L ps ds
  · have HR := Lib.hid (show meetsR L ps ds = (0, false) from if_neg (by rw [hl]; simp))
    clear hl
    go_wp2_with fail
    go_ret2
    exact ⟨ret_ibM HR.out, HB.out⟩
  · have HR := Lib.hid (show meetsR L ps ds = (metTo ds ds.length, true) from if_pos hl)
    have HWO := Lib.hid (wire_ok hl)
    have h8 : ds.length ≤ 8 := by have := (wire_ok hl).same; have := (wire_ok hl).n8; omega
    have HAM := Lib.hid (all_met ds ds.length (fun i hi => by
      obtain ⟨d, hd⟩ := get_some hi
      have := (wire_ok hl).way i d hd
      rw [show ds.getD i 0 = d by simp [List.getD, hd]]
      exact this))
    clear hl
    go_wp2_with fail
    go_loopw [4, 5] (fun vc vi wr => wr = w1 ∧ CmA ds vc vi) (fun _ i _ => ds.length - (intOf i).toNat)
    case atStart => exact ⟨rfl, 0, Nat.zero_le _, rfl, rfl⟩
    case round =>
      obtain ⟨hwr, i, hi, rfl, rfl⟩ := hrel
      subst hwr
      by_cases hlt : i < ds.length
      · have hi1 : (i : Int) < ds.length := by omega
        have hi0 : 0 ≤ (i : Int) := by omega
        obtain ⟨d, hdi⟩ := get_some hlt
        obtain ⟨bd, od, rfl, hbd, hcd⟩ := HD.out i d hdi
        have HDI := Lib.hid hdi
        have hcd1 := (HB.out.cell (p := ⟨bd, od + i, none⟩) hbd).trans hcd
        have HAN := Lib.hid (show allTo ds ds.length (i + 1) = allTo ds ds.length i + rowTo ds i (ds.length - (i + 1)) from rfl)
        have h64 := allTo_64 ds h8 (show i ≤ 8 by omega)
        have HST := Lib.hid (show CmB ds i (.int .i64 (allTo ds ds.length i)) (.int .i64 ((i : Int) + 1)) from ⟨0, by omega, by simp, by show _ = Value.int .i64 (allTo ds ds.length i + 0); simp⟩)
        clear hdi hcd
        have HA0 := Lib.hid (show allTo ds ds.length i = allTo ds ds.length i from rfl)
        go_wp2_with fail
        go_loopw [4, 6] (fun vc vk wr2 => wr2 = wr ∧ CmB ds i vc vk) (fun _ vk _ => ds.length - (intOf vk).toNat)
        case atStart => exact ⟨rfl, HST.out⟩
        case round =>
          clear HST
          obtain ⟨hwr2, m, hm, rfl, rfl⟩ := hrel
          subst hwr2
          have hr8 := rowTo_le ds i m
          by_cases hlt2 : i + 1 + m < ds.length
          · obtain ⟨e3, hek⟩ := get_some hlt2
            obtain ⟨_, _, e9, hbe, hce⟩ := HD.out _ e3 hek
            cases e9
            have hce1 := (HB.out.cell (p := ⟨bd, od + (i + 1 + m), none⟩) hbe).trans hce
            have HN := Lib.hid (rowTo_next HDI.out hek)
            obtain ⟨k, hkk⟩ : ∃ k : Nat, i + 1 + m = k := ⟨_, rfl⟩
            have hki : (i : Int) + 1 + m = (k : Int) := by omega
            have HKI := Lib.hid hki
            have HKK := Lib.hid hkk
            rw [hkk] at hce1
            rw [hki]
            have hk0 : 0 ≤ (k : Int) := by omega
            have hk1 : (k : Int) < ds.length := by omega
            generalize hA : allTo ds ds.length i = A at *
            have HA := Lib.hid hA
            clear hA
            generalize rowTo ds i m = R at *
            clear hek hce hkk hki
            by_cases hd1 : d = 1
            · by_cases he1 : e3 = -1
              · have HNN := Lib.hid (show rowTo ds i (m + 1) = R + 1 by rw [HN.out, if_pos ⟨hd1, he1⟩])
                have HHL := Lib.hid (show i + 1 + m < ds.length from hlt2)
                subst hd1 he1
                go_wp2_with fail
                go_roundw
                case rel => exact ⟨by trivial, m + 1, by have := HHL.out; omega, by have := HKI.out; go_num, by rw [HNN.out, HA.out]; go_num⟩
                case measure => have := HKI.out; simp [intOf] <;> omega
              · have HNN := Lib.hid (show rowTo ds i (m + 1) = R by rw [HN.out, if_neg (fun h => he1 h.2)])
                have he2 : (e3 == -1) = false := by simp [he1]
                subst hd1
                go_wp2_with fail
                go_roundw
                case rel => exact ⟨by trivial, m + 1, by omega, by have := HKI.out; go_num, by rw [HNN.out, HA.out]⟩
                case measure => have := HKI.out; simp [intOf] <;> omega
            · have HNN := Lib.hid (show rowTo ds i (m + 1) = R by rw [HN.out, if_neg (fun h => hd1 h.1)])
              have hd2 : (d == 1) = false := by simp [hd1]
              go_wp2_with fail
              go_roundw
              case rel => exact ⟨by trivial, m + 1, by omega, by have := HKI.out; go_num, by rw [HNN.out, HA.out]⟩
              case measure => have := HKI.out; simp [intOf] <;> omega
          · have hm2 : m = ds.length - (i + 1) := by omega
            have HM2 := Lib.hid hm2
            have hk1 : ¬ (i : Int) + 1 + m < ds.length := by omega
            clear hm2
            go_wp2_with fail
            go_roundw
            case rel => exact ⟨by trivial, i + 1, hlt, by go_num, by rw [HAN.out, HM2.out]⟩
            case measure => simp [intOf] <;> omega
      · have hi1 : ¬ (i : Int) < ds.length := by omega
        have HKE := Lib.hid (show i = ds.length by omega)
        go_wp2_with fail
        go_ret2
        exact ⟨ret_ibM (by rw [HR.out, HKE.out, HAM.out]), HB.out⟩
set_option maxHeartbeats 1600000 in
set_option maxRecDepth 20000 in
theorem impl_CountMeets (L : Int) (v u : Value) (ps ds : List Int) (w : World) (hv : ReadsI w v ps) (hu : ReadsI w u ds) :
    Calls Try.prog 54 #[wrV L v u] w fun e w' => e = .returned (.tuple #[.int .i64 (meetsR L ps ds).1, .bool (meetsR L ps ds).2]) ∧ Below w.heap.size w w' := by
  have HW := Lib.hid (fun w hv hu => impl_IsWire L v u ps ds w hv hu)
  have HB := Lib.hid (below_new w (.cells (wrC L v u) 39))
  have HBX := Lib.hid (blk_new w (wrC L v u) 39)
  have HV := Lib.hid (hv.below HB.out)
  have HU := Lib.hid (hu.below HB.out)
  obtain ⟨y, c, rfl, _⟩ := hv
  obtain ⟨z, e, rfl, he, hem, hy⟩ := hu
  have HD := Lib.hid hy
  unfold maxLen at hem
  clear hy
  unfold wrV wrC at *
  go_enter Try.func54, Try.ntmps54
  go_wp2_with fail
  refine (HW.out _ HV.out HU.out).mono ?_
  rintro e2 w1 ⟨rfl, hb⟩
  have hbx := HBX.out.below hb
  have c2 := hbx.cell 2
  replace HB := Lib.hid (HB.out.trans (hb.mono HB.out.size))
  clear hb hbx HBX
  cases hl : wireB L ps ds
  · have HR := Lib.hid (show meetsR L ps ds = (0, false) from if_neg (by rw [hl]; simp))
    clear hl
    go_wp2_with fail
    go_ret2
    exact ⟨ret_ibM HR.out, HB.out⟩
  · have HR := Lib.hid (show meetsR L ps ds = (metTo ds ds.length, true) from if_pos hl)
    have h8 : ds.length ≤ 8 := by have := (wire_ok hl).same; have := (wire_ok hl).n8; omega
    clear hl
    go_wp2_with fail
    go_loopw [4, 5, 14] (fun vm vc vi wr => wr = w1 ∧ ∃ k : Nat, k ≤ ds.length ∧ vi = .int .i64 k ∧ vm = .int .i64 (metTo ds k) ∧ vc = .int .i64 (comTo ds k)) (fun _ _ i _ => ds.length - (intOf i).toNat)
    case atStart => exact ⟨rfl, 0, Nat.zero_le _, rfl, rfl, rfl⟩
    case round =>
      obtain ⟨hwr, k, hk, rfl, rfl, rfl⟩ := hrel
      subst hwr
      by_cases hlt : k < ds.length
      · obtain ⟨d, hdk⟩ := get_some hlt
        obtain ⟨bd, od, rfl, hbd, hcd⟩ := HD.out k d hdk
        have hcd1 := (HB.out.cell (p := ⟨bd, od + k, none⟩) hbd).trans hcd
        have HN := Lib.hid (met_next hdk)
        have h1 := metTo_64 ds (show k ≤ 8 by omega)
        have h2 := comTo_le ds k
        have hi0 : 0 ≤ (k : Int) := by omega
        have hi1 : (k : Int) < ds.length := by omega
        generalize metTo ds k = M at *
        generalize comTo ds k = C at *
        clear hdk hcd
        by_cases hd1 : d = 1
        · have HN1 := Lib.hid (show metTo ds (k + 1) = M by rw [HN.out.1, if_pos hd1])
          have HN2 := Lib.hid (show comTo ds (k + 1) = C + 1 by rw [HN.out.2, if_pos hd1])
          subst hd1
          go_wp2_with fail
          go_roundw
          case rel => exact ⟨by trivial, k + 1, hlt, by go_num, by rw [HN1.out], by rw [HN2.out]⟩
          case measure => simp [intOf] <;> omega
        · have HN1 := Lib.hid (show metTo ds (k + 1) = M + C by rw [HN.out.1, if_neg hd1])
          have HN2 := Lib.hid (show comTo ds (k + 1) = C by rw [HN.out.2, if_neg hd1])
          have hd2 : (d == 1) = false := by simp [hd1]
          go_wp2_with fail
          go_roundw
          case rel => exact ⟨by trivial, k + 1, hlt, by go_num, by rw [HN1.out], by rw [HN2.out]⟩
          case measure => simp [intOf] <;> omega
      · have hi1 : ¬ (k : Int) < ds.length := by omega
        have HKE := Lib.hid (show k = ds.length by omega)
        go_wp2_with fail
        go_ret2
        exact ⟨ret_ibM (by rw [HR.out, HKE.out]), HB.out⟩
end Go.Proofs.Ythbmiigndhoopaa
