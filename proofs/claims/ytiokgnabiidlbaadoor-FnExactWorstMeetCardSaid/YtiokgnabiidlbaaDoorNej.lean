/-
  What is proved: the contracts of the greatest number of a table, of the model and of the program. Conditions: those of each contract.
-/
import Derived.Test.YtiokgnabiidlbaaDoorNeh
import Derived.Test.YtiokgnabiidlbaaDoorMeb
import Derived.Test.YtiokgnabiidlbaaDoorFn5
import Derived.Test.YtiokgnabiidlbaaDoorFn18
namespace Go.Proofs.YtiokgnabiidlbaaDoor
open Go.RowKit
set_option linter.unusedVariables false
set_option linter.unusedSimpArgs false

/-- the greatest number of a list, -1 if one is less than 0 -/
def worstZ (zs : List Int) : Int := if zs.all (fun x => decide (0 ≤ x)) = true then zs.foldl max 0 else -1
theorem worstZ_neg {zs : List Int} {x : Int} (hx : x ∈ zs) (h : x < 0) : worstZ zs = -1 := by
  unfold worstZ
  rw [if_neg]
  intro h2
  rw [List.all_eq_true] at h2
  have := h2 x hx
  simp at this
  omega
theorem worstZ_all {zs : List Int} (h : ∀ x, x ∈ zs → 0 ≤ x) : worstZ zs = zs.foldl max 0 := by
  unfold worstZ
  rw [if_pos]
  rw [List.all_eq_true]
  intro x hx
  simpa using h x hx
theorem foldl_ge : ∀ (zs : List Int) (z : Int), z ≤ zs.foldl max z
  | [], z => Int.le_refl _
  | x :: zs, z => by
    have := foldl_ge zs (max z x)
    simp only [List.foldl_cons]
    omega
theorem topTo_fold (z : Int) (xs : List Int) : ∀ k, k ≤ xs.length → topTo z xs k = (xs.take k).foldl max z
  | 0, _ => rfl
  | k + 1, hk => by
    obtain ⟨x, hx⟩ := get_some (xs := xs) (k := k) (by omega)
    rw [topTo_next hx, topTo_fold z xs k (by omega)]
    obtain ⟨hk2, rfl⟩ := List.getElem?_eq_some_iff.1 hx
    rw [List.take_succ_eq_append_getElem hk2, List.foldl_append]
    rfl
theorem topTo_worst {zs : List Int} {z : Int} (hz : zs[0]? = some z) (h : ∀ x, x ∈ zs → 0 ≤ x) : topTo z zs zs.length = worstZ zs := by
  rw [worstZ_all h, topTo_fold z zs zs.length (Nat.le_refl _), List.take_length]
  match zs, hz with
  | y :: ys, hz =>
    cases hz
    have := h z (List.mem_cons_self ..)
    simp only [List.foldl_cons]
    rw [show max z z = z by omega, show max 0 z = z by omega]
theorem firstFrom_mem (p : Int) : ∀ (xs : List Int) (k : Nat), 0 ≤ firstFrom p xs k ↔ p ∈ xs
  | [], k => by simp [firstFrom]
  | x :: xs, k => by
    unfold firstFrom
    by_cases h : x = p
    · rw [if_pos h]
      simp [h]
    · rw [if_neg h, firstFrom_mem p xs (k + 1)]
      simp [Ne.symm h]
theorem mem_cat {xss : List (List Int)} {p : Nat} {xs : List Int} {x : Int} (h : xss[p]? = some xs) (hx : x ∈ xs) : ∀ {k : Nat}, p < k → x ∈ catL xss k
  | 0, hk => by omega
  | k + 1, hk => by
    show x ∈ catL xss k ++ xss.getD k []
    by_cases e : p = k
    · subst e
      rw [List.mem_append]
      right
      simpa [List.getD, h] using hx
    · rw [List.mem_append]
      left
      exact mem_cat h hx (by omega)
theorem cat_mem {xss : List (List Int)} {x : Int} : ∀ {k : Nat}, k ≤ xss.length → x ∈ catL xss k → ∃ (p : Nat) (xs : List Int), xss[p]? = some xs ∧ x ∈ xs
  | 0, _, h => by simp [catL] at h
  | k + 1, hk, h => by
    have h : x ∈ catL xss k ++ xss.getD k [] := h
    rw [List.mem_append] at h
    rcases h with h | h
    · exact cat_mem (by omega) h
    · obtain ⟨ys, hy⟩ := get_some (xs := xss) (k := k) (by omega)
      simp [List.getD, hy] at h
      exact ⟨k, ys, hy, h⟩
theorem sumL_rows {xss : List (List Int)} {m : Nat} (h : ∀ (j : Nat) xs, xss[j]? = some xs → xs.length = m) : ∀ {k : Nat}, k ≤ xss.length → sumL xss k = k * m
  | 0, _ => by simp [sumL]
  | k + 1, hk => by
    obtain ⟨ys, hy⟩ := get_some (xs := xss) (k := k) (by omega)
    rw [sumL_next hy, sumL_rows h (k := k) (by omega), h k ys hy, Nat.add_mul, Nat.one_mul]
theorem catL_sum (xss : List (List Int)) : ∀ k, (catL xss k).length = sumL xss k
  | 0 => rfl
  | k + 1 => by
    show (catL xss k ++ xss.getD k []).length = sumL xss k + (xss.getD k []).length
    rw [List.length_append, catL_sum xss k]
theorem ownL_readsN {base : Nat} {v : Value} {xss : List (List Int)} {w : World} (h : OwnL base v xss w) (hne : ∀ (j : Nat) xs, xss[j]? = some xs → xs ≠ []) (hm : xss.length ≤ maxLen) : ReadsN w v xss := by
  obtain ⟨a, c, rfl⟩ := ownL_shape h
  have hr := ownL_reads h hm
  obtain ⟨a2, c2, e, hc, _, _⟩ := hr
  cases e
  refine ⟨a, c, rfl, hc, hm, fun j xs hj => ?_⟩
  obtain ⟨g, u, ha, hg, hcell, hrd⟩ := ownL_at h hj
  have hn := hne j xs hj
  obtain ⟨ug, uc, hu⟩ := rdT_shape hrd hn
  subst hu
  obtain ⟨y, yc, e2, hyc, _, hx⟩ := hrd.reads
  cases e2
  refine ⟨g, 0, ug, 0, uc, ha, hg, by rw [Nat.zero_add]; exact hcell, hyc, fun i x hi => ?_⟩
  obtain ⟨b, o, e3, hb, hc3⟩ := hx i x hi
  cases e3
  exact ⟨hb, hc3⟩
theorem ret_RB2 {R : Int × Bool} {a : Int} {b : Bool} (h : R = (a, b)) : Ending.returned (.tuple #[.int .i64 a, .bool b]) = .returned (.tuple #[.int .i64 R.1, .bool R.2]) := by rw [h]
/-- what greatestOf answers -/
def greatR (zs : List Int) : Int × Bool := if worstZ zs < 0 then (0, false) else (worstZ zs, true)
theorem great_no (v : Value) (w : World) : Calls Tryd.prog 16 #[v, .bool false] w fun e w' => e = .returned (.tuple #[.int .i64 0, .bool false]) ∧ w' = w := by
  go_enter Tryd.func16, Tryd.ntmps16
  go_wp2_with fail
  go_ret2
  exact ⟨rfl, rfl⟩
set_option maxHeartbeats 800000 in
set_option maxRecDepth 20000 in
theorem great_any (v : Value) (zs : List Int) (w : World) (hv : ReadsI w v zs) (hzs0 : 0 < zs.length) (hzs1 : zs.length ≤ 1048576) (hlo : ∀ x, x ∈ zs → -1 ≤ x) :
    Calls Tryd.prog 16 #[v, .bool true] w fun e w' => e = .returned (.tuple #[.int .i64 (greatR zs).1, .bool (greatR zs).2]) ∧ w' = w := by
  obtain ⟨z, hz0⟩ := get_some hzs0
  have HZ0 := Lib.hid hz0
  have HLO := Lib.hid hlo
  have HCO := Lib.hid (fun w hu => contains_any v zs (-1) w hu)
  have HMX := Lib.hid (fun w hu => most_any v zs z w hu HZ0.out)
  have HR := Lib.hid hv
  clear hz0 hlo hv
  go_enter Tryd.func16, Tryd.ntmps16
  go_wp2_with fail
  refine (HCO.out _ HR.out).mono ?_
  rintro e w2 ⟨rfl, rfl⟩
  by_cases hm : 0 ≤ firstI zs (-1)
  · have HG := Lib.hid (show greatR zs = (0, false) by
      unfold greatR
      rw [worstZ_neg ((firstFrom_mem (-1) zs 0).1 hm) (by omega), if_pos (by omega)])
    have hd : decide (0 ≤ firstI zs (-1)) = true := by simpa using hm
    rw [hd]
    clear hm hd
    go_wp2_with fail
    go_ret2
    exact ⟨ret_RB2 HG.out, rfl⟩
  · have hall : ∀ x, x ∈ zs → 0 ≤ x := fun x hx => by
      have h1 := HLO.out x hx
      by_cases h2 : x = -1
      · subst h2
        exact absurd ((firstFrom_mem (-1) zs 0).2 hx) hm
      · omega
    have HG := Lib.hid (show greatR zs = (topTo z zs zs.length, true) by
      unfold greatR
      rw [topTo_worst HZ0.out hall, if_neg]
      rw [worstZ_all hall]
      have := foldl_ge zs 0
      omega)
    have hd : decide (0 ≤ firstI zs (-1)) = false := by simpa using hm
    rw [hd]
    clear hall hm hd
    go_wp2_with fail
    refine (HMX.out _ HR.out).mono ?_
    rintro e w3 ⟨rfl, rfl⟩
    go_wp2_with fail
    go_ret2
    exact ⟨ret_RB2 HG.out, rfl⟩
theorem grow_zero (w : World) : Calls Tryd.prog 29 #[.slice none 0 0, .int .i64 0] w fun e w' => e = .returned (.slice none 0 0) ∧ w' = w := by
  go_enter Tryd.func29, Tryd.ntmps29
  go_wp2_with fail
  go_ret
  exact ⟨rfl, rfl⟩
theorem concat_none (y : Option Addr) (c : Nat) (w : World) : Calls Tryd.prog 17 #[.slice y 0 c] w fun e w' => e = .returned (.slice none 0 0) ∧ w' = w := by
  have HG := Lib.hid (fun w => grow_zero w)
  go_enter Tryd.func17, Tryd.ntmps17
  go_wp2_with fail
  go_loop [3, 11] (fun s i => s = .int .i64 0 ∧ i = .int .i64 0) (fun _ i => (intOf i).toNat)
  case atStart => exact ⟨rfl, rfl⟩
  case round =>
    obtain ⟨rfl, rfl⟩ := hrel
    go_wp2_with fail
    refine (HG.out _).mono ?_
    rintro e w2 ⟨rfl, rfl⟩
    go_wp2_with fail
    go_loop [6, 27] (fun s i => s = .slice none 0 0 ∧ i = .int .i64 0) (fun _ i => (intOf i).toNat)
    case atStart => exact ⟨rfl, rfl⟩
    case round =>
      obtain ⟨rfl, rfl⟩ := hrel
      go_wp2_with fail
      go_ret
      exact ⟨rfl, rfl⟩
def WsRel (xss : List (List Int)) (m i : Value) : Prop := ∃ p : Nat, p ≤ xss.length ∧ i = .int .i64 p ∧ m = .int .i64 ((catL xss p).foldl max 0) ∧ ∀ x, x ∈ catL xss p → 0 ≤ x
def WsRelI (xss : List (List Int)) (p : Nat) (xs : List Int) (m i : Value) : Prop := ∃ q : Nat, q ≤ xs.length ∧ i = .int .i64 q ∧ m = .int .i64 ((catL xss p ++ xs.take q).foldl max 0) ∧ ∀ x, x ∈ catL xss p ++ xs.take q → 0 ≤ x
theorem worst_same (a b : Int) (w : World) :
    Calls Tryd.prog 20 #[.int .i64 a, .int .i64 b] w fun e w' => e = .returned (.int .i64 (max a b)) ∧ w' = w :=
  (l1Most_any a b w).mono fun _ _ h => ⟨h.1, h.2.symm⟩
set_option maxHeartbeats 1600000 in
set_option maxRecDepth 20000 in
theorem l4Worst_any (v : Value) (xss : List (List Int)) (w : World) (hv : ReadsL w v xss) :
    Calls Tryd.prog 12 #[v] w fun e w' => e = .returned (.int .i64 (worstZ (catL xss xss.length))) ∧ w' = w := by
  have HV := Lib.hid hv
  have HMO := Lib.hid (fun a b w => worst_same a b w)
  obtain ⟨va, vc, rfl, hvc, hvm, _⟩ := hv
  unfold maxLen at hvm
  go_enter Tryd.func12, Tryd.ntmps12
  go_wp2_with fail
  go_loop [2, 3, 4] (fun r m i => r = .int .i64 0 ∧ WsRel xss m i) (fun _ _ i => xss.length - (intOf i).toNat)
  case atStart => exact ⟨rfl, 0, Nat.zero_le _, rfl, rfl, fun x hx => by simp [catL] at hx⟩
  case round =>
    obtain ⟨rfl, p, hp, rfl, rfl, hpos⟩ := hrel
    have HP := Lib.hid hpos
    clear hpos
    by_cases hlt : p < xss.length
    · obtain ⟨xs, hxs⟩ := get_some hlt
      obtain ⟨b, o, a2, c2, hva, hbl, hcx, hrx⟩ := lists_at HV.out hxs
      subst hva
      have HXS := Lib.hid hxs
      have HRX := Lib.hid hrx
      have hrl : xs.length ≤ maxLen := by obtain ⟨_, _, _, _, h, _⟩ := hrx; exact h
      unfold maxLen at hrl
      have HST := Lib.hid (show catL xss p ++ xs.take 0 = catL xss p by simp)
      generalize hfm : (catL xss p).foldl max 0 = fm at *
      have HFM := Lib.hid hfm
      have hp0 : 0 ≤ (p : Int) := by omega
      have hp1 : (p : Int) < xss.length := by omega
      clear hxs hrx hfm
      go_wp2_with fail
      go_loop [2, 3, 5] (fun r m j => r = .int .i64 0 ∧ WsRelI xss p xs m j) (fun _ _ j => xs.length - (intOf j).toNat)
      case atStart => exact ⟨rfl, 0, Nat.zero_le _, rfl, by rw [HST.out, HFM.out], by rw [HST.out]; exact HP.out⟩
      case round =>
        obtain ⟨rfl, q, hq, rfl, rfl, hpos⟩ := hrel
        have HQ := Lib.hid hpos
        clear hpos
        by_cases hlt2 : q < xs.length
        · obtain ⟨x, hx⟩ := get_some hlt2
          obtain ⟨y, yc, e, _, _, hcell⟩ := HRX.out
          cases e
          obtain ⟨b2, o2, e2, hb2, hc2⟩ := hcell q x hx
          subst e2
          have HX := Lib.hid hx
          have HTK := Lib.hid (show catL xss p ++ xs.take (q + 1) = (catL xss p ++ xs.take q) ++ [x] by
            obtain ⟨hq2, rfl⟩ := List.getElem?_eq_some_iff.1 hx
            rw [List.take_succ_eq_append_getElem hq2, List.append_assoc])
          have hq0 : 0 ≤ (q : Int) := by omega
          have hq1 : (q : Int) < xs.length := by omega
          generalize hfq : (catL xss p ++ xs.take q).foldl max 0 = fq at *
          have HFQ := Lib.hid hfq
          clear hx hcell hfq
          by_cases hneg : x < 0
          · have HW := Lib.hid (worstZ_neg (zs := catL xss xss.length) (mem_cat HXS.out (List.mem_of_getElem? HX.out) hlt) hneg)
            go_wp2_with fail
            go_ret
            exact ⟨ret_int HW.out.symm, rfl⟩
          · go_wp2_with fail
            refine (HMO.out _ _ _).mono ?_
            rintro e w2 ⟨rfl, rfl⟩
            go_wp2_with fail
            go_round
            case rel =>
              refine ⟨rfl, q + 1, by omega, by go_num, ?_, fun y hy => ?_⟩
              · rw [HTK.out, List.foldl_append, HFQ.out]
                rfl
              · rw [HTK.out, List.mem_append] at hy
                rcases hy with hy | hy
                · exact HQ.out y hy
                · simp at hy
                  omega
            case measure => simp [intOf]; omega
        · have hqe : q = xs.length := by omega
          subst hqe
          rw [List.take_length] at *
          have HCN := Lib.hid (show catL xss (p + 1) = catL xss p ++ xs by show catL xss p ++ xss.getD p [] = _; simp [List.getD, HXS.out])
          go_wp2_with fail
          go_round
          case rel => exact ⟨rfl, p + 1, by omega, by go_num, by rw [HCN.out], by rw [HCN.out]; exact HQ.out⟩
          case measure => simp [intOf]; omega
    · have hpe : p = xss.length := by omega
      subst hpe
      have HW := Lib.hid (worstZ_all HP.out)
      go_wp2_with fail
      go_ret
      exact ⟨ret_int HW.out.symm, rfl⟩
end Go.Proofs.YtiokgnabiidlbaaDoor
