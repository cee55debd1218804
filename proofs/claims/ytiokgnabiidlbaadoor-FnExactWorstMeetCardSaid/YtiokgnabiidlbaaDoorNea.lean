/-
  What is proved: plain facts on the first time at which walks are at the same place, and the contract of the model's search for it. Conditions: walks of 61 places.
-/
import Derived.Test.YtiokgnabiidlbaaDoorAre
import Derived.Test.YtiokgnabiidlbaaDoorFn1
import Derived.Deep.QuietTactic
import Derived.BigQuiet
namespace Go.Proofs.YtiokgnabiidlbaaDoor
open Go.RowKit
set_option linter.unusedVariables false
set_option linter.unusedSimpArgs false

/-- the first number below m of which P is true, or -1 -/
def firstT (P : Nat → Bool) : Nat → Int
  | 0 => -1
  | m + 1 => if 0 ≤ firstT P m then firstT P m else if P m = true then m else -1
theorem firstT_none {P : Nat → Bool} : ∀ {m : Nat}, (∀ t, t < m → P t = false) → firstT P m = -1
  | 0, _ => rfl
  | m + 1, h => by
    unfold firstT
    rw [firstT_none (fun t ht => h t (by omega)), if_neg (by omega), h m (by omega), if_neg (by simp)]
theorem firstT_hit {P : Nat → Bool} {k : Nat} (h : ∀ t, t < k → P t = false) (hk : P k = true) : ∀ {m : Nat}, k < m → firstT P m = k
  | 0, hm => by omega
  | m + 1, hm => by
    unfold firstT
    by_cases e : k = m
    · subst e
      rw [firstT_none h, if_neg (by omega), if_pos hk]
    · rw [firstT_hit h hk (m := m) (by omega), if_pos (by omega)]
theorem firstT_pos {P : Nat → Bool} {t : Nat} (h : P t = true) : ∀ {m : Nat}, t < m → 0 ≤ firstT P m
  | 0, hm => by omega
  | m + 1, hm => by
    unfold firstT
    by_cases e : t = m
    · subst e
      split
      · assumption
      · first | omega | (rw [if_pos h]; omega)
    · rw [if_pos (firstT_pos h (m := m) (by omega))]
      exact firstT_pos h (m := m) (by omega)
theorem firstT_range (P : Nat → Bool) : ∀ m : Nat, firstT P m = -1 ∨ (∃ k : Nat, k < m ∧ firstT P m = k ∧ P k = true ∧ ∀ t, t < k → P t = false)
  | 0 => .inl rfl
  | m + 1 => by
    rcases firstT_range P m with h | ⟨k, hk, h, hp, ho⟩
    · cases hm : P m
      · left
        unfold firstT
        rw [h, if_neg (by omega), hm, if_neg (by simp)]
      · right
        refine ⟨m, by omega, ?_, hm, fun t ht => ?_⟩
        · unfold firstT
          rw [h, if_neg (by omega), if_pos hm]
        · cases ht2 : P t
          · rfl
          · exfalso
            have := firstT_pos ht2 ht
            omega
    · right
      refine ⟨k, by omega, ?_, hp, ho⟩
      unfold firstT
      rw [h, if_pos (by omega)]
/-- whether the first i walks are at the same place as the first at the time t -/
def sameTo (wss : List (List Int)) (t i : Nat) : Bool := (wss.take i).all fun xs => decide (xs.getD t 0 = (wss.getD 0 []).getD t 0)
def sameB (wss : List (List Int)) (t : Nat) : Bool := sameTo wss t wss.length
theorem sameTo_next {wss : List (List Int)} {t i : Nat} {xs ys : List Int} {a b : Int} (h : wss[i]? = some xs) (h0 : wss[0]? = some ys) (hx : xs[t]? = some a) (hy : ys[t]? = some b) : sameTo wss t (i + 1) = (sameTo wss t i && decide (a = b)) := by
  obtain ⟨hi, rfl⟩ := List.getElem?_eq_some_iff.1 h
  unfold sameTo
  rw [List.take_succ_eq_append_getElem hi, List.all_append]
  simp [List.getD, h0, hx, hy]
theorem sameTo_one {wss : List (List Int)} {t : Nat} {ys : List Int} {b : Int} (h0 : wss[0]? = some ys) (hy : ys[t]? = some b) : sameTo wss t 1 = true := by
  rw [sameTo_next h0 h0 hy hy]
  simp [sameTo]
theorem sameTo_all {wss : List (List Int)} {t i : Nat} (h : sameTo wss t i = false) (hi : i ≤ wss.length) : sameB wss t = false := by
  unfold sameB
  unfold sameTo at *
  rw [List.all_eq_false] at *
  obtain ⟨x, hx, h2⟩ := h
  exact ⟨x, by rw [List.take_length]; exact List.mem_of_mem_take hx, h2⟩
/-- the time at which walks meet, or -1 -/
def meetT (wss : List (List Int)) : Int := firstT (sameB wss) 61
def MtRel (wss : List (List Int)) (w : World) (i : Value) (wr : World) : Prop := ∃ t m : Nat, t ≤ 61 ∧ i = .int .i64 t ∧ wr = w.drewN m ∧ ∀ j, j < t → sameB wss j = false
def MiRel (wss : List (List Int)) (t : Nat) (w : World) (s i : Value) (wr : World) : Prop := ∃ k m : Nat, 1 ≤ k ∧ k ≤ wss.length ∧ i = .int .i64 k ∧ s = .bool (sameTo wss t k) ∧ wr = w.drewN m
theorem walks_cell {w : World} {a : Option Addr} {l c : Nat} {wss : List (List Int)} (h : ReadsL w (.slice a l c) wss) {i t : Nat} {xs : List Int} {x : Int} (hi : wss[i]? = some xs) (ht : xs[t]? = some x) :
    ∃ b o b2 o2 c2, a = some ⟨b, o, none⟩ ∧ w.cell? ⟨b, o + i, none⟩ = some (.slice (some ⟨b2, o2, none⟩) xs.length c2) ∧ xs.length ≤ c2 ∧ w.cell? ⟨b2, o2 + t, none⟩ = some (.int .i64 x) := by
  obtain ⟨a', c', e, hc, hm, hx⟩ := h
  cases e
  obtain ⟨b, o, u, ha, hb, hu, hr⟩ := hx i xs hi
  obtain ⟨a2, c2, rfl, hc2, _, hx2⟩ := hr
  obtain ⟨b2, o2, ha2, _, hx3⟩ := hx2 t x ht
  subst ha2
  exact ⟨b, o, b2, o2, c2, ha, hu, hc2, hx3⟩
set_option maxHeartbeats 1600000 in
set_option maxRecDepth 20000 in
theorem l4Meet_any (v : Value) (wss : List (List Int)) (w : World) (hv : ReadsL w v wss) (hne : 1 ≤ wss.length) (hw : ∀ (j : Nat) xs, wss[j]? = some xs → xs.length = 61) :
    Calls Tryd.prog 23 #[v] w fun e w' => e = .returned (.int .i64 (meetT wss)) ∧ ∃ m, w' = w.drewN m := by
  have HV := Lib.hid hv
  have HW := Lib.hid hw
  obtain ⟨va, vc, rfl, hvc, hvm, _⟩ := hv
  unfold maxLen at hvm
  obtain ⟨ys, hys⟩ := get_some (xs := wss) (k := 0) (by omega)
  have HYS := Lib.hid hys
  have hyl := hw 0 ys hys
  have HYL := Lib.hid hyl
  clear hw hys hyl
  go_enter Tryd.func23, Tryd.ntmps23
  go_wp2
  go_loopw [2, 3] (fun r i wr => r = .int .i64 0 ∧ MtRel wss w i wr) (fun _ i _ => 61 - (intOf i).toNat)
  case atStart => exact ⟨rfl, 0, 0, Nat.zero_le _, rfl, rfl, fun j hj => by omega⟩
  case round =>
    obtain ⟨rfl, t, m, ht, rfl, rfl, hpre⟩ := hrel
    have HP := Lib.hid hpre
    clear hpre
    by_cases hlt : t < 61
    · obtain ⟨y, hy⟩ := get_some (xs := ys) (k := t) (by rw [HYL.out]; exact hlt)
      obtain ⟨b, o, b0, o0, c0, hva, hcb, hcl, hcy⟩ := walks_cell HV.out HYS.out hy
      subst hva
      have HY := Lib.hid hy
      rw [HYL.out] at hcb hcl
      have hcb : w.cell? ⟨b, o, none⟩ = some (.slice (some ⟨b0, o0, none⟩) 61 c0) := hcb
      have ht60 : (t : Int) ≤ 60 := by omega
      have ht0 : 0 ≤ (t : Int) := by omega
      have ht61 : (t : Int) < 61 := by omega
      clear hy
      go_wp2_with fail
      go_loopw [4, 5] (fun s i wr => MiRel wss t w s i wr) (fun _ i _ => wss.length - (intOf i).toNat)
      case atStart => exact ⟨1, m, Nat.le_refl _, hne, rfl, by rw [sameTo_one HYS.out HY.out], rfl⟩
      case round =>
        obtain ⟨i, m2, hi1, hi, rfl, rfl, rfl⟩ := hrel
        by_cases hlt2 : i < wss.length
        · obtain ⟨xs, hxs⟩ := get_some hlt2
          have hxl := HW.out i xs hxs
          obtain ⟨x, hx⟩ := get_some (xs := xs) (k := t) (by rw [hxl]; exact hlt)
          obtain ⟨b', o', b1, o1, c1, hva, hci, hcl1, hcx⟩ := walks_cell HV.out hxs hx
          cases hva
          rw [hxl] at hci hcl1
          have HN := Lib.hid (sameTo_next hxs HYS.out hx HY.out)
          have hi3 : (i : Int) < (wss.length : Int) := by omega
          have hi0 : 0 ≤ (i : Int) := by omega
          have hi4 : (0 : Int) < (wss.length : Int) := by omega
          have hi5 : 0 < wss.length := by omega
          have hi6 : wss ≠ [] := fun h => by rw [h] at hi5; simp at hi5
          have hi7 : (1 : Int) ≤ (wss.length : Int) := by omega
          clear hxs hxl hx
          cases hs : sameTo wss t i
          · rw [hs] at HN
            clear hs
            go_wp2_with fail
            go_quiet (fail)
            go_wp2_with fail
            go_roundw
            case rel => exact ⟨i + 1, m2 + nq, by omega, by omega, by go_num, by rw [HN.out]; rfl, by simp⟩
            case measure => simp [intOf]; omega
          · rw [hs] at HN
            clear hs
            by_cases hxy : x = y
            · subst hxy
              go_wp2_with fail
              go_quiet (fail)
              go_wp2_with fail
              go_roundw
              case rel => exact ⟨i + 1, m2 + nq, by omega, by omega, by go_num, by rw [HN.out]; simp, by simp⟩
              case measure => simp [intOf]; omega
            · have hb1 : (x == y) = false := by simp [hxy]
              have hb2 : decide (x = y) = false := by simp [hxy]
              have HB2 := Lib.hid hb2
              go_wp2_with fail
              go_quiet (fail)
              go_wp2_with fail
              go_roundw
              case rel => exact ⟨i + 1, m2 + nq, by omega, by omega, by go_num, by rw [HN.out, HB2.out]; rfl, by simp⟩
              case measure => simp [intOf]; omega
        · have hie : i = wss.length := by omega
          subst hie
          cases hs : sameTo wss t wss.length
          · have HS := Lib.hid (show sameB wss t = false from hs)
            clear hs
            go_wp2_with fail
            go_roundw
            case rel =>
              refine ⟨rfl, t + 1, m2, by omega, by go_num, rfl, fun j hj => ?_⟩
              by_cases e : j = t
              · subst e
                exact HS.out
              · exact HP.out j (by omega)
            case measure => simp [intOf]; omega
          · have HS := Lib.hid (show meetT wss = t from firstT_hit HP.out hs hlt)
            clear hs
            go_wp2_with fail
            go_ret
            exact ⟨ret_int HS.out.symm, m2, rfl⟩
    · have hte : t = 61 := by omega
      subst hte
      have HS := Lib.hid (show meetT wss = -1 from firstT_none HP.out)
      go_wp2_with fail
      go_ret
      exact ⟨ret_int HS.out.symm, m, rfl⟩
end Go.Proofs.YtiokgnabiidlbaaDoor
