/-
  What is proved: whether a list of numbers has one: the model's word, and what slices.Contains tells. Conditions: lists that read as lists of numbers.
-/
import Derived.Test.YtekahkeddpngpaaFn5
import Derived.Test.YtekahkeddpngpaaFn6
namespace Go.Proofs.Ytekahkeddpngpaa
open Go.RowKit
set_option linter.unusedVariables false
set_option linter.unusedSimpArgs false

theorem has_firstX {xs : List Int} {p : Int} : decide (0 ≤ firstI xs p) = xs.contains p := by
  have h1 := firstI_range xs p
  have h2 := firstI_neg xs p
  by_cases h : p ∈ xs
  · have h3 : firstI xs p ≠ -1 := fun e => (h2.1 e) h
    rw [decide_eq_true (by omega)]
    simp [h]
  · have h3 := h2.2 h
    rw [decide_eq_false (by omega)]
    simp [h]
set_option maxHeartbeats 400000 in
theorem l1Has_any (v : Value) (xs : List Int) (p : Int) (w : World) (hv : ReadsI w v xs) :
    Calls Try.prog 85 #[v, .int .i64 p] w fun e w' => e = .returned (.bool (xs.contains p)) ∧ w' = w := by
  obtain ⟨y, c, rfl, hc, hm, hx⟩ := hv
  unfold maxLen at hm
  have HL := Lib.hid hx
  clear hx
  go_enter Try.func85, Try.ntmps85
  go_wp2
  go_loop [4, 5] (fun r i => r = .bool false ∧ ∃ k : Nat, k ≤ xs.length ∧ i = .int .i64 k ∧ ∀ (j : Nat) x, j < k → xs[j]? = some x → x ≠ p) (fun _ i => xs.length - (intOf i).toNat)
  case atStart => exact ⟨rfl, 0, Nat.zero_le _, rfl, fun j x hj => by omega⟩
  case round =>
    obtain ⟨rfl, k, hk, rfl, hpre⟩ := hrel
    have HP := Lib.hid hpre
    clear hpre
    by_cases hlt : k < xs.length
    · obtain ⟨x, hxk⟩ := get_some hlt
      obtain ⟨b, o, rfl, hbl, hcell⟩ := HL.out k x hxk
      have HK := Lib.hid hxk
      have hi0 : 0 ≤ (k : Int) := by omega
      have hi1 : (k : Int) < xs.length := by omega
      clear hxk
      by_cases hp : x = p
      · have hpb : (x == p) = true := by rw [hp]; simp
        have HR := Lib.hid (show xs.contains p = true by rw [← hp]; simpa using List.mem_of_getElem? HK.out)
        clear hp
        go_wp2_with fail
        go_ret
        exact ⟨ret_bool (by have h := HR.out; simp at h; simp [h]), rfl⟩
      · have hpb : (x == p) = false := by rw [beq_eq_false_iff_ne]; exact hp
        have HPX := Lib.hid hp
        clear hp
        go_wp2_with fail
        go_round
        case rel =>
          refine ⟨rfl, k + 1, by omega, by go_num, fun j z hj hz => ?_⟩
          by_cases e : j = k
          · subst e
            rw [HK.out] at hz
            cases hz
            exact HPX.out
          · exact HP.out j z (by omega) hz
        case measure => simp [intOf]; omega
    · have HR := Lib.hid (show xs.contains p = false by
        cases hc : xs.contains p
        · rfl
        · have hm : p ∈ xs := by simpa using hc
          obtain ⟨j, hj⟩ := List.getElem?_of_mem hm
          exact absurd rfl (HP.out j p (by have := (List.getElem?_eq_some_iff.1 hj).1; omega) hj))
      go_wp2_with fail
      go_ret
      exact ⟨ret_bool (by have h := HR.out; simp at h; simp [h]), rfl⟩
end Go.Proofs.Ytekahkeddpngpaa
