/-
  What is proved: impl.PlaceAt, impl.StepCount, impl.GapOf and the model's answer alike. Conditions: those of each contract.
-/
import Derived.Test.YtijhbhjapcfddaaFn1
namespace Go.Proofs.Ytijhbhjapcfddaa
open Go.RowKit

theorem ret_R {R : Int × Bool} {a : Int} {b : Bool} (h : R = (a, b)) : Ending.returned (.tuple #[.int .i64 a, .bool b]) = .returned (.tuple #[.int .i64 R.1, .bool R.2]) := by rw [h]
def atI (xs : List Int) (t : Int) : Int := xs.getD (min t ((xs.length : Int) - 1)).toNat 0
theorem l2At_any (v : Value) (xs : List Int) (t : Int) (w : World) (hv : ReadsI w v xs) (hl : 1 ≤ xs.length) (ht : 0 ≤ t) :
    Calls Try.prog 128 #[v, .int .i64 t] w fun e w' => e = .returned (.int .i64 (atI xs t)) ∧ w = w' := by
  have hle := fun w => l1Least_any t ((xs.length : Int) - 1) w
  obtain ⟨y, c, rfl, hc, hm, hx⟩ := hv
  unfold maxLen at hm
  obtain ⟨k, hk⟩ : ∃ k : Nat, min t ((xs.length : Int) - 1) = (k : Int) := ⟨(min t ((xs.length : Int) - 1)).toNat, by omega⟩
  have hkl : k < xs.length := by omega
  obtain ⟨x, hxk⟩ := get_some hkl
  obtain ⟨b, o, rfl, hb, hcell⟩ := hx k x hxk
  have hat : atI xs t = x := by
    unfold atI
    rw [hk]
    simp [List.getD, hxk]
  rw [hk] at hle
  have HA := Lib.hid hat
  have HL := Lib.hid hle
  clear hx hxk hk hat hle
  go_enter Try.func128, Try.ntmps128
  go_wp2_with (go_at_call 125; refine (HL.out _).mono ?_; rintro e w' ⟨rfl, rfl⟩)
  go_ret
  exact ⟨ret_int HA.out.symm, rfl⟩
theorem placeAt_any (v : Value) (xs : List Int) (t : Int) (w : World) (hv : ReadsI w v xs) (hl : 1 ≤ xs.length) (ht : 0 ≤ t) :
    Calls Try.prog 131 #[v, .int .i64 t] w fun e w' => e = .returned (.int .i64 (atI xs t)) ∧ w = w' := by
  obtain ⟨y, c, rfl, hc, hm, hx⟩ := hv
  unfold maxLen at hm
  obtain ⟨k, hk⟩ : ∃ k : Nat, min t ((xs.length : Int) - 1) = (k : Int) := ⟨(min t ((xs.length : Int) - 1)).toNat, by omega⟩
  have hkl : k < xs.length := by omega
  obtain ⟨x, hxk⟩ := get_some hkl
  obtain ⟨b, o, rfl, hb, hcell⟩ := hx k x hxk
  have hat : atI xs t = x := by
    unfold atI
    rw [hk]
    simp [List.getD, hxk]
  have HA := Lib.hid hat
  have HK := Lib.hid hk
  clear hx hxk hat
  by_cases h : t ≤ (xs.length : Int) - 1
  · have hkt : t = (k : Int) := by omega
    subst hkt
    clear hk
    go_enter Try.func131, Try.ntmps131
    go_wp2
    go_ret
    exact ⟨ret_int HA.out.symm, rfl⟩
  · have hkt : k = xs.length - 1 := by omega
    subst hkt
    clear hk
    go_enter Try.func131, Try.ntmps131
    go_wp2
    go_ret
    exact ⟨ret_int HA.out.symm, rfl⟩
end Go.Proofs.Ytijhbhjapcfddaa
