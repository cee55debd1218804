/-
  What is proved: the contracts of the laws' helpers rBig, rInts, rHas. Conditions: slices that read as lists of numbers.
-/
import Derived.Test.YtiokgnabiidlbaaInt
namespace Go.Proofs.Ytiokgnabiidlbaa
open Go.RowKit
set_option linter.unusedVariables false
set_option linter.unusedSimpArgs false

theorem rBig_no (a : Option Addr) (k c : Nat) (w : World) (h : k ≤ 65536) :
    Calls Try.prog 5 #[.slice a k c] w fun e w' => e = .returned (.bool false) ∧ w = w' := by
  go_enter Try.func5, Try.ntmps5
  go_wp2
  go_ret
  refine ⟨?_, rfl⟩
  congr 2
  simp
  omega
theorem rBig_yes (a : Option Addr) (k c : Nat) (w : World) (h : 65536 < k) :
    Calls Try.prog 5 #[.slice a k c] w fun e w' => e = .returned (.bool true) ∧ w = w' := by
  go_enter Try.func5, Try.ntmps5
  go_wp2
  go_ret
  refine ⟨?_, rfl⟩
  congr 2
  simp
  omega
def RiRel (n : Nat) (w : World) (i : Value) (wr : World) : Prop := ∃ k m : Nat, k ≤ n ∧ i = .int .i64 k ∧ wr = w.drewN m
set_option maxHeartbeats 400000 in
theorem rInts_yes (v1 v2 : Value) (xs : List Int) (w : World) (h1 : ReadsI w v1 xs) (h2 : ReadsI w v2 xs) :
    Calls Try.prog 9 #[v1, v2] w fun e w' => e = .returned (.bool true) ∧ Below w.heap.size w w' := by
  obtain ⟨a1, c1, rfl, hc1, hm1, hx1⟩ := h1
  obtain ⟨a2, c2, rfl, hc2, _, hx2⟩ := h2
  have H1 := Lib.hid hx1
  have H2 := Lib.hid hx2
  clear hx1 hx2
  unfold maxLen at hm1
  go_enter Try.func9, Try.ntmps9
  go_wp2
  go_loopw [4, 5] (fun r i wr => r = .bool false ∧ RiRel xs.length w i wr) (fun _ i _ => xs.length - (intOf i).toNat)
  case atStart => exact ⟨rfl, 0, 0, Nat.zero_le _, rfl, rfl⟩
  case round =>
    obtain ⟨rfl, k, m, hk, rfl, rfl⟩ := hrel
    by_cases hlt : k < xs.length
    · obtain ⟨x, hxk⟩ := get_some hlt
      obtain ⟨b1, o1, rfl, _, hcell1⟩ := H1.out k x hxk
      obtain ⟨b2, o2, rfl, _, hcell2⟩ := H2.out k x hxk
      have hi0 : 0 ≤ (k : Int) := by omega
      have hi1 : (k : Int) < xs.length := by omega
      clear hxk
      go_wp2
      go_quiet (fail)
      go_wp2
      go_roundw
      case rel => exact ⟨rfl, k + 1, m + nq, by omega, by go_num, rfl⟩
      case measure => simp [intOf]; omega
    · go_wp2
      go_ret
      exact ⟨rfl, below_drewN w m⟩
end Go.Proofs.Ytiokgnabiidlbaa
